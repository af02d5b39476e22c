/- impl.every at []bool: every$1, slices.IndexFunc, slices.ContainsFunc. impl.haveShape at int64; impl.ValidCosts. SupportOf: contract at valid arguments. Contract of impl.chosen. Contract of impl.Model.place. -/
import Derived.Test.YtcgbepmhfimbjaaJqa
import Derived.Laws.EntriesVeiled
import Derived.Test.YtcgbepmhfimbjaaSupB
import Derived.Deep.RegionLaw
import Derived.Test.YtcgbepmhfimbjaaRsC
import Derived.Test.YtcgbepmhfimbjaaJmD
namespace Go.Proofs.Ytcgbepmhfimbjaa
open Go.RowKit

set_option maxHeartbeats 400000 in
theorem every1B_any (q : Bool) (N : Nat) (caps : Array Value) (eg : ∀ args w, (callFunc N args).run Try.prog w = .ok (.enter N args) w) (bh : Nat) (v : Value) (w : World) (hc : w.cell? ⟨bh, 0, none⟩ = some (.func (.func N) #[] caps))
    (KC : Hid (∀ W : World, Sees w W → Calls Try.prog N (#[v] ++ caps) W fun e w' => e = .returned (.bool q) ∧ Below W.heap.size W w')) :
    Calls Try.prog 230 #[v, .pointer (some ⟨bh, 0, none⟩)] w fun e w' => e = .returned (.bool (!q)) ∧ Below w.heap.size w w' := by
  cases q
  all_goals
    go_enter Try.func230, Try.ntmps230
    go_wp2_with (go_at_fn N; refine (KC.out _ (Sees.refl _)).mono ?_; rintro e w1 ⟨rfl, hb⟩)
    go_ret
    exact ⟨rfl, by assumption⟩

set_option maxHeartbeats 1000000 in
theorem indexB_any (G : List Bool → Bool) (bh : Nat) (xs : List (List Bool)) (hm : xs.length ≤ 9223372036854775807) (A : Option Addr) (C : Nat) (w : World) (hl : BB 0 w xs A)
    (KC : Hid (∀ (W : World) (x : List Bool) (B : Option Addr) (D : Nat), Sees w W → x ∈ xs → BoolsL 0 W x B → Calls Try.prog 230 #[.slice B x.length D, .pointer (some ⟨bh, 0, none⟩)] W fun e w' => e = .returned (.bool (!G x)) ∧ Below W.heap.size W w')) :
    Calls Try.prog 238 #[.slice A xs.length C, .func (.func 230) #[] #[.pointer (some ⟨bh, 0, none⟩)]] w fun e w' => (∃ i : Int, e = .returned (.int .i64 i) ∧ decide (0 ≤ i) = !(xs.all G)) ∧ Below w.heap.size w w' := by
  have HD : Hid (xs.all G = allG G xs 0) := allG_zero G xs
  have HH := Lib.hid hl
  clear hl
  go_enter Try.func238, Try.ntmps238
  go_wp2_with fail
  go_loopw [8] (fun i wr => ∃ j : Nat, j ≤ xs.length ∧ i = .int .i64 j ∧ Hid (xs.all G = allG G xs j) ∧ Hid (Below w.heap.size w wr)) (fun i _ => xs.length - (intOf i).toNat)
  case atStart => exact ⟨0, Nat.zero_le _, rfl, HD, Below.refl _ _⟩
  case round =>
    obtain ⟨j, hj, rfl, hq, hw⟩ := hrel
    clear HD
    by_cases hjl : j < xs.length
    · obtain ⟨b, o, _, rfl, hat⟩ := HH.out (by rintro rfl; simp at hjl)
      obtain ⟨B, D, c0', hQ⟩ := hat j xs[j] (List.getElem?_eq_getElem hjl)
      have hst0 := allG_step G xs hjl
      have hin := List.getElem_mem hjl
      obtain ⟨x, hx⟩ : ∃ x, x = xs[j] := ⟨_, rfl⟩
      rw [← hx] at c0' hst0 hin hQ
      have c0 := kc hw.out c0'
      have KX := Lib.hid (KC.out wr x B D hw.out hin (bools_ok.below hQ hw.out))
      have HA := Lib.hid hat
      have hst : Hid (xs.all G = (G x && allG G xs (j + 1))) := hq.out.trans hst0
      obtain ⟨q, hqe⟩ : ∃ q : Bool, q = G x := ⟨_, rfl⟩
      rw [← hqe] at KX hst
      clear hat hst0 c0' hx hin hQ hqe hq
      have hj0 : (0 : Int) ≤ (j : Int) := Int.natCast_nonneg _
      have hj1 : (j : Int) < (xs.length : Int) := by omega
      cases q
      · have hq2 : Hid (decide ((0 : Int) ≤ (j : Int)) = !(xs.all G)) := by show _ = _; rw [hst.out, decide_eq_true hj0]; rfl
        go_wp2_with fail
        refine KX.out.mono ?_
        rintro e w1 ⟨rfl, hb1⟩
        have hw2 := Sees.below hw.out hb1
        clear hb1 c0
        go_wp2_with fail
        go_ret
        exact ⟨⟨_, rfl, hq2.out⟩, hw2⟩
      · have hq2 : Hid (xs.all G = allG G xs (j + 1)) := by show _ = _; rw [hst.out]; rfl
        go_wp2_with fail
        refine KX.out.mono ?_
        rintro e w1 ⟨rfl, hb1⟩
        have hw2 := Lib.hid (Sees.below hw.out hb1)
        clear hb1 c0
        go_wp2_with fail
        go_roundw
        case rel => exact ⟨j + 1, by omega, by go_num, hq2, hw2⟩
        case measure => simp [intOf]; omega
    · obtain rfl : j = xs.length := by omega
      have hq2 : Hid (decide ((0 : Int) ≤ -1) = !(xs.all G)) := by show _ = _; rw [hq.out, allG_end]; rfl
      clear hq
      go_wp2_with fail
      go_ret
      exact ⟨⟨_, rfl, hq2.out⟩, hw.out⟩

set_option maxHeartbeats 400000 in
theorem containsB_any (G : List Bool → Bool) (bh : Nat) (xs : List (List Bool)) (hm : xs.length ≤ 9223372036854775807) (A : Option Addr) (C : Nat) (w : World) (hl : BB 0 w xs A)
    (KC : Hid (∀ (W : World) (x : List Bool) (B : Option Addr) (D : Nat), Sees w W → x ∈ xs → BoolsL 0 W x B → Calls Try.prog 230 #[.slice B x.length D, .pointer (some ⟨bh, 0, none⟩)] W fun e w' => e = .returned (.bool (!G x)) ∧ Below W.heap.size W w')) :
    Calls Try.prog 229 #[.slice A xs.length C, .func (.func 230) #[] #[.pointer (some ⟨bh, 0, none⟩)]] w fun e w' => e = .returned (.bool (!(xs.all G))) ∧ Below w.heap.size w w' := by
  have KI := Lib.hid (indexB_any G bh xs hm A C w hl KC)
  clear hl
  obtain ⟨q, hq⟩ : ∃ q : Bool, q = xs.all G := ⟨_, rfl⟩
  rw [← hq] at KI ⊢
  clear hq
  go_enter Try.func229, Try.ntmps229
  go_wp2_with fail
  refine KI.out.mono ?_
  rintro e w1 ⟨⟨i, rfl, hi⟩, hb⟩
  by_cases h0 : 0 ≤ i
  · have hi' : q = false := by rw [decide_eq_true h0] at hi; simpa using hi.symm
    subst hi'
    clear hi
    go_wp2_with fail
    go_ret
    exact ⟨rfl, hb⟩
  · have hi' : q = true := by rw [decide_eq_false h0] at hi; simpa using hi.symm
    subst hi'
    clear hi
    have hd : Hid (decide (0 ≤ i) = !true) := decide_eq_false h0
    go_wp2_with fail
    go_ret
    exact ⟨ret_bool hd.out, hb⟩

set_option maxHeartbeats 400000 in
theorem everyB_any (G : List Bool → Bool) (N : Nat) (caps : Array Value) (eg : ∀ args w, (callFunc N args).run Try.prog w = .ok (.enter N args) w) (xs : List (List Bool)) (hm : xs.length ≤ 9223372036854775807) (A : Option Addr) (C : Nat) (w : World) (hl : BB 0 w xs A)
    (KC : Hid (∀ (W : World) (x : List Bool) (B : Option Addr) (D : Nat), Sees w W → x ∈ xs → BoolsL 0 W x B → Calls Try.prog N (#[.slice B x.length D] ++ caps) W fun e w' => e = .returned (.bool (G x)) ∧ Below W.heap.size W w')) :
    Calls Try.prog 209 #[.slice A xs.length C, .func (.func N) #[] caps] w fun e w' => e = .returned (.bool (xs.all G)) ∧ Below w.heap.size w w' := by
  have KI : Hid (∀ W : World, Sees w W → W.cell? ⟨w.heap.size, 0, none⟩ = some (.func (.func N) #[] caps) → Calls Try.prog 229 #[.slice A xs.length C, .func (.func 230) #[] #[.pointer (some ⟨w.heap.size, 0, none⟩)]] W fun e w' => e = .returned (.bool (!(xs.all G))) ∧ Below W.heap.size W w') := fun W h hc =>
    containsB_any G w.heap.size xs hm A C W (bb_ok.below hl h) (fun W' x B D h' hx hQ => every1B_any (G x) N caps eg w.heap.size _ W' (kc h' hc) (fun W2 h2 => KC.out W2 x B D (Sees.below h (Sees.below h' h2)) hx (bools_ok.below hQ h2)))
  clear hl
  obtain ⟨q, hq⟩ : ∃ q : Bool, q = xs.all G := ⟨_, rfl⟩
  rw [← hq] at KI ⊢
  clear hq
  cases q
  all_goals
    go_enter Try.func209, Try.ntmps209
    go_wp2_with fail
    refine (KI.out _ (by unfold Sees; go_grown) (by simp [go_sem])).mono ?_
    rintro e w1 ⟨rfl, hb⟩
    have B1 : Sees w w1 := Sees.below (by unfold Sees; go_grown) hb
    clear hb
    go_wp2_with fail
    go_ret
    exact ⟨rfl, B1⟩
end Go.Proofs.Ytcgbepmhfimbjaa

namespace Go.Proofs.Ytcgbepmhfimbjaa
open Go.RowKit

end Go.Proofs.Ytcgbepmhfimbjaa

namespace Go.Proofs.Ytcgbepmhfimbjaa
open Go.RowKit

theorem zero5 : (Value.cells (.agg #[.int .i64 0, .int .i64 0, .int .i64 0, .slice none 0 0, .slice none 0 0])) = #[.int .i64 0, .int .i64 0, .int .i64 0, .slice none 0 0, .slice none 0 0] := rfl

/-- The state of the loop over the actions: block b holds the model so far. -/
structure Sup (w1 : World) (s2 t a p : Nat) (ts : List (List Bool)) (A1 : Option Addr) (acts : List (List (List Bool))) (v : Value) (W : World) : Prop where
  box : W.heap[w1.heap.size]? = some (.cells #[.int .i64 (t : Int), .int .i64 (a : Int), .int .i64 (p : Int), .slice A1 t t, v] 31 (0, 0))
  acc : Acc 24 BBF List.length s2 W v acts
  tests : BBF W ts A1 (rng (w1.heap.size + 1) s2)
  below : Below w1.heap.size w1 W
  size : s2 ≤ W.heap.size
  low : w1.heap.size + 1 ≤ s2
theorem Sup.grow {w1 W W' : World} {s2 t a p : Nat} {ts : List (List Bool)} {A1 : Option Addr} {acts : List (List (List Bool))} {v : Value} (h : Sup w1 s2 t a p ts A1 acts v W) (hb : Below W.heap.size W W') : Sup w1 s2 t a p ts A1 acts v W' :=
  ⟨(hb.block _ (by have := h.size; have := h.low; omega)).trans h.box, h.acc.below bbF_ok hb, bbF_ok.keep h.tests fun k hk => hb.block k (by have := hk.2; have := h.size; omega), h.below.trans (hb.mono h.below.size), Nat.le_trans h.size hb.size, h.low⟩

theorem Acc.form {α : Type} {E : TypeId} {Q : World → α → Option Addr → FP → Prop} {ln : α → Nat} {base : Nat} {W : World} {v : Value} {xs : List α} (h : Acc E Q ln base W v xs) : ∃ A n C, v = .slice A n C := let ⟨A, C, h, _⟩ := h.done; ⟨A, _, C, h⟩
theorem Sup.push {w1 Wa w' : World} {s2 t a p : Nat} {ts : List (List Bool)} {A1 : Option Addr} {acts acts' : List (List (List Bool))} {v v' : Value} (h : Sup w1 s2 t a p ts A1 acts v Wa) (hacc : Acc 24 BBF List.length s2 w' v' acts') (hg : Wa.grownBy w' v.ownBlock) :
    Sup w1 s2 t a p ts A1 acts' v' (w'.setCell ⟨w1.heap.size, 4, none⟩ v') ∧ w'.heap[w1.heap.size]? = some (.cells #[.int .i64 (t : Int), .int .i64 (a : Int), .int .i64 (p : Int), .slice A1 t t, v] 31 (0, 0)) := by
  obtain ⟨vals, G, h1, _⟩ := h.acc
  have hlt := h1.lt
  have z1 := h.size; have z2 := h.low; have z3 := hg.size
  have hk : ∀ k, k < s2 → w'.heap[k]? = Wa.heap[k]? := fun k hk => hg.block k (by omega) (fun he => by have := (hlt k he.symm).1; omega)
  have hbx := (hk w1.heap.size (by omega)).trans h.box
  have hks : ∀ k, k ≠ w1.heap.size → (w'.setCell ⟨w1.heap.size, 4, none⟩ v').heap[k]? = w'.heap[k]? := fun k hk2 => Below.heap_setCell _ _ _ _ hk2
  have hsz : (w'.setCell ⟨w1.heap.size, 4, none⟩ v').heap.size = w'.heap.size := by simp
  refine ⟨⟨by rw [Fo.block_setCell hbx _]; rfl, hacc.keep bbF_ok (by rw [hsz]; exact Nat.le_refl _) (fun k hk2 _ => hks k (by omega)), bbF_ok.keep h.tests fun k hk2 => (hks k (by have := hk2.1; omega)).trans (hk k hk2.2), ?_, by rw [hsz]; omega, h.low⟩, hbx⟩
  exact Below.setCell (h.below.trans ⟨hg.os, hg.tape, hg.output, hg.size, fun k hk2 => hk k (by omega)⟩) (Nat.le_refl _) _

theorem Sup.mend {w1 W : World} {s2 t a p n b : Nat} {ts : List (List Bool)} {A1 A2 : Option Addr} {acts : List (List (List Bool))} {v : Value} {w : World} (h : Sup w1 s2 t a p ts A1 acts v W) (hR : RowsF BBF List.length W acts A2 (rng s2 W.heap.size)) (hn : w.heap.size ≤ b) (hb : b < w1.heap.size) (hw : Below w.heap.size w W) (v0 v1 v2 v3 v4 : Value) {C1 C2 : Nat} (ht : ts.length = t) (ha : acts.length = n) :
    MEnd t a p ts acts 0 w (.returned (.tuple #[.agg #[.int .i64 t, .int .i64 a, .int .i64 p, .slice A1 t C1, .slice A2 n C2], .int .i64 0])) (((((W.setCell ⟨b, 0, none⟩ v0).setCell ⟨b, 1, none⟩ v1).setCell ⟨b, 2, none⟩ v2).setCell ⟨b, 3, none⟩ v3).setCell ⟨b, 4, none⟩ v4) := by
  subst ht ha
  have z1 := h.low; have z2 := h.size
  have zs : (((((W.setCell ⟨b, 0, none⟩ v0).setCell ⟨b, 1, none⟩ v1).setCell ⟨b, 2, none⟩ v2).setCell ⟨b, 3, none⟩ v3).setCell ⟨b, 4, none⟩ v4).heap.size = W.heap.size := by simp
  refine ⟨A1, A2, C1, C2, rfl, ⟨by rw [zs]; omega, rng (w1.heap.size + 1) s2, rng s2 W.heap.size, bbF_ok.keep h.tests fun k hk => five_keep W b k _ _ _ _ _ (by have := hk.1; omega), (rowsF_ok bbF_ok List.length).keep hR fun k hk => five_keep W b k _ _ _ _ _ (by have := hk.1; omega), fun k hk => ⟨by have := hk.1; omega, by rw [zs]; have := hk.2; omega⟩, fun k hk => ⟨by have := hk.1; omega, by rw [zs]; exact hk.2⟩, fun k h1 h2 => by have := h1.2; have := h2.1; omega⟩, five_below hw hn _ _ _ _ _⟩

end Go.Proofs.Ytcgbepmhfimbjaa

namespace Go.Proofs.Ytcgbepmhfimbjaa
open Go.RowKit
set_option linter.unusedVariables false

theorem Sup.mret {w1 W : World} {s2 t a p n b : Nat} {ts : List (List Bool)} {A1 A2 : Option Addr} {acts : List (List (List Bool))} {v : Value} {w : World} (h : Sup w1 s2 t a p ts A1 acts v W) (hR : RowsF BBF List.length W acts A2 (rng s2 W.heap.size)) (hn : w.heap.size ≤ b) (hb : b < w1.heap.size) (hw : Below w.heap.size w W) (v0 v1 v2 v3 v4 : Value) {C1 C2 : Nat} (ht : ts.length = t) (ha : acts.length = n) :
    MRet t a p ts acts w (.returned (.agg #[.int .i64 (t : Int), .int .i64 (a : Int), .int .i64 (p : Int), .slice A1 t C1, .slice A2 n C2])) (((((W.setCell ⟨b, 0, none⟩ v0).setCell ⟨b, 1, none⟩ v1).setCell ⟨b, 2, none⟩ v2).setCell ⟨b, 3, none⟩ v3).setCell ⟨b, 4, none⟩ v4) := by
  subst ha
  have z1 := h.low; have z2 := h.size
  have zs : (((((W.setCell ⟨b, 0, none⟩ v0).setCell ⟨b, 1, none⟩ v1).setCell ⟨b, 2, none⟩ v2).setCell ⟨b, 3, none⟩ v3).setCell ⟨b, 4, none⟩ v4).heap.size = W.heap.size := by simp
  refine ⟨A1, A2, C1, C2, s2, by rw [ht], by omega, by rw [zs]; omega, bbF_ok.mono (bbF_ok.keep h.tests fun k hk => five_keep W b k _ _ _ _ _ (by have := hk.1; omega)) (fun k hk => ⟨by have := hk.1; omega, hk.2⟩), ?_, five_below hw hn _ _ _ _ _⟩
  rw [zs]
  exact (rowsF_ok bbF_ok List.length).keep hR fun k hk => five_keep W b k _ _ _ _ _ (by have := hk.1; omega)

end Go.Proofs.Ytcgbepmhfimbjaa

namespace Go.Proofs.Ytcgbepmhfimbjaa
open Go.RowKit
set_option linter.unusedVariables false

theorem addr_add (b o j : Nat) : (⟨b, o, none⟩ : Addr).add j = ⟨b, o + j, none⟩ := by
  unfold Addr.add
  split
  · rename_i h; subst h; rfl
  · rfl
theorem wpList_copy_cells {P : Program} {w : World} {ops : Array Oper} {rest : List Oper} {o : Oper} {a : Act} {Q : Exit → Act → World → Prop} (hgd : o.guard = none) (d s : Operand) (dT sT : TypeId)
    (ho : o.op = .call { callee := .builtin .copy, args := #[d, s], argTypes := #[dT, sT] }) (elem : TypeId) (hu : P.underlying dT = some (.slice elem)) (hsz : (P.info? elem).map (·.size) = some 1)
    (b off dLen dCap : Nat) (ad : Addr) (sLen sCap : Nat) (hd : a.eval d = .slice (some ⟨b, off, none⟩) dLen dCap) (hs : a.eval s = .slice (some ad) sLen sCap) (cs : List Value) (hn : cs.length = Nat.min sLen dLen)
    (hsrc : ∀ j v, cs[j]? = some v → w.cell? (ad.add j) = some v) (hc : ∀ j, j < cs.length → (w.cell? ⟨b, off + j, none⟩).isSome = true) (hf : ∀ j, j < cs.length → w.frozen? ⟨b, off + j, none⟩ = false) (h1 : ∀ v ∈ cs, v.oneCell' = true)
    (h : wpList P ops Q rest (a.put o.dst (goInt cs.length)) (w.setCells b off cs)) : wpList P ops Q (o :: rest) a w := by
  refine wpList_plain hgd fun K hK => ?_
  have hrun := run_copy_cells (P := P) w dT sT o.type elem b off dLen dCap ad sLen sCap cs hu hsz hn hsrc hc hf h1
  unfold Oper.wp
  simp [execOp, ho, resolve, invoke, builtin, hd, hs, hrun, Result.andThen]
  exact hK _ _ h

set_option maxHeartbeats 4000000 in
set_option maxRecDepth 100000 in
theorem place_any (t a n p f : Nat) (ht : t ≤ 3) (ha : a ≤ 4) (hn8 : n ≤ 8) (hp1 : 1 ≤ p) (hfp : f + p ≤ n) (ac : List (List Bool)) (nx : List (List (List Bool))) (hal : ac.length = t) (hnl : nx.length = a) (har : ∀ r ∈ ac, r.length = p) (hnr : ∀ rows ∈ nx, rows.length = p ∧ ∀ r ∈ rows, r.length = p)
    (T : Nat → Nat → Bool) (U : Nat → Nat → Nat → Bool) (A B A1 B1 : Option Addr) (C D C1 D1 lo mid hi : Nat) (i1 i2 i3 j1 j2 j3 : Int) (w1 w : World) (hlo : w1.heap.size ≤ lo) (hlm : lo ≤ mid) (hmh : mid ≤ hi) (hhi : hi ≤ w.heap.size) (hs : Sees w1 w) (hA : BB 0 w1 ac A) (hB : BBB 0 w1 nx B)
    (hT : BBX w (tab t n T) A1 (rng lo mid)) (hU : BBBX w (tabs a n n U) B1 (rng mid hi)) :
    Calls Try.prog 67 #[.agg #[.int .i64 j1, .int .i64 j2, .int .i64 j3, .slice A1 t C1, .slice B1 a D1], .agg #[.int .i64 i1, .int .i64 i2, .int .i64 i3, .slice A t C, .slice B a D], .int .i64 (f : Int)] w fun e w' => e = .returned (.tuple #[]) ∧ BBX w' (tab t n (plR f p (at2 ac) T t)) A1 (rng lo mid) ∧ BBBX w' (tabs a n n (plA f p (at3 nx) U a 0)) B1 (rng mid hi) ∧ ButF (rng lo hi) w w' := by
  obtain ⟨w0, hw0⟩ : ∃ w0, w0 = (w.alloc (.cells #[.int .i64 j1, .int .i64 j2, .int .i64 j3, .slice A1 t C1, .slice B1 a D1] 31)).alloc (.cells #[.int .i64 i1, .int .i64 i2, .int .i64 i3, .slice A t C, .slice B a D] 31) := ⟨_, rfl⟩
  have B0 : Sees w w0 := by rw [hw0]; exact ((Sees.refl w).alloc _).alloc _
  have hm0 : w0.heap[w.heap.size]? = some (.cells #[.int .i64 j1, .int .i64 j2, .int .i64 j3, .slice A1 t C1, .slice B1 a D1] 31 (0, 0)) := by
    rw [hw0]; exact (Below.heap_alloc _ _ _ (by simp)).trans (heap_new _ _ _ rfl)
  have hq0 : w0.heap[w.heap.size + 1]? = some (.cells #[.int .i64 i1, .int .i64 i2, .int .i64 i3, .slice A t C, .slice B a D] 31 (0, 0)) := by
    rw [hw0]; exact heap_new _ _ _ (by simp)
  have z0 : w.heap.size + 2 ≤ w0.heap.size := by rw [hw0]; simp
  have HT0 : Hid (BBX w0 (tab t n (plR f p (at2 ac) T 0)) A1 (rng lo mid)) := by
    show BBX _ _ _ _
    rw [plR_zero]
    exact bbX_ok.keep hT fun k hk => B0.block k (by have := hk.2; omega)
  have HU0 : Hid (BBBX w0 (tabs a n n (plA f p (at3 nx) U 0 0)) B1 (rng mid hi)) := by
    show BBBX _ _ _ _
    rw [plA_zero]
    exact bbbX_ok.keep hU fun k hk => B0.block k (by have := hk.2; omega)
  have S10 : Hid (Sees w1 w0) := hs.below B0
  have HM0 := Lib.hid hm0; have HQ0 := Lib.hid hq0; have HA := Lib.hid hA; have HB := Lib.hid hB
  have HAL := Lib.hid hal; have HNL := Lib.hid hnl; have HAR := Lib.hid har; have HNR := Lib.hid hnr
  have HB0 := Lib.hid B0
  have HLO := Lib.hid hlo; have HLM := Lib.hid hlm; have HMH := Lib.hid hmh; have HHI := Lib.hid hhi
  have hn1 : 0 < n := by omega
  have hfn : f < n := by omega
  have hfn2 : ¬ n = f := by omega
  have HFP := Lib.hid hfp
  clear hm0 hq0 hA hB hal hnl har hnr hs hT hU B0
  obtain ⟨c0, c1, c2, c3, c4, _, _, _, _, _⟩ := five_facts HQ0.out
  go_enter Try.func67, Try.ntmps67
  have HW0 := Lib.hid hw0
  go_wp2_with fail
  rw [← hw0]
  clear hw0
  have f0 : (0 : Int) ≤ (f : Int) := Int.natCast_nonneg _
  have f1 : (f : Int) ≤ (n : Int) := by omega
  clear c0 c1 c2 c3 c4
  go_loopw [15] (fun i wr => ∃ x : Nat, x ≤ t ∧ i = .int .i64 x ∧ Hid (BBX wr (tab t n (plR f p (at2 ac) T x)) A1 (rng lo mid)) ∧ Hid (ButF (rng lo mid) w0 wr)) (fun i _ => t - (intOf i).toNat)
  case atStart => exact ⟨0, Nat.zero_le _, rfl, HT0.out, ButF.refl _ _⟩
  case round =>
    obtain ⟨x, hx, rfl, hP, hW⟩ := hrel
    clear HT0
    have km := (hW.out.block w.heap.size (by omega) (fun h => by have := h.2; omega)).trans HM0.out
    have kq := (hW.out.block (w.heap.size + 1) (by omega) (fun h => by have := h.2; omega)).trans HQ0.out
    by_cases hxt : x < t
    · have XT := Lib.hid hxt
      have hxa : x < ac.length := by rw [HAL.out]; exact hxt
      have sw : Sees w1 wr := S10.out.trans ⟨hW.out.os, hW.out.tape, hW.out.output, hW.out.size, fun k hk => hW.out.block k (by have := S10.out.size; omega) (fun h => by have := h.1; omega)⟩
      obtain ⟨bA, oA, _, hAe, hat⟩ := (HA.out.sees sw) (by rintro rfl; simp at hxa)
      obtain ⟨R, DR, cA, qA⟩ := hat x ac[x] (List.getElem?_eq_getElem hxa)
      have hrl : ac[x].length = p := HAR.out ac[x] (List.getElem_mem hxa)
      obtain ⟨row, hrow⟩ : ∃ row, row = ac[x] := ⟨_, rfl⟩
      have hrg : ∀ z, z < p → row.getD z false = at2 ac x z := fun z hz => by rw [hrow]; simp [at2, List.getD, hxa]
      rw [← hrow] at cA qA hrl
      obtain ⟨y2, z2, _, hRe, hat2⟩ := qA (by rintro rfl; simp at hrl; omega)
      obtain ⟨b, r, hA1, hF1, hF2, e0, e1, e2, hput⟩ := BBX.copy hP.out hxt hn1
      have hput2 := hput row f (by rw [hrl]; exact HFP.out)
      rw [plR_step hrl hrg] at hput2
      have HPUT := Lib.hid hput2
      have HBUT : Hid (ButF (rng lo mid) w0 (wr.setCells r f (row.map Value.bool))) := ButF.sets hF2 _ _ _ hW.out
      have HSRC : Hid (∀ (j : Nat) (v : Value), (row.map Value.bool)[j]? = some v → wr.cell? ((⟨y2, z2, none⟩ : Addr).add j) = some v) := fun j v hj => by
        rw [List.getElem?_map] at hj
        obtain ⟨u, hu, rfl⟩ := Option.map_eq_some_iff.1 hj
        rw [addr_add]; exact hat2 j u hu
      have HN : Hid ((row.map Value.bool).length = Nat.min p (n - f)) := by show _ = _; rw [List.length_map, hrl]; have := HFP.out; simp only [Nat.min_def]; split <;> omega
      have HC : Hid (∀ j, j < (row.map Value.bool).length → (wr.cell? ⟨r, f + j, none⟩).isSome = true) := fun j hj => e2 (f + j) (by rw [List.length_map, hrl] at hj; have := HFP.out; omega)
      have HF : Hid (∀ j, j < (row.map Value.bool).length → wr.frozen? ⟨r, f + j, none⟩ = false) := fun j _ => e1 (f + j)
      have HO : Hid (∀ v ∈ row.map Value.bool, v.oneCell' = true) := fun v hv => by obtain ⟨u, _, rfl⟩ := List.mem_map.1 hv; rfl
      rw [hrl] at cA
      have x0 : (0 : Int) ≤ (x : Int) := Int.natCast_nonneg _
      have x1 : (x : Int) < (t : Int) := by omega
      obtain ⟨m0, m1, m2, m3, m4, _, _, _, _, _⟩ := five_facts km
      clear hat qA hrow hrg hput hput2 hat2 hF1 hF2 e1 e2 hP hW km kq sw hxa hxt hrl hx
      subst hAe hRe hA1
      go_wp2_with (refine wpList_copy_cells (by rfl) _ _ _ _ (by rfl) 4 (by exact Try.underlying104) (by kernel_rfl) r f (n - f) (n - f) ⟨y2, z2, none⟩ p DR (by rfl) (by rfl) (row.map Value.bool) HN.out HSRC.out HC.out HF.out HO.out ?_)
      go_roundw
      case rel => exact ⟨x + 1, XT.out, by go_num, HPUT.out, HBUT.out⟩
      case measure => have := XT.out; simp [intOf]; omega
    · obtain rfl : x = t := by omega
      obtain ⟨wt, rfl⟩ : ∃ wt, wt = wr := ⟨_, rfl⟩
      have HUt : Hid (BBBX wt (tabs a n n (plA f p (at3 nx) U 0 0)) B1 (rng mid hi)) := bbbX_ok.keep HU0.out fun k hk => hW.out.block k (by have := hk.2; omega) (fun h => by have := h.2; have := hk.1; omega)
      have S1t : Hid (Sees w1 wt) := S10.out.trans ⟨hW.out.os, hW.out.tape, hW.out.output, hW.out.size, fun k hk => hW.out.block k (by have := S10.out.size; omega) (fun h => by have := h.1; omega)⟩
      have HMt := Lib.hid km; have HQt := Lib.hid kq
      have zt : w.heap.size + 2 ≤ wt.heap.size := by have := hW.out.size; omega
      obtain ⟨c0, c1, c2, c3, c4, _, _, _, _, _⟩ := five_facts kq
      clear HU0 km kq
      go_wp2_with fail
      clear c0 c1 c2 c3 c4
      go_loopw [33] (fun i wr => ∃ k : Nat, k ≤ a ∧ i = .int .i64 k ∧ Hid (BBBX wr (tabs a n n (plA f p (at3 nx) U k 0)) B1 (rng mid hi)) ∧ Hid (ButF (rng mid hi) wt wr)) (fun i _ => a - (intOf i).toNat)
      case atStart => exact ⟨0, Nat.zero_le _, rfl, HUt.out, ButF.refl _ _⟩
      case round =>
        obtain ⟨k, hk, rfl, hQ, hV⟩ := hrel
        clear HUt
        obtain ⟨wo, rfl⟩ : ∃ wo, wo = wr := ⟨_, rfl⟩
        by_cases hka : k < a
        · have KA := Lib.hid hka
          have hkn : k < nx.length := by rw [HNL.out]; exact hka
          have sw : Sees w1 wo := S1t.out.trans ⟨hV.out.os, hV.out.tape, hV.out.output, hV.out.size, fun k hk => hV.out.block k (by have := S1t.out.size; omega) (fun h => by have := h.1; omega)⟩
          obtain ⟨bB, oB, lB0, hBe, hat⟩ := HB.out (by rintro rfl; simp at hkn)
          obtain ⟨R, DR, cB0, qB⟩ := hat k nx[k] (List.getElem?_eq_getElem hkn)
          have cB := kc sw cB0
          obtain ⟨hr1, hr2⟩ := HNR.out nx[k] (List.getElem_mem hkn)
          obtain ⟨rows, hrows⟩ : ∃ rows, rows = nx[k] := ⟨_, rfl⟩
          have hrg : Hid (∀ x z, x < p → z < p → (rows.getD x []).getD z false = at3 nx k x z) := fun x z _ _ => by rw [hrows]; simp [at3, List.getD, hkn]
          rw [← hrows] at cB qB hr1 hr2
          obtain ⟨bR, oR, _, hRe, hatR⟩ := qB (by rintro rfl; simp at hr1; omega)
          -- where the table's rows lie, in the first world
          rw [hr1] at cB
          have HATR := Lib.hid hatR; have HR2 := Lib.hid hr2; have HR1 := Lib.hid hr1
          have SO := Lib.hid sw
          have x0 : (0 : Int) ≤ (k : Int) := Int.natCast_nonneg _
          have x1 : (k : Int) < (a : Int) := by omega
          have hkm := (hV.out.block (w.heap.size + 1) (by omega) (fun h => by have := h.2; omega)).trans HQt.out
          obtain ⟨c0, c1, c2, c3, c4, _, _, _, _, _⟩ := five_facts hkm
          clear hat qB hrows hatR hr1 hr2 sw hka hkn hkm hk cB0
          subst hBe hRe
          go_wp2_with fail
          clear c0 c1 c2 c3 c4 cB
          go_loopw [40] (fun i wr => ∃ x : Nat, x ≤ p ∧ i = .int .i64 x ∧ Hid (BBBX wr (tabs a n n (plA f p (at3 nx) U k x)) B1 (rng mid hi)) ∧ Hid (ButF (rng mid hi) wo wr)) (fun i _ => p - (intOf i).toNat)
          case atStart => exact ⟨0, Nat.zero_le _, rfl, hQ.out, ButF.refl _ _⟩
          case round =>
            obtain ⟨x, hx, rfl, hP2, hW2⟩ := hrel
            have hWt : ButF (rng mid hi) wt wr := hV.out.trans hW2.out
            have km := (hWt.block w.heap.size (by omega) (fun h => by have := h.2; omega)).trans HMt.out
            by_cases hxp : x < p
            · have XP := Lib.hid hxp
              have hxr : x < rows.length := by rw [HR1.out]; exact hxp
              have sW : Sees w1 wr := SO.out.trans ⟨hW2.out.os, hW2.out.tape, hW2.out.output, hW2.out.size, fun k hk => hW2.out.block k (by have := SO.out.size; omega) (fun h => by have := h.1; omega)⟩
              obtain ⟨R2, DR2, cR0, qR⟩ := HATR.out x rows[x] (List.getElem?_eq_getElem hxr)
              have hrl : rows[x].length = p := HR2.out rows[x] (List.getElem_mem hxr)
              obtain ⟨row, hrow⟩ : ∃ row, row = rows[x] := ⟨_, rfl⟩
              have hrg2 : ∀ z, z < p → row.getD z false = at3 nx k x z := fun z hz => by rw [← hrg.out x z hxp hz, hrow]; simp [List.getD, hxr]
              rw [← hrow] at cR0 qR hrl
              obtain ⟨y2, z2, _, hR2, hat2⟩ := qR (by rintro rfl; simp at hrl; omega)
              rw [hrl] at cR0
              have cR := kc sW cR0
              obtain ⟨a1, b, r, Dk, hB1, hF1, hF2, hF3, e0, e1, e2, e3, hput⟩ := BBBX.copy hP2.out KA.out (x := f + x) (by have := HFP.out; omega) hn1
              have hput2 := hput row f (by rw [hrl]; exact HFP.out)
              rw [plA_step hrl hrg2] at hput2
              have HPUT := Lib.hid hput2
              have HBUT : Hid (ButF (rng mid hi) wo (wr.setCells r f (row.map Value.bool))) := ButF.sets hF3 _ _ _ hW2.out
              have HSRC : Hid (∀ (j : Nat) (v : Value), (row.map Value.bool)[j]? = some v → wr.cell? ((⟨y2, z2, none⟩ : Addr).add j) = some v) := fun j v hj => by
                rw [List.getElem?_map] at hj
                obtain ⟨u, hu, rfl⟩ := Option.map_eq_some_iff.1 hj
                rw [addr_add]; exact kc sW (hat2 j u hu)
              have HN : Hid ((row.map Value.bool).length = Nat.min p (n - f)) := by show _ = _; rw [List.length_map, hrl]; have := HFP.out; simp only [Nat.min_def]; split <;> omega
              have HC : Hid (∀ j, j < (row.map Value.bool).length → (wr.cell? ⟨r, f + j, none⟩).isSome = true) := fun j hj => e3 (f + j) (by rw [List.length_map, hrl] at hj; have := HFP.out; omega)
              have HF : Hid (∀ j, j < (row.map Value.bool).length → wr.frozen? ⟨r, f + j, none⟩ = false) := fun j _ => e2 (f + j)
              have HO : Hid (∀ v ∈ row.map Value.bool, v.oneCell' = true) := fun v hv => by obtain ⟨u, _, rfl⟩ := List.mem_map.1 hv; rfl
              have y0 : (0 : Int) ≤ (x : Int) := Int.natCast_nonneg _
              have y1 : (x : Int) < (p : Int) := by omega
              have y2' : (0 : Int) ≤ (f : Int) + (x : Int) := by omega
              have y3 : (f : Int) + (x : Int) < (n : Int) := by have := HFP.out; omega
              have y4 : IntKind.i64.wrap ((f : Int) + (x : Int)) = (f : Int) + (x : Int) := IntWalk.i64_in _ (by omega)
              have y5 : ((f : Int) + (x : Int)).toNat = f + x := by omega
              obtain ⟨m0, m1, m2, m3, m4, _, _, _, _, _⟩ := five_facts km
              clear qR hrow hrg2 hput hput2 hat2 hF1 hF2 hF3 e2 e3 hP2 hW2 km hWt sW cR0 hxr hxp hrl hx
              subst hR2 hB1
              go_wp2_with (refine wpList_copy_cells (by rfl) _ _ _ _ (by rfl) 4 (by exact Try.underlying104) (by kernel_rfl) r f (n - f) (n - f) ⟨y2, z2, none⟩ p DR2 (by rfl) (by rfl) (row.map Value.bool) HN.out HSRC.out HC.out HF.out HO.out ?_)
              go_roundw
              case rel => exact ⟨x + 1, XP.out, by go_num, HPUT.out, HBUT.out⟩
              case measure => have := XP.out; simp [intOf]; omega
            · obtain rfl : x = p := by omega
              have hP3 : Hid (BBBX wr (tabs a n n (plA f x (at3 nx) U (k + 1) 0)) B1 (rng mid hi)) := by show BBBX _ _ _ _; rw [← plA_next]; exact hP2.out
              have hV3 := Lib.hid hWt
              clear km hWt
              go_wp2_with fail
              go_roundw
              case rel => exact ⟨k + 1, KA.out, by go_num, hP3.out, hV3.out⟩
              case measure => have := KA.out; simp [intOf]; omega
        · obtain rfl : k = a := by omega
          have HTf : Hid (BBX wo (tab x n (plR f p (at2 ac) T x)) A1 (rng lo mid)) := bbX_ok.keep hP.out fun k hk => hV.out.block k (by have := hk.2; omega) (fun h => by have := h.1; have := hk.2; omega)
          have HBf : Hid (ButF (rng lo hi) w wo) := ((ButF.of_below HB0.out).trans (hW.out.mono fun k hk => ⟨hk.1, by have := hk.2; omega⟩)).trans (hV.out.mono fun k hk => ⟨by have := hk.1; omega, hk.2⟩)
          go_wp2_with fail
          go_end0
          exact ⟨rfl, HTf.out, hQ.out, HBf.out⟩
end Go.Proofs.Ytcgbepmhfimbjaa
