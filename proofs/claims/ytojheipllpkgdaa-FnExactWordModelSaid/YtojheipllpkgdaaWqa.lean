/- impl.every at []bool: every$1, slices.IndexFunc, slices.ContainsFunc. impl.haveShape at int64; impl.ValidCosts. SupportOf: contract at valid arguments. Contract of impl.chosen. -/
import Derived.Test.YtojheipllpkgdaaEvy
import Derived.Test.YtojheipllpkgdaaShp
import Derived.Laws.EntriesVeiled
import Derived.Test.YtojheipllpkgdaaEvyi
import Derived.Test.YtojheipllpkgdaaEvyI
import Derived.Test.YtojheipllpkgdaaEvyII
import Derived.Test.YtojheipllpkgdaaSupB
import Derived.Deep.RegionLaw
import Derived.Test.YtojheipllpkgdaaRsC
namespace Go.Proofs.Ytojheipllpkgdaa
open Go.RowKit

set_option maxHeartbeats 400000 in
theorem every1B_any (q : Bool) (N : Nat) (caps : Array Value) (eg : ∀ args w, (callFunc N args).run Try.prog w = .ok (.enter N args) w) (bh : Nat) (v : Value) (w : World) (hc : w.cell? ⟨bh, 0, none⟩ = some (.func (.func N) #[] caps))
    (KC : Hid (∀ W : World, Sees w W → Calls Try.prog N (#[v] ++ caps) W fun e w' => e = .returned (.bool q) ∧ Below W.heap.size W w')) :
    Calls Try.prog 178 #[v, .pointer (some ⟨bh, 0, none⟩)] w fun e w' => e = .returned (.bool (!q)) ∧ Below w.heap.size w w' := by
  cases q
  all_goals
    go_enter Try.func178, Try.ntmps178
    go_wp2_with (go_at_fn N; refine (KC.out _ (Sees.refl _)).mono ?_; rintro e w1 ⟨rfl, hb⟩)
    go_ret
    exact ⟨rfl, by assumption⟩

set_option maxHeartbeats 1000000 in
theorem indexB_any (G : List Bool → Bool) (bh : Nat) (xs : List (List Bool)) (hm : xs.length ≤ 9223372036854775807) (A : Option Addr) (C : Nat) (w : World) (hl : BB 0 w xs A)
    (KC : Hid (∀ (W : World) (x : List Bool) (B : Option Addr) (D : Nat), Sees w W → x ∈ xs → BoolsL 0 W x B → Calls Try.prog 178 #[.slice B x.length D, .pointer (some ⟨bh, 0, none⟩)] W fun e w' => e = .returned (.bool (!G x)) ∧ Below W.heap.size W w')) :
    Calls Try.prog 185 #[.slice A xs.length C, .func (.func 178) #[] #[.pointer (some ⟨bh, 0, none⟩)]] w fun e w' => (∃ i : Int, e = .returned (.int .i64 i) ∧ decide (0 ≤ i) = !(xs.all G)) ∧ Below w.heap.size w w' := by
  have HD : Hid (xs.all G = allG G xs 0) := allG_zero G xs
  have HH := Lib.hid hl
  clear hl
  go_enter Try.func185, Try.ntmps185
  go_wp2_with fail
  go_loopw [8] (fun i wr => ∃ j : Nat, j ≤ xs.length ∧ i = .int .i64 j ∧ Hid (xs.all G = allG G xs j) ∧ Hid (Below w.heap.size w wr)) (fun i _ => xs.length - (intOf i).toNat)
  case atStart => exact ⟨0, Nat.zero_le _, rfl, HD, Below.refl _ _⟩
  case round =>
    obtain ⟨j, hj, rfl, hq, hw⟩ := hrel
    clear HD
    by_cases hjl : j < xs.length
    · obtain ⟨b, o, _, rfl, hat⟩ := HH.out (by rintro rfl; simp at hjl)
      obtain ⟨B, D, c0', hQ⟩ := hat j xs[j] (List.getElem?_eq_getElem hjl)
      have hst0 := allG_step G xs hjl
      have hin := List.getElem_mem hjl
      obtain ⟨x, hx⟩ : ∃ x, x = xs[j] := ⟨_, rfl⟩
      rw [← hx] at c0' hst0 hin hQ
      have c0 := kc hw.out c0'
      have KX := Lib.hid (KC.out wr x B D hw.out hin (bools_ok.below hQ hw.out))
      have HA := Lib.hid hat
      have hst : Hid (xs.all G = (G x && allG G xs (j + 1))) := hq.out.trans hst0
      obtain ⟨q, hqe⟩ : ∃ q : Bool, q = G x := ⟨_, rfl⟩
      rw [← hqe] at KX hst
      clear hat hst0 c0' hx hin hQ hqe hq
      have hj0 : (0 : Int) ≤ (j : Int) := Int.natCast_nonneg _
      have hj1 : (j : Int) < (xs.length : Int) := by omega
      cases q
      · have hq2 : Hid (decide ((0 : Int) ≤ (j : Int)) = !(xs.all G)) := by show _ = _; rw [hst.out, decide_eq_true hj0]; rfl
        go_wp2_with fail
        refine KX.out.mono ?_
        rintro e w1 ⟨rfl, hb1⟩
        have hw2 := Sees.below hw.out hb1
        clear hb1 c0
        go_wp2_with fail
        go_ret
        exact ⟨⟨_, rfl, hq2.out⟩, hw2⟩
      · have hq2 : Hid (xs.all G = allG G xs (j + 1)) := by show _ = _; rw [hst.out]; rfl
        go_wp2_with fail
        refine KX.out.mono ?_
        rintro e w1 ⟨rfl, hb1⟩
        have hw2 := Lib.hid (Sees.below hw.out hb1)
        clear hb1 c0
        go_wp2_with fail
        go_roundw
        case rel => exact ⟨j + 1, by omega, by go_num, hq2, hw2⟩
        case measure => simp [intOf]; omega
    · obtain rfl : j = xs.length := by omega
      have hq2 : Hid (decide ((0 : Int) ≤ -1) = !(xs.all G)) := by show _ = _; rw [hq.out, allG_end]; rfl
      clear hq
      go_wp2_with fail
      go_ret
      exact ⟨⟨_, rfl, hq2.out⟩, hw.out⟩

set_option maxHeartbeats 400000 in
theorem containsB_any (G : List Bool → Bool) (bh : Nat) (xs : List (List Bool)) (hm : xs.length ≤ 9223372036854775807) (A : Option Addr) (C : Nat) (w : World) (hl : BB 0 w xs A)
    (KC : Hid (∀ (W : World) (x : List Bool) (B : Option Addr) (D : Nat), Sees w W → x ∈ xs → BoolsL 0 W x B → Calls Try.prog 178 #[.slice B x.length D, .pointer (some ⟨bh, 0, none⟩)] W fun e w' => e = .returned (.bool (!G x)) ∧ Below W.heap.size W w')) :
    Calls Try.prog 177 #[.slice A xs.length C, .func (.func 178) #[] #[.pointer (some ⟨bh, 0, none⟩)]] w fun e w' => e = .returned (.bool (!(xs.all G))) ∧ Below w.heap.size w w' := by
  have KI := Lib.hid (indexB_any G bh xs hm A C w hl KC)
  clear hl
  obtain ⟨q, hq⟩ : ∃ q : Bool, q = xs.all G := ⟨_, rfl⟩
  rw [← hq] at KI ⊢
  clear hq
  go_enter Try.func177, Try.ntmps177
  go_wp2_with fail
  refine KI.out.mono ?_
  rintro e w1 ⟨⟨i, rfl, hi⟩, hb⟩
  by_cases h0 : 0 ≤ i
  · have hi' : q = false := by rw [decide_eq_true h0] at hi; simpa using hi.symm
    subst hi'
    clear hi
    go_wp2_with fail
    go_ret
    exact ⟨rfl, hb⟩
  · have hi' : q = true := by rw [decide_eq_false h0] at hi; simpa using hi.symm
    subst hi'
    clear hi
    have hd : Hid (decide (0 ≤ i) = !true) := decide_eq_false h0
    go_wp2_with fail
    go_ret
    exact ⟨ret_bool hd.out, hb⟩

set_option maxHeartbeats 400000 in
theorem everyB_any (G : List Bool → Bool) (N : Nat) (caps : Array Value) (eg : ∀ args w, (callFunc N args).run Try.prog w = .ok (.enter N args) w) (xs : List (List Bool)) (hm : xs.length ≤ 9223372036854775807) (A : Option Addr) (C : Nat) (w : World) (hl : BB 0 w xs A)
    (KC : Hid (∀ (W : World) (x : List Bool) (B : Option Addr) (D : Nat), Sees w W → x ∈ xs → BoolsL 0 W x B → Calls Try.prog N (#[.slice B x.length D] ++ caps) W fun e w' => e = .returned (.bool (G x)) ∧ Below W.heap.size W w')) :
    Calls Try.prog 164 #[.slice A xs.length C, .func (.func N) #[] caps] w fun e w' => e = .returned (.bool (xs.all G)) ∧ Below w.heap.size w w' := by
  have KI : Hid (∀ W : World, Sees w W → W.cell? ⟨w.heap.size, 0, none⟩ = some (.func (.func N) #[] caps) → Calls Try.prog 177 #[.slice A xs.length C, .func (.func 178) #[] #[.pointer (some ⟨w.heap.size, 0, none⟩)]] W fun e w' => e = .returned (.bool (!(xs.all G))) ∧ Below W.heap.size W w') := fun W h hc =>
    containsB_any G w.heap.size xs hm A C W (bb_ok.below hl h) (fun W' x B D h' hx hQ => every1B_any (G x) N caps eg w.heap.size _ W' (kc h' hc) (fun W2 h2 => KC.out W2 x B D (Sees.below h (Sees.below h' h2)) hx (bools_ok.below hQ h2)))
  clear hl
  obtain ⟨q, hq⟩ : ∃ q : Bool, q = xs.all G := ⟨_, rfl⟩
  rw [← hq] at KI ⊢
  clear hq
  cases q
  all_goals
    go_enter Try.func164, Try.ntmps164
    go_wp2_with fail
    refine (KI.out _ (by unfold Sees; go_grown) (by simp [go_sem])).mono ?_
    rintro e w1 ⟨rfl, hb⟩
    have B1 : Sees w w1 := Sees.below (by unfold Sees; go_grown) hb
    clear hb
    go_wp2_with fail
    go_ret
    exact ⟨rfl, B1⟩
end Go.Proofs.Ytojheipllpkgdaa

namespace Go.Proofs.Ytojheipllpkgdaa
open Go.RowKit

end Go.Proofs.Ytojheipllpkgdaa

namespace Go.Proofs.Ytojheipllpkgdaa
open Go.RowKit

theorem zero5 : (Value.cells (.agg #[.int .i64 0, .int .i64 0, .int .i64 0, .slice none 0 0, .slice none 0 0])) = #[.int .i64 0, .int .i64 0, .int .i64 0, .slice none 0 0, .slice none 0 0] := rfl

/-- The state of the loop over the actions: block b holds the model so far. -/
structure Sup (w1 : World) (s2 t a p : Nat) (ts : List (List Bool)) (A1 : Option Addr) (acts : List (List (List Bool))) (v : Value) (W : World) : Prop where
  box : W.heap[w1.heap.size]? = some (.cells #[.int .i64 (t : Int), .int .i64 (a : Int), .int .i64 (p : Int), .slice A1 t t, v] 32 (0, 0))
  acc : Acc 29 BBF List.length s2 W v acts
  tests : BBF W ts A1 (rng (w1.heap.size + 1) s2)
  below : Below w1.heap.size w1 W
  size : s2 ≤ W.heap.size
  low : w1.heap.size + 1 ≤ s2
theorem Sup.grow {w1 W W' : World} {s2 t a p : Nat} {ts : List (List Bool)} {A1 : Option Addr} {acts : List (List (List Bool))} {v : Value} (h : Sup w1 s2 t a p ts A1 acts v W) (hb : Below W.heap.size W W') : Sup w1 s2 t a p ts A1 acts v W' :=
  ⟨(hb.block _ (by have := h.size; have := h.low; omega)).trans h.box, h.acc.below bbF_ok hb, bbF_ok.keep h.tests fun k hk => hb.block k (by have := hk.2; have := h.size; omega), h.below.trans (hb.mono h.below.size), Nat.le_trans h.size hb.size, h.low⟩

theorem Acc.form {α : Type} {E : TypeId} {Q : World → α → Option Addr → FP → Prop} {ln : α → Nat} {base : Nat} {W : World} {v : Value} {xs : List α} (h : Acc E Q ln base W v xs) : ∃ A n C, v = .slice A n C := let ⟨A, C, h, _⟩ := h.done; ⟨A, _, C, h⟩
theorem Sup.push {w1 Wa w' : World} {s2 t a p : Nat} {ts : List (List Bool)} {A1 : Option Addr} {acts acts' : List (List (List Bool))} {v v' : Value} (h : Sup w1 s2 t a p ts A1 acts v Wa) (hacc : Acc 29 BBF List.length s2 w' v' acts') (hg : Wa.grownBy w' v.ownBlock) :
    Sup w1 s2 t a p ts A1 acts' v' (w'.setCell ⟨w1.heap.size, 4, none⟩ v') ∧ w'.heap[w1.heap.size]? = some (.cells #[.int .i64 (t : Int), .int .i64 (a : Int), .int .i64 (p : Int), .slice A1 t t, v] 32 (0, 0)) := by
  obtain ⟨vals, G, h1, _⟩ := h.acc
  have hlt := h1.lt
  have z1 := h.size; have z2 := h.low; have z3 := hg.size
  have hk : ∀ k, k < s2 → w'.heap[k]? = Wa.heap[k]? := fun k hk => hg.block k (by omega) (fun he => by have := (hlt k he.symm).1; omega)
  have hbx := (hk w1.heap.size (by omega)).trans h.box
  have hks : ∀ k, k ≠ w1.heap.size → (w'.setCell ⟨w1.heap.size, 4, none⟩ v').heap[k]? = w'.heap[k]? := fun k hk2 => Below.heap_setCell _ _ _ _ hk2
  have hsz : (w'.setCell ⟨w1.heap.size, 4, none⟩ v').heap.size = w'.heap.size := by simp
  refine ⟨⟨by rw [Fo.block_setCell hbx _]; rfl, hacc.keep bbF_ok (by rw [hsz]; exact Nat.le_refl _) (fun k hk2 _ => hks k (by omega)), bbF_ok.keep h.tests fun k hk2 => (hks k (by have := hk2.1; omega)).trans (hk k hk2.2), ?_, by rw [hsz]; omega, h.low⟩, hbx⟩
  exact Below.setCell (h.below.trans ⟨hg.os, hg.tape, hg.output, hg.size, fun k hk2 => hk k (by omega)⟩) (Nat.le_refl _) _

theorem Sup.mend {w1 W : World} {s2 t a p n b : Nat} {ts : List (List Bool)} {A1 A2 : Option Addr} {acts : List (List (List Bool))} {v : Value} {w : World} (h : Sup w1 s2 t a p ts A1 acts v W) (hR : RowsF BBF List.length W acts A2 (rng s2 W.heap.size)) (hn : w.heap.size ≤ b) (hb : b < w1.heap.size) (hw : Below w.heap.size w W) (v0 v1 v2 v3 v4 : Value) {C1 C2 : Nat} (ht : ts.length = t) (ha : acts.length = n) :
    MEnd t a p ts acts 0 w (.returned (.tuple #[.agg #[.int .i64 t, .int .i64 a, .int .i64 p, .slice A1 t C1, .slice A2 n C2], .int .i64 0])) (((((W.setCell ⟨b, 0, none⟩ v0).setCell ⟨b, 1, none⟩ v1).setCell ⟨b, 2, none⟩ v2).setCell ⟨b, 3, none⟩ v3).setCell ⟨b, 4, none⟩ v4) := by
  subst ht ha
  have z1 := h.low; have z2 := h.size
  have zs : (((((W.setCell ⟨b, 0, none⟩ v0).setCell ⟨b, 1, none⟩ v1).setCell ⟨b, 2, none⟩ v2).setCell ⟨b, 3, none⟩ v3).setCell ⟨b, 4, none⟩ v4).heap.size = W.heap.size := by simp
  refine ⟨A1, A2, C1, C2, rfl, ⟨by rw [zs]; omega, rng (w1.heap.size + 1) s2, rng s2 W.heap.size, bbF_ok.keep h.tests fun k hk => five_keep W b k _ _ _ _ _ (by have := hk.1; omega), (rowsF_ok bbF_ok List.length).keep hR fun k hk => five_keep W b k _ _ _ _ _ (by have := hk.1; omega), fun k hk => ⟨by have := hk.1; omega, by rw [zs]; have := hk.2; omega⟩, fun k hk => ⟨by have := hk.1; omega, by rw [zs]; exact hk.2⟩, fun k h1 h2 => by have := h1.2; have := h2.1; omega⟩, five_below hw hn _ _ _ _ _⟩

end Go.Proofs.Ytojheipllpkgdaa

namespace Go.Proofs.Ytojheipllpkgdaa
open Go.RowKit
set_option linter.unusedVariables false

theorem Sup.mret {w1 W : World} {s2 t a p n b : Nat} {ts : List (List Bool)} {A1 A2 : Option Addr} {acts : List (List (List Bool))} {v : Value} {w : World} (h : Sup w1 s2 t a p ts A1 acts v W) (hR : RowsF BBF List.length W acts A2 (rng s2 W.heap.size)) (hn : w.heap.size ≤ b) (hb : b < w1.heap.size) (hw : Below w.heap.size w W) (v0 v1 v2 v3 v4 : Value) {C1 C2 : Nat} (ht : ts.length = t) (ha : acts.length = n) :
    MRet t a p ts acts w (.returned (.agg #[.int .i64 (t : Int), .int .i64 (a : Int), .int .i64 (p : Int), .slice A1 t C1, .slice A2 n C2])) (((((W.setCell ⟨b, 0, none⟩ v0).setCell ⟨b, 1, none⟩ v1).setCell ⟨b, 2, none⟩ v2).setCell ⟨b, 3, none⟩ v3).setCell ⟨b, 4, none⟩ v4) := by
  subst ha
  have z1 := h.low; have z2 := h.size
  have zs : (((((W.setCell ⟨b, 0, none⟩ v0).setCell ⟨b, 1, none⟩ v1).setCell ⟨b, 2, none⟩ v2).setCell ⟨b, 3, none⟩ v3).setCell ⟨b, 4, none⟩ v4).heap.size = W.heap.size := by simp
  refine ⟨A1, A2, C1, C2, s2, by rw [ht], by omega, by rw [zs]; omega, bbF_ok.mono (bbF_ok.keep h.tests fun k hk => five_keep W b k _ _ _ _ _ (by have := hk.1; omega)) (fun k hk => ⟨by have := hk.1; omega, hk.2⟩), ?_, five_below hw hn _ _ _ _ _⟩
  rw [zs]
  exact (rowsF_ok bbF_ok List.length).keep hR fun k hk => five_keep W b k _ _ _ _ _ (by have := hk.1; omega)

end Go.Proofs.Ytojheipllpkgdaa
