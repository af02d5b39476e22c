/- SupportOf: contract at valid arguments. -/
import Derived.Test.YtlmbcggfoaaibaaSupB
import Derived.Test.YtlmbcggfoaaibaaShpI
import Derived.Deep.RegionLaw
namespace Go.Proofs.Ytlmbcggfoaaibaa
open Go.RowKit

set_option maxHeartbeats 1000000 in
theorem supClo1_any (ac : List (List Bool)) (i x : Nat) (hi : i < ac.length) (hx : x < ac[i].length) (h8 : ac.length ≤ 8 ∧ ac[i].length ≤ 8) (b : Nat) (A : Option Addr) (C : Nat) (w : World) (hA : BB 0 w ac A) (g3 : w.cell? ⟨b, 3, none⟩ = some (.slice A ac.length C)) :
    Calls Try.prog 84 #[.int .i64 (i : Int), .int .i64 (x : Int), .pointer (some ⟨b, 0, none⟩)] w fun e w' => e = .returned (.bool ((ac.getD i []).getD x false)) ∧ Below w.heap.size w w' := by
  rw [getD_bb hi hx]
  obtain ⟨y, z, _, rfl, hat⟩ := hA (by rintro rfl; simp at hi)
  obtain ⟨R, D, c, q⟩ := hat i ac[i] (List.getElem?_eq_getElem hi)
  obtain ⟨row, hr⟩ : ∃ row, row = ac[i] := ⟨_, rfl⟩
  have h9 := h8.2
  have hx2 : x < row.length := by rw [hr]; exact hx
  have he : ac[i][x] = row[x] := by subst hr; rfl
  rw [he]
  rw [← hr] at c q h9
  obtain ⟨y2, z2, _, rfl, hat2⟩ := q (by rintro rfl; simp at hx2)
  have d := hat2 x row[x] (List.getElem?_eq_getElem hx2)
  obtain ⟨v, hv⟩ : ∃ v, v = row[x] := ⟨_, rfl⟩
  rw [← hv] at d ⊢
  have HAT := Lib.hid hat; have HAT2 := Lib.hid hat2; have h1 := h8.1
  have i0 : (0 : Int) ≤ (i : Int) := Int.natCast_nonneg _
  have i1 : (i : Int) < (ac.length : Int) := by omega
  have x0 : (0 : Int) ≤ (x : Int) := Int.natCast_nonneg _
  have x1 : (x : Int) < (row.length : Int) := by omega
  clear hat hat2 he hr hv h8 hx
  go_enter Try.func84, Try.ntmps84
  go_wp2_with fail
  go_ret
  exact ⟨rfl, Below.refl _ _⟩

set_option maxHeartbeats 1000000 in
theorem supClo2_any (rows : List (List Int)) (i x : Nat) (hi : i < rows.length) (hx : x < rows[i].length) (h8 : rows.length ≤ 8 ∧ rows[i].length ≤ 8) (b : Nat) (A : Option Addr) (C : Nat) (w : World) (hA : II 0 w rows A) (g3 : w.cell? ⟨b, 0, none⟩ = some (.slice A rows.length C)) :
    Calls Try.prog 85 #[.int .i64 (i : Int), .int .i64 (x : Int), .pointer (some ⟨b, 0, none⟩)] w fun e w' => e = .returned (.bool ((rows.getD i []).getD x 0 != -1)) ∧ Below w.heap.size w w' := by
  rw [getD_ii hi hx]
  obtain ⟨y, z, _, rfl, hat⟩ := hA (by rintro rfl; simp at hi)
  obtain ⟨R, D, c, q⟩ := hat i rows[i] (List.getElem?_eq_getElem hi)
  obtain ⟨row, hr⟩ : ∃ row, row = rows[i] := ⟨_, rfl⟩
  have h9 := h8.2
  have hx2 : x < row.length := by rw [hr]; exact hx
  have he : rows[i][x] = row[x] := by subst hr; rfl
  rw [he]
  rw [← hr] at c q h9
  obtain ⟨y2, z2, _, rfl, hat2⟩ := q (by rintro rfl; simp at hx2)
  have d := hat2 x row[x] (List.getElem?_eq_getElem hx2)
  obtain ⟨v, hv⟩ : ∃ v, v = row[x] := ⟨_, rfl⟩
  rw [← hv] at d ⊢
  obtain ⟨q, hq⟩ : ∃ q : Bool, q = (v != -1) := ⟨_, rfl⟩
  have HAT := Lib.hid hat; have HAT2 := Lib.hid hat2; have h1 := h8.1
  have i0 : (0 : Int) ≤ (i : Int) := Int.natCast_nonneg _
  have i1 : (i : Int) < (rows.length : Int) := by omega
  have x0 : (0 : Int) ≤ (x : Int) := Int.natCast_nonneg _
  have x1 : (x : Int) < (row.length : Int) := by omega
  have HQ : Hid ((v != -1) = q) := hq.symm
  rw [← hq]
  clear hat hat2 he hr hv h8 hx hq
  go_enter Try.func85, Try.ntmps85
  go_wp2_with fail
  go_ret
  exact ⟨ret_bool HQ.out, Below.refl _ _⟩

theorem zero5 : (Value.cells (.agg #[.int .i64 0, .int .i64 0, .int .i64 0, .slice none 0 0, .slice none 0 0])) = #[.int .i64 0, .int .i64 0, .int .i64 0, .slice none 0 0, .slice none 0 0] := rfl

/-- The state of the loop over the actions: block b holds the model so far. -/
structure Sup (w1 : World) (s2 t a p : Nat) (ts : List (List Bool)) (A1 : Option Addr) (acts : List (List (List Bool))) (v : Value) (W : World) : Prop where
  box : W.heap[w1.heap.size]? = some (.cells #[.int .i64 (t : Int), .int .i64 (a : Int), .int .i64 (p : Int), .slice A1 t t, v] 32 (0, 0))
  acc : Acc 24 BBF List.length s2 W v acts
  tests : BBF W ts A1 (rng (w1.heap.size + 1) s2)
  below : Below w1.heap.size w1 W
  size : s2 ≤ W.heap.size
  low : w1.heap.size + 1 ≤ s2
theorem Sup.grow {w1 W W' : World} {s2 t a p : Nat} {ts : List (List Bool)} {A1 : Option Addr} {acts : List (List (List Bool))} {v : Value} (h : Sup w1 s2 t a p ts A1 acts v W) (hb : Below W.heap.size W W') : Sup w1 s2 t a p ts A1 acts v W' :=
  ⟨(hb.block _ (by have := h.size; have := h.low; omega)).trans h.box, h.acc.below bbF_ok hb, bbF_ok.keep h.tests fun k hk => hb.block k (by have := hk.2; have := h.size; omega), h.below.trans (hb.mono h.below.size), Nat.le_trans h.size hb.size, h.low⟩

theorem Acc.form {α : Type} {E : TypeId} {Q : World → α → Option Addr → FP → Prop} {ln : α → Nat} {base : Nat} {W : World} {v : Value} {xs : List α} (h : Acc E Q ln base W v xs) : ∃ A n C, v = .slice A n C := let ⟨A, C, h, _⟩ := h.done; ⟨A, _, C, h⟩
theorem Sup.push {w1 Wa w' : World} {s2 t a p : Nat} {ts : List (List Bool)} {A1 : Option Addr} {acts acts' : List (List (List Bool))} {v v' : Value} (h : Sup w1 s2 t a p ts A1 acts v Wa) (hacc : Acc 24 BBF List.length s2 w' v' acts') (hg : Wa.grownBy w' v.ownBlock) :
    Sup w1 s2 t a p ts A1 acts' v' (w'.setCell ⟨w1.heap.size, 4, none⟩ v') ∧ w'.heap[w1.heap.size]? = some (.cells #[.int .i64 (t : Int), .int .i64 (a : Int), .int .i64 (p : Int), .slice A1 t t, v] 32 (0, 0)) := by
  obtain ⟨vals, G, h1, _⟩ := h.acc
  have hlt := h1.lt
  have z1 := h.size; have z2 := h.low; have z3 := hg.size
  have hk : ∀ k, k < s2 → w'.heap[k]? = Wa.heap[k]? := fun k hk => hg.block k (by omega) (fun he => by have := (hlt k he.symm).1; omega)
  have hbx := (hk w1.heap.size (by omega)).trans h.box
  have hks : ∀ k, k ≠ w1.heap.size → (w'.setCell ⟨w1.heap.size, 4, none⟩ v').heap[k]? = w'.heap[k]? := fun k hk2 => Below.heap_setCell _ _ _ _ hk2
  have hsz : (w'.setCell ⟨w1.heap.size, 4, none⟩ v').heap.size = w'.heap.size := by simp
  refine ⟨⟨by rw [Fo.block_setCell hbx _]; rfl, hacc.keep bbF_ok (by rw [hsz]; exact Nat.le_refl _) (fun k hk2 _ => hks k (by omega)), bbF_ok.keep h.tests fun k hk2 => (hks k (by have := hk2.1; omega)).trans (hk k hk2.2), ?_, by rw [hsz]; omega, h.low⟩, hbx⟩
  exact Below.setCell (h.below.trans ⟨hg.os, hg.tape, hg.output, hg.size, fun k hk2 => hk k (by omega)⟩) (Nat.le_refl _) _

theorem Sup.mend {w1 W : World} {s2 t a p n b : Nat} {ts : List (List Bool)} {A1 A2 : Option Addr} {acts : List (List (List Bool))} {v : Value} {w : World} (h : Sup w1 s2 t a p ts A1 acts v W) (hR : RowsF BBF List.length W acts A2 (rng s2 W.heap.size)) (hn : w.heap.size ≤ b) (hb : b < w1.heap.size) (hw : Below w.heap.size w W) (v0 v1 v2 v3 v4 : Value) {C1 C2 : Nat} (ht : ts.length = t) (ha : acts.length = n) :
    MEnd t a p ts acts 0 w (.returned (.tuple #[.agg #[.int .i64 t, .int .i64 a, .int .i64 p, .slice A1 t C1, .slice A2 n C2], .int .i64 0])) (((((W.setCell ⟨b, 0, none⟩ v0).setCell ⟨b, 1, none⟩ v1).setCell ⟨b, 2, none⟩ v2).setCell ⟨b, 3, none⟩ v3).setCell ⟨b, 4, none⟩ v4) := by
  subst ht ha
  have z1 := h.low; have z2 := h.size
  have zs : (((((W.setCell ⟨b, 0, none⟩ v0).setCell ⟨b, 1, none⟩ v1).setCell ⟨b, 2, none⟩ v2).setCell ⟨b, 3, none⟩ v3).setCell ⟨b, 4, none⟩ v4).heap.size = W.heap.size := by simp
  refine ⟨A1, A2, C1, C2, rfl, ⟨by rw [zs]; omega, rng (w1.heap.size + 1) s2, rng s2 W.heap.size, bbF_ok.keep h.tests fun k hk => five_keep W b k _ _ _ _ _ (by have := hk.1; omega), (rowsF_ok bbF_ok List.length).keep hR fun k hk => five_keep W b k _ _ _ _ _ (by have := hk.1; omega), fun k hk => ⟨by have := hk.1; omega, by rw [zs]; have := hk.2; omega⟩, fun k hk => ⟨by have := hk.1; omega, by rw [zs]; exact hk.2⟩, fun k h1 h2 => by have := h1.2; have := h2.1; omega⟩, five_below hw hn _ _ _ _ _⟩

set_option maxHeartbeats 8000000 in
set_option maxRecDepth 100000 in
theorem implSupportOf_yes (t a p : Nat) (ac : List (List Bool)) (nx : List (List (List Int))) (hs : SmallA ac nx) (hv : validC t a p ac nx = true) (A B : Option Addr) (C D : Nat) (w : World) (hA0 : BB 0 w ac A) (hB0 : III 0 w nx B) :
    Calls Try.prog 33 #[.agg #[.int .i64 (t : Int), .int .i64 (a : Int), .int .i64 (p : Int), .slice A ac.length C, .slice B nx.length D]] w (MEnd t a p (supT t p ac) (supA p nx) 0 w) := by
  obtain ⟨_, ht3, _, ha4, hp1, hp8, hal, hnl, har, hnr⟩ := validC_bd hv
  obtain ⟨w0, hw0⟩ : ∃ w0, w0 = (w.alloc (.cells #[.int .i64 (t : Int), .int .i64 (a : Int), .int .i64 (p : Int), .slice A ac.length C, .slice B nx.length D] 43)).alloc (.cells #[.int .i64 0, .int .i64 0, .int .i64 0, .slice none 0 0, .slice none 0 0] 32) := ⟨_, rfl⟩
  have B0 : Sees w w0 := by rw [hw0]; exact ((Sees.refl w).alloc _).alloc _
  have hA := hA0.sees B0; have hB := hB0.sees B0
  have hc0 : w0.heap[w.heap.size]? = some (.cells #[.int .i64 (t : Int), .int .i64 (a : Int), .int .i64 (p : Int), .slice A ac.length C, .slice B nx.length D] 43 (0, 0)) := by
    rw [hw0]; exact (Below.heap_alloc _ _ _ (by simp)).trans (heap_new _ _ _ rfl)
  have hr0 : w0.heap[w.heap.size + 1]? = some (.cells #[.int .i64 0, .int .i64 0, .int .i64 0, .slice none 0 0, .slice none 0 0] 32 (0, 0)) := by
    rw [hw0]; exact heap_new _ _ _ (by simp)
  have z0 : w.heap.size + 2 ≤ w0.heap.size := by rw [hw0]; simp
  have K1 : Hid (∀ W : World, Sees w0 W → Calls Try.prog 23 #[.agg #[.int .i64 (t : Int), .int .i64 (a : Int), .int .i64 (p : Int), .slice A ac.length C, .slice B nx.length D]] W fun e w' => e = .returned (.bool true) ∧ Below W.heap.size W w') := fun W h => by
    rw [← hv]; exact implValidCosts_any t a p ac nx hs A B C D W (hA.sees h) (hB.sees h)
  have HT : Hid (supT t p ac = tab t p fun i x => (ac.getD i []).getD x false) := by show _ = _; unfold supT; simp
  have KT1 : Hid (∀ W : World, Sees w0 W → Calls Try.prog 83 #[.int .i64 (t : Int), .int .i64 (p : Int), .func (.func 84) #[] #[.pointer (some ⟨w.heap.size, 0, none⟩)]] W fun e w' => ∃ A1, e = .returned (.slice A1 t t) ∧ BBF w' (supT t p ac) A1 (rng W.heap.size w'.heap.size) ∧ Below W.heap.size W w') := fun W h => by
    rw [HT.out]
    refine tableOf_any 84 #[.pointer (some ⟨w.heap.size, 0, none⟩)] (enters_of Try.func84 (by kernel_rfl) rfl) t p (by omega) (by omega) _ W (fun W2 x y h2 hx hy => ?_)
    have hxa : x < ac.length := by omega
    have hl := har ac[x] (List.getElem_mem hxa)
    exact supClo1_any ac x y hxa (by omega) ⟨by omega, by omega⟩ w.heap.size A C W2 (hA.sees (h.below h2)) (kc (h.below h2) (Fo.cell_of_block hc0 3))
  have KT2 : Hid (∀ (j : Nat) (hj : j < nx.length) (W : World) (br : Nat) (R : Option Addr) (DD : Nat), II 0 W nx[j] R → W.cell? ⟨br, 0, none⟩ = some (.slice R nx[j].length DD) → Calls Try.prog 83 #[.int .i64 (p : Int), .int .i64 (p : Int), .func (.func 85) #[] #[.pointer (some ⟨br, 0, none⟩)]] W fun e w' => ∃ A1, e = .returned (.slice A1 p p) ∧ BBF w' (supR p nx[j]) A1 (rng W.heap.size w'.heap.size) ∧ Below W.heap.size W w') := fun j hj W br R DD hR hc => by
    obtain ⟨h1, h2⟩ := hnr nx[j] (List.getElem_mem hj)
    have e : supR p nx[j] = tab p p fun x y => (nx[j].getD x []).getD y 0 != -1 := by unfold supR; simp
    rw [e]
    refine tableOf_any 85 #[.pointer (some ⟨br, 0, none⟩)] (enters_of Try.func85 (by kernel_rfl) rfl) p p (by omega) (by omega) _ W (fun W2 x y h3 hx hy => ?_)
    have hxa : x < nx[j].length := by omega
    have hl := h2 nx[j][x] (List.getElem_mem hxa)
    exact supClo2_any nx[j] x y hxa (by omega) ⟨by omega, by omega⟩ br R DD W2 (ii_ok.below hR h3) (kc h3 hc)
  have HB := Lib.hid hB
  have HC0 := Lib.hid hc0; have HR0 := Lib.hid hr0
  have hn4 : nx.length ≤ 4 := by omega
  have FIN : Hid (∀ W : World, Below w0.heap.size w0 W → Sees w W) := fun W h => B0.below h
  clear hA hB hA0 hB0 hv hs har hnr hal hnl ha4 B0 hc0 hr0
  go_enter Try.func33, Try.ntmps33
  obtain ⟨c0, c1, c2, c3, c4, _, _, _, _, _⟩ := five_facts HC0.out
  have HW0 := Lib.hid hw0
  go_wp2_with fail
  rw [← hw0]
  clear hw0
  refine (K1.out _ (Sees.refl _)).mono ?_
  rintro e w1 ⟨rfl, hb⟩
  have S1 := Lib.hid (show Sees w0 w1 from hb)
  have HC1 := Lib.hid ((hb.block _ (by omega)).trans HC0.out)
  have HR1 := Lib.hid ((hb.block _ (by omega)).trans HR0.out)
  have z1 : w.heap.size + 2 ≤ w1.heap.size := Nat.le_trans z0 hb.size
  have zc : w.heap.size < w1.heap.size := by omega
  clear hb K1 c0 c1 c2 c3 c4
  obtain ⟨c0, c1, c2, c3, c4, _, _, _, _, _⟩ := five_facts HC1.out
  go_wp2_with fail
  have HM1 : Hid ((w1.alloc (.cells #[.int .i64 (t : Int), .int .i64 (a : Int), .int .i64 (p : Int), .slice none 0 0, .slice none 0 0] 32)).heap[w1.heap.size]? = some (.cells #[.int .i64 (t : Int), .int .i64 (a : Int), .int .i64 (p : Int), .slice none 0 0, .slice none 0 0] 32 (0, 0))) := heap_new _ _ _ rfl
  refine (KT1.out _ (S1.out.alloc _)).mono ?_
  rintro e w2 ⟨A1, rfl, hQ, hb⟩
  have HQ := Lib.hid hQ
  have S2 : Hid (Below w1.heap.size w1 w2) := ((Below.refl _ _).alloc (Nat.le_refl _) _).trans (hb.mono (by simp))
  have HM2 := Lib.hid ((hb.block _ (by simp)).trans HM1.out)
  have HC2 := Lib.hid ((S2.out.block _ (by omega)).trans HC1.out)
  have z2 : w1.heap.size + 1 ≤ w2.heap.size := by have := hb.size; simpa using this
  clear hQ hb KT1 c0 c1 c2 c3 c4
  obtain ⟨c0, c1, c2, c3, c4, _, _, _, _, _⟩ := five_facts HC2.out
  obtain ⟨m0, m1, m2, m3, m4, n0, n1, n2, n3, n4⟩ := five_facts HM2.out
  obtain ⟨W3, hW3⟩ : ∃ W3, W3 = w2.setCell ⟨w1.heap.size, 3, none⟩ (.slice A1 t t) := ⟨_, rfl⟩
  have hzW3 : W3.heap.size = w2.heap.size := by rw [hW3]; simp
  have hkW3 : ∀ k, k ≠ w1.heap.size → W3.heap[k]? = w2.heap[k]? := fun k hk => by rw [hW3]; exact Below.heap_setCell _ _ _ _ hk
  have H3 : Hid (Sup w1 w2.heap.size t a p (supT t p ac) A1 ((supA p nx).take 0) (.slice none 0 0) W3) := by
    refine ⟨by rw [hW3, Fo.block_setCell HM2.out _]; rfl, Acc.start, ?_, S2.out.trans ⟨by rw [hW3]; rfl, by rw [hW3]; rfl, by rw [hW3]; rfl, by rw [hzW3]; omega, fun k hk => hkW3 k (by omega)⟩, by rw [hzW3]; exact Nat.le_refl _, z2⟩
    have h5 : BBF w2 (supT t p ac) A1 (rng (w1.heap.size + 1) w2.heap.size) := by have := HQ.out; rw [World.size_alloc] at this; exact this
    exact bbF_ok.keep h5 fun k hk => hkW3 k (by have := hk.1; omega)
  have HC3 := Lib.hid ((hkW3 w.heap.size (by omega)).trans HC2.out)
  have e4 : W3.cell? ⟨w.heap.size, 4, none⟩ = some (.slice B nx.length D) := Fo.cell_of_block HC3.out 4
  have e2 : W3.cell? ⟨w.heap.size, 2, none⟩ = some (.int .i64 (p : Int)) := Fo.cell_of_block HC3.out 2
  clear hkW3 hzW3
  go_wp2_with fail
  rw [← hW3]
  have HWW3 := Lib.hid hW3
  clear hW3 c0 c1 c2 c3 c4 m0 m1 m2 m3 m4 n0 n1 n2 n3 n4
  go_wp2_with fail
  clear e4 e2
  go_loopw [27] (fun i wr => ∃ (j : Nat) (v : Value), j ≤ nx.length ∧ i = .int .i64 j ∧ Hid (Sup w1 w2.heap.size t a p (supT t p ac) A1 ((supA p nx).take j) v wr)) (fun i _ => nx.length - (intOf i).toNat)
  case atStart => exact ⟨0, _, Nat.zero_le _, rfl, H3.out⟩
  case round =>
    obtain ⟨j, v, hj, rfl, hS⟩ := hrel
    clear H3
    have HCr := (hS.out.below.block w.heap.size zc).trans HC1.out
    obtain ⟨c0, c1, c2, c3, c4, _, _, _, _, _⟩ := five_facts HCr
    obtain ⟨m0, m1, m2, m3, m4, n0, n1, n2, n3, n4⟩ := five_facts hS.out.box
    have zw1 : w1.heap.size < wr.heap.size := by have := hS.out.size; have := hS.out.low; omega
    have zcr : w.heap.size < wr.heap.size := by omega
    by_cases hjn : j < nx.length
    · have hS0 : Sees w0 wr := S1.out.below hS.out.below
      obtain ⟨y, z, _, hBe, hat⟩ := HB.out (by rintro rfl; simp at hjn)
      obtain ⟨RB, DB, cB, qB⟩ := hat j nx[j] (List.getElem?_eq_getElem hjn)
      have KJ := KT2.out j hjn
      have hstep := supA_step (p := (p : Int)) hjn
      obtain ⟨rows, hrows⟩ : ∃ x, x = nx[j] := ⟨_, rfl⟩
      rw [← hrows] at cB qB KJ hstep
      have cB1 := kc hS0 cB
      have KJ2 : Hid (∀ W : World, Sees (wr.alloc (.cells #[.slice RB rows.length DB] 113)) W → Calls Try.prog 83 #[.int .i64 (p : Int), .int .i64 (p : Int), .func (.func 85) #[] #[.pointer (some ⟨wr.heap.size, 0, none⟩)]] W fun e w' => ∃ A2, e = .returned (.slice A2 p p) ∧ BBF w' (supR p rows) A2 (rng wr.heap.size w'.heap.size) ∧ Sees wr w') := fun W h => by
        have hw : Sees wr W := Below.trans ((Below.refl _ _).alloc (Nat.le_refl _) _) (h.mono (by simp))
        refine (KJ W wr.heap.size RB DB (ii_ok.below qB (hS0.below hw)) (kc h (by simp [go_sem]))).mono ?_
        rintro e w' ⟨A2, he, hQ, hb⟩
        exact ⟨A2, he, bbF_ok.mono hQ fun k hk => ⟨Nat.le_trans hw.size hk.1, hk.2⟩, hw.below hb⟩
      have hlen : ((supA p nx).take j).length = j := by rw [List.length_take, supA_len]; omega
      have JL := Lib.hid hjn; have HST := Lib.hid hstep; have HLEN := Lib.hid hlen
      have j0 : (0 : Int) ≤ (j : Int) := Int.natCast_nonneg _
      have j1 : (j : Int) < (nx.length : Int) := by omega
      have j4 : j ≤ 1048576 := by omega
      have HAT := Lib.hid hat
      subst hBe
      clear hrows cB qB KJ hstep hlen hjn hat hS0
      go_wp2_with fail
      go_region_law (first
        | (go_simp; go_at_call 83; refine (KJ2.out _ ?_).mono ?_; (first | exact Sees.refl _ | exact (Sees.refl _).drew | exact (Sees.refl _).drew.drew); rintro e wa ⟨A2, rfl, hQ2, hsa⟩; have HQ2 := Lib.hid hQ2; have HSA := Lib.hid hsa; have HU := Lib.hid (hS.out.grow hsa); obtain ⟨p0, p1, p2, p3, p4, o0, o1, o2, o3, o4⟩ := five_facts HU.out.box; obtain ⟨vals, hvl, hown, hp⟩ := Acc.push bbF_ok hS.out.acc hS.out.size hsa hQ2 (Wa := wa.alloc (.cells #[.slice A2 p p] 24)) (C := p) ((Below.refl _ _).alloc (Nat.le_refl _) _); have hln : List.length (supR (p : Int) rows) = p := (by rw [supR_len]; simp); rw [hln, HLEN.out] at hp; rw [HLEN.out] at hown; have HOWN := Lib.hid hown; have HP := Lib.hid hp; have zwa : w1.heap.size < wa.heap.size := (Nat.lt_of_lt_of_le zw1 hsa.size); clear hown hp hQ2 hsa)
        | (refine step_one Try.elBBB (wa.alloc (.cells #[.slice A2 p p] 24)) (by rfl) _ _ (by rfl) w2.heap.size j wa.heap.size v (.slice A2 p p) vals (by rfl) (by rfl) HOWN.out (by simp [go_sem]) rfl j4 (by have := HU.out.size; simp; omega) ?_; intro v' w' ho hg hat; have hacc := HP.out v' w' ho hg hat; obtain ⟨Zv, lv, Cv, hvf⟩ := hacc.form; subst hvf; obtain ⟨hX, hbx⟩ := (HU.out.grow ((Below.refl _ _).alloc (Nat.le_refl _) _)).push hacc hg; have HX := Lib.hid hX; obtain ⟨q0, q1, q2, q3, q4, t0, t1, t2, t3, t4⟩ := five_facts hbx; clear hX hacc ho hg hat))
      all_goals
        have HX2 : Hid (Sup w1 w2.heap.size t a p (supT t p ac) A1 ((supA p nx).take (j + 1)) (.slice Zv lv Cv) (w'.setCell ⟨w1.heap.size, 4, none⟩ (.slice Zv lv Cv))) := by rw [HST.out]; exact HX.out
        go_wp2_with fail
        go_roundw
        case rel => exact ⟨j + 1, _, JL.out, by go_num, HX2.out⟩
        case measure => have := JL.out; simp [intOf]; omega
    · obtain rfl : j = nx.length := by omega
      have HRr := (hS.out.below.block (w.heap.size + 1) (by omega)).trans HR1.out
      obtain ⟨u0, u1, u2, u3, u4, x0, x1, x2, x3, x4⟩ := five_facts HRr
      have hdone := hS.out.acc.done
      have hall : (supA (p : Int) nx).take nx.length = supA p nx := List.take_of_length_le (by rw [supA_len]; exact Nat.le_refl _)
      rw [hall, supA_len] at hdone
      rw [hall] at hS
      obtain ⟨A2, C2, hv2, hR2⟩ := hdone
      subst hv2
      have HR2 := Lib.hid hR2
      clear hR2
      go_wp2_with fail
      obtain ⟨y0, y1, y2, y3, y4, _, _, _, _, _⟩ := five_facts (five_block HRr (.int .i64 (t : Int)) (.int .i64 (a : Int)) (.int .i64 (p : Int)) (.slice A1 t t) (.slice A2 nx.length C2))
      refine bodyPost_ret (v := .tuple #[.agg #[.int .i64 t, .int .i64 a, .int .i64 p, .slice A1 t t, .slice A2 nx.length C2], .int .i64 0]) (by simp [results, Try.results33, go_sem, y0, y1, y2, y3, y4]) rfl ?_
      exact hS.out.mend HR2.out (by omega) (by omega) (FIN.out _ (S1.out.below hS.out.below)) _ _ _ _ _ (by simp [supT, tab_len]) (supA_len _ _)
end Go.Proofs.Ytlmbcggfoaaibaa
