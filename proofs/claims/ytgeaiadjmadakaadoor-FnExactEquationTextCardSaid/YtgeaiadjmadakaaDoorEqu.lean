/- Equations in the laws: their sizes, copies and comparisons. -/
import Derived.Test.YtgeaiadjmadakaaDoorSz
import Derived.Test.YtgeaiadjmadakaaDoorTo
import Derived.Test.YtgeaiadjmadakaaDoorEq
import Derived.Test.YtgeaiadjmadakaaDoorSep
import Derived.Deep.RegionHeld3
namespace Go.Proofs.YtgeaiadjmadakaaDoor
open Go.RowKit

/-- An equation's two sides, in blocks of their own. -/
def EqIn (w : World) (f g : Fo) (lo hi : Nat) (A B : Option Addr) : Prop := ∃ m, f.SepIn w lo m A ∧ g.SepIn w m hi B
theorem EqIn.lies1 {w : World} {f g : Fo} {lo hi : Nat} {A B : Option Addr} (h : EqIn w f g lo hi A B) : f.Lies w A := let ⟨_, h1, _⟩ := h; h1.lies
theorem EqIn.lies2 {w : World} {f g : Fo} {lo hi : Nat} {A B : Option Addr} (h : EqIn w f g lo hi A B) : g.Lies w B := let ⟨_, _, h2⟩ := h; h2.lies

section
variable {W : World} {s : Nat} {x0 x1 x2 x3 x4 x5 : Value} {T : TypeId}
theorem cells6 (h : W.heap[s]? = some (.cells #[x0, x1, x2, x3, x4, x5] T (0, 0))) : (W.cell? ⟨s, 0, none⟩ = some x0 ∧ W.cell? ⟨s, 1, none⟩ = some x1 ∧ W.cell? ⟨s, 2, none⟩ = some x2 ∧ W.cell? ⟨s, 3, none⟩ = some x3 ∧ W.cell? ⟨s, 4, none⟩ = some x4 ∧ W.cell? ⟨s, 5, none⟩ = some x5) ∧
    W.frozen? ⟨s, 0, none⟩ = false ∧ W.frozen? ⟨s, 1, none⟩ = false ∧ W.frozen? ⟨s, 2, none⟩ = false ∧ W.frozen? ⟨s, 3, none⟩ = false ∧ W.frozen? ⟨s, 4, none⟩ = false ∧ W.frozen? ⟨s, 5, none⟩ = false :=
  ⟨⟨Fo.cell_of_block h 0, Fo.cell_of_block h 1, Fo.cell_of_block h 2, Fo.cell_of_block h 3, Fo.cell_of_block h 4, Fo.cell_of_block h 5⟩, Fo.unfrozen_of_block h 0, Fo.unfrozen_of_block h 1, Fo.unfrozen_of_block h 2, Fo.unfrozen_of_block h 3, Fo.unfrozen_of_block h 4, Fo.unfrozen_of_block h 5⟩
end

set_option maxHeartbeats 1000000 in
theorem szEquation_any (k n : Int) (f : Fo) (j o : Int) (g : Fo) (hm : f.len ≤ 9223372036854775807) (hf : f.Fits) (hs : g.len ≤ 9223372036854775807) (hg : g.Fits) (l : Int) (A B : Option Addr) (C D : Nat) (w : World) (hl : f.Lies w A) (hr : g.Lies w B) (h1 : -1 ≤ l) (h2 : l ≤ 1048576) :
    Calls Tryd.prog 6 #[.agg #[.int .i64 k, .int .i64 n, .slice A f.len C, .int .i64 j, .int .i64 o, .slice B g.len D], .int .i64 l] w fun e w' => e = .returned (.int .i64 (szR (f.nodes + g.nodes) l)) ∧ Below w.heap.size w w' := by
  have LL : ∀ (W : World), Sees w W → f.Lies W A ∧ g.Lies W B := fun W h => ⟨hl.sees h, hr.sees h⟩
  by_cases hx : l < f.nodes
  · have hz := szR_neg hx
    have H := Lib.hid (szR_neg (n := f.nodes + g.nodes) (l := l) (by omega))
    have K1 : Hid (∀ W : World, Sees w W → Calls Tryd.prog 22 #[.agg #[.int .i64 k, .int .i64 n, .slice A f.len C], .int .i64 l] W fun e w' => e = .returned (.int .i64 (-1)) ∧ Below W.heap.size W w') := fun W h => by rw [← hz]; exact szExpr_any f hm hf k n l A C W (LL W h).1 h1 h2
    clear hz LL hl hr
    go_enter Tryd.func6, Tryd.ntmps6
    go_wp2_with fail
    refine (K1.out _ (by unfold Sees; go_grown)).mono ?_; rintro e w1 ⟨rfl, hb⟩
    have B1 : Sees w w1 := Sees.below (by unfold Sees; go_grown) hb
    clear hb
    go_wp2_with fail
    go_ret
    exact ⟨ret_int H.out.symm, B1⟩
  · obtain ⟨s, hz, hs0, hs1, hs2⟩ : ∃ s : Int, s = szR f.nodes l ∧ 0 ≤ s ∧ s ≤ 1048576 ∧ s = l - f.nodes := ⟨_, rfl, by rw [szR_pos (by omega)]; omega, by rw [szR_pos (by omega)]; omega, by rw [szR_pos (by omega)]⟩
    have K1 : Hid (∀ W : World, Sees w W → Calls Tryd.prog 22 #[.agg #[.int .i64 k, .int .i64 n, .slice A f.len C], .int .i64 l] W fun e w' => e = .returned (.int .i64 s) ∧ Below W.heap.size W w') := fun W h => by rw [hz]; exact szExpr_any f hm hf k n l A C W (LL W h).1 h1 h2
    clear hz
    obtain ⟨s2, hs3⟩ : ∃ s2 : Int, s2 = szR g.nodes s := ⟨_, rfl⟩
    have H : Hid (szR (f.nodes + g.nodes) l = s2) := by
      show _ = _
      rw [hs3]
      unfold szR
      rw [hs2]
      split <;> split <;> omega
    have K2 : Hid (∀ W : World, Sees w W → Calls Tryd.prog 22 #[.agg #[.int .i64 j, .int .i64 o, .slice B g.len D], .int .i64 s] W fun e w' => e = .returned (.int .i64 s2) ∧ Below W.heap.size W w') := fun W h => by rw [hs3]; exact szExpr_any g hs hg j o s B D W (LL W h).2 (by omega) hs1
    have H2 : Hid (s2 < 0 → s2 = -1) := by
      intro h
      rw [hs3] at h ⊢
      unfold szR at h ⊢
      split <;> simp_all <;> omega
    clear hs3 hs2 LL hl hr
    by_cases hneg : s2 < 0
    all_goals
      go_enter Tryd.func6, Tryd.ntmps6
      go_wp2_with fail
      refine (K1.out _ (by unfold Sees; go_grown)).mono ?_; rintro e w1 ⟨rfl, hb⟩
      have B1 : Sees w w1 := Sees.below (by unfold Sees; go_grown) hb
      have HB1 : w1.heap[w.heap.size]? = some (.cells #[.int .i64 k, .int .i64 n, .slice A f.len C, .int .i64 j, .int .i64 o, .slice B g.len D] 28 (0, 0)) := (hb.block _ (by simp <;> omega)).trans (heap_new _ _ _ rfl)
      clear hb
      obtain ⟨⟨c0, c1, c2, c3, c4, c5⟩, _⟩ := cells6 HB1
      go_wp2_with fail
      refine (K2.out _ B1).mono ?_; rintro e w2 ⟨rfl, hb⟩
      have B2 := B1.below hb
      clear hb
    · have H3 := Lib.hid (H2.out hneg)
      go_wp2_with fail
      go_ret
      exact ⟨ret_int (by rw [H.out, H3.out]), B2⟩
    · go_wp2_with fail
      go_ret
      exact ⟨ret_int H.out.symm, B2⟩

set_option maxHeartbeats 2000000 in
theorem toEquation_any (k n : Int) (f : Fo) (j o : Int) (g : Fo) (hp : f.nodes ≤ 1048576) (hr : g.nodes ≤ 1048576) (A B : Option Addr) (C D : Nat) (w : World) (hl : f.Lies w A) (hl' : g.Lies w B) :
    Calls Tryd.prog 9 #[.agg #[.int .i64 k, .int .i64 n, .slice A f.len C, .int .i64 j, .int .i64 o, .slice B g.len D]] w fun e w' => ∃ Z Y, e = .returned (.agg #[.int .i64 k, .int .i64 n, .slice Z f.len f.len, .int .i64 j, .int .i64 o, .slice Y g.len g.len]) ∧ EqIn w' f g w.heap.size w'.heap.size Z Y ∧ Below w.heap.size w w' := by
  have K1 : Hid (∀ W : World, Sees w W → Calls Tryd.prog 25 #[.agg #[.int .i64 k, .int .i64 n, .slice A f.len C]] W fun e w' => ∃ Z, e = .returned (.agg #[.int .i64 k, .int .i64 n, .slice Z f.len f.len]) ∧ f.SepIn w' W.heap.size w'.heap.size Z ∧ Below W.heap.size W w') := fun W h => (toExpr_any f hp k n A C W (hl.sees h)).mono fun e w' ⟨Z, he, hs, hb⟩ => ⟨Z, he, hs, hb⟩
  have K2 : Hid (∀ W : World, Sees w W → Calls Tryd.prog 25 #[.agg #[.int .i64 j, .int .i64 o, .slice B g.len D]] W fun e w' => ∃ Z, e = .returned (.agg #[.int .i64 j, .int .i64 o, .slice Z g.len g.len]) ∧ g.SepIn w' W.heap.size w'.heap.size Z ∧ Below W.heap.size W w') := fun W h => (toExpr_any g hr j o B D W (hl'.sees h)).mono fun e w' ⟨Z, he, hs, hb⟩ => ⟨Z, he, hs, hb⟩
  clear hl hl'
  go_enter Tryd.func9, Tryd.ntmps9
  go_wp2_with fail
  refine (K1.out _ (by unfold Sees; go_grown)).mono ?_
  rintro e w1 ⟨Z, rfl, hX1, hb1⟩
  have S1 : Sees w w1 := Sees.below (by unfold Sees; go_grown) hb1
  have z1 := hb1.size
  simp only [World.size_alloc] at z1 hX1
  have k0 : w1.heap[w.heap.size]? = some (.cells #[.int .i64 k, .int .i64 n, .slice A f.len C, .int .i64 j, .int .i64 o, .slice B g.len D] 28 (0, 0)) := (hb1.block _ (by simp <;> omega)).trans ((Below.heap_alloc _ _ _ (by simp <;> omega)).trans ((Below.heap_alloc _ _ _ (by simp <;> omega)).trans (heap_new _ _ _ rfl)))
  have k1 : w1.heap[w.heap.size + 1]? = some (.cells #[.int .i64 0, .int .i64 0, .slice none 0 0, .int .i64 0, .int .i64 0, .slice none 0 0] 37 (0, 0)) := (hb1.block _ (by simp <;> omega)).trans ((Below.heap_alloc _ _ _ (by simp <;> omega)).trans (heap_new _ _ _ (by simp)))
  have k2 : w1.heap[w.heap.size + 2]? = some (.cells #[.int .i64 0, .int .i64 0, .slice none 0 0, .int .i64 0, .int .i64 0, .slice none 0 0] 37 (0, 0)) := (hb1.block _ (by simp <;> omega)).trans (heap_new _ _ _ (by simp))
  have HX1 := Lib.hid hX1
  clear hX1 hb1
  obtain ⟨⟨r0, r1, r2, r3, r4, r5⟩, q0, q1, q2, q3, q4, q5⟩ := cells6 k2
  obtain ⟨⟨s0, s1, s2, s3, s4, s5⟩, _⟩ := cells6 k0
  have zr : w.heap.size + 1 + 1 < w1.heap.size := by omega
  go_wp2_with fail
  obtain ⟨W2, hW2⟩ : ∃ W2, W2 = ((w1.setCell ⟨w.heap.size + 2, 0, none⟩ (.int .i64 k)).setCell ⟨w.heap.size + 2, 1, none⟩ (.int .i64 n)).setCell ⟨w.heap.size + 2, 2, none⟩ (.slice Z f.len f.len) := ⟨_, rfl⟩
  have S2 : Sees w W2 := by rw [hW2]; exact Below.setCell (Below.setCell (Below.setCell S1 (by show w.heap.size ≤ w.heap.size + 1 + 1; omega) _) (by show w.heap.size ≤ w.heap.size + 1 + 1; omega) _) (by show w.heap.size ≤ w.heap.size + 1 + 1; omega) _
  have z2 : W2.heap.size = w1.heap.size := by rw [hW2]; simp
  have j2 : W2.heap[w.heap.size + 2]? = some (.cells #[.int .i64 k, .int .i64 n, .slice Z f.len f.len, .int .i64 0, .int .i64 0, .slice none 0 0] 37 (0, 0)) := by
    rw [hW2, Fo.block_setCell (Fo.block_setCell (Fo.block_setCell k2 _) _) _]; rfl
  have j1 : W2.heap[w.heap.size + 1]? = some (.cells #[.int .i64 0, .int .i64 0, .slice none 0 0, .int .i64 0, .int .i64 0, .slice none 0 0] 37 (0, 0)) := by
    rw [hW2, Below.heap_setCell _ _ _ _ (by show w.heap.size + 1 ≠ w.heap.size + 1 + 1; omega), Below.heap_setCell _ _ _ _ (by show w.heap.size + 1 ≠ w.heap.size + 1 + 1; omega), Below.heap_setCell _ _ _ _ (by show w.heap.size + 1 ≠ w.heap.size + 1 + 1; omega)]; exact k1
  have HA2 : Hid (Fo.Agree w1 W2 (w.heap.size + 1 + 1 + 1) w1.heap.size) := by rw [hW2]; exact Fo.Agree.setCell (Fo.Agree.setCell (Fo.Agree.setCell (Fo.Agree.refl _ _ _) _ (Or.inl (by show w.heap.size + 2 < w.heap.size + 1 + 1 + 1; omega)) _) _ (Or.inl (by show w.heap.size + 2 < w.heap.size + 1 + 1 + 1; omega)) _) _ (Or.inl (by show w.heap.size + 2 < w.heap.size + 1 + 1 + 1; omega)) _
  show Calls _ _ _ ((((w1.setCell ⟨w.heap.size + 2, 0, none⟩ (.int .i64 k)).setCell ⟨w.heap.size + 2, 1, none⟩ (.int .i64 n)).setCell ⟨w.heap.size + 2, 2, none⟩ (.slice Z f.len f.len))) _
  rw [← hW2]
  clear hW2 r0 r1 r2 r3 r4 r5 q0 q1 q2 q3 q4 q5 s0 s1 s2 s3 s4 s5 k0 k1 k2
  refine (K2.out _ S2).mono ?_
  rintro e w3 ⟨Y, rfl, hX2, hb2⟩
  have S3 := S2.below hb2
  have z3 := hb2.size
  have HA3 : Hid (Fo.Agree W2 w3 0 W2.heap.size) := Fo.Agree.of_below hb2
  have i1 := (hb2.block (w.heap.size + 1) (by omega)).trans j1
  have i2 := (hb2.block (w.heap.size + 2) (by omega)).trans j2
  have HX2 := Lib.hid hX2
  clear hX2 hb2 j1 j2
  obtain ⟨⟨r0, r1, r2, r3, r4, r5⟩, q0, q1, q2, q3, q4, q5⟩ := cells6 i2
  obtain ⟨⟨s0, s1, s2, s3, s4, s5⟩, t0, t1, t2, t3, t4, t5⟩ := cells6 i1
  go_wp2_with fail
  have h3 : (((w3.setCell ⟨w.heap.size + 2, 3, none⟩ (.int .i64 j)).setCell ⟨w.heap.size + 2, 4, none⟩ (.int .i64 o)).setCell ⟨w.heap.size + 2, 5, none⟩ (.slice Y g.len g.len)).heap[w.heap.size + 1]? = some (.cells #[.int .i64 0, .int .i64 0, .slice none 0 0, .int .i64 0, .int .i64 0, .slice none 0 0] 37 (0, 0)) := by
    rw [Below.heap_setCell _ _ _ _ (by show w.heap.size + 1 ≠ w.heap.size + 2; omega), Below.heap_setCell _ _ _ _ (by show w.heap.size + 1 ≠ w.heap.size + 2; omega), Below.heap_setCell _ _ _ _ (by show w.heap.size + 1 ≠ w.heap.size + 2; omega)]; exact i1
  have HBF : (((((((((w3.setCell ⟨w.heap.size + 2, 3, none⟩ (.int .i64 j)).setCell ⟨w.heap.size + 2, 4, none⟩ (.int .i64 o)).setCell ⟨w.heap.size + 2, 5, none⟩ (.slice Y g.len g.len)).setCell ⟨w.heap.size + 1, 0, none⟩ (.int .i64 k)).setCell ⟨w.heap.size + 1, 1, none⟩ (.int .i64 n)).setCell ⟨w.heap.size + 1, 2, none⟩ (.slice Z f.len f.len)).setCell ⟨w.heap.size + 1, 3, none⟩ (.int .i64 j)).setCell ⟨w.heap.size + 1, 4, none⟩ (.int .i64 o)).setCell ⟨w.heap.size + 1, 5, none⟩ (.slice Y g.len g.len)).heap[w.heap.size + 1]? = some (.cells #[.int .i64 k, .int .i64 n, .slice Z f.len f.len, .int .i64 j, .int .i64 o, .slice Y g.len g.len] 37 (0, 0)) := by
    rw [Fo.block_setCell (Fo.block_setCell (Fo.block_setCell (Fo.block_setCell (Fo.block_setCell (Fo.block_setCell (h3) _) _) _) _) _) _]; rfl
  obtain ⟨⟨d0, d1, d2, d3, d4, d5⟩, _⟩ := cells6 HBF
  refine bodyPost_ret (v := .agg #[.int .i64 k, .int .i64 n, .slice Z f.len f.len, .int .i64 j, .int .i64 o, .slice Y g.len g.len]) (by simp [results, Tryd.results9, go_sem, d0, d1, d2, d3, d4, d5]) rfl ⟨Z, Y, rfl, ⟨w1.heap.size, ?_, ?_⟩, Below.setCell (Below.setCell (Below.setCell (Below.setCell (Below.setCell (Below.setCell (Below.setCell (Below.setCell (Below.setCell (S3) (by show w.heap.size ≤ w.heap.size + 2; omega) _) (by show w.heap.size ≤ w.heap.size + 2; omega) _) (by show w.heap.size ≤ w.heap.size + 2; omega) _) (by show w.heap.size ≤ w.heap.size + 1; omega) _) (by show w.heap.size ≤ w.heap.size + 1; omega) _) (by show w.heap.size ≤ w.heap.size + 1; omega) _) (by show w.heap.size ≤ w.heap.size + 1; omega) _) (by show w.heap.size ≤ w.heap.size + 1; omega) _) (by show w.heap.size ≤ w.heap.size + 1; omega) _⟩
  · have hA := HA3.out.mono (lo' := w.heap.size + 1 + 1 + 1) (hi' := w1.heap.size) (by omega) (by omega)
    exact (((HX1.out.agree HA2.out).agree hA).agree (Fo.Agree.setCell (Fo.Agree.setCell (Fo.Agree.setCell (Fo.Agree.setCell (Fo.Agree.setCell (Fo.Agree.setCell (Fo.Agree.setCell (Fo.Agree.setCell (Fo.Agree.setCell (Fo.Agree.refl _ _ _) _ (Or.inl (by show w.heap.size + 2 < w.heap.size + 1 + 1 + 1; omega)) _) _ (Or.inl (by show w.heap.size + 2 < w.heap.size + 1 + 1 + 1; omega)) _) _ (Or.inl (by show w.heap.size + 2 < w.heap.size + 1 + 1 + 1; omega)) _) _ (Or.inl (by show w.heap.size + 1 < w.heap.size + 1 + 1 + 1; omega)) _) _ (Or.inl (by show w.heap.size + 1 < w.heap.size + 1 + 1 + 1; omega)) _) _ (Or.inl (by show w.heap.size + 1 < w.heap.size + 1 + 1 + 1; omega)) _) _ (Or.inl (by show w.heap.size + 1 < w.heap.size + 1 + 1 + 1; omega)) _) _ (Or.inl (by show w.heap.size + 1 < w.heap.size + 1 + 1 + 1; omega)) _) _ (Or.inl (by show w.heap.size + 1 < w.heap.size + 1 + 1 + 1; omega)) _)).mono (by omega) (Nat.le_refl _)
  · rw [z2] at HX2
    exact (HX2.out.agree (Fo.Agree.setCell (Fo.Agree.setCell (Fo.Agree.setCell (Fo.Agree.setCell (Fo.Agree.setCell (Fo.Agree.setCell (Fo.Agree.setCell (Fo.Agree.setCell (Fo.Agree.setCell (Fo.Agree.refl _ _ _) _ (Or.inl (by show w.heap.size + 2 < w1.heap.size; omega)) _) _ (Or.inl (by show w.heap.size + 2 < w1.heap.size; omega)) _) _ (Or.inl (by show w.heap.size + 2 < w1.heap.size; omega)) _) _ (Or.inl (by show w.heap.size + 1 < w1.heap.size; omega)) _) _ (Or.inl (by show w.heap.size + 1 < w1.heap.size; omega)) _) _ (Or.inl (by show w.heap.size + 1 < w1.heap.size; omega)) _) _ (Or.inl (by show w.heap.size + 1 < w1.heap.size; omega)) _) _ (Or.inl (by show w.heap.size + 1 < w1.heap.size; omega)) _) _ (Or.inl (by show w.heap.size + 1 < w1.heap.size; omega)) _)).mono (Nat.le_refl _) (by simp)

set_option maxHeartbeats 1000000 in
/-- Of an equation and itself: yes. -/
theorem eqEquation_same (k n : Int) (f : Fo) (j o : Int) (g : Fo) (hm : f.len ≤ 9223372036854775807) (hf : f.Fits) (hs : g.len ≤ 9223372036854775807) (hg : g.Fits) (A B A' B' : Option Addr) (C D C' D' : Nat) (w : World) (hl : f.Lies w A) (hr : g.Lies w B) (hl' : f.Lies w A') (hr' : g.Lies w B') :
    Calls Tryd.prog 11 #[.agg #[.int .i64 k, .int .i64 n, .slice A f.len C, .int .i64 j, .int .i64 o, .slice B g.len D], .agg #[.int .i64 k, .int .i64 n, .slice A' f.len C', .int .i64 j, .int .i64 o, .slice B' g.len D']] w fun e w' => e = .returned (.bool true) ∧ Below w.heap.size w w' := by
  have K1 : Hid (∀ W : World, Sees w W → Calls Tryd.prog 28 #[.agg #[.int .i64 k, .int .i64 n, .slice A f.len C], .agg #[.int .i64 k, .int .i64 n, .slice A' f.len C']] W fun e w' => e = .returned (.bool true) ∧ Below W.heap.size W w') := fun W h => eqExpr_same f hm hf k n A C A' C' W (hl.sees h) (hl'.sees h)
  have K2 : Hid (∀ W : World, Sees w W → Calls Tryd.prog 28 #[.agg #[.int .i64 j, .int .i64 o, .slice B g.len D], .agg #[.int .i64 j, .int .i64 o, .slice B' g.len D']] W fun e w' => e = .returned (.bool true) ∧ Below W.heap.size W w') := fun W h => eqExpr_same g hs hg j o B D B' D' W (hr.sees h) (hr'.sees h)
  clear hl hr hl' hr'
  go_enter Tryd.func11, Tryd.ntmps11
  go_wp2_with fail
  refine (K1.out _ (by unfold Sees; go_grown)).mono ?_
  rintro e w1 ⟨rfl, hb⟩
  have B1 : Sees w w1 := Sees.below (by unfold Sees; go_grown) hb
  have HB0 : w1.heap[w.heap.size]? = some (.cells #[.int .i64 k, .int .i64 n, .slice A f.len C, .int .i64 j, .int .i64 o, .slice B g.len D] 37 (0, 0)) := (hb.block _ (by simp <;> omega)).trans ((Below.heap_alloc _ _ _ (by simp <;> omega)).trans (heap_new _ _ _ rfl))
  have HB1 : w1.heap[w.heap.size + 1]? = some (.cells #[.int .i64 k, .int .i64 n, .slice A' f.len C', .int .i64 j, .int .i64 o, .slice B' g.len D'] 37 (0, 0)) := (hb.block _ (by simp <;> omega)).trans (heap_new _ _ _ (by simp))
  clear hb
  obtain ⟨⟨c0, c1, c2, c3, c4, c5⟩, _⟩ := cells6 HB0
  obtain ⟨⟨e0, e1, e2, e3, e4, e5⟩, _⟩ := cells6 HB1
  go_wp2_with fail
  refine (K2.out _ B1).mono ?_
  rintro e w2 ⟨rfl, hb⟩
  have B2 := B1.below hb
  clear hb
  go_wp2_with fail
  go_ret
  exact ⟨rfl, B2⟩
end Go.Proofs.YtgeaiadjmadakaaDoor
