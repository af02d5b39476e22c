/- Contracts of laws.toPremise, toPremiseS: the conditions apart. -/
import Derived.Test.YtmblgkpgfofceaaPrXD
import Derived.Test.YtmblgkpgfofceaaPrT
namespace Go.Proofs.Ytmblgkpgfofceaa
open Go.RowKit

set_option maxHeartbeats 2000000 in
set_option maxRecDepth 100000 in
theorem toPremise_own (pk pn act qk qn : Int) (pf qf : Fo) (hm : pf.nodes + qf.nodes ≤ 1048576) (A B : Option Addr) (C D : Nat) (w : World) (hA : pf.Lies w A) (hB : qf.Lies w B) :
    Calls Try.prog 21 #[.agg #[.int .i64 pk, .int .i64 pn, .slice A pf.len C, .int .i64 act, .int .i64 qk, .int .i64 qn, .slice B qf.len D]] w fun e w' => ∃ Z Y m, e = .returned (.agg #[.int .i64 pk, .int .i64 pn, .slice Z pf.len pf.len, .int .i64 act, .int .i64 qk, .int .i64 qn, .slice Y qf.len qf.len]) ∧ pf.XIn w' w.heap.size m Z ∧ qf.XIn w' m w'.heap.size Y ∧ Below w.heap.size w w' := by
  have K1 : Hid (∀ W : World, Sees w W → Calls Try.prog 63 #[.agg #[.int .i64 pk, .int .i64 pn, .slice A pf.len C]] W fun e w' => ∃ A', e = .returned (.agg #[.int .i64 pk, .int .i64 pn, .slice A' pf.len pf.len]) ∧ pf.XIn w' W.heap.size w'.heap.size A' ∧ Below W.heap.size W w') := fun W h => (toExpr_any pf (by omega) pk pn A C W (hA.sees h)).mono fun e w' ⟨A', he, hs, hb⟩ => ⟨A', he, hs.xin, hb⟩
  have K2 : Hid (∀ W : World, Sees w W → Calls Try.prog 63 #[.agg #[.int .i64 qk, .int .i64 qn, .slice B qf.len D]] W fun e w' => ∃ A', e = .returned (.agg #[.int .i64 qk, .int .i64 qn, .slice A' qf.len qf.len]) ∧ qf.XIn w' W.heap.size w'.heap.size A' ∧ Below W.heap.size W w') := fun W h => (toExpr_any qf (by omega) qk qn B D W (hB.sees h)).mono fun e w' ⟨A', he, hs, hb⟩ => ⟨A', he, hs.xin, hb⟩
  clear hA hB
  obtain ⟨w0, hw0⟩ : ∃ w0, w0 = ((w.alloc (.cells #[.int .i64 pk, .int .i64 pn, .slice A pf.len C, .int .i64 act, .int .i64 qk, .int .i64 qn, .slice B qf.len D] 42)).alloc (.cells #[.int .i64 0, .int .i64 0, .slice none 0 0, .int .i64 0, .int .i64 0, .int .i64 0, .slice none 0 0] 50)).alloc (.cells #[.int .i64 0, .int .i64 0, .slice none 0 0, .int .i64 0, .int .i64 0, .int .i64 0, .slice none 0 0] 50) := ⟨_, rfl⟩
  have B1 : Sees w w0 := by rw [hw0]; exact (((Sees.refl w).alloc _).alloc _).alloc _
  have k0 : w0.heap[w.heap.size]? = some (.cells #[.int .i64 pk, .int .i64 pn, .slice A pf.len C, .int .i64 act, .int .i64 qk, .int .i64 qn, .slice B qf.len D] 42 (0, 0)) := by rw [hw0]; exact (Below.heap_alloc _ _ _ (by simp; omega)).trans ((Below.heap_alloc _ _ _ (by simp)).trans (heap_new _ _ _ (by simp)))
  have k1 : w0.heap[w.heap.size + 1]? = some (.cells #[.int .i64 0, .int .i64 0, .slice none 0 0, .int .i64 0, .int .i64 0, .int .i64 0, .slice none 0 0] 50 (0, 0)) := by rw [hw0]; exact (Below.heap_alloc _ _ _ (by simp)).trans (heap_new _ _ _ (by simp))
  have k2 : w0.heap[w.heap.size + 1 + 1]? = some (.cells #[.int .i64 0, .int .i64 0, .slice none 0 0, .int .i64 0, .int .i64 0, .int .i64 0, .slice none 0 0] 50 (0, 0)) := by rw [hw0]; exact heap_new _ _ _ (by simp)
  have z1 : w.heap.size + 1 + 1 < w0.heap.size := by rw [hw0]; simp
  go_enter Try.func21, Try.ntmps21
  go_wp2_with fail
  rw [← hw0]
  refine (K1.out _ B1).mono ?_
  rintro e w1 ⟨Z, rfl, hQ, hb⟩
  have HB1 := Lib.hid (B1.below hb)
  have HZ := hb.size
  have HK0 := Lib.hid ((hb.block _ (by omega)).trans k0)
  have HK1 := Lib.hid ((hb.block _ (by omega)).trans k1)
  have HK2 := Lib.hid ((hb.block _ z1).trans k2)
  have HQ1 := Lib.hid (hQ.mono (lo' := w.heap.size + 1 + 1 + 1) z1 (Nat.le_refl _))
  have zw : w.heap.size + 1 + 1 < w1.heap.size := by omega
  clear hQ hb B1 k0 k1 k2 z1 hw0 HZ
  obtain ⟨p0, p1, p2, p3, p4, p5, p6, _⟩ := pm_facts HK0.out
  obtain ⟨q0, q1, q2, q3, q4, q5, q6, g0, g1, g2, g3, g4, g5, g6⟩ := pm_facts HK2.out
  go_wp2_with fail
  have B2 : Sees w ((((w1.setCell ⟨w.heap.size + 1 + 1, 0, none⟩ (.int .i64 pk)).setCell ⟨w.heap.size + 1 + 1, 1, none⟩ (.int .i64 pn)).setCell ⟨w.heap.size + 1 + 1, 2, none⟩ (.slice Z pf.len pf.len)).setCell ⟨w.heap.size + 1 + 1, 3, none⟩ (.int .i64 act)) := (pm_sees_set (b := w.heap.size + 1 + 1) (i := 3) (pm_sees_set (b := w.heap.size + 1 + 1) (i := 2) (pm_sees_set (b := w.heap.size + 1 + 1) (i := 1) (pm_sees_set (b := w.heap.size + 1 + 1) (i := 0) HB1.out (by omega) (.int .i64 pk)) (by omega) (.int .i64 pn)) (by omega) (.slice Z pf.len pf.len)) (by omega) (.int .i64 act))
  have z2 : ((((w1.setCell ⟨w.heap.size + 1 + 1, 0, none⟩ (.int .i64 pk)).setCell ⟨w.heap.size + 1 + 1, 1, none⟩ (.int .i64 pn)).setCell ⟨w.heap.size + 1 + 1, 2, none⟩ (.slice Z pf.len pf.len)).setCell ⟨w.heap.size + 1 + 1, 3, none⟩ (.int .i64 act)).heap.size = w1.heap.size := by simp
  have a2 : Fo.Agree w1 ((((w1.setCell ⟨w.heap.size + 1 + 1, 0, none⟩ (.int .i64 pk)).setCell ⟨w.heap.size + 1 + 1, 1, none⟩ (.int .i64 pn)).setCell ⟨w.heap.size + 1 + 1, 2, none⟩ (.slice Z pf.len pf.len)).setCell ⟨w.heap.size + 1 + 1, 3, none⟩ (.int .i64 act)) (w.heap.size + 1 + 1 + 1) w1.heap.size := (Fo.Agree.setCell (Fo.Agree.setCell (Fo.Agree.setCell (Fo.Agree.setCell (Fo.Agree.refl _ _ _) ⟨w.heap.size + 1 + 1, 0, none⟩ (Or.inl (by show w.heap.size + 1 + 1 < _; omega)) (.int .i64 pk)) ⟨w.heap.size + 1 + 1, 1, none⟩ (Or.inl (by show w.heap.size + 1 + 1 < _; omega)) (.int .i64 pn)) ⟨w.heap.size + 1 + 1, 2, none⟩ (Or.inl (by show w.heap.size + 1 + 1 < _; omega)) (.slice Z pf.len pf.len)) ⟨w.heap.size + 1 + 1, 3, none⟩ (Or.inl (by show w.heap.size + 1 + 1 < _; omega)) (.int .i64 act))
  have k0 : ((((w1.setCell ⟨w.heap.size + 1 + 1, 0, none⟩ (.int .i64 pk)).setCell ⟨w.heap.size + 1 + 1, 1, none⟩ (.int .i64 pn)).setCell ⟨w.heap.size + 1 + 1, 2, none⟩ (.slice Z pf.len pf.len)).setCell ⟨w.heap.size + 1 + 1, 3, none⟩ (.int .i64 act)).heap[w.heap.size]? = some (.cells #[.int .i64 pk, .int .i64 pn, .slice A pf.len C, .int .i64 act, .int .i64 qk, .int .i64 qn, .slice B qf.len D] 42 (0, 0)) := (pm_other (b := w.heap.size + 1 + 1) (i := 3) (pm_other (b := w.heap.size + 1 + 1) (i := 2) (pm_other (b := w.heap.size + 1 + 1) (i := 1) (pm_other (b := w.heap.size + 1 + 1) (i := 0) HK0.out (by omega) (.int .i64 pk)) (by omega) (.int .i64 pn)) (by omega) (.slice Z pf.len pf.len)) (by omega) (.int .i64 act))
  have k1 : ((((w1.setCell ⟨w.heap.size + 1 + 1, 0, none⟩ (.int .i64 pk)).setCell ⟨w.heap.size + 1 + 1, 1, none⟩ (.int .i64 pn)).setCell ⟨w.heap.size + 1 + 1, 2, none⟩ (.slice Z pf.len pf.len)).setCell ⟨w.heap.size + 1 + 1, 3, none⟩ (.int .i64 act)).heap[w.heap.size + 1]? = some (.cells #[.int .i64 0, .int .i64 0, .slice none 0 0, .int .i64 0, .int .i64 0, .int .i64 0, .slice none 0 0] 50 (0, 0)) := (pm_other (b := w.heap.size + 1 + 1) (i := 3) (pm_other (b := w.heap.size + 1 + 1) (i := 2) (pm_other (b := w.heap.size + 1 + 1) (i := 1) (pm_other (b := w.heap.size + 1 + 1) (i := 0) HK1.out (by omega) (.int .i64 pk)) (by omega) (.int .i64 pn)) (by omega) (.slice Z pf.len pf.len)) (by omega) (.int .i64 act))
  have k2 : ((((w1.setCell ⟨w.heap.size + 1 + 1, 0, none⟩ (.int .i64 pk)).setCell ⟨w.heap.size + 1 + 1, 1, none⟩ (.int .i64 pn)).setCell ⟨w.heap.size + 1 + 1, 2, none⟩ (.slice Z pf.len pf.len)).setCell ⟨w.heap.size + 1 + 1, 3, none⟩ (.int .i64 act)).heap[w.heap.size + 1 + 1]? = some (.cells #[.int .i64 pk, .int .i64 pn, .slice Z pf.len pf.len, .int .i64 act, .int .i64 0, .int .i64 0, .slice none 0 0] 50 (0, 0)) := (Fo.block_setCell (Fo.block_setCell (Fo.block_setCell (Fo.block_setCell HK2.out (.int .i64 pk)) (.int .i64 pn)) (.slice Z pf.len pf.len)) (.int .i64 act))
  have Q2 : pf.XIn ((((w1.setCell ⟨w.heap.size + 1 + 1, 0, none⟩ (.int .i64 pk)).setCell ⟨w.heap.size + 1 + 1, 1, none⟩ (.int .i64 pn)).setCell ⟨w.heap.size + 1 + 1, 2, none⟩ (.slice Z pf.len pf.len)).setCell ⟨w.heap.size + 1 + 1, 3, none⟩ (.int .i64 act)) (w.heap.size + 1 + 1 + 1) w1.heap.size Z := HQ1.out.agree a2
  obtain ⟨m, hm2⟩ : ∃ m, m = w1.heap.size := ⟨_, rfl⟩
  rw [← hm2] at Q2 zw
  have z3 : ((((w1.setCell ⟨w.heap.size + 1 + 1, 0, none⟩ (.int .i64 pk)).setCell ⟨w.heap.size + 1 + 1, 1, none⟩ (.int .i64 pn)).setCell ⟨w.heap.size + 1 + 1, 2, none⟩ (.slice Z pf.len pf.len)).setCell ⟨w.heap.size + 1 + 1, 3, none⟩ (.int .i64 act)).heap.size = m := by rw [hm2]; exact z2
  clear a2 z2 hm2
  clear p0 p1 p2 p3 p4 p5 p6 q0 q1 q2 q3 q4 q5 q6 g0 g1 g2 g3 g4 g5 g6 HB1 HK0 HK1 HK2 HQ1
  generalize ((((w1.setCell ⟨w.heap.size + 1 + 1, 0, none⟩ (.int .i64 pk)).setCell ⟨w.heap.size + 1 + 1, 1, none⟩ (.int .i64 pn)).setCell ⟨w.heap.size + 1 + 1, 2, none⟩ (.slice Z pf.len pf.len)).setCell ⟨w.heap.size + 1 + 1, 3, none⟩ (.int .i64 act)) = w2 at B2 k0 k1 k2 Q2 z3 ⊢
  refine (K2.out _ B2).mono ?_
  rintro e w3 ⟨Y, rfl, hQ, hb⟩
  have HB3 := Lib.hid (B2.below hb)
  have HZ := hb.size
  rw [z3] at hQ
  have HK1 := Lib.hid ((hb.block _ (by omega)).trans k1)
  have HK2 := Lib.hid ((hb.block _ (by omega)).trans k2)
  have HQ3 := Lib.hid (Q2.agree ((Fo.Agree.of_below hb).mono (Nat.zero_le _) (by omega)))
  have HR3 := Lib.hid hQ
  have zw3 : w.heap.size + 1 + 1 < w3.heap.size := by omega
  clear hQ hb B2 k0 k1 k2 Q2 HZ z3
  obtain ⟨q0, q1, q2, q3, q4, q5, q6, g0, g1, g2, g3, g4, g5, g6⟩ := pm_facts HK2.out
  go_upto_region 5 with fail
  have B4 : Sees w (((w3.setCell ⟨w.heap.size + 1 + 1, 4, none⟩ (.int .i64 qk)).setCell ⟨w.heap.size + 1 + 1, 5, none⟩ (.int .i64 qn)).setCell ⟨w.heap.size + 1 + 1, 6, none⟩ (.slice Y qf.len qf.len)) := (pm_sees_set (b := w.heap.size + 1 + 1) (i := 6) (pm_sees_set (b := w.heap.size + 1 + 1) (i := 5) (pm_sees_set (b := w.heap.size + 1 + 1) (i := 4) HB3.out (by omega) (.int .i64 qk)) (by omega) (.int .i64 qn)) (by omega) (.slice Y qf.len qf.len))
  have z4 : (((w3.setCell ⟨w.heap.size + 1 + 1, 4, none⟩ (.int .i64 qk)).setCell ⟨w.heap.size + 1 + 1, 5, none⟩ (.int .i64 qn)).setCell ⟨w.heap.size + 1 + 1, 6, none⟩ (.slice Y qf.len qf.len)).heap.size = w3.heap.size := by simp
  have a4 : Fo.Agree w3 (((w3.setCell ⟨w.heap.size + 1 + 1, 4, none⟩ (.int .i64 qk)).setCell ⟨w.heap.size + 1 + 1, 5, none⟩ (.int .i64 qn)).setCell ⟨w.heap.size + 1 + 1, 6, none⟩ (.slice Y qf.len qf.len)) (w.heap.size + 1 + 1 + 1) w3.heap.size := (Fo.Agree.setCell (Fo.Agree.setCell (Fo.Agree.setCell (Fo.Agree.refl _ _ _) ⟨w.heap.size + 1 + 1, 4, none⟩ (Or.inl (by show w.heap.size + 1 + 1 < _; omega)) (.int .i64 qk)) ⟨w.heap.size + 1 + 1, 5, none⟩ (Or.inl (by show w.heap.size + 1 + 1 < _; omega)) (.int .i64 qn)) ⟨w.heap.size + 1 + 1, 6, none⟩ (Or.inl (by show w.heap.size + 1 + 1 < _; omega)) (.slice Y qf.len qf.len))
  have k4 : (((w3.setCell ⟨w.heap.size + 1 + 1, 4, none⟩ (.int .i64 qk)).setCell ⟨w.heap.size + 1 + 1, 5, none⟩ (.int .i64 qn)).setCell ⟨w.heap.size + 1 + 1, 6, none⟩ (.slice Y qf.len qf.len)).heap[w.heap.size + 1]? = some (.cells #[.int .i64 0, .int .i64 0, .slice none 0 0, .int .i64 0, .int .i64 0, .int .i64 0, .slice none 0 0] 50 (0, 0)) := (pm_other (b := w.heap.size + 1 + 1) (i := 6) (pm_other (b := w.heap.size + 1 + 1) (i := 5) (pm_other (b := w.heap.size + 1 + 1) (i := 4) HK1.out (by omega) (.int .i64 qk)) (by omega) (.int .i64 qn)) (by omega) (.slice Y qf.len qf.len))
  have k5 : (((w3.setCell ⟨w.heap.size + 1 + 1, 4, none⟩ (.int .i64 qk)).setCell ⟨w.heap.size + 1 + 1, 5, none⟩ (.int .i64 qn)).setCell ⟨w.heap.size + 1 + 1, 6, none⟩ (.slice Y qf.len qf.len)).heap[w.heap.size + 1 + 1]? = some (.cells #[.int .i64 pk, .int .i64 pn, .slice Z pf.len pf.len, .int .i64 act, .int .i64 qk, .int .i64 qn, .slice Y qf.len qf.len] 50 (0, 0)) := (Fo.block_setCell (Fo.block_setCell (Fo.block_setCell HK2.out (.int .i64 qk)) (.int .i64 qn)) (.slice Y qf.len qf.len))
  have hR3 := HR3.out.1
  have Q4 : pf.XIn (((w3.setCell ⟨w.heap.size + 1 + 1, 4, none⟩ (.int .i64 qk)).setCell ⟨w.heap.size + 1 + 1, 5, none⟩ (.int .i64 qn)).setCell ⟨w.heap.size + 1 + 1, 6, none⟩ (.slice Y qf.len qf.len)) (w.heap.size + 1 + 1 + 1) m Z := HQ3.out.agree (a4.mono (Nat.le_refl _) hR3)
  have R4 : qf.XIn (((w3.setCell ⟨w.heap.size + 1 + 1, 4, none⟩ (.int .i64 qk)).setCell ⟨w.heap.size + 1 + 1, 5, none⟩ (.int .i64 qn)).setCell ⟨w.heap.size + 1 + 1, 6, none⟩ (.slice Y qf.len qf.len)) m w3.heap.size Y := HR3.out.agree (a4.mono (by omega) (Nat.le_refl _))
  rw [← z4] at R4
  clear a4 z4 hR3
  clear q0 q1 q2 q3 q4 q5 q6 g0 g1 g2 g3 g4 g5 g6
  generalize (((w3.setCell ⟨w.heap.size + 1 + 1, 4, none⟩ (.int .i64 qk)).setCell ⟨w.heap.size + 1 + 1, 5, none⟩ (.int .i64 qn)).setCell ⟨w.heap.size + 1 + 1, 6, none⟩ (.slice Y qf.len qf.len)) = w4 at B4 k4 k5 Q4 R4 ⊢
  clear HB3 HK1 HK2 HQ3 HR3 K1 K2
  obtain ⟨r0, r1, r2, r3, r4, r5, r6, h0, h1, h2, h3, h4, h5, h6⟩ := pm_facts k4
  obtain ⟨q0, q1, q2, q3, q4, q5, q6, _, _, _, _, _, _, _⟩ := pm_facts k5
  go_wp2_with fail
  have Bf : Sees w (((((((w4.setCell ⟨w.heap.size + 1, 0, none⟩ (.int .i64 pk)).setCell ⟨w.heap.size + 1, 1, none⟩ (.int .i64 pn)).setCell ⟨w.heap.size + 1, 2, none⟩ (.slice Z pf.len pf.len)).setCell ⟨w.heap.size + 1, 3, none⟩ (.int .i64 act)).setCell ⟨w.heap.size + 1, 4, none⟩ (.int .i64 qk)).setCell ⟨w.heap.size + 1, 5, none⟩ (.int .i64 qn)).setCell ⟨w.heap.size + 1, 6, none⟩ (.slice Y qf.len qf.len)) := (pm_sees_set (b := w.heap.size + 1) (i := 6) (pm_sees_set (b := w.heap.size + 1) (i := 5) (pm_sees_set (b := w.heap.size + 1) (i := 4) (pm_sees_set (b := w.heap.size + 1) (i := 3) (pm_sees_set (b := w.heap.size + 1) (i := 2) (pm_sees_set (b := w.heap.size + 1) (i := 1) (pm_sees_set (b := w.heap.size + 1) (i := 0) B4 (by omega) (.int .i64 pk)) (by omega) (.int .i64 pn)) (by omega) (.slice Z pf.len pf.len)) (by omega) (.int .i64 act)) (by omega) (.int .i64 qk)) (by omega) (.int .i64 qn)) (by omega) (.slice Y qf.len qf.len))
  have zf : (((((((w4.setCell ⟨w.heap.size + 1, 0, none⟩ (.int .i64 pk)).setCell ⟨w.heap.size + 1, 1, none⟩ (.int .i64 pn)).setCell ⟨w.heap.size + 1, 2, none⟩ (.slice Z pf.len pf.len)).setCell ⟨w.heap.size + 1, 3, none⟩ (.int .i64 act)).setCell ⟨w.heap.size + 1, 4, none⟩ (.int .i64 qk)).setCell ⟨w.heap.size + 1, 5, none⟩ (.int .i64 qn)).setCell ⟨w.heap.size + 1, 6, none⟩ (.slice Y qf.len qf.len)).heap.size = w4.heap.size := by simp
  have af : Fo.Agree w4 (((((((w4.setCell ⟨w.heap.size + 1, 0, none⟩ (.int .i64 pk)).setCell ⟨w.heap.size + 1, 1, none⟩ (.int .i64 pn)).setCell ⟨w.heap.size + 1, 2, none⟩ (.slice Z pf.len pf.len)).setCell ⟨w.heap.size + 1, 3, none⟩ (.int .i64 act)).setCell ⟨w.heap.size + 1, 4, none⟩ (.int .i64 qk)).setCell ⟨w.heap.size + 1, 5, none⟩ (.int .i64 qn)).setCell ⟨w.heap.size + 1, 6, none⟩ (.slice Y qf.len qf.len)) (w.heap.size + 1 + 1 + 1) w4.heap.size := (Fo.Agree.setCell (Fo.Agree.setCell (Fo.Agree.setCell (Fo.Agree.setCell (Fo.Agree.setCell (Fo.Agree.setCell (Fo.Agree.setCell (Fo.Agree.refl _ _ _) ⟨w.heap.size + 1, 0, none⟩ (Or.inl (by show w.heap.size + 1 < _; omega)) (.int .i64 pk)) ⟨w.heap.size + 1, 1, none⟩ (Or.inl (by show w.heap.size + 1 < _; omega)) (.int .i64 pn)) ⟨w.heap.size + 1, 2, none⟩ (Or.inl (by show w.heap.size + 1 < _; omega)) (.slice Z pf.len pf.len)) ⟨w.heap.size + 1, 3, none⟩ (Or.inl (by show w.heap.size + 1 < _; omega)) (.int .i64 act)) ⟨w.heap.size + 1, 4, none⟩ (Or.inl (by show w.heap.size + 1 < _; omega)) (.int .i64 qk)) ⟨w.heap.size + 1, 5, none⟩ (Or.inl (by show w.heap.size + 1 < _; omega)) (.int .i64 qn)) ⟨w.heap.size + 1, 6, none⟩ (Or.inl (by show w.heap.size + 1 < _; omega)) (.slice Y qf.len qf.len))
  have hR4 := R4.1
  have Qf : pf.XIn (((((((w4.setCell ⟨w.heap.size + 1, 0, none⟩ (.int .i64 pk)).setCell ⟨w.heap.size + 1, 1, none⟩ (.int .i64 pn)).setCell ⟨w.heap.size + 1, 2, none⟩ (.slice Z pf.len pf.len)).setCell ⟨w.heap.size + 1, 3, none⟩ (.int .i64 act)).setCell ⟨w.heap.size + 1, 4, none⟩ (.int .i64 qk)).setCell ⟨w.heap.size + 1, 5, none⟩ (.int .i64 qn)).setCell ⟨w.heap.size + 1, 6, none⟩ (.slice Y qf.len qf.len)) (w.heap.size + 1 + 1 + 1) m Z := Q4.agree (af.mono (Nat.le_refl _) hR4)
  have Rf : qf.XIn (((((((w4.setCell ⟨w.heap.size + 1, 0, none⟩ (.int .i64 pk)).setCell ⟨w.heap.size + 1, 1, none⟩ (.int .i64 pn)).setCell ⟨w.heap.size + 1, 2, none⟩ (.slice Z pf.len pf.len)).setCell ⟨w.heap.size + 1, 3, none⟩ (.int .i64 act)).setCell ⟨w.heap.size + 1, 4, none⟩ (.int .i64 qk)).setCell ⟨w.heap.size + 1, 5, none⟩ (.int .i64 qn)).setCell ⟨w.heap.size + 1, 6, none⟩ (.slice Y qf.len qf.len)) m w4.heap.size Y := R4.agree (af.mono (by omega) (Nat.le_refl _))
  rw [← zf] at Rf
  have kf : (((((((w4.setCell ⟨w.heap.size + 1, 0, none⟩ (.int .i64 pk)).setCell ⟨w.heap.size + 1, 1, none⟩ (.int .i64 pn)).setCell ⟨w.heap.size + 1, 2, none⟩ (.slice Z pf.len pf.len)).setCell ⟨w.heap.size + 1, 3, none⟩ (.int .i64 act)).setCell ⟨w.heap.size + 1, 4, none⟩ (.int .i64 qk)).setCell ⟨w.heap.size + 1, 5, none⟩ (.int .i64 qn)).setCell ⟨w.heap.size + 1, 6, none⟩ (.slice Y qf.len qf.len)).heap[w.heap.size + 1]? = some (.cells #[.int .i64 pk, .int .i64 pn, .slice Z pf.len pf.len, .int .i64 act, .int .i64 qk, .int .i64 qn, .slice Y qf.len qf.len] 50 (0, 0)) := (Fo.block_setCell (Fo.block_setCell (Fo.block_setCell (Fo.block_setCell (Fo.block_setCell (Fo.block_setCell (Fo.block_setCell k4 (.int .i64 pk)) (.int .i64 pn)) (.slice Z pf.len pf.len)) (.int .i64 act)) (.int .i64 qk)) (.int .i64 qn)) (.slice Y qf.len qf.len))
  clear af zf B4 k4 Q4 R4 hR4
  generalize (((((((w4.setCell ⟨w.heap.size + 1, 0, none⟩ (.int .i64 pk)).setCell ⟨w.heap.size + 1, 1, none⟩ (.int .i64 pn)).setCell ⟨w.heap.size + 1, 2, none⟩ (.slice Z pf.len pf.len)).setCell ⟨w.heap.size + 1, 3, none⟩ (.int .i64 act)).setCell ⟨w.heap.size + 1, 4, none⟩ (.int .i64 qk)).setCell ⟨w.heap.size + 1, 5, none⟩ (.int .i64 qn)).setCell ⟨w.heap.size + 1, 6, none⟩ (.slice Y qf.len qf.len)) = j at Bf Qf Rf kf ⊢
  clear r0 r1 r2 r3 r4 r5 r6 q0 q1 q2 q3 q4 q5 q6 h0 h1 h2 h3 h4 h5 h6 k5
  obtain ⟨p0, p1, p2, p3, p4, p5, p6, _, _, _, _, _, _, _⟩ := pm_facts kf
  refine bodyPost_ret (v := .agg #[.int .i64 pk, .int .i64 pn, .slice Z pf.len pf.len, .int .i64 act, .int .i64 qk, .int .i64 qn, .slice Y qf.len qf.len]) (by simp [results, Try.results21, go_sem, p0, p1, p2, p3, p4, p5, p6]) rfl ⟨Z, Y, m, rfl, Qf.mono (by omega) (Nat.le_refl _), Rf, Bf⟩

set_option maxHeartbeats 2000000 in
set_option maxRecDepth 100000 in
theorem toPremiseS_own (xs : List Pm) (hm : tot Pm.cnt xs ≤ 1048576) (A : Option Addr) (C : Nat) (w : World) (hl : PmL w xs A) :
    Calls Try.prog 12 #[.slice A xs.length C] w fun e w' => ∃ A', e = .returned (.slice A' xs.length xs.length) ∧ PmX w' xs w.heap.size w'.heap.size A' ∧ Below w.heap.size w w' := by
  have hln := pm_len xs
  have hmk := make_premises xs.length (by omega)
  have HL := Lib.hid hl
  clear hl
  go_enter Try.func12, Try.ntmps12
  go_wp2_with fail
  go_loopw [4] (fun i wr => ∃ j : Nat, j ≤ xs.length ∧ i = .int .i64 j ∧ Hid (PmOwn 50 xs w.heap.size wr j) ∧ Below w.heap.size w wr) (fun i _ => xs.length - (intOf i).toNat)
  case atStart => exact ⟨0, Nat.zero_le _, rfl, pmown_start (size_zeroPms _), (Below.refl _ _).alloc (Nat.le_refl _) _⟩
  case round =>
    obtain ⟨j, hj, rfl, hR, hb⟩ := hrel
    clear hmk
    by_cases hjl : j < xs.length
    · obtain ⟨b, o, rfl, hat⟩ := HL.out (by rintro rfl; simp at hjl)
      have hget : xs[j]? = some xs[j] := List.getElem?_eq_getElem hjl
      obtain ⟨A', C', B', D', c', hQ, hS⟩ := hat j xs[j] hget
      have hge := pm_ge (List.getElem_mem hjl)
      obtain ⟨x, hx⟩ : ∃ x, x = xs[j] := ⟨_, rfl⟩
      rw [← hx] at c' hQ hS hge hget
      obtain ⟨c0, c1, c2, c3, c4, c5, c6⟩ := c'.below hb
      have KC : Hid (Calls Try.prog 21 #[.agg #[.int .i64 x.pk, .int .i64 x.pn, .slice A' x.pf.len C', .int .i64 x.act, .int .i64 x.qk, .int .i64 x.qn, .slice B' x.qf.len D']] wr fun e w' => ∃ Z Y m, e = .returned (.agg #[.int .i64 x.pk, .int .i64 x.pn, .slice Z x.pf.len x.pf.len, .int .i64 x.act, .int .i64 x.qk, .int .i64 x.qn, .slice Y x.qf.len x.qf.len]) ∧ x.pf.XIn w' wr.heap.size m Z ∧ x.qf.XIn w' m w'.heap.size Y ∧ Below wr.heap.size wr w') :=
        toPremise_own x.pk x.pn x.act x.qk x.qn x.pf x.qf (by omega) A' B' C' D' wr (hQ.below hb) (hS.below hb)
      have HAT := Lib.hid hat; have HG := Lib.hid hget
      clear hat c' hQ hS hx hge hget
      go_wp2_with fail
      refine KC.out.mono ?_
      rintro e w1 ⟨Z, Y, m, rfl, hQ, hS, hb1⟩
      obtain ⟨⟨v0, g0⟩, ⟨v1, g1⟩, ⟨v2, g2⟩, ⟨v3, g3⟩, ⟨v4, g4⟩, ⟨v5, g5⟩, ⟨v6, g6⟩, fz⟩ := hR.out.cells hb1 hjl
      have hR' := Lib.hid (pmown_step hR.out hb1 HG.out hjl hQ hS)
      have hb2 := Lib.hid (hb.trans (hb1.mono hb.size))
      clear hR hQ hS hb hb1 c0 c1 c2 c3 c4 c5 c6 KC
      go_wp2_with fail
      go_roundw
      case rel => exact ⟨j + 1, by omega, by go_num, hR'.out, by have hb := hb2.out; go_grown⟩
      case measure => simp [intOf]; omega
    · obtain rfl : j = xs.length := by omega
      go_wp2_with fail
      go_ret
      exact ⟨_, rfl, pmown_end hR.out, hb⟩
end Go.Proofs.Ytmblgkpgfofceaa
