/- Contracts of laws.toSpotS, laws.toSpot, laws.toFlow: copies, in memory of their own. -/
import Derived.Test.YtmblgkpgfofceaaDoorTo
import Derived.Test.YtmblgkpgfofceaaDoorSp
import Derived.Deep.DeepCutAuto
namespace Go.Proofs.YtmblgkpgfofceaaDoor
open Go.RowKit

theorem sp_other {W : World} {b b' i : Nat} {o : Obj} (k : W.heap[b']? = some o) (h : b' ≠ b) (v : Value) : (W.setCell ⟨b, i, none⟩ v).heap[b']? = some o := (Below.heap_setCell _ _ _ _ h).trans k
theorem sp_sees_set {w W : World} (h : Sees w W) {b i : Nat} (hb : w.heap.size ≤ b) (v : Value) : Sees w (W.setCell ⟨b, i, none⟩ v) := Below.setCell h hb v
theorem two_facts {W : World} {b : Nat} {T : TypeId} {u0 u1 : Value} (h : W.heap[b]? = some (.cells #[u0, u1] T (0, 0))) : W.cell? ⟨b, 0, none⟩ = some u0 ∧ W.cell? ⟨b, 1, none⟩ = some u1 ∧ W.frozen? ⟨b, 0, none⟩ = false ∧ W.frozen? ⟨b, 1, none⟩ = false := ⟨Fo.cell_of_block h 0, Fo.cell_of_block h 1, Fo.unfrozen_of_block h 0, Fo.unfrozen_of_block h 1⟩
theorem seven_facts {W : World} {b : Nat} {T : TypeId} {u0 u1 u2 u3 u4 u5 u6 : Value} (h : W.heap[b]? = some (.cells #[u0, u1, u2, u3, u4, u5, u6] T (0, 0))) :
    W.cell? ⟨b, 0, none⟩ = some u0 ∧ W.cell? ⟨b, 1, none⟩ = some u1 ∧ W.cell? ⟨b, 2, none⟩ = some u2 ∧ W.cell? ⟨b, 3, none⟩ = some u3 ∧ W.cell? ⟨b, 4, none⟩ = some u4 ∧ W.cell? ⟨b, 5, none⟩ = some u5 ∧ W.cell? ⟨b, 6, none⟩ = some u6 ∧ W.frozen? ⟨b, 0, none⟩ = false ∧ W.frozen? ⟨b, 1, none⟩ = false ∧ W.frozen? ⟨b, 2, none⟩ = false ∧ W.frozen? ⟨b, 3, none⟩ = false ∧ W.frozen? ⟨b, 4, none⟩ = false ∧ W.frozen? ⟨b, 5, none⟩ = false ∧ W.frozen? ⟨b, 6, none⟩ = false :=
  ⟨Fo.cell_of_block h 0, Fo.cell_of_block h 1, Fo.cell_of_block h 2, Fo.cell_of_block h 3, Fo.cell_of_block h 4, Fo.cell_of_block h 5, Fo.cell_of_block h 6, Fo.unfrozen_of_block h 0, Fo.unfrozen_of_block h 1, Fo.unfrozen_of_block h 2, Fo.unfrozen_of_block h 3, Fo.unfrozen_of_block h 4, Fo.unfrozen_of_block h 5, Fo.unfrozen_of_block h 6⟩

set_option maxHeartbeats 2000000 in
set_option maxRecDepth 100000 in
theorem toSpot_any (k n ck cn tg el : Int) (cf : Fo) (hm : cf.nodes ≤ 1048576) (A : Option Addr) (C : Nat) (w : World) (hA : cf.Lies w A) :
    Calls Tryd.prog 25 #[.agg #[.int .i64 k, .int .i64 n, .int .i64 ck, .int .i64 cn, .slice A cf.len C, .int .i64 tg, .int .i64 el]] w fun e w' => ∃ Z, e = .returned (.agg #[.int .i64 k, .int .i64 n, .int .i64 ck, .int .i64 cn, .slice Z cf.len cf.len, .int .i64 tg, .int .i64 el]) ∧ cf.LiesIn w' w.heap.size w'.heap.size Z ∧ Below w.heap.size w w' := by
  have K1 : Hid (∀ W : World, Sees w W → Calls Tryd.prog 39 #[.agg #[.int .i64 ck, .int .i64 cn, .slice A cf.len C]] W fun e w' => ∃ A', e = .returned (.agg #[.int .i64 ck, .int .i64 cn, .slice A' cf.len cf.len]) ∧ cf.LiesIn w' W.heap.size w'.heap.size A' ∧ Below W.heap.size W w') := fun W h => (toExpr_any cf hm ck cn A C W (hA.sees h)).mono fun e w' ⟨A', he, hs, hb⟩ => ⟨A', he, hs.xin.liesIn, hb⟩
  clear hA
  obtain ⟨w0, hw0⟩ : ∃ w0, w0 = ((w.alloc (.cells #[.int .i64 k, .int .i64 n, .int .i64 ck, .int .i64 cn, .slice A cf.len C, .int .i64 tg, .int .i64 el] 67)).alloc (.cells #[.int .i64 0, .int .i64 0, .int .i64 0, .int .i64 0, .slice none 0 0, .int .i64 0, .int .i64 0] 45)).alloc (.cells #[.int .i64 k, .int .i64 n, .int .i64 0, .int .i64 0, .slice none 0 0, .int .i64 0, .int .i64 0] 45) := ⟨_, rfl⟩
  have B1 : Sees w w0 := by rw [hw0]; exact (((Sees.refl w).alloc _).alloc _).alloc _
  have k0 : w0.heap[w.heap.size]? = some (.cells #[.int .i64 k, .int .i64 n, .int .i64 ck, .int .i64 cn, .slice A cf.len C, .int .i64 tg, .int .i64 el] 67 (0, 0)) := by rw [hw0]; exact (Below.heap_alloc _ _ _ (by simp; omega)).trans ((Below.heap_alloc _ _ _ (by simp)).trans (heap_new _ _ _ (by simp)))
  have k1 : w0.heap[w.heap.size + 1]? = some (.cells #[.int .i64 0, .int .i64 0, .int .i64 0, .int .i64 0, .slice none 0 0, .int .i64 0, .int .i64 0] 45 (0, 0)) := by rw [hw0]; exact (Below.heap_alloc _ _ _ (by simp)).trans (heap_new _ _ _ (by simp))
  have k2 : w0.heap[w.heap.size + 1 + 1]? = some (.cells #[.int .i64 k, .int .i64 n, .int .i64 0, .int .i64 0, .slice none 0 0, .int .i64 0, .int .i64 0] 45 (0, 0)) := by rw [hw0]; exact heap_new _ _ _ (by simp)
  have z1 : w.heap.size + 1 + 1 < w0.heap.size := by rw [hw0]; simp
  go_enter Tryd.func25, Tryd.ntmps25
  go_wp2_with fail
  rw [← hw0]
  refine (K1.out _ B1).mono ?_
  rintro e w3 ⟨Z, rfl, hQ, hb⟩
  have HB3 := Lib.hid (B1.below hb)
  have HK3 := Lib.hid ((hb.block _ (by omega)).trans k0)
  have HK4 := Lib.hid ((hb.block _ (by omega)).trans k1)
  have HK5 := Lib.hid ((hb.block _ z1).trans k2)
  have HQ3 := Lib.hid (hQ.mono (lo' := w.heap.size + 1 + 1 + 1) z1 (Nat.le_refl _))
  clear hQ hb B1 k0 k1 k2 z1 hw0
  have p5 : w3.cell? ⟨w.heap.size, 5, none⟩ = some (.int .i64 tg) := Fo.cell_of_block HK3.out 5
  have p6 : w3.cell? ⟨w.heap.size, 6, none⟩ = some (.int .i64 el) := Fo.cell_of_block HK3.out 6
  obtain ⟨q0, q1, q2, q3, q4, q5, q6, g0, g1, g2, g3, g4, g5, g6⟩ := seven_facts HK5.out
  go_upto_region 7 with fail
  have B4 : Sees w (((((w3.setCell ⟨w.heap.size + 1 + 1, 2, none⟩ (.int .i64 ck)).setCell ⟨w.heap.size + 1 + 1, 3, none⟩ (.int .i64 cn)).setCell ⟨w.heap.size + 1 + 1, 4, none⟩ (.slice Z cf.len cf.len)).setCell ⟨w.heap.size + 1 + 1, 5, none⟩ (.int .i64 tg)).setCell ⟨w.heap.size + 1 + 1, 6, none⟩ (.int .i64 el)) := (sp_sees_set (b := w.heap.size + 1 + 1) (i := 6) (sp_sees_set (b := w.heap.size + 1 + 1) (i := 5) (sp_sees_set (b := w.heap.size + 1 + 1) (i := 4) (sp_sees_set (b := w.heap.size + 1 + 1) (i := 3) (sp_sees_set (b := w.heap.size + 1 + 1) (i := 2) HB3.out (by omega) (.int .i64 ck)) (by omega) (.int .i64 cn)) (by omega) (.slice Z cf.len cf.len)) (by omega) (.int .i64 tg)) (by omega) (.int .i64 el))
  have z4 : (((((w3.setCell ⟨w.heap.size + 1 + 1, 2, none⟩ (.int .i64 ck)).setCell ⟨w.heap.size + 1 + 1, 3, none⟩ (.int .i64 cn)).setCell ⟨w.heap.size + 1 + 1, 4, none⟩ (.slice Z cf.len cf.len)).setCell ⟨w.heap.size + 1 + 1, 5, none⟩ (.int .i64 tg)).setCell ⟨w.heap.size + 1 + 1, 6, none⟩ (.int .i64 el)).heap.size = w3.heap.size := by simp
  have a4 : Fo.Agree w3 (((((w3.setCell ⟨w.heap.size + 1 + 1, 2, none⟩ (.int .i64 ck)).setCell ⟨w.heap.size + 1 + 1, 3, none⟩ (.int .i64 cn)).setCell ⟨w.heap.size + 1 + 1, 4, none⟩ (.slice Z cf.len cf.len)).setCell ⟨w.heap.size + 1 + 1, 5, none⟩ (.int .i64 tg)).setCell ⟨w.heap.size + 1 + 1, 6, none⟩ (.int .i64 el)) (w.heap.size + 1 + 1 + 1) w3.heap.size := (Fo.Agree.setCell (Fo.Agree.setCell (Fo.Agree.setCell (Fo.Agree.setCell (Fo.Agree.setCell (Fo.Agree.refl _ _ _) ⟨w.heap.size + 1 + 1, 2, none⟩ (Or.inl (by show w.heap.size + 1 + 1 < _; omega)) (.int .i64 ck)) ⟨w.heap.size + 1 + 1, 3, none⟩ (Or.inl (by show w.heap.size + 1 + 1 < _; omega)) (.int .i64 cn)) ⟨w.heap.size + 1 + 1, 4, none⟩ (Or.inl (by show w.heap.size + 1 + 1 < _; omega)) (.slice Z cf.len cf.len)) ⟨w.heap.size + 1 + 1, 5, none⟩ (Or.inl (by show w.heap.size + 1 + 1 < _; omega)) (.int .i64 tg)) ⟨w.heap.size + 1 + 1, 6, none⟩ (Or.inl (by show w.heap.size + 1 + 1 < _; omega)) (.int .i64 el))
  have k4 : (((((w3.setCell ⟨w.heap.size + 1 + 1, 2, none⟩ (.int .i64 ck)).setCell ⟨w.heap.size + 1 + 1, 3, none⟩ (.int .i64 cn)).setCell ⟨w.heap.size + 1 + 1, 4, none⟩ (.slice Z cf.len cf.len)).setCell ⟨w.heap.size + 1 + 1, 5, none⟩ (.int .i64 tg)).setCell ⟨w.heap.size + 1 + 1, 6, none⟩ (.int .i64 el)).heap[w.heap.size + 1]? = some (.cells #[.int .i64 0, .int .i64 0, .int .i64 0, .int .i64 0, .slice none 0 0, .int .i64 0, .int .i64 0] 45 (0, 0)) := (sp_other (b := w.heap.size + 1 + 1) (i := 6) (sp_other (b := w.heap.size + 1 + 1) (i := 5) (sp_other (b := w.heap.size + 1 + 1) (i := 4) (sp_other (b := w.heap.size + 1 + 1) (i := 3) (sp_other (b := w.heap.size + 1 + 1) (i := 2) HK4.out (by omega) (.int .i64 ck)) (by omega) (.int .i64 cn)) (by omega) (.slice Z cf.len cf.len)) (by omega) (.int .i64 tg)) (by omega) (.int .i64 el))
  have k5 : (((((w3.setCell ⟨w.heap.size + 1 + 1, 2, none⟩ (.int .i64 ck)).setCell ⟨w.heap.size + 1 + 1, 3, none⟩ (.int .i64 cn)).setCell ⟨w.heap.size + 1 + 1, 4, none⟩ (.slice Z cf.len cf.len)).setCell ⟨w.heap.size + 1 + 1, 5, none⟩ (.int .i64 tg)).setCell ⟨w.heap.size + 1 + 1, 6, none⟩ (.int .i64 el)).heap[w.heap.size + 1 + 1]? = some (.cells #[.int .i64 k, .int .i64 n, .int .i64 ck, .int .i64 cn, .slice Z cf.len cf.len, .int .i64 tg, .int .i64 el] 45 (0, 0)) := by
    rw [Fo.block_setCell (Fo.block_setCell (Fo.block_setCell (Fo.block_setCell (Fo.block_setCell HK5.out _) _) _) _) _]
    rfl
  have Q4 : cf.LiesIn (((((w3.setCell ⟨w.heap.size + 1 + 1, 2, none⟩ (.int .i64 ck)).setCell ⟨w.heap.size + 1 + 1, 3, none⟩ (.int .i64 cn)).setCell ⟨w.heap.size + 1 + 1, 4, none⟩ (.slice Z cf.len cf.len)).setCell ⟨w.heap.size + 1 + 1, 5, none⟩ (.int .i64 tg)).setCell ⟨w.heap.size + 1 + 1, 6, none⟩ (.int .i64 el)) (w.heap.size + 1 + 1 + 1) w3.heap.size Z := HQ3.out.agree a4
  rw [← z4] at Q4
  clear a4 z4
  clear p5 p6 q0 q1 q2 q3 q4 q5 q6 g0 g1 g2 g3 g4 g5 g6
  generalize (((((w3.setCell ⟨w.heap.size + 1 + 1, 2, none⟩ (.int .i64 ck)).setCell ⟨w.heap.size + 1 + 1, 3, none⟩ (.int .i64 cn)).setCell ⟨w.heap.size + 1 + 1, 4, none⟩ (.slice Z cf.len cf.len)).setCell ⟨w.heap.size + 1 + 1, 5, none⟩ (.int .i64 tg)).setCell ⟨w.heap.size + 1 + 1, 6, none⟩ (.int .i64 el)) = w4 at B4 k4 k5 Q4 ⊢
  clear HB3 HK3 HK4 HK5 HQ3 K1
  obtain ⟨r0, r1, r2, r3, r4, r5, r6, h0, h1, h2, h3, h4, h5, h6⟩ := seven_facts k4
  obtain ⟨q0, q1, q2, q3, q4, q5, q6, _, _, _, _, _, _, _⟩ := seven_facts k5
  go_wp2_with fail
  have Bf : Sees w (((((((w4.setCell ⟨w.heap.size + 1, 0, none⟩ (.int .i64 k)).setCell ⟨w.heap.size + 1, 1, none⟩ (.int .i64 n)).setCell ⟨w.heap.size + 1, 2, none⟩ (.int .i64 ck)).setCell ⟨w.heap.size + 1, 3, none⟩ (.int .i64 cn)).setCell ⟨w.heap.size + 1, 4, none⟩ (.slice Z cf.len cf.len)).setCell ⟨w.heap.size + 1, 5, none⟩ (.int .i64 tg)).setCell ⟨w.heap.size + 1, 6, none⟩ (.int .i64 el)) := (sp_sees_set (b := w.heap.size + 1) (i := 6) (sp_sees_set (b := w.heap.size + 1) (i := 5) (sp_sees_set (b := w.heap.size + 1) (i := 4) (sp_sees_set (b := w.heap.size + 1) (i := 3) (sp_sees_set (b := w.heap.size + 1) (i := 2) (sp_sees_set (b := w.heap.size + 1) (i := 1) (sp_sees_set (b := w.heap.size + 1) (i := 0) B4 (by omega) (.int .i64 k)) (by omega) (.int .i64 n)) (by omega) (.int .i64 ck)) (by omega) (.int .i64 cn)) (by omega) (.slice Z cf.len cf.len)) (by omega) (.int .i64 tg)) (by omega) (.int .i64 el))
  have zf : (((((((w4.setCell ⟨w.heap.size + 1, 0, none⟩ (.int .i64 k)).setCell ⟨w.heap.size + 1, 1, none⟩ (.int .i64 n)).setCell ⟨w.heap.size + 1, 2, none⟩ (.int .i64 ck)).setCell ⟨w.heap.size + 1, 3, none⟩ (.int .i64 cn)).setCell ⟨w.heap.size + 1, 4, none⟩ (.slice Z cf.len cf.len)).setCell ⟨w.heap.size + 1, 5, none⟩ (.int .i64 tg)).setCell ⟨w.heap.size + 1, 6, none⟩ (.int .i64 el)).heap.size = w4.heap.size := by simp
  have af : Fo.Agree w4 (((((((w4.setCell ⟨w.heap.size + 1, 0, none⟩ (.int .i64 k)).setCell ⟨w.heap.size + 1, 1, none⟩ (.int .i64 n)).setCell ⟨w.heap.size + 1, 2, none⟩ (.int .i64 ck)).setCell ⟨w.heap.size + 1, 3, none⟩ (.int .i64 cn)).setCell ⟨w.heap.size + 1, 4, none⟩ (.slice Z cf.len cf.len)).setCell ⟨w.heap.size + 1, 5, none⟩ (.int .i64 tg)).setCell ⟨w.heap.size + 1, 6, none⟩ (.int .i64 el)) (w.heap.size + 1 + 1 + 1) w4.heap.size := (Fo.Agree.setCell (Fo.Agree.setCell (Fo.Agree.setCell (Fo.Agree.setCell (Fo.Agree.setCell (Fo.Agree.setCell (Fo.Agree.setCell (Fo.Agree.refl _ _ _) ⟨w.heap.size + 1, 0, none⟩ (Or.inl (by show w.heap.size + 1 < _; omega)) (.int .i64 k)) ⟨w.heap.size + 1, 1, none⟩ (Or.inl (by show w.heap.size + 1 < _; omega)) (.int .i64 n)) ⟨w.heap.size + 1, 2, none⟩ (Or.inl (by show w.heap.size + 1 < _; omega)) (.int .i64 ck)) ⟨w.heap.size + 1, 3, none⟩ (Or.inl (by show w.heap.size + 1 < _; omega)) (.int .i64 cn)) ⟨w.heap.size + 1, 4, none⟩ (Or.inl (by show w.heap.size + 1 < _; omega)) (.slice Z cf.len cf.len)) ⟨w.heap.size + 1, 5, none⟩ (Or.inl (by show w.heap.size + 1 < _; omega)) (.int .i64 tg)) ⟨w.heap.size + 1, 6, none⟩ (Or.inl (by show w.heap.size + 1 < _; omega)) (.int .i64 el))
  have Qf : cf.LiesIn (((((((w4.setCell ⟨w.heap.size + 1, 0, none⟩ (.int .i64 k)).setCell ⟨w.heap.size + 1, 1, none⟩ (.int .i64 n)).setCell ⟨w.heap.size + 1, 2, none⟩ (.int .i64 ck)).setCell ⟨w.heap.size + 1, 3, none⟩ (.int .i64 cn)).setCell ⟨w.heap.size + 1, 4, none⟩ (.slice Z cf.len cf.len)).setCell ⟨w.heap.size + 1, 5, none⟩ (.int .i64 tg)).setCell ⟨w.heap.size + 1, 6, none⟩ (.int .i64 el)) (w.heap.size + 1 + 1 + 1) w4.heap.size Z := Q4.agree af
  rw [← zf] at Qf
  have kf : (((((((w4.setCell ⟨w.heap.size + 1, 0, none⟩ (.int .i64 k)).setCell ⟨w.heap.size + 1, 1, none⟩ (.int .i64 n)).setCell ⟨w.heap.size + 1, 2, none⟩ (.int .i64 ck)).setCell ⟨w.heap.size + 1, 3, none⟩ (.int .i64 cn)).setCell ⟨w.heap.size + 1, 4, none⟩ (.slice Z cf.len cf.len)).setCell ⟨w.heap.size + 1, 5, none⟩ (.int .i64 tg)).setCell ⟨w.heap.size + 1, 6, none⟩ (.int .i64 el)).heap[w.heap.size + 1]? = some (.cells #[.int .i64 k, .int .i64 n, .int .i64 ck, .int .i64 cn, .slice Z cf.len cf.len, .int .i64 tg, .int .i64 el] 45 (0, 0)) := (Fo.block_setCell (Fo.block_setCell (Fo.block_setCell (Fo.block_setCell (Fo.block_setCell (Fo.block_setCell (Fo.block_setCell k4 (.int .i64 k)) (.int .i64 n)) (.int .i64 ck)) (.int .i64 cn)) (.slice Z cf.len cf.len)) (.int .i64 tg)) (.int .i64 el))
  clear af zf B4 k4 Q4
  generalize (((((((w4.setCell ⟨w.heap.size + 1, 0, none⟩ (.int .i64 k)).setCell ⟨w.heap.size + 1, 1, none⟩ (.int .i64 n)).setCell ⟨w.heap.size + 1, 2, none⟩ (.int .i64 ck)).setCell ⟨w.heap.size + 1, 3, none⟩ (.int .i64 cn)).setCell ⟨w.heap.size + 1, 4, none⟩ (.slice Z cf.len cf.len)).setCell ⟨w.heap.size + 1, 5, none⟩ (.int .i64 tg)).setCell ⟨w.heap.size + 1, 6, none⟩ (.int .i64 el)) = j at Bf Qf kf ⊢
  clear r0 r1 r2 r3 r4 r5 r6 q0 q1 q2 q3 q4 q5 q6 h0 h1 h2 h3 h4 h5 h6 k5
  obtain ⟨p0, p1, p2, p3, p4, p5, p6, _, _, _, _, _, _, _⟩ := seven_facts kf
  refine bodyPost_ret (v := .agg #[.int .i64 k, .int .i64 n, .int .i64 ck, .int .i64 cn, .slice Z cf.len cf.len, .int .i64 tg, .int .i64 el]) (by simp [results, Tryd.results25, go_sem, p0, p1, p2, p3, p4, p5, p6]) rfl ⟨Z, rfl, Qf.mono (by omega) (Nat.le_refl _), Bf⟩

/-- What a make of spots lays. -/
def zeroSps (n : Nat) : Array Value := madeCells (Value.agg #[.int .i64 0, .int .i64 0, .int .i64 0, .int .i64 0, .slice none 0 0, .int .i64 0, .int .i64 0]).cells (n * 7)
theorem size_zeroSps (n : Nat) : (zeroSps n).size = n * 7 := size_madeCells _ _
theorem Tryd.infoSp : (Tryd.prog.info? 45).map (fun i => (i.zero, i.size, i.bytes)) = some (some (.agg #[.int .i64 0, .int .i64 0, .int .i64 0, .int .i64 0, .slice none 0 0, .int .i64 0, .int .i64 0]), 7, 72) := by kernel_rfl
theorem make_spots (n : Nat) (hn : n ≤ 1048576) (w : World) :
    (Instr.makeSlice 31 (.int .i64 (n : Int)) (.int .i64 (n : Int))).run Tryd.prog w = .ok (.slice (some ⟨w.heap.size, 0, none⟩) n n) (w.alloc (.cells (zeroSps n) 45)) := by
  obtain ⟨i, hi, hz, hs, hb⟩ := info_parts Tryd.infoSp
  have h := run_make (P := Tryd.prog) w 31 45 i _ Tryd.underlying31 hi hz .i64 .i64 (n : Int) (n : Int) (by omega) (Int.le_refl _) (by rw [hb]; omega) (by omega)
  rw [hs] at h
  exact h

set_option maxHeartbeats 2000000 in
set_option maxRecDepth 100000 in
theorem toSpotS_any (xs : List Sp) (hm : tot Sp.cnt xs ≤ 1048576) (A : Option Addr) (C : Nat) (w : World) (hl : SpL w xs A) :
    Calls Tryd.prog 14 #[.slice A xs.length C] w fun e w' => ∃ A', e = .returned (.slice A' xs.length xs.length) ∧ SpIn w' xs w.heap.size w'.heap.size A' ∧ Below w.heap.size w w' := by
  have hln := sp_len xs
  have hmk := make_spots xs.length (by omega)
  have HL := Lib.hid hl
  clear hl
  go_enter Tryd.func14, Tryd.ntmps14
  go_wp2_with fail
  go_loopw [4] (fun i wr => ∃ j : Nat, j ≤ xs.length ∧ i = .int .i64 j ∧ Hid (SpRows 45 xs w.heap.size wr j) ∧ Below w.heap.size w wr) (fun i _ => xs.length - (intOf i).toNat)
  case atStart => exact ⟨0, Nat.zero_le _, rfl, sprows_start (size_zeroSps _), (Below.refl _ _).alloc (Nat.le_refl _) _⟩
  case round =>
    obtain ⟨j, hj, rfl, hR, hb⟩ := hrel
    clear hmk
    by_cases hjl : j < xs.length
    · obtain ⟨b, o, rfl, hat⟩ := HL.out (by rintro rfl; simp at hjl)
      have hget : xs[j]? = some xs[j] := List.getElem?_eq_getElem hjl
      obtain ⟨B, D, c', hQ⟩ := hat j xs[j] hget
      have hge := sp_ge (List.getElem_mem hjl)
      obtain ⟨x, hx⟩ : ∃ x, x = xs[j] := ⟨_, rfl⟩
      rw [← hx] at c' hQ hge hget
      obtain ⟨c0, c1, c2, c3, c4, c5, c6⟩ := c'.below hb
      have KC : Hid (Calls Tryd.prog 25 #[.agg #[.int .i64 x.k, .int .i64 x.n, .int .i64 x.ck, .int .i64 x.cn, .slice B x.cf.len D, .int .i64 x.tg, .int .i64 x.el]] wr fun e w' => ∃ Z, e = .returned (.agg #[.int .i64 x.k, .int .i64 x.n, .int .i64 x.ck, .int .i64 x.cn, .slice Z x.cf.len x.cf.len, .int .i64 x.tg, .int .i64 x.el]) ∧ x.cf.LiesIn w' wr.heap.size w'.heap.size Z ∧ Below wr.heap.size wr w') :=
        toSpot_any x.k x.n x.ck x.cn x.tg x.el x.cf (by omega) B D wr (hQ.below hb)
      have HAT := Lib.hid hat; have HG := Lib.hid hget
      clear hat c' hQ hx hge hget
      go_wp2_with fail
      refine KC.out.mono ?_
      rintro e w1 ⟨Z, rfl, hQ, hb1⟩
      have hlt := hR.out.2.1
      have hR1 := hR.out.below hb1
      obtain ⟨⟨v0, g0⟩, ⟨v1, g1⟩, ⟨v2, g2⟩, ⟨v3, g3⟩, ⟨v4, g4⟩, ⟨v5, g5⟩, ⟨v6, g6⟩, fz⟩ := hR1.cells hjl
      have hR' := Lib.hid (sprows_step hR1 HG.out hjl hlt hQ)
      have hb2 := Lib.hid (hb.trans (hb1.mono hb.size))
      clear hR hR1 hQ hb hb1 c0 c1 c2 c3 c4 c5 c6 hlt KC
      go_wp2_with fail
      go_roundw
      case rel => exact ⟨j + 1, by omega, by go_num, hR'.out, by have hb := hb2.out; go_grown⟩
      case measure => simp [intOf]; omega
    · obtain rfl : j = xs.length := by omega
      go_wp2_with fail
      go_ret
      exact ⟨_, rfl, sprows_end hR.out, hb⟩

set_option maxHeartbeats 1000000 in
set_option maxRecDepth 100000 in
theorem toFlow_any (s : Int) (xs : List Sp) (hm : tot Sp.cnt xs ≤ 1048576) (A : Option Addr) (C : Nat) (w : World) (hl : SpL w xs A) :
    Calls Tryd.prog 7 #[.agg #[.int .i64 s, .slice A xs.length C]] w fun e w' => ∃ Z, e = .returned (.agg #[.int .i64 s, .slice Z xs.length xs.length]) ∧ SpL w' xs Z ∧ Below w.heap.size w w' := by
  have K1 : Hid (∀ W : World, Sees w W → Calls Tryd.prog 14 #[.slice A xs.length C] W fun e w' => ∃ A', e = .returned (.slice A' xs.length xs.length) ∧ SpIn w' xs W.heap.size w'.heap.size A' ∧ Below W.heap.size W w') := fun W h => toSpotS_any xs hm A C W (hl.sees h)
  clear hl
  go_enter Tryd.func7, Tryd.ntmps7
  go_wp2_with fail
  refine (K1.out _ (by unfold Sees; go_grown)).mono ?_
  rintro e w1 ⟨Z, rfl, hQ, hb⟩
  have B1 : Sees w w1 := Sees.below (by unfold Sees; go_grown) hb
  have k1 : w1.heap[w.heap.size + 1]? = some (.cells #[.int .i64 0, .slice none 0 0] 33 (0, 0)) := (hb.block _ (by simp)).trans ((Below.heap_alloc _ _ _ (by simp)).trans (heap_new _ _ _ (by simp)))
  have k2 : w1.heap[w.heap.size + 1 + 1]? = some (.cells #[.int .i64 s, .slice none 0 0] 33 (0, 0)) := (hb.block _ (by simp)).trans (heap_new _ _ _ (by simp))
  have z1 : w.heap.size + 1 + 1 < w1.heap.size := by have := hb.size; simp at this; omega
  have HQ := Lib.hid (hQ.mono (lo' := w.heap.size + 1 + 1 + 1) (by simp) (Nat.le_refl _)); have HB1 := Lib.hid B1; have HK1 := Lib.hid k1
  obtain ⟨p0, p1, _, _⟩ := two_facts k1
  obtain ⟨q0, q1, g0, g1⟩ := two_facts k2
  clear hQ hb B1 k1 k2
  go_wp2_with fail
  have Bf : Sees w (((w1.setCell ⟨w.heap.size + 1 + 1, 1, none⟩ (.slice Z xs.length xs.length)).setCell ⟨w.heap.size + 1, 0, none⟩ (.int .i64 s)).setCell ⟨w.heap.size + 1, 1, none⟩ (.slice Z xs.length xs.length)) := (sp_sees_set (b := w.heap.size + 1) (i := 1) (sp_sees_set (b := w.heap.size + 1) (i := 0) (sp_sees_set (b := w.heap.size + 1 + 1) (i := 1) HB1.out (by omega) (.slice Z xs.length xs.length)) (by omega) (.int .i64 s)) (by omega) (.slice Z xs.length xs.length))
  have af : Fo.Agree w1 (((w1.setCell ⟨w.heap.size + 1 + 1, 1, none⟩ (.slice Z xs.length xs.length)).setCell ⟨w.heap.size + 1, 0, none⟩ (.int .i64 s)).setCell ⟨w.heap.size + 1, 1, none⟩ (.slice Z xs.length xs.length)) (w.heap.size + 1 + 1 + 1) w1.heap.size := (Fo.Agree.setCell (Fo.Agree.setCell (Fo.Agree.setCell (Fo.Agree.refl _ _ _) ⟨w.heap.size + 1 + 1, 1, none⟩ (Or.inl (by show w.heap.size + 1 + 1 < _; omega)) (.slice Z xs.length xs.length)) ⟨w.heap.size + 1, 0, none⟩ (Or.inl (by show w.heap.size + 1 < _; omega)) (.int .i64 s)) ⟨w.heap.size + 1, 1, none⟩ (Or.inl (by show w.heap.size + 1 < _; omega)) (.slice Z xs.length xs.length))
  have Qf : SpL (((w1.setCell ⟨w.heap.size + 1 + 1, 1, none⟩ (.slice Z xs.length xs.length)).setCell ⟨w.heap.size + 1, 0, none⟩ (.int .i64 s)).setCell ⟨w.heap.size + 1, 1, none⟩ (.slice Z xs.length xs.length)) xs Z := (HQ.out.agree af).lies
  have kf : (((w1.setCell ⟨w.heap.size + 1 + 1, 1, none⟩ (.slice Z xs.length xs.length)).setCell ⟨w.heap.size + 1, 0, none⟩ (.int .i64 s)).setCell ⟨w.heap.size + 1, 1, none⟩ (.slice Z xs.length xs.length)).heap[w.heap.size + 1]? = some (.cells #[.int .i64 s, .slice Z xs.length xs.length] 33 (0, 0)) := (Fo.block_setCell (Fo.block_setCell (sp_other (b := w.heap.size + 1 + 1) (i := 1) HK1.out (by omega) (.slice Z xs.length xs.length)) (.int .i64 s)) (.slice Z xs.length xs.length))
  clear af
  generalize (((w1.setCell ⟨w.heap.size + 1 + 1, 1, none⟩ (.slice Z xs.length xs.length)).setCell ⟨w.heap.size + 1, 0, none⟩ (.int .i64 s)).setCell ⟨w.heap.size + 1, 1, none⟩ (.slice Z xs.length xs.length)) = j at Bf Qf kf ⊢
  clear p0 p1 q0 q1 g0 g1
  obtain ⟨p0, p1, _, _⟩ := two_facts kf
  refine bodyPost_ret (v := .agg #[.int .i64 s, .slice Z xs.length xs.length]) (by simp [results, Tryd.results7, go_sem, p0, p1]) rfl ⟨Z, rfl, Qf, Bf⟩
end Go.Proofs.YtmblgkpgfofceaaDoor
