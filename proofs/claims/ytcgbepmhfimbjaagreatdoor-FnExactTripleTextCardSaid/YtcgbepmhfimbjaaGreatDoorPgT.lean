/- Contracts of laws.toProgS, laws.toProg: copies, in memory of their own. -/
import Derived.Test.YtcgbepmhfimbjaaGreatDoorTo
import Derived.Test.YtcgbepmhfimbjaaGreatDoorPg
namespace Go.Proofs.YtcgbepmhfimbjaaGreatDoor
open Go.RowKit

theorem pg_other {W : World} {b b' i : Nat} {o : Obj} (k : W.heap[b']? = some o) (h : b' ≠ b) (v : Value) : (W.setCell ⟨b, i, none⟩ v).heap[b']? = some o := (Below.heap_setCell _ _ _ _ h).trans k
theorem sees_set {w W : World} (h : Sees w W) {b i : Nat} (hb : w.heap.size ≤ b) (v : Value) : Sees w (W.setCell ⟨b, i, none⟩ v) := Below.setCell h hb v
theorem six_facts {W : World} {b : Nat} {T : TypeId} {u0 u1 u2 u3 u4 u5 : Value} (h : W.heap[b]? = some (.cells #[u0, u1, u2, u3, u4, u5] T (0, 0))) :
    W.cell? ⟨b, 0, none⟩ = some u0 ∧ W.cell? ⟨b, 1, none⟩ = some u1 ∧ W.cell? ⟨b, 2, none⟩ = some u2 ∧ W.cell? ⟨b, 3, none⟩ = some u3 ∧ W.cell? ⟨b, 4, none⟩ = some u4 ∧ W.cell? ⟨b, 5, none⟩ = some u5 ∧ W.frozen? ⟨b, 0, none⟩ = false ∧ W.frozen? ⟨b, 1, none⟩ = false ∧ W.frozen? ⟨b, 2, none⟩ = false ∧ W.frozen? ⟨b, 3, none⟩ = false ∧ W.frozen? ⟨b, 4, none⟩ = false ∧ W.frozen? ⟨b, 5, none⟩ = false :=
  ⟨Fo.cell_of_block h 0, Fo.cell_of_block h 1, Fo.cell_of_block h 2, Fo.cell_of_block h 3, Fo.cell_of_block h 4, Fo.cell_of_block h 5, Fo.unfrozen_of_block h 0, Fo.unfrozen_of_block h 1, Fo.unfrozen_of_block h 2, Fo.unfrozen_of_block h 3, Fo.unfrozen_of_block h 4, Fo.unfrozen_of_block h 5⟩

set_option maxHeartbeats 2000000 in
set_option maxRecDepth 100000 in
theorem toProg_of {cf : Fo} {ks : Pg} (hcm : cf.nodes ≤ 1048576) (ihS : ∀ (B : Option Addr) (D : Nat) (w : World), ks.Lies w B →
      Calls Tryz.prog 48 #[.slice B ks.len D] w fun e w' => ∃ B', e = .returned (.slice B' ks.len ks.len) ∧ ks.LiesIn w' w.heap.size w'.heap.size B' ∧ Below w.heap.size w w')
    (k n ck cn : Int) (A B : Option Addr) (C D : Nat) (w : World) (hA : cf.Lies w A) (hB : ks.Lies w B) :
    Calls Tryz.prog 22 #[.agg #[.int .i64 k, .int .i64 n, .int .i64 ck, .int .i64 cn, .slice A cf.len C, .slice B ks.len D]] w fun e w' => ∃ Z Y, e = .returned (.agg #[.int .i64 k, .int .i64 n, .int .i64 ck, .int .i64 cn, .slice Z cf.len cf.len, .slice Y ks.len ks.len]) ∧ cf.LiesIn w' w.heap.size w'.heap.size Z ∧ ks.LiesIn w' w.heap.size w'.heap.size Y ∧ Below w.heap.size w w' := by
  have K1 : Hid (∀ W : World, Sees w W → Calls Tryz.prog 21 #[.agg #[.int .i64 ck, .int .i64 cn, .slice A cf.len C]] W fun e w' => ∃ A', e = .returned (.agg #[.int .i64 ck, .int .i64 cn, .slice A' cf.len cf.len]) ∧ cf.LiesIn w' W.heap.size w'.heap.size A' ∧ Below W.heap.size W w') := fun W h => (toExpr_any cf hcm ck cn A C W (hA.sees h)).mono fun e w' ⟨A', he, hs, hb⟩ => ⟨A', he, hs.xin.liesIn, hb⟩
  have K2 : Hid (∀ W : World, Sees w W → Calls Tryz.prog 48 #[.slice B ks.len D] W fun e w' => ∃ B', e = .returned (.slice B' ks.len ks.len) ∧ ks.LiesIn w' W.heap.size w'.heap.size B' ∧ Below W.heap.size W w') := fun W h => ihS B D W (hB.sees h)
  clear ihS hA hB
  obtain ⟨w0, hw0⟩ : ∃ w0, w0 = ((w.alloc (.cells #[.int .i64 k, .int .i64 n, .int .i64 ck, .int .i64 cn, .slice A cf.len C, .slice B ks.len D] 29)).alloc (.cells #[.int .i64 0, .int .i64 0, .int .i64 0, .int .i64 0, .slice none 0 0, .slice none 0 0] 41)).alloc (.cells #[.int .i64 k, .int .i64 n, .int .i64 0, .int .i64 0, .slice none 0 0, .slice none 0 0] 41) := ⟨_, rfl⟩
  have B1 : Sees w w0 := by rw [hw0]; exact (((Sees.refl w).alloc _).alloc _).alloc _
  have k0 : w0.heap[w.heap.size]? = some (.cells #[.int .i64 k, .int .i64 n, .int .i64 ck, .int .i64 cn, .slice A cf.len C, .slice B ks.len D] 29 (0, 0)) := by rw [hw0]; exact (Below.heap_alloc _ _ _ (by simp; omega)).trans ((Below.heap_alloc _ _ _ (by simp)).trans (heap_new _ _ _ (by simp)))
  have k1 : w0.heap[w.heap.size + 1]? = some (.cells #[.int .i64 0, .int .i64 0, .int .i64 0, .int .i64 0, .slice none 0 0, .slice none 0 0] 41 (0, 0)) := by rw [hw0]; exact (Below.heap_alloc _ _ _ (by simp)).trans (heap_new _ _ _ (by simp))
  have k2 : w0.heap[w.heap.size + 1 + 1]? = some (.cells #[.int .i64 k, .int .i64 n, .int .i64 0, .int .i64 0, .slice none 0 0, .slice none 0 0] 41 (0, 0)) := by rw [hw0]; exact heap_new _ _ _ (by simp)
  have z1 : w.heap.size + 1 + 1 < w0.heap.size := by rw [hw0]; simp
  have z0 : w0.heap.size = w.heap.size + 1 + 1 + 1 := by rw [hw0]; simp

  go_enter Tryz.func22, Tryz.ntmps22
  go_wp2_with fail
  rw [← hw0]
  have B2 := B1; have z2 := z1


  refine (K1.out _ B2).mono ?_
  rintro e w3 ⟨Z, rfl, hQ, hb⟩
  have HB3 := Lib.hid (B2.below hb)
  have HK3 := Lib.hid ((hb.block _ (by omega)).trans k0)
  have HK4 := Lib.hid ((hb.block _ (by omega)).trans k1)
  have HK5 := Lib.hid ((hb.block _ z2).trans k2)
  have HZ3 := Lib.hid (Nat.lt_of_lt_of_le z2 hb.size)
  have HQ3 := Lib.hid (hQ.mono (lo' := w.heap.size + 1 + 1 + 1) z2 (Nat.le_refl _))
  clear hQ hb B1 B2 k0 k1 k2 z1 z2 hw0 z0
  obtain ⟨p0, p1, p2, p3, p4, p5, _, _, _, _, _, _⟩ := six_facts HK3.out
  obtain ⟨q0, q1, q2, q3, q4, q5, g0, g1, g2, g3, g4, g5⟩ := six_facts HK5.out
  go_wp2_with fail
  clear p0 p1 p2 p3 p4 p5 q0 q1 q2 q3 q4 q5 g0 g1 g2 g3 g4 g5
  have B4 : Sees w (((w3.setCell ⟨w.heap.size + 1 + 1, 2, none⟩ (.int .i64 ck)).setCell ⟨w.heap.size + 1 + 1, 3, none⟩ (.int .i64 cn)).setCell ⟨w.heap.size + 1 + 1, 4, none⟩ (.slice Z cf.len cf.len)) := (sees_set (b := w.heap.size + 1 + 1) (i := 4) (sees_set (b := w.heap.size + 1 + 1) (i := 3) (sees_set (b := w.heap.size + 1 + 1) (i := 2) HB3.out (by omega) (.int .i64 ck)) (by omega) (.int .i64 cn)) (by omega) (.slice Z cf.len cf.len))
  have k1 := (pg_other (b := w.heap.size + 1 + 1) (i := 4) (pg_other (b := w.heap.size + 1 + 1) (i := 3) (pg_other (b := w.heap.size + 1 + 1) (i := 2) HK4.out (by omega) (.int .i64 ck)) (by omega) (.int .i64 cn)) (by omega) (.slice Z cf.len cf.len))
  have k2 : (((w3.setCell ⟨w.heap.size + 1 + 1, 2, none⟩ (.int .i64 ck)).setCell ⟨w.heap.size + 1 + 1, 3, none⟩ (.int .i64 cn)).setCell ⟨w.heap.size + 1 + 1, 4, none⟩ (.slice Z cf.len cf.len)).heap[w.heap.size + 1 + 1]? = some (.cells #[.int .i64 k, .int .i64 n, .int .i64 ck, .int .i64 cn, .slice Z cf.len cf.len, .slice none 0 0] 41 (0, 0)) := by
    rw [Fo.block_setCell (Fo.block_setCell (Fo.block_setCell HK5.out _) _) _]
    rfl
  have z3 : (((w3.setCell ⟨w.heap.size + 1 + 1, 2, none⟩ (.int .i64 ck)).setCell ⟨w.heap.size + 1 + 1, 3, none⟩ (.int .i64 cn)).setCell ⟨w.heap.size + 1 + 1, 4, none⟩ (.slice Z cf.len cf.len)).heap.size = w3.heap.size := by simp
  have z4 : w.heap.size + 1 + 1 < (((w3.setCell ⟨w.heap.size + 1 + 1, 2, none⟩ (.int .i64 ck)).setCell ⟨w.heap.size + 1 + 1, 3, none⟩ (.int .i64 cn)).setCell ⟨w.heap.size + 1 + 1, 4, none⟩ (.slice Z cf.len cf.len)).heap.size := by rw [z3]; exact HZ3.out
  have a4 : Fo.Agree w3 (((w3.setCell ⟨w.heap.size + 1 + 1, 2, none⟩ (.int .i64 ck)).setCell ⟨w.heap.size + 1 + 1, 3, none⟩ (.int .i64 cn)).setCell ⟨w.heap.size + 1 + 1, 4, none⟩ (.slice Z cf.len cf.len)) (w.heap.size + 1 + 1 + 1) w3.heap.size := (Fo.Agree.setCell (Fo.Agree.setCell (Fo.Agree.setCell (Fo.Agree.refl _ _ _) ⟨w.heap.size + 1 + 1, 2, none⟩ (Or.inl (by show w.heap.size + 1 + 1 < _; omega)) (.int .i64 ck)) ⟨w.heap.size + 1 + 1, 3, none⟩ (Or.inl (by show w.heap.size + 1 + 1 < _; omega)) (.int .i64 cn)) ⟨w.heap.size + 1 + 1, 4, none⟩ (Or.inl (by show w.heap.size + 1 + 1 < _; omega)) (.slice Z cf.len cf.len))
  have hQ4 : cf.LiesIn (((w3.setCell ⟨w.heap.size + 1 + 1, 2, none⟩ (.int .i64 ck)).setCell ⟨w.heap.size + 1 + 1, 3, none⟩ (.int .i64 cn)).setCell ⟨w.heap.size + 1 + 1, 4, none⟩ (.slice Z cf.len cf.len)) (w.heap.size + 1 + 1 + 1) w3.heap.size Z := HQ3.out.agree a4
  rw [← z3] at hQ4
  clear a4 z3
  generalize (((w3.setCell ⟨w.heap.size + 1 + 1, 2, none⟩ (.int .i64 ck)).setCell ⟨w.heap.size + 1 + 1, 3, none⟩ (.int .i64 cn)).setCell ⟨w.heap.size + 1 + 1, 4, none⟩ (.slice Z cf.len cf.len)) = w4 at B4 k1 k2 z4 hQ4 ⊢
  refine (K2.out _ B4).mono ?_
  rintro e w5 ⟨Y, rfl, hR, hb⟩
  have HB5 := Lib.hid (B4.below hb)
  have HK6 := Lib.hid ((hb.block _ (by omega)).trans k1)
  have HK7 := Lib.hid ((hb.block _ z4).trans k2)
  have HQ5 := Lib.hid ((hQ4.agree (Fo.Agree.of_below hb)).mono (Nat.le_refl _) hb.size)
  have HR5 := Lib.hid (hR.mono (lo' := w.heap.size + 1 + 1 + 1) z4 (Nat.le_refl _))
  clear hQ4 hR hb B4 k1 k2 z4 HB3 HK3 HK4 HK5 HZ3 HQ3
  obtain ⟨p0, p1, p2, p3, p4, p5, r0, r1, r2, r3, r4, r5⟩ := six_facts HK6.out
  obtain ⟨q0, q1, q2, q3, q4, q5, g0, g1, g2, g3, g4, g5⟩ := six_facts HK7.out
  go_wp2_with fail
  have Bf : Sees w (((((((w5.setCell ⟨w.heap.size + 1 + 1, 5, none⟩ (.slice Y ks.len ks.len)).setCell ⟨w.heap.size + 1, 0, none⟩ (.int .i64 k)).setCell ⟨w.heap.size + 1, 1, none⟩ (.int .i64 n)).setCell ⟨w.heap.size + 1, 2, none⟩ (.int .i64 ck)).setCell ⟨w.heap.size + 1, 3, none⟩ (.int .i64 cn)).setCell ⟨w.heap.size + 1, 4, none⟩ (.slice Z cf.len cf.len)).setCell ⟨w.heap.size + 1, 5, none⟩ (.slice Y ks.len ks.len)) := (sees_set (b := w.heap.size + 1) (i := 5) (sees_set (b := w.heap.size + 1) (i := 4) (sees_set (b := w.heap.size + 1) (i := 3) (sees_set (b := w.heap.size + 1) (i := 2) (sees_set (b := w.heap.size + 1) (i := 1) (sees_set (b := w.heap.size + 1) (i := 0) (sees_set (b := w.heap.size + 1 + 1) (i := 5) HB5.out (by omega) (.slice Y ks.len ks.len)) (by omega) (.int .i64 k)) (by omega) (.int .i64 n)) (by omega) (.int .i64 ck)) (by omega) (.int .i64 cn)) (by omega) (.slice Z cf.len cf.len)) (by omega) (.slice Y ks.len ks.len))
  have zf : (((((((w5.setCell ⟨w.heap.size + 1 + 1, 5, none⟩ (.slice Y ks.len ks.len)).setCell ⟨w.heap.size + 1, 0, none⟩ (.int .i64 k)).setCell ⟨w.heap.size + 1, 1, none⟩ (.int .i64 n)).setCell ⟨w.heap.size + 1, 2, none⟩ (.int .i64 ck)).setCell ⟨w.heap.size + 1, 3, none⟩ (.int .i64 cn)).setCell ⟨w.heap.size + 1, 4, none⟩ (.slice Z cf.len cf.len)).setCell ⟨w.heap.size + 1, 5, none⟩ (.slice Y ks.len ks.len)).heap.size = w5.heap.size := by simp
  have af : Fo.Agree w5 (((((((w5.setCell ⟨w.heap.size + 1 + 1, 5, none⟩ (.slice Y ks.len ks.len)).setCell ⟨w.heap.size + 1, 0, none⟩ (.int .i64 k)).setCell ⟨w.heap.size + 1, 1, none⟩ (.int .i64 n)).setCell ⟨w.heap.size + 1, 2, none⟩ (.int .i64 ck)).setCell ⟨w.heap.size + 1, 3, none⟩ (.int .i64 cn)).setCell ⟨w.heap.size + 1, 4, none⟩ (.slice Z cf.len cf.len)).setCell ⟨w.heap.size + 1, 5, none⟩ (.slice Y ks.len ks.len)) (w.heap.size + 1 + 1 + 1) w5.heap.size := (Fo.Agree.setCell (Fo.Agree.setCell (Fo.Agree.setCell (Fo.Agree.setCell (Fo.Agree.setCell (Fo.Agree.setCell (Fo.Agree.setCell (Fo.Agree.refl _ _ _) ⟨w.heap.size + 1 + 1, 5, none⟩ (Or.inl (by show w.heap.size + 1 + 1 < _; omega)) (.slice Y ks.len ks.len)) ⟨w.heap.size + 1, 0, none⟩ (Or.inl (by show w.heap.size + 1 < _; omega)) (.int .i64 k)) ⟨w.heap.size + 1, 1, none⟩ (Or.inl (by show w.heap.size + 1 < _; omega)) (.int .i64 n)) ⟨w.heap.size + 1, 2, none⟩ (Or.inl (by show w.heap.size + 1 < _; omega)) (.int .i64 ck)) ⟨w.heap.size + 1, 3, none⟩ (Or.inl (by show w.heap.size + 1 < _; omega)) (.int .i64 cn)) ⟨w.heap.size + 1, 4, none⟩ (Or.inl (by show w.heap.size + 1 < _; omega)) (.slice Z cf.len cf.len)) ⟨w.heap.size + 1, 5, none⟩ (Or.inl (by show w.heap.size + 1 < _; omega)) (.slice Y ks.len ks.len))
  have Qf : cf.LiesIn (((((((w5.setCell ⟨w.heap.size + 1 + 1, 5, none⟩ (.slice Y ks.len ks.len)).setCell ⟨w.heap.size + 1, 0, none⟩ (.int .i64 k)).setCell ⟨w.heap.size + 1, 1, none⟩ (.int .i64 n)).setCell ⟨w.heap.size + 1, 2, none⟩ (.int .i64 ck)).setCell ⟨w.heap.size + 1, 3, none⟩ (.int .i64 cn)).setCell ⟨w.heap.size + 1, 4, none⟩ (.slice Z cf.len cf.len)).setCell ⟨w.heap.size + 1, 5, none⟩ (.slice Y ks.len ks.len)) (w.heap.size + 1 + 1 + 1) w5.heap.size Z := HQ5.out.agree af
  have Rf : ks.LiesIn (((((((w5.setCell ⟨w.heap.size + 1 + 1, 5, none⟩ (.slice Y ks.len ks.len)).setCell ⟨w.heap.size + 1, 0, none⟩ (.int .i64 k)).setCell ⟨w.heap.size + 1, 1, none⟩ (.int .i64 n)).setCell ⟨w.heap.size + 1, 2, none⟩ (.int .i64 ck)).setCell ⟨w.heap.size + 1, 3, none⟩ (.int .i64 cn)).setCell ⟨w.heap.size + 1, 4, none⟩ (.slice Z cf.len cf.len)).setCell ⟨w.heap.size + 1, 5, none⟩ (.slice Y ks.len ks.len)) (w.heap.size + 1 + 1 + 1) w5.heap.size Y := HR5.out.agree af
  rw [← zf] at Qf Rf
  have kf : (((((((w5.setCell ⟨w.heap.size + 1 + 1, 5, none⟩ (.slice Y ks.len ks.len)).setCell ⟨w.heap.size + 1, 0, none⟩ (.int .i64 k)).setCell ⟨w.heap.size + 1, 1, none⟩ (.int .i64 n)).setCell ⟨w.heap.size + 1, 2, none⟩ (.int .i64 ck)).setCell ⟨w.heap.size + 1, 3, none⟩ (.int .i64 cn)).setCell ⟨w.heap.size + 1, 4, none⟩ (.slice Z cf.len cf.len)).setCell ⟨w.heap.size + 1, 5, none⟩ (.slice Y ks.len ks.len)).heap[w.heap.size + 1]? = some (.cells #[.int .i64 k, .int .i64 n, .int .i64 ck, .int .i64 cn, .slice Z cf.len cf.len, .slice Y ks.len ks.len] 41 (0, 0)) := (Fo.block_setCell (Fo.block_setCell (Fo.block_setCell (Fo.block_setCell (Fo.block_setCell (Fo.block_setCell (pg_other (b := w.heap.size + 1 + 1) (i := 5) HK6.out (by omega) (.slice Y ks.len ks.len)) (.int .i64 k)) (.int .i64 n)) (.int .i64 ck)) (.int .i64 cn)) (.slice Z cf.len cf.len)) (.slice Y ks.len ks.len))
  clear af zf
  generalize (((((((w5.setCell ⟨w.heap.size + 1 + 1, 5, none⟩ (.slice Y ks.len ks.len)).setCell ⟨w.heap.size + 1, 0, none⟩ (.int .i64 k)).setCell ⟨w.heap.size + 1, 1, none⟩ (.int .i64 n)).setCell ⟨w.heap.size + 1, 2, none⟩ (.int .i64 ck)).setCell ⟨w.heap.size + 1, 3, none⟩ (.int .i64 cn)).setCell ⟨w.heap.size + 1, 4, none⟩ (.slice Z cf.len cf.len)).setCell ⟨w.heap.size + 1, 5, none⟩ (.slice Y ks.len ks.len)) = j at Bf Qf Rf kf ⊢
  clear p0 p1 p2 p3 p4 p5 r0 r1 r2 r3 r4 r5 q0 q1 q2 q3 q4 q5 g0 g1 g2 g3 g4 g5
  obtain ⟨p0, p1, p2, p3, p4, p5, _, _, _, _, _, _⟩ := six_facts kf
  refine bodyPost_ret (v := .agg #[.int .i64 k, .int .i64 n, .int .i64 ck, .int .i64 cn, .slice Z cf.len cf.len, .slice Y ks.len ks.len]) (by simp [results, Tryz.results22, go_sem, p0, p1, p2, p3, p4, p5]) rfl ⟨Z, Y, rfl, Qf.mono (by omega) (Nat.le_refl _), Rf.mono (by omega) (Nat.le_refl _), Bf⟩

/-- What a make of programs lays. -/
def zeroPgs (n : Nat) : Array Value := madeCells (Value.agg #[.int .i64 0, .int .i64 0, .int .i64 0, .int .i64 0, .slice none 0 0, .slice none 0 0]).cells (n * 6)
theorem size_zeroPgs (n : Nat) : (zeroPgs n).size = n * 6 := size_madeCells _ _

theorem Tryz.infoPg : (Tryz.prog.info? 41).map (fun i => (i.zero, i.size, i.bytes)) = some (some (.agg #[.int .i64 0, .int .i64 0, .int .i64 0, .int .i64 0, .slice none 0 0, .slice none 0 0]), 6, 80) := by kernel_rfl

theorem make_progs (n : Nat) (hn : n ≤ 1048576) (w : World) :
    (Instr.makeSlice 39 (.int .i64 (n : Int)) (.int .i64 (n : Int))).run Tryz.prog w = .ok (.slice (some ⟨w.heap.size, 0, none⟩) n n) (w.alloc (.cells (zeroPgs n) 41)) := by
  obtain ⟨i, hi, hz, hs, hb⟩ := info_parts Tryz.infoPg
  have h := run_make (P := Tryz.prog) w 39 41 i _ Tryz.underlying39 hi hz .i64 .i64 (n : Int) (n : Int) (by omega) (Int.le_refl _) (by rw [hb]; omega) (by omega)
  rw [hs] at h
  exact h

set_option maxHeartbeats 2000000 in
set_option maxRecDepth 100000 in
theorem toProgS_any : ∀ (N : Nat) (f : Pg), f.nodes < N → f.nodes ≤ 1048576 → ∀ (A : Option Addr) (C : Nat) (w : World), f.Lies w A →
      Calls Tryz.prog 48 #[.slice A f.len C] w fun e w' => ∃ A', e = .returned (.slice A' f.len f.len) ∧ f.LiesIn w' w.heap.size w'.heap.size A' ∧ Below w.heap.size w w' := by
  intro N
  induction N with
  | zero => intro f hN; exact absurd hN (Nat.not_lt_zero _)
  | succ N ih =>
    intro f hN hm A C w hl
    have IH := Lib.hid ih; clear ih
    have hln := f.len_le_nodes
    have hmk := make_progs f.len (by omega)
    go_enter Tryz.func48, Tryz.ntmps48
    go_wp2_with fail
    go_loopw [4] (fun i wr => ∃ j : Nat, j ≤ f.len ∧ i = .int .i64 j ∧ Hid (Pg.Rows 41 f w.heap.size wr j) ∧ Below w.heap.size w wr) (fun i _ => f.len - (intOf i).toNat)
    case atStart => exact ⟨0, Nat.zero_le _, rfl, Pg.rows_start (size_zeroPgs _), (Below.refl _ _).alloc (Nat.le_refl _) _⟩
    case round =>
      obtain ⟨j, hj, rfl, hR, hb⟩ := hrel
      clear hmk
      by_cases hjl : j < f.len
      · obtain ⟨b, o, rfl, hat⟩ := hl (by rintro rfl; simp [Pg.len] at hjl)
        have hat' := hat.later (w' := wr) (fun b o hlt => hb.cell (p := ⟨b, o, none⟩) hlt)
        obtain ⟨k, n, ck, cn, cf, ks, r, A1, C1, B1, D1, e1, e2, c0, c1, c2, c3, c4, hA1, c5, hB1⟩ := Pg.Lies.row hat' hjl
        have hnd := f.nodes_drop j
        rw [e1.out] at hnd
        have hkn : ks.nodes < N ∧ ks.nodes ≤ 1048576 ∧ cf.nodes ≤ 1048576 := by simp only [Pg.nodes] at hnd; omega
        have KC : Hid (Calls Tryz.prog 22 #[.agg #[.int .i64 k, .int .i64 n, .int .i64 ck, .int .i64 cn, .slice A1 cf.len C1, .slice B1 ks.len D1]] wr fun e w' => ∃ Z Y, e = .returned (.agg #[.int .i64 k, .int .i64 n, .int .i64 ck, .int .i64 cn, .slice Z cf.len cf.len, .slice Y ks.len ks.len]) ∧ cf.LiesIn w' wr.heap.size w'.heap.size Z ∧ ks.LiesIn w' wr.heap.size w'.heap.size Y ∧ Below wr.heap.size wr w') :=
          toProg_of hkn.2.2 (fun A C w => IH.out ks hkn.1 hkn.2.1 A C w) k n ck cn A1 B1 C1 D1 wr hA1 hB1
        have HAT := Lib.hid hat
        clear hnd hat hat' hA1 hB1 hl
        go_wp2_with fail
        refine KC.out.mono ?_
        rintro e w1 ⟨Z, Y, rfl, hQ, hS, hb1⟩
        have hlt := hR.out.2.1
        have hR1 := hR.out.below hb1
        obtain ⟨⟨v0, g0⟩, ⟨v1, g1⟩, ⟨v2, g2⟩, ⟨v3, g3⟩, ⟨v4, g4⟩, ⟨v5, g5⟩, fz⟩ := hR1.cells hjl
        have hR' := Lib.hid (Pg.rows_step hR1 e1.out e2.out hjl hlt hQ hS)
        have hb2 := Lib.hid (hb.trans (hb1.mono hb.size))
        clear hR hR1 hQ hS hb hb1 c0 c1 c2 c3 c4 c5 hlt KC
        go_wp2_with fail
        go_roundw
        case rel => exact ⟨j + 1, by omega, by go_num, hR'.out, by have hb := hb2.out; go_grown⟩
        case measure => simp [intOf]; omega
      · obtain rfl : j = f.len := by omega
        go_wp2_with fail
        go_ret
        exact ⟨_, rfl, Pg.rows_end hR.out (Nat.le_refl _), hb⟩

theorem toProg_any (cf : Fo) (ks : Pg) (hm : cf.nodes + ks.nodes ≤ 1048576) (k n ck cn : Int) (A B : Option Addr) (C D : Nat) (w : World) (hA : cf.Lies w A) (hB : ks.Lies w B) :
    Calls Tryz.prog 22 #[.agg #[.int .i64 k, .int .i64 n, .int .i64 ck, .int .i64 cn, .slice A cf.len C, .slice B ks.len D]] w fun e w' => ∃ Z Y, e = .returned (.agg #[.int .i64 k, .int .i64 n, .int .i64 ck, .int .i64 cn, .slice Z cf.len cf.len, .slice Y ks.len ks.len]) ∧ cf.LiesIn w' w.heap.size w'.heap.size Z ∧ ks.LiesIn w' w.heap.size w'.heap.size Y ∧ Below w.heap.size w w' :=
  toProg_of (by omega) (fun A C w => toProgS_any (ks.nodes + 1) ks (Nat.lt_succ_self _) (by omega) A C w) k n ck cn A B C D w hA hB
end Go.Proofs.YtcgbepmhfimbjaaGreatDoor
