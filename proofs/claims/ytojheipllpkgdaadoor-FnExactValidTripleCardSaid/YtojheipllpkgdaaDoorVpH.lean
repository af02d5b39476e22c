/- Contract of impl.Prog.hasForm. -/
import Derived.Test.YtojheipllpkgdaaDoorVpD
import Derived.Test.YtojheipllpkgdaaDoorQuietC
namespace Go.Proofs.YtojheipllpkgdaaDoor
open Go.RowKit
set_option linter.unusedVariables false

/-- What the table of forms holds at a kind, its words aside. -/
def FormAt (w : World) (i : Nat) (hn hc : Bool) (kids : Int) : Prop :=
  ∃ (A : Option Addr) (l C : Nat), w.cell? ⟨0, 4 * i, none⟩ = some (.slice A l C) ∧ w.cell? ⟨0, 4 * i + 1, none⟩ = some (.bool hn) ∧ w.cell? ⟨0, 4 * i + 2, none⟩ = some (.bool hc) ∧ w.cell? ⟨0, 4 * i + 3, none⟩ = some (.int .i64 kids)
structure Forms (w : World) : Prop where
  f1 : FormAt w 1 false false 0
  f2 : FormAt w 2 false false 0
  f3 : FormAt w 3 true false 0
  f4 : FormAt w 4 false true 0
  f5 : FormAt w 5 false false 2
  f6 : FormAt w 6 false true 2
  f7 : FormAt w 7 false true 1
theorem FormAt.sees {w w' : World} {i : Nat} {hn hc : Bool} {kids : Int} (h : FormAt w i hn hc kids) (hs : Sees w w') : FormAt w' i hn hc kids := by
  obtain ⟨A, l, C, h1, h2, h3, h4⟩ := h
  exact ⟨A, l, C, kc hs h1, kc hs h2, kc hs h3, kc hs h4⟩
theorem Forms.sees {w w' : World} (h : Forms w) (hs : Sees w w') : Forms w' := ⟨h.f1.sees hs, h.f2.sees hs, h.f3.sees hs, h.f4.sees hs, h.f5.sees hs, h.f6.sees hs, h.f7.sees hs⟩

set_option maxHeartbeats 2000000 in
set_option maxRecDepth 100000 in
theorem phasForm_1 (t a n ck cn : Int) (cf : Fo) (f : Pg) (hm : cf.nodes ≤ 1048576) (hcf : cf.Fits) (hln : f.len ≤ 1048576) (A B : Option Addr) (C D : Nat) (w : World) (hA : cf.Lies w A) (hF : FormAt w 1 false false 0) :
    Calls Tryd.prog 40 #[.agg #[.int .i64 1, .int .i64 n, .int .i64 ck, .int .i64 cn, .slice A cf.len C, .slice B f.len D], .agg #[.int .i64 t, .int .i64 a]] w fun e w' => e = .returned (.bool (pform t a 1 n ck cn cf f.len)) ∧ Below w.heap.size w w' := by
  obtain ⟨Wd, lw, Cw, d0, d1, d2, d3⟩ := hF
  obtain ⟨w0, hw0⟩ : ∃ w0, w0 = (w.alloc (.cells #[.int .i64 1, .int .i64 n, .int .i64 ck, .int .i64 cn, .slice A cf.len C, .slice B f.len D] 39)).alloc (.cells #[.int .i64 t, .int .i64 a] 32) := ⟨_, rfl⟩
  have B0 : Sees w w0 := by rw [hw0]; exact ((Sees.refl w).alloc _).alloc _
  have hp0 : w0.heap[w.heap.size]? = some (.cells #[.int .i64 1, .int .i64 n, .int .i64 ck, .int .i64 cn, .slice A cf.len C, .slice B f.len D] 39 (0, 0)) := by rw [hw0]; exact (Below.heap_alloc _ _ _ (by simp)).trans (heap_new _ _ _ rfl)
  have hg0 : w0.heap[w.heap.size + 1]? = some (.cells #[.int .i64 t, .int .i64 a] 32 (0, 0)) := by rw [hw0]; exact heap_new _ _ _ (by simp)
  obtain ⟨q0, hq0⟩ : ∃ q : Bool, q = belowB n 1 := ⟨_, rfl⟩
  have K0 : Hid (∀ W : World, Calls Tryd.prog 71 #[.int .i64 n, .int .i64 1] W fun e w' => e = .returned (.bool q0) ∧ W = w') := fun W => by rw [hq0]; exact below_any n 1 W
  obtain ⟨q1, hq1⟩ : ∃ q : Bool, q = fieldV t a ck cn cf false := ⟨_, rfl⟩
  have K1 : Hid (∀ W : World, Sees w W → Calls Tryd.prog 74 #[.agg #[.int .i64 t, .int .i64 a], .agg #[.int .i64 ck, .int .i64 cn, .slice A cf.len C], .bool false] W fun e w' => e = .returned (.bool q1) ∧ Below W.heap.size W w') := fun W h => by rw [hq1]; exact isCondField_any t a ck cn cf hm hcf false A C W (hA.sees h)
  have HS : Hid (pform t a 1 n ck cn cf f.len = (decide ((f.len : Int) = 0) && (q0 && q1))) := by
    show _ = _
    unfold pform
    rw [hq0, hq1]
    rfl
  have FIN : Hid (∀ W : World, Below w0.heap.size w0 W → Below w.heap.size w W) := fun W h => B0.below h
  have e0 : w0.cell? ⟨0, 4, none⟩ = some (.slice Wd lw Cw) := kc B0 d0
  have e1 : w0.cell? ⟨0, 5, none⟩ = some (.bool false) := kc B0 d1
  have e2 : w0.cell? ⟨0, 6, none⟩ = some (.bool false) := kc B0 d2
  have e3 : w0.cell? ⟨0, 7, none⟩ = some (.int .i64 0) := kc B0 d3
  have a0 := Fo.cell_of_block hp0 0; have a1 := Fo.cell_of_block hp0 1; have a2 := Fo.cell_of_block hp0 2; have a3 := Fo.cell_of_block hp0 3; have a4 := Fo.cell_of_block hp0 4; have a5 := Fo.cell_of_block hp0 5
  have s0 := Fo.cell_of_block hg0 0; have s1 := Fo.cell_of_block hg0 1
  have l0 : w.heap.size + 1 < w0.heap.size := by rw [hw0]; simp
  have lg : 0 < w0.heap.size := World.block_lt_of_cell? _ _ e0
  obtain ⟨w1, hw1⟩ : ∃ w1, w1 = w0.alloc (.cells #[.slice Wd lw Cw, .bool false, .bool false, .int .i64 0] 128) := ⟨_, rfl⟩
  have B1 : Sees w0 w1 := by rw [hw1]; exact (Sees.refl _).alloc _
  have hf1 : w1.heap[w0.heap.size]? = some (.cells #[.slice Wd lw Cw, .bool false, .bool false, .int .i64 0] 128 (0, 0)) := by rw [hw1]; exact heap_new _ _ _ rfl
  have A0 := kc B1 a0; have A1 := kc B1 a1; have A2 := kc B1 a2; have A3 := kc B1 a3; have A4 := kc B1 a4; have A5 := kc B1 a5; have S0 := kc B1 s0; have S1 := kc B1 s1
  have F0 := Fo.cell_of_block hf1 0; have F1 := Fo.cell_of_block hf1 1; have F2 := Fo.cell_of_block hf1 2; have F3 := Fo.cell_of_block hf1 3
  have HB0 := Lib.hid B0; have HB1 := Lib.hid B1
  rw [hw1] at A0 A1 A2 A3 A4 A5 S0 S1 F0 F1 F2 F3
  rw [hw0] at A0 A1 A2 A3 A4 A5 S0 S1 F0 F1 F2 F3 e0 e1 e2 e3 a0 a1 a2 a3 a4 a5 s0 s1
  have HW0 := Lib.hid hw0; have HW1 := Lib.hid hw1
  clear hw0 hw1
  clear hq0 hq1 hm hcf hA B0 B1 d0 d1 d2 d3 hp0 hg0 hf1
  by_cases hl : (f.len : Int) = 0
  · have tl : ((f.len : Int) == 0) = true := by simp [hl]
    have HD : Hid (pform t a 1 n ck cn cf f.len = (q0 && q1)) := by show _ = _; rw [HS.out, decide_eq_true hl]; rfl
    clear hl HS
    cases q0
    · go_enter Tryd.func40, Tryd.ntmps40
      go_wp2_with fail
      refine (K0.out _).mono ?_
      rintro e w' ⟨rfl, rfl⟩
      go_wp2_with fail
      go_ret
      exact ⟨ret_bool HD.out.symm, by rw [← HW0.out, ← HW1.out]; exact FIN.out _ HB1.out⟩
    · go_enter Tryd.func40, Tryd.ntmps40
      go_wp2_with fail
      refine (K0.out _).mono ?_
      rintro e w' ⟨rfl, rfl⟩
      go_wp2_with fail
      rw [← HW0.out, ← HW1.out]
      refine (K1.out _ (HB0.out.below HB1.out)).mono ?_
      rintro e w2 ⟨rfl, hb⟩
      have B2 := Lib.hid (FIN.out _ (Below.trans HB1.out (hb.mono HB1.out.size)))
      clear hb
      go_wp2_with fail
      go_ret
      exact ⟨ret_bool HD.out.symm, B2.out⟩
  · have tl : ((f.len : Int) == 0) = false := by rw [beq_eq_false_iff_ne]; exact hl
    have HD : Hid (pform t a 1 n ck cn cf f.len = false) := by show _ = _; rw [HS.out, decide_eq_false hl]; rfl
    clear hl HS
    go_enter Tryd.func40, Tryd.ntmps40
    go_wp2_with fail
    go_ret
    exact ⟨ret_bool HD.out.symm, by rw [← HW0.out, ← HW1.out]; exact FIN.out _ HB1.out⟩
set_option maxHeartbeats 2000000 in
set_option maxRecDepth 100000 in
theorem phasForm_2 (t a n ck cn : Int) (cf : Fo) (f : Pg) (hm : cf.nodes ≤ 1048576) (hcf : cf.Fits) (hln : f.len ≤ 1048576) (A B : Option Addr) (C D : Nat) (w : World) (hA : cf.Lies w A) (hF : FormAt w 2 false false 0) :
    Calls Tryd.prog 40 #[.agg #[.int .i64 2, .int .i64 n, .int .i64 ck, .int .i64 cn, .slice A cf.len C, .slice B f.len D], .agg #[.int .i64 t, .int .i64 a]] w fun e w' => e = .returned (.bool (pform t a 2 n ck cn cf f.len)) ∧ Below w.heap.size w w' := by
  obtain ⟨Wd, lw, Cw, d0, d1, d2, d3⟩ := hF
  obtain ⟨w0, hw0⟩ : ∃ w0, w0 = (w.alloc (.cells #[.int .i64 2, .int .i64 n, .int .i64 ck, .int .i64 cn, .slice A cf.len C, .slice B f.len D] 39)).alloc (.cells #[.int .i64 t, .int .i64 a] 32) := ⟨_, rfl⟩
  have B0 : Sees w w0 := by rw [hw0]; exact ((Sees.refl w).alloc _).alloc _
  have hp0 : w0.heap[w.heap.size]? = some (.cells #[.int .i64 2, .int .i64 n, .int .i64 ck, .int .i64 cn, .slice A cf.len C, .slice B f.len D] 39 (0, 0)) := by rw [hw0]; exact (Below.heap_alloc _ _ _ (by simp)).trans (heap_new _ _ _ rfl)
  have hg0 : w0.heap[w.heap.size + 1]? = some (.cells #[.int .i64 t, .int .i64 a] 32 (0, 0)) := by rw [hw0]; exact heap_new _ _ _ (by simp)
  obtain ⟨q0, hq0⟩ : ∃ q : Bool, q = belowB n 1 := ⟨_, rfl⟩
  have K0 : Hid (∀ W : World, Calls Tryd.prog 71 #[.int .i64 n, .int .i64 1] W fun e w' => e = .returned (.bool q0) ∧ W = w') := fun W => by rw [hq0]; exact below_any n 1 W
  obtain ⟨q1, hq1⟩ : ∃ q : Bool, q = fieldV t a ck cn cf false := ⟨_, rfl⟩
  have K1 : Hid (∀ W : World, Sees w W → Calls Tryd.prog 74 #[.agg #[.int .i64 t, .int .i64 a], .agg #[.int .i64 ck, .int .i64 cn, .slice A cf.len C], .bool false] W fun e w' => e = .returned (.bool q1) ∧ Below W.heap.size W w') := fun W h => by rw [hq1]; exact isCondField_any t a ck cn cf hm hcf false A C W (hA.sees h)
  have HS : Hid (pform t a 2 n ck cn cf f.len = (decide ((f.len : Int) = 0) && (q0 && q1))) := by
    show _ = _
    unfold pform
    rw [hq0, hq1]
    rfl
  have FIN : Hid (∀ W : World, Below w0.heap.size w0 W → Below w.heap.size w W) := fun W h => B0.below h
  have e0 : w0.cell? ⟨0, 8, none⟩ = some (.slice Wd lw Cw) := kc B0 d0
  have e1 : w0.cell? ⟨0, 9, none⟩ = some (.bool false) := kc B0 d1
  have e2 : w0.cell? ⟨0, 10, none⟩ = some (.bool false) := kc B0 d2
  have e3 : w0.cell? ⟨0, 11, none⟩ = some (.int .i64 0) := kc B0 d3
  have a0 := Fo.cell_of_block hp0 0; have a1 := Fo.cell_of_block hp0 1; have a2 := Fo.cell_of_block hp0 2; have a3 := Fo.cell_of_block hp0 3; have a4 := Fo.cell_of_block hp0 4; have a5 := Fo.cell_of_block hp0 5
  have s0 := Fo.cell_of_block hg0 0; have s1 := Fo.cell_of_block hg0 1
  have l0 : w.heap.size + 1 < w0.heap.size := by rw [hw0]; simp
  have lg : 0 < w0.heap.size := World.block_lt_of_cell? _ _ e0
  obtain ⟨w1, hw1⟩ : ∃ w1, w1 = w0.alloc (.cells #[.slice Wd lw Cw, .bool false, .bool false, .int .i64 0] 128) := ⟨_, rfl⟩
  have B1 : Sees w0 w1 := by rw [hw1]; exact (Sees.refl _).alloc _
  have hf1 : w1.heap[w0.heap.size]? = some (.cells #[.slice Wd lw Cw, .bool false, .bool false, .int .i64 0] 128 (0, 0)) := by rw [hw1]; exact heap_new _ _ _ rfl
  have A0 := kc B1 a0; have A1 := kc B1 a1; have A2 := kc B1 a2; have A3 := kc B1 a3; have A4 := kc B1 a4; have A5 := kc B1 a5; have S0 := kc B1 s0; have S1 := kc B1 s1
  have F0 := Fo.cell_of_block hf1 0; have F1 := Fo.cell_of_block hf1 1; have F2 := Fo.cell_of_block hf1 2; have F3 := Fo.cell_of_block hf1 3
  have HB0 := Lib.hid B0; have HB1 := Lib.hid B1
  rw [hw1] at A0 A1 A2 A3 A4 A5 S0 S1 F0 F1 F2 F3
  rw [hw0] at A0 A1 A2 A3 A4 A5 S0 S1 F0 F1 F2 F3 e0 e1 e2 e3 a0 a1 a2 a3 a4 a5 s0 s1
  have HW0 := Lib.hid hw0; have HW1 := Lib.hid hw1
  clear hw0 hw1
  clear hq0 hq1 hm hcf hA B0 B1 d0 d1 d2 d3 hp0 hg0 hf1
  by_cases hl : (f.len : Int) = 0
  · have tl : ((f.len : Int) == 0) = true := by simp [hl]
    have HD : Hid (pform t a 2 n ck cn cf f.len = (q0 && q1)) := by show _ = _; rw [HS.out, decide_eq_true hl]; rfl
    clear hl HS
    cases q0
    · go_enter Tryd.func40, Tryd.ntmps40
      go_wp2_with fail
      refine (K0.out _).mono ?_
      rintro e w' ⟨rfl, rfl⟩
      go_wp2_with fail
      go_ret
      exact ⟨ret_bool HD.out.symm, by rw [← HW0.out, ← HW1.out]; exact FIN.out _ HB1.out⟩
    · go_enter Tryd.func40, Tryd.ntmps40
      go_wp2_with fail
      refine (K0.out _).mono ?_
      rintro e w' ⟨rfl, rfl⟩
      go_wp2_with fail
      rw [← HW0.out, ← HW1.out]
      refine (K1.out _ (HB0.out.below HB1.out)).mono ?_
      rintro e w2 ⟨rfl, hb⟩
      have B2 := Lib.hid (FIN.out _ (Below.trans HB1.out (hb.mono HB1.out.size)))
      clear hb
      go_wp2_with fail
      go_ret
      exact ⟨ret_bool HD.out.symm, B2.out⟩
  · have tl : ((f.len : Int) == 0) = false := by rw [beq_eq_false_iff_ne]; exact hl
    have HD : Hid (pform t a 2 n ck cn cf f.len = false) := by show _ = _; rw [HS.out, decide_eq_false hl]; rfl
    clear hl HS
    go_enter Tryd.func40, Tryd.ntmps40
    go_wp2_with fail
    go_ret
    exact ⟨ret_bool HD.out.symm, by rw [← HW0.out, ← HW1.out]; exact FIN.out _ HB1.out⟩
set_option maxHeartbeats 2000000 in
set_option maxRecDepth 100000 in
theorem phasForm_3 (t a n ck cn : Int) (cf : Fo) (f : Pg) (hm : cf.nodes ≤ 1048576) (hcf : cf.Fits) (hln : f.len ≤ 1048576) (A B : Option Addr) (C D : Nat) (w : World) (hA : cf.Lies w A) (hF : FormAt w 3 true false 0) :
    Calls Tryd.prog 40 #[.agg #[.int .i64 3, .int .i64 n, .int .i64 ck, .int .i64 cn, .slice A cf.len C, .slice B f.len D], .agg #[.int .i64 t, .int .i64 a]] w fun e w' => e = .returned (.bool (pform t a 3 n ck cn cf f.len)) ∧ Below w.heap.size w w' := by
  obtain ⟨Wd, lw, Cw, d0, d1, d2, d3⟩ := hF
  obtain ⟨w0, hw0⟩ : ∃ w0, w0 = (w.alloc (.cells #[.int .i64 3, .int .i64 n, .int .i64 ck, .int .i64 cn, .slice A cf.len C, .slice B f.len D] 39)).alloc (.cells #[.int .i64 t, .int .i64 a] 32) := ⟨_, rfl⟩
  have B0 : Sees w w0 := by rw [hw0]; exact ((Sees.refl w).alloc _).alloc _
  have hp0 : w0.heap[w.heap.size]? = some (.cells #[.int .i64 3, .int .i64 n, .int .i64 ck, .int .i64 cn, .slice A cf.len C, .slice B f.len D] 39 (0, 0)) := by rw [hw0]; exact (Below.heap_alloc _ _ _ (by simp)).trans (heap_new _ _ _ rfl)
  have hg0 : w0.heap[w.heap.size + 1]? = some (.cells #[.int .i64 t, .int .i64 a] 32 (0, 0)) := by rw [hw0]; exact heap_new _ _ _ (by simp)
  obtain ⟨q0, hq0⟩ : ∃ q : Bool, q = belowB n a := ⟨_, rfl⟩
  have K0 : Hid (∀ W : World, Calls Tryd.prog 71 #[.int .i64 n, .int .i64 a] W fun e w' => e = .returned (.bool q0) ∧ W = w') := fun W => by rw [hq0]; exact below_any n a W
  obtain ⟨q1, hq1⟩ : ∃ q : Bool, q = fieldV t a ck cn cf false := ⟨_, rfl⟩
  have K1 : Hid (∀ W : World, Sees w W → Calls Tryd.prog 74 #[.agg #[.int .i64 t, .int .i64 a], .agg #[.int .i64 ck, .int .i64 cn, .slice A cf.len C], .bool false] W fun e w' => e = .returned (.bool q1) ∧ Below W.heap.size W w') := fun W h => by rw [hq1]; exact isCondField_any t a ck cn cf hm hcf false A C W (hA.sees h)
  have HS : Hid (pform t a 3 n ck cn cf f.len = (decide ((f.len : Int) = 0) && (q0 && q1))) := by
    show _ = _
    unfold pform
    rw [hq0, hq1]
    rfl
  have FIN : Hid (∀ W : World, Below w0.heap.size w0 W → Below w.heap.size w W) := fun W h => B0.below h
  have e0 : w0.cell? ⟨0, 12, none⟩ = some (.slice Wd lw Cw) := kc B0 d0
  have e1 : w0.cell? ⟨0, 13, none⟩ = some (.bool true) := kc B0 d1
  have e2 : w0.cell? ⟨0, 14, none⟩ = some (.bool false) := kc B0 d2
  have e3 : w0.cell? ⟨0, 15, none⟩ = some (.int .i64 0) := kc B0 d3
  have a0 := Fo.cell_of_block hp0 0; have a1 := Fo.cell_of_block hp0 1; have a2 := Fo.cell_of_block hp0 2; have a3 := Fo.cell_of_block hp0 3; have a4 := Fo.cell_of_block hp0 4; have a5 := Fo.cell_of_block hp0 5
  have s0 := Fo.cell_of_block hg0 0; have s1 := Fo.cell_of_block hg0 1
  have l0 : w.heap.size + 1 < w0.heap.size := by rw [hw0]; simp
  have lg : 0 < w0.heap.size := World.block_lt_of_cell? _ _ e0
  obtain ⟨w1, hw1⟩ : ∃ w1, w1 = w0.alloc (.cells #[.slice Wd lw Cw, .bool true, .bool false, .int .i64 0] 128) := ⟨_, rfl⟩
  have B1 : Sees w0 w1 := by rw [hw1]; exact (Sees.refl _).alloc _
  have hf1 : w1.heap[w0.heap.size]? = some (.cells #[.slice Wd lw Cw, .bool true, .bool false, .int .i64 0] 128 (0, 0)) := by rw [hw1]; exact heap_new _ _ _ rfl
  have A0 := kc B1 a0; have A1 := kc B1 a1; have A2 := kc B1 a2; have A3 := kc B1 a3; have A4 := kc B1 a4; have A5 := kc B1 a5; have S0 := kc B1 s0; have S1 := kc B1 s1
  have F0 := Fo.cell_of_block hf1 0; have F1 := Fo.cell_of_block hf1 1; have F2 := Fo.cell_of_block hf1 2; have F3 := Fo.cell_of_block hf1 3
  have HB0 := Lib.hid B0; have HB1 := Lib.hid B1
  rw [hw1] at A0 A1 A2 A3 A4 A5 S0 S1 F0 F1 F2 F3
  rw [hw0] at A0 A1 A2 A3 A4 A5 S0 S1 F0 F1 F2 F3 e0 e1 e2 e3 a0 a1 a2 a3 a4 a5 s0 s1
  have HW0 := Lib.hid hw0; have HW1 := Lib.hid hw1
  clear hw0 hw1
  clear hq0 hq1 hm hcf hA B0 B1 d0 d1 d2 d3 hp0 hg0 hf1
  by_cases hl : (f.len : Int) = 0
  · have tl : ((f.len : Int) == 0) = true := by simp [hl]
    have HD : Hid (pform t a 3 n ck cn cf f.len = (q0 && q1)) := by show _ = _; rw [HS.out, decide_eq_true hl]; rfl
    clear hl HS
    cases q0
    · go_enter Tryd.func40, Tryd.ntmps40
      go_wp2_with fail
      refine (K0.out _).mono ?_
      rintro e w' ⟨rfl, rfl⟩
      go_wp2_with fail
      go_ret
      exact ⟨ret_bool HD.out.symm, by rw [← HW0.out, ← HW1.out]; exact FIN.out _ HB1.out⟩
    · go_enter Tryd.func40, Tryd.ntmps40
      go_wp2_with fail
      refine (K0.out _).mono ?_
      rintro e w' ⟨rfl, rfl⟩
      go_wp2_with fail
      rw [← HW0.out, ← HW1.out]
      refine (K1.out _ (HB0.out.below HB1.out)).mono ?_
      rintro e w2 ⟨rfl, hb⟩
      have B2 := Lib.hid (FIN.out _ (Below.trans HB1.out (hb.mono HB1.out.size)))
      clear hb
      go_wp2_with fail
      go_ret
      exact ⟨ret_bool HD.out.symm, B2.out⟩
  · have tl : ((f.len : Int) == 0) = false := by rw [beq_eq_false_iff_ne]; exact hl
    have HD : Hid (pform t a 3 n ck cn cf f.len = false) := by show _ = _; rw [HS.out, decide_eq_false hl]; rfl
    clear hl HS
    go_enter Tryd.func40, Tryd.ntmps40
    go_wp2_with fail
    go_ret
    exact ⟨ret_bool HD.out.symm, by rw [← HW0.out, ← HW1.out]; exact FIN.out _ HB1.out⟩
set_option maxHeartbeats 2000000 in
set_option maxRecDepth 100000 in
theorem phasForm_4 (t a n ck cn : Int) (cf : Fo) (f : Pg) (hm : cf.nodes ≤ 1048576) (hcf : cf.Fits) (hln : f.len ≤ 1048576) (A B : Option Addr) (C D : Nat) (w : World) (hA : cf.Lies w A) (hF : FormAt w 4 false true 0) :
    Calls Tryd.prog 40 #[.agg #[.int .i64 4, .int .i64 n, .int .i64 ck, .int .i64 cn, .slice A cf.len C, .slice B f.len D], .agg #[.int .i64 t, .int .i64 a]] w fun e w' => e = .returned (.bool (pform t a 4 n ck cn cf f.len)) ∧ Below w.heap.size w w' := by
  obtain ⟨Wd, lw, Cw, d0, d1, d2, d3⟩ := hF
  obtain ⟨w0, hw0⟩ : ∃ w0, w0 = (w.alloc (.cells #[.int .i64 4, .int .i64 n, .int .i64 ck, .int .i64 cn, .slice A cf.len C, .slice B f.len D] 39)).alloc (.cells #[.int .i64 t, .int .i64 a] 32) := ⟨_, rfl⟩
  have B0 : Sees w w0 := by rw [hw0]; exact ((Sees.refl w).alloc _).alloc _
  have hp0 : w0.heap[w.heap.size]? = some (.cells #[.int .i64 4, .int .i64 n, .int .i64 ck, .int .i64 cn, .slice A cf.len C, .slice B f.len D] 39 (0, 0)) := by rw [hw0]; exact (Below.heap_alloc _ _ _ (by simp)).trans (heap_new _ _ _ rfl)
  have hg0 : w0.heap[w.heap.size + 1]? = some (.cells #[.int .i64 t, .int .i64 a] 32 (0, 0)) := by rw [hw0]; exact heap_new _ _ _ (by simp)
  obtain ⟨q0, hq0⟩ : ∃ q : Bool, q = belowB n 1 := ⟨_, rfl⟩
  have K0 : Hid (∀ W : World, Calls Tryd.prog 71 #[.int .i64 n, .int .i64 1] W fun e w' => e = .returned (.bool q0) ∧ W = w') := fun W => by rw [hq0]; exact below_any n 1 W
  obtain ⟨q1, hq1⟩ : ∃ q : Bool, q = fieldV t a ck cn cf true := ⟨_, rfl⟩
  have K1 : Hid (∀ W : World, Sees w W → Calls Tryd.prog 74 #[.agg #[.int .i64 t, .int .i64 a], .agg #[.int .i64 ck, .int .i64 cn, .slice A cf.len C], .bool true] W fun e w' => e = .returned (.bool q1) ∧ Below W.heap.size W w') := fun W h => by rw [hq1]; exact isCondField_any t a ck cn cf hm hcf true A C W (hA.sees h)
  have HS : Hid (pform t a 4 n ck cn cf f.len = (decide ((f.len : Int) = 0) && (q0 && q1))) := by
    show _ = _
    unfold pform
    rw [hq0, hq1]
    rfl
  have FIN : Hid (∀ W : World, Below w0.heap.size w0 W → Below w.heap.size w W) := fun W h => B0.below h
  have e0 : w0.cell? ⟨0, 16, none⟩ = some (.slice Wd lw Cw) := kc B0 d0
  have e1 : w0.cell? ⟨0, 17, none⟩ = some (.bool false) := kc B0 d1
  have e2 : w0.cell? ⟨0, 18, none⟩ = some (.bool true) := kc B0 d2
  have e3 : w0.cell? ⟨0, 19, none⟩ = some (.int .i64 0) := kc B0 d3
  have a0 := Fo.cell_of_block hp0 0; have a1 := Fo.cell_of_block hp0 1; have a2 := Fo.cell_of_block hp0 2; have a3 := Fo.cell_of_block hp0 3; have a4 := Fo.cell_of_block hp0 4; have a5 := Fo.cell_of_block hp0 5
  have s0 := Fo.cell_of_block hg0 0; have s1 := Fo.cell_of_block hg0 1
  have l0 : w.heap.size + 1 < w0.heap.size := by rw [hw0]; simp
  have lg : 0 < w0.heap.size := World.block_lt_of_cell? _ _ e0
  obtain ⟨w1, hw1⟩ : ∃ w1, w1 = w0.alloc (.cells #[.slice Wd lw Cw, .bool false, .bool true, .int .i64 0] 128) := ⟨_, rfl⟩
  have B1 : Sees w0 w1 := by rw [hw1]; exact (Sees.refl _).alloc _
  have hf1 : w1.heap[w0.heap.size]? = some (.cells #[.slice Wd lw Cw, .bool false, .bool true, .int .i64 0] 128 (0, 0)) := by rw [hw1]; exact heap_new _ _ _ rfl
  have A0 := kc B1 a0; have A1 := kc B1 a1; have A2 := kc B1 a2; have A3 := kc B1 a3; have A4 := kc B1 a4; have A5 := kc B1 a5; have S0 := kc B1 s0; have S1 := kc B1 s1
  have F0 := Fo.cell_of_block hf1 0; have F1 := Fo.cell_of_block hf1 1; have F2 := Fo.cell_of_block hf1 2; have F3 := Fo.cell_of_block hf1 3
  have HB0 := Lib.hid B0; have HB1 := Lib.hid B1
  rw [hw1] at A0 A1 A2 A3 A4 A5 S0 S1 F0 F1 F2 F3
  rw [hw0] at A0 A1 A2 A3 A4 A5 S0 S1 F0 F1 F2 F3 e0 e1 e2 e3 a0 a1 a2 a3 a4 a5 s0 s1
  have HW0 := Lib.hid hw0; have HW1 := Lib.hid hw1
  clear hw0 hw1
  clear hq0 hq1 hm hcf hA B0 B1 d0 d1 d2 d3 hp0 hg0 hf1
  by_cases hl : (f.len : Int) = 0
  · have tl : ((f.len : Int) == 0) = true := by simp [hl]
    have HD : Hid (pform t a 4 n ck cn cf f.len = (q0 && q1)) := by show _ = _; rw [HS.out, decide_eq_true hl]; rfl
    clear hl HS
    cases q0
    · go_enter Tryd.func40, Tryd.ntmps40
      go_wp2_with fail
      refine (K0.out _).mono ?_
      rintro e w' ⟨rfl, rfl⟩
      go_wp2_with fail
      go_ret
      exact ⟨ret_bool HD.out.symm, by rw [← HW0.out, ← HW1.out]; exact FIN.out _ HB1.out⟩
    · go_enter Tryd.func40, Tryd.ntmps40
      go_wp2_with fail
      refine (K0.out _).mono ?_
      rintro e w' ⟨rfl, rfl⟩
      go_wp2_with fail
      rw [← HW0.out, ← HW1.out]
      refine (K1.out _ (HB0.out.below HB1.out)).mono ?_
      rintro e w2 ⟨rfl, hb⟩
      have B2 := Lib.hid (FIN.out _ (Below.trans HB1.out (hb.mono HB1.out.size)))
      clear hb
      go_wp2_with fail
      go_ret
      exact ⟨ret_bool HD.out.symm, B2.out⟩
  · have tl : ((f.len : Int) == 0) = false := by rw [beq_eq_false_iff_ne]; exact hl
    have HD : Hid (pform t a 4 n ck cn cf f.len = false) := by show _ = _; rw [HS.out, decide_eq_false hl]; rfl
    clear hl HS
    go_enter Tryd.func40, Tryd.ntmps40
    go_wp2_with fail
    go_ret
    exact ⟨ret_bool HD.out.symm, by rw [← HW0.out, ← HW1.out]; exact FIN.out _ HB1.out⟩
set_option maxHeartbeats 2000000 in
set_option maxRecDepth 100000 in
theorem phasForm_5 (t a n ck cn : Int) (cf : Fo) (f : Pg) (hm : cf.nodes ≤ 1048576) (hcf : cf.Fits) (hln : f.len ≤ 1048576) (A B : Option Addr) (C D : Nat) (w : World) (hA : cf.Lies w A) (hF : FormAt w 5 false false 2) :
    Calls Tryd.prog 40 #[.agg #[.int .i64 5, .int .i64 n, .int .i64 ck, .int .i64 cn, .slice A cf.len C, .slice B f.len D], .agg #[.int .i64 t, .int .i64 a]] w fun e w' => e = .returned (.bool (pform t a 5 n ck cn cf f.len)) ∧ Below w.heap.size w w' := by
  obtain ⟨Wd, lw, Cw, d0, d1, d2, d3⟩ := hF
  obtain ⟨w0, hw0⟩ : ∃ w0, w0 = (w.alloc (.cells #[.int .i64 5, .int .i64 n, .int .i64 ck, .int .i64 cn, .slice A cf.len C, .slice B f.len D] 39)).alloc (.cells #[.int .i64 t, .int .i64 a] 32) := ⟨_, rfl⟩
  have B0 : Sees w w0 := by rw [hw0]; exact ((Sees.refl w).alloc _).alloc _
  have hp0 : w0.heap[w.heap.size]? = some (.cells #[.int .i64 5, .int .i64 n, .int .i64 ck, .int .i64 cn, .slice A cf.len C, .slice B f.len D] 39 (0, 0)) := by rw [hw0]; exact (Below.heap_alloc _ _ _ (by simp)).trans (heap_new _ _ _ rfl)
  have hg0 : w0.heap[w.heap.size + 1]? = some (.cells #[.int .i64 t, .int .i64 a] 32 (0, 0)) := by rw [hw0]; exact heap_new _ _ _ (by simp)
  obtain ⟨q0, hq0⟩ : ∃ q : Bool, q = belowB n 1 := ⟨_, rfl⟩
  have K0 : Hid (∀ W : World, Calls Tryd.prog 71 #[.int .i64 n, .int .i64 1] W fun e w' => e = .returned (.bool q0) ∧ W = w') := fun W => by rw [hq0]; exact below_any n 1 W
  obtain ⟨q1, hq1⟩ : ∃ q : Bool, q = fieldV t a ck cn cf false := ⟨_, rfl⟩
  have K1 : Hid (∀ W : World, Sees w W → Calls Tryd.prog 74 #[.agg #[.int .i64 t, .int .i64 a], .agg #[.int .i64 ck, .int .i64 cn, .slice A cf.len C], .bool false] W fun e w' => e = .returned (.bool q1) ∧ Below W.heap.size W w') := fun W h => by rw [hq1]; exact isCondField_any t a ck cn cf hm hcf false A C W (hA.sees h)
  have HS : Hid (pform t a 5 n ck cn cf f.len = (decide ((f.len : Int) = 2) && (q0 && q1))) := by
    show _ = _
    unfold pform
    rw [hq0, hq1]
    rfl
  have FIN : Hid (∀ W : World, Below w0.heap.size w0 W → Below w.heap.size w W) := fun W h => B0.below h
  have e0 : w0.cell? ⟨0, 20, none⟩ = some (.slice Wd lw Cw) := kc B0 d0
  have e1 : w0.cell? ⟨0, 21, none⟩ = some (.bool false) := kc B0 d1
  have e2 : w0.cell? ⟨0, 22, none⟩ = some (.bool false) := kc B0 d2
  have e3 : w0.cell? ⟨0, 23, none⟩ = some (.int .i64 2) := kc B0 d3
  have a0 := Fo.cell_of_block hp0 0; have a1 := Fo.cell_of_block hp0 1; have a2 := Fo.cell_of_block hp0 2; have a3 := Fo.cell_of_block hp0 3; have a4 := Fo.cell_of_block hp0 4; have a5 := Fo.cell_of_block hp0 5
  have s0 := Fo.cell_of_block hg0 0; have s1 := Fo.cell_of_block hg0 1
  have l0 : w.heap.size + 1 < w0.heap.size := by rw [hw0]; simp
  have lg : 0 < w0.heap.size := World.block_lt_of_cell? _ _ e0
  obtain ⟨w1, hw1⟩ : ∃ w1, w1 = w0.alloc (.cells #[.slice Wd lw Cw, .bool false, .bool false, .int .i64 2] 128) := ⟨_, rfl⟩
  have B1 : Sees w0 w1 := by rw [hw1]; exact (Sees.refl _).alloc _
  have hf1 : w1.heap[w0.heap.size]? = some (.cells #[.slice Wd lw Cw, .bool false, .bool false, .int .i64 2] 128 (0, 0)) := by rw [hw1]; exact heap_new _ _ _ rfl
  have A0 := kc B1 a0; have A1 := kc B1 a1; have A2 := kc B1 a2; have A3 := kc B1 a3; have A4 := kc B1 a4; have A5 := kc B1 a5; have S0 := kc B1 s0; have S1 := kc B1 s1
  have F0 := Fo.cell_of_block hf1 0; have F1 := Fo.cell_of_block hf1 1; have F2 := Fo.cell_of_block hf1 2; have F3 := Fo.cell_of_block hf1 3
  have HB0 := Lib.hid B0; have HB1 := Lib.hid B1
  rw [hw1] at A0 A1 A2 A3 A4 A5 S0 S1 F0 F1 F2 F3
  rw [hw0] at A0 A1 A2 A3 A4 A5 S0 S1 F0 F1 F2 F3 e0 e1 e2 e3 a0 a1 a2 a3 a4 a5 s0 s1
  have HW0 := Lib.hid hw0; have HW1 := Lib.hid hw1
  clear hw0 hw1
  clear hq0 hq1 hm hcf hA B0 B1 d0 d1 d2 d3 hp0 hg0 hf1
  by_cases hl : (f.len : Int) = 2
  · have tl : ((f.len : Int) == 2) = true := by simp [hl]
    have HD : Hid (pform t a 5 n ck cn cf f.len = (q0 && q1)) := by show _ = _; rw [HS.out, decide_eq_true hl]; rfl
    clear hl HS
    cases q0
    · go_enter Tryd.func40, Tryd.ntmps40
      go_wp2_with fail
      refine (K0.out _).mono ?_
      rintro e w' ⟨rfl, rfl⟩
      go_wp2_with fail
      go_ret
      exact ⟨ret_bool HD.out.symm, by rw [← HW0.out, ← HW1.out]; exact FIN.out _ HB1.out⟩
    · go_enter Tryd.func40, Tryd.ntmps40
      go_wp2_with fail
      refine (K0.out _).mono ?_
      rintro e w' ⟨rfl, rfl⟩
      go_wp2_with fail
      rw [← HW0.out, ← HW1.out]
      refine (K1.out _ (HB0.out.below HB1.out)).mono ?_
      rintro e w2 ⟨rfl, hb⟩
      have B2 := Lib.hid (FIN.out _ (Below.trans HB1.out (hb.mono HB1.out.size)))
      clear hb
      go_wp2_with fail
      go_ret
      exact ⟨ret_bool HD.out.symm, B2.out⟩
  · have tl : ((f.len : Int) == 2) = false := by rw [beq_eq_false_iff_ne]; exact hl
    have HD : Hid (pform t a 5 n ck cn cf f.len = false) := by show _ = _; rw [HS.out, decide_eq_false hl]; rfl
    clear hl HS
    go_enter Tryd.func40, Tryd.ntmps40
    go_wp2_with fail
    go_ret
    exact ⟨ret_bool HD.out.symm, by rw [← HW0.out, ← HW1.out]; exact FIN.out _ HB1.out⟩
set_option maxHeartbeats 2000000 in
set_option maxRecDepth 100000 in
theorem phasForm_6 (t a n ck cn : Int) (cf : Fo) (f : Pg) (hm : cf.nodes ≤ 1048576) (hcf : cf.Fits) (hln : f.len ≤ 1048576) (A B : Option Addr) (C D : Nat) (w : World) (hA : cf.Lies w A) (hF : FormAt w 6 false true 2) :
    Calls Tryd.prog 40 #[.agg #[.int .i64 6, .int .i64 n, .int .i64 ck, .int .i64 cn, .slice A cf.len C, .slice B f.len D], .agg #[.int .i64 t, .int .i64 a]] w fun e w' => e = .returned (.bool (pform t a 6 n ck cn cf f.len)) ∧ Below w.heap.size w w' := by
  obtain ⟨Wd, lw, Cw, d0, d1, d2, d3⟩ := hF
  obtain ⟨w0, hw0⟩ : ∃ w0, w0 = (w.alloc (.cells #[.int .i64 6, .int .i64 n, .int .i64 ck, .int .i64 cn, .slice A cf.len C, .slice B f.len D] 39)).alloc (.cells #[.int .i64 t, .int .i64 a] 32) := ⟨_, rfl⟩
  have B0 : Sees w w0 := by rw [hw0]; exact ((Sees.refl w).alloc _).alloc _
  have hp0 : w0.heap[w.heap.size]? = some (.cells #[.int .i64 6, .int .i64 n, .int .i64 ck, .int .i64 cn, .slice A cf.len C, .slice B f.len D] 39 (0, 0)) := by rw [hw0]; exact (Below.heap_alloc _ _ _ (by simp)).trans (heap_new _ _ _ rfl)
  have hg0 : w0.heap[w.heap.size + 1]? = some (.cells #[.int .i64 t, .int .i64 a] 32 (0, 0)) := by rw [hw0]; exact heap_new _ _ _ (by simp)
  obtain ⟨q0, hq0⟩ : ∃ q : Bool, q = belowB n 1 := ⟨_, rfl⟩
  have K0 : Hid (∀ W : World, Calls Tryd.prog 71 #[.int .i64 n, .int .i64 1] W fun e w' => e = .returned (.bool q0) ∧ W = w') := fun W => by rw [hq0]; exact below_any n 1 W
  obtain ⟨q1, hq1⟩ : ∃ q : Bool, q = fieldV t a ck cn cf true := ⟨_, rfl⟩
  have K1 : Hid (∀ W : World, Sees w W → Calls Tryd.prog 74 #[.agg #[.int .i64 t, .int .i64 a], .agg #[.int .i64 ck, .int .i64 cn, .slice A cf.len C], .bool true] W fun e w' => e = .returned (.bool q1) ∧ Below W.heap.size W w') := fun W h => by rw [hq1]; exact isCondField_any t a ck cn cf hm hcf true A C W (hA.sees h)
  have HS : Hid (pform t a 6 n ck cn cf f.len = (decide ((f.len : Int) = 2) && (q0 && q1))) := by
    show _ = _
    unfold pform
    rw [hq0, hq1]
    rfl
  have FIN : Hid (∀ W : World, Below w0.heap.size w0 W → Below w.heap.size w W) := fun W h => B0.below h
  have e0 : w0.cell? ⟨0, 24, none⟩ = some (.slice Wd lw Cw) := kc B0 d0
  have e1 : w0.cell? ⟨0, 25, none⟩ = some (.bool false) := kc B0 d1
  have e2 : w0.cell? ⟨0, 26, none⟩ = some (.bool true) := kc B0 d2
  have e3 : w0.cell? ⟨0, 27, none⟩ = some (.int .i64 2) := kc B0 d3
  have a0 := Fo.cell_of_block hp0 0; have a1 := Fo.cell_of_block hp0 1; have a2 := Fo.cell_of_block hp0 2; have a3 := Fo.cell_of_block hp0 3; have a4 := Fo.cell_of_block hp0 4; have a5 := Fo.cell_of_block hp0 5
  have s0 := Fo.cell_of_block hg0 0; have s1 := Fo.cell_of_block hg0 1
  have l0 : w.heap.size + 1 < w0.heap.size := by rw [hw0]; simp
  have lg : 0 < w0.heap.size := World.block_lt_of_cell? _ _ e0
  obtain ⟨w1, hw1⟩ : ∃ w1, w1 = w0.alloc (.cells #[.slice Wd lw Cw, .bool false, .bool true, .int .i64 2] 128) := ⟨_, rfl⟩
  have B1 : Sees w0 w1 := by rw [hw1]; exact (Sees.refl _).alloc _
  have hf1 : w1.heap[w0.heap.size]? = some (.cells #[.slice Wd lw Cw, .bool false, .bool true, .int .i64 2] 128 (0, 0)) := by rw [hw1]; exact heap_new _ _ _ rfl
  have A0 := kc B1 a0; have A1 := kc B1 a1; have A2 := kc B1 a2; have A3 := kc B1 a3; have A4 := kc B1 a4; have A5 := kc B1 a5; have S0 := kc B1 s0; have S1 := kc B1 s1
  have F0 := Fo.cell_of_block hf1 0; have F1 := Fo.cell_of_block hf1 1; have F2 := Fo.cell_of_block hf1 2; have F3 := Fo.cell_of_block hf1 3
  have HB0 := Lib.hid B0; have HB1 := Lib.hid B1
  rw [hw1] at A0 A1 A2 A3 A4 A5 S0 S1 F0 F1 F2 F3
  rw [hw0] at A0 A1 A2 A3 A4 A5 S0 S1 F0 F1 F2 F3 e0 e1 e2 e3 a0 a1 a2 a3 a4 a5 s0 s1
  have HW0 := Lib.hid hw0; have HW1 := Lib.hid hw1
  clear hw0 hw1
  clear hq0 hq1 hm hcf hA B0 B1 d0 d1 d2 d3 hp0 hg0 hf1
  by_cases hl : (f.len : Int) = 2
  · have tl : ((f.len : Int) == 2) = true := by simp [hl]
    have HD : Hid (pform t a 6 n ck cn cf f.len = (q0 && q1)) := by show _ = _; rw [HS.out, decide_eq_true hl]; rfl
    clear hl HS
    cases q0
    · go_enter Tryd.func40, Tryd.ntmps40
      go_wp2_with fail
      refine (K0.out _).mono ?_
      rintro e w' ⟨rfl, rfl⟩
      go_wp2_with fail
      go_ret
      exact ⟨ret_bool HD.out.symm, by rw [← HW0.out, ← HW1.out]; exact FIN.out _ HB1.out⟩
    · go_enter Tryd.func40, Tryd.ntmps40
      go_wp2_with fail
      refine (K0.out _).mono ?_
      rintro e w' ⟨rfl, rfl⟩
      go_wp2_with fail
      rw [← HW0.out, ← HW1.out]
      refine (K1.out _ (HB0.out.below HB1.out)).mono ?_
      rintro e w2 ⟨rfl, hb⟩
      have B2 := Lib.hid (FIN.out _ (Below.trans HB1.out (hb.mono HB1.out.size)))
      clear hb
      go_wp2_with fail
      go_ret
      exact ⟨ret_bool HD.out.symm, B2.out⟩
  · have tl : ((f.len : Int) == 2) = false := by rw [beq_eq_false_iff_ne]; exact hl
    have HD : Hid (pform t a 6 n ck cn cf f.len = false) := by show _ = _; rw [HS.out, decide_eq_false hl]; rfl
    clear hl HS
    go_enter Tryd.func40, Tryd.ntmps40
    go_wp2_with fail
    go_ret
    exact ⟨ret_bool HD.out.symm, by rw [← HW0.out, ← HW1.out]; exact FIN.out _ HB1.out⟩
set_option maxHeartbeats 2000000 in
set_option maxRecDepth 100000 in
theorem phasForm_7 (t a n ck cn : Int) (cf : Fo) (f : Pg) (hm : cf.nodes ≤ 1048576) (hcf : cf.Fits) (hln : f.len ≤ 1048576) (A B : Option Addr) (C D : Nat) (w : World) (hA : cf.Lies w A) (hF : FormAt w 7 false true 1) :
    Calls Tryd.prog 40 #[.agg #[.int .i64 7, .int .i64 n, .int .i64 ck, .int .i64 cn, .slice A cf.len C, .slice B f.len D], .agg #[.int .i64 t, .int .i64 a]] w fun e w' => e = .returned (.bool (pform t a 7 n ck cn cf f.len)) ∧ Below w.heap.size w w' := by
  obtain ⟨Wd, lw, Cw, d0, d1, d2, d3⟩ := hF
  obtain ⟨w0, hw0⟩ : ∃ w0, w0 = (w.alloc (.cells #[.int .i64 7, .int .i64 n, .int .i64 ck, .int .i64 cn, .slice A cf.len C, .slice B f.len D] 39)).alloc (.cells #[.int .i64 t, .int .i64 a] 32) := ⟨_, rfl⟩
  have B0 : Sees w w0 := by rw [hw0]; exact ((Sees.refl w).alloc _).alloc _
  have hp0 : w0.heap[w.heap.size]? = some (.cells #[.int .i64 7, .int .i64 n, .int .i64 ck, .int .i64 cn, .slice A cf.len C, .slice B f.len D] 39 (0, 0)) := by rw [hw0]; exact (Below.heap_alloc _ _ _ (by simp)).trans (heap_new _ _ _ rfl)
  have hg0 : w0.heap[w.heap.size + 1]? = some (.cells #[.int .i64 t, .int .i64 a] 32 (0, 0)) := by rw [hw0]; exact heap_new _ _ _ (by simp)
  obtain ⟨q0, hq0⟩ : ∃ q : Bool, q = belowB n 1 := ⟨_, rfl⟩
  have K0 : Hid (∀ W : World, Calls Tryd.prog 71 #[.int .i64 n, .int .i64 1] W fun e w' => e = .returned (.bool q0) ∧ W = w') := fun W => by rw [hq0]; exact below_any n 1 W
  obtain ⟨q1, hq1⟩ : ∃ q : Bool, q = fieldV t a ck cn cf true := ⟨_, rfl⟩
  have K1 : Hid (∀ W : World, Sees w W → Calls Tryd.prog 74 #[.agg #[.int .i64 t, .int .i64 a], .agg #[.int .i64 ck, .int .i64 cn, .slice A cf.len C], .bool true] W fun e w' => e = .returned (.bool q1) ∧ Below W.heap.size W w') := fun W h => by rw [hq1]; exact isCondField_any t a ck cn cf hm hcf true A C W (hA.sees h)
  have HS : Hid (pform t a 7 n ck cn cf f.len = (decide ((f.len : Int) = 1) && (q0 && q1))) := by
    show _ = _
    unfold pform
    rw [hq0, hq1]
    rfl
  have FIN : Hid (∀ W : World, Below w0.heap.size w0 W → Below w.heap.size w W) := fun W h => B0.below h
  have e0 : w0.cell? ⟨0, 28, none⟩ = some (.slice Wd lw Cw) := kc B0 d0
  have e1 : w0.cell? ⟨0, 29, none⟩ = some (.bool false) := kc B0 d1
  have e2 : w0.cell? ⟨0, 30, none⟩ = some (.bool true) := kc B0 d2
  have e3 : w0.cell? ⟨0, 31, none⟩ = some (.int .i64 1) := kc B0 d3
  have a0 := Fo.cell_of_block hp0 0; have a1 := Fo.cell_of_block hp0 1; have a2 := Fo.cell_of_block hp0 2; have a3 := Fo.cell_of_block hp0 3; have a4 := Fo.cell_of_block hp0 4; have a5 := Fo.cell_of_block hp0 5
  have s0 := Fo.cell_of_block hg0 0; have s1 := Fo.cell_of_block hg0 1
  have l0 : w.heap.size + 1 < w0.heap.size := by rw [hw0]; simp
  have lg : 0 < w0.heap.size := World.block_lt_of_cell? _ _ e0
  obtain ⟨w1, hw1⟩ : ∃ w1, w1 = w0.alloc (.cells #[.slice Wd lw Cw, .bool false, .bool true, .int .i64 1] 128) := ⟨_, rfl⟩
  have B1 : Sees w0 w1 := by rw [hw1]; exact (Sees.refl _).alloc _
  have hf1 : w1.heap[w0.heap.size]? = some (.cells #[.slice Wd lw Cw, .bool false, .bool true, .int .i64 1] 128 (0, 0)) := by rw [hw1]; exact heap_new _ _ _ rfl
  have A0 := kc B1 a0; have A1 := kc B1 a1; have A2 := kc B1 a2; have A3 := kc B1 a3; have A4 := kc B1 a4; have A5 := kc B1 a5; have S0 := kc B1 s0; have S1 := kc B1 s1
  have F0 := Fo.cell_of_block hf1 0; have F1 := Fo.cell_of_block hf1 1; have F2 := Fo.cell_of_block hf1 2; have F3 := Fo.cell_of_block hf1 3
  have HB0 := Lib.hid B0; have HB1 := Lib.hid B1
  rw [hw1] at A0 A1 A2 A3 A4 A5 S0 S1 F0 F1 F2 F3
  rw [hw0] at A0 A1 A2 A3 A4 A5 S0 S1 F0 F1 F2 F3 e0 e1 e2 e3 a0 a1 a2 a3 a4 a5 s0 s1
  have HW0 := Lib.hid hw0; have HW1 := Lib.hid hw1
  clear hw0 hw1
  clear hq0 hq1 hm hcf hA B0 B1 d0 d1 d2 d3 hp0 hg0 hf1
  by_cases hl : (f.len : Int) = 1
  · have tl : ((f.len : Int) == 1) = true := by simp [hl]
    have HD : Hid (pform t a 7 n ck cn cf f.len = (q0 && q1)) := by show _ = _; rw [HS.out, decide_eq_true hl]; rfl
    clear hl HS
    cases q0
    · go_enter Tryd.func40, Tryd.ntmps40
      go_wp2_with fail
      refine (K0.out _).mono ?_
      rintro e w' ⟨rfl, rfl⟩
      go_wp2_with fail
      go_ret
      exact ⟨ret_bool HD.out.symm, by rw [← HW0.out, ← HW1.out]; exact FIN.out _ HB1.out⟩
    · go_enter Tryd.func40, Tryd.ntmps40
      go_wp2_with fail
      refine (K0.out _).mono ?_
      rintro e w' ⟨rfl, rfl⟩
      go_wp2_with fail
      rw [← HW0.out, ← HW1.out]
      refine (K1.out _ (HB0.out.below HB1.out)).mono ?_
      rintro e w2 ⟨rfl, hb⟩
      have B2 := Lib.hid (FIN.out _ (Below.trans HB1.out (hb.mono HB1.out.size)))
      clear hb
      go_wp2_with fail
      go_ret
      exact ⟨ret_bool HD.out.symm, B2.out⟩
  · have tl : ((f.len : Int) == 1) = false := by rw [beq_eq_false_iff_ne]; exact hl
    have HD : Hid (pform t a 7 n ck cn cf f.len = false) := by show _ = _; rw [HS.out, decide_eq_false hl]; rfl
    clear hl HS
    go_enter Tryd.func40, Tryd.ntmps40
    go_wp2_with fail
    go_ret
    exact ⟨ret_bool HD.out.symm, by rw [← HW0.out, ← HW1.out]; exact FIN.out _ HB1.out⟩
theorem phasForm_any (t a k n ck cn : Int) (cf : Fo) (f : Pg) (hm : cf.nodes ≤ 1048576) (hcf : cf.Fits) (hln : f.len ≤ 1048576) (A B : Option Addr) (C D : Nat) (w : World) (hA : cf.Lies w A) (hF : Forms w) :
    Calls Tryd.prog 40 #[.agg #[.int .i64 k, .int .i64 n, .int .i64 ck, .int .i64 cn, .slice A cf.len C, .slice B f.len D], .agg #[.int .i64 t, .int .i64 a]] w fun e w' => e = .returned (.bool (pform t a k n ck cn cf f.len)) ∧ Below w.heap.size w w' := by
  by_cases h1 : k = 1
  · subst h1; exact phasForm_1 t a n ck cn cf f hm hcf hln A B C D w hA hF.f1
  by_cases h2 : k = 2
  · subst h2; exact phasForm_2 t a n ck cn cf f hm hcf hln A B C D w hA hF.f2
  by_cases h3 : k = 3
  · subst h3; exact phasForm_3 t a n ck cn cf f hm hcf hln A B C D w hA hF.f3
  by_cases h4 : k = 4
  · subst h4; exact phasForm_4 t a n ck cn cf f hm hcf hln A B C D w hA hF.f4
  by_cases h5 : k = 5
  · subst h5; exact phasForm_5 t a n ck cn cf f hm hcf hln A B C D w hA hF.f5
  by_cases h6 : k = 6
  · subst h6; exact phasForm_6 t a n ck cn cf f hm hcf hln A B C D w hA hF.f6
  by_cases h7 : k = 7
  · subst h7; exact phasForm_7 t a n ck cn cf f hm hcf hln A B C D w hA hF.f7
  have HD : Hid (pform t a k n ck cn cf f.len = false) := by
    show _ = _
    unfold pform pkidC
    rw [if_neg (by omega), if_neg (by omega), if_neg (by omega), decide_eq_false (by omega)]
    rfl
  by_cases hk : k < 1
  · have hk2 := Lib.hid hk
    clear h1 h2 h3 h4 h5 h6 h7 hm hcf hA hF hln
    go_enter Tryd.func40, Tryd.ntmps40
    go_wp2_with fail
    go_ret
    exact ⟨ret_bool HD.out.symm, by go_grown⟩
  · have hk2 : 7 < k := by omega
    clear h1 h2 h3 h4 h5 h6 h7 hm hcf hA hF hln
    go_enter Tryd.func40, Tryd.ntmps40
    go_wp2_with fail
    go_ret
    exact ⟨ret_bool HD.out.symm, by go_grown⟩
end Go.Proofs.YtojheipllpkgdaaDoor
