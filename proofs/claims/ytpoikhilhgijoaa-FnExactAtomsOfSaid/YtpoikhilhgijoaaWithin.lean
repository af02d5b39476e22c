/- Contract of impl.atomSet.isWithin. -/
import Derived.Test.YtpoikhilhgijoaaSet8D
import Derived.DeepKeys
import Derived.Deep.DeepCutAuto
namespace Go.Proofs.Ytpoikhilhgijoaa
open Go.RowKit

/-- The common part of both sets below j, the first one from j on. -/
def mixF (j : Nat) (f g : Nat → Bool) (i : Nat) : Bool := if i < j then f i && g i else f i

theorem lits8 (a0 a1 a2 a3 a4 a5 a6 a7 : Bool) : Try.prog.keyLits 20 123 (Value.cells (.agg #[.bool a0, .bool a1, .bool a2, .bool a3, .bool a4, .bool a5, .bool a6, .bool a7])).toList = some [.bool a0, .bool a1, .bool a2, .bool a3, .bool a4, .bool a5, .bool a6, .bool a7] := by kernel_rfl
theorem formed8 (a0 a1 a2 a3 a4 a5 a6 a7 : Bool) : Value.formed Try.prog 123 (.agg #[.bool a0, .bool a1, .bool a2, .bool a3, .bool a4, .bool a5, .bool a6, .bool a7]) = true := by kernel_rfl
theorem equal8_run (a0 a1 a2 a3 a4 a5 a6 a7 b0 b1 b2 b3 b4 b5 b6 b7 : Bool) (w : World) : (Op.equalIn 10000 123 (.agg #[.bool a0, .bool a1, .bool a2, .bool a3, .bool a4, .bool a5, .bool a6, .bool a7]) (.agg #[.bool b0, .bool b1, .bool b2, .bool b3, .bool b4, .bool b5, .bool b6, .bool b7])).run Try.prog w = .ok ((a0 == b0) && (a1 == b1) && (a2 == b2) && (a3 == b3) && (a4 == b4) && (a5 == b5) && (a6 == b6) && (a7 == b7)) w := by
  obtain ⟨r, hr, hiff⟩ := run_equalIn_deep (P := Try.prog) 9990 10 123 (by kernel_rfl) w 20 20 _ _ _ _ (formed8 a0 a1 a2 a3 a4 a5 a6 a7) (formed8 b0 b1 b2 b3 b4 b5 b6 b7) (lits8 a0 a1 a2 a3 a4 a5 a6 a7) (lits8 b0 b1 b2 b3 b4 b5 b6 b7)
  have hr2 : r = ((a0 == b0) && (a1 == b1) && (a2 == b2) && (a3 == b3) && (a4 == b4) && (a5 == b5) && (a6 == b6) && (a7 == b7)) := by
    rw [Bool.eq_iff_iff, hiff]
    simp [and_assoc]
  rw [← hr2]
  exact hr
theorem mix_eq (p q : Bool) : ((p && q) == p) = (!p || q) := by cases p <;> cases q <;> rfl
theorem index8_0 (v0 v1 v2 v3 v4 v5 v6 v7 : Value) (w : World) : (Instr.index 123 (.agg #[v0, v1, v2, v3, v4, v5, v6, v7]) (.int .i64 0)).run Try.prog w = .ok v0 w := by kernel_rfl
theorem index8_1 (v0 v1 v2 v3 v4 v5 v6 v7 : Value) (w : World) : (Instr.index 123 (.agg #[v0, v1, v2, v3, v4, v5, v6, v7]) (.int .i64 1)).run Try.prog w = .ok v1 w := by kernel_rfl
theorem index8_2 (v0 v1 v2 v3 v4 v5 v6 v7 : Value) (w : World) : (Instr.index 123 (.agg #[v0, v1, v2, v3, v4, v5, v6, v7]) (.int .i64 2)).run Try.prog w = .ok v2 w := by kernel_rfl
theorem index8_3 (v0 v1 v2 v3 v4 v5 v6 v7 : Value) (w : World) : (Instr.index 123 (.agg #[v0, v1, v2, v3, v4, v5, v6, v7]) (.int .i64 3)).run Try.prog w = .ok v3 w := by kernel_rfl
theorem index8_4 (v0 v1 v2 v3 v4 v5 v6 v7 : Value) (w : World) : (Instr.index 123 (.agg #[v0, v1, v2, v3, v4, v5, v6, v7]) (.int .i64 4)).run Try.prog w = .ok v4 w := by kernel_rfl
theorem index8_5 (v0 v1 v2 v3 v4 v5 v6 v7 : Value) (w : World) : (Instr.index 123 (.agg #[v0, v1, v2, v3, v4, v5, v6, v7]) (.int .i64 5)).run Try.prog w = .ok v5 w := by kernel_rfl
theorem index8_6 (v0 v1 v2 v3 v4 v5 v6 v7 : Value) (w : World) : (Instr.index 123 (.agg #[v0, v1, v2, v3, v4, v5, v6, v7]) (.int .i64 6)).run Try.prog w = .ok v6 w := by kernel_rfl
theorem index8_7 (v0 v1 v2 v3 v4 v5 v6 v7 : Value) (w : World) : (Instr.index 123 (.agg #[v0, v1, v2, v3, v4, v5, v6, v7]) (.int .i64 7)).run Try.prog w = .ok v7 w := by kernel_rfl

set_option maxHeartbeats 4000000 in
set_option maxRecDepth 100000 in
theorem isWithin_any (f g : Nat → Bool) (w : World) :
    Calls Try.prog 81 #[.agg (arr8 f), .agg (arr8 g)] w fun e w' => e = .returned (.bool ((List.range 8).all (fun i => !(f i) || g i))) ∧ Below w.heap.size w w' := by
  go_enter Try.func81, Try.ntmps81
  have k0 : ((w.alloc (.cells (arr8 f) 123)).alloc (.cells (arr8 g) 123)).heap[w.heap.size]? = some (.cells (arr8 f) 123 (0, 0)) := (Below.heap_alloc _ _ _ (by simp)).trans (heap_new _ _ _ (by simp))
  have k1 : ((w.alloc (.cells (arr8 f) 123)).alloc (.cells (arr8 g) 123)).heap[w.heap.size + 1]? = some (.cells (arr8 g) 123 (0, 0)) := heap_new _ _ _ (by simp)
  obtain ⟨c0, c1, c2, c3, c4, c5, c6, c7, _⟩ := arr8_facts k0
  obtain ⟨d0, d1, d2, d3, d4, d5, d6, d7, _⟩ := arr8_facts k1
  go_wp2_with fail
  clear k0 k1 c0 c1 c2 c3 c4 c5 c6 c7 d0 d1 d2 d3 d4 d5 d6 d7
  go_loopw [10] (fun i wr => ∃ j : Nat, j ≤ 8 ∧ i = .int .i64 j ∧ Hid (Sees w wr) ∧ Hid (wr.heap[w.heap.size]? = some (.cells (arr8 f) 123 (0, 0))) ∧ Hid (wr.heap[w.heap.size + 1 + 1]? = some (.cells (arr8 (mixF j f g)) 123 (0, 0)))) (fun i _ => 8 - (intOf i).toNat)
  case atStart =>
    refine ⟨0, Nat.zero_le _, rfl, (((Sees.refl w).alloc _).alloc _).alloc _, ?_, heap_new _ _ _ (by simp)⟩
    exact (Below.heap_alloc _ _ _ (by simp; omega)).trans ((Below.heap_alloc _ _ _ (by simp)).trans (heap_new _ _ _ (by simp)))
  case round =>
    obtain ⟨j, hj, rfl, hS, hk0, hk2⟩ := hrel
    by_cases hjl : j < 8
    · rcases lt8 hjl with rfl | rfl | rfl | rfl | rfl | rfl | rfl | rfl
      · have c0 : wr.cell? ⟨w.heap.size, 0, none⟩ = some (.bool (f 0)) := Fo.cell_of_block hk0.out 0
        have c2 : wr.cell? ⟨w.heap.size + 1 + 1, 0, none⟩ = some (.bool (mixF 0 f g 0)) := Fo.cell_of_block hk2.out 0
        have g2 : wr.frozen? ⟨w.heap.size + 1 + 1, 0, none⟩ = false := Fo.unfrozen_of_block hk2.out 0
        obtain ⟨q, hq⟩ : ∃ q : Bool, q = f 0 := ⟨_, rfl⟩
        have hik := index8_0
        have hik2 : ∀ (v0 v1 v2 v3 v4 v5 v6 v7 : Value) (w : World), (Instr.index 123 (.agg #[v0, v1, v2, v3, v4, v5, v6, v7]) (.int .i64 ((0 : Nat) : Int))).run Try.prog w = .ok v0 w := index8_0
        rw [← hq] at c0
        cases q
        · have EQ : Hid ((arr8 (mixF 0 f g)).setIfInBounds 0 (.bool false) = arr8 (mixF (0 + 1) f g)) := by show _ = _; rw [show false = (f 0 && g 0) by rw [← hq]; rfl]; rfl
          clear hq
          go_wp2_with fail
          go_roundw
          case rel => exact ⟨0 + 1, by omega, by go_num, Below.setCell hS.out (show w.heap.size ≤ w.heap.size + 1 + 1 by omega) _, (Below.heap_setCell _ _ _ _ (show w.heap.size ≠ w.heap.size + 1 + 1 by omega)).trans hk0.out, by show _ = _; rw [← EQ.out]; exact Fo.block_setCell hk2.out (.bool false)⟩
          case measure => simp [intOf]
        · have EQ : Hid ((arr8 (mixF 0 f g)).setIfInBounds 0 (.bool (g 0)) = arr8 (mixF (0 + 1) f g)) := by show _ = _; rw [show g 0 = (f 0 && g 0) by rw [← hq]; rfl]; rfl
          clear hq
          go_wp2_with fail
          go_roundw
          case rel => exact ⟨0 + 1, by omega, by go_num, Below.setCell hS.out (show w.heap.size ≤ w.heap.size + 1 + 1 by omega) _, (Below.heap_setCell _ _ _ _ (show w.heap.size ≠ w.heap.size + 1 + 1 by omega)).trans hk0.out, by show _ = _; rw [← EQ.out]; exact Fo.block_setCell hk2.out (.bool (g 0))⟩
          case measure => simp [intOf]
      · have c0 : wr.cell? ⟨w.heap.size, 1, none⟩ = some (.bool (f 1)) := Fo.cell_of_block hk0.out 1
        have c2 : wr.cell? ⟨w.heap.size + 1 + 1, 1, none⟩ = some (.bool (mixF 1 f g 1)) := Fo.cell_of_block hk2.out 1
        have g2 : wr.frozen? ⟨w.heap.size + 1 + 1, 1, none⟩ = false := Fo.unfrozen_of_block hk2.out 1
        obtain ⟨q, hq⟩ : ∃ q : Bool, q = f 1 := ⟨_, rfl⟩
        have hik := index8_1
        have hik2 : ∀ (v0 v1 v2 v3 v4 v5 v6 v7 : Value) (w : World), (Instr.index 123 (.agg #[v0, v1, v2, v3, v4, v5, v6, v7]) (.int .i64 ((1 : Nat) : Int))).run Try.prog w = .ok v1 w := index8_1
        rw [← hq] at c0
        cases q
        · have EQ : Hid ((arr8 (mixF 1 f g)).setIfInBounds 1 (.bool false) = arr8 (mixF (1 + 1) f g)) := by show _ = _; rw [show false = (f 1 && g 1) by rw [← hq]; rfl]; rfl
          clear hq
          go_wp2_with fail
          go_roundw
          case rel => exact ⟨1 + 1, by omega, by go_num, Below.setCell hS.out (show w.heap.size ≤ w.heap.size + 1 + 1 by omega) _, (Below.heap_setCell _ _ _ _ (show w.heap.size ≠ w.heap.size + 1 + 1 by omega)).trans hk0.out, by show _ = _; rw [← EQ.out]; exact Fo.block_setCell hk2.out (.bool false)⟩
          case measure => simp [intOf]
        · have EQ : Hid ((arr8 (mixF 1 f g)).setIfInBounds 1 (.bool (g 1)) = arr8 (mixF (1 + 1) f g)) := by show _ = _; rw [show g 1 = (f 1 && g 1) by rw [← hq]; rfl]; rfl
          clear hq
          go_wp2_with fail
          go_roundw
          case rel => exact ⟨1 + 1, by omega, by go_num, Below.setCell hS.out (show w.heap.size ≤ w.heap.size + 1 + 1 by omega) _, (Below.heap_setCell _ _ _ _ (show w.heap.size ≠ w.heap.size + 1 + 1 by omega)).trans hk0.out, by show _ = _; rw [← EQ.out]; exact Fo.block_setCell hk2.out (.bool (g 1))⟩
          case measure => simp [intOf]
      · have c0 : wr.cell? ⟨w.heap.size, 2, none⟩ = some (.bool (f 2)) := Fo.cell_of_block hk0.out 2
        have c2 : wr.cell? ⟨w.heap.size + 1 + 1, 2, none⟩ = some (.bool (mixF 2 f g 2)) := Fo.cell_of_block hk2.out 2
        have g2 : wr.frozen? ⟨w.heap.size + 1 + 1, 2, none⟩ = false := Fo.unfrozen_of_block hk2.out 2
        obtain ⟨q, hq⟩ : ∃ q : Bool, q = f 2 := ⟨_, rfl⟩
        have hik := index8_2
        have hik2 : ∀ (v0 v1 v2 v3 v4 v5 v6 v7 : Value) (w : World), (Instr.index 123 (.agg #[v0, v1, v2, v3, v4, v5, v6, v7]) (.int .i64 ((2 : Nat) : Int))).run Try.prog w = .ok v2 w := index8_2
        rw [← hq] at c0
        cases q
        · have EQ : Hid ((arr8 (mixF 2 f g)).setIfInBounds 2 (.bool false) = arr8 (mixF (2 + 1) f g)) := by show _ = _; rw [show false = (f 2 && g 2) by rw [← hq]; rfl]; rfl
          clear hq
          go_wp2_with fail
          go_roundw
          case rel => exact ⟨2 + 1, by omega, by go_num, Below.setCell hS.out (show w.heap.size ≤ w.heap.size + 1 + 1 by omega) _, (Below.heap_setCell _ _ _ _ (show w.heap.size ≠ w.heap.size + 1 + 1 by omega)).trans hk0.out, by show _ = _; rw [← EQ.out]; exact Fo.block_setCell hk2.out (.bool false)⟩
          case measure => simp [intOf]
        · have EQ : Hid ((arr8 (mixF 2 f g)).setIfInBounds 2 (.bool (g 2)) = arr8 (mixF (2 + 1) f g)) := by show _ = _; rw [show g 2 = (f 2 && g 2) by rw [← hq]; rfl]; rfl
          clear hq
          go_wp2_with fail
          go_roundw
          case rel => exact ⟨2 + 1, by omega, by go_num, Below.setCell hS.out (show w.heap.size ≤ w.heap.size + 1 + 1 by omega) _, (Below.heap_setCell _ _ _ _ (show w.heap.size ≠ w.heap.size + 1 + 1 by omega)).trans hk0.out, by show _ = _; rw [← EQ.out]; exact Fo.block_setCell hk2.out (.bool (g 2))⟩
          case measure => simp [intOf]
      · have c0 : wr.cell? ⟨w.heap.size, 3, none⟩ = some (.bool (f 3)) := Fo.cell_of_block hk0.out 3
        have c2 : wr.cell? ⟨w.heap.size + 1 + 1, 3, none⟩ = some (.bool (mixF 3 f g 3)) := Fo.cell_of_block hk2.out 3
        have g2 : wr.frozen? ⟨w.heap.size + 1 + 1, 3, none⟩ = false := Fo.unfrozen_of_block hk2.out 3
        obtain ⟨q, hq⟩ : ∃ q : Bool, q = f 3 := ⟨_, rfl⟩
        have hik := index8_3
        have hik2 : ∀ (v0 v1 v2 v3 v4 v5 v6 v7 : Value) (w : World), (Instr.index 123 (.agg #[v0, v1, v2, v3, v4, v5, v6, v7]) (.int .i64 ((3 : Nat) : Int))).run Try.prog w = .ok v3 w := index8_3
        rw [← hq] at c0
        cases q
        · have EQ : Hid ((arr8 (mixF 3 f g)).setIfInBounds 3 (.bool false) = arr8 (mixF (3 + 1) f g)) := by show _ = _; rw [show false = (f 3 && g 3) by rw [← hq]; rfl]; rfl
          clear hq
          go_wp2_with fail
          go_roundw
          case rel => exact ⟨3 + 1, by omega, by go_num, Below.setCell hS.out (show w.heap.size ≤ w.heap.size + 1 + 1 by omega) _, (Below.heap_setCell _ _ _ _ (show w.heap.size ≠ w.heap.size + 1 + 1 by omega)).trans hk0.out, by show _ = _; rw [← EQ.out]; exact Fo.block_setCell hk2.out (.bool false)⟩
          case measure => simp [intOf]
        · have EQ : Hid ((arr8 (mixF 3 f g)).setIfInBounds 3 (.bool (g 3)) = arr8 (mixF (3 + 1) f g)) := by show _ = _; rw [show g 3 = (f 3 && g 3) by rw [← hq]; rfl]; rfl
          clear hq
          go_wp2_with fail
          go_roundw
          case rel => exact ⟨3 + 1, by omega, by go_num, Below.setCell hS.out (show w.heap.size ≤ w.heap.size + 1 + 1 by omega) _, (Below.heap_setCell _ _ _ _ (show w.heap.size ≠ w.heap.size + 1 + 1 by omega)).trans hk0.out, by show _ = _; rw [← EQ.out]; exact Fo.block_setCell hk2.out (.bool (g 3))⟩
          case measure => simp [intOf]
      · have c0 : wr.cell? ⟨w.heap.size, 4, none⟩ = some (.bool (f 4)) := Fo.cell_of_block hk0.out 4
        have c2 : wr.cell? ⟨w.heap.size + 1 + 1, 4, none⟩ = some (.bool (mixF 4 f g 4)) := Fo.cell_of_block hk2.out 4
        have g2 : wr.frozen? ⟨w.heap.size + 1 + 1, 4, none⟩ = false := Fo.unfrozen_of_block hk2.out 4
        obtain ⟨q, hq⟩ : ∃ q : Bool, q = f 4 := ⟨_, rfl⟩
        have hik := index8_4
        have hik2 : ∀ (v0 v1 v2 v3 v4 v5 v6 v7 : Value) (w : World), (Instr.index 123 (.agg #[v0, v1, v2, v3, v4, v5, v6, v7]) (.int .i64 ((4 : Nat) : Int))).run Try.prog w = .ok v4 w := index8_4
        rw [← hq] at c0
        cases q
        · have EQ : Hid ((arr8 (mixF 4 f g)).setIfInBounds 4 (.bool false) = arr8 (mixF (4 + 1) f g)) := by show _ = _; rw [show false = (f 4 && g 4) by rw [← hq]; rfl]; rfl
          clear hq
          go_wp2_with fail
          go_roundw
          case rel => exact ⟨4 + 1, by omega, by go_num, Below.setCell hS.out (show w.heap.size ≤ w.heap.size + 1 + 1 by omega) _, (Below.heap_setCell _ _ _ _ (show w.heap.size ≠ w.heap.size + 1 + 1 by omega)).trans hk0.out, by show _ = _; rw [← EQ.out]; exact Fo.block_setCell hk2.out (.bool false)⟩
          case measure => simp [intOf]
        · have EQ : Hid ((arr8 (mixF 4 f g)).setIfInBounds 4 (.bool (g 4)) = arr8 (mixF (4 + 1) f g)) := by show _ = _; rw [show g 4 = (f 4 && g 4) by rw [← hq]; rfl]; rfl
          clear hq
          go_wp2_with fail
          go_roundw
          case rel => exact ⟨4 + 1, by omega, by go_num, Below.setCell hS.out (show w.heap.size ≤ w.heap.size + 1 + 1 by omega) _, (Below.heap_setCell _ _ _ _ (show w.heap.size ≠ w.heap.size + 1 + 1 by omega)).trans hk0.out, by show _ = _; rw [← EQ.out]; exact Fo.block_setCell hk2.out (.bool (g 4))⟩
          case measure => simp [intOf]
      · have c0 : wr.cell? ⟨w.heap.size, 5, none⟩ = some (.bool (f 5)) := Fo.cell_of_block hk0.out 5
        have c2 : wr.cell? ⟨w.heap.size + 1 + 1, 5, none⟩ = some (.bool (mixF 5 f g 5)) := Fo.cell_of_block hk2.out 5
        have g2 : wr.frozen? ⟨w.heap.size + 1 + 1, 5, none⟩ = false := Fo.unfrozen_of_block hk2.out 5
        obtain ⟨q, hq⟩ : ∃ q : Bool, q = f 5 := ⟨_, rfl⟩
        have hik := index8_5
        have hik2 : ∀ (v0 v1 v2 v3 v4 v5 v6 v7 : Value) (w : World), (Instr.index 123 (.agg #[v0, v1, v2, v3, v4, v5, v6, v7]) (.int .i64 ((5 : Nat) : Int))).run Try.prog w = .ok v5 w := index8_5
        rw [← hq] at c0
        cases q
        · have EQ : Hid ((arr8 (mixF 5 f g)).setIfInBounds 5 (.bool false) = arr8 (mixF (5 + 1) f g)) := by show _ = _; rw [show false = (f 5 && g 5) by rw [← hq]; rfl]; rfl
          clear hq
          go_wp2_with fail
          go_roundw
          case rel => exact ⟨5 + 1, by omega, by go_num, Below.setCell hS.out (show w.heap.size ≤ w.heap.size + 1 + 1 by omega) _, (Below.heap_setCell _ _ _ _ (show w.heap.size ≠ w.heap.size + 1 + 1 by omega)).trans hk0.out, by show _ = _; rw [← EQ.out]; exact Fo.block_setCell hk2.out (.bool false)⟩
          case measure => simp [intOf]
        · have EQ : Hid ((arr8 (mixF 5 f g)).setIfInBounds 5 (.bool (g 5)) = arr8 (mixF (5 + 1) f g)) := by show _ = _; rw [show g 5 = (f 5 && g 5) by rw [← hq]; rfl]; rfl
          clear hq
          go_wp2_with fail
          go_roundw
          case rel => exact ⟨5 + 1, by omega, by go_num, Below.setCell hS.out (show w.heap.size ≤ w.heap.size + 1 + 1 by omega) _, (Below.heap_setCell _ _ _ _ (show w.heap.size ≠ w.heap.size + 1 + 1 by omega)).trans hk0.out, by show _ = _; rw [← EQ.out]; exact Fo.block_setCell hk2.out (.bool (g 5))⟩
          case measure => simp [intOf]
      · have c0 : wr.cell? ⟨w.heap.size, 6, none⟩ = some (.bool (f 6)) := Fo.cell_of_block hk0.out 6
        have c2 : wr.cell? ⟨w.heap.size + 1 + 1, 6, none⟩ = some (.bool (mixF 6 f g 6)) := Fo.cell_of_block hk2.out 6
        have g2 : wr.frozen? ⟨w.heap.size + 1 + 1, 6, none⟩ = false := Fo.unfrozen_of_block hk2.out 6
        obtain ⟨q, hq⟩ : ∃ q : Bool, q = f 6 := ⟨_, rfl⟩
        have hik := index8_6
        have hik2 : ∀ (v0 v1 v2 v3 v4 v5 v6 v7 : Value) (w : World), (Instr.index 123 (.agg #[v0, v1, v2, v3, v4, v5, v6, v7]) (.int .i64 ((6 : Nat) : Int))).run Try.prog w = .ok v6 w := index8_6
        rw [← hq] at c0
        cases q
        · have EQ : Hid ((arr8 (mixF 6 f g)).setIfInBounds 6 (.bool false) = arr8 (mixF (6 + 1) f g)) := by show _ = _; rw [show false = (f 6 && g 6) by rw [← hq]; rfl]; rfl
          clear hq
          go_wp2_with fail
          go_roundw
          case rel => exact ⟨6 + 1, by omega, by go_num, Below.setCell hS.out (show w.heap.size ≤ w.heap.size + 1 + 1 by omega) _, (Below.heap_setCell _ _ _ _ (show w.heap.size ≠ w.heap.size + 1 + 1 by omega)).trans hk0.out, by show _ = _; rw [← EQ.out]; exact Fo.block_setCell hk2.out (.bool false)⟩
          case measure => simp [intOf]
        · have EQ : Hid ((arr8 (mixF 6 f g)).setIfInBounds 6 (.bool (g 6)) = arr8 (mixF (6 + 1) f g)) := by show _ = _; rw [show g 6 = (f 6 && g 6) by rw [← hq]; rfl]; rfl
          clear hq
          go_wp2_with fail
          go_roundw
          case rel => exact ⟨6 + 1, by omega, by go_num, Below.setCell hS.out (show w.heap.size ≤ w.heap.size + 1 + 1 by omega) _, (Below.heap_setCell _ _ _ _ (show w.heap.size ≠ w.heap.size + 1 + 1 by omega)).trans hk0.out, by show _ = _; rw [← EQ.out]; exact Fo.block_setCell hk2.out (.bool (g 6))⟩
          case measure => simp [intOf]
      · have c0 : wr.cell? ⟨w.heap.size, 7, none⟩ = some (.bool (f 7)) := Fo.cell_of_block hk0.out 7
        have c2 : wr.cell? ⟨w.heap.size + 1 + 1, 7, none⟩ = some (.bool (mixF 7 f g 7)) := Fo.cell_of_block hk2.out 7
        have g2 : wr.frozen? ⟨w.heap.size + 1 + 1, 7, none⟩ = false := Fo.unfrozen_of_block hk2.out 7
        obtain ⟨q, hq⟩ : ∃ q : Bool, q = f 7 := ⟨_, rfl⟩
        have hik := index8_7
        have hik2 : ∀ (v0 v1 v2 v3 v4 v5 v6 v7 : Value) (w : World), (Instr.index 123 (.agg #[v0, v1, v2, v3, v4, v5, v6, v7]) (.int .i64 ((7 : Nat) : Int))).run Try.prog w = .ok v7 w := index8_7
        rw [← hq] at c0
        cases q
        · have EQ : Hid ((arr8 (mixF 7 f g)).setIfInBounds 7 (.bool false) = arr8 (mixF (7 + 1) f g)) := by show _ = _; rw [show false = (f 7 && g 7) by rw [← hq]; rfl]; rfl
          clear hq
          go_wp2_with fail
          go_roundw
          case rel => exact ⟨7 + 1, by omega, by go_num, Below.setCell hS.out (show w.heap.size ≤ w.heap.size + 1 + 1 by omega) _, (Below.heap_setCell _ _ _ _ (show w.heap.size ≠ w.heap.size + 1 + 1 by omega)).trans hk0.out, by show _ = _; rw [← EQ.out]; exact Fo.block_setCell hk2.out (.bool false)⟩
          case measure => simp [intOf]
        · have EQ : Hid ((arr8 (mixF 7 f g)).setIfInBounds 7 (.bool (g 7)) = arr8 (mixF (7 + 1) f g)) := by show _ = _; rw [show g 7 = (f 7 && g 7) by rw [← hq]; rfl]; rfl
          clear hq
          go_wp2_with fail
          go_roundw
          case rel => exact ⟨7 + 1, by omega, by go_num, Below.setCell hS.out (show w.heap.size ≤ w.heap.size + 1 + 1 by omega) _, (Below.heap_setCell _ _ _ _ (show w.heap.size ≠ w.heap.size + 1 + 1 by omega)).trans hk0.out, by show _ = _; rw [← EQ.out]; exact Fo.block_setCell hk2.out (.bool (g 7))⟩
          case measure => simp [intOf]
    · obtain rfl : j = 8 := by omega
      obtain ⟨c0, c1, c2, c3, c4, c5, c6, c7, _⟩ := arr8_facts hk0.out
      obtain ⟨d0, d1, d2, d3, d4, d5, d6, d7, _⟩ := arr8_facts hk2.out
      obtain ⟨R, hR⟩ : ∃ R : Bool, R = ((mixF 8 f g 0 == f 0) && (mixF 8 f g 1 == f 1) && (mixF 8 f g 2 == f 2) && (mixF 8 f g 3 == f 3) && (mixF 8 f g 4 == f 4) && (mixF 8 f g 5 == f 5) && (mixF 8 f g 6 == f 6) && (mixF 8 f g 7 == f 7)) := ⟨_, rfl⟩
      have KR := equal8_run (mixF 8 f g 0) (mixF 8 f g 1) (mixF 8 f g 2) (mixF 8 f g 3) (mixF 8 f g 4) (mixF 8 f g 5) (mixF 8 f g 6) (mixF 8 f g 7) (f 0) (f 1) (f 2) (f 3) (f 4) (f 5) (f 6) (f 7) wr
      rw [← hR] at KR
      have HD : Hid (R = (List.range 8).all (fun i => !(f i) || g i)) := by
        show _ = _
        rw [hR]
        simp only [mixF, mix_eq, List.range, List.range.loop, List.all_cons, List.all_nil, Bool.and_true, Nat.reduceLT, if_true]
        simp only [Bool.and_assoc]
      clear hR
      go_wp2_with fail
      go_ret
      exact ⟨ret_bool HD.out, hS.out⟩
end Go.Proofs.Ytpoikhilhgijoaa
