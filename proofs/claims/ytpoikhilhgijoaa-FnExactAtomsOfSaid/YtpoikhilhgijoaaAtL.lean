/- Contract of impl.atomSet.list. -/
import Derived.Test.YtpoikhilhgijoaaAtD
import Derived.Test.YtpoikhilhgijoaaOneI
import Derived.Test.YtpoikhilhgijoaaWithin
namespace Go.Proofs.Ytpoikhilhgijoaa
open Go.RowKit

set_option maxHeartbeats 4000000 in
set_option maxRecDepth 100000 in
theorem list_any (f : Nat → Bool) (w : World) :
    Calls Try.prog 83 #[.agg (arr8 f)] w fun e w' => ∃ A C, e = .returned (.slice A (pickA f 8).length C) ∧ IntsIn w' (pickA f 8) w.heap.size w'.heap.size A ∧ Below w.heap.size w w' := by
  obtain ⟨W0, hW0⟩ : ∃ W0, W0 = w.alloc (.cells (arr8 f) 123) := ⟨_, rfl⟩
  have k0 : W0.heap[w.heap.size]? = some (.cells (arr8 f) 123 (0, 0)) := by rw [hW0]; exact heap_new _ _ _ rfl
  have HW : Hid (Sees w W0) := by show Sees _ _; rw [hW0]; exact (Sees.refl w).alloc _
  go_enter Try.func83, Try.ntmps83
  obtain ⟨c0, c1, c2, c3, c4, c5, c6, c7, _⟩ := arr8_facts (W := w.alloc (.cells (arr8 f) 123)) (b := w.heap.size) (T := 123) (f := f) (heap_new _ _ _ rfl)
  go_wp2_with fail
  clear c0 c1 c2 c3 c4 c5 c6 c7
  rw [← hW0]
  clear hW0 k0
  go_loopw [3, 7] (fun v i wr => ∃ j : Nat, j ≤ 8 ∧ i = .int .i64 j ∧ Hid (OwnI wr W0.heap.size v (pickA f j)) ∧ Hid (Sees W0 wr)) (fun _ i _ => 8 - (intOf i).toNat)
  case atStart => exact ⟨0, Nat.zero_le _, rfl, OwnI.nil _ _, Sees.refl _⟩
  case round =>
    obtain ⟨j, hj, rfl, hO, hS⟩ := hrel
    by_cases hjl : j < 8
    · rcases lt8 hjl with rfl | rfl | rfl | rfl | rfl | rfl | rfl | rfl
      · have hik : ∀ (v0 v1 v2 v3 v4 v5 v6 v7 : Value) (w : World), (Instr.index 123 (.agg #[v0, v1, v2, v3, v4, v5, v6, v7]) (.int .i64 0)).run Try.prog w = .ok v0 w := index8_0
        have hik2 : ∀ (v0 v1 v2 v3 v4 v5 v6 v7 : Value) (w : World), (Instr.index 123 (.agg #[v0, v1, v2, v3, v4, v5, v6, v7]) (.int .i64 ((0 : Nat) : Int))).run Try.prog w = .ok v0 w := index8_0
        obtain ⟨q, hq⟩ : ∃ q : Bool, q = f 0 := ⟨_, rfl⟩
        cases q
        · have hP : Hid (pickA f (0 + 1) = pickA f 0) := pickA_no hq.symm
          have hO2 := Lib.hid (show OwnI wr W0.heap.size _ (pickA f (0 + 1)) by rw [hP.out]; exact hO.out)
          rw [← hq]
          clear hq hO
          go_wp2_with fail
          go_roundw
          case rel => exact ⟨0 + 1, by omega, by go_num, hO2, hS⟩
          case measure => simp [intOf]
        · have hP : Hid (pickA f (0 + 1) = pickA f 0 ++ [((0 : Nat) : Int)]) := pickA_yes hq.symm
          have hln : Hid ((pickA f 0).length < 4194304) := by have := pickA_len f 0; show _ < _; omega
          rw [← hq]
          clear hq
          have hsz := hS.out.size
          go_wp2_with (at_builtin; refine wpList_append_one wr (by rfl) _ _ (by rfl) W0.heap.size _ (pickA f 0) ((0 : Nat) : Int) (by rfl) (by rfl) hO.out hln.out hsz (by rfl) ?_)
          intro v' w3 hO3 hB3
          have hO4 : Hid (OwnI w3 W0.heap.size v' (pickA f (0 + 1))) := by show OwnI _ _ _ _; rw [hP.out]; exact hO3
          have hS4 : Hid (Sees W0 w3) := hB3 W0 rfl hS.out
          clear hO3 hB3
          go_wp2_with fail
          go_roundw
          case rel => exact ⟨0 + 1, by omega, by go_num, hO4, hS4⟩
          case measure => simp [intOf]
      · have hik : ∀ (v0 v1 v2 v3 v4 v5 v6 v7 : Value) (w : World), (Instr.index 123 (.agg #[v0, v1, v2, v3, v4, v5, v6, v7]) (.int .i64 1)).run Try.prog w = .ok v1 w := index8_1
        have hik2 : ∀ (v0 v1 v2 v3 v4 v5 v6 v7 : Value) (w : World), (Instr.index 123 (.agg #[v0, v1, v2, v3, v4, v5, v6, v7]) (.int .i64 ((1 : Nat) : Int))).run Try.prog w = .ok v1 w := index8_1
        obtain ⟨q, hq⟩ : ∃ q : Bool, q = f 1 := ⟨_, rfl⟩
        cases q
        · have hP : Hid (pickA f (1 + 1) = pickA f 1) := pickA_no hq.symm
          have hO2 := Lib.hid (show OwnI wr W0.heap.size _ (pickA f (1 + 1)) by rw [hP.out]; exact hO.out)
          rw [← hq]
          clear hq hO
          go_wp2_with fail
          go_roundw
          case rel => exact ⟨1 + 1, by omega, by go_num, hO2, hS⟩
          case measure => simp [intOf]
        · have hP : Hid (pickA f (1 + 1) = pickA f 1 ++ [((1 : Nat) : Int)]) := pickA_yes hq.symm
          have hln : Hid ((pickA f 1).length < 4194304) := by have := pickA_len f 1; show _ < _; omega
          rw [← hq]
          clear hq
          have hsz := hS.out.size
          go_wp2_with (at_builtin; refine wpList_append_one wr (by rfl) _ _ (by rfl) W0.heap.size _ (pickA f 1) ((1 : Nat) : Int) (by rfl) (by rfl) hO.out hln.out hsz (by rfl) ?_)
          intro v' w3 hO3 hB3
          have hO4 : Hid (OwnI w3 W0.heap.size v' (pickA f (1 + 1))) := by show OwnI _ _ _ _; rw [hP.out]; exact hO3
          have hS4 : Hid (Sees W0 w3) := hB3 W0 rfl hS.out
          clear hO3 hB3
          go_wp2_with fail
          go_roundw
          case rel => exact ⟨1 + 1, by omega, by go_num, hO4, hS4⟩
          case measure => simp [intOf]
      · have hik : ∀ (v0 v1 v2 v3 v4 v5 v6 v7 : Value) (w : World), (Instr.index 123 (.agg #[v0, v1, v2, v3, v4, v5, v6, v7]) (.int .i64 2)).run Try.prog w = .ok v2 w := index8_2
        have hik2 : ∀ (v0 v1 v2 v3 v4 v5 v6 v7 : Value) (w : World), (Instr.index 123 (.agg #[v0, v1, v2, v3, v4, v5, v6, v7]) (.int .i64 ((2 : Nat) : Int))).run Try.prog w = .ok v2 w := index8_2
        obtain ⟨q, hq⟩ : ∃ q : Bool, q = f 2 := ⟨_, rfl⟩
        cases q
        · have hP : Hid (pickA f (2 + 1) = pickA f 2) := pickA_no hq.symm
          have hO2 := Lib.hid (show OwnI wr W0.heap.size _ (pickA f (2 + 1)) by rw [hP.out]; exact hO.out)
          rw [← hq]
          clear hq hO
          go_wp2_with fail
          go_roundw
          case rel => exact ⟨2 + 1, by omega, by go_num, hO2, hS⟩
          case measure => simp [intOf]
        · have hP : Hid (pickA f (2 + 1) = pickA f 2 ++ [((2 : Nat) : Int)]) := pickA_yes hq.symm
          have hln : Hid ((pickA f 2).length < 4194304) := by have := pickA_len f 2; show _ < _; omega
          rw [← hq]
          clear hq
          have hsz := hS.out.size
          go_wp2_with (at_builtin; refine wpList_append_one wr (by rfl) _ _ (by rfl) W0.heap.size _ (pickA f 2) ((2 : Nat) : Int) (by rfl) (by rfl) hO.out hln.out hsz (by rfl) ?_)
          intro v' w3 hO3 hB3
          have hO4 : Hid (OwnI w3 W0.heap.size v' (pickA f (2 + 1))) := by show OwnI _ _ _ _; rw [hP.out]; exact hO3
          have hS4 : Hid (Sees W0 w3) := hB3 W0 rfl hS.out
          clear hO3 hB3
          go_wp2_with fail
          go_roundw
          case rel => exact ⟨2 + 1, by omega, by go_num, hO4, hS4⟩
          case measure => simp [intOf]
      · have hik : ∀ (v0 v1 v2 v3 v4 v5 v6 v7 : Value) (w : World), (Instr.index 123 (.agg #[v0, v1, v2, v3, v4, v5, v6, v7]) (.int .i64 3)).run Try.prog w = .ok v3 w := index8_3
        have hik2 : ∀ (v0 v1 v2 v3 v4 v5 v6 v7 : Value) (w : World), (Instr.index 123 (.agg #[v0, v1, v2, v3, v4, v5, v6, v7]) (.int .i64 ((3 : Nat) : Int))).run Try.prog w = .ok v3 w := index8_3
        obtain ⟨q, hq⟩ : ∃ q : Bool, q = f 3 := ⟨_, rfl⟩
        cases q
        · have hP : Hid (pickA f (3 + 1) = pickA f 3) := pickA_no hq.symm
          have hO2 := Lib.hid (show OwnI wr W0.heap.size _ (pickA f (3 + 1)) by rw [hP.out]; exact hO.out)
          rw [← hq]
          clear hq hO
          go_wp2_with fail
          go_roundw
          case rel => exact ⟨3 + 1, by omega, by go_num, hO2, hS⟩
          case measure => simp [intOf]
        · have hP : Hid (pickA f (3 + 1) = pickA f 3 ++ [((3 : Nat) : Int)]) := pickA_yes hq.symm
          have hln : Hid ((pickA f 3).length < 4194304) := by have := pickA_len f 3; show _ < _; omega
          rw [← hq]
          clear hq
          have hsz := hS.out.size
          go_wp2_with (at_builtin; refine wpList_append_one wr (by rfl) _ _ (by rfl) W0.heap.size _ (pickA f 3) ((3 : Nat) : Int) (by rfl) (by rfl) hO.out hln.out hsz (by rfl) ?_)
          intro v' w3 hO3 hB3
          have hO4 : Hid (OwnI w3 W0.heap.size v' (pickA f (3 + 1))) := by show OwnI _ _ _ _; rw [hP.out]; exact hO3
          have hS4 : Hid (Sees W0 w3) := hB3 W0 rfl hS.out
          clear hO3 hB3
          go_wp2_with fail
          go_roundw
          case rel => exact ⟨3 + 1, by omega, by go_num, hO4, hS4⟩
          case measure => simp [intOf]
      · have hik : ∀ (v0 v1 v2 v3 v4 v5 v6 v7 : Value) (w : World), (Instr.index 123 (.agg #[v0, v1, v2, v3, v4, v5, v6, v7]) (.int .i64 4)).run Try.prog w = .ok v4 w := index8_4
        have hik2 : ∀ (v0 v1 v2 v3 v4 v5 v6 v7 : Value) (w : World), (Instr.index 123 (.agg #[v0, v1, v2, v3, v4, v5, v6, v7]) (.int .i64 ((4 : Nat) : Int))).run Try.prog w = .ok v4 w := index8_4
        obtain ⟨q, hq⟩ : ∃ q : Bool, q = f 4 := ⟨_, rfl⟩
        cases q
        · have hP : Hid (pickA f (4 + 1) = pickA f 4) := pickA_no hq.symm
          have hO2 := Lib.hid (show OwnI wr W0.heap.size _ (pickA f (4 + 1)) by rw [hP.out]; exact hO.out)
          rw [← hq]
          clear hq hO
          go_wp2_with fail
          go_roundw
          case rel => exact ⟨4 + 1, by omega, by go_num, hO2, hS⟩
          case measure => simp [intOf]
        · have hP : Hid (pickA f (4 + 1) = pickA f 4 ++ [((4 : Nat) : Int)]) := pickA_yes hq.symm
          have hln : Hid ((pickA f 4).length < 4194304) := by have := pickA_len f 4; show _ < _; omega
          rw [← hq]
          clear hq
          have hsz := hS.out.size
          go_wp2_with (at_builtin; refine wpList_append_one wr (by rfl) _ _ (by rfl) W0.heap.size _ (pickA f 4) ((4 : Nat) : Int) (by rfl) (by rfl) hO.out hln.out hsz (by rfl) ?_)
          intro v' w3 hO3 hB3
          have hO4 : Hid (OwnI w3 W0.heap.size v' (pickA f (4 + 1))) := by show OwnI _ _ _ _; rw [hP.out]; exact hO3
          have hS4 : Hid (Sees W0 w3) := hB3 W0 rfl hS.out
          clear hO3 hB3
          go_wp2_with fail
          go_roundw
          case rel => exact ⟨4 + 1, by omega, by go_num, hO4, hS4⟩
          case measure => simp [intOf]
      · have hik : ∀ (v0 v1 v2 v3 v4 v5 v6 v7 : Value) (w : World), (Instr.index 123 (.agg #[v0, v1, v2, v3, v4, v5, v6, v7]) (.int .i64 5)).run Try.prog w = .ok v5 w := index8_5
        have hik2 : ∀ (v0 v1 v2 v3 v4 v5 v6 v7 : Value) (w : World), (Instr.index 123 (.agg #[v0, v1, v2, v3, v4, v5, v6, v7]) (.int .i64 ((5 : Nat) : Int))).run Try.prog w = .ok v5 w := index8_5
        obtain ⟨q, hq⟩ : ∃ q : Bool, q = f 5 := ⟨_, rfl⟩
        cases q
        · have hP : Hid (pickA f (5 + 1) = pickA f 5) := pickA_no hq.symm
          have hO2 := Lib.hid (show OwnI wr W0.heap.size _ (pickA f (5 + 1)) by rw [hP.out]; exact hO.out)
          rw [← hq]
          clear hq hO
          go_wp2_with fail
          go_roundw
          case rel => exact ⟨5 + 1, by omega, by go_num, hO2, hS⟩
          case measure => simp [intOf]
        · have hP : Hid (pickA f (5 + 1) = pickA f 5 ++ [((5 : Nat) : Int)]) := pickA_yes hq.symm
          have hln : Hid ((pickA f 5).length < 4194304) := by have := pickA_len f 5; show _ < _; omega
          rw [← hq]
          clear hq
          have hsz := hS.out.size
          go_wp2_with (at_builtin; refine wpList_append_one wr (by rfl) _ _ (by rfl) W0.heap.size _ (pickA f 5) ((5 : Nat) : Int) (by rfl) (by rfl) hO.out hln.out hsz (by rfl) ?_)
          intro v' w3 hO3 hB3
          have hO4 : Hid (OwnI w3 W0.heap.size v' (pickA f (5 + 1))) := by show OwnI _ _ _ _; rw [hP.out]; exact hO3
          have hS4 : Hid (Sees W0 w3) := hB3 W0 rfl hS.out
          clear hO3 hB3
          go_wp2_with fail
          go_roundw
          case rel => exact ⟨5 + 1, by omega, by go_num, hO4, hS4⟩
          case measure => simp [intOf]
      · have hik : ∀ (v0 v1 v2 v3 v4 v5 v6 v7 : Value) (w : World), (Instr.index 123 (.agg #[v0, v1, v2, v3, v4, v5, v6, v7]) (.int .i64 6)).run Try.prog w = .ok v6 w := index8_6
        have hik2 : ∀ (v0 v1 v2 v3 v4 v5 v6 v7 : Value) (w : World), (Instr.index 123 (.agg #[v0, v1, v2, v3, v4, v5, v6, v7]) (.int .i64 ((6 : Nat) : Int))).run Try.prog w = .ok v6 w := index8_6
        obtain ⟨q, hq⟩ : ∃ q : Bool, q = f 6 := ⟨_, rfl⟩
        cases q
        · have hP : Hid (pickA f (6 + 1) = pickA f 6) := pickA_no hq.symm
          have hO2 := Lib.hid (show OwnI wr W0.heap.size _ (pickA f (6 + 1)) by rw [hP.out]; exact hO.out)
          rw [← hq]
          clear hq hO
          go_wp2_with fail
          go_roundw
          case rel => exact ⟨6 + 1, by omega, by go_num, hO2, hS⟩
          case measure => simp [intOf]
        · have hP : Hid (pickA f (6 + 1) = pickA f 6 ++ [((6 : Nat) : Int)]) := pickA_yes hq.symm
          have hln : Hid ((pickA f 6).length < 4194304) := by have := pickA_len f 6; show _ < _; omega
          rw [← hq]
          clear hq
          have hsz := hS.out.size
          go_wp2_with (at_builtin; refine wpList_append_one wr (by rfl) _ _ (by rfl) W0.heap.size _ (pickA f 6) ((6 : Nat) : Int) (by rfl) (by rfl) hO.out hln.out hsz (by rfl) ?_)
          intro v' w3 hO3 hB3
          have hO4 : Hid (OwnI w3 W0.heap.size v' (pickA f (6 + 1))) := by show OwnI _ _ _ _; rw [hP.out]; exact hO3
          have hS4 : Hid (Sees W0 w3) := hB3 W0 rfl hS.out
          clear hO3 hB3
          go_wp2_with fail
          go_roundw
          case rel => exact ⟨6 + 1, by omega, by go_num, hO4, hS4⟩
          case measure => simp [intOf]
      · have hik : ∀ (v0 v1 v2 v3 v4 v5 v6 v7 : Value) (w : World), (Instr.index 123 (.agg #[v0, v1, v2, v3, v4, v5, v6, v7]) (.int .i64 7)).run Try.prog w = .ok v7 w := index8_7
        have hik2 : ∀ (v0 v1 v2 v3 v4 v5 v6 v7 : Value) (w : World), (Instr.index 123 (.agg #[v0, v1, v2, v3, v4, v5, v6, v7]) (.int .i64 ((7 : Nat) : Int))).run Try.prog w = .ok v7 w := index8_7
        obtain ⟨q, hq⟩ : ∃ q : Bool, q = f 7 := ⟨_, rfl⟩
        cases q
        · have hP : Hid (pickA f (7 + 1) = pickA f 7) := pickA_no hq.symm
          have hO2 := Lib.hid (show OwnI wr W0.heap.size _ (pickA f (7 + 1)) by rw [hP.out]; exact hO.out)
          rw [← hq]
          clear hq hO
          go_wp2_with fail
          go_roundw
          case rel => exact ⟨7 + 1, by omega, by go_num, hO2, hS⟩
          case measure => simp [intOf]
        · have hP : Hid (pickA f (7 + 1) = pickA f 7 ++ [((7 : Nat) : Int)]) := pickA_yes hq.symm
          have hln : Hid ((pickA f 7).length < 4194304) := by have := pickA_len f 7; show _ < _; omega
          rw [← hq]
          clear hq
          have hsz := hS.out.size
          go_wp2_with (at_builtin; refine wpList_append_one wr (by rfl) _ _ (by rfl) W0.heap.size _ (pickA f 7) ((7 : Nat) : Int) (by rfl) (by rfl) hO.out hln.out hsz (by rfl) ?_)
          intro v' w3 hO3 hB3
          have hO4 : Hid (OwnI w3 W0.heap.size v' (pickA f (7 + 1))) := by show OwnI _ _ _ _; rw [hP.out]; exact hO3
          have hS4 : Hid (Sees W0 w3) := hB3 W0 rfl hS.out
          clear hO3 hB3
          go_wp2_with fail
          go_roundw
          case rel => exact ⟨7 + 1, by omega, by go_num, hO4, hS4⟩
          case measure => simp [intOf]
    · obtain rfl : j = 8 := by omega
      obtain ⟨A, C, hv, hI⟩ := hO.out.ints hS.out.size
      subst hv
      have hI := Lib.hid (hI.mono HW.out.size (Nat.le_refl _))
      have hb := Lib.hid (Sees.below HW.out hS.out)
      clear hjl hO
      go_wp2_with fail
      go_ret
      exact ⟨A, C, rfl, hI.out, hb.out⟩
end Go.Proofs.Ytpoikhilhgijoaa
