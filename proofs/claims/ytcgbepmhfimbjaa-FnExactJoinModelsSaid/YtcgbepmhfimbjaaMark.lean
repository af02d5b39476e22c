/- Contracts of laws.markInt64S, heldInt64S: marks put into a list of its own, and found again. -/
import Derived.Test.YtcgbepmhfimbjaaWordC
import Derived.Test.YtcgbepmhfimbjaaBut
namespace Go.Proofs.Ytcgbepmhfimbjaa
open Go.RowKit

/-- A row of which the first j are marked, from k on. -/
def MRow (xs : List Int) (k : Int) (b : Nat) (wr : World) (j : Nat) : Prop :=
  (∀ i, wr.frozen? ⟨b, i, none⟩ = false) ∧ (∀ i, i < j → wr.cell? ⟨b, i, none⟩ = some (.int .i64 (k + i))) ∧ ∀ i, j ≤ i → i < xs.length → wr.cell? ⟨b, i, none⟩ = some (.int .i64 (nth xs i))

theorem MRow.step {xs : List Int} {k : Int} {b : Nat} {wr : World} {j : Nat} (h : MRow xs k b wr j) (hj : j < xs.length) : MRow xs k b (wr.setCell ⟨b, j, none⟩ (.int .i64 (k + j))) (j + 1) := by
  obtain ⟨h1, h2, h3⟩ := h
  refine ⟨fun i => by rw [World.frozen?_setCell]; exact h1 i, fun i hi => ?_, fun i h4 h5 => ?_⟩
  · by_cases hij : j = i
    · subst hij
      exact World.cell?_setCell_same (h := h3 j (Nat.le_refl _) hj) ..
    · rw [World.cell?_setCell_other (a := ⟨b, j, none⟩) (b := ⟨b, i, none⟩) (h := fun h => hij (by cases h; rfl))]
      exact h2 i (by omega)
  · rw [World.cell?_setCell_other (a := ⟨b, j, none⟩) (b := ⟨b, i, none⟩) (h := fun h => by cases h; omega)]
    exact h3 i (by omega) h5

set_option maxHeartbeats 400000 in
theorem markInt64S_any (xs : List Int) (hm : xs.length ≤ 1048576) (k : Int) (hk0 : 0 ≤ k) (hk1 : k ≤ 16777216) (b : Nat) (C : Nat) (w : World)  (hR : MRow xs k b w 0) :
      Calls Try.prog 196 #[.slice (some ⟨b, 0, none⟩) xs.length C, .int .i64 k] w fun e w' => e = .returned (.int .i64 (k + xs.length)) ∧ MRow xs k b w' xs.length ∧ But b w.heap.size w w' := by
  go_enter Try.func196, Try.ntmps196
  go_wp2_with fail
  go_loopw [1, 5] (fun x i wr => ∃ j : Nat, j ≤ xs.length ∧ i = .int .i64 j ∧ x = .int .i64 (k + j) ∧ MRow xs k b wr j ∧ But b w.heap.size w wr) (fun _ i _ => xs.length - (intOf i).toNat)
  case atStart => exact ⟨0, Nat.zero_le _, rfl, by simp, hR, But.refl _ _ _⟩
  case round =>
    obtain ⟨j, hj, rfl, rfl, hM, hbt⟩ := hrel
    by_cases hjl : j < xs.length
    · have c0 := hM.2.2 j (Nat.le_refl _) hjl
      have fz := hM.1 j
      have hM2 := hM.step hjl
      have hb2 := hbt.setCell (p := ⟨b, j, none⟩) (Or.inl rfl) (.int .i64 (k + j))
      have wk : IntKind.i64.wrap (k + (j : Int) + 1) = k + (j : Int) + 1 := IntWalk.i64_in _ (by omega)
      clear hM hbt
      go_wp2_with fail
      go_roundw
      case rel => exact ⟨j + 1, by omega, by go_num, by go_num, hM2, hb2⟩
      case measure => simp [intOf]; omega
    · obtain rfl : j = xs.length := by omega
      go_wp2_with fail
      go_ret
      exact ⟨rfl, hM, hbt⟩

set_option maxHeartbeats 400000 in
theorem heldInt64S_any (n : Nat) (hm : n ≤ 1048576) (k : Int) (hk0 : 0 ≤ k) (hk1 : k ≤ 16777216) (b : Nat) (C : Nat) (w : World) (hR : ∀ i, i < n → w.cell? ⟨b, i, none⟩ = some (.int .i64 (k + i))) :
      Calls Try.prog 199 #[.slice (some ⟨b, 0, none⟩) n C, .int .i64 k] w fun e w' => e = .returned (.int .i64 (k + n)) ∧ ∃ m, w' = w.drewN m := by
  go_enter Try.func199, Try.ntmps199
  go_wp2_with fail
  go_loopw [1, 5] (fun x i wr => ∃ j m : Nat, j ≤ n ∧ i = .int .i64 j ∧ x = .int .i64 (k + j) ∧ Hid (wr = w.drewN m)) (fun _ i _ => n - (intOf i).toNat)
  case atStart => exact ⟨0, 0, Nat.zero_le _, rfl, by simp, rfl⟩
  case round =>
    obtain ⟨j, m, hj, rfl, rfl, hw⟩ := hrel
    by_cases hjl : j < n
    · have c0 : wr.cell? ⟨b, j, none⟩ = some (.int .i64 (k + j)) := by rw [hw.out]; exact hR j hjl
      have wk : IntKind.i64.wrap (k + (j : Int) + 1) = k + (j : Int) + 1 := IntWalk.i64_in _ (by omega)
      have hj0 : (0 : Int) ≤ (j : Int) := Int.natCast_nonneg _
      have hj1 : (j : Int) < (n : Int) := by omega
      have te : (k + (j : Int) != k + (j : Int)) = false := by simp
      go_wp2_with fail
      go_roundw
      case rel => exact ⟨j + 1, _, by omega, by go_num, by go_num, hw⟩
      case measure => simp [intOf]; omega
    · obtain rfl : j = n := by omega
      go_wp2_with fail
      go_ret
      exact ⟨rfl, _, hw.out⟩
end Go.Proofs.Ytcgbepmhfimbjaa
