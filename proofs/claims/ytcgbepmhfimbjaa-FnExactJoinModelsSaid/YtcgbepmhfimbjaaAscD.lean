/- Numbers that rise, below a bound. Plain facts. -/
import Derived.Test.YtcgbepmhfimbjaaInts
import Derived.Test.YtcgbepmhfimbjaaSig
namespace Go.Proofs.Ytcgbepmhfimbjaa
open Go.RowKit

def ascAt (n : Int) (xs : List Int) (i : Nat) : Bool := belowB (nth xs i) n && (decide (i = 0) || decide (nth xs (i - 1) < nth xs i))
def ascB (n : Int) (xs : List Int) : Bool := (List.range xs.length).all (ascAt n xs)
theorem asc_no {n : Int} {xs : List Int} {j : Nat} (h : j < xs.length) (hj : ascAt n xs j = false) : ascB n xs = false := by
  unfold ascB
  rw [List.all_eq_false]
  exact ⟨j, List.mem_range.2 h, by simp [hj]⟩
theorem asc_step {n : Int} {xs : List Int} {j : Nat} (h : (List.range j).all (ascAt n xs) = true) (hj : ascAt n xs j = true) : (List.range (j + 1)).all (ascAt n xs) = true := by
  rw [List.range_succ, List.all_append, h]
  simp [hj]
theorem asc_at {n : Int} {xs : List Int} (h : ascB n xs = true) {j : Nat} (hj : j < xs.length) : ascAt n xs j = true := by
  unfold ascB at h
  rw [List.all_eq_true] at h
  exact h j (List.mem_range.2 hj)
theorem ascAt_far {n : Int} {xs : List Int} {j : Nat} (h : belowB (nth xs j) n = false) : ascAt n xs j = false := by unfold ascAt; rw [h]; rfl
theorem ascAt_zero {n : Int} {xs : List Int} (h : belowB (nth xs 0) n = true) : ascAt n xs 0 = true := by unfold ascAt; rw [h]; rfl
theorem ascAt_le {n : Int} {xs : List Int} {j : Nat} (h : belowB (nth xs (j + 1)) n = true) (hle : nth xs (j + 1) ≤ nth xs j) : ascAt n xs (j + 1) = false := by
  unfold ascAt
  rw [h, decide_eq_false (show ¬ (j + 1 = 0) by omega), Nat.add_sub_cancel, decide_eq_false (show ¬ (nth xs j < nth xs (j + 1)) by omega)]
  rfl
theorem ascAt_lt {n : Int} {xs : List Int} {j : Nat} (h : belowB (nth xs (j + 1)) n = true) (hlt : nth xs j < nth xs (j + 1)) : ascAt n xs (j + 1) = true := by
  unfold ascAt
  rw [h, decide_eq_false (show ¬ (j + 1 = 0) by omega), Nat.add_sub_cancel, decide_eq_true hlt]
  rfl
end Go.Proofs.Ytcgbepmhfimbjaa
