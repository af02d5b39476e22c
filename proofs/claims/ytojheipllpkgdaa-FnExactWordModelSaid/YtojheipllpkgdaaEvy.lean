/- Plain facts on 'all of a list from a place on'. -/
import Derived.Test.YtojheipllpkgdaaLayB
import Derived.Deep.RegionHeld3
import Derived.Shelf.Abstract
namespace Go.Proofs.Ytojheipllpkgdaa
open Go.RowKit
def allG {α : Type} (f : α → Bool) (xs : List α) (j : Nat) : Bool := (xs.drop j).all f
theorem allG_zero {α : Type} (f : α → Bool) (xs : List α) : xs.all f = allG f xs 0 := by simp [allG]
theorem allG_step {α : Type} (f : α → Bool) (xs : List α) {j : Nat} (h : j < xs.length) : allG f xs j = (f xs[j] && allG f xs (j + 1)) := by
  unfold allG
  rw [List.drop_eq_getElem_cons h, List.all_cons]
theorem allG_end {α : Type} (f : α → Bool) (xs : List α) : allG f xs xs.length = true := by simp [allG]
end Go.Proofs.Ytojheipllpkgdaa
