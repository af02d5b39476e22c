/- Conditions: which are valid; all of a list from a place on. Plain facts. -/
import Derived.Test.YtmblgkpgfofceaaSig
import Derived.Test.YtmblgkpgfofceaaTreeD
namespace Go.Proofs.Ytmblgkpgfofceaa
open Go.RowKit

/-- A valid condition. -/
def condV (t a ck cn : Int) (cf : Fo) : Bool := validE t a ck cn cf && (condK ck && cf.cond)
theorem in_below (v n : Int) : inB v 0 (n - 1) = belowB v n := by unfold inB belowB; rw [Bool.eq_iff_iff]; simp; omega
/-- All from a place on. -/
def allS {α : Type} (f : α → Bool) (xs : List α) (j : Nat) : Bool := (xs.drop j).all f
theorem allS_zero {α : Type} (f : α → Bool) (xs : List α) : xs.all f = allS f xs 0 := by simp [allS]
theorem allS_step {α : Type} (f : α → Bool) (xs : List α) {j : Nat} (h : j < xs.length) : allS f xs j = (f xs[j] && allS f xs (j + 1)) := by
  unfold allS
  rw [List.drop_eq_getElem_cons h, List.all_cons]
theorem allS_end {α : Type} (f : α → Bool) (xs : List α) : allS f xs xs.length = true := by simp [allS]
end Go.Proofs.Ytmblgkpgfofceaa
