/- The atoms that a condition names, as a list; what AtomsOf answers. Plain facts. -/
import Derived.Test.YtlpgkhdecccmlaaRSet8D
import Derived.Test.YtlpgkhdecccmlaaRPick
namespace Go.Proofs.YtlpgkhdecccmlaaR
open Go.RowKit

theorem pickA_set (m : Nat) (hm : m = 1 ∨ m = 2 ∨ m = 4 ∨ m = 8) (G : Nat → Bool) : pickA (setOfG m G) 8 = pickA G m := by
  unfold pickA
  congr 1
  rcases hm with rfl | rfl | rfl | rfl <;> simp [List.range, List.range.loop, setOfG, List.filter_cons]
def atR (t a k n : Int) (f : Fo) : List Int := if (validE t a k n f && (condK k && f.cond)) = true then pickA (fun i : Nat => (ndE f k n).emptyB (i : Int)) (atomsNat t) else []
def atC (t a k n : Int) (f : Fo) : Int := if validE t a k n f = false then 1 else if (condK k && f.cond) = false then 4 else 0
theorem atR_len (t a k n : Int) (f : Fo) : (atR t a k n f).length ≤ 1048576 := by
  unfold atR
  split
  · have := pickA_len (fun i : Nat => (ndE f k n).emptyB (i : Int)) (atomsNat t); have := (atomsNat_bd t).2; omega
  · simp
section
variable {t a k n : Int} {f : Fo}
theorem at_1 (h : validE t a k n f = false) : atR t a k n f = [] ∧ atC t a k n f = 1 := by unfold atR atC; rw [h]; exact ⟨rfl, rfl⟩
theorem at_4 (h1 : validE t a k n f = true) (h : (condK k && f.cond) = false) : atR t a k n f = [] ∧ atC t a k n f = 4 := by unfold atR atC; rw [h1, h]; exact ⟨rfl, rfl⟩
theorem at_0 (h1 : validE t a k n f = true) (h2 : (condK k && f.cond) = true) : atR t a k n f = pickA (fun i : Nat => (ndE f k n).emptyB (i : Int)) (atomsNat t) ∧ atC t a k n f = 0 := by unfold atR atC; rw [h1, h2]; exact ⟨rfl, rfl⟩
end
end Go.Proofs.YtlpgkhdecccmlaaR
