/- Contract of spec.TruthAt. -/
import Derived.Test.YtmblgkpgfofceaaDoorTruthS
import Derived.Test.YtmblgkpgfofceaaDoorVWord
namespace Go.Proofs.YtmblgkpgfofceaaDoor
open Go.RowKit

/-- What TruthAt answers. -/
def truthB (t a k n : Int) (f : Fo) (x : Int) : Bool := if validE t a k n f = true ∧ (condK k && f.cond) = true ∧ belowB x (atomsN t) = true then (ndE f k n).emptyB x else false
def truthC (t a k n : Int) (f : Fo) (x : Int) : Int := if validE t a k n f = false then 1 else if (condK k && f.cond) = false then 4 else if belowB x (atomsN t) = false then 2 else 0
theorem ret_bi {a b : Bool} {x y : Int} (h : a = b) (h' : x = y) : Ending.returned (.tuple #[.bool a, .int .i64 x]) = .returned (.tuple #[.bool b, .int .i64 y]) := by rw [h, h']
theorem truth_1 {t a k n : Int} {f : Fo} {x : Int} (h : validE t a k n f = false) : truthB t a k n f x = false ∧ truthC t a k n f x = 1 := by
  unfold truthB truthC; rw [h]; simp
theorem truth_4 {t a k n : Int} {f : Fo} {x : Int} (h : validE t a k n f = true) (h2 : (condK k && f.cond) = false) : truthB t a k n f x = false ∧ truthC t a k n f x = 4 := by
  unfold truthB truthC; rw [h, h2]; simp
theorem truth_2 {t a k n : Int} {f : Fo} {x : Int} (h : validE t a k n f = true) (h2 : (condK k && f.cond) = true) (h3 : belowB x (atomsN t) = false) : truthB t a k n f x = false ∧ truthC t a k n f x = 2 := by
  unfold truthB truthC; rw [h, h2, h3]; simp
theorem truth_0 {t a k n : Int} {f : Fo} {x : Int} (h : validE t a k n f = true) (h2 : (condK k && f.cond) = true) (h3 : belowB x (atomsN t) = true) : truthB t a k n f x = (ndE f k n).emptyB x ∧ truthC t a k n f x = 0 := by
  unfold truthB truthC; rw [h, h2, h3]; simp
theorem validE_parts {t a k n : Int} {f : Fo} (h : validE t a k n f = true) : 0 ≤ t ∧ t ≤ 3 ∧ 0 ≤ a ∧ a ≤ 4 ∧ treeE t a false k n f = true := by
  unfold validE at h
  simp only [Bool.and_eq_true] at h
  have := sigOk_of h.1.1.1
  exact ⟨this.1, this.2.1, this.2.2.1, this.2.2.2, h.2⟩
theorem below_atoms {t x : Int} (h : belowB x (atomsN t) = true) : 0 ≤ x ∧ x ≤ 7 := by
  have h1 := of_decide_eq_true h
  have h2 := atomsN_bd t
  omega

end Go.Proofs.YtmblgkpgfofceaaDoor
