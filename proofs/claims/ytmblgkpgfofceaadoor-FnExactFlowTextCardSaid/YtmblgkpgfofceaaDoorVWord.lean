/- Contracts of spec.l01Atoms, l01Word, ValidWord; impl.atomCount, ValidWord. -/
import Derived.Test.YtmblgkpgfofceaaDoorWordC
import Derived.Deep.RegionHeld3
import Derived.Test.YtmblgkpgfofceaaDoorQuietC
namespace Go.Proofs.YtmblgkpgfofceaaDoor
open Go.RowKit

/-- How many atoms there are. -/
def atomsN (t : Int) : Int := if t = 0 then 1 else if t = 1 then 2 else if t = 2 then 4 else 8
theorem atomsN_bd (t : Int) : 1 ≤ atomsN t ∧ atomsN t ≤ 8 := by
  unfold atomsN; split
  · omega
  · split
    · omega
    · split <;> omega
def atomB (t : Int) (x : Int) : Bool := inB x 0 (atomsN t - 1)
def actB (a : Int) (x : Int) : Bool := inB x 0 (a - 1)
theorem atomB_below (t x : Int) : atomB t x = belowB x (atomsN t) := by
  unfold atomB inB belowB; rw [Bool.eq_iff_iff]; simp; omega
theorem actB_below (a x : Int) : actB a x = belowB x a := by
  unfold actB inB belowB; rw [Bool.eq_iff_iff]; simp; omega
def validW (t a : Int) (p r : List Int) : Bool := sigOk t a && decide (r.length ≤ 10) && decide (p.length = r.length + 1) && p.all (atomB t) && r.all (actB a)

theorem all_step (f : Int → Bool) (xs : List Int) (j : Nat) (h : j < xs.length) : (xs.drop j).all f = (f (nth xs j) && (xs.drop (j + 1)).all f) := by
  rw [drop_getD xs j h]; rfl
theorem all_end (f : Int → Bool) (xs : List Int) : (xs.drop xs.length).all f = true := by simp

end Go.Proofs.YtmblgkpgfofceaaDoor
