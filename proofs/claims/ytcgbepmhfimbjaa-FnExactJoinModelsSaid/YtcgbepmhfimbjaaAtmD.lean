/- The atom of a point: what AtomOf answers. -/
import Derived.Test.YtcgbepmhfimbjaaVMD
import Derived.Deep.RegionHeld3
namespace Go.Proofs.Ytcgbepmhfimbjaa
open Go.RowKit

/-- The bits of the first tests at a point. -/
def atmF (ac : List (List Bool)) (X : Nat) : Nat → Int
  | 0 => 0
  | j + 1 => if (ac.getD j []).getD X false = true then bits .or .i64 (atmF ac X j) (if j = 0 then 1 else if j = 1 then 2 else 4) else atmF ac X j
def atO (t a p : Int) (ac : List (List Bool)) (nx : List (List (List Bool))) (x : Int) : Int × Int :=
  if validM t a p ac nx = true then (if 0 ≤ x ∧ x < p then (atmF ac x.toNat ac.length, 0) else (0, 2)) else (0, 1)
theorem ret_ii {x y x' y' : Int} (h : x = x') (h' : y = y') : Ending.returned (.tuple #[.int .i64 x, .int .i64 y]) = .returned (.tuple #[.int .i64 x', .int .i64 y']) := by rw [h, h']
theorem atO_bad {t a p : Int} {ac : List (List Bool)} {nx : List (List (List Bool))} {x : Int} (h : validM t a p ac nx = false) : atO t a p ac nx x = (0, 1) := if_neg (by rw [h]; decide)
theorem atO_range {t a p : Int} {ac : List (List Bool)} {nx : List (List (List Bool))} {x : Int} (h : validM t a p ac nx = true) (hx : ¬ (0 ≤ x ∧ x < p)) : atO t a p ac nx x = (0, 2) := by unfold atO; rw [if_pos h, if_neg hx]
theorem atO_yes {t a p : Int} {ac : List (List Bool)} {nx : List (List (List Bool))} {x : Int} (h : validM t a p ac nx = true) (hx : 0 ≤ x ∧ x < p) : atO t a p ac nx x = (atmF ac x.toNat ac.length, 0) := by unfold atO; rw [if_pos h, if_pos hx]
theorem validM_bd {t a p : Int} {ac : List (List Bool)} {nx : List (List (List Bool))} (h : validM t a p ac nx = true) : 0 ≤ t ∧ t ≤ 3 ∧ 0 ≤ a ∧ a ≤ 4 ∧ 1 ≤ p ∧ p ≤ 8 ∧ (ac.length : Int) = t ∧ (nx.length : Int) = a ∧ (∀ r ∈ ac, (r.length : Int) = p) ∧ ∀ rows ∈ nx, (rows.length : Int) = p ∧ ∀ r ∈ rows, (r.length : Int) = p := by
  unfold validM at h
  simp only [Bool.and_eq_true, decide_eq_true_eq] at h
  obtain ⟨h1, h2, h3⟩ := h
  have hb := validT_bd h1
  unfold validT at h1
  simp only [Bool.and_eq_true, decide_eq_true_eq] at h1
  refine ⟨hb.1, hb.2.1, hb.2.2.1, hb.2.2.2.1, hb.2.2.2.2.1, hb.2.2.2.2.2.1, hb.2.2.2.2.2.2, h2, fun r hr => ?_, fun rows hr => ?_⟩
  · have := List.all_eq_true.1 h1.2.2.2 r hr
    unfold isRow at this
    simpa using this
  · have h4 := List.all_eq_true.1 h3 rows hr
    unfold actM isRow at h4
    simp only [Bool.and_eq_true, decide_eq_true_eq] at h4
    refine ⟨h4.1, fun r hr2 => ?_⟩
    have := List.all_eq_true.1 h4.2 r hr2
    simpa using this
end Go.Proofs.Ytcgbepmhfimbjaa
