/- Contracts of spec.l01True, spec.TruthAt. -/
import Derived.Test.YtmblgkpgfofceaaDoorTruth
import Derived.Test.YtmblgkpgfofceaaDoorOk
import Derived.Test.YtmblgkpgfofceaaDoorCond
namespace Go.Proofs.YtmblgkpgfofceaaDoor
open Go.RowKit

theorem ndE_cond_forms {t a : Int} {b : Bool} {k n : Int} {f : Fo} (h : treeE t a b k n f = true) (hc : (condK k && f.cond) = true) :
    (f = .nil ∧ (k = 1 ∨ k = 2 ∨ (k = 3 ∧ 0 ≤ n ∧ n < t))) ∨
    (∃ k1 n1 f1, f = .cons k1 n1 f1 .nil ∧ k = 5 ∧ treeE t a (b || k == 5) k1 n1 f1 = true ∧ (condK k1 && f1.cond) = true) ∨
    (∃ k1 n1 f1 k2 n2 f2, f = .cons k1 n1 f1 (.cons k2 n2 f2 .nil) ∧ (k = 6 ∨ k = 7) ∧ treeE t a b k1 n1 f1 = true ∧ treeE t a b k2 n2 f2 = true ∧ (condK k1 && f1.cond) = true ∧ (condK k2 && f2.cond) = true) := by
  simp only [Bool.and_eq_true] at hc
  obtain ⟨hk, hf⟩ := hc
  have hk' := of_decide_eq_true hk
  rcases tree_forms h with ⟨rfl, h1⟩ | ⟨k1, n1, f1, rfl, h1, h2⟩ | ⟨k1, n1, f1, k2, n2, f2, rfl, h1, h2, h3⟩
  · refine Or.inl ⟨rfl, ?_⟩
    omega
  · refine Or.inr (Or.inl ⟨k1, n1, f1, rfl, by omega, h2, ?_⟩)
    simpa [Fo.cond] using hf
  · refine Or.inr (Or.inr ⟨k1, n1, f1, k2, n2, f2, rfl, h1, h2, h3, ?_⟩)
    simpa [Fo.cond, and_assoc] using hf

end Go.Proofs.YtmblgkpgfofceaaDoor
