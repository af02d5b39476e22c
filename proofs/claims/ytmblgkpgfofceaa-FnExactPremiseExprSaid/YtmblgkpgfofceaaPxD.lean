/- PremiseExpr: what it answers. -/
import Derived.Test.YtmblgkpgfofceaaPrD
import Derived.Test.YtmblgkpgfofceaaPrC
import Derived.Test.YtmblgkpgfofceaaEndE
namespace Go.Proofs.Ytmblgkpgfofceaa
open Go.RowKit

/-- The kids of the expression: the condition before, and the action with what is not the condition behind. -/
def pxF (x : Pm) : Fo := .cons x.pk x.pn x.pf (.cons 7 0 (.cons 4 x.act .nil (.cons 5 0 (.cons x.qk x.qn x.qf .nil) .nil)) .nil)
/-- The code that is handed back. -/
def pxC (t a : Int) (x : Pm) : Int := if premB t a x then (if validE t a 7 0 (pxF x) then 0 else 3) else 1
def pxG (t a : Int) (x : Pm) : Fo := if pxC t a x = 0 then pxF x else .nil
def pxK (t a : Int) (x : Pm) : Int := if pxC t a x = 0 then 7 else 0
theorem px_1 {t a : Int} {x : Pm} (h : premB t a x = false) : pxC t a x = 1 ∧ pxG t a x = .nil ∧ pxK t a x = 0 := by
  have h1 : pxC t a x = 1 := by unfold pxC; simp [h]
  exact ⟨h1, by unfold pxG; simp [h1], by unfold pxK; simp [h1]⟩
theorem px_3 {t a : Int} {x : Pm} (h : premB t a x = true) (g : validE t a 7 0 (pxF x) = false) : pxC t a x = 3 ∧ pxG t a x = .nil ∧ pxK t a x = 0 := by
  have h1 : pxC t a x = 3 := by unfold pxC; simp [h, g]
  exact ⟨h1, by unfold pxG; simp [h1], by unfold pxK; simp [h1]⟩
theorem px_0 {t a : Int} {x : Pm} (h : premB t a x = true) (g : validE t a 7 0 (pxF x) = true) : pxC t a x = 0 ∧ pxG t a x = pxF x ∧ pxK t a x = 7 := by
  have h1 : pxC t a x = 0 := by unfold pxC; simp [h, g]
  exact ⟨h1, by unfold pxG; simp [h1], by unfold pxK; simp [h1]⟩
theorem pxF_nodes (x : Pm) : (pxF x).nodes = x.pf.nodes + x.qf.nodes + 5 := by simp only [pxF, Fo.nodes]; omega
theorem pxF_len (x : Pm) : (pxF x).len = 2 := by simp [pxF, Fo.len]
end Go.Proofs.Ytmblgkpgfofceaa
