/- Which premises are valid; facts on it. -/
import Derived.Test.YtmblgkpgfofceaaPr
import Derived.Test.YtmblgkpgfofceaaSpD0
namespace Go.Proofs.Ytmblgkpgfofceaa
open Go.RowKit

def premB (t a : Int) (x : Pm) : Bool := condV t a x.pk x.pn x.pf && (belowB x.act a && condV t a x.qk x.qn x.qf)
def premsB (t a : Int) (xs : List Pm) : Bool := sigOk t a && (decide ((xs.length : Int) ≤ 12) && xs.all (premB t a))
theorem condV_sig {t a k n : Int} {f : Fo} (h : condV t a k n f = true) : 0 ≤ a ∧ a ≤ 4 := by
  unfold condV validE at h
  simp only [Bool.and_eq_true] at h
  have := sigOk_of h.1.1.1.1
  omega
end Go.Proofs.Ytmblgkpgfofceaa
