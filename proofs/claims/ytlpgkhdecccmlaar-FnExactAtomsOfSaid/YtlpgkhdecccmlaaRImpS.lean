/- What Implies answers; contracts of spec.l07Implies, spec.Implies. -/
import Derived.Test.YtlpgkhdecccmlaaRSet8D
import Derived.Test.YtlpgkhdecccmlaaRTruthS
import Derived.Test.YtlpgkhdecccmlaaROk
import Derived.Test.YtlpgkhdecccmlaaRCondI
namespace Go.Proofs.YtlpgkhdecccmlaaR
open Go.RowKit

/-- What Implies answers. -/
def impB (t a k n : Int) (f : Fo) (k' n' : Int) (f' : Fo) : Bool := ((validE t a k n f && validE t a k' n' f') && ((condK k && f.cond) && (condK k' && f'.cond))) && (List.range (atomsNat t)).all (fun i => !((ndE f k n).emptyB (i : Int)) || (ndE f' k' n').emptyB (i : Int))
def impC (t a k n : Int) (f : Fo) (k' n' : Int) (f' : Fo) : Int := if (validE t a k n f && validE t a k' n' f') = false then 1 else if ((condK k && f.cond) && (condK k' && f'.cond)) = false then 4 else 0
section
variable {t a k n : Int} {f : Fo} {k' n' : Int} {f' : Fo}
theorem imp_1 (h : (validE t a k n f && validE t a k' n' f') = false) : impB t a k n f k' n' f' = false ∧ impC t a k n f k' n' f' = 1 := by
  unfold impB impC
  rw [h, if_pos rfl]
  exact ⟨rfl, rfl⟩
theorem imp_4 (h1 : (validE t a k n f && validE t a k' n' f') = true) (h : ((condK k && f.cond) && (condK k' && f'.cond)) = false) : impB t a k n f k' n' f' = false ∧ impC t a k n f k' n' f' = 4 := by
  unfold impB impC
  rw [h1, h, if_neg (by simp), if_pos rfl]
  exact ⟨rfl, rfl⟩
theorem imp_0 (h1 : (validE t a k n f && validE t a k' n' f') = true) (h2 : ((condK k && f.cond) && (condK k' && f'.cond)) = true) :
    impB t a k n f k' n' f' = (List.range (atomsNat t)).all (fun i => !((ndE f k n).emptyB (i : Int)) || (ndE f' k' n').emptyB (i : Int)) ∧ impC t a k n f k' n' f' = 0 := by
  unfold impB impC
  rw [h1, h2, if_neg (by simp), if_neg (by simp)]
  exact ⟨rfl, rfl⟩
end

end Go.Proofs.YtlpgkhdecccmlaaR
