/- What a call hands back that answers an expression and a code. Plain facts, no walk. -/
import Derived.Test.YtmblgkpgfofceaaGen
import Derived.Test.YtmblgkpgfofceaaTreeD
namespace Go.Proofs.Ytmblgkpgfofceaa
open Go.RowKit

/-- .. in memory that the call made. -/
def LEnd (k n : Int) (f : Fo) (q : Int) (w : World) (e : Ending) (w' : World) : Prop := ∃ A C, e = .returned (.tuple #[.agg #[.int .i64 k, .int .i64 n, .slice A f.len C], .int .i64 q]) ∧ f.LiesIn w' w.heap.size w'.heap.size A ∧ Below w.heap.size w w'
/-- .. all kids in blocks of their own. -/
def XEnd (k n : Int) (f : Fo) (q : Int) (w : World) (e : Ending) (w' : World) : Prop := ∃ A C, e = .returned (.tuple #[.agg #[.int .i64 k, .int .i64 n, .slice A f.len C], .int .i64 q]) ∧ f.XIn w' w.heap.size w'.heap.size A ∧ Below w.heap.size w w'
theorem validE_parts0 {t a k n : Int} {f : Fo} (h : validE t a k n f = true) : treeE t a false k n f = true := by
  unfold validE at h
  simp only [Bool.and_eq_true] at h
  exact h.2
end Go.Proofs.Ytmblgkpgfofceaa
