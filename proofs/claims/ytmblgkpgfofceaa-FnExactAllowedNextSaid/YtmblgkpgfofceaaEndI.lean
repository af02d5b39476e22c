/- What a call hands back that answers a list of integers and a code. Plain facts, no walk. -/
import Derived.Test.YtmblgkpgfofceaaGenI
namespace Go.Proofs.Ytmblgkpgfofceaa
open Go.RowKit

/-- .. in memory that the call made. -/
def IEnd (R : List Int) (q : Int) (w : World) (e : Ending) (w' : World) : Prop := ∃ A C, e = .returned (.tuple #[.slice A R.length C, .int .i64 q]) ∧ IntsIn w' R w.heap.size w'.heap.size A ∧ Below w.heap.size w w'
end Go.Proofs.Ytmblgkpgfofceaa
