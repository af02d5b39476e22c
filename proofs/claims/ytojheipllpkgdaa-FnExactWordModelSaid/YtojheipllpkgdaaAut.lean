/- Automata in the laws: their size, their copy, their comparison. -/
import Derived.Test.YtojheipllpkgdaaLayS
import Derived.Test.YtojheipllpkgdaaLayT
import Derived.Test.YtojheipllpkgdaaLayE
import Derived.Test.YtojheipllpkgdaaSig
namespace Go.Proofs.Ytojheipllpkgdaa
open Go.RowKit

/-- How much an automaton counts. -/
def autN (ac : List (List Bool)) (nx : List (List (List Int))) : Nat := tot List.length ac + tot (tot List.length) nx
/-- Its lists' lengths are numbers of the machine. -/
def FitA (ac : List (List Bool)) (nx : List (List (List Int))) : Prop :=
  ac.length ≤ 9223372036854775807 ∧ (∀ x ∈ ac, x.length ≤ 9223372036854775807) ∧ nx.length ≤ 9223372036854775807 ∧ ∀ x ∈ nx, x.length ≤ 9223372036854775807 ∧ ∀ y ∈ x, y.length ≤ 9223372036854775807

end Go.Proofs.Ytojheipllpkgdaa
