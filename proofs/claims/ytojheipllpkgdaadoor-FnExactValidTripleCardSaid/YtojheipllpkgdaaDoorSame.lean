/- Contracts of spec.l01Same, spec.SameExpr. -/
import Derived.Test.YtojheipllpkgdaaDoorSig
import Derived.Test.YtojheipllpkgdaaDoorSep
import Derived.Lib.Hide
import Derived.Deep.QuietTactic
import Derived.BigQuiet
namespace Go.Proofs.YtojheipllpkgdaaDoor
open Go.RowKit

end Go.Proofs.YtojheipllpkgdaaDoor
