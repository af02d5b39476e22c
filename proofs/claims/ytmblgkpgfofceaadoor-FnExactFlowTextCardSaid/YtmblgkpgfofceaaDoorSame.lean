/- Contracts of spec.l01Same, spec.SameExpr. -/
import Derived.Test.YtmblgkpgfofceaaDoorSig
import Derived.Test.YtmblgkpgfofceaaDoorSep
import Derived.Lib.Hide
import Derived.Deep.QuietTactic
import Derived.BigQuiet
namespace Go.Proofs.YtmblgkpgfofceaaDoor
open Go.RowKit

end Go.Proofs.YtmblgkpgfofceaaDoor
