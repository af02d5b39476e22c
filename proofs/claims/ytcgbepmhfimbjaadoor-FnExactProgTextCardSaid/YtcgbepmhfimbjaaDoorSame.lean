/- Contracts of spec.l01Same, spec.SameExpr. -/
import Derived.Test.YtcgbepmhfimbjaaDoorSig
import Derived.Test.YtcgbepmhfimbjaaDoorSep
import Derived.Lib.Hide
import Derived.Deep.QuietTactic
import Derived.BigQuiet
namespace Go.Proofs.YtcgbepmhfimbjaaDoor
open Go.RowKit

end Go.Proofs.YtcgbepmhfimbjaaDoor
