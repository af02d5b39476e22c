/- Contracts of spec.l01Same, spec.SameExpr. -/
import Derived.Test.YtcgbepmhfimbjaaGreatDoorSig
import Derived.Test.YtcgbepmhfimbjaaGreatDoorSep
import Derived.Lib.Hide
import Derived.Deep.QuietTactic
import Derived.BigQuiet
namespace Go.Proofs.YtcgbepmhfimbjaaGreatDoor
open Go.RowKit

end Go.Proofs.YtcgbepmhfimbjaaGreatDoor
