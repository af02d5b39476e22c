/- impl.chosen. -/
import Derived.Test.YtcgbepmhfimbjaaRsD
import Derived.Test.YtcgbepmhfimbjaaQuietC
import Derived.Deep.RegionLaw
import Derived.Deep.RegionHeld3
import Derived.Deep.DrawnRows
namespace Go.Proofs.Ytcgbepmhfimbjaa
open Go.RowKit
set_option linter.unusedVariables false

end Go.Proofs.Ytcgbepmhfimbjaa
