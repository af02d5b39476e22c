/- impl.chosen. -/
import Derived.Test.YtojheipllpkgdaaRsD
import Derived.Test.YtojheipllpkgdaaQuietC
import Derived.Deep.RegionLaw
import Derived.Deep.RegionHeld3
import Derived.Deep.DrawnRows
namespace Go.Proofs.Ytojheipllpkgdaa
open Go.RowKit
set_option linter.unusedVariables false

end Go.Proofs.Ytojheipllpkgdaa
