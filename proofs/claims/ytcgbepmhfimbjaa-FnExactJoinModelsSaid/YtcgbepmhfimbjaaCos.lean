/- Costs in the laws: size, copy, comparison. -/
import Derived.Test.YtcgbepmhfimbjaaMod
namespace Go.Proofs.Ytcgbepmhfimbjaa
open Go.RowKit

end Go.Proofs.Ytcgbepmhfimbjaa
