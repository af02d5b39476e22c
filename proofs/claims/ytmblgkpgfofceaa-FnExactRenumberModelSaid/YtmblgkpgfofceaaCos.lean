/- Costs in the laws: size, copy, comparison. -/
import Derived.Test.YtmblgkpgfofceaaMod
namespace Go.Proofs.Ytmblgkpgfofceaa
open Go.RowKit

end Go.Proofs.Ytmblgkpgfofceaa
