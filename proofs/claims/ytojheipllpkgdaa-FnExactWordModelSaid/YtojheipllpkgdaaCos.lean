/- Costs in the laws: size, copy, comparison. -/
import Derived.Test.YtojheipllpkgdaaMod
namespace Go.Proofs.Ytojheipllpkgdaa
open Go.RowKit

end Go.Proofs.Ytojheipllpkgdaa
