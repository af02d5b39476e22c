/- impl.every at [][]int64: every$1, slices.IndexFunc, slices.ContainsFunc. -/
import Derived.Test.YtojheipllpkgdaaEvy
namespace Go.Proofs.Ytojheipllpkgdaa
open Go.RowKit

end Go.Proofs.Ytojheipllpkgdaa
