/- Sizes of lists of lists, as the laws reckon them. -/
import Derived.Test.YtlpgkhdecccmlaaRLay
namespace Go.Proofs.YtlpgkhdecccmlaaR
open Go.RowKit

end Go.Proofs.YtlpgkhdecccmlaaR
