/- Lists of lists of lists of truth values: sizes, copies, comparisons. -/
import Derived.Test.YtlpgkhdecccmlaaRLayS
import Derived.Test.YtlpgkhdecccmlaaRLayT
import Derived.Test.YtlpgkhdecccmlaaRLayE
namespace Go.Proofs.YtlpgkhdecccmlaaR
open Go.RowKit

abbrev BBB := Rows3 BB List.length
theorem bbb_ok : LayOk BBB := rows_ok bb_ok _

def zeroBoolSSS (n : Nat) : Array Value := madeCells (Value.cells (.slice none 0 0)) (n * 1)
theorem size_zeroBoolSSS (n : Nat) : (zeroBoolSSS n).size = n := by unfold zeroBoolSSS; rw [size_madeCells, Nat.mul_one]
end Go.Proofs.YtlpgkhdecccmlaaR
