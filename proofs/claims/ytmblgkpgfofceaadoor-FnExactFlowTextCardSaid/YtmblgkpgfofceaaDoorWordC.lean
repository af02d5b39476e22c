/- Contracts of the laws' functions on words: szWord, toWord, eqWord. -/
import Derived.Test.YtmblgkpgfofceaaDoorSz
import Derived.Test.YtmblgkpgfofceaaDoorInts
import Derived.Lib.Hide
import Derived.Laws.MakeOwn
import Derived.Laws.Tables
import Derived.Deep.QuietTactic
import Derived.BigQuiet
import Derived.Lib.SmallJoins
namespace Go.Proofs.YtmblgkpgfofceaaDoor
open Go.RowKit

/-- What a make of integers lays. -/
def zeroInts (n : Nat) : Array Value := madeCells (Value.int .i64 0).cells (n * 1)
theorem size_zeroInts (n : Nat) : (zeroInts n).size = n := by unfold zeroInts; rw [size_madeCells, Nat.mul_one]
theorem Tryd.infoI : (Tryd.prog.info? 2).map (fun i => (i.zero, i.size, i.bytes)) = some (some (.int .i64 0), 1, 8) := by kernel_rfl
end Go.Proofs.YtmblgkpgfofceaaDoor
