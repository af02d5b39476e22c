/- Contracts of the laws' functions on words: szWord, toWord, eqWord. -/
import Derived.Test.YtcgbepmhfimbjaaDoorSz
import Derived.Test.YtcgbepmhfimbjaaDoorInts
import Derived.Lib.Hide
import Derived.Laws.MakeOwn
import Derived.Laws.Tables
import Derived.Deep.QuietTactic
import Derived.BigQuiet
import Derived.Lib.SmallJoins
namespace Go.Proofs.YtcgbepmhfimbjaaDoor
open Go.RowKit

/-- What a make of integers lays. -/
def zeroInts (n : Nat) : Array Value := madeCells (Value.int .i64 0).cells (n * 1)
theorem size_zeroInts (n : Nat) : (zeroInts n).size = n := by unfold zeroInts; rw [size_madeCells, Nat.mul_one]
theorem Tryd.infoI : (Tryd.prog.info? 2).map (fun i => (i.zero, i.size, i.bytes)) = some (some (.int .i64 0), 1, 8) := by kernel_rfl
theorem make_ints (n : Nat) (hn : n ≤ 1048576) (w : World) :
    (Instr.makeSlice 88 (.int .i64 (n : Int)) (.int .i64 (n : Int))).run Tryd.prog w = .ok (.slice (some ⟨w.heap.size, 0, none⟩) n n) (w.alloc (.cells (zeroInts n) 2)) := by
  obtain ⟨i, hi, hz, hs, hb⟩ := info_parts Tryd.infoI
  have h := run_make (P := Tryd.prog) w 88 2 i _ Tryd.underlying88 hi hz .i64 .i64 (n : Int) (n : Int) (by omega) (Int.le_refl _) (by rw [hb]; omega) (by omega)
  rw [hs] at h
  exact h

end Go.Proofs.YtcgbepmhfimbjaaDoor
