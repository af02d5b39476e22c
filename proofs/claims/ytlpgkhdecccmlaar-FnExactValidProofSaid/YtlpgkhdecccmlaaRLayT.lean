/- Copies of lists of lists, as the laws make them. -/
import Derived.Test.YtlpgkhdecccmlaaRLay
namespace Go.Proofs.YtlpgkhdecccmlaaR
open Go.RowKit

def zeroBoolS (n : Nat) : Array Value := madeCells (Value.cells (.bool false)) (n * 1)
theorem size_zeroBoolS (n : Nat) : (zeroBoolS n).size = n := by unfold zeroBoolS; rw [size_madeCells, Nat.mul_one]
theorem Try.infoBoolS : (Try.prog.info? 4).map (fun i => (i.zero, i.size, i.bytes)) = some (some (.bool false), 1, 1) := by kernel_rfl
theorem make_BoolS (n : Nat) (hn : n ≤ 1048576) (w : World) :
    (Instr.makeSlice 46 (.int .i64 (n : Int)) (.int .i64 (n : Int))).run Try.prog w = .ok (.slice (some ⟨w.heap.size, 0, none⟩) n n) (w.alloc (.cells (zeroBoolS n) 4)) := by
  obtain ⟨i, hi, hz, hs, hb⟩ := info_parts Try.infoBoolS
  have h := run_make (P := Try.prog) w 46 4 i _ Try.underlying46 hi hz .i64 .i64 (n : Int) (n : Int) (by omega) (Int.le_refl _) (by rw [hb]; omega) (by omega)
  rw [hs] at h
  exact h

set_option maxHeartbeats 400000 in
theorem toBoolS_any (xs : List Bool) (hm : xs.length ≤ 1048576) (A : Option Addr) (C : Nat) (w : World) (hl : BoolsL 0 w xs A) :
      Calls Try.prog 27 #[.slice A xs.length C] w fun e w' => ∃ A', e = .returned (.slice A' xs.length xs.length) ∧ BoolsL w.heap.size w' xs A' ∧ Below w.heap.size w w' := by
  have hmk := make_BoolS xs.length (by omega)
  go_enter Try.func27, Try.ntmps27
  go_wp2_with fail
  go_loopw [4] (fun i wr => ∃ j : Nat, j ≤ xs.length ∧ i = .int .i64 j ∧ CRow 4 Value.bool xs w.heap.size wr j ∧ Below w.heap.size w wr) (fun i _ => xs.length - (intOf i).toNat)
  case atStart => exact ⟨0, Nat.zero_le _, rfl, crow_start (size_zeroBoolS _), (Below.refl _ _).alloc (Nat.le_refl _) _⟩
  case round =>
    clear hmk
    obtain ⟨j, hj, rfl, hR, hb⟩ := hrel
    by_cases hjl : j < xs.length
    · obtain ⟨b, o, _, rfl, hat⟩ := hl (by rintro rfl; simp at hjl)
      obtain ⟨x, hx⟩ : ∃ x, xs[j]? = some x := ⟨_, List.getElem?_eq_getElem hjl⟩
      have c0 := kc hb (hat j x hx)
      obtain ⟨⟨v0, g0⟩, fz⟩ := hR.cell hjl
      have hR' := hR.step hjl hx
      have hb2 := hb.setCell (p := ⟨w.heap.size, j, none⟩) (Nat.le_refl _) (.bool x)
      clear hR
      have hat2 := Lib.hid hat; clear hat
      have HX := Lib.hid hx; clear hx
      go_wp2_with fail
      go_roundw
      case rel => exact ⟨j + 1, by omega, by go_num, hR', hb2⟩
      case measure => simp [intOf]; omega
    · obtain rfl : j = xs.length := by omega
      go_wp2_with fail
      go_ret
      exact ⟨_, rfl, hR.done (Nat.le_refl _), hb⟩

def zeroBoolSS (n : Nat) : Array Value := madeCells (Value.cells (.slice none 0 0)) (n * 1)
theorem size_zeroBoolSS (n : Nat) : (zeroBoolSS n).size = n := by unfold zeroBoolSS; rw [size_madeCells, Nat.mul_one]
theorem Try.infoBoolSS : (Try.prog.info? 46).map (fun i => (i.zero, i.size, i.bytes)) = some (some (.slice none 0 0), 1, 24) := by kernel_rfl
def zeroInt64SS (n : Nat) : Array Value := madeCells (Value.cells (.slice none 0 0)) (n * 1)
theorem size_zeroInt64SS (n : Nat) : (zeroInt64SS n).size = n := by unfold zeroInt64SS; rw [size_madeCells, Nat.mul_one]
theorem Try.infoInt64SS : (Try.prog.info? 28).map (fun i => (i.zero, i.size, i.bytes)) = some (some (.slice none 0 0), 1, 24) := by kernel_rfl
def zeroInt64SSS (n : Nat) : Array Value := madeCells (Value.cells (.slice none 0 0)) (n * 1)
theorem size_zeroInt64SSS (n : Nat) : (zeroInt64SSS n).size = n := by unfold zeroInt64SSS; rw [size_madeCells, Nat.mul_one]
end Go.Proofs.YtlpgkhdecccmlaaR
