/- Contracts of the laws' functions on words: szWord, toWord, eqWord. -/
import Derived.Test.YtcgbepmhfimbjaaGreatDoorSz
import Derived.Test.YtcgbepmhfimbjaaGreatDoorInts
import Derived.Lib.Hide
import Derived.Laws.MakeOwn
import Derived.Laws.Tables
import Derived.Deep.QuietTactic
import Derived.BigQuiet
import Derived.Lib.SmallJoins
namespace Go.Proofs.YtcgbepmhfimbjaaGreatDoor
open Go.RowKit

theorem szInt64S_any (n : Nat) (l : Int) (A : Option Addr) (C : Nat) (w : World) (hn : n ≤ 9223372036854775807) (h1 : -1 ≤ l) (h2 : l ≤ 1048576) :
    Calls Tryz.prog 140 #[.slice A n C, .int .i64 l] w fun e w' => e = .returned (.int .i64 (szR n l)) ∧ w = w' := by
  by_cases hx : l < n
  · have H := Lib.hid (szR_neg hx)
    have hz : l - n < 0 := by omega
    go_enter Tryz.func140, Tryz.ntmps140
    go_wp2_with fail
    go_ret
    exact ⟨ret_int H.out.symm, rfl⟩
  · have H := Lib.hid (szR_pos (n := n) (l := l) (by omega))
    have hz : ¬ l - n < 0 := by omega
    go_enter Tryz.func140, Tryz.ntmps140
    go_wp2_with fail
    go_ret
    exact ⟨ret_int H.out.symm, rfl⟩

/-- What a make of integers lays. -/
def zeroInts (n : Nat) : Array Value := madeCells (Value.int .i64 0).cells (n * 1)
theorem size_zeroInts (n : Nat) : (zeroInts n).size = n := by unfold zeroInts; rw [size_madeCells, Nat.mul_one]
theorem Tryz.infoI : (Tryz.prog.info? 2).map (fun i => (i.zero, i.size, i.bytes)) = some (some (.int .i64 0), 1, 8) := by kernel_rfl
theorem make_ints (n : Nat) (hn : n ≤ 1048576) (w : World) :
    (Instr.makeSlice 129 (.int .i64 (n : Int)) (.int .i64 (n : Int))).run Tryz.prog w = .ok (.slice (some ⟨w.heap.size, 0, none⟩) n n) (w.alloc (.cells (zeroInts n) 2)) := by
  obtain ⟨i, hi, hz, hs, hb⟩ := info_parts Tryz.infoI
  have h := run_make (P := Tryz.prog) w 129 2 i _ Tryz.underlying129 hi hz .i64 .i64 (n : Int) (n : Int) (by omega) (Int.le_refl _) (by rw [hb]; omega) (by omega)
  rw [hs] at h
  exact h

set_option maxHeartbeats 400000 in
theorem toInt64S_any (xs : List Int) (hm : xs.length ≤ 1048576) (A : Option Addr) (C : Nat) (w : World) (hl : Ints w xs A) :
      Calls Tryz.prog 141 #[.slice A xs.length C] w fun e w' => ∃ A', e = .returned (.slice A' xs.length xs.length) ∧ IntsIn w' xs w.heap.size w'.heap.size A' ∧ Below w.heap.size w w' := by
  have hmk := make_ints xs.length (by omega)
  go_enter Tryz.func141, Tryz.ntmps141
  go_wp2_with fail
  go_loopw [4] (fun i wr => ∃ j : Nat, j ≤ xs.length ∧ i = .int .i64 j ∧ IRow 2 xs w.heap.size wr j ∧ Below w.heap.size w wr) (fun i _ => xs.length - (intOf i).toNat)
  case atStart => exact ⟨0, Nat.zero_le _, rfl, irow_start (size_zeroInts _), (Below.refl _ _).alloc (Nat.le_refl _) _⟩
  case round =>
    clear hmk
    obtain ⟨j, hj, rfl, hR, hb⟩ := hrel
    by_cases hjl : j < xs.length
    · obtain ⟨b, o, rfl, hat⟩ := hl (by rintro rfl; simp at hjl)
      have c0 := kc hb (hat j hjl)
      obtain ⟨⟨v0, g0⟩, fz⟩ := hR.cell hjl
      have hR' := irow_step hR hjl
      have hb2 := hb.setCell (p := ⟨w.heap.size, j, none⟩) (Nat.le_refl _) (.int .i64 (nth xs j))
      clear hR
      have hat2 := Lib.hid hat; clear hat
      go_wp2_with fail
      go_roundw
      case rel => exact ⟨j + 1, by omega, by go_num, hR', hb2⟩
      case measure => simp [intOf]; omega
    · obtain rfl : j = xs.length := by omega
      go_wp2_with fail
      go_ret
      exact ⟨_, rfl, irow_end hR (Nat.le_refl _), hb⟩

set_option maxHeartbeats 1000000 in
theorem eqInt64S_any (xs ys : List Int) (hm : xs.length ≤ 9223372036854775807) (A A' : Option Addr) (C C' : Nat) (w : World) (hl : Ints w xs A) (hl' : Ints w ys A') :
      Calls Tryz.prog 152 #[.slice A xs.length C, .slice A' ys.length C'] w fun e w' => e = .returned (.bool (decide (xs = ys))) ∧ ∃ m, w' = w.drewN m := by
  by_cases hlen : xs.length = ys.length
  · have HL := Lib.hid hlen
    have tl : ((xs.length : Int) != (ys.length : Int)) = false := by simp [hlen]
    clear hlen
    have HD : Hid (decide (xs = ys) = sameFrom xs ys 0) := (sameFrom_zero xs ys).symm
    go_enter Tryz.func152, Tryz.ntmps152
    go_wp2_with fail
    go_loopw [5] (fun i wr => ∃ j m : Nat, j ≤ xs.length ∧ i = .int .i64 j ∧ Hid (decide (xs = ys) = sameFrom xs ys j) ∧ Hid (wr = w.drewN m)) (fun i _ => xs.length - (intOf i).toNat)
    case atStart => exact ⟨0, 0, Nat.zero_le _, rfl, HD, rfl⟩
    case round =>
      obtain ⟨j, m, hj, rfl, hq, hw⟩ := hrel
      by_cases hjl : j < xs.length
      · obtain ⟨b, o, rfl, hat⟩ := hl (by rintro rfl; simp at hjl)
        obtain ⟨b', o', rfl, hat'⟩ := hl' (fun h => by have := HL.out; rw [h] at this; simp only [List.length_nil] at this; omega)
        have c0 : wr.cell? ⟨b, o + j, none⟩ = some (.int .i64 (nth xs j)) := by rw [hw.out]; exact hat j hjl
        have d0 : wr.cell? ⟨b', o' + j, none⟩ = some (.int .i64 (nth ys j)) := by rw [hw.out]; exact hat' j (by rw [← HL.out]; exact hjl)
        have hat1 := Lib.hid hat; clear hat
        have hat2 := Lib.hid hat'; clear hat'
        have hst : Hid (decide (xs = ys) = (decide (nth xs j = nth ys j) && sameFrom xs ys (j + 1))) := by
          show _ = _
          rw [hq.out, sameFrom_step xs ys j hjl (by rw [← HL.out]; exact hjl)]
        have hj0 : (0 : Int) ≤ (j : Int) := Int.natCast_nonneg _
        have hj1 : (j : Int) < (xs.length : Int) := by omega
        have hj2 : (j : Int) < (ys.length : Int) := by have := HL.out; omega
        by_cases he : nth xs j = nth ys j
        · have te : (nth xs j != nth ys j) = false := by simp [he]
          have hq2 : Hid (decide (xs = ys) = sameFrom xs ys (j + 1)) := by show _ = _; rw [hst.out, decide_eq_true he]; rfl
          clear he hst hq
          go_wp2_with fail
          go_quiet (fail)
          have hw2 : Hid (wr.drewN nq = w.drewN (m + nq)) := by show _ = _; rw [hw.out]; simp
          go_wp2_with fail
          go_roundw
          case rel => exact ⟨j + 1, _, by omega, by go_num, hq2, hw2⟩
          case measure => simp [intOf]; omega
        · have te : (nth xs j != nth ys j) = true := by rw [bne_iff_ne]; exact he
          have hq2 : Hid (decide (xs = ys) = false) := by show _ = _; rw [hst.out, decide_eq_false he]; rfl
          clear he hst hq
          go_wp2_with fail
          go_quiet (fail)
          have hw2 : Hid (wr.drewN nq = w.drewN (m + nq)) := by show _ = _; rw [hw.out]; simp
          go_wp2_with fail
          go_ret
          exact ⟨ret_bool hq2.out.symm, _, hw2.out⟩
      · obtain rfl : j = xs.length := by omega
        have hq2 : Hid (decide (xs = ys) = true) := by show _ = _; rw [hq.out, sameFrom_end xs ys HL.out]
        clear hq
        go_wp2_with fail
        go_ret
        exact ⟨ret_bool hq2.out.symm, _, hw.out⟩
  · have tl : ((xs.length : Int) != (ys.length : Int)) = true := by rw [bne_iff_ne]; omega
    have HD : Hid (decide (xs = ys) = false) := decide_eq_false (fun h => hlen (by rw [h]))
    clear hlen
    go_enter Tryz.func152, Tryz.ntmps152
    go_wp2_with fail
    go_ret
    exact ⟨ret_bool HD.out.symm, 0, rfl⟩

end Go.Proofs.YtcgbepmhfimbjaaGreatDoor
