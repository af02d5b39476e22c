/- Copies of lists of lists, as the laws make them. -/
import Derived.Test.YtcgbepmhfimbjaaLay
namespace Go.Proofs.Ytcgbepmhfimbjaa
open Go.RowKit

def zeroBoolS (n : Nat) : Array Value := madeCells (Value.cells (.bool false)) (n * 1)
theorem size_zeroBoolS (n : Nat) : (zeroBoolS n).size = n := by unfold zeroBoolS; rw [size_madeCells, Nat.mul_one]
theorem Try.infoBoolS : (Try.prog.info? 4).map (fun i => (i.zero, i.size, i.bytes)) = some (some (.bool false), 1, 1) := by kernel_rfl
theorem make_BoolS (n : Nat) (hn : n ≤ 1048576) (w : World) :
    (Instr.makeSlice 104 (.int .i64 (n : Int)) (.int .i64 (n : Int))).run Try.prog w = .ok (.slice (some ⟨w.heap.size, 0, none⟩) n n) (w.alloc (.cells (zeroBoolS n) 4)) := by
  obtain ⟨i, hi, hz, hs, hb⟩ := info_parts Try.infoBoolS
  have h := run_make (P := Try.prog) w 104 4 i _ Try.underlying104 hi hz .i64 .i64 (n : Int) (n : Int) (by omega) (Int.le_refl _) (by rw [hb]; omega) (by omega)
  rw [hs] at h
  exact h

set_option maxHeartbeats 400000 in
theorem toBoolS_any (xs : List Bool) (hm : xs.length ≤ 1048576) (A : Option Addr) (C : Nat) (w : World) (hl : BoolsL 0 w xs A) :
      Calls Try.prog 138 #[.slice A xs.length C] w fun e w' => ∃ A', e = .returned (.slice A' xs.length xs.length) ∧ BoolsL w.heap.size w' xs A' ∧ Below w.heap.size w w' := by
  have hmk := make_BoolS xs.length (by omega)
  go_enter Try.func138, Try.ntmps138
  go_wp2_with fail
  go_loopw [4] (fun i wr => ∃ j : Nat, j ≤ xs.length ∧ i = .int .i64 j ∧ CRow 4 Value.bool xs w.heap.size wr j ∧ Below w.heap.size w wr) (fun i _ => xs.length - (intOf i).toNat)
  case atStart => exact ⟨0, Nat.zero_le _, rfl, crow_start (size_zeroBoolS _), (Below.refl _ _).alloc (Nat.le_refl _) _⟩
  case round =>
    clear hmk
    obtain ⟨j, hj, rfl, hR, hb⟩ := hrel
    by_cases hjl : j < xs.length
    · obtain ⟨b, o, _, rfl, hat⟩ := hl (by rintro rfl; simp at hjl)
      obtain ⟨x, hx⟩ : ∃ x, xs[j]? = some x := ⟨_, List.getElem?_eq_getElem hjl⟩
      have c0 := kc hb (hat j x hx)
      obtain ⟨⟨v0, g0⟩, fz⟩ := hR.cell hjl
      have hR' := hR.step hjl hx
      have hb2 := hb.setCell (p := ⟨w.heap.size, j, none⟩) (Nat.le_refl _) (.bool x)
      clear hR
      have hat2 := Lib.hid hat; clear hat
      have HX := Lib.hid hx; clear hx
      go_wp2_with fail
      go_roundw
      case rel => exact ⟨j + 1, by omega, by go_num, hR', hb2⟩
      case measure => simp [intOf]; omega
    · obtain rfl : j = xs.length := by omega
      go_wp2_with fail
      go_ret
      exact ⟨_, rfl, hR.done (Nat.le_refl _), hb⟩

def zeroBoolSS (n : Nat) : Array Value := madeCells (Value.cells (.slice none 0 0)) (n * 1)
theorem size_zeroBoolSS (n : Nat) : (zeroBoolSS n).size = n := by unfold zeroBoolSS; rw [size_madeCells, Nat.mul_one]
theorem Try.infoBoolSS : (Try.prog.info? 104).map (fun i => (i.zero, i.size, i.bytes)) = some (some (.slice none 0 0), 1, 24) := by kernel_rfl
theorem make_BoolSS (n : Nat) (hn : n ≤ 1048576) (w : World) :
    (Instr.makeSlice 24 (.int .i64 (n : Int)) (.int .i64 (n : Int))).run Try.prog w = .ok (.slice (some ⟨w.heap.size, 0, none⟩) n n) (w.alloc (.cells (zeroBoolSS n) 104)) := by
  obtain ⟨i, hi, hz, hs, hb⟩ := info_parts Try.infoBoolSS
  have h := run_make (P := Try.prog) w 24 104 i _ Try.underlying24 hi hz .i64 .i64 (n : Int) (n : Int) (by omega) (Int.le_refl _) (by rw [hb]; omega) (by omega)
  rw [hs] at h
  exact h

set_option maxHeartbeats 1000000 in
theorem toBoolSS_any (xs : List (List Bool)) (hm : xs.length ≤ 1048576) (hf : ∀ x ∈ xs, x.length ≤ 1048576) (A : Option Addr) (C : Nat) (w : World) (h : BB 0 w xs A) :
    Calls Try.prog 63 #[.slice A xs.length C] w fun e w' => ∃ A', e = .returned (.slice A' xs.length xs.length) ∧ BB w.heap.size w' xs A' ∧ Below w.heap.size w w' := by
  have hmk := make_BoolSS xs.length (by omega)
  have HH := Lib.hid h; have HF := Lib.hid hf
  clear h hf
  go_enter Try.func63, Try.ntmps63
  go_wp2_with fail
  go_loopw [4] (fun i wr => ∃ j : Nat, j ≤ xs.length ∧ i = .int .i64 j ∧ FRow 104 BoolsL List.length xs w.heap.size wr j ∧ Below w.heap.size w wr ∧ w.heap.size < wr.heap.size) (fun i _ => xs.length - (intOf i).toNat)
  case atStart => exact ⟨0, Nat.zero_le _, rfl, frow_start (size_zeroBoolSS _), (Below.refl _ _).alloc (Nat.le_refl _) _, by simp⟩
  case round =>
    clear hmk
    obtain ⟨j, hj, rfl, hR, hb, hlt⟩ := hrel
    by_cases hjl : j < xs.length
    · obtain ⟨b, o, _, rfl, hat⟩ := HH.out (by rintro rfl; simp at hjl)
      obtain ⟨B, D, c0', hQ⟩ := hat j xs[j] (List.getElem?_eq_getElem hjl)
      have hfx := HF.out xs[j] (List.getElem_mem hjl)
      obtain ⟨x, hx⟩ : ∃ x, x = xs[j] := ⟨_, rfl⟩
      rw [← hx] at c0' hQ hfx
      have c0 := kc hb c0'
      have hQ' := bools_ok.below hQ hb
      have K : Hid (Calls Try.prog 138 #[.slice B x.length D] wr fun e w' => ∃ A', e = .returned (.slice A' x.length x.length) ∧ BoolsL wr.heap.size w' x A' ∧ Below wr.heap.size wr w') := toBoolS_any x hfx B D wr hQ'
      have HA := Lib.hid hat; have HX := Lib.hid hx
      clear hat c0' hQ hQ' hx hfx
      have HR := Lib.hid hR; clear hR
      have j0 : (0 : Int) ≤ (j : Int) := Int.natCast_nonneg _
      have j1 : (j : Int) < (xs.length : Int) := by omega
      go_wp2_with fail
      refine K.out.mono ?_
      rintro e w1 ⟨A', rfl, hQ1, hb1⟩
      have hR1 := HR.out.below bools_ok hb1
      obtain ⟨⟨v0, g0⟩, fz⟩ := hR1.cell hjl
      have hR' := hR1.step bools_ok hjl (A := A') (lo := wr.heap.size) hlt (by rw [← HX.out]; exact hQ1)
      rw [← HX.out] at hR'
      have hb2 := (hb.trans (hb1.mono hb.size)).setCell (p := ⟨w.heap.size, j, none⟩) (Nat.le_refl _) (.slice A' x.length x.length)
      have hl2 : w.heap.size < w1.heap.size := Nat.lt_of_lt_of_le hlt hb1.size
      clear hR1 hQ1 hb1 hb
      go_wp2_with fail
      go_roundw
      case rel => exact ⟨j + 1, by omega, by go_num, hR', hb2, by simpa using hl2⟩
      case measure => simp [intOf]; omega
    · obtain rfl : j = xs.length := by omega
      go_wp2_with fail
      go_ret
      exact ⟨_, rfl, hR.done bools_ok (Nat.le_refl _), hb⟩

def zeroInt64SS (n : Nat) : Array Value := madeCells (Value.cells (.slice none 0 0)) (n * 1)
theorem size_zeroInt64SS (n : Nat) : (zeroInt64SS n).size = n := by unfold zeroInt64SS; rw [size_madeCells, Nat.mul_one]
theorem Try.infoInt64SS : (Try.prog.info? 41).map (fun i => (i.zero, i.size, i.bytes)) = some (some (.slice none 0 0), 1, 24) := by kernel_rfl
theorem make_Int64SS (n : Nat) (hn : n ≤ 1048576) (w : World) :
    (Instr.makeSlice 242 (.int .i64 (n : Int)) (.int .i64 (n : Int))).run Try.prog w = .ok (.slice (some ⟨w.heap.size, 0, none⟩) n n) (w.alloc (.cells (zeroInt64SS n) 41)) := by
  obtain ⟨i, hi, hz, hs, hb⟩ := info_parts Try.infoInt64SS
  have h := run_make (P := Try.prog) w 242 41 i _ Try.underlying242 hi hz .i64 .i64 (n : Int) (n : Int) (by omega) (Int.le_refl _) (by rw [hb]; omega) (by omega)
  rw [hs] at h
  exact h

set_option maxHeartbeats 1000000 in
theorem toInt64SS_any (xs : List (List Int)) (hm : xs.length ≤ 1048576) (hf : ∀ x ∈ xs, x.length ≤ 1048576) (A : Option Addr) (C : Nat) (w : World) (h : II 0 w xs A) :
    Calls Try.prog 185 #[.slice A xs.length C] w fun e w' => ∃ A', e = .returned (.slice A' xs.length xs.length) ∧ II w.heap.size w' xs A' ∧ Below w.heap.size w w' := by
  have hmk := make_Int64SS xs.length (by omega)
  have HH := Lib.hid h; have HF := Lib.hid hf
  clear h hf
  go_enter Try.func185, Try.ntmps185
  go_wp2_with fail
  go_loopw [4] (fun i wr => ∃ j : Nat, j ≤ xs.length ∧ i = .int .i64 j ∧ FRow 41 IntsL List.length xs w.heap.size wr j ∧ Below w.heap.size w wr ∧ w.heap.size < wr.heap.size) (fun i _ => xs.length - (intOf i).toNat)
  case atStart => exact ⟨0, Nat.zero_le _, rfl, frow_start (size_zeroInt64SS _), (Below.refl _ _).alloc (Nat.le_refl _) _, by simp⟩
  case round =>
    clear hmk
    obtain ⟨j, hj, rfl, hR, hb, hlt⟩ := hrel
    by_cases hjl : j < xs.length
    · obtain ⟨b, o, _, rfl, hat⟩ := HH.out (by rintro rfl; simp at hjl)
      obtain ⟨B, D, c0', hQ⟩ := hat j xs[j] (List.getElem?_eq_getElem hjl)
      have hfx := HF.out xs[j] (List.getElem_mem hjl)
      obtain ⟨x, hx⟩ : ∃ x, x = xs[j] := ⟨_, rfl⟩
      rw [← hx] at c0' hQ hfx
      have c0 := kc hb c0'
      have hQ' := ints_ok.below hQ hb
      have K : Hid (Calls Try.prog 79 #[.slice B x.length D] wr fun e w' => ∃ A', e = .returned (.slice A' x.length x.length) ∧ IntsL wr.heap.size w' x A' ∧ Below wr.heap.size wr w') := ((toInt64S_any x hfx B D wr (IntsL.ints hQ')).mono fun e w' ⟨A', he, hi, hb⟩ => ⟨A', he, IntsL.of_in hi, hb⟩)
      have HA := Lib.hid hat; have HX := Lib.hid hx
      clear hat c0' hQ hQ' hx hfx
      have HR := Lib.hid hR; clear hR
      have j0 : (0 : Int) ≤ (j : Int) := Int.natCast_nonneg _
      have j1 : (j : Int) < (xs.length : Int) := by omega
      go_wp2_with fail
      refine K.out.mono ?_
      rintro e w1 ⟨A', rfl, hQ1, hb1⟩
      have hR1 := HR.out.below ints_ok hb1
      obtain ⟨⟨v0, g0⟩, fz⟩ := hR1.cell hjl
      have hR' := hR1.step ints_ok hjl (A := A') (lo := wr.heap.size) hlt (by rw [← HX.out]; exact hQ1)
      rw [← HX.out] at hR'
      have hb2 := (hb.trans (hb1.mono hb.size)).setCell (p := ⟨w.heap.size, j, none⟩) (Nat.le_refl _) (.slice A' x.length x.length)
      have hl2 : w.heap.size < w1.heap.size := Nat.lt_of_lt_of_le hlt hb1.size
      clear hR1 hQ1 hb1 hb
      go_wp2_with fail
      go_roundw
      case rel => exact ⟨j + 1, by omega, by go_num, hR', hb2, by simpa using hl2⟩
      case measure => simp [intOf]; omega
    · obtain rfl : j = xs.length := by omega
      go_wp2_with fail
      go_ret
      exact ⟨_, rfl, hR.done ints_ok (Nat.le_refl _), hb⟩

def zeroInt64SSS (n : Nat) : Array Value := madeCells (Value.cells (.slice none 0 0)) (n * 1)
theorem size_zeroInt64SSS (n : Nat) : (zeroInt64SSS n).size = n := by unfold zeroInt64SSS; rw [size_madeCells, Nat.mul_one]
theorem Try.infoInt64SSS : (Try.prog.info? 242).map (fun i => (i.zero, i.size, i.bytes)) = some (some (.slice none 0 0), 1, 24) := by kernel_rfl
theorem make_Int64SSS (n : Nat) (hn : n ≤ 1048576) (w : World) :
    (Instr.makeSlice 69 (.int .i64 (n : Int)) (.int .i64 (n : Int))).run Try.prog w = .ok (.slice (some ⟨w.heap.size, 0, none⟩) n n) (w.alloc (.cells (zeroInt64SSS n) 242)) := by
  obtain ⟨i, hi, hz, hs, hb⟩ := info_parts Try.infoInt64SSS
  have h := run_make (P := Try.prog) w 69 242 i _ Try.underlying69 hi hz .i64 .i64 (n : Int) (n : Int) (by omega) (Int.le_refl _) (by rw [hb]; omega) (by omega)
  rw [hs] at h
  exact h

set_option maxHeartbeats 1000000 in
theorem toInt64SSS_any (xs : List (List (List Int))) (hm : xs.length ≤ 1048576) (hf : ∀ x ∈ xs, x.length ≤ 1048576 ∧ ∀ y ∈ x, y.length ≤ 1048576) (A : Option Addr) (C : Nat) (w : World) (h : III 0 w xs A) :
    Calls Try.prog 109 #[.slice A xs.length C] w fun e w' => ∃ A', e = .returned (.slice A' xs.length xs.length) ∧ III w.heap.size w' xs A' ∧ Below w.heap.size w w' := by
  have hmk := make_Int64SSS xs.length (by omega)
  have HH := Lib.hid h; have HF := Lib.hid hf
  clear h hf
  go_enter Try.func109, Try.ntmps109
  go_wp2_with fail
  go_loopw [4] (fun i wr => ∃ j : Nat, j ≤ xs.length ∧ i = .int .i64 j ∧ FRow 242 II List.length xs w.heap.size wr j ∧ Below w.heap.size w wr ∧ w.heap.size < wr.heap.size) (fun i _ => xs.length - (intOf i).toNat)
  case atStart => exact ⟨0, Nat.zero_le _, rfl, frow_start (size_zeroInt64SSS _), (Below.refl _ _).alloc (Nat.le_refl _) _, by simp⟩
  case round =>
    clear hmk
    obtain ⟨j, hj, rfl, hR, hb, hlt⟩ := hrel
    by_cases hjl : j < xs.length
    · obtain ⟨b, o, _, rfl, hat⟩ := HH.out (by rintro rfl; simp at hjl)
      obtain ⟨B, D, c0', hQ⟩ := hat j xs[j] (List.getElem?_eq_getElem hjl)
      have hfx := HF.out xs[j] (List.getElem_mem hjl)
      obtain ⟨x, hx⟩ : ∃ x, x = xs[j] := ⟨_, rfl⟩
      rw [← hx] at c0' hQ hfx
      have c0 := kc hb c0'
      have hQ' := ii_ok.below hQ hb
      have K : Hid (Calls Try.prog 185 #[.slice B x.length D] wr fun e w' => ∃ A', e = .returned (.slice A' x.length x.length) ∧ II wr.heap.size w' x A' ∧ Below wr.heap.size wr w') := toInt64SS_any x hfx.1 hfx.2 B D wr hQ'
      have HA := Lib.hid hat; have HX := Lib.hid hx
      clear hat c0' hQ hQ' hx hfx
      have HR := Lib.hid hR; clear hR
      have j0 : (0 : Int) ≤ (j : Int) := Int.natCast_nonneg _
      have j1 : (j : Int) < (xs.length : Int) := by omega
      go_wp2_with fail
      refine K.out.mono ?_
      rintro e w1 ⟨A', rfl, hQ1, hb1⟩
      have hR1 := HR.out.below ii_ok hb1
      obtain ⟨⟨v0, g0⟩, fz⟩ := hR1.cell hjl
      have hR' := hR1.step ii_ok hjl (A := A') (lo := wr.heap.size) hlt (by rw [← HX.out]; exact hQ1)
      rw [← HX.out] at hR'
      have hb2 := (hb.trans (hb1.mono hb.size)).setCell (p := ⟨w.heap.size, j, none⟩) (Nat.le_refl _) (.slice A' x.length x.length)
      have hl2 : w.heap.size < w1.heap.size := Nat.lt_of_lt_of_le hlt hb1.size
      clear hR1 hQ1 hb1 hb
      go_wp2_with fail
      go_roundw
      case rel => exact ⟨j + 1, by omega, by go_num, hR', hb2, by simpa using hl2⟩
      case measure => simp [intOf]; omega
    · obtain rfl : j = xs.length := by omega
      go_wp2_with fail
      go_ret
      exact ⟨_, rfl, hR.done ii_ok (Nat.le_refl _), hb⟩
end Go.Proofs.Ytcgbepmhfimbjaa
