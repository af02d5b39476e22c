/- Copies of lists of lists, as the laws make them: in blocks of their own. -/
import Derived.Test.YtcgbepmhfimbjaaFpt
namespace Go.Proofs.Ytcgbepmhfimbjaa
open Go.RowKit

set_option maxHeartbeats 400000 in
theorem toBoolSF (xs : List Bool) (hm : xs.length ≤ 1048576) (A : Option Addr) (C : Nat) (w : World) (hl : BoolsL 0 w xs A) :
      Calls Try.prog 138 #[.slice A xs.length C] w fun e w' => ∃ A', e = .returned (.slice A' xs.length xs.length) ∧ BoolsF w' xs A' (rng w.heap.size w'.heap.size) ∧ Below w.heap.size w w' := by
  have hmk := make_BoolS xs.length (by omega)
  go_enter Try.func138, Try.ntmps138
  go_wp2_with fail
  go_loopw [4] (fun i wr => ∃ j : Nat, j ≤ xs.length ∧ i = .int .i64 j ∧ CRow 4 Value.bool xs w.heap.size wr j ∧ Below w.heap.size w wr) (fun i _ => xs.length - (intOf i).toNat)
  case atStart => exact ⟨0, Nat.zero_le _, rfl, crow_start (size_zeroBoolS _), (Below.refl _ _).alloc (Nat.le_refl _) _⟩
  case round =>
    clear hmk
    obtain ⟨j, hj, rfl, hR, hb⟩ := hrel
    by_cases hjl : j < xs.length
    · obtain ⟨b, o, _, rfl, hat⟩ := hl (by rintro rfl; simp at hjl)
      obtain ⟨x, hx⟩ : ∃ x, xs[j]? = some x := ⟨_, List.getElem?_eq_getElem hjl⟩
      have c0 := kc hb (hat j x hx)
      obtain ⟨⟨v0, g0⟩, fz⟩ := hR.cell hjl
      have hR' := hR.step hjl hx
      have hb2 := hb.setCell (p := ⟨w.heap.size, j, none⟩) (Nat.le_refl _) (.bool x)
      clear hR
      have hat2 := Lib.hid hat; clear hat
      have HX := Lib.hid hx; clear hx
      go_wp2_with fail
      go_roundw
      case rel => exact ⟨j + 1, by omega, by go_num, hR', hb2⟩
      case measure => simp [intOf]; omega
    · obtain rfl : j = xs.length := by omega
      go_wp2_with fail
      go_ret
      exact ⟨_, rfl, hR.doneF (Nat.le_refl _) (Nat.le_refl _), hb⟩

set_option maxHeartbeats 1000000 in
theorem toBoolSSF (xs : List (List Bool)) (hm : xs.length ≤ 1048576) (hf : ∀ x ∈ xs, x.length ≤ 1048576) (A : Option Addr) (C : Nat) (w : World) (h : BB 0 w xs A) :
    Calls Try.prog 63 #[.slice A xs.length C] w fun e w' => ∃ A', e = .returned (.slice A' xs.length xs.length) ∧ BBF w' xs A' (rng w.heap.size w'.heap.size) ∧ Below w.heap.size w w' := by
  have hmk := make_BoolSS xs.length (by omega)
  have HH := Lib.hid h; have HF := Lib.hid hf
  clear h hf
  go_enter Try.func63, Try.ntmps63
  go_wp2_with fail
  go_loopw [4] (fun i wr => ∃ j : Nat, j ≤ xs.length ∧ i = .int .i64 j ∧ FRowF 104 BoolsF List.length xs w.heap.size wr j ∧ Below w.heap.size w wr ∧ w.heap.size < wr.heap.size) (fun i _ => xs.length - (intOf i).toNat)
  case atStart => exact ⟨0, Nat.zero_le _, rfl, frowF_start (size_zeroBoolSS _), (Below.refl _ _).alloc (Nat.le_refl _) _, by simp⟩
  case round =>
    clear hmk
    obtain ⟨j, hj, rfl, hR, hb, hlt⟩ := hrel
    by_cases hjl : j < xs.length
    · obtain ⟨b, o, _, rfl, hat⟩ := HH.out (by rintro rfl; simp at hjl)
      obtain ⟨B, D, c0', hQ⟩ := hat j xs[j] (List.getElem?_eq_getElem hjl)
      have hfx := HF.out xs[j] (List.getElem_mem hjl)
      obtain ⟨x, hx⟩ : ∃ x, x = xs[j] := ⟨_, rfl⟩
      rw [← hx] at c0' hQ hfx
      have c0 := kc hb c0'
      have hQ' := bools_ok.below hQ hb
      have K : Hid (Calls Try.prog 138 #[.slice B x.length D] wr fun e w' => ∃ A', e = .returned (.slice A' x.length x.length) ∧ BoolsF w' x A' (rng wr.heap.size w'.heap.size) ∧ Below wr.heap.size wr w') := toBoolSF x hfx B D wr hQ'
      have HA := Lib.hid hat; have HX := Lib.hid hx
      clear hat c0' hQ hQ' hx hfx
      have HR := Lib.hid hR; clear hR
      have j0 : (0 : Int) ≤ (j : Int) := Int.natCast_nonneg _
      have j1 : (j : Int) < (xs.length : Int) := by omega
      go_wp2_with fail
      refine K.out.mono ?_
      rintro e w1 ⟨A', rfl, hQ1, hb1⟩
      have hR1 := HR.out.below boolsF_ok hb1
      obtain ⟨⟨v0, g0⟩, fz⟩ := hR1.cell hjl
      have hR' := HR.out.add boolsF_ok hb1 hjl hlt (A := A') (by rw [← HX.out]; exact hQ1)
      rw [← HX.out] at hR'
      have hb2 := (hb.trans (hb1.mono hb.size)).setCell (p := ⟨w.heap.size, j, none⟩) (Nat.le_refl _) (.slice A' x.length x.length)
      have hl2 : w.heap.size < w1.heap.size := Nat.lt_of_lt_of_le hlt hb1.size
      clear hR1 hQ1 hb1 hb
      go_wp2_with fail
      go_roundw
      case rel => exact ⟨j + 1, by omega, by go_num, hR', hb2, by simpa using hl2⟩
      case measure => simp [intOf]; omega
    · obtain rfl : j = xs.length := by omega
      go_wp2_with fail
      go_ret
      exact ⟨_, rfl, hR.done (Nat.le_refl _) (Nat.le_refl _), hb⟩

set_option maxHeartbeats 1000000 in
theorem toInt64SSF (xs : List (List Int)) (hm : xs.length ≤ 1048576) (hf : ∀ x ∈ xs, x.length ≤ 1048576) (A : Option Addr) (C : Nat) (w : World) (h : II 0 w xs A) :
    Calls Try.prog 185 #[.slice A xs.length C] w fun e w' => ∃ A', e = .returned (.slice A' xs.length xs.length) ∧ IIF w' xs A' (rng w.heap.size w'.heap.size) ∧ Below w.heap.size w w' := by
  have hmk := make_Int64SS xs.length (by omega)
  have HH := Lib.hid h; have HF := Lib.hid hf
  clear h hf
  go_enter Try.func185, Try.ntmps185
  go_wp2_with fail
  go_loopw [4] (fun i wr => ∃ j : Nat, j ≤ xs.length ∧ i = .int .i64 j ∧ FRowF 41 IntsF List.length xs w.heap.size wr j ∧ Below w.heap.size w wr ∧ w.heap.size < wr.heap.size) (fun i _ => xs.length - (intOf i).toNat)
  case atStart => exact ⟨0, Nat.zero_le _, rfl, frowF_start (size_zeroInt64SS _), (Below.refl _ _).alloc (Nat.le_refl _) _, by simp⟩
  case round =>
    clear hmk
    obtain ⟨j, hj, rfl, hR, hb, hlt⟩ := hrel
    by_cases hjl : j < xs.length
    · obtain ⟨b, o, _, rfl, hat⟩ := HH.out (by rintro rfl; simp at hjl)
      obtain ⟨B, D, c0', hQ⟩ := hat j xs[j] (List.getElem?_eq_getElem hjl)
      have hfx := HF.out xs[j] (List.getElem_mem hjl)
      obtain ⟨x, hx⟩ : ∃ x, x = xs[j] := ⟨_, rfl⟩
      rw [← hx] at c0' hQ hfx
      have c0 := kc hb c0'
      have hQ' := ints_ok.below hQ hb
      have K : Hid (Calls Try.prog 79 #[.slice B x.length D] wr fun e w' => ∃ A', e = .returned (.slice A' x.length x.length) ∧ IntsF w' x A' (rng wr.heap.size w'.heap.size) ∧ Below wr.heap.size wr w') := ((toInt64S_any x hfx B D wr (IntsL.ints hQ')).mono fun e w' ⟨A', he, hi, hb⟩ => ⟨A', he, IntsF.of_in hi, hb⟩)
      have HA := Lib.hid hat; have HX := Lib.hid hx
      clear hat c0' hQ hQ' hx hfx
      have HR := Lib.hid hR; clear hR
      have j0 : (0 : Int) ≤ (j : Int) := Int.natCast_nonneg _
      have j1 : (j : Int) < (xs.length : Int) := by omega
      go_wp2_with fail
      refine K.out.mono ?_
      rintro e w1 ⟨A', rfl, hQ1, hb1⟩
      have hR1 := HR.out.below intsF_ok hb1
      obtain ⟨⟨v0, g0⟩, fz⟩ := hR1.cell hjl
      have hR' := HR.out.add intsF_ok hb1 hjl hlt (A := A') (by rw [← HX.out]; exact hQ1)
      rw [← HX.out] at hR'
      have hb2 := (hb.trans (hb1.mono hb.size)).setCell (p := ⟨w.heap.size, j, none⟩) (Nat.le_refl _) (.slice A' x.length x.length)
      have hl2 : w.heap.size < w1.heap.size := Nat.lt_of_lt_of_le hlt hb1.size
      clear hR1 hQ1 hb1 hb
      go_wp2_with fail
      go_roundw
      case rel => exact ⟨j + 1, by omega, by go_num, hR', hb2, by simpa using hl2⟩
      case measure => simp [intOf]; omega
    · obtain rfl : j = xs.length := by omega
      go_wp2_with fail
      go_ret
      exact ⟨_, rfl, hR.done (Nat.le_refl _) (Nat.le_refl _), hb⟩

set_option maxHeartbeats 1000000 in
theorem toBoolSSSF (xs : List (List (List Bool))) (hm : xs.length ≤ 1048576) (hf : ∀ x ∈ xs, x.length ≤ 1048576 ∧ ∀ y ∈ x, y.length ≤ 1048576) (A : Option Addr) (C : Nat) (w : World) (h : BBB 0 w xs A) :
    Calls Try.prog 64 #[.slice A xs.length C] w fun e w' => ∃ A', e = .returned (.slice A' xs.length xs.length) ∧ BBBF w' xs A' (rng w.heap.size w'.heap.size) ∧ Below w.heap.size w w' := by
  have hmk := make_BoolSSS xs.length (by omega)
  have HH := Lib.hid h; have HF := Lib.hid hf
  clear h hf
  go_enter Try.func64, Try.ntmps64
  go_wp2_with fail
  go_loopw [4] (fun i wr => ∃ j : Nat, j ≤ xs.length ∧ i = .int .i64 j ∧ FRowF 24 BBF List.length xs w.heap.size wr j ∧ Below w.heap.size w wr ∧ w.heap.size < wr.heap.size) (fun i _ => xs.length - (intOf i).toNat)
  case atStart => exact ⟨0, Nat.zero_le _, rfl, frowF_start (size_zeroBoolSSS _), (Below.refl _ _).alloc (Nat.le_refl _) _, by simp⟩
  case round =>
    clear hmk
    obtain ⟨j, hj, rfl, hR, hb, hlt⟩ := hrel
    by_cases hjl : j < xs.length
    · obtain ⟨b, o, _, rfl, hat⟩ := HH.out (by rintro rfl; simp at hjl)
      obtain ⟨B, D, c0', hQ⟩ := hat j xs[j] (List.getElem?_eq_getElem hjl)
      have hfx := HF.out xs[j] (List.getElem_mem hjl)
      obtain ⟨x, hx⟩ : ∃ x, x = xs[j] := ⟨_, rfl⟩
      rw [← hx] at c0' hQ hfx
      have c0 := kc hb c0'
      have hQ' := bb_ok.below hQ hb
      have K : Hid (Calls Try.prog 63 #[.slice B x.length D] wr fun e w' => ∃ A', e = .returned (.slice A' x.length x.length) ∧ BBF w' x A' (rng wr.heap.size w'.heap.size) ∧ Below wr.heap.size wr w') := toBoolSSF x hfx.1 hfx.2 B D wr hQ'
      have HA := Lib.hid hat; have HX := Lib.hid hx
      clear hat c0' hQ hQ' hx hfx
      have HR := Lib.hid hR; clear hR
      have j0 : (0 : Int) ≤ (j : Int) := Int.natCast_nonneg _
      have j1 : (j : Int) < (xs.length : Int) := by omega
      go_wp2_with fail
      refine K.out.mono ?_
      rintro e w1 ⟨A', rfl, hQ1, hb1⟩
      have hR1 := HR.out.below bbF_ok hb1
      obtain ⟨⟨v0, g0⟩, fz⟩ := hR1.cell hjl
      have hR' := HR.out.add bbF_ok hb1 hjl hlt (A := A') (by rw [← HX.out]; exact hQ1)
      rw [← HX.out] at hR'
      have hb2 := (hb.trans (hb1.mono hb.size)).setCell (p := ⟨w.heap.size, j, none⟩) (Nat.le_refl _) (.slice A' x.length x.length)
      have hl2 : w.heap.size < w1.heap.size := Nat.lt_of_lt_of_le hlt hb1.size
      clear hR1 hQ1 hb1 hb
      go_wp2_with fail
      go_roundw
      case rel => exact ⟨j + 1, by omega, by go_num, hR', hb2, by simpa using hl2⟩
      case measure => simp [intOf]; omega
    · obtain rfl : j = xs.length := by omega
      go_wp2_with fail
      go_ret
      exact ⟨_, rfl, hR.done (Nat.le_refl _) (Nat.le_refl _), hb⟩

set_option maxHeartbeats 1000000 in
theorem toInt64SSSF (xs : List (List (List Int))) (hm : xs.length ≤ 1048576) (hf : ∀ x ∈ xs, x.length ≤ 1048576 ∧ ∀ y ∈ x, y.length ≤ 1048576) (A : Option Addr) (C : Nat) (w : World) (h : III 0 w xs A) :
    Calls Try.prog 109 #[.slice A xs.length C] w fun e w' => ∃ A', e = .returned (.slice A' xs.length xs.length) ∧ IIIF w' xs A' (rng w.heap.size w'.heap.size) ∧ Below w.heap.size w w' := by
  have hmk := make_Int64SSS xs.length (by omega)
  have HH := Lib.hid h; have HF := Lib.hid hf
  clear h hf
  go_enter Try.func109, Try.ntmps109
  go_wp2_with fail
  go_loopw [4] (fun i wr => ∃ j : Nat, j ≤ xs.length ∧ i = .int .i64 j ∧ FRowF 242 IIF List.length xs w.heap.size wr j ∧ Below w.heap.size w wr ∧ w.heap.size < wr.heap.size) (fun i _ => xs.length - (intOf i).toNat)
  case atStart => exact ⟨0, Nat.zero_le _, rfl, frowF_start (size_zeroInt64SSS _), (Below.refl _ _).alloc (Nat.le_refl _) _, by simp⟩
  case round =>
    clear hmk
    obtain ⟨j, hj, rfl, hR, hb, hlt⟩ := hrel
    by_cases hjl : j < xs.length
    · obtain ⟨b, o, _, rfl, hat⟩ := HH.out (by rintro rfl; simp at hjl)
      obtain ⟨B, D, c0', hQ⟩ := hat j xs[j] (List.getElem?_eq_getElem hjl)
      have hfx := HF.out xs[j] (List.getElem_mem hjl)
      obtain ⟨x, hx⟩ : ∃ x, x = xs[j] := ⟨_, rfl⟩
      rw [← hx] at c0' hQ hfx
      have c0 := kc hb c0'
      have hQ' := ii_ok.below hQ hb
      have K : Hid (Calls Try.prog 185 #[.slice B x.length D] wr fun e w' => ∃ A', e = .returned (.slice A' x.length x.length) ∧ IIF w' x A' (rng wr.heap.size w'.heap.size) ∧ Below wr.heap.size wr w') := toInt64SSF x hfx.1 hfx.2 B D wr hQ'
      have HA := Lib.hid hat; have HX := Lib.hid hx
      clear hat c0' hQ hQ' hx hfx
      have HR := Lib.hid hR; clear hR
      have j0 : (0 : Int) ≤ (j : Int) := Int.natCast_nonneg _
      have j1 : (j : Int) < (xs.length : Int) := by omega
      go_wp2_with fail
      refine K.out.mono ?_
      rintro e w1 ⟨A', rfl, hQ1, hb1⟩
      have hR1 := HR.out.below iiF_ok hb1
      obtain ⟨⟨v0, g0⟩, fz⟩ := hR1.cell hjl
      have hR' := HR.out.add iiF_ok hb1 hjl hlt (A := A') (by rw [← HX.out]; exact hQ1)
      rw [← HX.out] at hR'
      have hb2 := (hb.trans (hb1.mono hb.size)).setCell (p := ⟨w.heap.size, j, none⟩) (Nat.le_refl _) (.slice A' x.length x.length)
      have hl2 : w.heap.size < w1.heap.size := Nat.lt_of_lt_of_le hlt hb1.size
      clear hR1 hQ1 hb1 hb
      go_wp2_with fail
      go_roundw
      case rel => exact ⟨j + 1, by omega, by go_num, hR', hb2, by simpa using hl2⟩
      case measure => simp [intOf]; omega
    · obtain rfl : j = xs.length := by omega
      go_wp2_with fail
      go_ret
      exact ⟨_, rfl, hR.done (Nat.le_refl _) (Nat.le_refl _), hb⟩
end Go.Proofs.Ytcgbepmhfimbjaa
