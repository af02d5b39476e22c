/- Lists of lists that are the same compare so. -/
import Derived.Test.YtcgbepmhfimbjaaLay
import Derived.Deep.RegionHeld3
namespace Go.Proofs.Ytcgbepmhfimbjaa
open Go.RowKit

theorem eqInt64S_same (xs : List Int) (hm : xs.length ≤ 9223372036854775807) (A A' : Option Addr) (C C' : Nat) (w : World) (hl : Ints w xs A) (hl' : Ints w xs A') :
    Calls Try.prog 84 #[.slice A xs.length C, .slice A' xs.length C'] w fun e w' => e = .returned (.bool true) ∧ Below w.heap.size w w' :=
  (eqInt64S_any xs xs hm A A' C C' w hl hl').mono fun e w' ⟨he, m, hw⟩ => ⟨by rw [he]; simp, by rw [hw]; exact ⟨rfl, rfl, rfl, Nat.le_refl _, fun _ _ => rfl⟩⟩

set_option maxHeartbeats 1000000 in
theorem eqBoolS_same (xs : List Bool) (hm : xs.length ≤ 9223372036854775807) (A A' : Option Addr) (C C' : Nat) (w : World) {lo lo' : Nat} (hl : BoolsL lo w xs A) (hl' : BoolsL lo' w xs A') :
    Calls Try.prog 143 #[.slice A xs.length C, .slice A' xs.length C'] w fun e w' => e = .returned (.bool true) ∧ Below w.heap.size w w' := by
  have tl : ((xs.length : Int) != (xs.length : Int)) = false := by simp
  go_enter Try.func143, Try.ntmps143
  go_wp2_with fail
  go_loopw [5] (fun i wr => ∃ j : Nat, j ≤ xs.length ∧ i = .int .i64 j ∧ Below w.heap.size w wr) (fun i _ => xs.length - (intOf i).toNat)
  case atStart => exact ⟨0, Nat.zero_le _, rfl, Below.refl _ _⟩
  case round =>
    obtain ⟨j, hj, rfl, hb⟩ := hrel
    by_cases hjl : j < xs.length
    · obtain ⟨b, o, _, rfl, hat⟩ := hl (by rintro rfl; simp at hjl)
      obtain ⟨b', o', _, rfl, hat'⟩ := hl' (by rintro rfl; simp at hjl)
      obtain ⟨x, hx⟩ : ∃ x, xs[j]? = some x := ⟨_, List.getElem?_eq_getElem hjl⟩
      have c0 := kc hb (hat j x hx)
      have d0 := kc hb (hat' j x hx)
      have te : (x != x) = false := by simp
      have HA := Lib.hid hat; have HA2 := Lib.hid hat'; have HX := Lib.hid hx
      clear hat hat' hx
      have j0 : (0 : Int) ≤ (j : Int) := Int.natCast_nonneg _
      have j1 : (j : Int) < (xs.length : Int) := by omega
      go_wp2_with fail
      go_quiet (fail)
      have hb2 : Below w.heap.size w (wr.drewN nq) := ⟨hb.os, hb.tape, hb.output, hb.size, hb.block⟩
      go_wp2_with fail
      go_roundw
      case rel => exact ⟨j + 1, by omega, by go_num, hb2⟩
      case measure => simp [intOf]; omega
    · obtain rfl : j = xs.length := by omega
      go_wp2_with fail
      go_ret
      exact ⟨rfl, hb⟩

set_option maxHeartbeats 1000000 in
theorem eqBoolSS_same (xs : List (List Bool)) (hm : xs.length ≤ 9223372036854775807) (hf : ∀ x ∈ xs, x.length ≤ 9223372036854775807) (A A' : Option Addr) (C C' : Nat) (w : World) {lo lo' : Nat} (h : BB lo w xs A) (h' : BB lo' w xs A') :
    Calls Try.prog 69 #[.slice A xs.length C, .slice A' xs.length C'] w fun e w' => e = .returned (.bool true) ∧ Below w.heap.size w w' := by
  have HH := Lib.hid h; have HH2 := Lib.hid h'; have HF := Lib.hid hf
  clear h h' hf
  have tl : ((xs.length : Int) != (xs.length : Int)) = false := by simp
  go_enter Try.func69, Try.ntmps69
  go_wp2_with fail
  go_loopw [5] (fun i wr => ∃ j : Nat, j ≤ xs.length ∧ i = .int .i64 j ∧ Below w.heap.size w wr) (fun i _ => xs.length - (intOf i).toNat)
  case atStart => exact ⟨0, Nat.zero_le _, rfl, Below.refl _ _⟩
  case round =>
    obtain ⟨j, hj, rfl, hb⟩ := hrel
    by_cases hjl : j < xs.length
    · obtain ⟨b, o, _, rfl, hat⟩ := HH.out (by rintro rfl; simp at hjl)
      obtain ⟨b', o', _, rfl, hat'⟩ := HH2.out (by rintro rfl; simp at hjl)
      obtain ⟨B, D, c0', hQ⟩ := hat j xs[j] (List.getElem?_eq_getElem hjl)
      obtain ⟨B', D', d0', hQ2⟩ := hat' j xs[j] (List.getElem?_eq_getElem hjl)
      have hfx := HF.out xs[j] (List.getElem_mem hjl)
      obtain ⟨x, hx⟩ : ∃ x, x = xs[j] := ⟨_, rfl⟩
      rw [← hx] at c0' d0' hQ hQ2 hfx
      have c0 := kc hb c0'
      have d0 := kc hb d0'
      have K : Hid (∀ W : World, Sees w W → Calls Try.prog 143 #[.slice B x.length D, .slice B' x.length D'] W fun e w' => e = .returned (.bool true) ∧ Below W.heap.size W w') := fun W h => eqBoolS_same x hfx B B' D D' W (bools_ok.below hQ h) (bools_ok.below hQ2 h)
      have HA := Lib.hid hat; have HA2 := Lib.hid hat'
      clear hat hat' c0' d0' hQ hQ2 hx hfx
      have j0 : (0 : Int) ≤ (j : Int) := Int.natCast_nonneg _
      have j1 : (j : Int) < (xs.length : Int) := by omega
      go_wp2_with fail
      go_region_held3 (fun w' => Sees w w' ∧ w'.cell? ⟨b, o + j, none⟩ = some (.slice B x.length D) ∧ w'.cell? ⟨b', o' + j, none⟩ = some (.slice B' x.length D')) (first | exact ⟨hb.drew, c0, d0⟩ | exact ⟨Sees.below hb.drew hb1, kc hb1 c0, kc hb1 d0⟩ | (go_keep; done))
        ((go_at_call 143; refine (K.out _ hb.drew).mono ?_; rintro e w1 ⟨rfl, hb1⟩))
      have hb2 : Below w.heap.size w w1 := Sees.below hb.drew hb1
      clear hb hb1 c0 d0
      go_wp2_with fail
      go_roundw
      case rel => exact ⟨j + 1, by omega, by go_num, hb2⟩
      case measure => simp [intOf]; omega
    · obtain rfl : j = xs.length := by omega
      go_wp2_with fail
      go_ret
      exact ⟨rfl, hb⟩

set_option maxHeartbeats 1000000 in
theorem eqInt64SS_same (xs : List (List Int)) (hm : xs.length ≤ 9223372036854775807) (hf : ∀ x ∈ xs, x.length ≤ 9223372036854775807) (A A' : Option Addr) (C C' : Nat) (w : World) {lo lo' : Nat} (h : II lo w xs A) (h' : II lo' w xs A') :
    Calls Try.prog 189 #[.slice A xs.length C, .slice A' xs.length C'] w fun e w' => e = .returned (.bool true) ∧ Below w.heap.size w w' := by
  have HH := Lib.hid h; have HH2 := Lib.hid h'; have HF := Lib.hid hf
  clear h h' hf
  have tl : ((xs.length : Int) != (xs.length : Int)) = false := by simp
  go_enter Try.func189, Try.ntmps189
  go_wp2_with fail
  go_loopw [5] (fun i wr => ∃ j : Nat, j ≤ xs.length ∧ i = .int .i64 j ∧ Below w.heap.size w wr) (fun i _ => xs.length - (intOf i).toNat)
  case atStart => exact ⟨0, Nat.zero_le _, rfl, Below.refl _ _⟩
  case round =>
    obtain ⟨j, hj, rfl, hb⟩ := hrel
    by_cases hjl : j < xs.length
    · obtain ⟨b, o, _, rfl, hat⟩ := HH.out (by rintro rfl; simp at hjl)
      obtain ⟨b', o', _, rfl, hat'⟩ := HH2.out (by rintro rfl; simp at hjl)
      obtain ⟨B, D, c0', hQ⟩ := hat j xs[j] (List.getElem?_eq_getElem hjl)
      obtain ⟨B', D', d0', hQ2⟩ := hat' j xs[j] (List.getElem?_eq_getElem hjl)
      have hfx := HF.out xs[j] (List.getElem_mem hjl)
      obtain ⟨x, hx⟩ : ∃ x, x = xs[j] := ⟨_, rfl⟩
      rw [← hx] at c0' d0' hQ hQ2 hfx
      have c0 := kc hb c0'
      have d0 := kc hb d0'
      have K : Hid (∀ W : World, Sees w W → Calls Try.prog 84 #[.slice B x.length D, .slice B' x.length D'] W fun e w' => e = .returned (.bool true) ∧ Below W.heap.size W w') := fun W h => (eqInt64S_same x hfx B B' D D' W (IntsL.ints (ints_ok.below hQ h)) (IntsL.ints (ints_ok.below hQ2 h)))
      have HA := Lib.hid hat; have HA2 := Lib.hid hat'
      clear hat hat' c0' d0' hQ hQ2 hx hfx
      have j0 : (0 : Int) ≤ (j : Int) := Int.natCast_nonneg _
      have j1 : (j : Int) < (xs.length : Int) := by omega
      go_wp2_with fail
      go_region_held3 (fun w' => Sees w w' ∧ w'.cell? ⟨b, o + j, none⟩ = some (.slice B x.length D) ∧ w'.cell? ⟨b', o' + j, none⟩ = some (.slice B' x.length D')) (first | exact ⟨hb.drew, c0, d0⟩ | exact ⟨Sees.below hb.drew hb1, kc hb1 c0, kc hb1 d0⟩ | (go_keep; done))
        ((go_at_call 84; refine (K.out _ hb.drew).mono ?_; rintro e w1 ⟨rfl, hb1⟩))
      have hb2 : Below w.heap.size w w1 := Sees.below hb.drew hb1
      clear hb hb1 c0 d0
      go_wp2_with fail
      go_roundw
      case rel => exact ⟨j + 1, by omega, by go_num, hb2⟩
      case measure => simp [intOf]; omega
    · obtain rfl : j = xs.length := by omega
      go_wp2_with fail
      go_ret
      exact ⟨rfl, hb⟩

set_option maxHeartbeats 1000000 in
theorem eqInt64SSS_same (xs : List (List (List Int))) (hm : xs.length ≤ 9223372036854775807) (hf : ∀ x ∈ xs, x.length ≤ 9223372036854775807 ∧ ∀ y ∈ x, y.length ≤ 9223372036854775807) (A A' : Option Addr) (C C' : Nat) (w : World) {lo lo' : Nat} (h : III lo w xs A) (h' : III lo' w xs A') :
    Calls Try.prog 115 #[.slice A xs.length C, .slice A' xs.length C'] w fun e w' => e = .returned (.bool true) ∧ Below w.heap.size w w' := by
  have HH := Lib.hid h; have HH2 := Lib.hid h'; have HF := Lib.hid hf
  clear h h' hf
  have tl : ((xs.length : Int) != (xs.length : Int)) = false := by simp
  go_enter Try.func115, Try.ntmps115
  go_wp2_with fail
  go_loopw [5] (fun i wr => ∃ j : Nat, j ≤ xs.length ∧ i = .int .i64 j ∧ Below w.heap.size w wr) (fun i _ => xs.length - (intOf i).toNat)
  case atStart => exact ⟨0, Nat.zero_le _, rfl, Below.refl _ _⟩
  case round =>
    obtain ⟨j, hj, rfl, hb⟩ := hrel
    by_cases hjl : j < xs.length
    · obtain ⟨b, o, _, rfl, hat⟩ := HH.out (by rintro rfl; simp at hjl)
      obtain ⟨b', o', _, rfl, hat'⟩ := HH2.out (by rintro rfl; simp at hjl)
      obtain ⟨B, D, c0', hQ⟩ := hat j xs[j] (List.getElem?_eq_getElem hjl)
      obtain ⟨B', D', d0', hQ2⟩ := hat' j xs[j] (List.getElem?_eq_getElem hjl)
      have hfx := HF.out xs[j] (List.getElem_mem hjl)
      obtain ⟨x, hx⟩ : ∃ x, x = xs[j] := ⟨_, rfl⟩
      rw [← hx] at c0' d0' hQ hQ2 hfx
      have c0 := kc hb c0'
      have d0 := kc hb d0'
      have K : Hid (∀ W : World, Sees w W → Calls Try.prog 189 #[.slice B x.length D, .slice B' x.length D'] W fun e w' => e = .returned (.bool true) ∧ Below W.heap.size W w') := fun W h => eqInt64SS_same x hfx.1 hfx.2 B B' D D' W (ii_ok.below hQ h) (ii_ok.below hQ2 h)
      have HA := Lib.hid hat; have HA2 := Lib.hid hat'
      clear hat hat' c0' d0' hQ hQ2 hx hfx
      have j0 : (0 : Int) ≤ (j : Int) := Int.natCast_nonneg _
      have j1 : (j : Int) < (xs.length : Int) := by omega
      go_wp2_with fail
      go_region_held3 (fun w' => Sees w w' ∧ w'.cell? ⟨b, o + j, none⟩ = some (.slice B x.length D) ∧ w'.cell? ⟨b', o' + j, none⟩ = some (.slice B' x.length D')) (first | exact ⟨hb.drew, c0, d0⟩ | exact ⟨Sees.below hb.drew hb1, kc hb1 c0, kc hb1 d0⟩ | (go_keep; done))
        ((go_at_call 189; refine (K.out _ hb.drew).mono ?_; rintro e w1 ⟨rfl, hb1⟩))
      have hb2 : Below w.heap.size w w1 := Sees.below hb.drew hb1
      clear hb hb1 c0 d0
      go_wp2_with fail
      go_roundw
      case rel => exact ⟨j + 1, by omega, by go_num, hb2⟩
      case measure => simp [intOf]; omega
    · obtain rfl : j = xs.length := by omega
      go_wp2_with fail
      go_ret
      exact ⟨rfl, hb⟩
end Go.Proofs.Ytcgbepmhfimbjaa
