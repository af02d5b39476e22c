/- Lists that are compared: spec.l02SameRow, spec.l00Same, slices.Equal at bool and at int64. -/
import Derived.Test.YtlpgkhdecccmlaaRLayE
import Derived.Deep.RegionHeld3
namespace Go.Proofs.YtlpgkhdecccmlaaR
open Go.RowKit

section
variable {α : Type} [DecidableEq α]
def sameG (xs ys : List α) (i : Nat) : Bool := decide (xs.drop i = ys.drop i)
theorem sameG_zero (xs ys : List α) : decide (xs = ys) = sameG xs ys 0 := by simp [sameG]
theorem sameG_step (xs ys : List α) {i : Nat} (h1 : i < xs.length) (h2 : i < ys.length) : sameG xs ys i = (decide (xs[i] = ys[i]) && sameG xs ys (i + 1)) := by
  unfold sameG
  rw [List.drop_eq_getElem_cons h1, List.drop_eq_getElem_cons h2]
  rw [Bool.eq_iff_iff]
  simp only [decide_eq_true_eq, Bool.and_eq_true, List.cons.injEq]
theorem sameG_end (xs ys : List α) (h : xs.length = ys.length) : sameG xs ys xs.length = true := by simp [sameG, h]
end

set_option maxHeartbeats 1000000 in
theorem l00Same_any (xs ys : List Int) (hm : xs.length ≤ 9223372036854775807) (A A' : Option Addr) (C C' : Nat) (w : World) (hl : IntsL 0 w xs A) (hl' : IntsL 0 w ys A') :
    Calls Try.prog 189 #[.slice A xs.length C, .slice A' ys.length C'] w fun e w' => e = .returned (.bool (decide (xs = ys))) ∧ Below w.heap.size w w' := by
  by_cases hlen : xs.length = ys.length
  · have HL := Lib.hid hlen
    have tl : ((xs.length : Int) != (ys.length : Int)) = false := by simp [hlen]
    clear hlen
    have HD : Hid (decide (xs = ys) = sameG xs ys 0) := sameG_zero xs ys
    go_enter Try.func189, Try.ntmps189
    go_wp2_with fail
    go_loopw [5] (fun i wr => ∃ j : Nat, j ≤ xs.length ∧ i = .int .i64 j ∧ Hid (decide (xs = ys) = sameG xs ys j) ∧ Hid (Below w.heap.size w wr)) (fun i _ => xs.length - (intOf i).toNat)
    case atStart => exact ⟨0, Nat.zero_le _, rfl, HD, Below.refl _ _⟩
    case round =>
      obtain ⟨j, hj, rfl, hq, hw⟩ := hrel
      by_cases hjl : j < xs.length
      · obtain ⟨b, o, _, rfl, hat⟩ := hl (by rintro rfl; simp at hjl)
        obtain ⟨b', o', _, rfl, hat'⟩ := hl' (fun h => by have := HL.out; rw [h] at this; simp only [List.length_nil] at this; omega)
        have hjy : j < ys.length := by rw [← HL.out]; exact hjl
        have c0' := hat j xs[j] (List.getElem?_eq_getElem hjl)
        have d0' := hat' j ys[j] (List.getElem?_eq_getElem hjy)
        have hst0 := sameG_step xs ys hjl hjy
        obtain ⟨x, hx⟩ : ∃ x, x = xs[j] := ⟨_, rfl⟩
        obtain ⟨y, hy⟩ : ∃ y, y = ys[j] := ⟨_, rfl⟩
        rw [← hx] at c0' hst0
        rw [← hy] at d0' hst0
        have c0 := kc hw.out c0'
        have d0 := kc hw.out d0'
        have HA := Lib.hid hat; have HA2 := Lib.hid hat'
        have hst : Hid (decide (xs = ys) = (decide (x = y) && sameG xs ys (j + 1))) := hq.out.trans hst0
        clear hat hat' hst0 c0' d0' hx hy
        have hj0 : (0 : Int) ≤ (j : Int) := Int.natCast_nonneg _
        have hj1 : (j : Int) < (xs.length : Int) := by omega
        have hj2 : (j : Int) < (ys.length : Int) := by omega
        by_cases he : x = y
        · skip
          have te : (x != y) = false := by simp [he]
          have hq2 : Hid (decide (xs = ys) = sameG xs ys (j + 1)) := by show _ = _; rw [hst.out, decide_eq_true he]; rfl
          clear he hst hq
          go_wp2_with fail
          go_quiet (fail)
          have hw2 : Hid (Below w.heap.size w (wr.drewN nq)) := ⟨hw.out.os, hw.out.tape, hw.out.output, hw.out.size, hw.out.block⟩
          go_wp2_with fail
          go_roundw
          case rel => exact ⟨j + 1, by omega, by go_num, hq2, hw2⟩
          case measure => simp [intOf]; omega
        · have hq2 : Hid (decide (xs = ys) = false) := by show _ = _; rw [hst.out, decide_eq_false he]; rfl
          have te : (x != y) = true := by rw [bne_iff_ne]; exact he
          clear he hst hq
          go_wp2_with fail
          go_quiet (fail)
          have hw2 : Hid (Below w.heap.size w (wr.drewN nq)) := ⟨hw.out.os, hw.out.tape, hw.out.output, hw.out.size, hw.out.block⟩
          go_wp2_with fail
          go_ret
          exact ⟨ret_bool hq2.out.symm, hw2.out⟩
      · obtain rfl : j = xs.length := by omega
        have hq2 : Hid (decide (xs = ys) = true) := by show _ = _; rw [hq.out, sameG_end xs ys HL.out]
        clear hq
        go_wp2_with fail
        go_ret
        exact ⟨ret_bool hq2.out.symm, hw.out⟩
  · have tl : ((xs.length : Int) != (ys.length : Int)) = true := by rw [bne_iff_ne]; omega
    have HD : Hid (decide (xs = ys) = false) := decide_eq_false (fun h => hlen (by rw [h]))
    clear hlen
    go_enter Try.func189, Try.ntmps189
    go_wp2_with fail
    go_ret
    exact ⟨ret_bool HD.out.symm, Below.refl _ _⟩

set_option maxHeartbeats 1000000 in
theorem equalInts_any (xs ys : List Int) (hm : xs.length ≤ 9223372036854775807) (A A' : Option Addr) (C C' : Nat) (w : World) (hl : IntsL 0 w xs A) (hl' : IntsL 0 w ys A') :
    Calls Try.prog 193 #[.slice A xs.length C, .slice A' ys.length C'] w fun e w' => e = .returned (.bool (decide (xs = ys))) ∧ Below w.heap.size w w' := by
  by_cases hlen : xs.length = ys.length
  · have HL := Lib.hid hlen
    have tl : ((xs.length : Int) != (ys.length : Int)) = false := by simp [hlen]
    clear hlen
    have HD : Hid (decide (xs = ys) = sameG xs ys 0) := sameG_zero xs ys
    go_enter Try.func193, Try.ntmps193
    go_wp2_with fail
    go_loopw [13] (fun i wr => ∃ j : Nat, j ≤ xs.length ∧ i = .int .i64 j ∧ Hid (decide (xs = ys) = sameG xs ys j) ∧ Hid (Below w.heap.size w wr)) (fun i _ => xs.length - (intOf i).toNat)
    case atStart => exact ⟨0, Nat.zero_le _, rfl, HD, Below.refl _ _⟩
    case round =>
      obtain ⟨j, hj, rfl, hq, hw⟩ := hrel
      by_cases hjl : j < xs.length
      · obtain ⟨b, o, _, rfl, hat⟩ := hl (by rintro rfl; simp at hjl)
        obtain ⟨b', o', _, rfl, hat'⟩ := hl' (fun h => by have := HL.out; rw [h] at this; simp only [List.length_nil] at this; omega)
        have hjy : j < ys.length := by rw [← HL.out]; exact hjl
        have c0' := hat j xs[j] (List.getElem?_eq_getElem hjl)
        have d0' := hat' j ys[j] (List.getElem?_eq_getElem hjy)
        have hst0 := sameG_step xs ys hjl hjy
        obtain ⟨x, hx⟩ : ∃ x, x = xs[j] := ⟨_, rfl⟩
        obtain ⟨y, hy⟩ : ∃ y, y = ys[j] := ⟨_, rfl⟩
        rw [← hx] at c0' hst0
        rw [← hy] at d0' hst0
        have c0 := kc hw.out c0'
        have d0 := kc hw.out d0'
        have HA := Lib.hid hat; have HA2 := Lib.hid hat'
        have hst : Hid (decide (xs = ys) = (decide (x = y) && sameG xs ys (j + 1))) := hq.out.trans hst0
        clear hat hat' hst0 c0' d0' hx hy
        have hj0 : (0 : Int) ≤ (j : Int) := Int.natCast_nonneg _
        have hj1 : (j : Int) < (xs.length : Int) := by omega
        have hj2 : (j : Int) < (ys.length : Int) := by omega
        by_cases he : x = y
        · skip
          have te : (x != y) = false := by simp [he]
          have hq2 : Hid (decide (xs = ys) = sameG xs ys (j + 1)) := by show _ = _; rw [hst.out, decide_eq_true he]; rfl
          clear he hst hq
          go_wp2_with fail
          go_quiet (fail)
          have hw2 : Hid (Below w.heap.size w (wr.drewN nq)) := ⟨hw.out.os, hw.out.tape, hw.out.output, hw.out.size, hw.out.block⟩
          go_wp2_with fail
          go_roundw
          case rel => exact ⟨j + 1, by omega, by go_num, hq2, hw2⟩
          case measure => simp [intOf]; omega
        · have hq2 : Hid (decide (xs = ys) = false) := by show _ = _; rw [hst.out, decide_eq_false he]; rfl
          have te : (x != y) = true := by rw [bne_iff_ne]; exact he
          clear he hst hq
          go_wp2_with fail
          go_quiet (fail)
          have hw2 : Hid (Below w.heap.size w (wr.drewN nq)) := ⟨hw.out.os, hw.out.tape, hw.out.output, hw.out.size, hw.out.block⟩
          go_wp2_with fail
          go_ret
          exact ⟨ret_bool hq2.out.symm, hw2.out⟩
      · obtain rfl : j = xs.length := by omega
        have hq2 : Hid (decide (xs = ys) = true) := by show _ = _; rw [hq.out, sameG_end xs ys HL.out]
        clear hq
        go_wp2_with fail
        go_ret
        exact ⟨ret_bool hq2.out.symm, hw.out⟩
  · have tl : ((xs.length : Int) != (ys.length : Int)) = true := by rw [bne_iff_ne]; omega
    have HD : Hid (decide (xs = ys) = false) := decide_eq_false (fun h => hlen (by rw [h]))
    clear hlen
    go_enter Try.func193, Try.ntmps193
    go_wp2_with fail
    go_ret
    exact ⟨ret_bool HD.out.symm, Below.refl _ _⟩

end Go.Proofs.YtlpgkhdecccmlaaR
