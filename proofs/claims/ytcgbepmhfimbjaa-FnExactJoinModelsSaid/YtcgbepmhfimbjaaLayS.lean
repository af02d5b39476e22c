/- Sizes of lists of lists, as the laws reckon them. -/
import Derived.Test.YtcgbepmhfimbjaaLay
namespace Go.Proofs.Ytcgbepmhfimbjaa
open Go.RowKit

theorem szBoolS_any (n : Nat) (l : Int) (A : Option Addr) (C : Nat) (w : World) (hn : n ≤ 9223372036854775807) (h1 : -1 ≤ l) (h2 : l ≤ 1048576) :
    Calls Try.prog 136 #[.slice A n C, .int .i64 l] w fun e w' => e = .returned (.int .i64 (szR n l)) ∧ w = w' := by
  by_cases hx : l < n
  · have H := Lib.hid (szR_neg hx)
    have hz : l - n < 0 := by omega
    go_enter Try.func136, Try.ntmps136
    go_wp2_with fail
    go_ret
    exact ⟨ret_int H.out.symm, rfl⟩
  · have H := Lib.hid (szR_pos (n := n) (l := l) (by omega))
    have hz : ¬ l - n < 0 := by omega
    go_enter Try.func136, Try.ntmps136
    go_wp2_with fail
    go_ret
    exact ⟨ret_int H.out.symm, rfl⟩

set_option maxHeartbeats 1000000 in
theorem szBoolSS_any (xs : List (List Bool)) (hm : xs.length ≤ 9223372036854775807) (hf : ∀ x ∈ xs, x.length ≤ 9223372036854775807) (l : Int) (A : Option Addr) (C : Nat) (w : World) (h : BB 0 w xs A) (h1 : -1 ≤ l) (h2 : l ≤ 1048576) :
    Calls Try.prog 59 #[.slice A xs.length C, .int .i64 l] w fun e w' => e = .returned (.int .i64 (szR (tot List.length xs) l)) ∧ Below w.heap.size w w' := by
  by_cases hx : l < xs.length
  · have H := Lib.hid (szR_neg (n := tot List.length xs) (l := l) (by unfold tot; omega))
    have hz : l - xs.length < 0 := by omega
    go_enter Try.func59, Try.ntmps59
    go_wp2_with fail
    go_ret
    exact ⟨ret_int H.out.symm, Below.refl _ _⟩
  · have HI : Hid (szR (tot List.length xs) l = szR (rest List.length xs 0) (l - xs.length)) := by
      show _ = _
      rw [rest_zero]
      unfold szR tot
      split <;> split <;> omega
    have hz : ¬ l - xs.length < 0 := by omega
    have HH := Lib.hid h; have HF := Lib.hid hf
    clear h hf
    go_enter Try.func59, Try.ntmps59
    go_wp2_with fail
    go_loopw [1, 5] (fun s i wr => ∃ (j : Nat) (q : Int), j ≤ xs.length ∧ i = .int .i64 j ∧ s = .int .i64 q ∧ 0 ≤ q ∧ q ≤ 1048576 ∧ Hid (szR (tot List.length xs) l = szR (rest List.length xs j) q) ∧ Below w.heap.size w wr) (fun _ i _ => xs.length - (intOf i).toNat)
    case atStart => exact ⟨0, _, Nat.zero_le _, rfl, rfl, by omega, by omega, HI, Below.refl _ _⟩
    case round =>
      obtain ⟨j, q, hj, rfl, rfl, q0, q1, hq, hb⟩ := hrel
      clear hz hx HI
      by_cases hjl : j < xs.length
      · obtain ⟨b, o, _, rfl, hat⟩ := HH.out (by rintro rfl; simp at hjl)
        obtain ⟨B, D, c0', hQ⟩ := hat j xs[j] (List.getElem?_eq_getElem hjl)
        have hstep := rest_step List.length xs hjl
        have hfx := HF.out xs[j] (List.getElem_mem hjl)
        obtain ⟨x, hx⟩ : ∃ x, x = xs[j] := ⟨_, rfl⟩
        rw [← hx] at c0' hQ hstep hfx
        have c0 := kc hb c0'
        have hQ' := bools_ok.below hQ (hb.mono (Nat.le_refl _))
        obtain ⟨z, hz⟩ : ∃ z : Int, Hid (z = szR (List.length x) q) := ⟨_, rfl⟩
        have K : Hid (Calls Try.prog 136 #[.slice B x.length D, .int .i64 q] wr fun e w' => e = .returned (.int .i64 z) ∧ Below wr.heap.size wr w') := by
          show Calls _ _ _ _ _
          rw [hz.out]
          exact ((szBoolS_any x.length q B D wr (hfx) (by omega) q1).mono fun e w' h => ⟨h.1, by rw [← h.2]; exact Below.refl _ _⟩)
        have HA := Lib.hid hat
        clear hat c0' hQ hQ' hx hfx
        by_cases hs : q < List.length x
        · have hzz : z < 0 := by rw [hz.out, szR_neg hs]; omega
          have hz1 : Hid (z = -1) := by show _ = _; rw [hz.out, szR_neg hs]
          have hr : Hid (szR (tot List.length xs) l = -1) := by show _ = _; rw [hq.out, szR_neg (by omega)]
          clear hz hs hstep hq
          go_wp2_with fail
          refine K.out.mono ?_
          rintro e w1 ⟨rfl, hb1⟩
          have hb2 := hb.trans (hb1.mono hb.size)
          go_wp2_with fail
          go_ret
          exact ⟨ret_int hr.out.symm, hb2⟩
        · have hzv : z = q - (List.length x : Nat) := by rw [hz.out, szR_pos (by omega)]
          have hzz : ¬ z < 0 := by omega
          have hz0 : 0 ≤ z := by omega
          have hz1 : z ≤ 1048576 := by omega
          have hr : Hid (szR (tot List.length xs) l = szR (rest List.length xs (j + 1)) z) := by
            show _ = _
            rw [hq.out, hstep]
            unfold szR
            split <;> split <;> omega
          clear hzv
          clear hz hs hstep hq
          go_wp2_with fail
          refine K.out.mono ?_
          rintro e w1 ⟨rfl, hb1⟩
          have hb2 := hb.trans (hb1.mono hb.size)
          go_wp2_with fail
          go_roundw
          case rel => exact ⟨j + 1, z, by omega, by go_num, rfl, hz0, hz1, hr, hb2⟩
          case measure => simp [intOf]; omega
      · obtain rfl : j = xs.length := by omega
        have hr : Hid (szR (tot List.length xs) l = q) := by
          show _ = _
          rw [hq.out, rest_end, szR_pos (by omega)]
          omega
        clear hq
        go_wp2_with fail
        go_ret
        exact ⟨ret_int hr.out.symm, hb⟩

set_option maxHeartbeats 1000000 in
theorem szInt64SS_any (xs : List (List Int)) (hm : xs.length ≤ 9223372036854775807) (hf : ∀ x ∈ xs, x.length ≤ 9223372036854775807) (l : Int) (A : Option Addr) (C : Nat) (w : World) (h : II 0 w xs A) (h1 : -1 ≤ l) (h2 : l ≤ 1048576) :
    Calls Try.prog 181 #[.slice A xs.length C, .int .i64 l] w fun e w' => e = .returned (.int .i64 (szR (tot List.length xs) l)) ∧ Below w.heap.size w w' := by
  by_cases hx : l < xs.length
  · have H := Lib.hid (szR_neg (n := tot List.length xs) (l := l) (by unfold tot; omega))
    have hz : l - xs.length < 0 := by omega
    go_enter Try.func181, Try.ntmps181
    go_wp2_with fail
    go_ret
    exact ⟨ret_int H.out.symm, Below.refl _ _⟩
  · have HI : Hid (szR (tot List.length xs) l = szR (rest List.length xs 0) (l - xs.length)) := by
      show _ = _
      rw [rest_zero]
      unfold szR tot
      split <;> split <;> omega
    have hz : ¬ l - xs.length < 0 := by omega
    have HH := Lib.hid h; have HF := Lib.hid hf
    clear h hf
    go_enter Try.func181, Try.ntmps181
    go_wp2_with fail
    go_loopw [1, 5] (fun s i wr => ∃ (j : Nat) (q : Int), j ≤ xs.length ∧ i = .int .i64 j ∧ s = .int .i64 q ∧ 0 ≤ q ∧ q ≤ 1048576 ∧ Hid (szR (tot List.length xs) l = szR (rest List.length xs j) q) ∧ Below w.heap.size w wr) (fun _ i _ => xs.length - (intOf i).toNat)
    case atStart => exact ⟨0, _, Nat.zero_le _, rfl, rfl, by omega, by omega, HI, Below.refl _ _⟩
    case round =>
      obtain ⟨j, q, hj, rfl, rfl, q0, q1, hq, hb⟩ := hrel
      clear hz hx HI
      by_cases hjl : j < xs.length
      · obtain ⟨b, o, _, rfl, hat⟩ := HH.out (by rintro rfl; simp at hjl)
        obtain ⟨B, D, c0', hQ⟩ := hat j xs[j] (List.getElem?_eq_getElem hjl)
        have hstep := rest_step List.length xs hjl
        have hfx := HF.out xs[j] (List.getElem_mem hjl)
        obtain ⟨x, hx⟩ : ∃ x, x = xs[j] := ⟨_, rfl⟩
        rw [← hx] at c0' hQ hstep hfx
        have c0 := kc hb c0'
        have hQ' := ints_ok.below hQ (hb.mono (Nat.le_refl _))
        obtain ⟨z, hz⟩ : ∃ z : Int, Hid (z = szR (List.length x) q) := ⟨_, rfl⟩
        have K : Hid (Calls Try.prog 75 #[.slice B x.length D, .int .i64 q] wr fun e w' => e = .returned (.int .i64 z) ∧ Below wr.heap.size wr w') := by
          show Calls _ _ _ _ _
          rw [hz.out]
          exact ((szInt64S_any x.length q B D wr (hfx) (by omega) q1).mono fun e w' h => ⟨h.1, by rw [← h.2]; exact Below.refl _ _⟩)
        have HA := Lib.hid hat
        clear hat c0' hQ hQ' hx hfx
        by_cases hs : q < List.length x
        · have hzz : z < 0 := by rw [hz.out, szR_neg hs]; omega
          have hz1 : Hid (z = -1) := by show _ = _; rw [hz.out, szR_neg hs]
          have hr : Hid (szR (tot List.length xs) l = -1) := by show _ = _; rw [hq.out, szR_neg (by omega)]
          clear hz hs hstep hq
          go_wp2_with fail
          refine K.out.mono ?_
          rintro e w1 ⟨rfl, hb1⟩
          have hb2 := hb.trans (hb1.mono hb.size)
          go_wp2_with fail
          go_ret
          exact ⟨ret_int hr.out.symm, hb2⟩
        · have hzv : z = q - (List.length x : Nat) := by rw [hz.out, szR_pos (by omega)]
          have hzz : ¬ z < 0 := by omega
          have hz0 : 0 ≤ z := by omega
          have hz1 : z ≤ 1048576 := by omega
          have hr : Hid (szR (tot List.length xs) l = szR (rest List.length xs (j + 1)) z) := by
            show _ = _
            rw [hq.out, hstep]
            unfold szR
            split <;> split <;> omega
          clear hzv
          clear hz hs hstep hq
          go_wp2_with fail
          refine K.out.mono ?_
          rintro e w1 ⟨rfl, hb1⟩
          have hb2 := hb.trans (hb1.mono hb.size)
          go_wp2_with fail
          go_roundw
          case rel => exact ⟨j + 1, z, by omega, by go_num, rfl, hz0, hz1, hr, hb2⟩
          case measure => simp [intOf]; omega
      · obtain rfl : j = xs.length := by omega
        have hr : Hid (szR (tot List.length xs) l = q) := by
          show _ = _
          rw [hq.out, rest_end, szR_pos (by omega)]
          omega
        clear hq
        go_wp2_with fail
        go_ret
        exact ⟨ret_int hr.out.symm, hb⟩

set_option maxHeartbeats 1000000 in
theorem szInt64SSS_any (xs : List (List (List Int))) (hm : xs.length ≤ 9223372036854775807) (hf : ∀ x ∈ xs, x.length ≤ 9223372036854775807 ∧ ∀ y ∈ x, y.length ≤ 9223372036854775807) (l : Int) (A : Option Addr) (C : Nat) (w : World) (h : III 0 w xs A) (h1 : -1 ≤ l) (h2 : l ≤ 1048576) :
    Calls Try.prog 105 #[.slice A xs.length C, .int .i64 l] w fun e w' => e = .returned (.int .i64 (szR (tot (tot List.length) xs) l)) ∧ Below w.heap.size w w' := by
  by_cases hx : l < xs.length
  · have H := Lib.hid (szR_neg (n := tot (tot List.length) xs) (l := l) (by unfold tot; omega))
    have hz : l - xs.length < 0 := by omega
    go_enter Try.func105, Try.ntmps105
    go_wp2_with fail
    go_ret
    exact ⟨ret_int H.out.symm, Below.refl _ _⟩
  · have HI : Hid (szR (tot (tot List.length) xs) l = szR (rest (tot List.length) xs 0) (l - xs.length)) := by
      show _ = _
      rw [rest_zero]
      unfold szR tot
      split <;> split <;> omega
    have hz : ¬ l - xs.length < 0 := by omega
    have HH := Lib.hid h; have HF := Lib.hid hf
    clear h hf
    go_enter Try.func105, Try.ntmps105
    go_wp2_with fail
    go_loopw [1, 5] (fun s i wr => ∃ (j : Nat) (q : Int), j ≤ xs.length ∧ i = .int .i64 j ∧ s = .int .i64 q ∧ 0 ≤ q ∧ q ≤ 1048576 ∧ Hid (szR (tot (tot List.length) xs) l = szR (rest (tot List.length) xs j) q) ∧ Below w.heap.size w wr) (fun _ i _ => xs.length - (intOf i).toNat)
    case atStart => exact ⟨0, _, Nat.zero_le _, rfl, rfl, by omega, by omega, HI, Below.refl _ _⟩
    case round =>
      obtain ⟨j, q, hj, rfl, rfl, q0, q1, hq, hb⟩ := hrel
      clear hz hx HI
      by_cases hjl : j < xs.length
      · obtain ⟨b, o, _, rfl, hat⟩ := HH.out (by rintro rfl; simp at hjl)
        obtain ⟨B, D, c0', hQ⟩ := hat j xs[j] (List.getElem?_eq_getElem hjl)
        have hstep := rest_step (tot List.length) xs hjl
        have hfx := HF.out xs[j] (List.getElem_mem hjl)
        obtain ⟨x, hx⟩ : ∃ x, x = xs[j] := ⟨_, rfl⟩
        rw [← hx] at c0' hQ hstep hfx
        have c0 := kc hb c0'
        have hQ' := ii_ok.below hQ (hb.mono (Nat.le_refl _))
        obtain ⟨z, hz⟩ : ∃ z : Int, Hid (z = szR ((tot List.length) x) q) := ⟨_, rfl⟩
        have K : Hid (Calls Try.prog 181 #[.slice B x.length D, .int .i64 q] wr fun e w' => e = .returned (.int .i64 z) ∧ Below wr.heap.size wr w') := by
          show Calls _ _ _ _ _
          rw [hz.out]
          exact (szInt64SS_any x (hfx).1 (hfx).2 q B D wr hQ' (by omega) q1)
        have HA := Lib.hid hat
        clear hat c0' hQ hQ' hx hfx
        by_cases hs : q < (tot List.length) x
        · have hzz : z < 0 := by rw [hz.out, szR_neg hs]; omega
          have hz1 : Hid (z = -1) := by show _ = _; rw [hz.out, szR_neg hs]
          have hr : Hid (szR (tot (tot List.length) xs) l = -1) := by show _ = _; rw [hq.out, szR_neg (by omega)]
          clear hz hs hstep hq
          go_wp2_with fail
          refine K.out.mono ?_
          rintro e w1 ⟨rfl, hb1⟩
          have hb2 := hb.trans (hb1.mono hb.size)
          go_wp2_with fail
          go_ret
          exact ⟨ret_int hr.out.symm, hb2⟩
        · have hzv : z = q - ((tot List.length) x : Nat) := by rw [hz.out, szR_pos (by omega)]
          have hzz : ¬ z < 0 := by omega
          have hz0 : 0 ≤ z := by omega
          have hz1 : z ≤ 1048576 := by omega
          have hr : Hid (szR (tot (tot List.length) xs) l = szR (rest (tot List.length) xs (j + 1)) z) := by
            show _ = _
            rw [hq.out, hstep]
            unfold szR
            split <;> split <;> omega
          clear hzv
          clear hz hs hstep hq
          go_wp2_with fail
          refine K.out.mono ?_
          rintro e w1 ⟨rfl, hb1⟩
          have hb2 := hb.trans (hb1.mono hb.size)
          go_wp2_with fail
          go_roundw
          case rel => exact ⟨j + 1, z, by omega, by go_num, rfl, hz0, hz1, hr, hb2⟩
          case measure => simp [intOf]; omega
      · obtain rfl : j = xs.length := by omega
        have hr : Hid (szR (tot (tot List.length) xs) l = q) := by
          show _ = _
          rw [hq.out, rest_end, szR_pos (by omega)]
          omega
        clear hq
        go_wp2_with fail
        go_ret
        exact ⟨ret_int hr.out.symm, hb⟩
end Go.Proofs.Ytcgbepmhfimbjaa
