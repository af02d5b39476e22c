/- Lists of lists of lists of truth values: sizes, copies, comparisons. -/
import Derived.Test.YtcgbepmhfimbjaaLayS
import Derived.Test.YtcgbepmhfimbjaaLayT
import Derived.Test.YtcgbepmhfimbjaaLayE
namespace Go.Proofs.Ytcgbepmhfimbjaa
open Go.RowKit

abbrev BBB := Rows3 BB List.length
theorem bbb_ok : LayOk BBB := rows_ok bb_ok _

set_option maxHeartbeats 1000000 in
theorem szBoolSSS_any (xs : List (List (List Bool))) (hm : xs.length ≤ 9223372036854775807) (hf : ∀ x ∈ xs, x.length ≤ 9223372036854775807 ∧ ∀ y ∈ x, y.length ≤ 9223372036854775807) (l : Int) (A : Option Addr) (C : Nat) (w : World) (h : BBB 0 w xs A) (h1 : -1 ≤ l) (h2 : l ≤ 1048576) :
    Calls Try.prog 60 #[.slice A xs.length C, .int .i64 l] w fun e w' => e = .returned (.int .i64 (szR (tot (tot List.length) xs) l)) ∧ Below w.heap.size w w' := by
  by_cases hx : l < xs.length
  · have H := Lib.hid (szR_neg (n := tot (tot List.length) xs) (l := l) (by unfold tot; omega))
    have hz : l - xs.length < 0 := by omega
    go_enter Try.func60, Try.ntmps60
    go_wp2_with fail
    go_ret
    exact ⟨ret_int H.out.symm, Below.refl _ _⟩
  · have HI : Hid (szR (tot (tot List.length) xs) l = szR (rest (tot List.length) xs 0) (l - xs.length)) := by
      show _ = _
      rw [rest_zero]
      unfold szR tot
      split <;> split <;> omega
    have hz : ¬ l - xs.length < 0 := by omega
    have HH := Lib.hid h; have HF := Lib.hid hf
    clear h hf
    go_enter Try.func60, Try.ntmps60
    go_wp2_with fail
    go_loopw [1, 5] (fun s i wr => ∃ (j : Nat) (q : Int), j ≤ xs.length ∧ i = .int .i64 j ∧ s = .int .i64 q ∧ 0 ≤ q ∧ q ≤ 1048576 ∧ Hid (szR (tot (tot List.length) xs) l = szR (rest (tot List.length) xs j) q) ∧ Below w.heap.size w wr) (fun _ i _ => xs.length - (intOf i).toNat)
    case atStart => exact ⟨0, _, Nat.zero_le _, rfl, rfl, by omega, by omega, HI, Below.refl _ _⟩
    case round =>
      obtain ⟨j, q, hj, rfl, rfl, q0, q1, hq, hb⟩ := hrel
      clear hz hx HI
      by_cases hjl : j < xs.length
      · obtain ⟨b, o, _, rfl, hat⟩ := HH.out (by rintro rfl; simp at hjl)
        obtain ⟨B, D, c0', hQ⟩ := hat j xs[j] (List.getElem?_eq_getElem hjl)
        have hstep := rest_step (tot List.length) xs hjl
        have hfx := HF.out xs[j] (List.getElem_mem hjl)
        obtain ⟨x, hx⟩ : ∃ x, x = xs[j] := ⟨_, rfl⟩
        rw [← hx] at c0' hQ hstep hfx
        have c0 := kc hb c0'
        have hQ' := bb_ok.below hQ (hb.mono (Nat.le_refl _))
        obtain ⟨z, hz⟩ : ∃ z : Int, Hid (z = szR ((tot List.length) x) q) := ⟨_, rfl⟩
        have K : Hid (Calls Try.prog 59 #[.slice B x.length D, .int .i64 q] wr fun e w' => e = .returned (.int .i64 z) ∧ Below wr.heap.size wr w') := by
          show Calls _ _ _ _ _
          rw [hz.out]
          exact (szBoolSS_any x (hfx).1 (hfx).2 q B D wr hQ' (by omega) q1)
        have HA := Lib.hid hat
        clear hat c0' hQ hQ' hx hfx
        by_cases hs : q < (tot List.length) x
        · have hzz : z < 0 := by rw [hz.out, szR_neg hs]; omega
          have hz1 : Hid (z = -1) := by show _ = _; rw [hz.out, szR_neg hs]
          have hr : Hid (szR (tot (tot List.length) xs) l = -1) := by show _ = _; rw [hq.out, szR_neg (by omega)]
          clear hz hs hstep hq
          go_wp2_with fail
          refine K.out.mono ?_
          rintro e w1 ⟨rfl, hb1⟩
          have hb2 := hb.trans (hb1.mono hb.size)
          go_wp2_with fail
          go_ret
          exact ⟨ret_int hr.out.symm, hb2⟩
        · have hzv : z = q - ((tot List.length) x : Nat) := by rw [hz.out, szR_pos (by omega)]
          have hzz : ¬ z < 0 := by omega
          have hz0 : 0 ≤ z := by omega
          have hz1 : z ≤ 1048576 := by omega
          have hr : Hid (szR (tot (tot List.length) xs) l = szR (rest (tot List.length) xs (j + 1)) z) := by
            show _ = _
            rw [hq.out, hstep]
            unfold szR
            split <;> split <;> omega
          clear hzv
          clear hz hs hstep hq
          go_wp2_with fail
          refine K.out.mono ?_
          rintro e w1 ⟨rfl, hb1⟩
          have hb2 := hb.trans (hb1.mono hb.size)
          go_wp2_with fail
          go_roundw
          case rel => exact ⟨j + 1, z, by omega, by go_num, rfl, hz0, hz1, hr, hb2⟩
          case measure => simp [intOf]; omega
      · obtain rfl : j = xs.length := by omega
        have hr : Hid (szR (tot (tot List.length) xs) l = q) := by
          show _ = _
          rw [hq.out, rest_end, szR_pos (by omega)]
          omega
        clear hq
        go_wp2_with fail
        go_ret
        exact ⟨ret_int hr.out.symm, hb⟩

def zeroBoolSSS (n : Nat) : Array Value := madeCells (Value.cells (.slice none 0 0)) (n * 1)
theorem size_zeroBoolSSS (n : Nat) : (zeroBoolSSS n).size = n := by unfold zeroBoolSSS; rw [size_madeCells, Nat.mul_one]
theorem Try.infoBoolSSS : (Try.prog.info? 24).map (fun i => (i.zero, i.size, i.bytes)) = some (some (.slice none 0 0), 1, 24) := by kernel_rfl
theorem make_BoolSSS (n : Nat) (hn : n ≤ 1048576) (w : World) :
    (Instr.makeSlice 25 (.int .i64 (n : Int)) (.int .i64 (n : Int))).run Try.prog w = .ok (.slice (some ⟨w.heap.size, 0, none⟩) n n) (w.alloc (.cells (zeroBoolSSS n) 24)) := by
  obtain ⟨i, hi, hz, hs, hb⟩ := info_parts Try.infoBoolSSS
  have h := run_make (P := Try.prog) w 25 24 i _ Try.underlying25 hi hz .i64 .i64 (n : Int) (n : Int) (by omega) (Int.le_refl _) (by rw [hb]; omega) (by omega)
  rw [hs] at h
  exact h

set_option maxHeartbeats 1000000 in
theorem toBoolSSS_any (xs : List (List (List Bool))) (hm : xs.length ≤ 1048576) (hf : ∀ x ∈ xs, x.length ≤ 1048576 ∧ ∀ y ∈ x, y.length ≤ 1048576) (A : Option Addr) (C : Nat) (w : World) (h : BBB 0 w xs A) :
    Calls Try.prog 64 #[.slice A xs.length C] w fun e w' => ∃ A', e = .returned (.slice A' xs.length xs.length) ∧ BBB w.heap.size w' xs A' ∧ Below w.heap.size w w' := by
  have hmk := make_BoolSSS xs.length (by omega)
  have HH := Lib.hid h; have HF := Lib.hid hf
  clear h hf
  go_enter Try.func64, Try.ntmps64
  go_wp2_with fail
  go_loopw [4] (fun i wr => ∃ j : Nat, j ≤ xs.length ∧ i = .int .i64 j ∧ FRow 24 BB List.length xs w.heap.size wr j ∧ Below w.heap.size w wr ∧ w.heap.size < wr.heap.size) (fun i _ => xs.length - (intOf i).toNat)
  case atStart => exact ⟨0, Nat.zero_le _, rfl, frow_start (size_zeroBoolSSS _), (Below.refl _ _).alloc (Nat.le_refl _) _, by simp⟩
  case round =>
    clear hmk
    obtain ⟨j, hj, rfl, hR, hb, hlt⟩ := hrel
    by_cases hjl : j < xs.length
    · obtain ⟨b, o, _, rfl, hat⟩ := HH.out (by rintro rfl; simp at hjl)
      obtain ⟨B, D, c0', hQ⟩ := hat j xs[j] (List.getElem?_eq_getElem hjl)
      have hfx := HF.out xs[j] (List.getElem_mem hjl)
      obtain ⟨x, hx⟩ : ∃ x, x = xs[j] := ⟨_, rfl⟩
      rw [← hx] at c0' hQ hfx
      have c0 := kc hb c0'
      have hQ' := bb_ok.below hQ hb
      have K : Hid (Calls Try.prog 63 #[.slice B x.length D] wr fun e w' => ∃ A', e = .returned (.slice A' x.length x.length) ∧ BB wr.heap.size w' x A' ∧ Below wr.heap.size wr w') := toBoolSS_any x hfx.1 hfx.2 B D wr hQ'
      have HA := Lib.hid hat; have HX := Lib.hid hx
      clear hat c0' hQ hQ' hx hfx
      have HR := Lib.hid hR; clear hR
      have j0 : (0 : Int) ≤ (j : Int) := Int.natCast_nonneg _
      have j1 : (j : Int) < (xs.length : Int) := by omega
      go_wp2_with fail
      refine K.out.mono ?_
      rintro e w1 ⟨A', rfl, hQ1, hb1⟩
      have hR1 := HR.out.below bb_ok hb1
      obtain ⟨⟨v0, g0⟩, fz⟩ := hR1.cell hjl
      have hR' := hR1.step bb_ok hjl (A := A') (lo := wr.heap.size) hlt (by rw [← HX.out]; exact hQ1)
      rw [← HX.out] at hR'
      have hb2 := (hb.trans (hb1.mono hb.size)).setCell (p := ⟨w.heap.size, j, none⟩) (Nat.le_refl _) (.slice A' x.length x.length)
      have hl2 : w.heap.size < w1.heap.size := Nat.lt_of_lt_of_le hlt hb1.size
      clear hR1 hQ1 hb1 hb
      go_wp2_with fail
      go_roundw
      case rel => exact ⟨j + 1, by omega, by go_num, hR', hb2, by simpa using hl2⟩
      case measure => simp [intOf]; omega
    · obtain rfl : j = xs.length := by omega
      go_wp2_with fail
      go_ret
      exact ⟨_, rfl, hR.done bb_ok (Nat.le_refl _), hb⟩

set_option maxHeartbeats 1000000 in
theorem eqBoolSSS_same (xs : List (List (List Bool))) (hm : xs.length ≤ 9223372036854775807) (hf : ∀ x ∈ xs, x.length ≤ 9223372036854775807 ∧ ∀ y ∈ x, y.length ≤ 9223372036854775807) (A A' : Option Addr) (C C' : Nat) (w : World) {lo lo' : Nat} (h : BBB lo w xs A) (h' : BBB lo' w xs A') :
    Calls Try.prog 70 #[.slice A xs.length C, .slice A' xs.length C'] w fun e w' => e = .returned (.bool true) ∧ Below w.heap.size w w' := by
  have HH := Lib.hid h; have HH2 := Lib.hid h'; have HF := Lib.hid hf
  clear h h' hf
  have tl : ((xs.length : Int) != (xs.length : Int)) = false := by simp
  go_enter Try.func70, Try.ntmps70
  go_wp2_with fail
  go_loopw [5] (fun i wr => ∃ j : Nat, j ≤ xs.length ∧ i = .int .i64 j ∧ Below w.heap.size w wr) (fun i _ => xs.length - (intOf i).toNat)
  case atStart => exact ⟨0, Nat.zero_le _, rfl, Below.refl _ _⟩
  case round =>
    obtain ⟨j, hj, rfl, hb⟩ := hrel
    by_cases hjl : j < xs.length
    · obtain ⟨b, o, _, rfl, hat⟩ := HH.out (by rintro rfl; simp at hjl)
      obtain ⟨b', o', _, rfl, hat'⟩ := HH2.out (by rintro rfl; simp at hjl)
      obtain ⟨B, D, c0', hQ⟩ := hat j xs[j] (List.getElem?_eq_getElem hjl)
      obtain ⟨B', D', d0', hQ2⟩ := hat' j xs[j] (List.getElem?_eq_getElem hjl)
      have hfx := HF.out xs[j] (List.getElem_mem hjl)
      obtain ⟨x, hx⟩ : ∃ x, x = xs[j] := ⟨_, rfl⟩
      rw [← hx] at c0' d0' hQ hQ2 hfx
      have c0 := kc hb c0'
      have d0 := kc hb d0'
      have K : Hid (∀ W : World, Sees w W → Calls Try.prog 69 #[.slice B x.length D, .slice B' x.length D'] W fun e w' => e = .returned (.bool true) ∧ Below W.heap.size W w') := fun W h => eqBoolSS_same x hfx.1 hfx.2 B B' D D' W (bb_ok.below hQ h) (bb_ok.below hQ2 h)
      have HA := Lib.hid hat; have HA2 := Lib.hid hat'
      clear hat hat' c0' d0' hQ hQ2 hx hfx
      have j0 : (0 : Int) ≤ (j : Int) := Int.natCast_nonneg _
      have j1 : (j : Int) < (xs.length : Int) := by omega
      go_wp2_with fail
      go_region_held3 (fun w' => Sees w w' ∧ w'.cell? ⟨b, o + j, none⟩ = some (.slice B x.length D) ∧ w'.cell? ⟨b', o' + j, none⟩ = some (.slice B' x.length D')) (first | exact ⟨hb.drew, c0, d0⟩ | exact ⟨Sees.below hb.drew hb1, kc hb1 c0, kc hb1 d0⟩ | (go_keep; done))
        ((go_at_call 69; refine (K.out _ hb.drew).mono ?_; rintro e w1 ⟨rfl, hb1⟩))
      have hb2 : Below w.heap.size w w1 := Sees.below hb.drew hb1
      clear hb hb1 c0 d0
      go_wp2_with fail
      go_roundw
      case rel => exact ⟨j + 1, by omega, by go_num, hb2⟩
      case measure => simp [intOf]; omega
    · obtain rfl : j = xs.length := by omega
      go_wp2_with fail
      go_ret
      exact ⟨rfl, hb⟩
end Go.Proofs.Ytcgbepmhfimbjaa
