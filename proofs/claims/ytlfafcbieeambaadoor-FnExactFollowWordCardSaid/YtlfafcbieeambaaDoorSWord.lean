/- Contracts of spec.l00Same, slices.Equal at int64, spec.SameWord, impl.SameWord. -/
import Derived.Test.YtlfafcbieeambaaDoorWordC
namespace Go.Proofs.YtlfafcbieeambaaDoor
open Go.RowKit

set_option maxHeartbeats 1000000 in
theorem Equal_any (xs ys : List Int) (hm : xs.length ≤ 9223372036854775807) (A A' : Option Addr) (C C' : Nat) (w : World) (hl : Ints w xs A) (hl' : Ints w ys A') :
      Calls Tryd.prog 77 #[.slice A xs.length C, .slice A' ys.length C'] w fun e w' => e = .returned (.bool (decide (xs = ys))) ∧ ∃ m, w' = w.drewN m := by
  by_cases hlen : xs.length = ys.length
  · have HL := Lib.hid hlen
    have tl : ((xs.length : Int) != (ys.length : Int)) = false := by simp [hlen]
    clear hlen
    have HD : Hid (decide (xs = ys) = sameFrom xs ys 0) := (sameFrom_zero xs ys).symm
    go_enter Tryd.func77, Tryd.ntmps77
    go_wp2_with fail
    go_loopw [13] (fun i wr => ∃ j m : Nat, j ≤ xs.length ∧ i = .int .i64 j ∧ Hid (decide (xs = ys) = sameFrom xs ys j) ∧ Hid (wr = w.drewN m)) (fun i _ => xs.length - (intOf i).toNat)
    case atStart => exact ⟨0, 0, Nat.zero_le _, rfl, HD, rfl⟩
    case round =>
      obtain ⟨j, m, hj, rfl, hq, hw⟩ := hrel
      by_cases hjl : j < xs.length
      · obtain ⟨b, o, rfl, hat⟩ := hl (by rintro rfl; simp at hjl)
        obtain ⟨b', o', rfl, hat'⟩ := hl' (fun h => by have := HL.out; rw [h] at this; simp only [List.length_nil] at this; omega)
        have c0 : wr.cell? ⟨b, o + j, none⟩ = some (.int .i64 (nth xs j)) := by rw [hw.out]; exact hat j hjl
        have d0 : wr.cell? ⟨b', o' + j, none⟩ = some (.int .i64 (nth ys j)) := by rw [hw.out]; exact hat' j (by rw [← HL.out]; exact hjl)
        have hat1 := Lib.hid hat; clear hat
        have hat2 := Lib.hid hat'; clear hat'
        have hst : Hid (decide (xs = ys) = (decide (nth xs j = nth ys j) && sameFrom xs ys (j + 1))) := by
          show _ = _
          rw [hq.out, sameFrom_step xs ys j hjl (by rw [← HL.out]; exact hjl)]
        have hj0 : (0 : Int) ≤ (j : Int) := Int.natCast_nonneg _
        have hj1 : (j : Int) < (xs.length : Int) := by omega
        have hj2 : (j : Int) < (ys.length : Int) := by have := HL.out; omega
        by_cases he : nth xs j = nth ys j
        · have te : (nth xs j != nth ys j) = false := by simp [he]
          have hq2 : Hid (decide (xs = ys) = sameFrom xs ys (j + 1)) := by show _ = _; rw [hst.out, decide_eq_true he]; rfl
          clear he hst hq
          go_wp2_with fail
          go_quiet (fail)
          have hw2 : Hid (wr.drewN nq = w.drewN (m + nq)) := by show _ = _; rw [hw.out]; simp
          go_wp2_with fail
          go_roundw
          case rel => exact ⟨j + 1, _, by omega, by go_num, hq2, hw2⟩
          case measure => simp [intOf]; omega
        · have te : (nth xs j != nth ys j) = true := by rw [bne_iff_ne]; exact he
          have hq2 : Hid (decide (xs = ys) = false) := by show _ = _; rw [hst.out, decide_eq_false he]; rfl
          clear he hst hq
          go_wp2_with fail
          go_quiet (fail)
          have hw2 : Hid (wr.drewN nq = w.drewN (m + nq)) := by show _ = _; rw [hw.out]; simp
          go_wp2_with fail
          go_ret
          exact ⟨ret_bool hq2.out.symm, _, hw2.out⟩
      · obtain rfl : j = xs.length := by omega
        have hq2 : Hid (decide (xs = ys) = true) := by show _ = _; rw [hq.out, sameFrom_end xs ys HL.out]
        clear hq
        go_wp2_with fail
        go_ret
        exact ⟨ret_bool hq2.out.symm, _, hw.out⟩
  · have tl : ((xs.length : Int) != (ys.length : Int)) = true := by rw [bne_iff_ne]; omega
    have HD : Hid (decide (xs = ys) = false) := decide_eq_false (fun h => hlen (by rw [h]))
    clear hlen
    go_enter Tryd.func77, Tryd.ntmps77
    go_wp2_with fail
    go_ret
    exact ⟨ret_bool HD.out.symm, 0, rfl⟩

set_option maxHeartbeats 1000000 in
theorem implSameWord_any (p0 r0 p1 r1 : List Int) (h0 : p0.length + r0.length ≤ 1048576) (A B A' B' : Option Addr) (C D C' D' : Nat) (w : World) (hl : Ints w p0 A) (hr : Ints w r0 B) (hl' : Ints w p1 A') (hr' : Ints w r1 B') :
    Calls Tryd.prog 48 #[.agg #[.slice A p0.length C, .slice B r0.length D], .agg #[.slice A' p1.length C', .slice B' r1.length D']] w fun e w' => e = .returned (.bool (decide (p0 = p1) && decide (r0 = r1))) ∧ Below w.heap.size w w' := by
  obtain ⟨q1, hq1⟩ : ∃ q1 : Bool, q1 = decide (p0 = p1) := ⟨_, rfl⟩
  obtain ⟨q2, hq2⟩ : ∃ q2 : Bool, q2 = decide (r0 = r1) := ⟨_, rfl⟩
  have K1 : Hid (∀ W : World, Sees w W → Calls Tryd.prog 77 #[.slice A p0.length C, .slice A' p1.length C'] W fun e w' => e = .returned (.bool q1) ∧ Below W.heap.size W w') := fun W h =>
    (Equal_any p0 p1 (by omega) A A' C C' W (hl.sees h) (hl'.sees h)).mono fun e w' ⟨he, m, hm⟩ => ⟨by rw [hq1]; exact he, by rw [hm]; exact Joins.below_draws _ _ m⟩
  have K2 : Hid (∀ W : World, Sees w W → Calls Tryd.prog 77 #[.slice B r0.length D, .slice B' r1.length D'] W fun e w' => e = .returned (.bool q2) ∧ Below W.heap.size W w') := fun W h =>
    (Equal_any r0 r1 (by omega) B B' D D' W (hr.sees h) (hr'.sees h)).mono fun e w' ⟨he, m, hm⟩ => ⟨by rw [hq2]; exact he, by rw [hm]; exact Joins.below_draws _ _ m⟩
  rw [← hq1, ← hq2]
  clear hq1 hq2
  cases q1
  · go_enter Tryd.func48, Tryd.ntmps48
    go_wp2_with fail
    refine (K1.out _ (by unfold Sees; go_grown)).mono ?_
    rintro e w1 ⟨rfl, hb⟩
    have B1 : Sees w w1 := Sees.below (by unfold Sees; go_grown) hb
    clear hb
    go_wp2_with fail
    go_ret
    exact ⟨rfl, B1⟩
  · have HD : Hid ((true && q2) = q2) := rfl
    go_enter Tryd.func48, Tryd.ntmps48
    go_wp2_with fail
    refine (K1.out _ (by unfold Sees; go_grown)).mono ?_
    rintro e w1 ⟨rfl, hb⟩
    obtain ⟨x0, x1⟩ := box2 hb (b := w.heap.size) (u := .slice A p0.length C) (v := .slice B r0.length D) (by simp [go_sem])
    obtain ⟨y0, y1⟩ := box2 hb (b := w.heap.size + 1) (u := .slice A' p1.length C') (v := .slice B' r1.length D') (by simp [go_sem])
    have B1 : Sees w w1 := Sees.below (by unfold Sees; go_grown) hb
    clear hb
    go_wp2_with fail
    refine (K2.out _ B1).mono ?_
    rintro e w2 ⟨rfl, hb⟩
    have B2 := B1.below hb
    clear hb
    go_wp2_with fail
    go_ret
    exact ⟨rfl, B2⟩

end Go.Proofs.YtlfafcbieeambaaDoor
