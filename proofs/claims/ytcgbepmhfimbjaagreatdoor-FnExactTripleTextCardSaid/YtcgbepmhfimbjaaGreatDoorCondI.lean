/- Contract of impl.IsCondition. -/
import Derived.Test.YtcgbepmhfimbjaaGreatDoorCond
namespace Go.Proofs.YtcgbepmhfimbjaaGreatDoor
open Go.RowKit

set_option maxHeartbeats 400000 in
theorem implIsCondition_aux : ∀ (N : Nat) (f : Fo), f.nodes < N → f.len ≤ 9223372036854775807 → f.Fits → ∀ (k n : Int) (A : Option Addr) (C : Nat) (w : World), f.Lies w A →
      Calls Tryz.prog 77 #[.agg #[.int .i64 k, .int .i64 n, .slice A f.len C]] w fun e w' => e = .returned (.bool (condK k && f.cond)) ∧ Below w.heap.size w w' := by
  intro N
  induction N with
  | zero => intro f hN; exact absurd hN (Nat.not_lt_zero _)
  | succ N ih =>
    intro f hN hm hf k n A C w hl
    have IH := Lib.hid ih; clear ih
    obtain ⟨q, hqe⟩ : ∃ q : Bool, q = condK k := ⟨_, rfl⟩
    have HC : Hid (∀ W : World, Calls Tryz.prog 112 #[.int .i64 k] W fun e w' => e = .returned (.bool q) ∧ W = w') := fun W => by rw [hqe]; exact isConditionKind_any k W
    rw [← hqe]
    clear hqe
    cases q
    · go_enter Tryz.func77, Tryz.ntmps77
      go_wp2_with (first | (go_at_call 112; refine (HC.out _).mono ?_; rintro e w' ⟨rfl, rfl⟩))
      go_ret
      exact ⟨rfl, by go_grown⟩
    · have HD : Hid ((true && f.cond) = f.cond) := rfl
      go_enter Tryz.func77, Tryz.ntmps77
      go_wp2_with (first | (go_at_call 112; refine (HC.out _).mono ?_; rintro e w' ⟨rfl, rfl⟩))
      go_loopw [12] (fun i wr => ∃ j : Nat, j ≤ f.len ∧ i = .int .i64 j ∧ Hid (f.cond = (f.drop j).cond) ∧ Below w.heap.size w wr) (fun i _ => f.len - (intOf i).toNat)
      case atStart => exact ⟨0, Nat.zero_le _, rfl, rfl, by go_grown⟩
      case round =>
        obtain ⟨j, hj, rfl, hq, hb⟩ := hrel
        by_cases hjl : j < f.len
        · obtain ⟨b, o, rfl, hat⟩ := hl (by rintro rfl; simp [Fo.len] at hjl)
          have hatr := hat.later (w' := wr) (fun b o hlt => hb.cell (p := ⟨b, o, none⟩) hlt)
          obtain ⟨k', n', ks, r, A1, C1, e1, e2, c0, c1, c2, hl1⟩ := Fo.Lies.row hatr hjl
          have hfd := Fo.fits_drop hf j
          have hnd := f.nodes_drop j
          rw [e1.out] at hfd hnd
          have hks := hfd.1
          have hkf := hfd.2.1
          have hkn : ks.nodes < N := by simp only [Fo.nodes] at hnd; omega
          clear hfd hnd
          have hq1 : Hid (f.cond = ((condK k' && ks.cond) && (f.drop (j + 1)).cond)) := by show _ = _; rw [hq.out, e1.out, e2.out]; rfl
          clear hq
          have hz := hb.size
          obtain ⟨q, hqe⟩ : ∃ q : Bool, q = (condK k' && ks.cond) := ⟨_, rfl⟩
          have KC : Hid (∀ W : World, ks.Lies W A1 → Calls Tryz.prog 77 #[.agg #[.int .i64 k', .int .i64 n', .slice A1 ks.len C1]] W fun e w' => e = .returned (.bool q) ∧ Below W.heap.size W w') := fun W h => by rw [hqe]; exact IH.out ks hkn hks hkf k' n' A1 C1 W h
          rw [← hqe] at hq1
          clear hqe
          go_wp2_with fail
          refine (KC.out _ (hl1.below (by go_grown))).mono ?_
          rintro e w1 ⟨rfl, hb1⟩
          have hb2 : Below w.heap.size w w1 := by
            refine Below.trans (b := _) ?_ (hb1.mono (by simp; omega))
            go_grown
          clear hb1
          cases q
          · go_wp2_with fail
            go_ret
            exact ⟨ret_bool (by rw [HD.out, hq1.out]; rfl), hb2⟩
          · have hq2 : Hid (f.cond = (f.drop (j + 1)).cond) := hq1.out
            clear hq1
            go_wp2_with fail
            go_roundw
            case rel => exact ⟨j + 1, by omega, by go_num, hq2, hb2⟩
            case measure => simp [intOf]; omega
        · obtain rfl : j = f.len := by omega
          go_wp2_with fail
          go_ret
          exact ⟨ret_bool (by rw [HD.out, hq.out, Fo.drop_len]; rfl), hb⟩

end Go.Proofs.YtcgbepmhfimbjaaGreatDoor
