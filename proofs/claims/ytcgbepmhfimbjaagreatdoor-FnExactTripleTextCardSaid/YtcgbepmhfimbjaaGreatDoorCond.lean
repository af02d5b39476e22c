/- Contracts of spec.l01Condition, spec.IsCondition, impl.isConditionKind, impl.IsCondition. -/
import Derived.Test.YtcgbepmhfimbjaaGreatDoorSig
import Derived.Test.YtcgbepmhfimbjaaGreatDoorSep
import Derived.Lib.Hide
namespace Go.Proofs.YtcgbepmhfimbjaaGreatDoor
open Go.RowKit

/-- A kind of a condition. -/
def condK (k : Int) : Bool := decide (1 ≤ k ∧ k ≤ 7 ∧ k ≠ 4)
def Fo.cond : Fo → Bool
  | .nil => true
  | .cons k _ ks r => condK k && ks.cond && r.cond

theorem condK_in (k : Int) : condK k = (inB k 1 7 && !(k == 4)) := by
  unfold condK inB; rw [Bool.eq_iff_iff]; simp; omega

set_option maxHeartbeats 400000 in
theorem isConditionKind_any (k : Int) (w : World) :
    Calls Tryz.prog 112 #[.int .i64 k] w fun e w' => e = .returned (.bool (condK k)) ∧ w = w' := by
  by_cases hk : k = 1 ∨ k = 2 ∨ k = 3 ∨ k = 5 ∨ k = 6 ∨ k = 7
  · rcases hk with rfl | rfl | rfl | rfl | rfl | rfl
    all_goals
      go_enter Tryz.func112, Tryz.ntmps112
      go_wp2
      go_ret
      exact ⟨rfl, rfl⟩
  · have h1 : (k == 1) = false := by rw [beq_eq_false_iff_ne]; omega
    have h2 : (k == 2) = false := by rw [beq_eq_false_iff_ne]; omega
    have h3 : (k == 3) = false := by rw [beq_eq_false_iff_ne]; omega
    have h5 : (k == 5) = false := by rw [beq_eq_false_iff_ne]; omega
    have h6 : (k == 6) = false := by rw [beq_eq_false_iff_ne]; omega
    have h7 : (k == 7) = false := by rw [beq_eq_false_iff_ne]; omega
    have HD : Hid (condK k = false) := decide_eq_false (by omega)
    clear hk
    go_enter Tryz.func112, Tryz.ntmps112
    go_wp2
    go_ret
    exact ⟨ret_bool HD.out.symm, rfl⟩

set_option maxHeartbeats 400000 in
theorem l01Condition_any : ∀ (N : Nat) (f : Fo), f.nodes < N → f.len ≤ 9223372036854775807 → f.Fits → ∀ (k : Int) (A : Option Addr) (C b o : Nat) (w : World), f.Lies w A →
      w.cell? ⟨b, o, none⟩ = some (.int .i64 k) → w.cell? ⟨b, o + 2, none⟩ = some (.slice A f.len C) →
      Calls Tryz.prog 73 #[.pointer (some ⟨b, o, none⟩)] w fun e w' => e = .returned (.bool (condK k && f.cond)) ∧ w = w' := by
  intro N
  induction N with
  | zero => intro f hN; exact absurd hN (Nat.not_lt_zero _)
  | succ N ih =>
    intro f hN hm hf k A C b o w hl hc0 hc2
    have IH := Lib.hid ih; clear ih
    have HK := Lib.hid (condK_in k)
    by_cases h4 : k = 4
    · subst h4
      go_enter Tryz.func73, Tryz.ntmps73
      go_wp2_with (first | (go_at_call 90; refine (in_any _ _ _ _).mono ?_; rintro e w' ⟨rfl, rfl⟩))
      go_ret
      exact ⟨rfl, rfl⟩
    cases hi : inB k 1 7
    · have HD : Hid ((condK k && f.cond) = false) := by show _ = _; rw [HK.out, hi]; rfl
      go_enter Tryz.func73, Tryz.ntmps73
      go_wp2_with (first | (go_at_call 90; refine (in_any _ _ _ _).mono ?_; rintro e w' ⟨rfl, rfl⟩))
      go_ret
      exact ⟨ret_bool HD.out.symm, rfl⟩
    · have h4' : (k == 4) = false := by rw [beq_eq_false_iff_ne]; exact h4
      have HD : Hid ((condK k && f.cond) = f.cond) := by show _ = _; rw [HK.out, hi, h4']; rfl
      go_enter Tryz.func73, Tryz.ntmps73
      go_wp2_with (first | (go_at_call 90; refine (in_any _ _ _ _).mono ?_; rintro e w' ⟨rfl, rfl⟩))
      go_loop [3] (fun i => ∃ j : Nat, j ≤ f.len ∧ i = .int .i64 j ∧ Hid (f.cond = (f.drop j).cond)) (fun i => f.len - (intOf i).toNat)
      case atStart => exact ⟨0, Nat.zero_le _, rfl, rfl⟩
      case round =>
        obtain ⟨j, hj, rfl, hq⟩ := hrel
        by_cases hjl : j < f.len
        · obtain ⟨b', o', rfl, hat⟩ := hl (by rintro rfl; simp [Fo.len] at hjl)
          obtain ⟨k', n', ks, r, A1, C1, e1, e2, c0, c1, c2, hl1⟩ := Fo.Lies.row hat hjl
          have hfd := Fo.fits_drop hf j
          have hnd := f.nodes_drop j
          rw [e1.out] at hfd hnd
          have hks := hfd.1
          have hkf := hfd.2.1
          have hkn : ks.nodes < N := by simp only [Fo.nodes] at hnd; omega
          clear hfd hnd
          have hq1 : Hid (f.cond = ((condK k' && ks.cond) && (f.drop (j + 1)).cond)) := by show _ = _; rw [hq.out, e1.out, e2.out]; rfl
          clear hq
          go_wp2_with fail
          refine (IH.out ks hkn hks hkf k' A1 C1 b' _ _ hl1 c0 c2).mono ?_
          rintro e w' ⟨rfl, rfl⟩
          obtain ⟨q, hqe⟩ : ∃ q : Bool, q = (condK k' && ks.cond) := ⟨_, rfl⟩
          rw [← hqe] at hq1 ⊢
          clear hqe
          cases q
          · go_wp2_with fail
            go_ret
            exact ⟨ret_bool (by rw [HD.out, hq1.out]; rfl), rfl⟩
          · have hq2 : Hid (f.cond = (f.drop (j + 1)).cond) := hq1.out
            clear hq1
            go_wp2_with fail
            go_round
            case rel => exact ⟨j + 1, by omega, by go_num, hq2⟩
            case measure => simp [intOf]; omega
        · obtain rfl : j = f.len := by omega
          go_wp2_with fail
          go_ret
          exact ⟨ret_bool (by rw [HD.out, hq.out, Fo.drop_len]; rfl), rfl⟩

end Go.Proofs.YtcgbepmhfimbjaaGreatDoor
