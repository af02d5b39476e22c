/- Contracts of spec.l01Same, spec.SameExpr. -/
import Derived.Test.YtlpgkhdecccmlaaRSig
import Derived.Test.YtlpgkhdecccmlaaRSep
import Derived.Lib.Hide
import Derived.Deep.QuietTactic
import Derived.BigQuiet
namespace Go.Proofs.YtlpgkhdecccmlaaR
open Go.RowKit

set_option maxHeartbeats 1000000 in
theorem l01Same_any : ∀ (N : Nat) (f g : Fo), f.nodes < N → f.len ≤ 9223372036854775807 → f.Fits → ∀ (k n k' n' : Int) (A A' : Option Addr) (C C' b o b' o' : Nat) (w : World), f.Lies w A → g.Lies w A' →
      w.cell? ⟨b, o, none⟩ = some (.int .i64 k) → w.cell? ⟨b, o + 1, none⟩ = some (.int .i64 n) → w.cell? ⟨b, o + 2, none⟩ = some (.slice A f.len C) →
      w.cell? ⟨b', o', none⟩ = some (.int .i64 k') → w.cell? ⟨b', o' + 1, none⟩ = some (.int .i64 n') → w.cell? ⟨b', o' + 2, none⟩ = some (.slice A' g.len C') →
      Calls Try.prog 91 #[.pointer (some ⟨b, o, none⟩), .pointer (some ⟨b', o', none⟩)] w fun e w' => e = .returned (.bool (decide (k = k' ∧ n = n' ∧ f = g))) ∧ ∃ m, w' = w.drewN m := by
  intro N
  induction N with
  | zero => intro f g hN; exact absurd hN (Nat.not_lt_zero _)
  | succ N ih =>
    intro f g hN hm hf k n k' n' A A' C C' b o b' o' w hl hl' h0 h1 h2 h0' h1' h2'
    have IH := Lib.hid ih; clear ih
    by_cases hk : k = k'
    · have tk : (k != k') = false := by simp [hk]
      by_cases hn : n = n'
      · have tn : (n != n') = false := by simp [hn]
        by_cases hlen : f.len = g.len
        · have tl : ((f.len : Int) != (g.len : Int)) = false := by simp [hlen]
          have HL := Lib.hid hlen
          have hd : Hid (decide (k = k' ∧ n = n' ∧ f = g) = decide (f = g)) := by show _ = _; simp [hk, hn]
          clear hk hn hlen
          go_enter Try.func91, Try.ntmps91
          go_wp2_with fail
          go_quiet (fail)
          go_wp2_with fail
          go_loopw [5] (fun i wr => ∃ j m : Nat, j ≤ f.len ∧ i = .int .i64 j ∧ Hid ((f = g) = (f.drop j = g.drop j)) ∧ Hid (wr = w.drewN m)) (fun i _ => f.len - (intOf i).toNat)
          case atStart => exact ⟨0, _, Nat.zero_le _, rfl, rfl, rfl⟩
          case round =>
            obtain ⟨j, m, hj, rfl, hq, hw⟩ := hrel
            have h2r : wr.cell? ⟨b, o + 2, none⟩ = some (.slice A f.len C) := by rw [hw.out]; exact h2
            have h2r' : wr.cell? ⟨b', o' + 2, none⟩ = some (.slice A' g.len C') := by rw [hw.out]; exact h2'
            by_cases hjl : j < f.len
            · obtain ⟨c, p, rfl, hat⟩ := hl (by rintro rfl; simp [Fo.len] at hjl)
              obtain ⟨c', p', rfl, hat'⟩ := hl' (by rintro rfl; have := HL.out; simp [Fo.len] at this; omega)
              obtain ⟨k1, n1, ks, r, A1, C1, e1, e2, c0, c1, c2, hl1⟩ := Fo.Lies.row hat hjl
              obtain ⟨k2, n2, ks', r', A2, C2, e3, e4, d0, d1, d2, hl2⟩ := Fo.Lies.row hat' (by rw [← HL.out]; exact hjl)
              have hfd := Fo.fits_drop hf j
              have hnd := f.nodes_drop j
              rw [e1.out] at hfd hnd
              have hks := hfd.1
              have hkf := hfd.2.1
              have hkn : ks.nodes < N := by simp only [Fo.nodes] at hnd; omega
              have hq' : Hid ((f = g) = ((k1 = k2 ∧ n1 = n2 ∧ ks = ks') ∧ f.drop (j + 1) = g.drop (j + 1))) := by
                show _ = _
                rw [hq.out, e1.out, e3.out, ← e2.out, ← e4.out]
                simp [and_assoc]
              clear hfd hnd hq
              have hj0 : (0 : Int) ≤ (j : Int) := Int.natCast_nonneg _
              have hj1 : (j : Int) < (f.len : Int) := by omega
              have hj2 : (j : Int) < (g.len : Int) := by have := HL.out; omega
              obtain ⟨q, hqe⟩ : ∃ q : Bool, q = decide (k1 = k2 ∧ n1 = n2 ∧ ks = ks') := ⟨_, rfl⟩
              have KC : Hid (∀ W : World, (∀ a, W.cell? a = w.cell? a) → Calls Try.prog 91 #[.pointer (some ⟨c, p + j * 3, none⟩), .pointer (some ⟨c', p' + j * 3, none⟩)] W fun e w' => e = .returned (.bool q) ∧ ∃ m', w' = W.drewN m') := by
                intro W hW
                rw [hqe]
                exact IH.out ks ks' hkn hks hkf k1 n1 k2 n2 A1 A2 C1 C2 c _ c' _ W (hl1.later (fun b o _ => hW _)) (hl2.later (fun b o _ => hW _)) ((hW _).trans c0) ((hW _).trans c1) ((hW _).trans c2) ((hW _).trans d0) ((hW _).trans d1) ((hW _).trans d2)
              have HQ := Lib.hid hqe; clear hqe
              go_wp2_with fail
              go_quiet ((go_at_call 91; refine Calls.quiet_of (KC.out _ ?_); intro a; simp [go_sem]; rw [hw.out]; rfl))
              have hw2 : Hid (wr.drewN nq = w.drewN (m + nq)) := by show _ = _; rw [hw.out]; simp
              clear KC c0 c1 c2 d0 d1 d2 hat hat' hl1 hl2 h2r h2r'
              cases q
              · go_wp2_with fail
                go_ret
                refine ⟨ret_bool ?_, _, hw2.out⟩
                rw [hd.out]
                symm
                refine decide_eq_false (fun h4 => of_decide_eq_false HQ.out.symm ?_)
                rw [hq'.out] at h4
                exact h4.1
              · have hq2 : Hid ((f = g) = (f.drop (j + 1) = g.drop (j + 1))) := by
                  show _ = _
                  rw [hq'.out]
                  have h2 := of_decide_eq_true HQ.out.symm
                  simp [h2]
                clear HQ hq'
                go_wp2_with fail
                go_roundw
                case rel => exact ⟨j + 1, _, by omega, by go_num, hq2, hw2⟩
                case measure => simp [intOf]; omega
            · obtain rfl : j = f.len := by omega
              have hq2 : Hid (decide (f = g) = true) := by
                have h1 := hq.out
                rw [Fo.drop_len, HL.out, Fo.drop_len] at h1
                exact decide_eq_true (by rw [h1])
              clear hq
              go_wp2_with fail
              go_ret
              exact ⟨ret_bool (hd.out.trans hq2.out).symm, _, hw.out⟩
        · have tl : ((f.len : Int) != (g.len : Int)) = true := by rw [bne_iff_ne]; omega
          have hd : Hid (decide (k = k' ∧ n = n' ∧ f = g) = false) := decide_eq_false (fun h => hlen (by rw [h.2.2]))
          clear hk hn hlen
          go_enter Try.func91, Try.ntmps91
          go_wp2_with fail
          go_quiet (fail)
          go_wp2_with fail
          go_ret
          exact ⟨ret_bool hd.out.symm, _, rfl⟩
      · have tn : (n != n') = true := by rw [bne_iff_ne]; exact hn
        have hd : Hid (decide (k = k' ∧ n = n' ∧ f = g) = false) := decide_eq_false (fun h => hn h.2.1)
        clear hk hn
        go_enter Try.func91, Try.ntmps91
        go_wp2_with fail
        go_quiet (fail)
        go_wp2_with fail
        go_ret
        exact ⟨ret_bool hd.out.symm, _, rfl⟩
    · have tk : (k != k') = true := by rw [bne_iff_ne]; exact hk
      have hd : Hid (decide (k = k' ∧ n = n' ∧ f = g) = false) := decide_eq_false (fun h => hk h.1)
      clear hk
      go_enter Try.func91, Try.ntmps91
      go_wp2_with fail
      go_quiet (fail)
      go_wp2_with fail
      go_ret
      exact ⟨ret_bool hd.out.symm, _, rfl⟩

end Go.Proofs.YtlpgkhdecccmlaaR
