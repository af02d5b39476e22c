/- Contracts of spec.l01Size, spec.ExprSize, impl.ExprSize. -/
import Derived.Test.YtdcaelgojjnglaaSig
import Derived.Test.YtdcaelgojjnglaaSep
import Derived.Lib.Hide
namespace Go.Proofs.Ytdcaelgojjnglaa
open Go.RowKit

set_option maxHeartbeats 400000 in
theorem l01Size_any : ∀ (N : Nat) (f : Fo), f.nodes < N → f.nodes ≤ 1048576 → ∀ (A : Option Addr) (C b o : Nat) (w : World), f.Lies w A → w.cell? ⟨b, o + 2, none⟩ = some (.slice A f.len C) →
      Calls Try.prog 106 #[.pointer (some ⟨b, o, none⟩)] w fun e w' => e = .returned (.int .i64 (1 + f.nodes)) ∧ w = w' := by
  intro N
  induction N with
  | zero => intro f hN; exact absurd hN (Nat.not_lt_zero _)
  | succ N ih =>
    intro f hN hm A C b o w hl hc2
    have IH := Lib.hid ih; clear ih
    have hln := f.len_le_nodes
    go_enter Try.func106, Try.ntmps106
    go_wp2_with fail
    go_loop [3, 4] (fun n i => ∃ (j : Nat) (q : Int), j ≤ f.len ∧ i = .int .i64 j ∧ n = .int .i64 q ∧ 0 ≤ q ∧ q ≤ 1048577 ∧ Hid (q = 1 + f.nodes - (f.drop j).nodes)) (fun _ i => f.len - (intOf i).toNat)
    case atStart => exact ⟨0, 1, Nat.zero_le _, rfl, rfl, by omega, by omega, by show _ = _; simp only [Fo.drop]; omega⟩
    case round =>
      obtain ⟨j, q, hj, rfl, rfl, hq0, hq1, hq⟩ := hrel
      by_cases hjl : j < f.len
      · obtain ⟨b', o', rfl, hat⟩ := hl (by rintro rfl; simp [Fo.len] at hjl)
        obtain ⟨k', n', ks, r, A1, C1, e1, e2, c0, c1, c2, hl1⟩ := Fo.Lies.row hat hjl
        have hnd := f.nodes_drop j
        have hq2 := hq.out
        have hnd2 := f.nodes_drop (j + 1)
        rw [e1.out] at hnd hq2
        simp only [Fo.nodes] at hnd hq2
        rw [← e2.out] at hnd hq2
        have hkn : ks.nodes < N ∧ ks.nodes ≤ 1048576 := by omega
        obtain ⟨x, hx, hx0, hx1⟩ : ∃ x : Int, x = 1 + (ks.nodes : Int) ∧ 0 ≤ x ∧ q + x ≤ 1048577 := ⟨_, rfl, by omega, by omega⟩
        have HQ : Hid (q + x = 1 + f.nodes - (f.drop (j + 1)).nodes) := by show _ = _; omega
        have KC : Hid (∀ W : World, W = w → Calls Try.prog 106 #[.pointer (some ⟨b', o' + j * 3, none⟩)] W fun e w' => e = .returned (.int .i64 x) ∧ W = w') := fun W h => by subst h; rw [hx]; exact IH.out ks hkn.1 hkn.2 A1 C1 b' _ _ hl1 c2
        clear hnd hq2 hnd2 hx hq
        go_wp2_with fail
        refine (KC.out _ rfl).mono ?_
        rintro e w' ⟨rfl, rfl⟩
        go_wp2_with fail
        go_round
        case rel => exact ⟨j + 1, q + x, by omega, by go_num, rfl, by omega, by omega, HQ.out⟩
        case measure => simp [intOf]; omega
      · obtain rfl : j = f.len := by omega
        go_wp2_with fail
        go_ret
        refine ⟨ret_int ?_, rfl⟩
        rw [hq.out, Fo.drop_len]
        simp [Fo.nodes]

end Go.Proofs.Ytdcaelgojjnglaa
