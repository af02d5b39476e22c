/- Contracts of laws.markExprS, markExpr, heldExprS, heldExpr: marks put into an expression in blocks of its own, and found again. -/
import Derived.Test.YtmblgkpgfofceaaFoIn
import Derived.Test.YtmblgkpgfofceaaSig
namespace Go.Proofs.Ytmblgkpgfofceaa
open Go.RowKit

theorem markExprS_nil (k : Int) (A : Option Addr) (C : Nat) (w : World) :
      Calls Try.prog 56 #[.slice A 0 C, .int .i64 k] w fun e w' => e = .returned (.int .i64 k) ∧ w' = w := by
  go_enter Try.func56, Try.ntmps56
  go_wp2_with fail
  go_loopw [1, 5] (fun x i wr => x = .int .i64 k ∧ i = .int .i64 0 ∧ wr = w) (fun _ _ _ => 0)
  case atStart => exact ⟨rfl, rfl, rfl⟩
  case round =>
    obtain ⟨rfl, rfl, rfl⟩ := hrel
    go_wp2_with fail
    go_ret
    exact ⟨rfl, rfl⟩
theorem heldExprS_nil (k : Int) (A : Option Addr) (C : Nat) (w : World) :
      Calls Try.prog 70 #[.slice A 0 C, .int .i64 k] w fun e w' => e = .returned (.int .i64 k) ∧ Below w.heap.size w w' := by
  go_enter Try.func70, Try.ntmps70
  go_wp2_with fail
  go_loopw [1, 5] (fun x i wr => x = .int .i64 k ∧ i = .int .i64 0 ∧ Below w.heap.size w wr) (fun _ _ _ => 0)
  case atStart => exact ⟨rfl, rfl, Below.refl _ _⟩
  case round =>
    obtain ⟨rfl, rfl, hb⟩ := hrel
    go_wp2_with fail
    go_ret
    exact ⟨rfl, hb⟩

set_option maxHeartbeats 2000000 in
theorem markExprS_any : ∀ (N : Nat) (f : Fo), f.nodes < N → f.nodes ≤ 1048576 → ∀ (k : Int), 0 ≤ k → k + 2 * (f.nodes : Int) ≤ 16777216 → ∀ (lo hi : Nat) (A : Option Addr) (C : Nat) (w : World), f.XIn w lo hi A → hi ≤ w.heap.size →
      Calls Try.prog 56 #[.slice A f.len C, .int .i64 k] w fun e w' => e = .returned (.int .i64 (k + 2 * (f.nodes : Int))) ∧ (f.mark k).XIn w' lo hi A ∧ ButIn lo hi w w' := by
  intro N
  induction N with
  | zero => intro f hN; exact absurd hN (Nat.not_lt_zero _)
  | succ N ih =>
    intro f hN hm k hk0 hk1 lo hi A C w hX hz
    have IH := Lib.hid ih; clear ih
    obtain ⟨hle, hX⟩ := hX
    rcases hX with rfl | ⟨B, rfl, hB1, hB2, hfz, hX⟩
    · refine (markExprS_nil k A C w).mono ?_
      rintro e w' ⟨rfl, rfl⟩
      exact ⟨by simp [Fo.nodes], Fo.XIn.nil hle _, ButIn.refl _ _ _⟩
    · have hln := f.len_le_nodes
      have hst := Fo.MkRows.start (k := k) hX (by omega) hz hfz
      clear hX hfz
      go_enter Try.func56, Try.ntmps56
      go_wp2_with fail
      go_loopw [1, 5] (fun x i wr => ∃ (j mid : Nat) (q : Int), j ≤ f.len ∧ i = .int .i64 j ∧ x = .int .i64 q ∧ Hid (q = f.upTo k j) ∧ Hid (Fo.MkRows f k lo hi B wr j mid) ∧ Hid (ButIn lo hi w wr)) (fun _ i _ => f.len - (intOf i).toNat)
      case atStart => exact ⟨0, lo, k, Nat.zero_le _, rfl, rfl, (Fo.upTo_zero f k).symm, hst, ButIn.refl _ _ _⟩
      case round =>
        clear hst
        obtain ⟨j, mid, q, hj, rfl, rfl, hq, hM, hbt⟩ := hrel
        by_cases hjl : j < f.len
        · obtain ⟨k0, n0, ks, r, e1, e2⟩ := f.drop_lt j hjl
          have E1 := Lib.hid e1; have E2 := Lib.hid e2
          obtain ⟨l, mid', A', C', g1, g2, g3, c0, c1, c2, hks, g4, hr⟩ := hM.out.row e1
          have hnd := f.nodes_drop j
          have hb1 := f.upTo_bd k (j + 1)
          have hb0 := f.upTo_bd k j
          have hst := Fo.upTo_step k e1 e2
          rw [e1] at hnd
          have hkn : ks.nodes < N ∧ ks.nodes ≤ 1048576 := by simp only [Fo.nodes] at hnd; omega
          have fz := hM.out.fr
          have hbd := hM.out.bd
          have hq0 : 0 ≤ q ∧ q + 2 + 2 * (ks.nodes : Int) ≤ 16777216 := by rw [hq.out]; omega
          have HST : Hid (q + 1 + 1 + 2 * (ks.nodes : Int) = f.upTo k (j + 1)) := by show _ = _; rw [hst, hq.out]
          clear hnd hb1 hb0 hst e1 e2
          have wk1 : IntKind.i64.wrap (q + 1) = q + 1 := IntWalk.i64_in _ (by omega)
          have wk2 : IntKind.i64.wrap (q + 1 + 1) = q + 1 + 1 := IntWalk.i64_in _ (by omega)
          obtain ⟨W1, hW1⟩ : ∃ W1, W1 = (wr.setCell ⟨B, j * 3, none⟩ (.int .i64 q)).setCell ⟨B, j * 3 + 1, none⟩ (.int .i64 (q + 1)) := ⟨_, rfl⟩
          have HB2 : Hid (ButIn lo hi w W1) := by
            have hh := hbt.out
            have h2 : ButIn lo hi wr W1 := by
              rw [hW1]
              exact ⟨rfl, rfl, rfl, by simp, fun x h3 h4 => (Fo.agree_two (wr := wr) (B := B) (lo := x) (hi := x + 1) (by omega)) x (Nat.le_refl _) (Nat.lt_succ_self _)⟩
            exact hh.trans h2
          have KS : Hid (Calls Try.prog 56 #[.slice A' ks.len C', .int .i64 (q + 1 + 1)] W1 fun e w' => e = .returned (.int .i64 (q + 1 + 1 + 2 * (ks.nodes : Int))) ∧ (ks.mark (q + 1 + 1)).XIn w' l mid' A' ∧ ButIn l mid' W1 w') := by
            refine IH.out ks hkn.1 hkn.2 (q + 1 + 1) (by omega) (by omega) l mid' A' C' W1 (hks.out.agree ?_) (by rw [hW1]; simp; omega)
            rw [hW1]
            exact Fo.agree_two g3
          have x2 : W1.cell? ⟨B, j * 3 + 2, none⟩ = some (.slice A' ks.len C') := by
            rw [hW1, World.cell?_setCell_other (a := ⟨B, j * 3 + 1, none⟩) (b := ⟨B, j * 3 + 2, none⟩) (h := fun h => by simp at h), World.cell?_setCell_other (a := ⟨B, j * 3, none⟩) (b := ⟨B, j * 3 + 2, none⟩) (h := fun h => by simp at h)]
            exact c2
          have HW := Lib.hid hW1
          have hC0 := Lib.hid c0; have hC1 := Lib.hid c1; have hC2 := Lib.hid c2
          have fz1 := fz (j * 3); have fz2 := fz (j * 3 + 1)
          clear fz hbd IH hkn
          go_wp2_with fail
          rw [← hW1]
          clear hW1
          go_wp2_with fail
          refine KS.out.mono ?_
          rintro e w2 ⟨rfl, hk2, hb2⟩
          have HM2 : Hid (Fo.MkRows f k lo hi B w2 (j + 1) mid') := by
            have h1 := hq.out
            subst h1
            exact hM.out.step E1.out E2.out g1 g2 g3 hC0.out hC1.out hC2.out hr.out hk2 (by rw [← HW.out]; exact hb2)
          have HB3 : Hid (ButIn lo hi w w2) := HB2.out.trans (hb2.mono (by have := hM.out.bd; omega) g4)
          clear hk2 hb2
          go_wp2_with fail
          go_roundw
          case rel => exact ⟨j + 1, mid', _, by omega, by go_num, rfl, HST.out, HM2, HB3⟩
          case measure => simp [intOf]; omega
        · obtain rfl : j = f.len := by omega
          have HQ : Hid (q = k + 2 * (f.nodes : Int)) := by show _ = _; rw [hq.out, Fo.upTo_end]
          clear hq
          go_wp2_with fail
          go_ret
          exact ⟨ret_int HQ.out, ⟨hle, Or.inr ⟨B, rfl, hB1, hB2, hM.out.fr, hM.out.end⟩⟩, hbt.out⟩

theorem markExpr_any (f : Fo) (hm : f.nodes ≤ 1048576) (k : Int) (hk0 : 0 ≤ k) (hk1 : k ≤ 4194304) (k0 n0 : Int) (lo hi : Nat) (A : Option Addr) (C : Nat) (w : World) (hX : f.XIn w lo hi A) (hz : hi ≤ w.heap.size) :
      Calls Try.prog 26 #[.agg #[.int .i64 k0, .int .i64 n0, .slice A f.len C], .int .i64 k] w fun e w' => e = .returned (.int .i64 (k + 2 * (f.nodes : Int))) ∧ (f.mark k).XIn w' lo hi A ∧ ButIn lo hi w w' := by
  have K1 : Hid (∀ W : World, Sees w W → Calls Try.prog 56 #[.slice A f.len C, .int .i64 k] W fun e w' => e = .returned (.int .i64 (k + 2 * (f.nodes : Int))) ∧ (f.mark k).XIn w' lo hi A ∧ ButIn lo hi W w') :=
    fun W h => markExprS_any (f.nodes + 1) f (Nat.lt_succ_self _) hm k hk0 (by omega) lo hi A C W (hX.agree (Fo.Agree.of_below (Below.mono h hz))) (Nat.le_trans hz (Below.size h))
  go_enter Try.func26, Try.ntmps26
  go_wp2_with fail
  refine (K1.out _ (by unfold Sees; go_grown)).mono ?_
  rintro e w1 ⟨rfl, hX1, hB1⟩
  have HX := Lib.hid hX1
  have HB : Hid (ButIn lo hi w w1) := (ButIn.of_below (by go_grown)).trans hB1
  clear hX1 hB1
  go_wp2_with fail
  go_ret
  exact ⟨rfl, HX.out, HB.out⟩

set_option maxHeartbeats 2000000 in
theorem heldExprS_any : ∀ (N : Nat) (f : Fo), f.nodes < N → f.nodes ≤ 1048576 → ∀ (k : Int), 0 ≤ k → k + 2 * (f.nodes : Int) ≤ 16777216 → ∀ (A : Option Addr) (C : Nat) (w : World), (f.mark k).Lies w A →
      Calls Try.prog 70 #[.slice A f.len C, .int .i64 k] w fun e w' => e = .returned (.int .i64 (k + 2 * (f.nodes : Int))) ∧ Below w.heap.size w w' := by
  intro N
  induction N with
  | zero => intro f hN; exact absurd hN (Nat.not_lt_zero _)
  | succ N ih =>
    intro f hN hm k hk0 hk1 A C w hl
    have IH := Lib.hid ih; clear ih
    have hln := f.len_le_nodes
    go_enter Try.func70, Try.ntmps70
    go_wp2_with fail
    go_loopw [1, 5] (fun x i wr => ∃ (j : Nat) (q : Int), j ≤ f.len ∧ i = .int .i64 j ∧ x = .int .i64 q ∧ Hid (q = f.upTo k j) ∧ Below w.heap.size w wr) (fun _ i _ => f.len - (intOf i).toNat)
    case atStart => exact ⟨0, k, Nat.zero_le _, rfl, rfl, (Fo.upTo_zero f k).symm, Below.refl _ _⟩
    case round =>
      obtain ⟨j, q, hj, rfl, rfl, hq, hb⟩ := hrel
      by_cases hjl : j < f.len
      · obtain ⟨k0, n0, ks, r, e1, e2⟩ := f.drop_lt j hjl
        obtain ⟨b, o, rfl, hat⟩ := hl (by
          intro h
          have h1 := Fo.mark_len f k
          rw [h] at h1
          simp [Fo.len] at h1
          omega)
        have hat' := hat.later (w' := wr) (fun b o hlt => hb.cell (p := ⟨b, o, none⟩) hlt)
        have hat2 := Fo.at_drop hat' j
        rw [Fo.mark_drop, e1, ← hq.out] at hat2
        obtain ⟨c0, c1, ⟨A', C', c2, hl2⟩, _⟩ := hat2
        rw [Fo.mark_len] at c2
        have hnd := f.nodes_drop j
        have hb1 := f.upTo_bd k (j + 1)
        have hb0 := f.upTo_bd k j
        have hst := Fo.upTo_step k e1 e2
        rw [e1] at hnd
        have hkn : ks.nodes < N ∧ ks.nodes ≤ 1048576 := by simp only [Fo.nodes] at hnd; omega
        have hq0 : 0 ≤ q ∧ q + 2 + 2 * (ks.nodes : Int) ≤ 16777216 := by rw [hq.out]; omega
        have HST : Hid (q + 1 + 1 + 2 * (ks.nodes : Int) = f.upTo k (j + 1)) := by show _ = _; rw [hst, hq.out]
        have HL : Hid ((ks.mark (q + 1 + 1)).Lies wr A') := hl2
        clear hnd hb1 hb0 hst e1 e2 hl2 hat'
        have wk1 : IntKind.i64.wrap (q + 1) = q + 1 := IntWalk.i64_in _ (by omega)
        have wk2 : IntKind.i64.wrap (q + 1 + 1) = q + 1 + 1 := IntWalk.i64_in _ (by omega)
        have te1 : (q != q) = false := by simp
        have te2 : (q + 1 != q + 1) = false := by simp
        have j0 : (0 : Int) ≤ (j : Int) := Int.natCast_nonneg _
        have j1 : (j : Int) < (f.len : Int) := by omega
        obtain ⟨z, hz, hz0⟩ : ∃ z : Int, z = q + 1 + 1 + 2 * (ks.nodes : Int) ∧ 0 ≤ z := ⟨_, rfl, by omega⟩
        have tz : decide (z < 0) = false := decide_eq_false (by omega)
        have KS : Hid (∀ W : World, Below wr.heap.size wr W → Calls Try.prog 70 #[.slice A' ks.len C', .int .i64 (q + 1 + 1)] W fun e w' => e = .returned (.int .i64 z) ∧ Below W.heap.size W w') :=
          fun W h => by rw [hz]; exact IH.out ks hkn.1 hkn.2 (q + 1 + 1) (by omega) (by omega) A' C' W (HL.out.below h)
        have HZ : Hid (z = f.upTo k (j + 1)) := by show _ = _; rw [hz]; exact HST.out
        clear hz HST hkn IH
        go_wp2_with fail
        refine (KS.out _ (by go_grown)).mono ?_
        rintro e w2 ⟨rfl, hb2⟩
        have HB2 : Hid (Below w.heap.size w w2) := by
          have := hb.trans ((show Below wr.heap.size wr w2 from Below.trans (by go_grown) (hb2.mono (by first | exact Nat.le_refl _ | simp))).mono hb.size)
          exact this
        clear hb2
        go_wp2_with fail
        go_roundw
        case rel => exact ⟨j + 1, _, by omega, by go_num, rfl, HZ, HB2.out⟩
        case measure => simp [intOf]; omega
      · obtain rfl : j = f.len := by omega
        have HQ : Hid (q = k + 2 * (f.nodes : Int)) := by show _ = _; rw [hq.out, Fo.upTo_end]
        clear hq
        go_wp2_with fail
        go_ret
        exact ⟨ret_int HQ.out, hb⟩

theorem heldExpr_any (f : Fo) (hm : f.nodes ≤ 1048576) (k : Int) (hk0 : 0 ≤ k) (hk1 : k ≤ 4194304) (k0 n0 : Int) (A : Option Addr) (C : Nat) (w : World) (hl : (f.mark k).Lies w A) :
      Calls Try.prog 27 #[.agg #[.int .i64 k0, .int .i64 n0, .slice A f.len C], .int .i64 k] w fun e w' => e = .returned (.int .i64 (k + 2 * (f.nodes : Int))) ∧ Below w.heap.size w w' := by
  obtain ⟨z, hz, hz0⟩ : ∃ z : Int, z = k + 2 * (f.nodes : Int) ∧ 0 ≤ z := ⟨_, rfl, by omega⟩
  have tz : decide (z < 0) = false := decide_eq_false (by omega)
  have K1 : Hid (∀ W : World, Sees w W → Calls Try.prog 70 #[.slice A f.len C, .int .i64 k] W fun e w' => e = .returned (.int .i64 z) ∧ Below W.heap.size W w') :=
    fun W h => by rw [hz]; exact heldExprS_any (f.nodes + 1) f (Nat.lt_succ_self _) hm k hk0 (by omega) A C W (hl.sees h)
  have HZ := Lib.hid hz
  rw [← hz]
  clear hz
  go_enter Try.func27, Try.ntmps27
  go_wp2_with fail
  refine (K1.out _ (by unfold Sees; go_grown)).mono ?_
  rintro e w1 ⟨rfl, hb⟩
  have B1 : Sees w w1 := Sees.below (by unfold Sees; go_grown) hb
  clear hb
  go_wp2_with fail
  go_ret
  exact ⟨rfl, B1⟩
end Go.Proofs.Ytmblgkpgfofceaa
