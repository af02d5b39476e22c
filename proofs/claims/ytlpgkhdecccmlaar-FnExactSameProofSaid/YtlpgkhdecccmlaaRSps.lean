/- Equality of proofs, on the model's side. -/
import Derived.Test.YtlpgkhdecccmlaaRSpi
import Derived.Test.YtlpgkhdecccmlaaRSame
namespace Go.Proofs.YtlpgkhdecccmlaaR
open Go.RowKit
set_option linter.unusedVariables false

theorem l01Same_u (k0 : Int) (n0 : Int) (kf0 : Fo) (k1 : Int) (n1 : Int) (kf1 : Fo) (hf_kf0 : kf0.len ≤ 9223372036854775807 ∧ kf0.Fits) (Akf0 Akf1 : Option Addr) (Ckf0 Ckf1 : Nat) (b o b' o' : Nat) (w : World) (hl_kf0 : kf0.Lies w Akf0) (hl_kf1 : kf1.Lies w Akf1) (g0 : w.cell? ⟨b, o, none⟩ = some (.int .i64 k0)) (g1 : w.cell? ⟨b, o + 1, none⟩ = some (.int .i64 n0)) (g2 : w.cell? ⟨b, o + 2, none⟩ = some (.slice Akf0 kf0.len Ckf0)) (h0 : w.cell? ⟨b', o', none⟩ = some (.int .i64 k1)) (h1 : w.cell? ⟨b', o' + 1, none⟩ = some (.int .i64 n1)) (h2 : w.cell? ⟨b', o' + 2, none⟩ = some (.slice Akf1 kf1.len Ckf1)) :
    Calls Try.prog 91 #[.pointer (some ⟨b, o, none⟩), .pointer (some ⟨b', o', none⟩)] w fun e w' => e = .returned (.bool (decide (k0 = k1 ∧ n0 = n1 ∧ kf0 = kf1))) ∧ Below w.heap.size w w' := (l01Same_any (kf0.nodes + 1) kf0 kf1 (Nat.lt_succ_self _) hf_kf0.1 hf_kf0.2 k0 n0 k1 n1 Akf0 Akf1 Ckf0 Ckf1 b o b' o' w hl_kf0 hl_kf1 g0 g1 g2 h0 h1 h2).mono fun e w' ⟨he, m, hm⟩ => ⟨he, by rw [hm]; exact Joins.below_draws _ _ m⟩

set_option maxHeartbeats 4000000 in
set_option maxRecDepth 100000 in
theorem l04SameList_u (f0 f1 : Fo) (hf' : f0.len ≤ 9223372036854775807 ∧ f0.Fits) (A A' : Option Addr) (C C' : Nat) (w : World) (hl : f0.Lies w A) (hl' : f1.Lies w A') :
    Calls Try.prog 190 #[.slice A f0.len C, .slice A' f1.len C'] w fun e w' => e = .returned (.bool (decide (f0 = f1))) ∧ Below w.heap.size w w' := by
  have hm := hf'.1
  by_cases hlen : f0.len = f1.len
  · have HL := Lib.hid hlen
    have tl : ((f0.len : Int) != (f1.len : Int)) = false := by simp [hlen]
    clear hlen
    have HH := Lib.hid hl; have HH' := Lib.hid hl'; have HF := Lib.hid hf'.2
    clear hl hl' hf'
    go_enter Try.func190, Try.ntmps190
    go_wp2_with fail
    go_loopw [5] (fun i wr => ∃ j : Nat, j ≤ f0.len ∧ i = .int .i64 j ∧ Hid ((f0 = f1) = (f0.drop j = f1.drop j)) ∧ Hid (Below w.heap.size w wr)) (fun i _ => f0.len - (intOf i).toNat)
    case atStart => exact ⟨0, Nat.zero_le _, rfl, (by show _ = _; cases f0 <;> cases f1 <;> rfl), Below.refl _ _⟩
    case round =>
      obtain ⟨j, hj, rfl, hq, hw⟩ := hrel
      clear tl
      by_cases hjl : j < f0.len
      · obtain ⟨c, p, rfl, hat⟩ := HH.out (by rintro rfl; simp [Fo.len] at hjl)
        obtain ⟨c', p', rfl, hat'⟩ := HH'.out (by rintro rfl; have := HL.out; simp [Fo.len] at this; omega)
        obtain ⟨k0, n0, kf0, r0, Akf0, Ckf0, e1, e2, c0, c1, c2, hl_kf0⟩ := Fo.Lies.row hat hjl
        obtain ⟨k1, n1, kf1, r1, Akf1, Ckf1, e3, e4, d0, d1, d2, hl_kf1⟩ := Fo.Lies.row hat' (by rw [← HL.out]; exact hjl)
        have hfd := Fo.fits_drop HF.out j
        rw [e1.out] at hfd
        have hq' : Hid ((f0 = f1) = ((k0 = k1 ∧ n0 = n1 ∧ kf0 = kf1) ∧ f0.drop (j + 1) = f1.drop (j + 1))) := by
          show _ = _
          rw [hq.out, e1.out, e3.out, ← e2.out, ← e4.out]
          simp [and_assoc]
        obtain ⟨q, hqe⟩ : ∃ q : Bool, q = decide (k0 = k1 ∧ n0 = n1 ∧ kf0 = kf1) := ⟨_, rfl⟩
        have KC : Hid (∀ W : World, Sees w W → Calls Try.prog 91 #[.pointer (some ⟨c, p + j * 3, none⟩), .pointer (some ⟨c', p' + j * 3, none⟩)] W fun e w' => e = .returned (.bool q) ∧ Below W.heap.size W w') := fun W h => by
          rw [hqe]
          exact l01Same_u k0 n0 kf0 k1 n1 kf1 ⟨hfd.1, hfd.2.1⟩ Akf0 Akf1 Ckf0 Ckf1 c (p + j * 3) c' (p' + j * 3) W (hl_kf0.sees h) (hl_kf1.sees h) (kc h c0) (kc h c1) (kc h c2) (kc h d0) (kc h d1) (kc h d2)
        have HQ := Lib.hid hqe
        have HAT := Lib.hid hat; have HAT' := Lib.hid hat'
        have hj0 : (0 : Int) ≤ (j : Int) := Int.natCast_nonneg _
        have hj1 : (j : Int) < (f0.len : Int) := by omega
        have hj2 : (j : Int) < (f1.len : Int) := by have := HL.out; omega
        clear hfd hq hqe c0 d0 c1 d1 c2 d2 hl_kf0 hl_kf1 e1 e2 e3 e4 hat hat'
        go_wp2_with fail
        go_region_held3 (fun w' => Sees w w')
          (first | exact Sees.drew hw.out | exact Sees.below (Sees.drew hw.out) hb1 | (go_keep; done))
          (first | (go_at_call 91; refine (KC.out _ (Sees.drew hw.out)).mono ?_; rintro e w1 ⟨rfl, hb1⟩))
        have hb2 := Lib.hid (Sees.below (Sees.drew hw.out) hb1)
        clear hb1 KC hw
        cases q
        · have hq2 : Hid (decide (f0 = f1) = false) := by
            show _ = _
            refine decide_eq_false (fun h4 => of_decide_eq_false HQ.out.symm ?_)
            rw [hq'.out] at h4
            exact h4.1
          clear HQ hq'
          go_wp2_with fail
          go_ret
          exact ⟨ret_bool hq2.out.symm, hb2.out⟩
        · have hq2 : Hid ((f0 = f1) = (f0.drop (j + 1) = f1.drop (j + 1))) := by
            show _ = _
            rw [hq'.out]
            have h2 := of_decide_eq_true HQ.out.symm
            simp [h2]
          clear HQ hq'
          go_wp2_with fail
          go_roundw
          case rel => exact ⟨j + 1, by omega, by go_num, hq2, hb2⟩
          case measure => simp [intOf]; omega
      · obtain rfl : j = f0.len := by omega
        have hq2 : Hid (decide (f0 = f1) = true) := by
          show _ = _
          have h1 := hq.out
          rw [Fo.drop_len, HL.out, Fo.drop_len] at h1
          exact decide_eq_true (by rw [h1])
        clear hq
        go_wp2_with fail
        go_ret
        exact ⟨ret_bool hq2.out.symm, hw.out⟩
  · have tl : ((f0.len : Int) != (f1.len : Int)) = true := by rw [bne_iff_ne]; omega
    have HD : Hid (decide (f0 = f1) = false) := decide_eq_false (fun h => hlen (by rw [h]))
    clear hlen
    go_enter Try.func190, Try.ntmps190
    go_wp2_with fail
    go_ret
    exact ⟨ret_bool HD.out.symm, Below.refl _ _⟩

set_option maxHeartbeats 4000000 in
set_option maxRecDepth 100000 in
theorem l04SameStep_any (us0 : Int) (bk0 : Bool) (pa0 : Il) (te0 : Fo) (ac0 : Fo) (us1 : Int) (bk1 : Bool) (pa1 : Il) (te1 : Fo) (ac1 : Fo) (hf_pa0 : pa0.len ≤ 9223372036854775807 ∧ pa0.Fits) (hf_te0 : te0.len ≤ 9223372036854775807 ∧ te0.Fits) (hf_ac0 : ac0.len ≤ 9223372036854775807 ∧ ac0.Fits) (Apa0 Ate0 Aac0 Apa1 Ate1 Aac1 : Option Addr) (Cpa0 Cte0 Cac0 Cpa1 Cte1 Cac1 : Nat) (b o b' o' : Nat) (w : World) (hl_pa0 : pa0.Lies w Apa0) (hl_te0 : te0.Lies w Ate0) (hl_ac0 : ac0.Lies w Aac0) (hl_pa1 : pa1.Lies w Apa1) (hl_te1 : te1.Lies w Ate1) (hl_ac1 : ac1.Lies w Aac1) (g0 : w.cell? ⟨b, o, none⟩ = some (.int .i64 us0)) (g1 : w.cell? ⟨b, o + 1, none⟩ = some (.bool bk0)) (g2 : w.cell? ⟨b, o + 2, none⟩ = some (.slice Apa0 pa0.len Cpa0)) (g3 : w.cell? ⟨b, o + 3, none⟩ = some (.slice Ate0 te0.len Cte0)) (g4 : w.cell? ⟨b, o + 4, none⟩ = some (.slice Aac0 ac0.len Cac0)) (h0 : w.cell? ⟨b', o', none⟩ = some (.int .i64 us1)) (h1 : w.cell? ⟨b', o' + 1, none⟩ = some (.bool bk1)) (h2 : w.cell? ⟨b', o' + 2, none⟩ = some (.slice Apa1 pa1.len Cpa1)) (h3 : w.cell? ⟨b', o' + 3, none⟩ = some (.slice Ate1 te1.len Cte1)) (h4 : w.cell? ⟨b', o' + 4, none⟩ = some (.slice Aac1 ac1.len Cac1)) :
    Calls Try.prog 147 #[.pointer (some ⟨b, o, none⟩), .pointer (some ⟨b', o', none⟩)] w fun e w' => e = .returned (.bool (decide (us0 = us1 ∧ bk0 = bk1 ∧ pa0 = pa1 ∧ te0 = te1 ∧ ac0 = ac1))) ∧ Below w.heap.size w w' := by
  obtain ⟨q2, hq_q2⟩ : ∃ q : Bool, q = decide (pa0 = pa1) := ⟨_, rfl⟩
  have K2 : Hid (∀ W : World, Sees w W → Calls Try.prog 189 #[.slice Apa0 pa0.len Cpa0, .slice Apa1 pa1.len Cpa1] W fun e w' => e = .returned (.bool q2) ∧ Below W.heap.size W w') := fun W h => by
    rw [hq_q2]
    exact (l00Same_any pa0.l pa1.l hf_pa0.1 Apa0 Apa1 Cpa0 Cpa1 W (IntsL.of (hl_pa0.sees h)) (IntsL.of (hl_pa1.sees h))).mono fun e w' ⟨he, hb⟩ => ⟨by rw [he]; simp only [Il.eq_l], hb⟩
  obtain ⟨q3, hq_q3⟩ : ∃ q : Bool, q = decide (te0 = te1) := ⟨_, rfl⟩
  have K3 : Hid (∀ W : World, Sees w W → Calls Try.prog 190 #[.slice Ate0 te0.len Cte0, .slice Ate1 te1.len Cte1] W fun e w' => e = .returned (.bool q3) ∧ Below W.heap.size W w') := fun W h => by
    rw [hq_q3]
    exact l04SameList_u te0 te1 hf_te0 Ate0 Ate1 Cte0 Cte1 W (hl_te0.sees h) (hl_te1.sees h)
  obtain ⟨q4, hq_q4⟩ : ∃ q : Bool, q = decide (ac0 = ac1) := ⟨_, rfl⟩
  have K4 : Hid (∀ W : World, Sees w W → Calls Try.prog 190 #[.slice Aac0 ac0.len Cac0, .slice Aac1 ac1.len Cac1] W fun e w' => e = .returned (.bool q4) ∧ Below W.heap.size W w') := fun W h => by
    rw [hq_q4]
    exact l04SameList_u ac0 ac1 hf_ac0 Aac0 Aac1 Cac0 Cac1 W (hl_ac0.sees h) (hl_ac1.sees h)
  clear hl_pa0 hl_pa1 hl_te0 hl_te1 hl_ac0 hl_ac1
  have HD : Hid (decide (us0 = us1 ∧ bk0 = bk1 ∧ pa0 = pa1 ∧ te0 = te1 ∧ ac0 = ac1) = (decide (us0 = us1) && (decide (bk0 = bk1) && (q2 && (q3 && q4))))) := by
    show _ = _
    rw [hq_q2, hq_q3, hq_q4, Bool.eq_iff_iff]
    first | (simp; done) | (simp [and_assoc]; done)
  clear hq_q2 hq_q3 hq_q4
  by_cases hk : us0 = us1
  case neg =>
    have tk : (us0 == us1) = false := by rw [beq_eq_false_iff_ne]; exact hk
    have HE : Hid (decide (us0 = us1 ∧ bk0 = bk1 ∧ pa0 = pa1 ∧ te0 = te1 ∧ ac0 = ac1) = false) := by show _ = _; rw [HD.out, decide_eq_false hk]; rfl
    clear hk HD
    go_enter Try.func147, Try.ntmps147
    go_wp2_with fail
    refine wp_region_quietC w [(b, o, .int .i64 us0), (b, o + 1, .bool bk0), (b, o + 2, .slice Apa0 pa0.len Cpa0), (b, o + 3, .slice Ate0 te0.len Cte0), (b, o + 4, .slice Aac0 ac0.len Cac0), (b', o', .int .i64 us1), (b', o' + 1, .bool bk1), (b', o' + 2, .slice Apa1 pa1.len Cpa1), (b', o' + 3, .slice Ate1 te1.len Cte1), (b', o' + 4, .slice Aac1 ac1.len Cac1)] (by kernel_rfl) (by kernel_rfl) ⟨Below.refl _ _, g0, g1, g2, g3, g4, h0, h1, h2, h3, h4, trivial⟩ ?_
    repeat (first | go_big_quiet_skip | (go_big_quiet_want; apply Exists.intro; refine ⟨fun W hW => ?_, ?_⟩; focus (have hK := Lib.hid hW; obtain ⟨hs, hc⟩ := hW; simp only [Has, and_true] at hc; go_simp; (first | rfl | exact ⟨rfl, rfl⟩ | ((with_reducible refine quietC_call hK.out (K2.out _ ?_)); exact hs) | ((with_reducible refine quietC_call hK.out (K3.out _ ?_)); exact hs) | ((with_reducible refine quietC_call hK.out (K4.out _ ?_)); exact hs)))) | (go_simp; go_big_quiet_on))
    refine wpQuiet_nil ?_
    intro wq HQ
    have hbq : Below w.heap.size w wq := HQ.1
    clear HQ
    go_wp2_with fail
    go_ret
    exact ⟨ret_bool HE.out.symm, hbq⟩
  have t_us0 : (us0 == us1) = true := by simp [hk]
  rw [decide_eq_true hk] at HD
  clear hk
  by_cases hk : bk0 = bk1
  case neg =>
    have HE : Hid (decide (us0 = us1 ∧ bk0 = bk1 ∧ pa0 = pa1 ∧ te0 = te1 ∧ ac0 = ac1) = false) := by show _ = _; rw [HD.out, decide_eq_false hk]; rfl
    have hy : bk1 = !bk0 := by revert hk; cases bk0 <;> cases bk1 <;> simp
    clear hk HD
    subst hy
    go_enter Try.func147, Try.ntmps147
    go_wp2_with fail
    refine wp_region_quietC w [(b, o, .int .i64 us0), (b, o + 1, .bool bk0), (b, o + 2, .slice Apa0 pa0.len Cpa0), (b, o + 3, .slice Ate0 te0.len Cte0), (b, o + 4, .slice Aac0 ac0.len Cac0), (b', o', .int .i64 us1), (b', o' + 1, .bool (!bk0)), (b', o' + 2, .slice Apa1 pa1.len Cpa1), (b', o' + 3, .slice Ate1 te1.len Cte1), (b', o' + 4, .slice Aac1 ac1.len Cac1)] (by kernel_rfl) (by kernel_rfl) ⟨Below.refl _ _, g0, g1, g2, g3, g4, h0, h1, h2, h3, h4, trivial⟩ ?_
    repeat (first | go_big_quiet_skip | (go_big_quiet_want; apply Exists.intro; refine ⟨fun W hW => ?_, ?_⟩; focus (have hK := Lib.hid hW; obtain ⟨hs, hc⟩ := hW; simp only [Has, and_true] at hc; go_simp; (first | rfl | exact ⟨rfl, rfl⟩ | ((with_reducible refine quietC_call hK.out (K2.out _ ?_)); exact hs) | ((with_reducible refine quietC_call hK.out (K3.out _ ?_)); exact hs) | ((with_reducible refine quietC_call hK.out (K4.out _ ?_)); exact hs)))) | (go_simp; go_big_quiet_on))
    refine wpQuiet_nil ?_
    intro wq HQ
    have hbq : Below w.heap.size w wq := HQ.1
    clear HQ
    go_wp2_with fail
    go_ret
    exact ⟨ret_bool HE.out.symm, hbq⟩
  rw [decide_eq_true hk] at HD
  subst hk
  cases q2
  case false =>
    have HE : Hid (decide (us0 = us1 ∧ bk0 = bk0 ∧ pa0 = pa1 ∧ te0 = te1 ∧ ac0 = ac1) = false) := by show _ = _; rw [HD.out]; rfl
    clear HD
    go_enter Try.func147, Try.ntmps147
    go_wp2_with fail
    refine wp_region_quietC w [(b, o, .int .i64 us0), (b, o + 1, .bool bk0), (b, o + 2, .slice Apa0 pa0.len Cpa0), (b, o + 3, .slice Ate0 te0.len Cte0), (b, o + 4, .slice Aac0 ac0.len Cac0), (b', o', .int .i64 us1), (b', o' + 1, .bool bk0), (b', o' + 2, .slice Apa1 pa1.len Cpa1), (b', o' + 3, .slice Ate1 te1.len Cte1), (b', o' + 4, .slice Aac1 ac1.len Cac1)] (by kernel_rfl) (by kernel_rfl) ⟨Below.refl _ _, g0, g1, g2, g3, g4, h0, h1, h2, h3, h4, trivial⟩ ?_
    repeat (first | go_big_quiet_skip | (go_big_quiet_want; apply Exists.intro; refine ⟨fun W hW => ?_, ?_⟩; focus (have hK := Lib.hid hW; obtain ⟨hs, hc⟩ := hW; simp only [Has, and_true] at hc; go_simp; (first | rfl | exact ⟨rfl, rfl⟩ | ((with_reducible refine quietC_call hK.out (K2.out _ ?_)); exact hs) | ((with_reducible refine quietC_call hK.out (K3.out _ ?_)); exact hs) | ((with_reducible refine quietC_call hK.out (K4.out _ ?_)); exact hs)))) | (go_simp; go_big_quiet_on))
    refine wpQuiet_nil ?_
    intro wq HQ
    have hbq : Below w.heap.size w wq := HQ.1
    clear HQ
    go_wp2_with fail
    go_ret
    exact ⟨ret_bool HE.out.symm, hbq⟩
  cases q3
  case false =>
    have HE : Hid (decide (us0 = us1 ∧ bk0 = bk0 ∧ pa0 = pa1 ∧ te0 = te1 ∧ ac0 = ac1) = false) := by show _ = _; rw [HD.out]; rfl
    clear HD
    go_enter Try.func147, Try.ntmps147
    go_wp2_with fail
    refine wp_region_quietC w [(b, o, .int .i64 us0), (b, o + 1, .bool bk0), (b, o + 2, .slice Apa0 pa0.len Cpa0), (b, o + 3, .slice Ate0 te0.len Cte0), (b, o + 4, .slice Aac0 ac0.len Cac0), (b', o', .int .i64 us1), (b', o' + 1, .bool bk0), (b', o' + 2, .slice Apa1 pa1.len Cpa1), (b', o' + 3, .slice Ate1 te1.len Cte1), (b', o' + 4, .slice Aac1 ac1.len Cac1)] (by kernel_rfl) (by kernel_rfl) ⟨Below.refl _ _, g0, g1, g2, g3, g4, h0, h1, h2, h3, h4, trivial⟩ ?_
    repeat (first | go_big_quiet_skip | (go_big_quiet_want; apply Exists.intro; refine ⟨fun W hW => ?_, ?_⟩; focus (have hK := Lib.hid hW; obtain ⟨hs, hc⟩ := hW; simp only [Has, and_true] at hc; go_simp; (first | rfl | exact ⟨rfl, rfl⟩ | ((with_reducible refine quietC_call hK.out (K2.out _ ?_)); exact hs) | ((with_reducible refine quietC_call hK.out (K3.out _ ?_)); exact hs) | ((with_reducible refine quietC_call hK.out (K4.out _ ?_)); exact hs)))) | (go_simp; go_big_quiet_on))
    refine wpQuiet_nil ?_
    intro wq HQ
    have hbq : Below w.heap.size w wq := HQ.1
    clear HQ
    go_wp2_with fail
    go_ret
    exact ⟨ret_bool HE.out.symm, hbq⟩
  cases q4
  case false =>
    have HE : Hid (decide (us0 = us1 ∧ bk0 = bk0 ∧ pa0 = pa1 ∧ te0 = te1 ∧ ac0 = ac1) = false) := by show _ = _; rw [HD.out]; rfl
    clear HD
    go_enter Try.func147, Try.ntmps147
    go_wp2_with fail
    refine wp_region_quietC w [(b, o, .int .i64 us0), (b, o + 1, .bool bk0), (b, o + 2, .slice Apa0 pa0.len Cpa0), (b, o + 3, .slice Ate0 te0.len Cte0), (b, o + 4, .slice Aac0 ac0.len Cac0), (b', o', .int .i64 us1), (b', o' + 1, .bool bk0), (b', o' + 2, .slice Apa1 pa1.len Cpa1), (b', o' + 3, .slice Ate1 te1.len Cte1), (b', o' + 4, .slice Aac1 ac1.len Cac1)] (by kernel_rfl) (by kernel_rfl) ⟨Below.refl _ _, g0, g1, g2, g3, g4, h0, h1, h2, h3, h4, trivial⟩ ?_
    repeat (first | go_big_quiet_skip | (go_big_quiet_want; apply Exists.intro; refine ⟨fun W hW => ?_, ?_⟩; focus (have hK := Lib.hid hW; obtain ⟨hs, hc⟩ := hW; simp only [Has, and_true] at hc; go_simp; (first | rfl | exact ⟨rfl, rfl⟩ | ((with_reducible refine quietC_call hK.out (K2.out _ ?_)); exact hs) | ((with_reducible refine quietC_call hK.out (K3.out _ ?_)); exact hs) | ((with_reducible refine quietC_call hK.out (K4.out _ ?_)); exact hs)))) | (go_simp; go_big_quiet_on))
    refine wpQuiet_nil ?_
    intro wq HQ
    have hbq : Below w.heap.size w wq := HQ.1
    clear HQ
    go_wp2_with fail
    go_ret
    exact ⟨ret_bool HE.out.symm, hbq⟩
  have HE : Hid (decide (us0 = us1 ∧ bk0 = bk0 ∧ pa0 = pa1 ∧ te0 = te1 ∧ ac0 = ac1) = true) := by show _ = _; rw [HD.out]; rfl
  clear HD
  go_enter Try.func147, Try.ntmps147
  go_wp2_with fail
  refine wp_region_quietC w [(b, o, .int .i64 us0), (b, o + 1, .bool bk0), (b, o + 2, .slice Apa0 pa0.len Cpa0), (b, o + 3, .slice Ate0 te0.len Cte0), (b, o + 4, .slice Aac0 ac0.len Cac0), (b', o', .int .i64 us1), (b', o' + 1, .bool bk0), (b', o' + 2, .slice Apa1 pa1.len Cpa1), (b', o' + 3, .slice Ate1 te1.len Cte1), (b', o' + 4, .slice Aac1 ac1.len Cac1)] (by kernel_rfl) (by kernel_rfl) ⟨Below.refl _ _, g0, g1, g2, g3, g4, h0, h1, h2, h3, h4, trivial⟩ ?_
  repeat (first | go_big_quiet_skip | (go_big_quiet_want; apply Exists.intro; refine ⟨fun W hW => ?_, ?_⟩; focus (have hK := Lib.hid hW; obtain ⟨hs, hc⟩ := hW; simp only [Has, and_true] at hc; go_simp; (first | rfl | exact ⟨rfl, rfl⟩ | ((with_reducible refine quietC_call hK.out (K2.out _ ?_)); exact hs) | ((with_reducible refine quietC_call hK.out (K3.out _ ?_)); exact hs) | ((with_reducible refine quietC_call hK.out (K4.out _ ?_)); exact hs)))) | (go_simp; go_big_quiet_on))
  refine wpQuiet_nil ?_
  intro wq HQ
  have hbq : Below w.heap.size w wq := HQ.1
  clear HQ
  go_wp2_with fail
  go_ret
  exact ⟨ret_bool HE.out.symm, hbq⟩

set_option maxHeartbeats 4000000 in
set_option maxRecDepth 100000 in
theorem l04SameSteps_u (f0 f1 : Ps) (hf' : f0.len ≤ 9223372036854775807 ∧ f0.Fits) (A A' : Option Addr) (C C' : Nat) (w : World) (hl : f0.Lies w A) (hl' : f1.Lies w A') :
    Calls Try.prog 92 #[.slice A f0.len C, .slice A' f1.len C'] w fun e w' => e = .returned (.bool (decide (f0 = f1))) ∧ Below w.heap.size w w' := by
  have hm := hf'.1
  by_cases hlen : f0.len = f1.len
  · have HL := Lib.hid hlen
    have tl : ((f0.len : Int) != (f1.len : Int)) = false := by simp [hlen]
    clear hlen
    have HH := Lib.hid hl; have HH' := Lib.hid hl'; have HF := Lib.hid hf'.2
    clear hl hl' hf'
    go_enter Try.func92, Try.ntmps92
    go_wp2_with fail
    go_loopw [5] (fun i wr => ∃ j : Nat, j ≤ f0.len ∧ i = .int .i64 j ∧ Hid ((f0 = f1) = (f0.drop j = f1.drop j)) ∧ Hid (Below w.heap.size w wr)) (fun i _ => f0.len - (intOf i).toNat)
    case atStart => exact ⟨0, Nat.zero_le _, rfl, (by show _ = _; cases f0 <;> cases f1 <;> rfl), Below.refl _ _⟩
    case round =>
      obtain ⟨j, hj, rfl, hq, hw⟩ := hrel
      clear tl
      by_cases hjl : j < f0.len
      · obtain ⟨c, p, rfl, hat⟩ := HH.out (by rintro rfl; simp [Ps.len] at hjl)
        obtain ⟨c', p', rfl, hat'⟩ := HH'.out (by rintro rfl; have := HL.out; simp [Ps.len] at this; omega)
        obtain ⟨us0, bk0, pa0, te0, ac0, r0, Apa0, Cpa0, Ate0, Cte0, Aac0, Cac0, e1, e2, c0, c1, c2, hl_pa0, c3, hl_te0, c4, hl_ac0⟩ := Ps.Lies.row hat hjl
        obtain ⟨us1, bk1, pa1, te1, ac1, r1, Apa1, Cpa1, Ate1, Cte1, Aac1, Cac1, e3, e4, d0, d1, d2, hl_pa1, d3, hl_te1, d4, hl_ac1⟩ := Ps.Lies.row hat' (by rw [← HL.out]; exact hjl)
        have hfd := Ps.fits_drop HF.out j
        rw [e1.out] at hfd
        have hq' : Hid ((f0 = f1) = ((us0 = us1 ∧ bk0 = bk1 ∧ pa0 = pa1 ∧ te0 = te1 ∧ ac0 = ac1) ∧ f0.drop (j + 1) = f1.drop (j + 1))) := by
          show _ = _
          rw [hq.out, e1.out, e3.out, ← e2.out, ← e4.out]
          simp [and_assoc]
        obtain ⟨q, hqe⟩ : ∃ q : Bool, q = decide (us0 = us1 ∧ bk0 = bk1 ∧ pa0 = pa1 ∧ te0 = te1 ∧ ac0 = ac1) := ⟨_, rfl⟩
        have KC : Hid (∀ W : World, Sees w W → Calls Try.prog 147 #[.pointer (some ⟨c, p + j * 5, none⟩), .pointer (some ⟨c', p' + j * 5, none⟩)] W fun e w' => e = .returned (.bool q) ∧ Below W.heap.size W w') := fun W h => by
          rw [hqe]
          exact l04SameStep_any us0 bk0 pa0 te0 ac0 us1 bk1 pa1 te1 ac1 (hfd.1) (hfd.2.1) (hfd.2.2.1) Apa0 Ate0 Aac0 Apa1 Ate1 Aac1 Cpa0 Cte0 Cac0 Cpa1 Cte1 Cac1 c (p + j * 5) c' (p' + j * 5) W (hl_pa0.sees h) (hl_te0.sees h) (hl_ac0.sees h) (hl_pa1.sees h) (hl_te1.sees h) (hl_ac1.sees h) (kc h c0) (kc h c1) (kc h c2) (kc h c3) (kc h c4) (kc h d0) (kc h d1) (kc h d2) (kc h d3) (kc h d4)
        have HQ := Lib.hid hqe
        have HAT := Lib.hid hat; have HAT' := Lib.hid hat'
        have hj0 : (0 : Int) ≤ (j : Int) := Int.natCast_nonneg _
        have hj1 : (j : Int) < (f0.len : Int) := by omega
        have hj2 : (j : Int) < (f1.len : Int) := by have := HL.out; omega
        clear hfd hq hqe c0 d0 c1 d1 c2 d2 c3 d3 c4 d4 hl_pa0 hl_pa1 hl_te0 hl_te1 hl_ac0 hl_ac1 e1 e2 e3 e4 hat hat'
        go_wp2_with fail
        go_region_held3 (fun w' => Sees w w')
          (first | exact Sees.drew hw.out | exact Sees.below (Sees.drew hw.out) hb1 | (go_keep; done))
          (first | (go_at_call 147; refine (KC.out _ (Sees.drew hw.out)).mono ?_; rintro e w1 ⟨rfl, hb1⟩))
        have hb2 := Lib.hid (Sees.below (Sees.drew hw.out) hb1)
        clear hb1 KC hw
        cases q
        · have hq2 : Hid (decide (f0 = f1) = false) := by
            show _ = _
            refine decide_eq_false (fun h4 => of_decide_eq_false HQ.out.symm ?_)
            rw [hq'.out] at h4
            exact h4.1
          clear HQ hq'
          go_wp2_with fail
          go_ret
          exact ⟨ret_bool hq2.out.symm, hb2.out⟩
        · have hq2 : Hid ((f0 = f1) = (f0.drop (j + 1) = f1.drop (j + 1))) := by
            show _ = _
            rw [hq'.out]
            have h2 := of_decide_eq_true HQ.out.symm
            simp [h2]
          clear HQ hq'
          go_wp2_with fail
          go_roundw
          case rel => exact ⟨j + 1, by omega, by go_num, hq2, hb2⟩
          case measure => simp [intOf]; omega
      · obtain rfl : j = f0.len := by omega
        have hq2 : Hid (decide (f0 = f1) = true) := by
          show _ = _
          have h1 := hq.out
          rw [Ps.drop_len, HL.out, Ps.drop_len] at h1
          exact decide_eq_true (by rw [h1])
        clear hq
        go_wp2_with fail
        go_ret
        exact ⟨ret_bool hq2.out.symm, hw.out⟩
  · have tl : ((f0.len : Int) != (f1.len : Int)) = true := by rw [bne_iff_ne]; omega
    have HD : Hid (decide (f0 = f1) = false) := decide_eq_false (fun h => hlen (by rw [h]))
    clear hlen
    go_enter Try.func92, Try.ntmps92
    go_wp2_with fail
    go_ret
    exact ⟨ret_bool HD.out.symm, Below.refl _ _⟩

end Go.Proofs.YtlpgkhdecccmlaaR
