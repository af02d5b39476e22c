/- Contracts of spec.l06Same, spec.SameProg. -/
import Derived.Test.YtlfafcbieeambaaPg
import Derived.Test.YtlfafcbieeambaaSame
import Derived.Test.YtlfafcbieeambaaQuietC
import Derived.Deep.RegionHeld3
import Derived.Lib.SmallJoins
namespace Go.Proofs.Ytlfafcbieeambaa
open Go.RowKit

set_option maxHeartbeats 4000000 in
set_option maxRecDepth 100000 in
theorem l06Same_any : ∀ (N : Nat) (f0 f1 : Pg), f0.nodes < N → f0.len ≤ 9223372036854775807 → f0.Fits → ∀ (cf0 cf1 : Fo), cf0.len ≤ 9223372036854775807 → cf0.Fits → ∀ (k0 n0 ck0 cn0 k1 n1 ck1 cn1 : Int) (A B A' B' : Option Addr) (C D C' D' b o b' o' : Nat) (w : World), cf0.Lies w A → f0.Lies w B → cf1.Lies w A' → f1.Lies w B' →
      w.cell? ⟨b, o, none⟩ = some (.int .i64 k0) → w.cell? ⟨b, o + 1, none⟩ = some (.int .i64 n0) → w.cell? ⟨b, o + 2, none⟩ = some (.int .i64 ck0) → w.cell? ⟨b, o + 3, none⟩ = some (.int .i64 cn0) → w.cell? ⟨b, o + 4, none⟩ = some (.slice A cf0.len C) → w.cell? ⟨b, o + 5, none⟩ = some (.slice B f0.len D) →
      w.cell? ⟨b', o', none⟩ = some (.int .i64 k1) → w.cell? ⟨b', o' + 1, none⟩ = some (.int .i64 n1) → w.cell? ⟨b', o' + 2, none⟩ = some (.int .i64 ck1) → w.cell? ⟨b', o' + 3, none⟩ = some (.int .i64 cn1) → w.cell? ⟨b', o' + 4, none⟩ = some (.slice A' cf1.len C') → w.cell? ⟨b', o' + 5, none⟩ = some (.slice B' f1.len D') →
      Calls Try.prog 55 #[.pointer (some ⟨b, o, none⟩), .pointer (some ⟨b', o', none⟩)] w fun e w' => e = .returned (.bool (decide (k0 = k1 ∧ n0 = n1 ∧ (ck0 = ck1 ∧ cn0 = cn1 ∧ cf0 = cf1) ∧ f0 = f1))) ∧ Below w.heap.size w w' := by
  intro N
  induction N with
  | zero => intro f0 f1 hN; exact absurd hN (Nat.not_lt_zero _)
  | succ N ih =>
    intro f0 f1 hN hm hf cf0 cf1 hcm hcf k0 n0 ck0 cn0 k1 n1 ck1 cn1 A B A' B' C D C' D' b o b' o' w hA hB hA' hB' g0 g1 g2 g3 g4 g5 h0 h1 h2 h3 h4 h5
    have IH := Lib.hid ih; clear ih
    obtain ⟨q1, hq1⟩ : ∃ q1 : Bool, q1 = decide (ck0 = ck1 ∧ cn0 = cn1 ∧ cf0 = cf1) := ⟨_, rfl⟩
    have K1 : Hid (∀ W : World, Sees w W → Calls Try.prog 113 #[.pointer (some ⟨b, o + 2, none⟩), .pointer (some ⟨b', o' + 2, none⟩)] W fun e w' => e = .returned (.bool q1) ∧ Below W.heap.size W w') := fun W h => by
      rw [hq1]
      exact (l01Same_any (cf0.nodes + 1) cf0 cf1 (Nat.lt_succ_self _) hcm hcf ck0 cn0 ck1 cn1 A A' C C' b (o + 2) b' (o' + 2) W (hA.sees h) (hA'.sees h) (kc h g2) (kc h g3) (kc h g4) (kc h h2) (kc h h3) (kc h h4)).mono fun e w' ⟨he, m, hm⟩ => ⟨he, by rw [hm]; exact Joins.below_draws _ _ m⟩
    by_cases hk : k0 = k1
    case neg =>
      have tk : (k0 != k1) = true := by rw [bne_iff_ne]; exact hk
      have HD : Hid (decide (k0 = k1 ∧ n0 = n1 ∧ (ck0 = ck1 ∧ cn0 = cn1 ∧ cf0 = cf1) ∧ f0 = f1) = false) := decide_eq_false (fun h => hk h.1)
      clear hk hq1
      go_enter Try.func55, Try.ntmps55
      go_wp2_with fail
      refine wp_region_quietC w [(b, o, .int .i64 k0), (b, o + 1, .int .i64 n0), (b, o + 2, .int .i64 ck0), (b, o + 3, .int .i64 cn0), (b, o + 4, .slice A cf0.len C), (b, o + 5, .slice B f0.len D), (b', o', .int .i64 k1), (b', o' + 1, .int .i64 n1), (b', o' + 2, .int .i64 ck1), (b', o' + 3, .int .i64 cn1), (b', o' + 4, .slice A' cf1.len C'), (b', o' + 5, .slice B' f1.len D')] (by kernel_rfl) (by kernel_rfl) ⟨Below.refl _ _, g0, g1, g2, g3, g4, g5, h0, h1, h2, h3, h4, h5, trivial⟩ ?_
      repeat (first | go_big_quiet_skip | (go_big_quiet_want; apply Exists.intro; refine ⟨fun W hW => ?_, ?_⟩; focus (have hK := Lib.hid hW; obtain ⟨hs, hc⟩ := hW; simp only [Has, and_true] at hc; go_simp; (first | rfl | exact ⟨rfl, rfl⟩ | exact quietC_call hK.out (K1.out _ hs)))) | (go_simp; go_big_quiet_on))
      refine wpQuiet_nil ?_
      intro w1 H1
      have hb : Below w.heap.size w w1 := H1.1
      clear H1
      go_wp2_with fail
      go_ret
      exact ⟨ret_bool HD.out.symm, hb⟩
    have tk : (k0 != k1) = false := by simp [hk]
    by_cases hn : n0 = n1
    case neg =>
      have tn : (n0 != n1) = true := by rw [bne_iff_ne]; exact hn
      have HD : Hid (decide (k0 = k1 ∧ n0 = n1 ∧ (ck0 = ck1 ∧ cn0 = cn1 ∧ cf0 = cf1) ∧ f0 = f1) = false) := decide_eq_false (fun h => hn h.2.1)
      clear hk hn hq1
      go_enter Try.func55, Try.ntmps55
      go_wp2_with fail
      refine wp_region_quietC w [(b, o, .int .i64 k0), (b, o + 1, .int .i64 n0), (b, o + 2, .int .i64 ck0), (b, o + 3, .int .i64 cn0), (b, o + 4, .slice A cf0.len C), (b, o + 5, .slice B f0.len D), (b', o', .int .i64 k1), (b', o' + 1, .int .i64 n1), (b', o' + 2, .int .i64 ck1), (b', o' + 3, .int .i64 cn1), (b', o' + 4, .slice A' cf1.len C'), (b', o' + 5, .slice B' f1.len D')] (by kernel_rfl) (by kernel_rfl) ⟨Below.refl _ _, g0, g1, g2, g3, g4, g5, h0, h1, h2, h3, h4, h5, trivial⟩ ?_
      repeat (first | go_big_quiet_skip | (go_big_quiet_want; apply Exists.intro; refine ⟨fun W hW => ?_, ?_⟩; focus (have hK := Lib.hid hW; obtain ⟨hs, hc⟩ := hW; simp only [Has, and_true] at hc; go_simp; (first | rfl | exact ⟨rfl, rfl⟩ | exact quietC_call hK.out (K1.out _ hs)))) | (go_simp; go_big_quiet_on))
      refine wpQuiet_nil ?_
      intro w1 H1
      have hb : Below w.heap.size w w1 := H1.1
      clear H1
      go_wp2_with fail
      go_ret
      exact ⟨ret_bool HD.out.symm, hb⟩
    have tn : (n0 != n1) = false := by simp [hn]
    by_cases hlen : f0.len = f1.len
    case neg =>
      have tl : ((f0.len : Int) != (f1.len : Int)) = true := by rw [bne_iff_ne]; omega
      have HD : Hid (decide (k0 = k1 ∧ n0 = n1 ∧ (ck0 = ck1 ∧ cn0 = cn1 ∧ cf0 = cf1) ∧ f0 = f1) = false) := decide_eq_false (fun h => hlen (by rw [h.2.2.2]))
      clear hk hn hlen hq1
      go_enter Try.func55, Try.ntmps55
      go_wp2_with fail
      refine wp_region_quietC w [(b, o, .int .i64 k0), (b, o + 1, .int .i64 n0), (b, o + 2, .int .i64 ck0), (b, o + 3, .int .i64 cn0), (b, o + 4, .slice A cf0.len C), (b, o + 5, .slice B f0.len D), (b', o', .int .i64 k1), (b', o' + 1, .int .i64 n1), (b', o' + 2, .int .i64 ck1), (b', o' + 3, .int .i64 cn1), (b', o' + 4, .slice A' cf1.len C'), (b', o' + 5, .slice B' f1.len D')] (by kernel_rfl) (by kernel_rfl) ⟨Below.refl _ _, g0, g1, g2, g3, g4, g5, h0, h1, h2, h3, h4, h5, trivial⟩ ?_
      repeat (first | go_big_quiet_skip | (go_big_quiet_want; apply Exists.intro; refine ⟨fun W hW => ?_, ?_⟩; focus (have hK := Lib.hid hW; obtain ⟨hs, hc⟩ := hW; simp only [Has, and_true] at hc; go_simp; (first | rfl | exact ⟨rfl, rfl⟩ | exact quietC_call hK.out (K1.out _ hs)))) | (go_simp; go_big_quiet_on))
      refine wpQuiet_nil ?_
      intro w1 H1
      have hb : Below w.heap.size w w1 := H1.1
      clear H1
      go_wp2_with fail
      go_ret
      exact ⟨ret_bool HD.out.symm, hb⟩
    have tl : ((f0.len : Int) != (f1.len : Int)) = false := by simp [hlen]
    have HL := Lib.hid hlen
    cases q1
    case false =>
      have HD : Hid (decide (k0 = k1 ∧ n0 = n1 ∧ (ck0 = ck1 ∧ cn0 = cn1 ∧ cf0 = cf1) ∧ f0 = f1) = false) := decide_eq_false (fun h => of_decide_eq_false hq1.symm h.2.2.1)
      clear hk hn hlen hq1
      go_enter Try.func55, Try.ntmps55
      go_wp2_with fail
      refine wp_region_quietC w [(b, o, .int .i64 k0), (b, o + 1, .int .i64 n0), (b, o + 2, .int .i64 ck0), (b, o + 3, .int .i64 cn0), (b, o + 4, .slice A cf0.len C), (b, o + 5, .slice B f0.len D), (b', o', .int .i64 k1), (b', o' + 1, .int .i64 n1), (b', o' + 2, .int .i64 ck1), (b', o' + 3, .int .i64 cn1), (b', o' + 4, .slice A' cf1.len C'), (b', o' + 5, .slice B' f1.len D')] (by kernel_rfl) (by kernel_rfl) ⟨Below.refl _ _, g0, g1, g2, g3, g4, g5, h0, h1, h2, h3, h4, h5, trivial⟩ ?_
      repeat (first | go_big_quiet_skip | (go_big_quiet_want; apply Exists.intro; refine ⟨fun W hW => ?_, ?_⟩; focus (have hK := Lib.hid hW; obtain ⟨hs, hc⟩ := hW; simp only [Has, and_true] at hc; go_simp; (first | rfl | exact ⟨rfl, rfl⟩ | exact quietC_call hK.out (K1.out _ hs)))) | (go_simp; go_big_quiet_on))
      refine wpQuiet_nil ?_
      intro w1 H1
      have hb : Below w.heap.size w w1 := H1.1
      clear H1
      go_wp2_with fail
      go_ret
      exact ⟨ret_bool HD.out.symm, hb⟩
    have hd : Hid (decide (k0 = k1 ∧ n0 = n1 ∧ (ck0 = ck1 ∧ cn0 = cn1 ∧ cf0 = cf1) ∧ f0 = f1) = decide (f0 = f1)) := by
      show _ = _
      have h := of_decide_eq_true hq1.symm
      simp [hk, hn, h]
    have HHB := Lib.hid hB; have HHB' := Lib.hid hB'; have HF := Lib.hid hf
    clear hk hn hlen hq1 hA hA' hB hB' hf
    go_enter Try.func55, Try.ntmps55
    go_wp2_with fail
    refine wp_region_quietC w [(b, o, .int .i64 k0), (b, o + 1, .int .i64 n0), (b, o + 2, .int .i64 ck0), (b, o + 3, .int .i64 cn0), (b, o + 4, .slice A cf0.len C), (b, o + 5, .slice B f0.len D), (b', o', .int .i64 k1), (b', o' + 1, .int .i64 n1), (b', o' + 2, .int .i64 ck1), (b', o' + 3, .int .i64 cn1), (b', o' + 4, .slice A' cf1.len C'), (b', o' + 5, .slice B' f1.len D')] (by kernel_rfl) (by kernel_rfl) ⟨Below.refl _ _, g0, g1, g2, g3, g4, g5, h0, h1, h2, h3, h4, h5, trivial⟩ ?_
    repeat (first | go_big_quiet_skip | (go_big_quiet_want; apply Exists.intro; refine ⟨fun W hW => ?_, ?_⟩; focus (have hK := Lib.hid hW; obtain ⟨hs, hc⟩ := hW; simp only [Has, and_true] at hc; go_simp; (first | rfl | exact ⟨rfl, rfl⟩ | exact quietC_call hK.out (K1.out _ hs)))) | (go_simp; go_big_quiet_on))
    refine wpQuiet_nil ?_
    intro w1 H1
    have hb : Below w.heap.size w w1 := H1.1
    have HB0 := Lib.hid hb
    have x5 := kc hb g5; have y5 := kc hb h5
    clear H1 hb tk tn tl K1
    go_wp2_with fail
    clear x5 y5
    go_loopw [5] (fun i wr => ∃ j : Nat, j ≤ f0.len ∧ i = .int .i64 j ∧ Hid ((f0 = f1) = (f0.drop j = f1.drop j)) ∧ Hid (Below w.heap.size w wr)) (fun i _ => f0.len - (intOf i).toNat)
    case atStart => exact ⟨0, Nat.zero_le _, rfl, (by show _ = _; rfl), HB0⟩
    case round =>
      obtain ⟨j, hj, rfl, hq, hB0⟩ := hrel
      clear HB0
      have hb := hB0.out
      have x5 := kc hb g5; have y5 := kc hb h5
      by_cases hjl : j < f0.len
      · obtain ⟨c, p, rfl, hat⟩ := HHB.out (by rintro rfl; simp [Pg.len] at hjl)
        obtain ⟨c', p', rfl, hat'⟩ := HHB'.out (by rintro rfl; have := HL.out; simp [Pg.len] at this; omega)
        obtain ⟨k2, n2, ck2, cn2, cf2, ks, r, A1, C1, B1, D1, e1, e2, c0, c1, c2, c3, c4, hA1, c5, hB1⟩ := Pg.Lies.row hat hjl
        obtain ⟨k3, n3, ck3, cn3, cf3, ks', r', A2, C2, B2, D2, e3, e4, d0, d1, d2, d3, d4, hA2, d5, hB2⟩ := Pg.Lies.row hat' (by rw [← HL.out]; exact hjl)
        have hfd := Pg.fits_drop HF.out j
        have hnd := f0.nodes_drop j
        rw [e1.out] at hfd hnd
        have hkn : ks.nodes < N := by simp only [Pg.nodes] at hnd; omega
        have hq' : Hid ((f0 = f1) = ((k2 = k3 ∧ n2 = n3 ∧ (ck2 = ck3 ∧ cn2 = cn3 ∧ cf2 = cf3) ∧ ks = ks') ∧ f0.drop (j + 1) = f1.drop (j + 1))) := by
          show _ = _
          rw [hq.out, e1.out, e3.out, ← e2.out, ← e4.out]
          simp [and_assoc]
        obtain ⟨q, hqe⟩ : ∃ q : Bool, q = decide (k2 = k3 ∧ n2 = n3 ∧ (ck2 = ck3 ∧ cn2 = cn3 ∧ cf2 = cf3) ∧ ks = ks') := ⟨_, rfl⟩
        have KC : Hid (∀ W : World, Sees w W → Calls Try.prog 55 #[.pointer (some ⟨c, p + j * 6, none⟩), .pointer (some ⟨c', p' + j * 6, none⟩)] W fun e w' => e = .returned (.bool q) ∧ Below W.heap.size W w') := fun W h => by
          rw [hqe]
          exact IH.out ks ks' hkn hfd.2.1 hfd.2.2.1 cf2 cf3 hfd.1.1 hfd.1.2 k2 n2 ck2 cn2 k3 n3 ck3 cn3 A1 B1 A2 B2 C1 D1 C2 D2 c _ c' _ W (hA1.sees h) (hB1.sees h) (hA2.sees h) (hB2.sees h) (kc h c0) (kc h c1) (kc h c2) (kc h c3) (kc h c4) (kc h c5) (kc h d0) (kc h d1) (kc h d2) (kc h d3) (kc h d4) (kc h d5)
        have HQ := Lib.hid hqe
        have HAT := Lib.hid hat; have HAT' := Lib.hid hat'
        have hj0 : (0 : Int) ≤ (j : Int) := Int.natCast_nonneg _
        have hj1 : (j : Int) < (f0.len : Int) := by omega
        have hj2 : (j : Int) < (f1.len : Int) := by have := HL.out; omega
        clear hfd hnd hq hqe c0 c1 c2 c3 c4 c5 d0 d1 d2 d3 d4 d5 hA1 hB1 hA2 hB2 e1 e2 e3 e4 hat hat' IH
        go_wp2_with fail
        go_region_held3 (fun w' => Sees w w' ∧ w'.cell? ⟨b, o + 5, none⟩ = some (.slice (some ⟨c, p, none⟩) f0.len D) ∧ w'.cell? ⟨b', o' + 5, none⟩ = some (.slice (some ⟨c', p', none⟩) f1.len D'))
          (first | exact ⟨Sees.drew hb, x5, y5⟩ | exact ⟨Sees.below (Sees.drew hb) hb1, kc hb1 x5, kc hb1 y5⟩ | (go_keep; done))
          (first | (go_at_call 55; refine (KC.out _ (Sees.drew hb)).mono ?_; rintro e w1 ⟨rfl, hb1⟩))
        have hb2 := Lib.hid (Sees.below (Sees.drew hb) hb1)
        clear hb hb1 x5 y5 KC hB0
        cases q
        · have hq2 : Hid (decide (k0 = k1 ∧ n0 = n1 ∧ (ck0 = ck1 ∧ cn0 = cn1 ∧ cf0 = cf1) ∧ f0 = f1) = false) := by
            show _ = _
            rw [hd.out]
            refine decide_eq_false (fun h4 => of_decide_eq_false HQ.out.symm ?_)
            rw [hq'.out] at h4
            exact h4.1
          clear HQ hq'
          go_wp2_with fail
          go_ret
          exact ⟨ret_bool hq2.out.symm, hb2.out⟩
        · have hq2 : Hid ((f0 = f1) = (f0.drop (j + 1) = f1.drop (j + 1))) := by
            show _ = _
            rw [hq'.out]
            have h2 := of_decide_eq_true HQ.out.symm
            simp [h2]
          clear HQ hq'
          go_wp2_with fail
          go_roundw
          case rel => exact ⟨j + 1, by omega, by go_num, hq2, hb2⟩
          case measure => simp [intOf]; omega
      · obtain rfl : j = f0.len := by omega
        have hq2 : Hid (decide (k0 = k1 ∧ n0 = n1 ∧ (ck0 = ck1 ∧ cn0 = cn1 ∧ cf0 = cf1) ∧ f0 = f1) = true) := by
          show _ = _
          have h1 := hq.out
          rw [Pg.drop_len, HL.out, Pg.drop_len] at h1
          rw [hd.out]
          exact decide_eq_true (by rw [h1])
        clear hq
        go_wp2_with fail
        go_ret
        exact ⟨ret_bool hq2.out.symm, hb⟩

set_option maxHeartbeats 1000000 in
theorem specSameProg_any (cf0 : Fo) (f0 : Pg) (cf1 : Fo) (f1 : Pg) (hcm : cf0.len ≤ 9223372036854775807) (hcf : cf0.Fits) (hm : f0.len ≤ 9223372036854775807) (hf : f0.Fits) (k0 n0 ck0 cn0 k1 n1 ck1 cn1 : Int) (A B A' B' : Option Addr) (C D C' D' : Nat) (w : World) (hA : cf0.Lies w A) (hB : f0.Lies w B) (hA' : cf1.Lies w A') (hB' : f1.Lies w B') :
    Calls Try.prog 21 #[.agg #[.int .i64 k0, .int .i64 n0, .int .i64 ck0, .int .i64 cn0, .slice A cf0.len C, .slice B f0.len D], .agg #[.int .i64 k1, .int .i64 n1, .int .i64 ck1, .int .i64 cn1, .slice A' cf1.len C', .slice B' f1.len D']] w fun e w' => e = .returned (.bool (decide (k0 = k1 ∧ n0 = n1 ∧ (ck0 = ck1 ∧ cn0 = cn1 ∧ cf0 = cf1) ∧ f0 = f1))) ∧ Below w.heap.size w w' := by
  obtain ⟨q, hq⟩ : ∃ q : Bool, q = decide (k0 = k1 ∧ n0 = n1 ∧ (ck0 = ck1 ∧ cn0 = cn1 ∧ cf0 = cf1) ∧ f0 = f1) := ⟨_, rfl⟩
  have HC : Hid (∀ W : World, St w [(w.heap.size, 0, .int .i64 k0), (w.heap.size, 1, .int .i64 n0), (w.heap.size, 2, .int .i64 ck0), (w.heap.size, 3, .int .i64 cn0), (w.heap.size, 4, .slice A cf0.len C), (w.heap.size, 5, .slice B f0.len D), (w.heap.size + 1, 0, .int .i64 k1), (w.heap.size + 1, 1, .int .i64 n1), (w.heap.size + 1, 2, .int .i64 ck1), (w.heap.size + 1, 3, .int .i64 cn1), (w.heap.size + 1, 4, .slice A' cf1.len C'), (w.heap.size + 1, 5, .slice B' f1.len D')] W →
      Calls Try.prog 55 #[.pointer (some ⟨w.heap.size, 0, none⟩), .pointer (some ⟨w.heap.size + 1, 0, none⟩)] W fun e w' => e = .returned (.bool q) ∧ Below W.heap.size W w') :=
    fun W ⟨h, a0, a1, a2, a3, a4, a5, b0, b1, b2, b3, b4, b5, _⟩ => by
      rw [hq]
      exact l06Same_any (f0.nodes + 1) f0 f1 (Nat.lt_succ_self _) hm hf cf0 cf1 hcm hcf k0 n0 ck0 cn0 k1 n1 ck1 cn1 A B A' B' C D C' D' w.heap.size 0 (w.heap.size + 1) 0 W (hA.sees h) (hB.sees h) (hA'.sees h) (hB'.sees h) a0 a1 a2 a3 a4 a5 b0 b1 b2 b3 b4 b5
  rw [← hq]
  clear hq hA hB hA' hB'
  go_enter Try.func21, Try.ntmps21
  go_wp2_with fail
  refine (HC.out _ ⟨(by unfold Sees; go_grown), (by simp [go_sem]), (by simp [go_sem]), (by simp [go_sem]), (by simp [go_sem]), (by simp [go_sem]), (by simp [go_sem]), (by simp [go_sem]), (by simp [go_sem]), (by simp [go_sem]), (by simp [go_sem]), (by simp [go_sem]), (by simp [go_sem]), trivial⟩).mono ?_
  rintro e w1 ⟨rfl, hb⟩
  have B1 : Sees w w1 := Sees.below (by unfold Sees; go_grown) hb
  clear hb
  go_wp2_with fail
  go_ret
  exact ⟨rfl, B1⟩
end Go.Proofs.Ytlfafcbieeambaa
