/- Contracts of spec.l04Claim, l04Ok, ValidProof. -/
import Derived.Test.YtlpgkhdecccmlaaRPvT
namespace Go.Proofs.YtlpgkhdecccmlaaR
open Go.RowKit
set_option linter.unusedVariables false
attribute [local go_sem ↓] Go.wp_at_zero Go.wp_at_succ

set_option maxHeartbeats 12000000 in
set_option maxRecDepth 100000 in
theorem l04Claim_any (t a : Int) (lk : Int) (ln : Int) (lf : Fo) (rk : Int) (rn : Int) (rf : Fo) (ru : Int) (re : Int) (st : Ps) (hf_lf : lf.len ≤ 9223372036854775807 ∧ lf.Fits) (hf_rf : rf.len ≤ 9223372036854775807 ∧ rf.Fits) (hf_st : st.len ≤ 9223372036854775807 ∧ st.Fits) (hn_lf : lf.nodes ≤ 1048576) (hn_rf : rf.nodes ≤ 1048576) (hn_st : st.nodes ≤ 1048576) (Alf Arf Ast : Option Addr) (Clf Crf Cst : Nat) (b o : Nat) (w : World) (hl_lf : lf.Lies w Alf) (hl_rf : rf.Lies w Arf) (hl_st : st.Lies w Ast) (g0 : w.cell? ⟨b, o, none⟩ = some (.int .i64 lk)) (g1 : w.cell? ⟨b, o + 1, none⟩ = some (.int .i64 ln)) (g2 : w.cell? ⟨b, o + 2, none⟩ = some (.slice Alf lf.len Clf)) (g3 : w.cell? ⟨b, o + 3, none⟩ = some (.int .i64 rk)) (g4 : w.cell? ⟨b, o + 4, none⟩ = some (.int .i64 rn)) (g5 : w.cell? ⟨b, o + 5, none⟩ = some (.slice Arf rf.len Crf)) (g6 : w.cell? ⟨b, o + 6, none⟩ = some (.int .i64 ru)) (g7 : w.cell? ⟨b, o + 7, none⟩ = some (.int .i64 re)) (g8 : w.cell? ⟨b, o + 8, none⟩ = some (.slice Ast st.len Cst)) :
    Calls Try.prog 154 #[.agg #[.int .i64 t, .int .i64 a], .pointer (some ⟨b, o, none⟩)] w fun e w' => e = .returned (.bool (claimB t a lk ln lf rk rn rf ru re st)) ∧ Below w.heap.size w w' := by
  obtain ⟨q0, hq0⟩ : ∃ q : Bool, q = validE t a lk ln lf := ⟨_, rfl⟩
  obtain ⟨q1, hq1⟩ : ∃ q : Bool, q = validE t a rk rn rf := ⟨_, rfl⟩
  obtain ⟨q2, hq2⟩ : ∃ q : Bool, q = inB ru 1 3 := ⟨_, rfl⟩
  obtain ⟨q3, hq3⟩ : ∃ q : Bool, q = inB re 0 39 := ⟨_, rfl⟩
  have K0 : Hid (∀ W : World, Sees w W → Calls Try.prog 60 #[.agg #[.int .i64 t, .int .i64 a], .pointer (some ⟨b, o, none⟩)] W fun e w' => e = .returned (.bool q0) ∧ Below W.heap.size W w') := fun W h => by rw [hq0]; exact l01Ok_any lf hn_lf hf_lf.2 t a lk ln Alf Clf b o W (hl_lf.sees h) (kc h g0) (kc h g1) (kc h g2)
  have K1 : Hid (∀ W : World, Sees w W → Calls Try.prog 60 #[.agg #[.int .i64 t, .int .i64 a], .pointer (some ⟨b, o + 3, none⟩)] W fun e w' => e = .returned (.bool q1) ∧ Below W.heap.size W w') := fun W h => by rw [hq1]; exact l01Ok_any rf hn_rf hf_rf.2 t a rk rn Arf Crf b (o + 3) W (hl_rf.sees h) (kc h g3) (kc h (by rw [Nat.add_assoc]; exact g4)) (kc h (by rw [Nat.add_assoc]; exact g5))
  have K2 : Hid (∀ W : World, Calls Try.prog 81 #[.int .i64 ru, .int .i64 1, .int .i64 3] W fun e w' => e = .returned (.bool q2) ∧ Below W.heap.size W w') := fun W => (in_any ru 1 3 W).mono fun e w' h => ⟨by rw [hq2]; exact h.1, by rw [← h.2]; exact Below.refl _ _⟩
  have K3 : Hid (∀ W : World, Calls Try.prog 81 #[.int .i64 re, .int .i64 0, .int .i64 39] W fun e w' => e = .returned (.bool q3) ∧ Below W.heap.size W w') := fun W => (in_any re 0 39 W).mono fun e w' h => ⟨by rw [hq3]; exact h.1, by rw [← h.2]; exact Below.refl _ _⟩
  have HD : Hid (claimB t a lk ln lf rk rn rf ru re st = (q0 && (q1 && (q2 && (q3 && (if ru = 1 then decide (re = 0) && (!decide ((60 : Int) < (st.len : Int)) && st.allG (stepB t a)) else !decide ((0 : Int) < (st.len : Int)))))))) := by
    show _ = _
    unfold claimB validQ
    rw [hq0, hq1, hq2, hq3]
    generalize validE t a lk ln lf = v0; generalize validE t a rk rn rf = v1; generalize st.allG (stepB t a) = v2
    cases v0 <;> cases v1 <;> simp only [Bool.false_and, Bool.true_and, Bool.and_false]
    by_cases h1 : ru = 1
    · have e1 : inB ru 1 3 = true := by unfold inB; simp; omega
      rw [if_pos h1, if_pos h1, e1]
      by_cases h2 : re = 0
      · have e2 : inB re 0 39 = true := by unfold inB; simp; omega
        have e3 : decide ((st.len : Int) ≤ 60) = !decide ((60 : Int) < (st.len : Int)) := by rw [Bool.eq_iff_iff]; simp
        rw [e2, e3]; simp
      · simp [h2]
    · rw [if_neg h1, if_neg h1]
      have e1 : inB ru 1 3 = (decide (ru = 2) || decide (ru = 3)) := by unfold inB; rw [Bool.eq_iff_iff]; simp; omega
      have e2 : inB re 0 39 = belowB re 40 := by unfold inB belowB; rw [Bool.eq_iff_iff]; simp; omega
      have e3 : decide ((st.len : Int) = 0) = !decide ((0 : Int) < (st.len : Int)) := by rw [Bool.eq_iff_iff]; simp
      rw [e1, e2, e3]
  have HA := Lib.hid hl_st; have HF := Lib.hid hf_st; have HN := Lib.hid hn_st
  have l1 := hf_st.1
  have HS0 : Hid (St w [(w.heap.size, 0, .int .i64 t), (w.heap.size, 1, .int .i64 a), (b, o + 6, .int .i64 ru), (b, o + 7, .int .i64 re), (b, o + 8, .slice Ast st.len Cst)] (w.alloc (.cells #[.int .i64 t, .int .i64 a] 31))) := ⟨(by unfold Sees; go_grown), (by simp [go_sem]), (by simp [go_sem]), ka _ g6, ka _ g7, ka _ g8, trivial⟩
  clear hq0 hq1 hq2 hq3 hl_lf hl_rf hl_st hf_lf hf_rf hf_st hn_lf hn_rf hn_st g0 g1 g2 g3 g4 g5 g6 g7 g8
  cases q0
  case false =>
    have HE : Hid (claimB t a lk ln lf rk rn rf ru re st = false) := by show _ = _; rw [HD.out]; rfl
    clear HD HA HF HN
    go_enter Try.func154, Try.ntmps154
    go_wp2_with fail
    refine wp_region_quietC w [(w.heap.size, 0, .int .i64 t), (w.heap.size, 1, .int .i64 a), (b, o + 6, .int .i64 ru), (b, o + 7, .int .i64 re), (b, o + 8, .slice Ast st.len Cst)] (by kernel_rfl) (by kernel_rfl) HS0.out ?_
    repeat (first | go_big_quiet_skip | (go_big_quiet_want; apply Exists.intro; refine ⟨fun W hW => ?_, ?_⟩; focus (have hK := Lib.hid hW; obtain ⟨hs, hc⟩ := hW; simp only [Has, and_true] at hc; go_simp; (first | rfl | exact ⟨rfl, rfl⟩ | ((with_reducible refine quietC_call hK.out (K0.out _ ?_)); exact hs) | ((with_reducible refine quietC_call hK.out (K1.out _ ?_)); exact hs) | ((with_reducible refine quietC_call hK.out (K2.out _))) | ((with_reducible refine quietC_call hK.out (K3.out _)))))) | (go_simp; go_big_quiet_on))
    refine wpQuiet_nil ?_
    clear HS0
    intro w2 H1
    have HS0 := Lib.hid H1
    clear H1 K0 K1 K2 K3
    obtain ⟨hb, y0, y1, y2, y3, y4, _⟩ := HS0.out
    go_wp2_with fail
    go_ret
    exact ⟨ret_bool HE.out.symm, hb⟩
  cases q1
  case false =>
    have HE : Hid (claimB t a lk ln lf rk rn rf ru re st = false) := by show _ = _; rw [HD.out]; rfl
    clear HD HA HF HN
    go_enter Try.func154, Try.ntmps154
    go_wp2_with fail
    refine wp_region_quietC w [(w.heap.size, 0, .int .i64 t), (w.heap.size, 1, .int .i64 a), (b, o + 6, .int .i64 ru), (b, o + 7, .int .i64 re), (b, o + 8, .slice Ast st.len Cst)] (by kernel_rfl) (by kernel_rfl) HS0.out ?_
    repeat (first | go_big_quiet_skip | (go_big_quiet_want; apply Exists.intro; refine ⟨fun W hW => ?_, ?_⟩; focus (have hK := Lib.hid hW; obtain ⟨hs, hc⟩ := hW; simp only [Has, and_true] at hc; go_simp; (first | rfl | exact ⟨rfl, rfl⟩ | ((with_reducible refine quietC_call hK.out (K0.out _ ?_)); exact hs) | ((with_reducible refine quietC_call hK.out (K1.out _ ?_)); exact hs) | ((with_reducible refine quietC_call hK.out (K2.out _))) | ((with_reducible refine quietC_call hK.out (K3.out _)))))) | (go_simp; go_big_quiet_on))
    refine wpQuiet_nil ?_
    clear HS0
    intro w2 H1
    have HS0 := Lib.hid H1
    clear H1 K0 K1 K2 K3
    obtain ⟨hb, y0, y1, y2, y3, y4, _⟩ := HS0.out
    go_wp2_with fail
    go_ret
    exact ⟨ret_bool HE.out.symm, hb⟩
  cases q2
  case false =>
    have HE : Hid (claimB t a lk ln lf rk rn rf ru re st = false) := by show _ = _; rw [HD.out]; rfl
    clear HD HA HF HN
    go_enter Try.func154, Try.ntmps154
    go_wp2_with fail
    refine wp_region_quietC w [(w.heap.size, 0, .int .i64 t), (w.heap.size, 1, .int .i64 a), (b, o + 6, .int .i64 ru), (b, o + 7, .int .i64 re), (b, o + 8, .slice Ast st.len Cst)] (by kernel_rfl) (by kernel_rfl) HS0.out ?_
    repeat (first | go_big_quiet_skip | (go_big_quiet_want; apply Exists.intro; refine ⟨fun W hW => ?_, ?_⟩; focus (have hK := Lib.hid hW; obtain ⟨hs, hc⟩ := hW; simp only [Has, and_true] at hc; go_simp; (first | rfl | exact ⟨rfl, rfl⟩ | ((with_reducible refine quietC_call hK.out (K0.out _ ?_)); exact hs) | ((with_reducible refine quietC_call hK.out (K1.out _ ?_)); exact hs) | ((with_reducible refine quietC_call hK.out (K2.out _))) | ((with_reducible refine quietC_call hK.out (K3.out _)))))) | (go_simp; go_big_quiet_on))
    refine wpQuiet_nil ?_
    clear HS0
    intro w2 H1
    have HS0 := Lib.hid H1
    clear H1 K0 K1 K2 K3
    obtain ⟨hb, y0, y1, y2, y3, y4, _⟩ := HS0.out
    go_wp2_with fail
    go_ret
    exact ⟨ret_bool HE.out.symm, hb⟩
  cases q3
  case false =>
    have HE : Hid (claimB t a lk ln lf rk rn rf ru re st = false) := by show _ = _; rw [HD.out]; rfl
    clear HD HA HF HN
    go_enter Try.func154, Try.ntmps154
    go_wp2_with fail
    refine wp_region_quietC w [(w.heap.size, 0, .int .i64 t), (w.heap.size, 1, .int .i64 a), (b, o + 6, .int .i64 ru), (b, o + 7, .int .i64 re), (b, o + 8, .slice Ast st.len Cst)] (by kernel_rfl) (by kernel_rfl) HS0.out ?_
    repeat (first | go_big_quiet_skip | (go_big_quiet_want; apply Exists.intro; refine ⟨fun W hW => ?_, ?_⟩; focus (have hK := Lib.hid hW; obtain ⟨hs, hc⟩ := hW; simp only [Has, and_true] at hc; go_simp; (first | rfl | exact ⟨rfl, rfl⟩ | ((with_reducible refine quietC_call hK.out (K0.out _ ?_)); exact hs) | ((with_reducible refine quietC_call hK.out (K1.out _ ?_)); exact hs) | ((with_reducible refine quietC_call hK.out (K2.out _))) | ((with_reducible refine quietC_call hK.out (K3.out _)))))) | (go_simp; go_big_quiet_on))
    refine wpQuiet_nil ?_
    clear HS0
    intro w2 H1
    have HS0 := Lib.hid H1
    clear H1 K0 K1 K2 K3
    obtain ⟨hb, y0, y1, y2, y3, y4, _⟩ := HS0.out
    go_wp2_with fail
    go_ret
    exact ⟨ret_bool HE.out.symm, hb⟩
  simp only [Bool.true_and] at HD
  by_cases h1 : ru = 1
  case pos =>
    rw [if_pos h1] at HD
    have t1 : (ru == 1) = true := by rw [beq_iff_eq]; exact h1
    have t0 : (ru != 1) = false := by simp [h1]
    by_cases h2 : re = 0
    case neg =>
      have t2 : (re != 0) = true := by rw [bne_iff_ne]; exact h2
      have HE : Hid (claimB t a lk ln lf rk rn rf ru re st = false) := by show _ = _; rw [HD.out, decide_eq_false h2]; rfl
      clear HD HA HF HN h1 h2
      go_enter Try.func154, Try.ntmps154
      go_wp2_with fail
      refine wp_region_quietC w [(w.heap.size, 0, .int .i64 t), (w.heap.size, 1, .int .i64 a), (b, o + 6, .int .i64 ru), (b, o + 7, .int .i64 re), (b, o + 8, .slice Ast st.len Cst)] (by kernel_rfl) (by kernel_rfl) HS0.out ?_
      repeat (first | go_big_quiet_skip | (go_big_quiet_want; apply Exists.intro; refine ⟨fun W hW => ?_, ?_⟩; focus (have hK := Lib.hid hW; obtain ⟨hs, hc⟩ := hW; simp only [Has, and_true] at hc; go_simp; (first | rfl | exact ⟨rfl, rfl⟩ | ((with_reducible refine quietC_call hK.out (K0.out _ ?_)); exact hs) | ((with_reducible refine quietC_call hK.out (K1.out _ ?_)); exact hs) | ((with_reducible refine quietC_call hK.out (K2.out _))) | ((with_reducible refine quietC_call hK.out (K3.out _)))))) | (go_simp; go_big_quiet_on))
      refine wpQuiet_nil ?_
      clear HS0
      intro w2 H1
      have HS0 := Lib.hid H1
      clear H1 K0 K1 K2 K3
      obtain ⟨hb, y0, y1, y2, y3, y4, _⟩ := HS0.out
      go_wp2_with fail
      go_ret
      exact ⟨ret_bool HE.out.symm, hb⟩
    have t2 : (re != 0) = false := by simp [h2]
    by_cases h3 : (60 : Int) < (st.len : Int)
    case pos =>
      have t3 : decide ((60 : Int) < (st.len : Int)) = true := decide_eq_true h3
      have HE : Hid (claimB t a lk ln lf rk rn rf ru re st = false) := by show _ = _; rw [HD.out, t3]; simp
      clear HD HA HF HN h1 h2
      go_enter Try.func154, Try.ntmps154
      go_wp2_with fail
      refine wp_region_quietC w [(w.heap.size, 0, .int .i64 t), (w.heap.size, 1, .int .i64 a), (b, o + 6, .int .i64 ru), (b, o + 7, .int .i64 re), (b, o + 8, .slice Ast st.len Cst)] (by kernel_rfl) (by kernel_rfl) HS0.out ?_
      repeat (first | go_big_quiet_skip | (go_big_quiet_want; apply Exists.intro; refine ⟨fun W hW => ?_, ?_⟩; focus (have hK := Lib.hid hW; obtain ⟨hs, hc⟩ := hW; simp only [Has, and_true] at hc; go_simp; (first | rfl | exact ⟨rfl, rfl⟩ | ((with_reducible refine quietC_call hK.out (K0.out _ ?_)); exact hs) | ((with_reducible refine quietC_call hK.out (K1.out _ ?_)); exact hs) | ((with_reducible refine quietC_call hK.out (K2.out _))) | ((with_reducible refine quietC_call hK.out (K3.out _)))))) | (go_simp; go_big_quiet_on))
      refine wpQuiet_nil ?_
      clear HS0
      intro w2 H1
      have HS0 := Lib.hid H1
      clear H1 K0 K1 K2 K3
      obtain ⟨hb, y0, y1, y2, y3, y4, _⟩ := HS0.out
      go_wp2_with fail
      go_ret
      exact ⟨ret_bool HE.out.symm, hb⟩
    have t3 : decide ((60 : Int) < (st.len : Int)) = false := decide_eq_false h3
    have HQ0 : Hid (claimB t a lk ln lf rk rn rf ru re st = ((st.drop 0).allG (stepB t a) && true)) := by show _ = _; rw [HD.out, t3, decide_eq_true h2]; cases st <;> simp [Ps.drop]
    clear HD h1 h2
    go_enter Try.func154, Try.ntmps154
    go_wp2_with fail
    refine wp_region_quietC w [(w.heap.size, 0, .int .i64 t), (w.heap.size, 1, .int .i64 a), (b, o + 6, .int .i64 ru), (b, o + 7, .int .i64 re), (b, o + 8, .slice Ast st.len Cst)] (by kernel_rfl) (by kernel_rfl) HS0.out ?_
    repeat (first | go_big_quiet_skip | (go_big_quiet_want; apply Exists.intro; refine ⟨fun W hW => ?_, ?_⟩; focus (have hK := Lib.hid hW; obtain ⟨hs, hc⟩ := hW; simp only [Has, and_true] at hc; go_simp; (first | rfl | exact ⟨rfl, rfl⟩ | ((with_reducible refine quietC_call hK.out (K0.out _ ?_)); exact hs) | ((with_reducible refine quietC_call hK.out (K1.out _ ?_)); exact hs) | ((with_reducible refine quietC_call hK.out (K2.out _))) | ((with_reducible refine quietC_call hK.out (K3.out _)))))) | (go_simp; go_big_quiet_on))
    refine wpQuiet_nil ?_
    clear HS0
    intro w2 H1
    have HS0 := Lib.hid H1
    clear H1 K0 K1 K2 K3
    obtain ⟨hb, y0, y1, y2, y3, y4, _⟩ := HS0.out
    go_wp2_with fail
    clear hb y0 y1 y2 y3 y4 t3 h3 t0 t1 t2
    go_loopw [5] (fun i wr => ∃ j : Nat, j ≤ st.len ∧ i = .int .i64 j ∧ Hid (claimB t a lk ln lf rk rn rf ru re st = ((st.drop j).allG (stepB t a) && true)) ∧ Hid (St w [(w.heap.size, 0, .int .i64 t), (w.heap.size, 1, .int .i64 a), (b, o + 6, .int .i64 ru), (b, o + 7, .int .i64 re), (b, o + 8, .slice Ast st.len Cst)] wr)) (fun i _ => st.len - (intOf i).toNat)
    case atStart => exact ⟨0, Nat.zero_le _, rfl, HQ0, HS0⟩
    case round =>
      obtain ⟨j, hj, rfl, hq, hS⟩ := hrel
      clear HQ0 HS0
      obtain ⟨hb, y0, y1, y2, y3, y4, _⟩ := hS.out
      by_cases hjl : j < st.len
      · obtain ⟨c, p, rfl, hat⟩ := HA.out (by rintro rfl; simp [Ps.len] at hjl)
        obtain ⟨us, bk, pa, te, ac, r, Apa, Cpa, Ate, Cte, Aac, Cac, e1, e2, c0, c1, c2, hl_pa, c3, hl_te, c4, hl_ac⟩ := Ps.Lies.row hat hjl
        obtain ⟨q, hqe⟩ : ∃ q : Bool, q = (stepB t a) us bk pa te ac := ⟨_, rfl⟩
        have KV : Hid (∀ W : World, Sees w W → Calls Try.prog 196 #[.agg #[.int .i64 t, .int .i64 a], .pointer (some ⟨c, p + j * 5, none⟩)] W fun e w' => e = .returned (.bool q) ∧ Below W.heap.size W w') := fun W h => by
          rw [hqe]
          exact l04Step_any t a us bk pa te ac (Ps.elem HF.out HN.out e1.out).1.1 (Ps.elem HF.out HN.out e1.out).1.2.1 (Ps.elem HF.out HN.out e1.out).1.2.2 (Ps.elem HF.out HN.out e1.out).2.1 (Ps.elem HF.out HN.out e1.out).2.2 Apa Ate Aac Cpa Cte Cac c (p + j * 5) W (hl_pa.sees h) (hl_te.sees h) (hl_ac.sees h) (kc h c0) (kc h c1) (kc h c2) (kc h c3) (kc h c4)
        have HST : Hid (claimB t a lk ln lf rk rn rf ru re st = ((q && (st.drop (j + 1)).allG (stepB t a)) && true)) := by
          show _ = _
          rw [hq.out, e1.out, e2.out, hqe]; rfl
        have HAT := Lib.hid hat
        have j0 : (0 : Int) ≤ (j : Int) := Int.natCast_nonneg _
        have j1 : (j : Int) < (st.len : Int) := by omega
        clear hat c0 c1 c2 c3 c4 hl_pa hl_te hl_ac hqe hq e1 e2
        cases q
        · have HE : Hid (claimB t a lk ln lf rk rn rf ru re st = false) := by show _ = _; rw [HST.out]; rfl
          clear HST
          go_wp2_with fail
          refine wp_region_quietC wr [(w.heap.size, 0, .int .i64 t), (w.heap.size, 1, .int .i64 a), (b, o + 6, .int .i64 ru), (b, o + 7, .int .i64 re), (b, o + 8, .slice (some ⟨c, p, none⟩) st.len Cst)] (by kernel_rfl) (by kernel_rfl) ⟨Below.refl _ _, y0, y1, y2, y3, y4, trivial⟩ ?_
          repeat (first | go_big_quiet_skip | (go_big_quiet_want; apply Exists.intro; refine ⟨fun W hW => ?_, ?_⟩; focus (have hK := Lib.hid hW; obtain ⟨hs, hc⟩ := hW; simp only [Has, and_true] at hc; go_simp; (first | rfl | exact ⟨rfl, rfl⟩ | ((with_reducible refine quietC_call hK.out (KV.out _ ?_)); exact Sees.below hb hs)))) | (go_simp; go_big_quiet_on))
          refine wpQuiet_nil ?_
          intro w2 H1
          have hb2 : Hid (St w [(w.heap.size, 0, .int .i64 t), (w.heap.size, 1, .int .i64 a), (b, o + 6, .int .i64 ru), (b, o + 7, .int .i64 re), (b, o + 8, .slice (some ⟨c, p, none⟩) st.len Cst)] w2) := ⟨Sees.below hb H1.1, H1.2⟩
          clear H1 hb y0 y1 y2 y3 y4 KV hS
          go_wp2_with fail
          go_ret
          exact ⟨ret_bool HE.out.symm, hb2.out.1⟩
        · have HE : Hid (claimB t a lk ln lf rk rn rf ru re st = ((st.drop (j + 1)).allG (stepB t a) && true)) := by show _ = _; rw [HST.out]; rfl
          clear HST
          go_wp2_with fail
          refine wp_region_quietC wr [(w.heap.size, 0, .int .i64 t), (w.heap.size, 1, .int .i64 a), (b, o + 6, .int .i64 ru), (b, o + 7, .int .i64 re), (b, o + 8, .slice (some ⟨c, p, none⟩) st.len Cst)] (by kernel_rfl) (by kernel_rfl) ⟨Below.refl _ _, y0, y1, y2, y3, y4, trivial⟩ ?_
          repeat (first | go_big_quiet_skip | (go_big_quiet_want; apply Exists.intro; refine ⟨fun W hW => ?_, ?_⟩; focus (have hK := Lib.hid hW; obtain ⟨hs, hc⟩ := hW; simp only [Has, and_true] at hc; go_simp; (first | rfl | exact ⟨rfl, rfl⟩ | ((with_reducible refine quietC_call hK.out (KV.out _ ?_)); exact Sees.below hb hs)))) | (go_simp; go_big_quiet_on))
          refine wpQuiet_nil ?_
          intro w2 H1
          have hb2 : Hid (St w [(w.heap.size, 0, .int .i64 t), (w.heap.size, 1, .int .i64 a), (b, o + 6, .int .i64 ru), (b, o + 7, .int .i64 re), (b, o + 8, .slice (some ⟨c, p, none⟩) st.len Cst)] w2) := ⟨Sees.below hb H1.1, H1.2⟩
          clear H1 hb y0 y1 y2 y3 y4 KV hS
          go_wp2_with fail
          go_roundw
          case rel => exact ⟨j + 1, by omega, by go_num, HE, hb2⟩
          case measure => simp [intOf]; omega
      · obtain rfl : j = st.len := by omega
        have HE : Hid (claimB t a lk ln lf rk rn rf ru re st = true) := by show _ = _; rw [hq.out, Ps.drop_len]; simp [Ps.allG]
        clear hq
        go_wp2_with fail
        go_ret
        exact ⟨ret_bool (by rw [HE.out]), hb⟩
  rw [if_neg h1] at HD
  have t1 : (ru == 1) = false := by rw [beq_eq_false_iff_ne]; exact h1
  have t0 : (ru != 1) = true := by rw [bne_iff_ne]; exact h1
  by_cases h3 : (0 : Int) < (st.len : Int)
  case pos =>
    have t3 : decide ((0 : Int) < (st.len : Int)) = true := decide_eq_true h3
    have HE : Hid (claimB t a lk ln lf rk rn rf ru re st = false) := by show _ = _; rw [HD.out, t3]; rfl
    clear HD HA HF HN h1
    go_enter Try.func154, Try.ntmps154
    go_wp2_with fail
    refine wp_region_quietC w [(w.heap.size, 0, .int .i64 t), (w.heap.size, 1, .int .i64 a), (b, o + 6, .int .i64 ru), (b, o + 7, .int .i64 re), (b, o + 8, .slice Ast st.len Cst)] (by kernel_rfl) (by kernel_rfl) HS0.out ?_
    repeat (first | go_big_quiet_skip | (go_big_quiet_want; apply Exists.intro; refine ⟨fun W hW => ?_, ?_⟩; focus (have hK := Lib.hid hW; obtain ⟨hs, hc⟩ := hW; simp only [Has, and_true] at hc; go_simp; (first | rfl | exact ⟨rfl, rfl⟩ | ((with_reducible refine quietC_call hK.out (K0.out _ ?_)); exact hs) | ((with_reducible refine quietC_call hK.out (K1.out _ ?_)); exact hs) | ((with_reducible refine quietC_call hK.out (K2.out _))) | ((with_reducible refine quietC_call hK.out (K3.out _)))))) | (go_simp; go_big_quiet_on))
    refine wpQuiet_nil ?_
    clear HS0
    intro w2 H1
    have HS0 := Lib.hid H1
    clear H1 K0 K1 K2 K3
    obtain ⟨hb, y0, y1, y2, y3, y4, _⟩ := HS0.out
    go_wp2_with fail
    go_ret
    exact ⟨ret_bool HE.out.symm, hb⟩
  have t3 : decide ((0 : Int) < (st.len : Int)) = false := decide_eq_false h3
  have t4 : decide ((60 : Int) < (st.len : Int)) = false := decide_eq_false (by omega)
  have HQ0 : Hid (claimB t a lk ln lf rk rn rf ru re st = ((st.drop 0).allG (stepB t a) && true)) := by
    show _ = _
    rw [HD.out, t3]
    cases st with
    | nil => rfl
    | cons _ _ _ _ _ r => exfalso; apply h3; simp only [Ps.len]; omega
  clear HD h1
  go_enter Try.func154, Try.ntmps154
  go_wp2_with fail
  refine wp_region_quietC w [(w.heap.size, 0, .int .i64 t), (w.heap.size, 1, .int .i64 a), (b, o + 6, .int .i64 ru), (b, o + 7, .int .i64 re), (b, o + 8, .slice Ast st.len Cst)] (by kernel_rfl) (by kernel_rfl) HS0.out ?_
  repeat (first | go_big_quiet_skip | (go_big_quiet_want; apply Exists.intro; refine ⟨fun W hW => ?_, ?_⟩; focus (have hK := Lib.hid hW; obtain ⟨hs, hc⟩ := hW; simp only [Has, and_true] at hc; go_simp; (first | rfl | exact ⟨rfl, rfl⟩ | ((with_reducible refine quietC_call hK.out (K0.out _ ?_)); exact hs) | ((with_reducible refine quietC_call hK.out (K1.out _ ?_)); exact hs) | ((with_reducible refine quietC_call hK.out (K2.out _))) | ((with_reducible refine quietC_call hK.out (K3.out _)))))) | (go_simp; go_big_quiet_on))
  refine wpQuiet_nil ?_
  clear HS0
  intro w2 H1
  have HS0 := Lib.hid H1
  clear H1 K0 K1 K2 K3
  obtain ⟨hb, y0, y1, y2, y3, y4, _⟩ := HS0.out
  go_wp2_with fail
  clear hb y0 y1 y2 y3 y4 t0 t1
  go_loopw [5] (fun i wr => ∃ j : Nat, j ≤ st.len ∧ i = .int .i64 j ∧ Hid (claimB t a lk ln lf rk rn rf ru re st = ((st.drop j).allG (stepB t a) && true)) ∧ Hid (St w [(w.heap.size, 0, .int .i64 t), (w.heap.size, 1, .int .i64 a), (b, o + 6, .int .i64 ru), (b, o + 7, .int .i64 re), (b, o + 8, .slice Ast st.len Cst)] wr)) (fun i _ => st.len - (intOf i).toNat)
  case atStart => exact ⟨0, Nat.zero_le _, rfl, HQ0, HS0⟩
  case round =>
    obtain ⟨j, hj, rfl, hq, hS⟩ := hrel
    clear HQ0 HS0
    obtain ⟨hb, y0, y1, y2, y3, y4, _⟩ := hS.out
    by_cases hjl : j < st.len
    · exfalso; omega
    · obtain rfl : j = st.len := by omega
      have HE : Hid (claimB t a lk ln lf rk rn rf ru re st = true) := by show _ = _; rw [hq.out, Ps.drop_len]; simp [Ps.allG]
      clear hq
      go_wp2_with fail
      go_ret
      exact ⟨ret_bool (by rw [HE.out]), hb⟩

set_option maxHeartbeats 1500000 in
set_option maxRecDepth 100000 in
theorem l04Ok_any (t a : Int) (cl : Cl) (hf_cl : cl.len ≤ 9223372036854775807 ∧ cl.Fits) (hn_cl : cl.nodes ≤ 1048576) (Acl : Option Addr) (Ccl : Nat) (b o : Nat) (w : World) (hl_cl : cl.Lies w Acl) (g0 : w.cell? ⟨b, o, none⟩ = some (.int .i64 t)) (g1 : w.cell? ⟨b, o + 1, none⟩ = some (.int .i64 a)) (g2 : w.cell? ⟨b, o + 2, none⟩ = some (.slice Acl cl.len Ccl)) :
    Calls Try.prog 97 #[.pointer (some ⟨b, o, none⟩)] w fun e w' => e = .returned (.bool (proofB t a cl)) ∧ Below w.heap.size w w' := by
  obtain ⟨q0, hq0⟩ : ∃ q : Bool, q = sigOk t a := ⟨_, rfl⟩
  have K0 : Hid (∀ W : World, Calls Try.prog 70 #[.agg #[.int .i64 t, .int .i64 a]] W fun e w' => e = .returned (.bool q0) ∧ Below W.heap.size W w') := fun W => by rw [hq0]; exact l01Sig_any t a W
  have HD : Hid (proofB t a cl = (q0 && (!decide ((40 : Int) < (cl.len : Int)) && cl.allG (claimB t a)))) := by
    show _ = _
    unfold proofB
    rw [hq0, show decide ((cl.len : Int) ≤ 40) = !decide ((40 : Int) < (cl.len : Int)) from by rw [Bool.eq_iff_iff]; simp]
  have HA := Lib.hid hl_cl; have HF := Lib.hid hf_cl; have HN := Lib.hid hn_cl
  have l1 := hf_cl.1
  clear hq0 hl_cl hf_cl hn_cl
  cases q0
  case false =>
    have HE : Hid (proofB t a cl = false) := by show _ = _; rw [HD.out]; rfl
    clear HD HA HF HN
    go_enter Try.func97, Try.ntmps97
    go_wp2_with fail
    refine (K0.out _).mono ?_
    rintro e w1 ⟨rfl, hb⟩
    have HS0 : Hid (St w [(b, o, .int .i64 t), (b, o + 1, .int .i64 a), (b, o + 2, .slice Acl cl.len Ccl)] w1) := ⟨hb, kc hb g0, kc hb g1, kc hb g2, trivial⟩
    clear hb g0 g1 g2 K0
    obtain ⟨hb, y0, y1, y2, _⟩ := HS0.out
    go_wp2_with fail
    go_ret
    exact ⟨ret_bool HE.out.symm, hb⟩
  by_cases h3 : (40 : Int) < (cl.len : Int)
  case pos =>
    have t3 : decide ((40 : Int) < (cl.len : Int)) = true := decide_eq_true h3
    have HE : Hid (proofB t a cl = false) := by show _ = _; rw [HD.out, t3]; rfl
    clear HD HA HF HN
    go_enter Try.func97, Try.ntmps97
    go_wp2_with fail
    refine (K0.out _).mono ?_
    rintro e w1 ⟨rfl, hb⟩
    have HS0 : Hid (St w [(b, o, .int .i64 t), (b, o + 1, .int .i64 a), (b, o + 2, .slice Acl cl.len Ccl)] w1) := ⟨hb, kc hb g0, kc hb g1, kc hb g2, trivial⟩
    clear hb g0 g1 g2 K0
    obtain ⟨hb, y0, y1, y2, _⟩ := HS0.out
    go_wp2_with fail
    go_ret
    exact ⟨ret_bool HE.out.symm, hb⟩
  have t3 : decide ((40 : Int) < (cl.len : Int)) = false := decide_eq_false h3
  have HQ0 : Hid (proofB t a cl = ((cl.drop 0).allG (claimB t a) && true)) := by show _ = _; rw [HD.out, t3]; cases cl <;> simp [Cl.drop]
  clear HD
  go_enter Try.func97, Try.ntmps97
  go_wp2_with fail
  refine (K0.out _).mono ?_
  rintro e w1 ⟨rfl, hb⟩
  have HS0 : Hid (St w [(b, o, .int .i64 t), (b, o + 1, .int .i64 a), (b, o + 2, .slice Acl cl.len Ccl)] w1) := ⟨hb, kc hb g0, kc hb g1, kc hb g2, trivial⟩
  clear hb g0 g1 g2 K0
  obtain ⟨hb, y0, y1, y2, _⟩ := HS0.out
  go_wp2_with fail
  clear hb y0 y1 y2
  go_loopw [3] (fun i wr => ∃ j : Nat, j ≤ cl.len ∧ i = .int .i64 j ∧ Hid (proofB t a cl = ((cl.drop j).allG (claimB t a) && true)) ∧ Hid (St w [(b, o, .int .i64 t), (b, o + 1, .int .i64 a), (b, o + 2, .slice Acl cl.len Ccl)] wr)) (fun i _ => cl.len - (intOf i).toNat)
  case atStart => exact ⟨0, Nat.zero_le _, rfl, HQ0, HS0⟩
  case round =>
    obtain ⟨j, hj, rfl, hq, hS⟩ := hrel
    clear HQ0 HS0
    obtain ⟨hb, y0, y1, y2, _⟩ := hS.out
    by_cases hjl : j < cl.len
    · obtain ⟨c, p, rfl, hat⟩ := HA.out (by rintro rfl; simp [Cl.len] at hjl)
      obtain ⟨lk, ln, lf, rk, rn, rf, ru, re, st, r, Alf, Clf, Arf, Crf, Ast, Cst, e1, e2, c0, c1, c2, hl_lf, c3, c4, c5, hl_rf, c6, c7, c8, hl_st⟩ := Cl.Lies.row hat hjl
      obtain ⟨q, hqe⟩ : ∃ q : Bool, q = (claimB t a) lk ln lf rk rn rf ru re st := ⟨_, rfl⟩
      have KV : Hid (∀ W : World, Sees w W → Calls Try.prog 154 #[.agg #[.int .i64 t, .int .i64 a], .pointer (some ⟨c, p + j * 9, none⟩)] W fun e w' => e = .returned (.bool q) ∧ Below W.heap.size W w') := fun W h => by
        rw [hqe]
        exact l04Claim_any t a lk ln lf rk rn rf ru re st (Cl.elem HF.out HN.out e1.out).1.1 (Cl.elem HF.out HN.out e1.out).1.2.1 (Cl.elem HF.out HN.out e1.out).1.2.2 (Cl.elem HF.out HN.out e1.out).2.1 (Cl.elem HF.out HN.out e1.out).2.2.1 (Cl.elem HF.out HN.out e1.out).2.2.2 Alf Arf Ast Clf Crf Cst c (p + j * 9) W (hl_lf.sees h) (hl_rf.sees h) (hl_st.sees h) (kc h c0) (kc h c1) (kc h c2) (kc h c3) (kc h c4) (kc h c5) (kc h c6) (kc h c7) (kc h c8)
      have HST : Hid (proofB t a cl = ((q && (cl.drop (j + 1)).allG (claimB t a)) && true)) := by
        show _ = _
        rw [hq.out, e1.out, e2.out, hqe]; rfl
      have HAT := Lib.hid hat
      have j0 : (0 : Int) ≤ (j : Int) := Int.natCast_nonneg _
      have j1 : (j : Int) < (cl.len : Int) := by omega
      clear hat c0 c1 c2 c3 c4 c5 c6 c7 c8 hl_lf hl_rf hl_st hqe hq e1 e2
      cases q
      · have HE : Hid (proofB t a cl = false) := by show _ = _; rw [HST.out]; rfl
        clear HST
        go_wp2_with fail
        refine wp_region_quietC wr [(b, o, .int .i64 t), (b, o + 1, .int .i64 a), (b, o + 2, .slice (some ⟨c, p, none⟩) cl.len Ccl)] (by kernel_rfl) (by kernel_rfl) ⟨Below.refl _ _, y0, y1, y2, trivial⟩ ?_
        repeat (first | go_big_quiet_skip | (go_big_quiet_want; apply Exists.intro; refine ⟨fun W hW => ?_, ?_⟩; focus (have hK := Lib.hid hW; obtain ⟨hs, hc⟩ := hW; simp only [Has, and_true] at hc; go_simp; (first | rfl | exact ⟨rfl, rfl⟩ | ((with_reducible refine quietC_call hK.out (KV.out _ ?_)); exact Sees.below hb hs)))) | (go_simp; go_big_quiet_on))
        refine wpQuiet_nil ?_
        intro w2 H1
        have hb2 : Hid (St w [(b, o, .int .i64 t), (b, o + 1, .int .i64 a), (b, o + 2, .slice (some ⟨c, p, none⟩) cl.len Ccl)] w2) := ⟨Sees.below hb H1.1, H1.2⟩
        clear H1 hb y0 y1 y2 KV hS
        go_wp2_with fail
        go_ret
        exact ⟨ret_bool HE.out.symm, hb2.out.1⟩
      · have HE : Hid (proofB t a cl = ((cl.drop (j + 1)).allG (claimB t a) && true)) := by show _ = _; rw [HST.out]; rfl
        clear HST
        go_wp2_with fail
        refine wp_region_quietC wr [(b, o, .int .i64 t), (b, o + 1, .int .i64 a), (b, o + 2, .slice (some ⟨c, p, none⟩) cl.len Ccl)] (by kernel_rfl) (by kernel_rfl) ⟨Below.refl _ _, y0, y1, y2, trivial⟩ ?_
        repeat (first | go_big_quiet_skip | (go_big_quiet_want; apply Exists.intro; refine ⟨fun W hW => ?_, ?_⟩; focus (have hK := Lib.hid hW; obtain ⟨hs, hc⟩ := hW; simp only [Has, and_true] at hc; go_simp; (first | rfl | exact ⟨rfl, rfl⟩ | ((with_reducible refine quietC_call hK.out (KV.out _ ?_)); exact Sees.below hb hs)))) | (go_simp; go_big_quiet_on))
        refine wpQuiet_nil ?_
        intro w2 H1
        have hb2 : Hid (St w [(b, o, .int .i64 t), (b, o + 1, .int .i64 a), (b, o + 2, .slice (some ⟨c, p, none⟩) cl.len Ccl)] w2) := ⟨Sees.below hb H1.1, H1.2⟩
        clear H1 hb y0 y1 y2 KV hS
        go_wp2_with fail
        go_roundw
        case rel => exact ⟨j + 1, by omega, by go_num, HE, hb2⟩
        case measure => simp [intOf]; omega
    · obtain rfl : j = cl.len := by omega
      have HE : Hid (proofB t a cl = true) := by show _ = _; rw [hq.out, Cl.drop_len]; simp [Cl.allG]
      clear hq
      go_wp2_with fail
      go_ret
      exact ⟨ret_bool (by rw [HE.out]), hb⟩
set_option maxHeartbeats 1500000 in
set_option maxRecDepth 100000 in
theorem specValidProof_any (gt : Int) (ga : Int) (cl : Cl) (hf_cl : cl.len ≤ 9223372036854775807 ∧ cl.Fits) (hn_cl : cl.nodes ≤ 1048576) (Acl : Option Addr) (Ccl : Nat) (w : World) (hl_cl : cl.Lies w Acl) :
    Calls Try.prog 40 #[.agg #[.int .i64 gt, .int .i64 ga, .slice Acl cl.len Ccl]] w fun e w' => e = .returned (.bool (proofB gt ga cl)) ∧ Below w.heap.size w w' := by
  obtain ⟨q, hq⟩ : ∃ q : Bool, q = proofB gt ga cl := ⟨_, rfl⟩
  have K : Hid (∀ W : World, Sees w W → W.cell? ⟨w.heap.size, 0, none⟩ = some (.int .i64 gt) → W.cell? ⟨w.heap.size, 1, none⟩ = some (.int .i64 ga) → W.cell? ⟨w.heap.size, 2, none⟩ = some (.slice Acl cl.len Ccl) → Calls Try.prog 97 #[.pointer (some ⟨w.heap.size, 0, none⟩)] W fun e w' => e = .returned (.bool q) ∧ Below W.heap.size W w') := fun W h c0 c1 c2 => by
    rw [hq]; exact l04Ok_any gt ga cl hf_cl hn_cl Acl Ccl w.heap.size 0 W (hl_cl.sees h) c0 c1 c2
  rw [← hq]
  clear hq hl_cl
  go_enter Try.func40, Try.ntmps40
  go_wp2_with fail
  refine (K.out _ (by unfold Sees; go_grown) (by simp [go_sem]) (by simp [go_sem]) (by simp [go_sem])).mono ?_
  rintro e w1 ⟨rfl, hb⟩
  have B1 : Sees w w1 := Sees.below (by unfold Sees; go_grown) hb
  clear hb
  go_wp2_with fail
  go_ret
  exact ⟨rfl, B1⟩

end Go.Proofs.YtlpgkhdecccmlaaR
