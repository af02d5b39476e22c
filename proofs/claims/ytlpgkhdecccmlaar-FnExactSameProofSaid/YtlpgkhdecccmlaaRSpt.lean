/- Equality of proofs, on the model's side: the whole. -/
import Derived.Test.YtlpgkhdecccmlaaRSps
namespace Go.Proofs.YtlpgkhdecccmlaaR
open Go.RowKit
set_option linter.unusedVariables false

theorem lenInt {a b : Nat} (h : a ≠ b) : ((a : Int) != (b : Int)) = true := by rw [bne_iff_ne]; omega

set_option maxHeartbeats 4000000 in
set_option maxRecDepth 100000 in
theorem specSameProof_any (gt0 : Int) (ga0 : Int) (cl0 : Cl) (gt1 : Int) (ga1 : Int) (cl1 : Cl) (hf_cl0 : cl0.len ≤ 9223372036854775807 ∧ cl0.Fits) (Acl0 Acl1 : Option Addr) (Ccl0 Ccl1 : Nat) (w : World) (hl_cl0 : cl0.Lies w Acl0) (hl_cl1 : cl1.Lies w Acl1) :
    Calls Try.prog 36 #[.agg #[.int .i64 gt0, .int .i64 ga0, .slice Acl0 cl0.len Ccl0], .agg #[.int .i64 gt1, .int .i64 ga1, .slice Acl1 cl1.len Ccl1]] w fun e w' => e = .returned (.bool (decide ((gt0 = gt1 ∧ ga0 = ga1) ∧ cl0 = cl1))) ∧ Below w.heap.size w w' := by
  by_cases ht : gt0 = gt1
  case neg =>
    clear hl_cl0 hl_cl1 hf_cl0
    go_enter Try.func36, Try.ntmps36
    go_wp2_with fail
    go_ret
    exact ⟨(by first | rfl | exact ret_bool (by simp [ht])), by go_grown⟩
  subst ht
  by_cases ha : ga0 = ga1
  case neg =>
    clear hl_cl0 hl_cl1 hf_cl0
    go_enter Try.func36, Try.ntmps36
    go_wp2_with fail
    go_ret
    exact ⟨(by first | rfl | exact ret_bool (by simp [ha])), by go_grown⟩
  subst ha
  by_cases hlen : cl0.len = cl1.len
  case neg =>
    have tl := lenInt hlen
    have HN : Hid (¬ cl0 = cl1) := fun h => hlen (by rw [h])
    clear hlen hl_cl0 hl_cl1 hf_cl0
    go_enter Try.func36, Try.ntmps36
    go_wp2_with fail
    go_ret
    exact ⟨(by first | rfl | exact ret_bool (by simp [HN.out])), by go_grown⟩
  have HL := Lib.hid hlen
  have tl : ((cl0.len : Int) != (cl1.len : Int)) = false := by simp [hlen]
  have HH := Lib.hid hl_cl0; have HH' := Lib.hid hl_cl1; have HF := Lib.hid hf_cl0.2
  have hm := hf_cl0.1
  clear hlen hl_cl0 hl_cl1 hf_cl0
  go_enter Try.func36, Try.ntmps36
  go_wp2_with fail
  go_loopw [5] (fun i wr => ∃ j : Nat, j ≤ cl0.len ∧ i = .int .i64 j ∧ Hid ((cl0 = cl1) = (cl0.drop j = cl1.drop j)) ∧ Hid (Sees w wr) ∧ wr.cell? ⟨w.heap.size, 2, none⟩ = some (.slice Acl0 cl0.len Ccl0) ∧ wr.cell? ⟨w.heap.size + 1, 2, none⟩ = some (.slice Acl1 cl1.len Ccl1)) (fun i _ => cl0.len - (intOf i).toNat)
  case atStart => exact ⟨0, Nat.zero_le _, rfl, (by show _ = _; cases cl0 <;> cases cl1 <;> rfl), (by show Sees _ _; unfold Sees; go_grown), (by simp [go_sem]), (by simp [go_sem])⟩
  case round =>
    obtain ⟨j, hj, rfl, hq, hS, x0, x1⟩ := hrel
    clear tl
    by_cases hjl : j < cl0.len
    · obtain ⟨c, p, rfl, hat⟩ := HH.out (by rintro rfl; simp [Cl.len] at hjl)
      obtain ⟨c', p', rfl, hat'⟩ := HH'.out (by rintro rfl; have := HL.out; simp [Cl.len] at this; omega)
      obtain ⟨lk0, ln0, lf0, rk0, rn0, rf0, ru0, re0, st0, r0, Alf0, Clf0, Arf0, Crf0, Ast0, Cst0, e1, e2, c0, c1, c2, hl_lf0, c3, c4, c5, hl_rf0, c6, c7, c8, hl_st0⟩ := Cl.Lies.row hat hjl
      obtain ⟨lk1, ln1, lf1, rk1, rn1, rf1, ru1, re1, st1, r1, Alf1, Clf1, Arf1, Crf1, Ast1, Cst1, e3, e4, d0, d1, d2, hl_lf1, d3, d4, d5, hl_rf1, d6, d7, d8, hl_st1⟩ := Cl.Lies.row hat' (by rw [← HL.out]; exact hjl)
      have hfd := Cl.fits_drop HF.out j
      rw [e1.out] at hfd
      have hq' : Hid ((cl0 = cl1) = (((lk0 = lk1 ∧ ln0 = ln1 ∧ lf0 = lf1) ∧ (rk0 = rk1 ∧ rn0 = rn1 ∧ rf0 = rf1) ∧ ru0 = ru1 ∧ re0 = re1 ∧ st0 = st1) ∧ cl0.drop (j + 1) = cl1.drop (j + 1))) := by
        show _ = _
        rw [hq.out, e1.out, e3.out, ← e2.out, ← e4.out]
        simp [and_assoc]
      obtain ⟨q0, hq_q0⟩ : ∃ q : Bool, q = decide (lk0 = lk1 ∧ ln0 = ln1 ∧ lf0 = lf1) := ⟨_, rfl⟩
      have K0 : Hid (∀ W : World, Sees w W → Calls Try.prog 91 #[.pointer (some ⟨c, p + j * 9, none⟩), .pointer (some ⟨c', p' + j * 9, none⟩)] W fun e w' => e = .returned (.bool q0) ∧ Below W.heap.size W w') := fun W h => by
        rw [hq_q0]
        exact l01Same_u lk0 ln0 lf0 lk1 ln1 lf1 (hfd.1) Alf0 Alf1 Clf0 Clf1 c (p + j * 9) c' (p' + j * 9) W (hl_lf0.sees h) (hl_lf1.sees h) (kc h c0) (kc h c1) (kc h c2) (kc h d0) (kc h d1) (kc h d2)
      obtain ⟨q1, hq_q1⟩ : ∃ q : Bool, q = decide (rk0 = rk1 ∧ rn0 = rn1 ∧ rf0 = rf1) := ⟨_, rfl⟩
      have K1 : Hid (∀ W : World, Sees w W → Calls Try.prog 91 #[.pointer (some ⟨c, p + j * 9 + 3, none⟩), .pointer (some ⟨c', p' + j * 9 + 3, none⟩)] W fun e w' => e = .returned (.bool q1) ∧ Below W.heap.size W w') := fun W h => by
        rw [hq_q1]
        exact l01Same_u rk0 rn0 rf0 rk1 rn1 rf1 (hfd.2.1) Arf0 Arf1 Crf0 Crf1 c (p + j * 9 + 3) c' (p' + j * 9 + 3) W (hl_rf0.sees h) (hl_rf1.sees h) (kc h c3) (kc h c4) (kc h c5) (kc h d3) (kc h d4) (kc h d5)
      obtain ⟨q4, hq_q4⟩ : ∃ q : Bool, q = decide (st0 = st1) := ⟨_, rfl⟩
      have K4 : Hid (∀ W : World, Sees w W → Calls Try.prog 92 #[.slice Ast0 st0.len Cst0, .slice Ast1 st1.len Cst1] W fun e w' => e = .returned (.bool q4) ∧ Below W.heap.size W w') := fun W h => by
        rw [hq_q4]
        exact l04SameSteps_u st0 st1 (hfd.2.2.1) Ast0 Ast1 Cst0 Cst1 W (hl_st0.sees h) (hl_st1.sees h)
      have JL := Lib.hid hjl
      have HAT := Lib.hid hat; have HAT' := Lib.hid hat'
      have hj0 : (0 : Int) ≤ (j : Int) := Int.natCast_nonneg _
      have hj1 : (j : Int) < (cl0.len : Int) := by omega
      have hj2 : (j : Int) < (cl1.len : Int) := by have := HL.out; omega
      clear hfd hq hl_lf0 hl_lf1 hl_rf0 hl_rf1 hl_st0 hl_st1 e1 e2 e3 e4 hat hat' hjl
      have HD : Hid (decide ((lk0 = lk1 ∧ ln0 = ln1 ∧ lf0 = lf1) ∧ (rk0 = rk1 ∧ rn0 = rn1 ∧ rf0 = rf1) ∧ ru0 = ru1 ∧ re0 = re1 ∧ st0 = st1) = (q0 && (q1 && (decide (ru0 = ru1) && (decide (re0 = re1) && q4))))) := by
        show _ = _
        rw [hq_q0, hq_q1, hq_q4, Bool.eq_iff_iff]
        first | (simp; done) | (simp [and_assoc]; done)
      clear hq_q0 hq_q1 hq_q4
      cases q0
      case false =>
        have HE : Hid (decide ((lk0 = lk1 ∧ ln0 = ln1 ∧ lf0 = lf1) ∧ (rk0 = rk1 ∧ rn0 = rn1 ∧ rf0 = rf1) ∧ ru0 = ru1 ∧ re0 = re1 ∧ st0 = st1) = false) := by show _ = _; rw [HD.out]; rfl
        clear HD
        go_wp2_with fail
        refine wp_region_quietC w [(w.heap.size, 2, .slice (some ⟨c, p, none⟩) cl0.len Ccl0), (w.heap.size + 1, 2, .slice (some ⟨c', p', none⟩) cl1.len Ccl1), (c, p + j * 9, .int .i64 lk0), (c, p + j * 9 + 1, .int .i64 ln0), (c, p + j * 9 + 2, .slice Alf0 lf0.len Clf0), (c, p + j * 9 + 3, .int .i64 rk0), (c, p + j * 9 + 4, .int .i64 rn0), (c, p + j * 9 + 5, .slice Arf0 rf0.len Crf0), (c, p + j * 9 + 6, .int .i64 ru0), (c, p + j * 9 + 7, .int .i64 re0), (c, p + j * 9 + 8, .slice Ast0 st0.len Cst0), (c', p' + j * 9, .int .i64 lk1), (c', p' + j * 9 + 1, .int .i64 ln1), (c', p' + j * 9 + 2, .slice Alf1 lf1.len Clf1), (c', p' + j * 9 + 3, .int .i64 rk1), (c', p' + j * 9 + 4, .int .i64 rn1), (c', p' + j * 9 + 5, .slice Arf1 rf1.len Crf1), (c', p' + j * 9 + 6, .int .i64 ru1), (c', p' + j * 9 + 7, .int .i64 re1), (c', p' + j * 9 + 8, .slice Ast1 st1.len Cst1)] (by kernel_rfl) (by kernel_rfl) ⟨hS.out, x0, x1, (kc hS.out c0), (kc hS.out c1), (kc hS.out c2), (kc hS.out c3), (kc hS.out c4), (kc hS.out c5), (kc hS.out c6), (kc hS.out c7), (kc hS.out c8), (kc hS.out d0), (kc hS.out d1), (kc hS.out d2), (kc hS.out d3), (kc hS.out d4), (kc hS.out d5), (kc hS.out d6), (kc hS.out d7), (kc hS.out d8), trivial⟩ ?_
        repeat (first | go_big_quiet_skip | (go_big_quiet_want; apply Exists.intro; refine ⟨fun W hW => ?_, ?_⟩; focus (have hK := Lib.hid hW; obtain ⟨hs, hc⟩ := hW; simp only [Has, and_true] at hc; go_simp; (first | rfl | exact ⟨rfl, rfl⟩ | ((with_reducible refine quietC_call hK.out (K0.out _ ?_)); exact hs) | ((with_reducible refine quietC_call hK.out (K1.out _ ?_)); exact hs) | ((with_reducible refine quietC_call hK.out (K4.out _ ?_)); exact hs)))) | (go_simp; go_big_quiet_on))
        refine wpQuiet_nil ?_
        intro wq HQ
        have hbq := Lib.hid HQ.1
        have hx0 := HQ.2.1
        have hx1 := HQ.2.2.1
        clear HQ c0 d0 c1 d1 c2 d2 c3 d3 c4 d4 c5 d5 c6 d6 c7 d7 c8 d8 x0 x1 K0 K1 K4
        have HN : Hid (¬ cl0 = cl1) := by
          intro h
          refine of_decide_eq_false HE.out ?_
          rw [hq'.out] at h
          exact h.1
        clear hx0 hx1
        go_wp2_with fail
        go_ret
        exact ⟨(by first | rfl | exact ret_bool (by simp [HN.out])), hbq.out⟩
      cases q1
      case false =>
        have HE : Hid (decide ((lk0 = lk1 ∧ ln0 = ln1 ∧ lf0 = lf1) ∧ (rk0 = rk1 ∧ rn0 = rn1 ∧ rf0 = rf1) ∧ ru0 = ru1 ∧ re0 = re1 ∧ st0 = st1) = false) := by show _ = _; rw [HD.out]; rfl
        clear HD
        go_wp2_with fail
        refine wp_region_quietC w [(w.heap.size, 2, .slice (some ⟨c, p, none⟩) cl0.len Ccl0), (w.heap.size + 1, 2, .slice (some ⟨c', p', none⟩) cl1.len Ccl1), (c, p + j * 9, .int .i64 lk0), (c, p + j * 9 + 1, .int .i64 ln0), (c, p + j * 9 + 2, .slice Alf0 lf0.len Clf0), (c, p + j * 9 + 3, .int .i64 rk0), (c, p + j * 9 + 4, .int .i64 rn0), (c, p + j * 9 + 5, .slice Arf0 rf0.len Crf0), (c, p + j * 9 + 6, .int .i64 ru0), (c, p + j * 9 + 7, .int .i64 re0), (c, p + j * 9 + 8, .slice Ast0 st0.len Cst0), (c', p' + j * 9, .int .i64 lk1), (c', p' + j * 9 + 1, .int .i64 ln1), (c', p' + j * 9 + 2, .slice Alf1 lf1.len Clf1), (c', p' + j * 9 + 3, .int .i64 rk1), (c', p' + j * 9 + 4, .int .i64 rn1), (c', p' + j * 9 + 5, .slice Arf1 rf1.len Crf1), (c', p' + j * 9 + 6, .int .i64 ru1), (c', p' + j * 9 + 7, .int .i64 re1), (c', p' + j * 9 + 8, .slice Ast1 st1.len Cst1)] (by kernel_rfl) (by kernel_rfl) ⟨hS.out, x0, x1, (kc hS.out c0), (kc hS.out c1), (kc hS.out c2), (kc hS.out c3), (kc hS.out c4), (kc hS.out c5), (kc hS.out c6), (kc hS.out c7), (kc hS.out c8), (kc hS.out d0), (kc hS.out d1), (kc hS.out d2), (kc hS.out d3), (kc hS.out d4), (kc hS.out d5), (kc hS.out d6), (kc hS.out d7), (kc hS.out d8), trivial⟩ ?_
        repeat (first | go_big_quiet_skip | (go_big_quiet_want; apply Exists.intro; refine ⟨fun W hW => ?_, ?_⟩; focus (have hK := Lib.hid hW; obtain ⟨hs, hc⟩ := hW; simp only [Has, and_true] at hc; go_simp; (first | rfl | exact ⟨rfl, rfl⟩ | ((with_reducible refine quietC_call hK.out (K0.out _ ?_)); exact hs) | ((with_reducible refine quietC_call hK.out (K1.out _ ?_)); exact hs) | ((with_reducible refine quietC_call hK.out (K4.out _ ?_)); exact hs)))) | (go_simp; go_big_quiet_on))
        refine wpQuiet_nil ?_
        intro wq HQ
        have hbq := Lib.hid HQ.1
        have hx0 := HQ.2.1
        have hx1 := HQ.2.2.1
        clear HQ c0 d0 c1 d1 c2 d2 c3 d3 c4 d4 c5 d5 c6 d6 c7 d7 c8 d8 x0 x1 K0 K1 K4
        have HN : Hid (¬ cl0 = cl1) := by
          intro h
          refine of_decide_eq_false HE.out ?_
          rw [hq'.out] at h
          exact h.1
        clear hx0 hx1
        go_wp2_with fail
        go_ret
        exact ⟨(by first | rfl | exact ret_bool (by simp [HN.out])), hbq.out⟩
      by_cases hk : ru0 = ru1
      case neg =>
        have tk : (ru0 != ru1) = true := by rw [bne_iff_ne]; exact hk
        have HE : Hid (decide ((lk0 = lk1 ∧ ln0 = ln1 ∧ lf0 = lf1) ∧ (rk0 = rk1 ∧ rn0 = rn1 ∧ rf0 = rf1) ∧ ru0 = ru1 ∧ re0 = re1 ∧ st0 = st1) = false) := by show _ = _; rw [HD.out, decide_eq_false hk]; rfl
        clear hk HD
        go_wp2_with fail
        refine wp_region_quietC w [(w.heap.size, 2, .slice (some ⟨c, p, none⟩) cl0.len Ccl0), (w.heap.size + 1, 2, .slice (some ⟨c', p', none⟩) cl1.len Ccl1), (c, p + j * 9, .int .i64 lk0), (c, p + j * 9 + 1, .int .i64 ln0), (c, p + j * 9 + 2, .slice Alf0 lf0.len Clf0), (c, p + j * 9 + 3, .int .i64 rk0), (c, p + j * 9 + 4, .int .i64 rn0), (c, p + j * 9 + 5, .slice Arf0 rf0.len Crf0), (c, p + j * 9 + 6, .int .i64 ru0), (c, p + j * 9 + 7, .int .i64 re0), (c, p + j * 9 + 8, .slice Ast0 st0.len Cst0), (c', p' + j * 9, .int .i64 lk1), (c', p' + j * 9 + 1, .int .i64 ln1), (c', p' + j * 9 + 2, .slice Alf1 lf1.len Clf1), (c', p' + j * 9 + 3, .int .i64 rk1), (c', p' + j * 9 + 4, .int .i64 rn1), (c', p' + j * 9 + 5, .slice Arf1 rf1.len Crf1), (c', p' + j * 9 + 6, .int .i64 ru1), (c', p' + j * 9 + 7, .int .i64 re1), (c', p' + j * 9 + 8, .slice Ast1 st1.len Cst1)] (by kernel_rfl) (by kernel_rfl) ⟨hS.out, x0, x1, (kc hS.out c0), (kc hS.out c1), (kc hS.out c2), (kc hS.out c3), (kc hS.out c4), (kc hS.out c5), (kc hS.out c6), (kc hS.out c7), (kc hS.out c8), (kc hS.out d0), (kc hS.out d1), (kc hS.out d2), (kc hS.out d3), (kc hS.out d4), (kc hS.out d5), (kc hS.out d6), (kc hS.out d7), (kc hS.out d8), trivial⟩ ?_
        repeat (first | go_big_quiet_skip | (go_big_quiet_want; apply Exists.intro; refine ⟨fun W hW => ?_, ?_⟩; focus (have hK := Lib.hid hW; obtain ⟨hs, hc⟩ := hW; simp only [Has, and_true] at hc; go_simp; (first | rfl | exact ⟨rfl, rfl⟩ | ((with_reducible refine quietC_call hK.out (K0.out _ ?_)); exact hs) | ((with_reducible refine quietC_call hK.out (K1.out _ ?_)); exact hs) | ((with_reducible refine quietC_call hK.out (K4.out _ ?_)); exact hs)))) | (go_simp; go_big_quiet_on))
        refine wpQuiet_nil ?_
        intro wq HQ
        have hbq := Lib.hid HQ.1
        have hx0 := HQ.2.1
        have hx1 := HQ.2.2.1
        clear HQ c0 d0 c1 d1 c2 d2 c3 d3 c4 d4 c5 d5 c6 d6 c7 d7 c8 d8 x0 x1 K0 K1 K4
        have HN : Hid (¬ cl0 = cl1) := by
          intro h
          refine of_decide_eq_false HE.out ?_
          rw [hq'.out] at h
          exact h.1
        clear hx0 hx1
        go_wp2_with fail
        go_ret
        exact ⟨(by first | rfl | exact ret_bool (by simp [HN.out])), hbq.out⟩
      have t_ru0 : (ru0 != ru1) = false := by simp [hk]
      rw [decide_eq_true hk] at HD
      clear hk
      by_cases hk : re0 = re1
      case neg =>
        have tk : (re0 != re1) = true := by rw [bne_iff_ne]; exact hk
        have HE : Hid (decide ((lk0 = lk1 ∧ ln0 = ln1 ∧ lf0 = lf1) ∧ (rk0 = rk1 ∧ rn0 = rn1 ∧ rf0 = rf1) ∧ ru0 = ru1 ∧ re0 = re1 ∧ st0 = st1) = false) := by show _ = _; rw [HD.out, decide_eq_false hk]; rfl
        clear hk HD
        go_wp2_with fail
        refine wp_region_quietC w [(w.heap.size, 2, .slice (some ⟨c, p, none⟩) cl0.len Ccl0), (w.heap.size + 1, 2, .slice (some ⟨c', p', none⟩) cl1.len Ccl1), (c, p + j * 9, .int .i64 lk0), (c, p + j * 9 + 1, .int .i64 ln0), (c, p + j * 9 + 2, .slice Alf0 lf0.len Clf0), (c, p + j * 9 + 3, .int .i64 rk0), (c, p + j * 9 + 4, .int .i64 rn0), (c, p + j * 9 + 5, .slice Arf0 rf0.len Crf0), (c, p + j * 9 + 6, .int .i64 ru0), (c, p + j * 9 + 7, .int .i64 re0), (c, p + j * 9 + 8, .slice Ast0 st0.len Cst0), (c', p' + j * 9, .int .i64 lk1), (c', p' + j * 9 + 1, .int .i64 ln1), (c', p' + j * 9 + 2, .slice Alf1 lf1.len Clf1), (c', p' + j * 9 + 3, .int .i64 rk1), (c', p' + j * 9 + 4, .int .i64 rn1), (c', p' + j * 9 + 5, .slice Arf1 rf1.len Crf1), (c', p' + j * 9 + 6, .int .i64 ru1), (c', p' + j * 9 + 7, .int .i64 re1), (c', p' + j * 9 + 8, .slice Ast1 st1.len Cst1)] (by kernel_rfl) (by kernel_rfl) ⟨hS.out, x0, x1, (kc hS.out c0), (kc hS.out c1), (kc hS.out c2), (kc hS.out c3), (kc hS.out c4), (kc hS.out c5), (kc hS.out c6), (kc hS.out c7), (kc hS.out c8), (kc hS.out d0), (kc hS.out d1), (kc hS.out d2), (kc hS.out d3), (kc hS.out d4), (kc hS.out d5), (kc hS.out d6), (kc hS.out d7), (kc hS.out d8), trivial⟩ ?_
        repeat (first | go_big_quiet_skip | (go_big_quiet_want; apply Exists.intro; refine ⟨fun W hW => ?_, ?_⟩; focus (have hK := Lib.hid hW; obtain ⟨hs, hc⟩ := hW; simp only [Has, and_true] at hc; go_simp; (first | rfl | exact ⟨rfl, rfl⟩ | ((with_reducible refine quietC_call hK.out (K0.out _ ?_)); exact hs) | ((with_reducible refine quietC_call hK.out (K1.out _ ?_)); exact hs) | ((with_reducible refine quietC_call hK.out (K4.out _ ?_)); exact hs)))) | (go_simp; go_big_quiet_on))
        refine wpQuiet_nil ?_
        intro wq HQ
        have hbq := Lib.hid HQ.1
        have hx0 := HQ.2.1
        have hx1 := HQ.2.2.1
        clear HQ c0 d0 c1 d1 c2 d2 c3 d3 c4 d4 c5 d5 c6 d6 c7 d7 c8 d8 x0 x1 K0 K1 K4
        have HN : Hid (¬ cl0 = cl1) := by
          intro h
          refine of_decide_eq_false HE.out ?_
          rw [hq'.out] at h
          exact h.1
        clear hx0 hx1
        go_wp2_with fail
        go_ret
        exact ⟨(by first | rfl | exact ret_bool (by simp [HN.out])), hbq.out⟩
      have t_re0 : (re0 != re1) = false := by simp [hk]
      rw [decide_eq_true hk] at HD
      clear hk
      cases q4
      case false =>
        have HE : Hid (decide ((lk0 = lk1 ∧ ln0 = ln1 ∧ lf0 = lf1) ∧ (rk0 = rk1 ∧ rn0 = rn1 ∧ rf0 = rf1) ∧ ru0 = ru1 ∧ re0 = re1 ∧ st0 = st1) = false) := by show _ = _; rw [HD.out]; rfl
        clear HD
        go_wp2_with fail
        refine wp_region_quietC w [(w.heap.size, 2, .slice (some ⟨c, p, none⟩) cl0.len Ccl0), (w.heap.size + 1, 2, .slice (some ⟨c', p', none⟩) cl1.len Ccl1), (c, p + j * 9, .int .i64 lk0), (c, p + j * 9 + 1, .int .i64 ln0), (c, p + j * 9 + 2, .slice Alf0 lf0.len Clf0), (c, p + j * 9 + 3, .int .i64 rk0), (c, p + j * 9 + 4, .int .i64 rn0), (c, p + j * 9 + 5, .slice Arf0 rf0.len Crf0), (c, p + j * 9 + 6, .int .i64 ru0), (c, p + j * 9 + 7, .int .i64 re0), (c, p + j * 9 + 8, .slice Ast0 st0.len Cst0), (c', p' + j * 9, .int .i64 lk1), (c', p' + j * 9 + 1, .int .i64 ln1), (c', p' + j * 9 + 2, .slice Alf1 lf1.len Clf1), (c', p' + j * 9 + 3, .int .i64 rk1), (c', p' + j * 9 + 4, .int .i64 rn1), (c', p' + j * 9 + 5, .slice Arf1 rf1.len Crf1), (c', p' + j * 9 + 6, .int .i64 ru1), (c', p' + j * 9 + 7, .int .i64 re1), (c', p' + j * 9 + 8, .slice Ast1 st1.len Cst1)] (by kernel_rfl) (by kernel_rfl) ⟨hS.out, x0, x1, (kc hS.out c0), (kc hS.out c1), (kc hS.out c2), (kc hS.out c3), (kc hS.out c4), (kc hS.out c5), (kc hS.out c6), (kc hS.out c7), (kc hS.out c8), (kc hS.out d0), (kc hS.out d1), (kc hS.out d2), (kc hS.out d3), (kc hS.out d4), (kc hS.out d5), (kc hS.out d6), (kc hS.out d7), (kc hS.out d8), trivial⟩ ?_
        repeat (first | go_big_quiet_skip | (go_big_quiet_want; apply Exists.intro; refine ⟨fun W hW => ?_, ?_⟩; focus (have hK := Lib.hid hW; obtain ⟨hs, hc⟩ := hW; simp only [Has, and_true] at hc; go_simp; (first | rfl | exact ⟨rfl, rfl⟩ | ((with_reducible refine quietC_call hK.out (K0.out _ ?_)); exact hs) | ((with_reducible refine quietC_call hK.out (K1.out _ ?_)); exact hs) | ((with_reducible refine quietC_call hK.out (K4.out _ ?_)); exact hs)))) | (go_simp; go_big_quiet_on))
        refine wpQuiet_nil ?_
        intro wq HQ
        have hbq := Lib.hid HQ.1
        have hx0 := HQ.2.1
        have hx1 := HQ.2.2.1
        clear HQ c0 d0 c1 d1 c2 d2 c3 d3 c4 d4 c5 d5 c6 d6 c7 d7 c8 d8 x0 x1 K0 K1 K4
        have HN : Hid (¬ cl0 = cl1) := by
          intro h
          refine of_decide_eq_false HE.out ?_
          rw [hq'.out] at h
          exact h.1
        clear hx0 hx1
        go_wp2_with fail
        go_ret
        exact ⟨(by first | rfl | exact ret_bool (by simp [HN.out])), hbq.out⟩
      have HE : Hid (decide ((lk0 = lk1 ∧ ln0 = ln1 ∧ lf0 = lf1) ∧ (rk0 = rk1 ∧ rn0 = rn1 ∧ rf0 = rf1) ∧ ru0 = ru1 ∧ re0 = re1 ∧ st0 = st1) = true) := by show _ = _; rw [HD.out]; rfl
      clear HD
      go_wp2_with fail
      refine wp_region_quietC w [(w.heap.size, 2, .slice (some ⟨c, p, none⟩) cl0.len Ccl0), (w.heap.size + 1, 2, .slice (some ⟨c', p', none⟩) cl1.len Ccl1), (c, p + j * 9, .int .i64 lk0), (c, p + j * 9 + 1, .int .i64 ln0), (c, p + j * 9 + 2, .slice Alf0 lf0.len Clf0), (c, p + j * 9 + 3, .int .i64 rk0), (c, p + j * 9 + 4, .int .i64 rn0), (c, p + j * 9 + 5, .slice Arf0 rf0.len Crf0), (c, p + j * 9 + 6, .int .i64 ru0), (c, p + j * 9 + 7, .int .i64 re0), (c, p + j * 9 + 8, .slice Ast0 st0.len Cst0), (c', p' + j * 9, .int .i64 lk1), (c', p' + j * 9 + 1, .int .i64 ln1), (c', p' + j * 9 + 2, .slice Alf1 lf1.len Clf1), (c', p' + j * 9 + 3, .int .i64 rk1), (c', p' + j * 9 + 4, .int .i64 rn1), (c', p' + j * 9 + 5, .slice Arf1 rf1.len Crf1), (c', p' + j * 9 + 6, .int .i64 ru1), (c', p' + j * 9 + 7, .int .i64 re1), (c', p' + j * 9 + 8, .slice Ast1 st1.len Cst1)] (by kernel_rfl) (by kernel_rfl) ⟨hS.out, x0, x1, (kc hS.out c0), (kc hS.out c1), (kc hS.out c2), (kc hS.out c3), (kc hS.out c4), (kc hS.out c5), (kc hS.out c6), (kc hS.out c7), (kc hS.out c8), (kc hS.out d0), (kc hS.out d1), (kc hS.out d2), (kc hS.out d3), (kc hS.out d4), (kc hS.out d5), (kc hS.out d6), (kc hS.out d7), (kc hS.out d8), trivial⟩ ?_
      repeat (first | go_big_quiet_skip | (go_big_quiet_want; apply Exists.intro; refine ⟨fun W hW => ?_, ?_⟩; focus (have hK := Lib.hid hW; obtain ⟨hs, hc⟩ := hW; simp only [Has, and_true] at hc; go_simp; (first | rfl | exact ⟨rfl, rfl⟩ | ((with_reducible refine quietC_call hK.out (K0.out _ ?_)); exact hs) | ((with_reducible refine quietC_call hK.out (K1.out _ ?_)); exact hs) | ((with_reducible refine quietC_call hK.out (K4.out _ ?_)); exact hs)))) | (go_simp; go_big_quiet_on))
      refine wpQuiet_nil ?_
      intro wq HQ
      have hbq := Lib.hid HQ.1
      have hx0 := HQ.2.1
      have hx1 := HQ.2.2.1
      clear HQ c0 d0 c1 d1 c2 d2 c3 d3 c4 d4 c5 d5 c6 d6 c7 d7 c8 d8 x0 x1 K0 K1 K4
      have hq2 : Hid ((cl0 = cl1) = (cl0.drop (j + 1) = cl1.drop (j + 1))) := by
        show _ = _
        rw [hq'.out]
        have h2 := of_decide_eq_true HE.out
        simp [h2]
      have HX := Lib.hid (And.intro hx0 hx1)
      clear hx0 hx1
      go_wp2_with fail
      go_roundw
      case rel => exact ⟨j + 1, JL.out, by go_num, hq2, hbq, HX.out.1, HX.out.2⟩
      case measure => have := JL.out; simp [intOf]; omega
    · obtain rfl : j = cl0.len := by omega
      have HT : Hid (cl0 = cl1) := by
        show _ = _
        have h1 := hq.out
        rw [Cl.drop_len, HL.out, Cl.drop_len] at h1
        rw [h1]
      clear hq
      go_wp2_with fail
      go_ret
      exact ⟨(by first | rfl | exact ret_bool (by simp [HT.out])), hS.out⟩

end Go.Proofs.YtlpgkhdecccmlaaR
