/- Equality of claims and proofs, on the program's side. -/
import Derived.Test.YtlpgkhdecccmlaaRSpi
namespace Go.Proofs.YtlpgkhdecccmlaaR
open Go.RowKit
set_option linter.unusedVariables false

set_option maxHeartbeats 4000000 in
set_option maxRecDepth 100000 in
theorem sameEquation_any (lk0 : Int) (ln0 : Int) (lf0 : Fo) (rk0 : Int) (rn0 : Int) (rf0 : Fo) (lk1 : Int) (ln1 : Int) (lf1 : Fo) (rk1 : Int) (rn1 : Int) (rf1 : Fo) (hf_lf0 : lf0.len ≤ 9223372036854775807 ∧ lf0.Fits) (hf_rf0 : rf0.len ≤ 9223372036854775807 ∧ rf0.Fits) (Alf0 Arf0 Alf1 Arf1 : Option Addr) (Clf0 Crf0 Clf1 Crf1 : Nat) (w : World) (hl_lf0 : lf0.Lies w Alf0) (hl_rf0 : rf0.Lies w Arf0) (hl_lf1 : lf1.Lies w Alf1) (hl_rf1 : rf1.Lies w Arf1) :
    Calls Try.prog 149 #[.agg #[.int .i64 lk0, .int .i64 ln0, .slice Alf0 lf0.len Clf0, .int .i64 rk0, .int .i64 rn0, .slice Arf0 rf0.len Crf0], .agg #[.int .i64 lk1, .int .i64 ln1, .slice Alf1 lf1.len Clf1, .int .i64 rk1, .int .i64 rn1, .slice Arf1 rf1.len Crf1]] w fun e w' => e = .returned (.bool (decide ((lk0 = lk1 ∧ ln0 = ln1 ∧ lf0 = lf1) ∧ (rk0 = rk1 ∧ rn0 = rn1 ∧ rf0 = rf1)))) ∧ Below w.heap.size w w' := by
  obtain ⟨q0, hq_q0⟩ : ∃ q : Bool, q = decide (lk0 = lk1 ∧ ln0 = ln1 ∧ lf0 = lf1) := ⟨_, rfl⟩
  have K0 : Hid (∀ W : World, Sees w W → Calls Try.prog 192 #[.agg #[.int .i64 lk0, .int .i64 ln0, .slice Alf0 lf0.len Clf0], .agg #[.int .i64 lk1, .int .i64 ln1, .slice Alf1 lf1.len Clf1]] W fun e w' => e = .returned (.bool q0) ∧ Below W.heap.size W w') := fun W h => by
    rw [hq_q0]
    exact sameExpr_u lk0 ln0 lf0 lk1 ln1 lf1 hf_lf0 Alf0 Alf1 Clf0 Clf1 W (hl_lf0.sees h) (hl_lf1.sees h)
  obtain ⟨q1, hq_q1⟩ : ∃ q : Bool, q = decide (rk0 = rk1 ∧ rn0 = rn1 ∧ rf0 = rf1) := ⟨_, rfl⟩
  have K1 : Hid (∀ W : World, Sees w W → Calls Try.prog 192 #[.agg #[.int .i64 rk0, .int .i64 rn0, .slice Arf0 rf0.len Crf0], .agg #[.int .i64 rk1, .int .i64 rn1, .slice Arf1 rf1.len Crf1]] W fun e w' => e = .returned (.bool q1) ∧ Below W.heap.size W w') := fun W h => by
    rw [hq_q1]
    exact sameExpr_u rk0 rn0 rf0 rk1 rn1 rf1 hf_rf0 Arf0 Arf1 Crf0 Crf1 W (hl_rf0.sees h) (hl_rf1.sees h)
  clear hl_lf0 hl_lf1 hl_rf0 hl_rf1
  have HD : Hid (decide ((lk0 = lk1 ∧ ln0 = ln1 ∧ lf0 = lf1) ∧ (rk0 = rk1 ∧ rn0 = rn1 ∧ rf0 = rf1)) = (q0 && q1)) := by
    show _ = _
    rw [hq_q0, hq_q1, Bool.eq_iff_iff]
    first | (simp; done) | (simp [and_assoc]; done)
  clear hq_q0 hq_q1
  cases q0
  case false =>
    have HE : Hid (decide ((lk0 = lk1 ∧ ln0 = ln1 ∧ lf0 = lf1) ∧ (rk0 = rk1 ∧ rn0 = rn1 ∧ rf0 = rf1)) = false) := by show _ = _; rw [HD.out]; rfl
    clear HD
    go_enter Try.func149, Try.ntmps149
    go_wp2_with fail
    refine (K0.out _ (by unfold Sees; go_grown)).mono ?_
    rintro e y0 ⟨rfl, hb⟩
    have V0 : Hid (Sees w y0) := Sees.below (by unfold Sees; go_grown) hb
    have HB0 : Hid (y0.heap[w.heap.size]? = some (.cells #[.int .i64 lk0, .int .i64 ln0, .slice Alf0 lf0.len Clf0, .int .i64 rk0, .int .i64 rn0, .slice Arf0 rf0.len Crf0] 224 (0, 0))) := (hb.block _ (by simp <;> omega)).trans ((Below.heap_alloc _ _ _ (by simp <;> omega)).trans (heap_new _ _ _ rfl))
    have HB1 : Hid (y0.heap[w.heap.size + 1]? = some (.cells #[.int .i64 lk1, .int .i64 ln1, .slice Alf1 lf1.len Clf1, .int .i64 rk1, .int .i64 rn1, .slice Arf1 rf1.len Crf1] 224 (0, 0))) := (hb.block _ (by simp <;> omega)).trans (heap_new _ _ _ (by simp))
    clear hb
    obtain ⟨c0, c1, c2, c3, c4, c5, _, _, _, _, _, _⟩ := fc6 HB0.out
    obtain ⟨d0, d1, d2, d3, d4, d5, _, _, _, _, _, _⟩ := fc6 HB1.out
    go_wp2_with fail
    clear c0 d0 c1 d1 c2 d2 c3 d3 c4 d4 c5 d5
    go_ret
    exact ⟨(by first | exact ret_bool HE.out.symm | rfl), V0.out⟩
  cases q1
  case false =>
    have HE : Hid (decide ((lk0 = lk1 ∧ ln0 = ln1 ∧ lf0 = lf1) ∧ (rk0 = rk1 ∧ rn0 = rn1 ∧ rf0 = rf1)) = false) := by show _ = _; rw [HD.out]; rfl
    clear HD
    go_enter Try.func149, Try.ntmps149
    go_wp2_with fail
    refine (K0.out _ (by unfold Sees; go_grown)).mono ?_
    rintro e y0 ⟨rfl, hb⟩
    have V0 : Hid (Sees w y0) := Sees.below (by unfold Sees; go_grown) hb
    have HB0 : Hid (y0.heap[w.heap.size]? = some (.cells #[.int .i64 lk0, .int .i64 ln0, .slice Alf0 lf0.len Clf0, .int .i64 rk0, .int .i64 rn0, .slice Arf0 rf0.len Crf0] 224 (0, 0))) := (hb.block _ (by simp <;> omega)).trans ((Below.heap_alloc _ _ _ (by simp <;> omega)).trans (heap_new _ _ _ rfl))
    have HB1 : Hid (y0.heap[w.heap.size + 1]? = some (.cells #[.int .i64 lk1, .int .i64 ln1, .slice Alf1 lf1.len Clf1, .int .i64 rk1, .int .i64 rn1, .slice Arf1 rf1.len Crf1] 224 (0, 0))) := (hb.block _ (by simp <;> omega)).trans (heap_new _ _ _ (by simp))
    clear hb
    obtain ⟨c0, c1, c2, c3, c4, c5, _, _, _, _, _, _⟩ := fc6 HB0.out
    obtain ⟨d0, d1, d2, d3, d4, d5, _, _, _, _, _, _⟩ := fc6 HB1.out
    go_wp2_with fail
    clear c0 d0 c1 d1 c2 d2 c3 d3 c4 d4 c5 d5
    refine (K1.out _ V0.out).mono ?_
    rintro e y1 ⟨rfl, hb⟩
    have V1 := Lib.hid (Sees.below V0.out hb)
    have HB0' := Lib.hid ((hb.block _ (Array.getElem?_eq_some_iff.1 HB0.out).1).trans HB0.out)
    have HB1' := Lib.hid ((hb.block _ (Array.getElem?_eq_some_iff.1 HB1.out).1).trans HB1.out)
    clear HB0 HB1
    have HB0 := HB0'; have HB1 := HB1'
    clear HB0' HB1'
    clear hb
    obtain ⟨c0, c1, c2, c3, c4, c5, _, _, _, _, _, _⟩ := fc6 HB0.out
    obtain ⟨d0, d1, d2, d3, d4, d5, _, _, _, _, _, _⟩ := fc6 HB1.out
    go_wp2_with fail
    clear c0 d0 c1 d1 c2 d2 c3 d3 c4 d4 c5 d5
    go_ret
    exact ⟨(by first | exact ret_bool HE.out.symm | rfl), V1.out⟩
  have HE : Hid (decide ((lk0 = lk1 ∧ ln0 = ln1 ∧ lf0 = lf1) ∧ (rk0 = rk1 ∧ rn0 = rn1 ∧ rf0 = rf1)) = true) := by show _ = _; rw [HD.out]; rfl
  clear HD
  go_enter Try.func149, Try.ntmps149
  go_wp2_with fail
  refine (K0.out _ (by unfold Sees; go_grown)).mono ?_
  rintro e y0 ⟨rfl, hb⟩
  have V0 : Hid (Sees w y0) := Sees.below (by unfold Sees; go_grown) hb
  have HB0 : Hid (y0.heap[w.heap.size]? = some (.cells #[.int .i64 lk0, .int .i64 ln0, .slice Alf0 lf0.len Clf0, .int .i64 rk0, .int .i64 rn0, .slice Arf0 rf0.len Crf0] 224 (0, 0))) := (hb.block _ (by simp <;> omega)).trans ((Below.heap_alloc _ _ _ (by simp <;> omega)).trans (heap_new _ _ _ rfl))
  have HB1 : Hid (y0.heap[w.heap.size + 1]? = some (.cells #[.int .i64 lk1, .int .i64 ln1, .slice Alf1 lf1.len Clf1, .int .i64 rk1, .int .i64 rn1, .slice Arf1 rf1.len Crf1] 224 (0, 0))) := (hb.block _ (by simp <;> omega)).trans (heap_new _ _ _ (by simp))
  clear hb
  obtain ⟨c0, c1, c2, c3, c4, c5, _, _, _, _, _, _⟩ := fc6 HB0.out
  obtain ⟨d0, d1, d2, d3, d4, d5, _, _, _, _, _, _⟩ := fc6 HB1.out
  go_wp2_with fail
  clear c0 d0 c1 d1 c2 d2 c3 d3 c4 d4 c5 d5
  refine (K1.out _ V0.out).mono ?_
  rintro e y1 ⟨rfl, hb⟩
  have V1 := Lib.hid (Sees.below V0.out hb)
  have HB0' := Lib.hid ((hb.block _ (Array.getElem?_eq_some_iff.1 HB0.out).1).trans HB0.out)
  have HB1' := Lib.hid ((hb.block _ (Array.getElem?_eq_some_iff.1 HB1.out).1).trans HB1.out)
  clear HB0 HB1
  have HB0 := HB0'; have HB1 := HB1'
  clear HB0' HB1'
  clear hb
  obtain ⟨c0, c1, c2, c3, c4, c5, _, _, _, _, _, _⟩ := fc6 HB0.out
  obtain ⟨d0, d1, d2, d3, d4, d5, _, _, _, _, _, _⟩ := fc6 HB1.out
  go_wp2_with fail
  clear c0 d0 c1 d1 c2 d2 c3 d3 c4 d4 c5 d5
  go_ret
  exact ⟨(by first | exact ret_bool HE.out.symm | rfl), V1.out⟩

set_option maxHeartbeats 4000000 in
set_option maxRecDepth 100000 in
theorem claimEquation_any (lk : Int) (ln : Int) (lf : Fo) (rk : Int) (rn : Int) (rf : Fo) (ru : Int) (re : Int) (st : Ps) (Alf Arf Ast : Option Addr) (Clf Crf Cst : Nat) (w : World) :
    Calls Try.prog 150 #[.agg #[.int .i64 lk, .int .i64 ln, .slice Alf lf.len Clf, .int .i64 rk, .int .i64 rn, .slice Arf rf.len Crf, .int .i64 ru, .int .i64 re, .slice Ast st.len Cst]] w fun e w' => e = .returned (.agg #[.int .i64 lk, .int .i64 ln, .slice Alf lf.len Clf, .int .i64 rk, .int .i64 rn, .slice Arf rf.len Crf]) ∧ Below w.heap.size w w' := by
  go_enter Try.func150, Try.ntmps150
  go_wp2_with fail
  refine bodyPost_ret (v := .agg #[.int .i64 lk, .int .i64 ln, .slice Alf lf.len Clf, .int .i64 rk, .int .i64 rn, .slice Arf rf.len Crf]) (by simp [results, Try.results150, go_sem]) rfl ⟨rfl, by go_grown⟩

set_option maxHeartbeats 4000000 in
set_option maxRecDepth 100000 in
theorem sameClaim_any (lk0 : Int) (ln0 : Int) (lf0 : Fo) (rk0 : Int) (rn0 : Int) (rf0 : Fo) (ru0 : Int) (re0 : Int) (st0 : Ps) (lk1 : Int) (ln1 : Int) (lf1 : Fo) (rk1 : Int) (rn1 : Int) (rf1 : Fo) (ru1 : Int) (re1 : Int) (st1 : Ps) (hf_lf0 : lf0.len ≤ 9223372036854775807 ∧ lf0.Fits) (hf_rf0 : rf0.len ≤ 9223372036854775807 ∧ rf0.Fits) (hf_st0 : st0.len ≤ 9223372036854775807 ∧ st0.Fits) (Alf0 Arf0 Ast0 Alf1 Arf1 Ast1 : Option Addr) (Clf0 Crf0 Cst0 Clf1 Crf1 Cst1 : Nat) (w : World) (hl_lf0 : lf0.Lies w Alf0) (hl_rf0 : rf0.Lies w Arf0) (hl_st0 : st0.Lies w Ast0) (hl_lf1 : lf1.Lies w Alf1) (hl_rf1 : rf1.Lies w Arf1) (hl_st1 : st1.Lies w Ast1) :
    Calls Try.prog 95 #[.agg #[.int .i64 lk0, .int .i64 ln0, .slice Alf0 lf0.len Clf0, .int .i64 rk0, .int .i64 rn0, .slice Arf0 rf0.len Crf0, .int .i64 ru0, .int .i64 re0, .slice Ast0 st0.len Cst0], .agg #[.int .i64 lk1, .int .i64 ln1, .slice Alf1 lf1.len Clf1, .int .i64 rk1, .int .i64 rn1, .slice Arf1 rf1.len Crf1, .int .i64 ru1, .int .i64 re1, .slice Ast1 st1.len Cst1]] w fun e w' => e = .returned (.bool (decide ((lk0 = lk1 ∧ ln0 = ln1 ∧ lf0 = lf1) ∧ (rk0 = rk1 ∧ rn0 = rn1 ∧ rf0 = rf1) ∧ ru0 = ru1 ∧ re0 = re1 ∧ st0 = st1))) ∧ Below w.heap.size w w' := by
  have E0 : Hid (∀ W : World, Calls Try.prog 150 #[.agg #[.int .i64 lk0, .int .i64 ln0, .slice Alf0 lf0.len Clf0, .int .i64 rk0, .int .i64 rn0, .slice Arf0 rf0.len Crf0, .int .i64 ru0, .int .i64 re0, .slice Ast0 st0.len Cst0]] W fun e w' => e = .returned (.agg #[.int .i64 lk0, .int .i64 ln0, .slice Alf0 lf0.len Clf0, .int .i64 rk0, .int .i64 rn0, .slice Arf0 rf0.len Crf0]) ∧ Below W.heap.size W w') := fun W => claimEquation_any lk0 ln0 lf0 rk0 rn0 rf0 ru0 re0 st0 Alf0 Arf0 Ast0 Clf0 Crf0 Cst0 W
  have E1 : Hid (∀ W : World, Calls Try.prog 150 #[.agg #[.int .i64 lk1, .int .i64 ln1, .slice Alf1 lf1.len Clf1, .int .i64 rk1, .int .i64 rn1, .slice Arf1 rf1.len Crf1, .int .i64 ru1, .int .i64 re1, .slice Ast1 st1.len Cst1]] W fun e w' => e = .returned (.agg #[.int .i64 lk1, .int .i64 ln1, .slice Alf1 lf1.len Clf1, .int .i64 rk1, .int .i64 rn1, .slice Arf1 rf1.len Crf1]) ∧ Below W.heap.size W w') := fun W => claimEquation_any lk1 ln1 lf1 rk1 rn1 rf1 ru1 re1 st1 Alf1 Arf1 Ast1 Clf1 Crf1 Cst1 W
  obtain ⟨q0, hq_q0⟩ : ∃ q : Bool, q = decide ((lk0 = lk1 ∧ ln0 = ln1 ∧ lf0 = lf1) ∧ (rk0 = rk1 ∧ rn0 = rn1 ∧ rf0 = rf1)) := ⟨_, rfl⟩
  have K0 : Hid (∀ W : World, Sees w W → Calls Try.prog 149 #[.agg #[.int .i64 lk0, .int .i64 ln0, .slice Alf0 lf0.len Clf0, .int .i64 rk0, .int .i64 rn0, .slice Arf0 rf0.len Crf0], .agg #[.int .i64 lk1, .int .i64 ln1, .slice Alf1 lf1.len Clf1, .int .i64 rk1, .int .i64 rn1, .slice Arf1 rf1.len Crf1]] W fun e w' => e = .returned (.bool q0) ∧ Below W.heap.size W w') := fun W h => by
    rw [hq_q0]
    exact sameEquation_any lk0 ln0 lf0 rk0 rn0 rf0 lk1 ln1 lf1 rk1 rn1 rf1 hf_lf0 hf_rf0 Alf0 Arf0 Alf1 Arf1 Clf0 Crf0 Clf1 Crf1 W (hl_lf0.sees h) (hl_rf0.sees h) (hl_lf1.sees h) (hl_rf1.sees h)
  obtain ⟨q3, hq_q3⟩ : ∃ q : Bool, q = decide (st0 = st1) := ⟨_, rfl⟩
  have K3 : Hid (∀ W : World, Sees w W → Calls Try.prog 151 #[.slice Ast0 st0.len Cst0, .slice Ast1 st1.len Cst1, .func (.func 152) #[] #[]] W fun e w' => e = .returned (.bool q3) ∧ Below W.heap.size W w') := fun W h => by
    rw [hq_q3]
    exact equalSteps_u st0 st1 hf_st0 Ast0 Ast1 Cst0 Cst1 W (hl_st0.sees h) (hl_st1.sees h)
  clear hl_lf0 hl_lf1 hl_rf0 hl_rf1 hl_st0 hl_st1
  have HD : Hid (decide ((lk0 = lk1 ∧ ln0 = ln1 ∧ lf0 = lf1) ∧ (rk0 = rk1 ∧ rn0 = rn1 ∧ rf0 = rf1) ∧ ru0 = ru1 ∧ re0 = re1 ∧ st0 = st1) = (q0 && (decide (ru0 = ru1) && (decide (re0 = re1) && q3)))) := by
    show _ = _
    rw [hq_q0, hq_q3, Bool.eq_iff_iff]
    first | (simp; done) | (simp [and_assoc]; done)
  clear hq_q0 hq_q3
  cases q0
  case false =>
    have HE : Hid (decide ((lk0 = lk1 ∧ ln0 = ln1 ∧ lf0 = lf1) ∧ (rk0 = rk1 ∧ rn0 = rn1 ∧ rf0 = rf1) ∧ ru0 = ru1 ∧ re0 = re1 ∧ st0 = st1) = false) := by show _ = _; rw [HD.out]; rfl
    clear HD
    go_enter Try.func95, Try.ntmps95
    go_wp2_with fail
    refine wp_region_quietC w [(w.heap.size, 0, .int .i64 lk0), (w.heap.size, 1, .int .i64 ln0), (w.heap.size, 2, .slice Alf0 lf0.len Clf0), (w.heap.size, 3, .int .i64 rk0), (w.heap.size, 4, .int .i64 rn0), (w.heap.size, 5, .slice Arf0 rf0.len Crf0), (w.heap.size, 6, .int .i64 ru0), (w.heap.size, 7, .int .i64 re0), (w.heap.size, 8, .slice Ast0 st0.len Cst0), (w.heap.size + 1, 0, .int .i64 lk1), (w.heap.size + 1, 1, .int .i64 ln1), (w.heap.size + 1, 2, .slice Alf1 lf1.len Clf1), (w.heap.size + 1, 3, .int .i64 rk1), (w.heap.size + 1, 4, .int .i64 rn1), (w.heap.size + 1, 5, .slice Arf1 rf1.len Crf1), (w.heap.size + 1, 6, .int .i64 ru1), (w.heap.size + 1, 7, .int .i64 re1), (w.heap.size + 1, 8, .slice Ast1 st1.len Cst1)] (by kernel_rfl) (by kernel_rfl) ⟨(by unfold Sees; go_grown), (by simp [go_sem]), (by simp [go_sem]), (by simp [go_sem]), (by simp [go_sem]), (by simp [go_sem]), (by simp [go_sem]), (by simp [go_sem]), (by simp [go_sem]), (by simp [go_sem]), (by simp [go_sem]), (by simp [go_sem]), (by simp [go_sem]), (by simp [go_sem]), (by simp [go_sem]), (by simp [go_sem]), (by simp [go_sem]), (by simp [go_sem]), (by simp [go_sem]), trivial⟩ ?_
    repeat (first | go_big_quiet_skip | (go_big_quiet_want; apply Exists.intro; refine ⟨fun W hW => ?_, ?_⟩; focus (have hK := Lib.hid hW; obtain ⟨hs, hc⟩ := hW; simp only [Has, and_true] at hc; go_simp; (first | rfl | exact ⟨rfl, rfl⟩ | ((with_reducible refine quietC_call hK.out (E0.out _))) | ((with_reducible refine quietC_call hK.out (E1.out _))) | ((with_reducible refine quietC_call hK.out (K0.out _ ?_)); exact hs) | ((with_reducible refine quietC_call hK.out (K3.out _ ?_)); exact hs)))) | (go_simp; go_big_quiet_on))
    refine wpQuiet_nil ?_
    intro wq HQ
    have hbq : Below w.heap.size w wq := HQ.1
    clear HQ
    go_wp2_with fail
    go_ret
    exact ⟨ret_bool HE.out.symm, hbq⟩
  by_cases hk : ru0 = ru1
  case neg =>
    have tk : (ru0 == ru1) = false := by rw [beq_eq_false_iff_ne]; exact hk
    have HE : Hid (decide ((lk0 = lk1 ∧ ln0 = ln1 ∧ lf0 = lf1) ∧ (rk0 = rk1 ∧ rn0 = rn1 ∧ rf0 = rf1) ∧ ru0 = ru1 ∧ re0 = re1 ∧ st0 = st1) = false) := by show _ = _; rw [HD.out, decide_eq_false hk]; rfl
    clear hk HD
    go_enter Try.func95, Try.ntmps95
    go_wp2_with fail
    refine wp_region_quietC w [(w.heap.size, 0, .int .i64 lk0), (w.heap.size, 1, .int .i64 ln0), (w.heap.size, 2, .slice Alf0 lf0.len Clf0), (w.heap.size, 3, .int .i64 rk0), (w.heap.size, 4, .int .i64 rn0), (w.heap.size, 5, .slice Arf0 rf0.len Crf0), (w.heap.size, 6, .int .i64 ru0), (w.heap.size, 7, .int .i64 re0), (w.heap.size, 8, .slice Ast0 st0.len Cst0), (w.heap.size + 1, 0, .int .i64 lk1), (w.heap.size + 1, 1, .int .i64 ln1), (w.heap.size + 1, 2, .slice Alf1 lf1.len Clf1), (w.heap.size + 1, 3, .int .i64 rk1), (w.heap.size + 1, 4, .int .i64 rn1), (w.heap.size + 1, 5, .slice Arf1 rf1.len Crf1), (w.heap.size + 1, 6, .int .i64 ru1), (w.heap.size + 1, 7, .int .i64 re1), (w.heap.size + 1, 8, .slice Ast1 st1.len Cst1)] (by kernel_rfl) (by kernel_rfl) ⟨(by unfold Sees; go_grown), (by simp [go_sem]), (by simp [go_sem]), (by simp [go_sem]), (by simp [go_sem]), (by simp [go_sem]), (by simp [go_sem]), (by simp [go_sem]), (by simp [go_sem]), (by simp [go_sem]), (by simp [go_sem]), (by simp [go_sem]), (by simp [go_sem]), (by simp [go_sem]), (by simp [go_sem]), (by simp [go_sem]), (by simp [go_sem]), (by simp [go_sem]), (by simp [go_sem]), trivial⟩ ?_
    repeat (first | go_big_quiet_skip | (go_big_quiet_want; apply Exists.intro; refine ⟨fun W hW => ?_, ?_⟩; focus (have hK := Lib.hid hW; obtain ⟨hs, hc⟩ := hW; simp only [Has, and_true] at hc; go_simp; (first | rfl | exact ⟨rfl, rfl⟩ | ((with_reducible refine quietC_call hK.out (E0.out _))) | ((with_reducible refine quietC_call hK.out (E1.out _))) | ((with_reducible refine quietC_call hK.out (K0.out _ ?_)); exact hs) | ((with_reducible refine quietC_call hK.out (K3.out _ ?_)); exact hs)))) | (go_simp; go_big_quiet_on))
    refine wpQuiet_nil ?_
    intro wq HQ
    have hbq : Below w.heap.size w wq := HQ.1
    clear HQ
    go_wp2_with fail
    go_ret
    exact ⟨ret_bool HE.out.symm, hbq⟩
  have t_ru0 : (ru0 == ru1) = true := by simp [hk]
  rw [decide_eq_true hk] at HD
  clear hk
  by_cases hk : re0 = re1
  case neg =>
    have tk : (re0 == re1) = false := by rw [beq_eq_false_iff_ne]; exact hk
    have HE : Hid (decide ((lk0 = lk1 ∧ ln0 = ln1 ∧ lf0 = lf1) ∧ (rk0 = rk1 ∧ rn0 = rn1 ∧ rf0 = rf1) ∧ ru0 = ru1 ∧ re0 = re1 ∧ st0 = st1) = false) := by show _ = _; rw [HD.out, decide_eq_false hk]; rfl
    clear hk HD
    go_enter Try.func95, Try.ntmps95
    go_wp2_with fail
    refine wp_region_quietC w [(w.heap.size, 0, .int .i64 lk0), (w.heap.size, 1, .int .i64 ln0), (w.heap.size, 2, .slice Alf0 lf0.len Clf0), (w.heap.size, 3, .int .i64 rk0), (w.heap.size, 4, .int .i64 rn0), (w.heap.size, 5, .slice Arf0 rf0.len Crf0), (w.heap.size, 6, .int .i64 ru0), (w.heap.size, 7, .int .i64 re0), (w.heap.size, 8, .slice Ast0 st0.len Cst0), (w.heap.size + 1, 0, .int .i64 lk1), (w.heap.size + 1, 1, .int .i64 ln1), (w.heap.size + 1, 2, .slice Alf1 lf1.len Clf1), (w.heap.size + 1, 3, .int .i64 rk1), (w.heap.size + 1, 4, .int .i64 rn1), (w.heap.size + 1, 5, .slice Arf1 rf1.len Crf1), (w.heap.size + 1, 6, .int .i64 ru1), (w.heap.size + 1, 7, .int .i64 re1), (w.heap.size + 1, 8, .slice Ast1 st1.len Cst1)] (by kernel_rfl) (by kernel_rfl) ⟨(by unfold Sees; go_grown), (by simp [go_sem]), (by simp [go_sem]), (by simp [go_sem]), (by simp [go_sem]), (by simp [go_sem]), (by simp [go_sem]), (by simp [go_sem]), (by simp [go_sem]), (by simp [go_sem]), (by simp [go_sem]), (by simp [go_sem]), (by simp [go_sem]), (by simp [go_sem]), (by simp [go_sem]), (by simp [go_sem]), (by simp [go_sem]), (by simp [go_sem]), (by simp [go_sem]), trivial⟩ ?_
    repeat (first | go_big_quiet_skip | (go_big_quiet_want; apply Exists.intro; refine ⟨fun W hW => ?_, ?_⟩; focus (have hK := Lib.hid hW; obtain ⟨hs, hc⟩ := hW; simp only [Has, and_true] at hc; go_simp; (first | rfl | exact ⟨rfl, rfl⟩ | ((with_reducible refine quietC_call hK.out (E0.out _))) | ((with_reducible refine quietC_call hK.out (E1.out _))) | ((with_reducible refine quietC_call hK.out (K0.out _ ?_)); exact hs) | ((with_reducible refine quietC_call hK.out (K3.out _ ?_)); exact hs)))) | (go_simp; go_big_quiet_on))
    refine wpQuiet_nil ?_
    intro wq HQ
    have hbq : Below w.heap.size w wq := HQ.1
    clear HQ
    go_wp2_with fail
    go_ret
    exact ⟨ret_bool HE.out.symm, hbq⟩
  have t_re0 : (re0 == re1) = true := by simp [hk]
  rw [decide_eq_true hk] at HD
  clear hk
  cases q3
  case false =>
    have HE : Hid (decide ((lk0 = lk1 ∧ ln0 = ln1 ∧ lf0 = lf1) ∧ (rk0 = rk1 ∧ rn0 = rn1 ∧ rf0 = rf1) ∧ ru0 = ru1 ∧ re0 = re1 ∧ st0 = st1) = false) := by show _ = _; rw [HD.out]; rfl
    clear HD
    go_enter Try.func95, Try.ntmps95
    go_wp2_with fail
    refine wp_region_quietC w [(w.heap.size, 0, .int .i64 lk0), (w.heap.size, 1, .int .i64 ln0), (w.heap.size, 2, .slice Alf0 lf0.len Clf0), (w.heap.size, 3, .int .i64 rk0), (w.heap.size, 4, .int .i64 rn0), (w.heap.size, 5, .slice Arf0 rf0.len Crf0), (w.heap.size, 6, .int .i64 ru0), (w.heap.size, 7, .int .i64 re0), (w.heap.size, 8, .slice Ast0 st0.len Cst0), (w.heap.size + 1, 0, .int .i64 lk1), (w.heap.size + 1, 1, .int .i64 ln1), (w.heap.size + 1, 2, .slice Alf1 lf1.len Clf1), (w.heap.size + 1, 3, .int .i64 rk1), (w.heap.size + 1, 4, .int .i64 rn1), (w.heap.size + 1, 5, .slice Arf1 rf1.len Crf1), (w.heap.size + 1, 6, .int .i64 ru1), (w.heap.size + 1, 7, .int .i64 re1), (w.heap.size + 1, 8, .slice Ast1 st1.len Cst1)] (by kernel_rfl) (by kernel_rfl) ⟨(by unfold Sees; go_grown), (by simp [go_sem]), (by simp [go_sem]), (by simp [go_sem]), (by simp [go_sem]), (by simp [go_sem]), (by simp [go_sem]), (by simp [go_sem]), (by simp [go_sem]), (by simp [go_sem]), (by simp [go_sem]), (by simp [go_sem]), (by simp [go_sem]), (by simp [go_sem]), (by simp [go_sem]), (by simp [go_sem]), (by simp [go_sem]), (by simp [go_sem]), (by simp [go_sem]), trivial⟩ ?_
    repeat (first | go_big_quiet_skip | (go_big_quiet_want; apply Exists.intro; refine ⟨fun W hW => ?_, ?_⟩; focus (have hK := Lib.hid hW; obtain ⟨hs, hc⟩ := hW; simp only [Has, and_true] at hc; go_simp; (first | rfl | exact ⟨rfl, rfl⟩ | ((with_reducible refine quietC_call hK.out (E0.out _))) | ((with_reducible refine quietC_call hK.out (E1.out _))) | ((with_reducible refine quietC_call hK.out (K0.out _ ?_)); exact hs) | ((with_reducible refine quietC_call hK.out (K3.out _ ?_)); exact hs)))) | (go_simp; go_big_quiet_on))
    refine wpQuiet_nil ?_
    intro wq HQ
    have hbq : Below w.heap.size w wq := HQ.1
    clear HQ
    go_wp2_with fail
    go_ret
    exact ⟨ret_bool HE.out.symm, hbq⟩
  have HE : Hid (decide ((lk0 = lk1 ∧ ln0 = ln1 ∧ lf0 = lf1) ∧ (rk0 = rk1 ∧ rn0 = rn1 ∧ rf0 = rf1) ∧ ru0 = ru1 ∧ re0 = re1 ∧ st0 = st1) = true) := by show _ = _; rw [HD.out]; rfl
  clear HD
  go_enter Try.func95, Try.ntmps95
  go_wp2_with fail
  refine wp_region_quietC w [(w.heap.size, 0, .int .i64 lk0), (w.heap.size, 1, .int .i64 ln0), (w.heap.size, 2, .slice Alf0 lf0.len Clf0), (w.heap.size, 3, .int .i64 rk0), (w.heap.size, 4, .int .i64 rn0), (w.heap.size, 5, .slice Arf0 rf0.len Crf0), (w.heap.size, 6, .int .i64 ru0), (w.heap.size, 7, .int .i64 re0), (w.heap.size, 8, .slice Ast0 st0.len Cst0), (w.heap.size + 1, 0, .int .i64 lk1), (w.heap.size + 1, 1, .int .i64 ln1), (w.heap.size + 1, 2, .slice Alf1 lf1.len Clf1), (w.heap.size + 1, 3, .int .i64 rk1), (w.heap.size + 1, 4, .int .i64 rn1), (w.heap.size + 1, 5, .slice Arf1 rf1.len Crf1), (w.heap.size + 1, 6, .int .i64 ru1), (w.heap.size + 1, 7, .int .i64 re1), (w.heap.size + 1, 8, .slice Ast1 st1.len Cst1)] (by kernel_rfl) (by kernel_rfl) ⟨(by unfold Sees; go_grown), (by simp [go_sem]), (by simp [go_sem]), (by simp [go_sem]), (by simp [go_sem]), (by simp [go_sem]), (by simp [go_sem]), (by simp [go_sem]), (by simp [go_sem]), (by simp [go_sem]), (by simp [go_sem]), (by simp [go_sem]), (by simp [go_sem]), (by simp [go_sem]), (by simp [go_sem]), (by simp [go_sem]), (by simp [go_sem]), (by simp [go_sem]), (by simp [go_sem]), trivial⟩ ?_
  repeat (first | go_big_quiet_skip | (go_big_quiet_want; apply Exists.intro; refine ⟨fun W hW => ?_, ?_⟩; focus (have hK := Lib.hid hW; obtain ⟨hs, hc⟩ := hW; simp only [Has, and_true] at hc; go_simp; (first | rfl | exact ⟨rfl, rfl⟩ | ((with_reducible refine quietC_call hK.out (E0.out _))) | ((with_reducible refine quietC_call hK.out (E1.out _))) | ((with_reducible refine quietC_call hK.out (K0.out _ ?_)); exact hs) | ((with_reducible refine quietC_call hK.out (K3.out _ ?_)); exact hs)))) | (go_simp; go_big_quiet_on))
  refine wpQuiet_nil ?_
  intro wq HQ
  have hbq : Below w.heap.size w wq := HQ.1
  clear HQ
  go_wp2_with fail
  go_ret
  exact ⟨ret_bool HE.out.symm, hbq⟩

set_option maxHeartbeats 4000000 in
set_option maxRecDepth 100000 in
theorem equalClaims_u (f0 f1 : Cl) (hf' : f0.len ≤ 9223372036854775807 ∧ f0.Fits) (A A' : Option Addr) (C C' : Nat) (w : World) (hl : f0.Lies w A) (hl' : f1.Lies w A') :
    Calls Try.prog 94 #[.slice A f0.len C, .slice A' f1.len C', .func (.func 95) #[] #[]] w fun e w' => e = .returned (.bool (decide (f0 = f1))) ∧ Below w.heap.size w w' := by
  have hm := hf'.1
  by_cases hlen : f0.len = f1.len
  · have HL := Lib.hid hlen
    have tl : ((f0.len : Int) != (f1.len : Int)) = false := by simp [hlen]
    clear hlen
    have HH := Lib.hid hl; have HH' := Lib.hid hl'; have HF := Lib.hid hf'.2
    clear hl hl' hf'
    go_enter Try.func94, Try.ntmps94
    go_wp2_with fail
    go_loopw [17] (fun i wr => ∃ j : Nat, j ≤ f0.len ∧ i = .int .i64 j ∧ Hid ((f0 = f1) = (f0.drop j = f1.drop j)) ∧ Hid (Below w.heap.size w wr)) (fun i _ => f0.len - (intOf i).toNat)
    case atStart => exact ⟨0, Nat.zero_le _, rfl, (by show _ = _; cases f0 <;> cases f1 <;> rfl), Below.refl _ _⟩
    case round =>
      obtain ⟨j, hj, rfl, hq, hw⟩ := hrel
      clear tl
      by_cases hjl : j < f0.len
      · obtain ⟨c, p, rfl, hat⟩ := HH.out (by rintro rfl; simp [Cl.len] at hjl)
        obtain ⟨c', p', rfl, hat'⟩ := HH'.out (by rintro rfl; have := HL.out; simp [Cl.len] at this; omega)
        obtain ⟨lk0, ln0, lf0, rk0, rn0, rf0, ru0, re0, st0, r0, Alf0, Clf0, Arf0, Crf0, Ast0, Cst0, e1, e2, c0, c1, c2, hl_lf0, c3, c4, c5, hl_rf0, c6, c7, c8, hl_st0⟩ := Cl.Lies.row hat hjl
        obtain ⟨lk1, ln1, lf1, rk1, rn1, rf1, ru1, re1, st1, r1, Alf1, Clf1, Arf1, Crf1, Ast1, Cst1, e3, e4, d0, d1, d2, hl_lf1, d3, d4, d5, hl_rf1, d6, d7, d8, hl_st1⟩ := Cl.Lies.row hat' (by rw [← HL.out]; exact hjl)
        have hfd := Cl.fits_drop HF.out j
        rw [e1.out] at hfd
        have hq' : Hid ((f0 = f1) = (((lk0 = lk1 ∧ ln0 = ln1 ∧ lf0 = lf1) ∧ (rk0 = rk1 ∧ rn0 = rn1 ∧ rf0 = rf1) ∧ ru0 = ru1 ∧ re0 = re1 ∧ st0 = st1) ∧ f0.drop (j + 1) = f1.drop (j + 1))) := by
          show _ = _
          rw [hq.out, e1.out, e3.out, ← e2.out, ← e4.out]
          simp [and_assoc]
        obtain ⟨q, hqe⟩ : ∃ q : Bool, q = decide ((lk0 = lk1 ∧ ln0 = ln1 ∧ lf0 = lf1) ∧ (rk0 = rk1 ∧ rn0 = rn1 ∧ rf0 = rf1) ∧ ru0 = ru1 ∧ re0 = re1 ∧ st0 = st1) := ⟨_, rfl⟩
        have KC : Hid (∀ W : World, Sees w W → Calls Try.prog 95 #[.agg #[.int .i64 lk0, .int .i64 ln0, .slice Alf0 lf0.len Clf0, .int .i64 rk0, .int .i64 rn0, .slice Arf0 rf0.len Crf0, .int .i64 ru0, .int .i64 re0, .slice Ast0 st0.len Cst0], .agg #[.int .i64 lk1, .int .i64 ln1, .slice Alf1 lf1.len Clf1, .int .i64 rk1, .int .i64 rn1, .slice Arf1 rf1.len Crf1, .int .i64 ru1, .int .i64 re1, .slice Ast1 st1.len Cst1]] W fun e w' => e = .returned (.bool q) ∧ Below W.heap.size W w') := fun W h => by
          rw [hqe]
          exact sameClaim_any lk0 ln0 lf0 rk0 rn0 rf0 ru0 re0 st0 lk1 ln1 lf1 rk1 rn1 rf1 ru1 re1 st1 (hfd.1) (hfd.2.1) (hfd.2.2.1) Alf0 Arf0 Ast0 Alf1 Arf1 Ast1 Clf0 Crf0 Cst0 Clf1 Crf1 Cst1 W (hl_lf0.sees h) (hl_rf0.sees h) (hl_st0.sees h) (hl_lf1.sees h) (hl_rf1.sees h) (hl_st1.sees h)
        have HQ := Lib.hid hqe
        have HAT := Lib.hid hat; have HAT' := Lib.hid hat'
        have hb := hw.out
        have a0 := kc hb c0; have a1 := kc hb c1; have a2 := kc hb c2; have a3 := kc hb c3; have a4 := kc hb c4; have a5 := kc hb c5; have a6 := kc hb c6; have a7 := kc hb c7; have a8 := kc hb c8
        have b0 := kc hb d0; have b1 := kc hb d1; have b2 := kc hb d2; have b3 := kc hb d3; have b4 := kc hb d4; have b5 := kc hb d5; have b6 := kc hb d6; have b7 := kc hb d7; have b8 := kc hb d8
        have hj0 : (0 : Int) ≤ (j : Int) := Int.natCast_nonneg _
        have hj1 : (j : Int) < (f0.len : Int) := by omega
        have hj2 : (j : Int) < (f1.len : Int) := by have := HL.out; omega
        have y0 := ka (.cells #[.int .i64 lk0, .int .i64 ln0, .slice Alf0 lf0.len Clf0, .int .i64 rk0, .int .i64 rn0, .slice Arf0 rf0.len Crf0, .int .i64 ru0, .int .i64 re0, .slice Ast0 st0.len Cst0] 146) b0; have y1 := ka (.cells #[.int .i64 lk0, .int .i64 ln0, .slice Alf0 lf0.len Clf0, .int .i64 rk0, .int .i64 rn0, .slice Arf0 rf0.len Crf0, .int .i64 ru0, .int .i64 re0, .slice Ast0 st0.len Cst0] 146) b1; have y2 := ka (.cells #[.int .i64 lk0, .int .i64 ln0, .slice Alf0 lf0.len Clf0, .int .i64 rk0, .int .i64 rn0, .slice Arf0 rf0.len Crf0, .int .i64 ru0, .int .i64 re0, .slice Ast0 st0.len Cst0] 146) b2; have y3 := ka (.cells #[.int .i64 lk0, .int .i64 ln0, .slice Alf0 lf0.len Clf0, .int .i64 rk0, .int .i64 rn0, .slice Arf0 rf0.len Crf0, .int .i64 ru0, .int .i64 re0, .slice Ast0 st0.len Cst0] 146) b3; have y4 := ka (.cells #[.int .i64 lk0, .int .i64 ln0, .slice Alf0 lf0.len Clf0, .int .i64 rk0, .int .i64 rn0, .slice Arf0 rf0.len Crf0, .int .i64 ru0, .int .i64 re0, .slice Ast0 st0.len Cst0] 146) b4; have y5 := ka (.cells #[.int .i64 lk0, .int .i64 ln0, .slice Alf0 lf0.len Clf0, .int .i64 rk0, .int .i64 rn0, .slice Arf0 rf0.len Crf0, .int .i64 ru0, .int .i64 re0, .slice Ast0 st0.len Cst0] 146) b5; have y6 := ka (.cells #[.int .i64 lk0, .int .i64 ln0, .slice Alf0 lf0.len Clf0, .int .i64 rk0, .int .i64 rn0, .slice Arf0 rf0.len Crf0, .int .i64 ru0, .int .i64 re0, .slice Ast0 st0.len Cst0] 146) b6; have y7 := ka (.cells #[.int .i64 lk0, .int .i64 ln0, .slice Alf0 lf0.len Clf0, .int .i64 rk0, .int .i64 rn0, .slice Arf0 rf0.len Crf0, .int .i64 ru0, .int .i64 re0, .slice Ast0 st0.len Cst0] 146) b7; have y8 := ka (.cells #[.int .i64 lk0, .int .i64 ln0, .slice Alf0 lf0.len Clf0, .int .i64 rk0, .int .i64 rn0, .slice Arf0 rf0.len Crf0, .int .i64 ru0, .int .i64 re0, .slice Ast0 st0.len Cst0] 146) b8
        clear b0 c0 d0 b1 c1 d1 b2 c2 d2 b3 c3 d3 b4 c4 d4 b5 c5 d5 b6 c6 d6 b7 c7 d7 b8 c8 d8 hfd hq hqe hl_lf0 hl_lf1 hl_rf0 hl_rf1 hl_st0 hl_st1 e1 e2 e3 e4 hat hat'
        go_wp2_with fail
        refine (KC.out _ (((show Sees w wr from hw.out).alloc _).alloc _)).mono ?_
        rintro e w1 ⟨rfl, hb1⟩
        have hw2 : Hid (Below w.heap.size w w1) := Sees.below (((show Sees w wr from hw.out).alloc _).alloc _) hb1
        clear hb1 hb a0 y0 a1 y1 a2 y2 a3 y3 a4 y4 a5 y5 a6 y6 a7 y7 a8 y8 KC
        cases q
        · have hq2 : Hid (decide (f0 = f1) = false) := by
            show _ = _
            refine decide_eq_false (fun h4 => of_decide_eq_false HQ.out.symm ?_)
            rw [hq'.out] at h4
            exact h4.1
          clear HQ hq'
          go_wp2_with fail
          go_ret
          exact ⟨ret_bool hq2.out.symm, hw2.out⟩
        · have hq2 : Hid ((f0 = f1) = (f0.drop (j + 1) = f1.drop (j + 1))) := by
            show _ = _
            rw [hq'.out]
            have h2 := of_decide_eq_true HQ.out.symm
            simp [h2]
          clear HQ hq'
          go_wp2_with fail
          go_roundw
          case rel => exact ⟨j + 1, by omega, by go_num, hq2, hw2⟩
          case measure => simp [intOf]; omega
      · obtain rfl : j = f0.len := by omega
        have hq2 : Hid (decide (f0 = f1) = true) := by
          show _ = _
          have h1 := hq.out
          rw [Cl.drop_len, HL.out, Cl.drop_len] at h1
          exact decide_eq_true (by rw [h1])
        clear hq
        go_wp2_with fail
        go_ret
        exact ⟨ret_bool hq2.out.symm, hw.out⟩
  · have tl : ((f0.len : Int) != (f1.len : Int)) = true := by rw [bne_iff_ne]; omega
    have HD : Hid (decide (f0 = f1) = false) := decide_eq_false (fun h => hlen (by rw [h]))
    clear hlen
    go_enter Try.func94, Try.ntmps94
    go_wp2_with fail
    go_ret
    exact ⟨ret_bool HD.out.symm, Below.refl _ _⟩

set_option maxHeartbeats 4000000 in
set_option maxRecDepth 100000 in
theorem implSameProof_any (gt0 : Int) (ga0 : Int) (cl0 : Cl) (gt1 : Int) (ga1 : Int) (cl1 : Cl) (hf_cl0 : cl0.len ≤ 9223372036854775807 ∧ cl0.Fits) (Acl0 Acl1 : Option Addr) (Ccl0 Ccl1 : Nat) (w : World) (hl_cl0 : cl0.Lies w Acl0) (hl_cl1 : cl1.Lies w Acl1) :
    Calls Try.prog 38 #[.agg #[.int .i64 gt0, .int .i64 ga0, .slice Acl0 cl0.len Ccl0], .agg #[.int .i64 gt1, .int .i64 ga1, .slice Acl1 cl1.len Ccl1]] w fun e w' => e = .returned (.bool (decide ((gt0 = gt1 ∧ ga0 = ga1) ∧ cl0 = cl1))) ∧ Below w.heap.size w w' := by
  obtain ⟨q1, hq_q1⟩ : ∃ q : Bool, q = decide (cl0 = cl1) := ⟨_, rfl⟩
  have K1 : Hid (∀ W : World, Sees w W → Calls Try.prog 94 #[.slice Acl0 cl0.len Ccl0, .slice Acl1 cl1.len Ccl1, .func (.func 95) #[] #[]] W fun e w' => e = .returned (.bool q1) ∧ Below W.heap.size W w') := fun W h => by
    rw [hq_q1]
    exact equalClaims_u cl0 cl1 hf_cl0 Acl0 Acl1 Ccl0 Ccl1 W (hl_cl0.sees h) (hl_cl1.sees h)
  clear hl_cl0 hl_cl1
  have HD : Hid (decide ((gt0 = gt1 ∧ ga0 = ga1) ∧ cl0 = cl1) = (decide (gt0 = gt1) && (decide (ga0 = ga1) && q1))) := by
    show _ = _
    rw [hq_q1, Bool.eq_iff_iff]
    first | (simp; done) | (simp [and_assoc]; done)
  clear hq_q1
  by_cases hk : gt0 = gt1
  case neg =>
    have HE : Hid (decide ((gt0 = gt1 ∧ ga0 = ga1) ∧ cl0 = cl1) = false) := by show _ = _; rw [HD.out, decide_eq_false hk]; rfl
    clear HD
    go_enter Try.func38, Try.ntmps38
    go_wp2_with fail
    go_ret
    exact ⟨(by first | exact ret_bool HE.out.symm | rfl), by go_grown⟩
  rw [decide_eq_true hk] at HD
  subst hk
  by_cases hk : ga0 = ga1
  case neg =>
    have HE : Hid (decide ((gt0 = gt0 ∧ ga0 = ga1) ∧ cl0 = cl1) = false) := by show _ = _; rw [HD.out, decide_eq_false hk]; simp
    clear HD
    go_enter Try.func38, Try.ntmps38
    go_wp2_with fail
    go_ret
    exact ⟨(by first | exact ret_bool HE.out.symm | rfl), by go_grown⟩
  rw [decide_eq_true hk] at HD
  subst hk
  cases q1
  case false =>
    have HE : Hid (decide ((gt0 = gt0 ∧ ga0 = ga0) ∧ cl0 = cl1) = false) := by show _ = _; rw [HD.out]; rfl
    clear HD
    go_enter Try.func38, Try.ntmps38
    go_wp2_with fail
    refine (K1.out _ (by unfold Sees; go_grown)).mono ?_
    rintro e y0 ⟨rfl, hb⟩
    have V0 : Hid (Sees w y0) := Sees.below (by unfold Sees; go_grown) hb
    have HB0 : Hid (y0.heap[w.heap.size]? = some (.cells #[.int .i64 gt0, .int .i64 ga0, .slice Acl0 cl0.len Ccl0] 68 (0, 0))) := (hb.block _ (by simp <;> omega)).trans ((Below.heap_alloc _ _ _ (by simp <;> omega)).trans (heap_new _ _ _ rfl))
    have HB1 : Hid (y0.heap[w.heap.size + 1]? = some (.cells #[.int .i64 gt0, .int .i64 ga0, .slice Acl1 cl1.len Ccl1] 68 (0, 0))) := (hb.block _ (by simp <;> omega)).trans (heap_new _ _ _ (by simp))
    clear hb
    obtain ⟨c0, c1, c2, _, _, _⟩ := fc3 HB0.out
    obtain ⟨d0, d1, d2, _, _, _⟩ := fc3 HB1.out
    go_wp2_with fail
    clear c0 d0 c1 d1 c2 d2
    go_ret
    exact ⟨(by first | exact ret_bool HE.out.symm | rfl), V0.out⟩
  have HE : Hid (decide ((gt0 = gt0 ∧ ga0 = ga0) ∧ cl0 = cl1) = true) := by show _ = _; rw [HD.out]; rfl
  clear HD
  go_enter Try.func38, Try.ntmps38
  go_wp2_with fail
  refine (K1.out _ (by unfold Sees; go_grown)).mono ?_
  rintro e y0 ⟨rfl, hb⟩
  have V0 : Hid (Sees w y0) := Sees.below (by unfold Sees; go_grown) hb
  have HB0 : Hid (y0.heap[w.heap.size]? = some (.cells #[.int .i64 gt0, .int .i64 ga0, .slice Acl0 cl0.len Ccl0] 68 (0, 0))) := (hb.block _ (by simp <;> omega)).trans ((Below.heap_alloc _ _ _ (by simp <;> omega)).trans (heap_new _ _ _ rfl))
  have HB1 : Hid (y0.heap[w.heap.size + 1]? = some (.cells #[.int .i64 gt0, .int .i64 ga0, .slice Acl1 cl1.len Ccl1] 68 (0, 0))) := (hb.block _ (by simp <;> omega)).trans (heap_new _ _ _ (by simp))
  clear hb
  obtain ⟨c0, c1, c2, _, _, _⟩ := fc3 HB0.out
  obtain ⟨d0, d1, d2, _, _, _⟩ := fc3 HB1.out
  go_wp2_with fail
  clear c0 d0 c1 d1 c2 d2
  go_ret
  exact ⟨(by first | exact ret_bool HE.out.symm | rfl), V0.out⟩

end Go.Proofs.YtlpgkhdecccmlaaR
