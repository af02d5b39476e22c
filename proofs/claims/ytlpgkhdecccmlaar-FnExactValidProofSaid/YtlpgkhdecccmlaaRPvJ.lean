/- Contracts of impl.validClaim, impl.ValidProof. -/
import Derived.Test.YtlpgkhdecccmlaaRPvI
import Derived.Test.YtlpgkhdecccmlaaRSpj
namespace Go.Proofs.YtlpgkhdecccmlaaR
open Go.RowKit
set_option linter.unusedVariables false

theorem Ps.elem {xs : Ps} {j : Nat} {us : Int} {bk : Bool} {pa : Il} {te : Fo} {ac : Fo} {r : Ps} (hf : xs.len ≤ 9223372036854775807 ∧ xs.Fits) (hn : xs.nodes ≤ 1048576) (hx : xs.drop j = .cons us bk pa te ac r) : ((pa.len ≤ 9223372036854775807 ∧ pa.Fits) ∧ (te.len ≤ 9223372036854775807 ∧ te.Fits) ∧ (ac.len ≤ 9223372036854775807 ∧ ac.Fits)) ∧ te.nodes ≤ 1048576 ∧ ac.nodes ≤ 1048576 := by
  have h1 := Ps.fits_drop hf.2 j
  have h2 := Ps.nodes_drop xs j
  rw [hx] at h1 h2
  simp only [Ps.nodes] at h2
  exact ⟨⟨h1.1, h1.2.1, h1.2.2.1⟩, by omega, by omega⟩
theorem Cl.elem {xs : Cl} {j : Nat} {lk : Int} {ln : Int} {lf : Fo} {rk : Int} {rn : Int} {rf : Fo} {ru : Int} {re : Int} {st : Ps} {r : Cl} (hf : xs.len ≤ 9223372036854775807 ∧ xs.Fits) (hn : xs.nodes ≤ 1048576) (hx : xs.drop j = .cons lk ln lf rk rn rf ru re st r) : ((lf.len ≤ 9223372036854775807 ∧ lf.Fits) ∧ (rf.len ≤ 9223372036854775807 ∧ rf.Fits) ∧ (st.len ≤ 9223372036854775807 ∧ st.Fits)) ∧ lf.nodes ≤ 1048576 ∧ rf.nodes ≤ 1048576 ∧ st.nodes ≤ 1048576 := by
  have h1 := Cl.fits_drop hf.2 j
  have h2 := Cl.nodes_drop xs j
  rw [hx] at h1 h2
  simp only [Cl.nodes] at h2
  exact ⟨⟨h1.1, h1.2.1, h1.2.2.1⟩, by omega, by omega, by omega⟩

set_option maxHeartbeats 1500000 in
set_option maxRecDepth 100000 in
theorem validStepOf_any (t a : Int) (bg : Nat) (us : Int) (bk : Bool) (pa : Il) (te : Fo) (ac : Fo) (hf_pa : pa.len ≤ 9223372036854775807 ∧ pa.Fits) (hf_te : te.len ≤ 9223372036854775807 ∧ te.Fits) (hf_ac : ac.len ≤ 9223372036854775807 ∧ ac.Fits) (hn_te : te.nodes ≤ 1048576) (hn_ac : ac.nodes ≤ 1048576) (Apa Ate Aac : Option Addr) (Cpa Cte Cac : Nat) (w : World) (hl_pa : pa.Lies w Apa) (hl_te : te.Lies w Ate) (hl_ac : ac.Lies w Aac) (hg0 : w.cell? ⟨bg, 0, none⟩ = some (.int .i64 t)) (hg1 : w.cell? ⟨bg, 1, none⟩ = some (.int .i64 a)) :
    Calls Try.prog 159 #[.agg #[.int .i64 us, .bool bk, .slice Apa pa.len Cpa, .slice Ate te.len Cte, .slice Aac ac.len Cac], .pointer (some ⟨bg, 0, none⟩)] w fun e w' => e = .returned (.bool (stepB t a us bk pa te ac)) ∧ Below w.heap.size w w' := by
  obtain ⟨q, hq⟩ : ∃ q : Bool, q = stepB t a us bk pa te ac := ⟨_, rfl⟩
  have K : Hid (∀ W : World, Sees w W → Calls Try.prog 160 #[.agg #[.int .i64 t, .int .i64 a], .agg #[.int .i64 us, .bool bk, .slice Apa pa.len Cpa, .slice Ate te.len Cte, .slice Aac ac.len Cac]] W fun e w' => e = .returned (.bool q) ∧ Below W.heap.size W w') := fun W h => by rw [hq]; exact implValidStep_any t a us bk pa te ac hf_pa hf_te hf_ac hn_te hn_ac Apa Ate Aac Cpa Cte Cac W (hl_pa.sees h) (hl_te.sees h) (hl_ac.sees h)
  have y0 := ka (.cells #[.int .i64 us, .bool bk, .slice Apa pa.len Cpa, .slice Ate te.len Cte, .slice Aac ac.len Cac] 220) hg0; have y1 := ka (.cells #[.int .i64 us, .bool bk, .slice Apa pa.len Cpa, .slice Ate te.len Cte, .slice Aac ac.len Cac] 220) hg1
  rw [← hq]
  clear hq hg0 hg1 hl_pa hl_te hl_ac
  go_enter Try.func159, Try.ntmps159
  go_wp2_with fail
  refine (K.out _ ((Sees.refl w).alloc _)).mono ?_
  rintro e w1 ⟨rfl, hb⟩
  have B1 : Sees w w1 := Sees.below ((Sees.refl w).alloc _) hb
  clear hb
  go_wp2_with fail
  go_ret
  exact ⟨rfl, B1⟩

set_option maxHeartbeats 1500000 in
set_option maxRecDepth 100000 in
theorem implValidClaim_any (t a : Int) (lk : Int) (ln : Int) (lf : Fo) (rk : Int) (rn : Int) (rf : Fo) (ru : Int) (re : Int) (st : Ps) (hf_lf : lf.len ≤ 9223372036854775807 ∧ lf.Fits) (hf_rf : rf.len ≤ 9223372036854775807 ∧ rf.Fits) (hf_st : st.len ≤ 9223372036854775807 ∧ st.Fits) (hn_lf : lf.nodes ≤ 1048576) (hn_rf : rf.nodes ≤ 1048576) (hn_st : st.nodes ≤ 1048576) (Alf Arf Ast : Option Addr) (Clf Crf Cst : Nat) (w : World) (hl_lf : lf.Lies w Alf) (hl_rf : rf.Lies w Arf) (hl_st : st.Lies w Ast) :
    Calls Try.prog 100 #[.agg #[.int .i64 t, .int .i64 a], .agg #[.int .i64 lk, .int .i64 ln, .slice Alf lf.len Clf, .int .i64 rk, .int .i64 rn, .slice Arf rf.len Crf, .int .i64 ru, .int .i64 re, .slice Ast st.len Cst]] w fun e w' => e = .returned (.bool (claimB t a lk ln lf rk rn rf ru re st)) ∧ Below w.heap.size w w' := by
  obtain ⟨q0, hq0⟩ : ∃ q : Bool, q = validQ t a lk ln lf rk rn rf := ⟨_, rfl⟩
  obtain ⟨q3, hq3⟩ : ∃ q : Bool, q = st.allG (stepB t a) := ⟨_, rfl⟩
  obtain ⟨qb, hqb⟩ : ∃ q : Bool, q = belowB re 40 := ⟨_, rfl⟩
  have E0 : Hid (∀ W : World, Calls Try.prog 150 #[.agg #[.int .i64 lk, .int .i64 ln, .slice Alf lf.len Clf, .int .i64 rk, .int .i64 rn, .slice Arf rf.len Crf, .int .i64 ru, .int .i64 re, .slice Ast st.len Cst]] W fun e w' => e = .returned (.agg #[.int .i64 lk, .int .i64 ln, .slice Alf lf.len Clf, .int .i64 rk, .int .i64 rn, .slice Arf rf.len Crf]) ∧ Below W.heap.size W w') := fun W => claimEquation_any lk ln lf rk rn rf ru re st Alf Arf Ast Clf Crf Cst W
  have K0 : Hid (∀ W : World, Sees w W → Calls Try.prog 157 #[.agg #[.int .i64 t, .int .i64 a], .agg #[.int .i64 lk, .int .i64 ln, .slice Alf lf.len Clf, .int .i64 rk, .int .i64 rn, .slice Arf rf.len Crf]] W fun e w' => e = .returned (.bool q0) ∧ Below W.heap.size W w') := fun W h => by
    rw [hq0]; exact implValidEquation_any t a lk ln lf rk rn rf hn_lf hn_rf Alf Arf Clf Crf W (hl_lf.sees h) (hl_rf.sees h)
  have K3 : Hid (∀ (W : World) (bg : Nat), Sees w W → W.cell? ⟨bg, 0, none⟩ = some (.int .i64 t) → W.cell? ⟨bg, 1, none⟩ = some (.int .i64 a) → Calls Try.prog 158 #[.slice Ast st.len Cst, .func (.func 159) #[] #[.pointer (some ⟨bg, 0, none⟩)]] W fun e w' => e = .returned (.bool q3) ∧ Below W.heap.size W w') := fun W bg h h0 h1 => by
    rw [hq3]
    exact everyS_any (stepB t a) 159 #[.pointer (some ⟨bg, 0, none⟩)] (enters_of Try.func159 (by kernel_rfl) rfl) st hf_st.1 Ast Cst W (hl_st.sees h) (fun W2 us bk pa te ac r j Apa Ate Aac Cpa Cte Cac h2 hx g1 g2 g3 => validStepOf_any t a bg us bk pa te ac (Ps.elem hf_st hn_st hx).1.1 (Ps.elem hf_st hn_st hx).1.2.1 (Ps.elem hf_st hn_st hx).1.2.2 (Ps.elem hf_st hn_st hx).2.1 (Ps.elem hf_st hn_st hx).2.2 Apa Ate Aac Cpa Cte Cac W2 g1 g2 g3 (kc h2 h0) (kc h2 h1))
  have HX : Hid (claimB t a lk ln lf rk rn rf ru re st = (q0 && (if ru = 1 then decide (re = 0) && (decide ((st.len : Int) ≤ 60) && q3) else (decide (ru = 2) || decide (ru = 3)) && (qb && decide ((st.len : Int) = 0))))) := by
    show _ = _
    unfold claimB
    rw [hq0, hq3, hqb]
  have l1 := hf_st.1
  have HB : Hid (qb = belowB re 40) := hqb
  clear hqb hq0 hq3 hl_lf hl_rf hl_st hf_lf hf_rf hf_st hn_lf hn_rf hn_st
  cases q0
  case false =>
    have HE : Hid (claimB t a lk ln lf rk rn rf ru re st = false) := by show _ = _; rw [HX.out]; simp []
    clear HX K3
    go_enter Try.func100, Try.ntmps100
    go_wp2_with fail
    refine wp_region_quietC w [(w.heap.size, 0, .int .i64 t), (w.heap.size, 1, .int .i64 a), (w.heap.size + 1, 0, .int .i64 lk), (w.heap.size + 1, 1, .int .i64 ln), (w.heap.size + 1, 2, .slice Alf lf.len Clf), (w.heap.size + 1, 3, .int .i64 rk), (w.heap.size + 1, 4, .int .i64 rn), (w.heap.size + 1, 5, .slice Arf rf.len Crf), (w.heap.size + 1, 6, .int .i64 ru), (w.heap.size + 1, 7, .int .i64 re), (w.heap.size + 1, 8, .slice Ast st.len Cst)] (by kernel_rfl) (by kernel_rfl) ⟨(by unfold Sees; go_grown), (by simp [go_sem]), (by simp [go_sem]), (by simp [go_sem]), (by simp [go_sem]), (by simp [go_sem]), (by simp [go_sem]), (by simp [go_sem]), (by simp [go_sem]), (by simp [go_sem]), (by simp [go_sem]), (by simp [go_sem]), trivial⟩ ?_
    repeat (first | go_big_quiet_skip | (go_big_quiet_want; apply Exists.intro; refine ⟨fun W hW => ?_, ?_⟩; focus (have hK := Lib.hid hW; obtain ⟨hs, hc⟩ := hW; simp only [Has, and_true] at hc; go_simp; (first | rfl | exact ⟨rfl, rfl⟩ | ((with_reducible refine quietC_call hK.out (E0.out _))) | ((with_reducible refine quietC_call hK.out (K0.out _ ?_)); exact hs)))) | (go_simp; go_big_quiet_on))
    refine wpQuiet_nil ?_
    intro wq HQ
    have HS := Lib.hid HQ
    clear HQ
    obtain ⟨B1, y0, y1, y2, y3, y4, y5, y6, y7, y8, y9, y10, _⟩ := HS.out
    go_wp2_with fail
    go_ret
    exact ⟨ret_bool HE.out.symm, B1⟩
  by_cases h1 : ru = 1
  case pos =>
    have t1 : (ru == 1) = true := by rw [beq_iff_eq]; exact h1
    by_cases h2 : re = 0
    case neg =>
      have t2 : (re == 0) = false := by rw [beq_eq_false_iff_ne]; exact h2
      have HE : Hid (claimB t a lk ln lf rk rn rf ru re st = false) := by show _ = _; rw [HX.out]; simp [h1, h2]
      clear HX K3 h1 h2
      go_enter Try.func100, Try.ntmps100
      go_wp2_with fail
      refine wp_region_quietC w [(w.heap.size, 0, .int .i64 t), (w.heap.size, 1, .int .i64 a), (w.heap.size + 1, 0, .int .i64 lk), (w.heap.size + 1, 1, .int .i64 ln), (w.heap.size + 1, 2, .slice Alf lf.len Clf), (w.heap.size + 1, 3, .int .i64 rk), (w.heap.size + 1, 4, .int .i64 rn), (w.heap.size + 1, 5, .slice Arf rf.len Crf), (w.heap.size + 1, 6, .int .i64 ru), (w.heap.size + 1, 7, .int .i64 re), (w.heap.size + 1, 8, .slice Ast st.len Cst)] (by kernel_rfl) (by kernel_rfl) ⟨(by unfold Sees; go_grown), (by simp [go_sem]), (by simp [go_sem]), (by simp [go_sem]), (by simp [go_sem]), (by simp [go_sem]), (by simp [go_sem]), (by simp [go_sem]), (by simp [go_sem]), (by simp [go_sem]), (by simp [go_sem]), (by simp [go_sem]), trivial⟩ ?_
      repeat (first | go_big_quiet_skip | (go_big_quiet_want; apply Exists.intro; refine ⟨fun W hW => ?_, ?_⟩; focus (have hK := Lib.hid hW; obtain ⟨hs, hc⟩ := hW; simp only [Has, and_true] at hc; go_simp; (first | rfl | exact ⟨rfl, rfl⟩ | ((with_reducible refine quietC_call hK.out (E0.out _))) | ((with_reducible refine quietC_call hK.out (K0.out _ ?_)); exact hs)))) | (go_simp; go_big_quiet_on))
      refine wpQuiet_nil ?_
      intro wq HQ
      have HS := Lib.hid HQ
      clear HQ
      obtain ⟨B1, y0, y1, y2, y3, y4, y5, y6, y7, y8, y9, y10, _⟩ := HS.out
      go_wp2_with fail
      go_ret
      exact ⟨ret_bool HE.out.symm, B1⟩
    have t2 : (re == 0) = true := by rw [beq_iff_eq]; exact h2
    by_cases h3 : (st.len : Int) ≤ 60
    case neg =>
      have t3 : decide ((st.len : Int) ≤ 60) = false := decide_eq_false h3
      have HE : Hid (claimB t a lk ln lf rk rn rf ru re st = false) := by show _ = _; rw [HX.out]; simp [h1, h2, t3]
      clear HX K3 h1 h2 h3
      go_enter Try.func100, Try.ntmps100
      go_wp2_with fail
      refine wp_region_quietC w [(w.heap.size, 0, .int .i64 t), (w.heap.size, 1, .int .i64 a), (w.heap.size + 1, 0, .int .i64 lk), (w.heap.size + 1, 1, .int .i64 ln), (w.heap.size + 1, 2, .slice Alf lf.len Clf), (w.heap.size + 1, 3, .int .i64 rk), (w.heap.size + 1, 4, .int .i64 rn), (w.heap.size + 1, 5, .slice Arf rf.len Crf), (w.heap.size + 1, 6, .int .i64 ru), (w.heap.size + 1, 7, .int .i64 re), (w.heap.size + 1, 8, .slice Ast st.len Cst)] (by kernel_rfl) (by kernel_rfl) ⟨(by unfold Sees; go_grown), (by simp [go_sem]), (by simp [go_sem]), (by simp [go_sem]), (by simp [go_sem]), (by simp [go_sem]), (by simp [go_sem]), (by simp [go_sem]), (by simp [go_sem]), (by simp [go_sem]), (by simp [go_sem]), (by simp [go_sem]), trivial⟩ ?_
      repeat (first | go_big_quiet_skip | (go_big_quiet_want; apply Exists.intro; refine ⟨fun W hW => ?_, ?_⟩; focus (have hK := Lib.hid hW; obtain ⟨hs, hc⟩ := hW; simp only [Has, and_true] at hc; go_simp; (first | rfl | exact ⟨rfl, rfl⟩ | ((with_reducible refine quietC_call hK.out (E0.out _))) | ((with_reducible refine quietC_call hK.out (K0.out _ ?_)); exact hs)))) | (go_simp; go_big_quiet_on))
      refine wpQuiet_nil ?_
      intro wq HQ
      have HS := Lib.hid HQ
      clear HQ
      obtain ⟨B1, y0, y1, y2, y3, y4, y5, y6, y7, y8, y9, y10, _⟩ := HS.out
      go_wp2_with fail
      go_ret
      exact ⟨ret_bool HE.out.symm, B1⟩
    have t3 : decide ((st.len : Int) ≤ 60) = true := decide_eq_true h3
    have HE : Hid (claimB t a lk ln lf rk rn rf ru re st = q3) := by show _ = _; rw [HX.out]; simp [h1, h2, t3]
    clear HX h1 h2 h3
    go_enter Try.func100, Try.ntmps100
    go_wp2_with fail
    refine wp_region_quietC w [(w.heap.size, 0, .int .i64 t), (w.heap.size, 1, .int .i64 a), (w.heap.size + 1, 0, .int .i64 lk), (w.heap.size + 1, 1, .int .i64 ln), (w.heap.size + 1, 2, .slice Alf lf.len Clf), (w.heap.size + 1, 3, .int .i64 rk), (w.heap.size + 1, 4, .int .i64 rn), (w.heap.size + 1, 5, .slice Arf rf.len Crf), (w.heap.size + 1, 6, .int .i64 ru), (w.heap.size + 1, 7, .int .i64 re), (w.heap.size + 1, 8, .slice Ast st.len Cst)] (by kernel_rfl) (by kernel_rfl) ⟨(by unfold Sees; go_grown), (by simp [go_sem]), (by simp [go_sem]), (by simp [go_sem]), (by simp [go_sem]), (by simp [go_sem]), (by simp [go_sem]), (by simp [go_sem]), (by simp [go_sem]), (by simp [go_sem]), (by simp [go_sem]), (by simp [go_sem]), trivial⟩ ?_
    repeat (first | go_big_quiet_skip | (go_big_quiet_want; apply Exists.intro; refine ⟨fun W hW => ?_, ?_⟩; focus (have hK := Lib.hid hW; obtain ⟨hs, hc⟩ := hW; simp only [Has, and_true] at hc; go_simp; (first | rfl | exact ⟨rfl, rfl⟩ | ((with_reducible refine quietC_call hK.out (E0.out _))) | ((with_reducible refine quietC_call hK.out (K0.out _ ?_)); exact hs)))) | (go_simp; go_big_quiet_on))
    refine wpQuiet_nil ?_
    intro wq HQ
    have HS := Lib.hid HQ
    clear HQ
    obtain ⟨B1, y0, y1, y2, y3, y4, y5, y6, y7, y8, y9, y10, _⟩ := HS.out
    go_wp2_with fail
    refine (K3.out wq w.heap.size B1 y0 y1).mono ?_
    rintro e w2 ⟨rfl, hb⟩
    have B2 := B1.below hb
    clear hb
    go_wp2_with fail
    go_ret
    exact ⟨ret_bool HE.out.symm, B2⟩
  have t1 : (ru == 1) = false := by rw [beq_eq_false_iff_ne]; exact h1
  by_cases h4 : ru = 2 ∨ ru = 3
  case neg =>
    have t4 : (ru == 2) = false := by rw [beq_eq_false_iff_ne]; omega
    have t5 : (ru == 3) = false := by rw [beq_eq_false_iff_ne]; omega
    have h5 : ¬ ru = 2 := by omega
    have h6 : ¬ ru = 3 := by omega
    have HE : Hid (claimB t a lk ln lf rk rn rf ru re st = false) := by show _ = _; rw [HX.out]; simp [h1, h5, h6]
    clear HX K3 h1 h4 h5 h6
    go_enter Try.func100, Try.ntmps100
    go_wp2_with fail
    refine wp_region_quietC w [(w.heap.size, 0, .int .i64 t), (w.heap.size, 1, .int .i64 a), (w.heap.size + 1, 0, .int .i64 lk), (w.heap.size + 1, 1, .int .i64 ln), (w.heap.size + 1, 2, .slice Alf lf.len Clf), (w.heap.size + 1, 3, .int .i64 rk), (w.heap.size + 1, 4, .int .i64 rn), (w.heap.size + 1, 5, .slice Arf rf.len Crf), (w.heap.size + 1, 6, .int .i64 ru), (w.heap.size + 1, 7, .int .i64 re), (w.heap.size + 1, 8, .slice Ast st.len Cst)] (by kernel_rfl) (by kernel_rfl) ⟨(by unfold Sees; go_grown), (by simp [go_sem]), (by simp [go_sem]), (by simp [go_sem]), (by simp [go_sem]), (by simp [go_sem]), (by simp [go_sem]), (by simp [go_sem]), (by simp [go_sem]), (by simp [go_sem]), (by simp [go_sem]), (by simp [go_sem]), trivial⟩ ?_
    repeat (first | go_big_quiet_skip | (go_big_quiet_want; apply Exists.intro; refine ⟨fun W hW => ?_, ?_⟩; focus (have hK := Lib.hid hW; obtain ⟨hs, hc⟩ := hW; simp only [Has, and_true] at hc; go_simp; (first | rfl | exact ⟨rfl, rfl⟩ | ((with_reducible refine quietC_call hK.out (E0.out _))) | ((with_reducible refine quietC_call hK.out (K0.out _ ?_)); exact hs)))) | (go_simp; go_big_quiet_on))
    refine wpQuiet_nil ?_
    intro wq HQ
    have HS := Lib.hid HQ
    clear HQ
    obtain ⟨B1, y0, y1, y2, y3, y4, y5, y6, y7, y8, y9, y10, _⟩ := HS.out
    go_wp2_with fail
    go_ret
    exact ⟨ret_bool HE.out.symm, B1⟩
  have h7 : (decide (ru = 2) || decide (ru = 3)) = true := by simpa using h4
  have HY : Hid (claimB t a lk ln lf rk rn rf ru re st = (qb && decide ((st.len : Int) = 0))) := by show _ = _; rw [HX.out, if_neg h1, h7]; rfl
  clear HX K3 h7
  by_cases h6 : (st.len : Int) = 0
  · have t6 : ((st.len : Int) == 0) = true := by rw [beq_iff_eq]; exact h6
    have HE0 : Hid (claimB t a lk ln lf rk rn rf ru re st = qb) := by show _ = _; rw [HY.out, decide_eq_true h6]; simp
    clear HY h6
    cases qb
    all_goals
      have HE := Lib.hid HE0.out
      clear HE0
      by_cases h8 : ru = 2
      · have t4 : (ru == 2) = true := by rw [beq_iff_eq]; exact h8
        clear h1 h4 h8
        go_enter Try.func100, Try.ntmps100
        go_wp2_with fail
        refine wp_region_quietC w [(w.heap.size, 0, .int .i64 t), (w.heap.size, 1, .int .i64 a), (w.heap.size + 1, 0, .int .i64 lk), (w.heap.size + 1, 1, .int .i64 ln), (w.heap.size + 1, 2, .slice Alf lf.len Clf), (w.heap.size + 1, 3, .int .i64 rk), (w.heap.size + 1, 4, .int .i64 rn), (w.heap.size + 1, 5, .slice Arf rf.len Crf), (w.heap.size + 1, 6, .int .i64 ru), (w.heap.size + 1, 7, .int .i64 re), (w.heap.size + 1, 8, .slice Ast st.len Cst)] (by kernel_rfl) (by kernel_rfl) ⟨(by unfold Sees; go_grown), (by simp [go_sem]), (by simp [go_sem]), (by simp [go_sem]), (by simp [go_sem]), (by simp [go_sem]), (by simp [go_sem]), (by simp [go_sem]), (by simp [go_sem]), (by simp [go_sem]), (by simp [go_sem]), (by simp [go_sem]), trivial⟩ ?_
        repeat (first | go_big_quiet_skip | (go_big_quiet_want; apply Exists.intro; refine ⟨fun W hW => ?_, ?_⟩; focus (have hK := Lib.hid hW; obtain ⟨hs, hc⟩ := hW; simp only [Has, and_true] at hc; go_simp; (first | rfl | exact ⟨rfl, rfl⟩ | ((with_reducible refine quietC_call hK.out (E0.out _))) | ((with_reducible refine quietC_call hK.out (K0.out _ ?_)); exact hs)))) | (go_simp; go_big_quiet_on))
        refine wpQuiet_nil ?_
        intro wq HQ
        have HS := Lib.hid HQ
        clear HQ
        obtain ⟨B1, y0, y1, y2, y3, y4, y5, y6, y7, y8, y9, y10, _⟩ := HS.out
        go_wp2_with fail
        refine (below_any re 40 wq).mono ?_
        rintro e w2 ⟨he, rfl⟩
        rw [← HB.out] at he
        subst he
        go_wp2_with fail
        go_ret
        exact ⟨ret_bool HE.out.symm, B1⟩
      · have t4 : (ru == 2) = false := by rw [beq_eq_false_iff_ne]; exact h8
        have t5 : (ru == 3) = true := by rw [beq_iff_eq]; omega
        clear h1 h4 h8
        go_enter Try.func100, Try.ntmps100
        go_wp2_with fail
        refine wp_region_quietC w [(w.heap.size, 0, .int .i64 t), (w.heap.size, 1, .int .i64 a), (w.heap.size + 1, 0, .int .i64 lk), (w.heap.size + 1, 1, .int .i64 ln), (w.heap.size + 1, 2, .slice Alf lf.len Clf), (w.heap.size + 1, 3, .int .i64 rk), (w.heap.size + 1, 4, .int .i64 rn), (w.heap.size + 1, 5, .slice Arf rf.len Crf), (w.heap.size + 1, 6, .int .i64 ru), (w.heap.size + 1, 7, .int .i64 re), (w.heap.size + 1, 8, .slice Ast st.len Cst)] (by kernel_rfl) (by kernel_rfl) ⟨(by unfold Sees; go_grown), (by simp [go_sem]), (by simp [go_sem]), (by simp [go_sem]), (by simp [go_sem]), (by simp [go_sem]), (by simp [go_sem]), (by simp [go_sem]), (by simp [go_sem]), (by simp [go_sem]), (by simp [go_sem]), (by simp [go_sem]), trivial⟩ ?_
        repeat (first | go_big_quiet_skip | (go_big_quiet_want; apply Exists.intro; refine ⟨fun W hW => ?_, ?_⟩; focus (have hK := Lib.hid hW; obtain ⟨hs, hc⟩ := hW; simp only [Has, and_true] at hc; go_simp; (first | rfl | exact ⟨rfl, rfl⟩ | ((with_reducible refine quietC_call hK.out (E0.out _))) | ((with_reducible refine quietC_call hK.out (K0.out _ ?_)); exact hs)))) | (go_simp; go_big_quiet_on))
        refine wpQuiet_nil ?_
        intro wq HQ
        have HS := Lib.hid HQ
        clear HQ
        obtain ⟨B1, y0, y1, y2, y3, y4, y5, y6, y7, y8, y9, y10, _⟩ := HS.out
        go_wp2_with fail
        refine (below_any re 40 wq).mono ?_
        rintro e w2 ⟨he, rfl⟩
        rw [← HB.out] at he
        subst he
        go_wp2_with fail
        go_ret
        exact ⟨ret_bool HE.out.symm, B1⟩
  · have t6 : ((st.len : Int) == 0) = false := by rw [beq_eq_false_iff_ne]; exact h6
    have HE : Hid (claimB t a lk ln lf rk rn rf ru re st = false) := by show _ = _; rw [HY.out, decide_eq_false h6]; simp
    clear HY h6
    cases qb
    all_goals
      by_cases h8 : ru = 2
      · have t4 : (ru == 2) = true := by rw [beq_iff_eq]; exact h8
        clear h1 h4 h8
        go_enter Try.func100, Try.ntmps100
        go_wp2_with fail
        refine wp_region_quietC w [(w.heap.size, 0, .int .i64 t), (w.heap.size, 1, .int .i64 a), (w.heap.size + 1, 0, .int .i64 lk), (w.heap.size + 1, 1, .int .i64 ln), (w.heap.size + 1, 2, .slice Alf lf.len Clf), (w.heap.size + 1, 3, .int .i64 rk), (w.heap.size + 1, 4, .int .i64 rn), (w.heap.size + 1, 5, .slice Arf rf.len Crf), (w.heap.size + 1, 6, .int .i64 ru), (w.heap.size + 1, 7, .int .i64 re), (w.heap.size + 1, 8, .slice Ast st.len Cst)] (by kernel_rfl) (by kernel_rfl) ⟨(by unfold Sees; go_grown), (by simp [go_sem]), (by simp [go_sem]), (by simp [go_sem]), (by simp [go_sem]), (by simp [go_sem]), (by simp [go_sem]), (by simp [go_sem]), (by simp [go_sem]), (by simp [go_sem]), (by simp [go_sem]), (by simp [go_sem]), trivial⟩ ?_
        repeat (first | go_big_quiet_skip | (go_big_quiet_want; apply Exists.intro; refine ⟨fun W hW => ?_, ?_⟩; focus (have hK := Lib.hid hW; obtain ⟨hs, hc⟩ := hW; simp only [Has, and_true] at hc; go_simp; (first | rfl | exact ⟨rfl, rfl⟩ | ((with_reducible refine quietC_call hK.out (E0.out _))) | ((with_reducible refine quietC_call hK.out (K0.out _ ?_)); exact hs)))) | (go_simp; go_big_quiet_on))
        refine wpQuiet_nil ?_
        intro wq HQ
        have HS := Lib.hid HQ
        clear HQ
        obtain ⟨B1, y0, y1, y2, y3, y4, y5, y6, y7, y8, y9, y10, _⟩ := HS.out
        go_wp2_with fail
        refine (below_any re 40 wq).mono ?_
        rintro e w2 ⟨he, rfl⟩
        rw [← HB.out] at he
        subst he
        go_wp2_with fail
        go_ret
        exact ⟨ret_bool HE.out.symm, B1⟩
      · have t4 : (ru == 2) = false := by rw [beq_eq_false_iff_ne]; exact h8
        have t5 : (ru == 3) = true := by rw [beq_iff_eq]; omega
        clear h1 h4 h8
        go_enter Try.func100, Try.ntmps100
        go_wp2_with fail
        refine wp_region_quietC w [(w.heap.size, 0, .int .i64 t), (w.heap.size, 1, .int .i64 a), (w.heap.size + 1, 0, .int .i64 lk), (w.heap.size + 1, 1, .int .i64 ln), (w.heap.size + 1, 2, .slice Alf lf.len Clf), (w.heap.size + 1, 3, .int .i64 rk), (w.heap.size + 1, 4, .int .i64 rn), (w.heap.size + 1, 5, .slice Arf rf.len Crf), (w.heap.size + 1, 6, .int .i64 ru), (w.heap.size + 1, 7, .int .i64 re), (w.heap.size + 1, 8, .slice Ast st.len Cst)] (by kernel_rfl) (by kernel_rfl) ⟨(by unfold Sees; go_grown), (by simp [go_sem]), (by simp [go_sem]), (by simp [go_sem]), (by simp [go_sem]), (by simp [go_sem]), (by simp [go_sem]), (by simp [go_sem]), (by simp [go_sem]), (by simp [go_sem]), (by simp [go_sem]), (by simp [go_sem]), trivial⟩ ?_
        repeat (first | go_big_quiet_skip | (go_big_quiet_want; apply Exists.intro; refine ⟨fun W hW => ?_, ?_⟩; focus (have hK := Lib.hid hW; obtain ⟨hs, hc⟩ := hW; simp only [Has, and_true] at hc; go_simp; (first | rfl | exact ⟨rfl, rfl⟩ | ((with_reducible refine quietC_call hK.out (E0.out _))) | ((with_reducible refine quietC_call hK.out (K0.out _ ?_)); exact hs)))) | (go_simp; go_big_quiet_on))
        refine wpQuiet_nil ?_
        intro wq HQ
        have HS := Lib.hid HQ
        clear HQ
        obtain ⟨B1, y0, y1, y2, y3, y4, y5, y6, y7, y8, y9, y10, _⟩ := HS.out
        go_wp2_with fail
        refine (below_any re 40 wq).mono ?_
        rintro e w2 ⟨he, rfl⟩
        rw [← HB.out] at he
        subst he
        go_wp2_with fail
        go_ret
        exact ⟨ret_bool HE.out.symm, B1⟩

set_option maxHeartbeats 1500000 in
set_option maxRecDepth 100000 in
theorem validClaimOf_any (t a : Int) (bg : Nat) (lk : Int) (ln : Int) (lf : Fo) (rk : Int) (rn : Int) (rf : Fo) (ru : Int) (re : Int) (st : Ps) (hf_lf : lf.len ≤ 9223372036854775807 ∧ lf.Fits) (hf_rf : rf.len ≤ 9223372036854775807 ∧ rf.Fits) (hf_st : st.len ≤ 9223372036854775807 ∧ st.Fits) (hn_lf : lf.nodes ≤ 1048576) (hn_rf : rf.nodes ≤ 1048576) (hn_st : st.nodes ≤ 1048576) (Alf Arf Ast : Option Addr) (Clf Crf Cst : Nat) (w : World) (hl_lf : lf.Lies w Alf) (hl_rf : rf.Lies w Arf) (hl_st : st.Lies w Ast) (hg0 : w.cell? ⟨bg, 0, none⟩ = some (.int .i64 t)) (hg1 : w.cell? ⟨bg, 1, none⟩ = some (.int .i64 a)) :
    Calls Try.prog 99 #[.agg #[.int .i64 lk, .int .i64 ln, .slice Alf lf.len Clf, .int .i64 rk, .int .i64 rn, .slice Arf rf.len Crf, .int .i64 ru, .int .i64 re, .slice Ast st.len Cst], .pointer (some ⟨bg, 0, none⟩)] w fun e w' => e = .returned (.bool (claimB t a lk ln lf rk rn rf ru re st)) ∧ Below w.heap.size w w' := by
  obtain ⟨q, hq⟩ : ∃ q : Bool, q = claimB t a lk ln lf rk rn rf ru re st := ⟨_, rfl⟩
  have K : Hid (∀ W : World, Sees w W → Calls Try.prog 100 #[.agg #[.int .i64 t, .int .i64 a], .agg #[.int .i64 lk, .int .i64 ln, .slice Alf lf.len Clf, .int .i64 rk, .int .i64 rn, .slice Arf rf.len Crf, .int .i64 ru, .int .i64 re, .slice Ast st.len Cst]] W fun e w' => e = .returned (.bool q) ∧ Below W.heap.size W w') := fun W h => by rw [hq]; exact implValidClaim_any t a lk ln lf rk rn rf ru re st hf_lf hf_rf hf_st hn_lf hn_rf hn_st Alf Arf Ast Clf Crf Cst W (hl_lf.sees h) (hl_rf.sees h) (hl_st.sees h)
  have y0 := ka (.cells #[.int .i64 lk, .int .i64 ln, .slice Alf lf.len Clf, .int .i64 rk, .int .i64 rn, .slice Arf rf.len Crf, .int .i64 ru, .int .i64 re, .slice Ast st.len Cst] 146) hg0; have y1 := ka (.cells #[.int .i64 lk, .int .i64 ln, .slice Alf lf.len Clf, .int .i64 rk, .int .i64 rn, .slice Arf rf.len Crf, .int .i64 ru, .int .i64 re, .slice Ast st.len Cst] 146) hg1
  rw [← hq]
  clear hq hg0 hg1 hl_lf hl_rf hl_st
  go_enter Try.func99, Try.ntmps99
  go_wp2_with fail
  refine (K.out _ ((Sees.refl w).alloc _)).mono ?_
  rintro e w1 ⟨rfl, hb⟩
  have B1 : Sees w w1 := Sees.below ((Sees.refl w).alloc _) hb
  clear hb
  go_wp2_with fail
  go_ret
  exact ⟨rfl, B1⟩

set_option maxHeartbeats 1500000 in
set_option maxRecDepth 100000 in
theorem implValidProof_any (gt : Int) (ga : Int) (cl : Cl) (hf_cl : cl.len ≤ 9223372036854775807 ∧ cl.Fits) (hn_cl : cl.nodes ≤ 1048576) (Acl : Option Addr) (Ccl : Nat) (w : World) (hl_cl : cl.Lies w Acl) :
    Calls Try.prog 41 #[.agg #[.int .i64 gt, .int .i64 ga, .slice Acl cl.len Ccl]] w fun e w' => e = .returned (.bool (proofB gt ga cl)) ∧ Below w.heap.size w w' := by
  obtain ⟨q0, hq0⟩ : ∃ q : Bool, q = sigOk gt ga := ⟨_, rfl⟩
  obtain ⟨q3, hq3⟩ : ∃ q : Bool, q = cl.allG (claimB gt ga) := ⟨_, rfl⟩
  have K0 : Hid (∀ W : World, Sees w W → Calls Try.prog 74 #[.agg #[.int .i64 gt, .int .i64 ga]] W fun e w' => e = .returned (.bool q0) ∧ Below W.heap.size W w') := fun W _ => by rw [hq0]; exact implValidSig_any gt ga W
  have K3 : Hid (∀ (W : World) (bg : Nat), Sees w W → W.cell? ⟨bg, 0, none⟩ = some (.int .i64 gt) → W.cell? ⟨bg, 1, none⟩ = some (.int .i64 ga) → Calls Try.prog 98 #[.slice Acl cl.len Ccl, .func (.func 99) #[] #[.pointer (some ⟨bg, 0, none⟩)]] W fun e w' => e = .returned (.bool q3) ∧ Below W.heap.size W w') := fun W bg h h0 h1 => by
    rw [hq3]
    exact everyK_any (claimB gt ga) 99 #[.pointer (some ⟨bg, 0, none⟩)] (enters_of Try.func99 (by kernel_rfl) rfl) cl hf_cl.1 Acl Ccl W (hl_cl.sees h) (fun W2 lk ln lf rk rn rf ru re st r j Alf Arf Ast Clf Crf Cst h2 hx g1 g2 g3 => validClaimOf_any gt ga bg lk ln lf rk rn rf ru re st (Cl.elem hf_cl hn_cl hx).1.1 (Cl.elem hf_cl hn_cl hx).1.2.1 (Cl.elem hf_cl hn_cl hx).1.2.2 (Cl.elem hf_cl hn_cl hx).2.1 (Cl.elem hf_cl hn_cl hx).2.2.1 (Cl.elem hf_cl hn_cl hx).2.2.2 Alf Arf Ast Clf Crf Cst W2 g1 g2 g3 (kc h2 h0) (kc h2 h1))
  have HX : Hid (proofB gt ga cl = (q0 && (decide ((cl.len : Int) ≤ 40) && q3))) := by
    show _ = _
    unfold proofB
    rw [hq0, hq3]
  have l1 := hf_cl.1
  clear hq0 hq3 hl_cl hf_cl hn_cl
  cases q0
  case false =>
    have HE : Hid (proofB gt ga cl = false) := by show _ = _; rw [HX.out]; simp
    clear HX K3
    go_enter Try.func41, Try.ntmps41
    go_wp2_with fail
    refine (K0.out _ (by unfold Sees; go_grown)).mono ?_
    rintro e w1 ⟨rfl, hb⟩
    have S1 : Hid (St w [(w.heap.size, 0, .int .i64 gt), (w.heap.size, 1, .int .i64 ga), (w.heap.size, 2, .slice Acl cl.len Ccl)] w1) := St.below (l := [(w.heap.size, 0, .int .i64 gt), (w.heap.size, 1, .int .i64 ga), (w.heap.size, 2, .slice Acl cl.len Ccl)]) ⟨(by unfold Sees; go_grown), (by simp [go_sem]), (by simp [go_sem]), (by simp [go_sem]), trivial⟩ hb
    clear hb
    obtain ⟨_, y0, y1, y2, _⟩ := S1.out
    go_wp2_with fail
    go_ret
    exact ⟨ret_bool HE.out.symm, S1.out.1⟩
  by_cases h3 : (cl.len : Int) ≤ 40
  case neg =>
    have t3 : decide ((cl.len : Int) ≤ 40) = false := decide_eq_false h3
    have HE : Hid (proofB gt ga cl = false) := by show _ = _; rw [HX.out, t3]; simp
    clear HX K3 h3
    go_enter Try.func41, Try.ntmps41
    go_wp2_with fail
    refine (K0.out _ (by unfold Sees; go_grown)).mono ?_
    rintro e w1 ⟨rfl, hb⟩
    have S1 : Hid (St w [(w.heap.size, 0, .int .i64 gt), (w.heap.size, 1, .int .i64 ga), (w.heap.size, 2, .slice Acl cl.len Ccl)] w1) := St.below (l := [(w.heap.size, 0, .int .i64 gt), (w.heap.size, 1, .int .i64 ga), (w.heap.size, 2, .slice Acl cl.len Ccl)]) ⟨(by unfold Sees; go_grown), (by simp [go_sem]), (by simp [go_sem]), (by simp [go_sem]), trivial⟩ hb
    clear hb
    obtain ⟨_, y0, y1, y2, _⟩ := S1.out
    go_wp2_with fail
    go_ret
    exact ⟨ret_bool HE.out.symm, S1.out.1⟩
  have t3 : decide ((cl.len : Int) ≤ 40) = true := decide_eq_true h3
  have HE : Hid (proofB gt ga cl = q3) := by show _ = _; rw [HX.out, t3]; simp
  clear HX h3
  go_enter Try.func41, Try.ntmps41
  go_wp2_with fail
  refine (K0.out _ (by unfold Sees; go_grown)).mono ?_
  rintro e w1 ⟨rfl, hb⟩
  have S1 : Hid (St w [(w.heap.size, 0, .int .i64 gt), (w.heap.size, 1, .int .i64 ga), (w.heap.size, 2, .slice Acl cl.len Ccl)] w1) := St.below (l := [(w.heap.size, 0, .int .i64 gt), (w.heap.size, 1, .int .i64 ga), (w.heap.size, 2, .slice Acl cl.len Ccl)]) ⟨(by unfold Sees; go_grown), (by simp [go_sem]), (by simp [go_sem]), (by simp [go_sem]), trivial⟩ hb
  clear hb
  obtain ⟨_, y0, y1, y2, _⟩ := S1.out
  go_wp2_with fail
  refine (K3.out _ w.heap.size S1.out.1 y0 y1).mono ?_
  rintro e w2 ⟨rfl, hb⟩
  have B2 := S1.out.1.below hb
  clear hb
  go_wp2_with fail
  go_ret
  exact ⟨ret_bool HE.out.symm, B2⟩

end Go.Proofs.YtlpgkhdecccmlaaR
