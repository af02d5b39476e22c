/- Contracts of impl.validExprs, filling.isValid, ProofStep.filling, impl.validStep. -/
import Derived.Test.YtlpgkhdecccmlaaRPvD
import Derived.Test.YtlpgkhdecccmlaaRCondI
import Derived.Test.YtlpgkhdecccmlaaRValidI
import Derived.Test.YtlpgkhdecccmlaaREvyi
import Derived.Test.YtlpgkhdecccmlaaRQuietC
import Derived.Deep.RegionHeld3
import Derived.Lib.SmallJoins
namespace Go.Proofs.YtlpgkhdecccmlaaR
open Go.RowKit
set_option linter.unusedVariables false

set_option maxHeartbeats 1500000 in
set_option maxRecDepth 100000 in
theorem validExprOf_any (t a : Int) (bg : Nat) (k : Int) (n : Int) (ks : Fo) (hn : ks.nodes ≤ 1048576) (Aks : Option Addr) (Cks : Nat) (w : World) (hl_ks : ks.Lies w Aks) (hg0 : w.cell? ⟨bg, 0, none⟩ = some (.int .i64 t)) (hg1 : w.cell? ⟨bg, 1, none⟩ = some (.int .i64 a)) :
    Calls Try.prog 229 #[.agg #[.int .i64 k, .int .i64 n, .slice Aks ks.len Cks], .pointer (some ⟨bg, 0, none⟩)] w fun e w' => e = .returned (.bool (validE t a k n ks)) ∧ Below w.heap.size w w' := by
  obtain ⟨q, hq⟩ : ∃ q : Bool, q = validE t a k n ks := ⟨_, rfl⟩
  have K : Hid (∀ W : World, Sees w W → Calls Try.prog 64 #[.agg #[.int .i64 t, .int .i64 a], .agg #[.int .i64 k, .int .i64 n, .slice Aks ks.len Cks]] W fun e w' => e = .returned (.bool q) ∧ Below W.heap.size W w') := fun W h => by rw [hq]; exact implValidExpr_any t a k n ks hn Aks Cks W (hl_ks.sees h)
  have y0 := ka (.cells #[.int .i64 k, .int .i64 n, .slice Aks ks.len Cks] 35) hg0; have y1 := ka (.cells #[.int .i64 k, .int .i64 n, .slice Aks ks.len Cks] 35) hg1
  rw [← hq]
  clear hq hg0 hg1 hl_ks
  go_enter Try.func229, Try.ntmps229
  go_wp2_with fail
  refine (K.out _ ((Sees.refl w).alloc _)).mono ?_
  rintro e w1 ⟨rfl, hb⟩
  have B1 : Sees w w1 := Sees.below ((Sees.refl w).alloc _) hb
  clear hb
  go_wp2_with fail
  go_ret
  exact ⟨rfl, B1⟩

theorem Fo.elem {xs : Fo} {j : Nat} {k n : Int} {ks r : Fo} (hf : xs.len ≤ 9223372036854775807 ∧ xs.Fits) (hn : xs.nodes ≤ 1048576) (hx : xs.drop j = .cons k n ks r) : (ks.len ≤ 9223372036854775807 ∧ ks.Fits) ∧ ks.nodes ≤ 1048576 := by
  have h1 := Fo.fits_drop hf.2 j
  have h2 := Fo.nodes_drop xs j
  rw [hx] at h1 h2
  simp only [Fo.nodes] at h2
  exact ⟨⟨h1.1, h1.2.1⟩, by omega⟩
set_option maxHeartbeats 1500000 in
set_option maxRecDepth 100000 in
theorem validExprs_any (t a : Int) (xs : Fo) (hf : xs.len ≤ 9223372036854775807 ∧ xs.Fits) (hn : xs.nodes ≤ 1048576) (A : Option Addr) (C : Nat) (w : World) (hl : xs.Lies w A) :
    Calls Try.prog 222 #[.agg #[.int .i64 t, .int .i64 a], .slice A xs.len C] w fun e w' => e = .returned (.bool (xs.allG (validE t a))) ∧ Below w.heap.size w w' := by
  obtain ⟨q, hq⟩ : ∃ q : Bool, q = xs.allG (validE t a) := ⟨_, rfl⟩
  have K : Hid (∀ (W : World) (bg : Nat), Sees w W → W.cell? ⟨bg, 0, none⟩ = some (.int .i64 t) → W.cell? ⟨bg, 1, none⟩ = some (.int .i64 a) → Calls Try.prog 204 #[.slice A xs.len C, .func (.func 229) #[] #[.pointer (some ⟨bg, 0, none⟩)]] W fun e w' => e = .returned (.bool q) ∧ Below W.heap.size W w') := fun W bg h h0 h1 => by
    rw [hq]
    exact everyE_any (validE t a) 229 #[.pointer (some ⟨bg, 0, none⟩)] (enters_of Try.func229 (by kernel_rfl) rfl) xs hf.1 A C W (hl.sees h) (fun W2 k n ks r j Aks Cks h2 hx g => validExprOf_any t a bg k n ks (Fo.elem hf hn hx).2 Aks Cks W2 g (kc h2 h0) (kc h2 h1))
  rw [← hq]
  clear hq hl
  go_enter Try.func222, Try.ntmps222
  go_wp2_with fail
  refine (K.out _ w.heap.size (by unfold Sees; go_grown) (by simp [go_sem]) (by simp [go_sem])).mono ?_
  rintro e w1 ⟨rfl, hb⟩
  have B1 : Sees w w1 := Sees.below (by unfold Sees; go_grown) hb
  clear hb
  go_wp2_with fail
  go_ret
  exact ⟨rfl, B1⟩

set_option maxHeartbeats 1500000 in
set_option maxRecDepth 100000 in
theorem isValid_any (t a : Int) (te : Fo) (ac : Fo) (hf_te : te.len ≤ 9223372036854775807 ∧ te.Fits) (hf_ac : ac.len ≤ 9223372036854775807 ∧ ac.Fits) (hn_te : te.nodes ≤ 1048576) (hn_ac : ac.nodes ≤ 1048576) (Ate Aac : Option Addr) (Cte Cac : Nat) (w : World) (hl_te : te.Lies w Ate) (hl_ac : ac.Lies w Aac) :
    Calls Try.prog 203 #[.agg #[.slice Ate te.len Cte, .slice Aac ac.len Cac], .agg #[.int .i64 t, .int .i64 a]] w fun e w' => e = .returned (.bool (te.allG (validE t a) && ac.allG (validE t a))) ∧ Below w.heap.size w w' := by
  obtain ⟨q0, hq0⟩ : ∃ q : Bool, q = te.allG (validE t a) := ⟨_, rfl⟩
  obtain ⟨q1, hq1⟩ : ∃ q : Bool, q = ac.allG (validE t a) := ⟨_, rfl⟩
  have K0 : Hid (∀ W : World, Sees w W → Calls Try.prog 222 #[.agg #[.int .i64 t, .int .i64 a], .slice Ate te.len Cte] W fun e w' => e = .returned (.bool q0) ∧ Below W.heap.size W w') := fun W h => by rw [hq0]; exact validExprs_any t a te hf_te hn_te Ate Cte W (hl_te.sees h)
  have K1 : Hid (∀ W : World, Sees w W → Calls Try.prog 222 #[.agg #[.int .i64 t, .int .i64 a], .slice Aac ac.len Cac] W fun e w' => e = .returned (.bool q1) ∧ Below W.heap.size W w') := fun W h => by rw [hq1]; exact validExprs_any t a ac hf_ac hn_ac Aac Cac W (hl_ac.sees h)
  rw [← hq0, ← hq1]
  clear hq0 hq1 hl_te hl_ac
  cases q0
  case false =>
    go_enter Try.func203, Try.ntmps203
    go_wp2_with fail
    refine (K0.out _ (by unfold Sees; go_grown)).mono ?_
    rintro e w1 ⟨rfl, hb⟩
    have S1 : Hid (St w [(w.heap.size, 0, .slice Ate te.len Cte), (w.heap.size, 1, .slice Aac ac.len Cac), (w.heap.size + 1, 0, .int .i64 t), (w.heap.size + 1, 1, .int .i64 a)] w1) := St.below (l := [(w.heap.size, 0, .slice Ate te.len Cte), (w.heap.size, 1, .slice Aac ac.len Cac), (w.heap.size + 1, 0, .int .i64 t), (w.heap.size + 1, 1, .int .i64 a)]) ⟨(by unfold Sees; go_grown), (by simp [go_sem]), (by simp [go_sem]), (by simp [go_sem]), (by simp [go_sem]), trivial⟩ hb
    clear hb
    obtain ⟨_, y0, y1, y2, y3, _⟩ := S1.out
    go_wp2_with fail
    go_ret
    exact ⟨rfl, S1.out.1⟩
  go_enter Try.func203, Try.ntmps203
  go_wp2_with fail
  refine (K0.out _ (by unfold Sees; go_grown)).mono ?_
  rintro e w1 ⟨rfl, hb⟩
  have S1 : Hid (St w [(w.heap.size, 0, .slice Ate te.len Cte), (w.heap.size, 1, .slice Aac ac.len Cac), (w.heap.size + 1, 0, .int .i64 t), (w.heap.size + 1, 1, .int .i64 a)] w1) := St.below (l := [(w.heap.size, 0, .slice Ate te.len Cte), (w.heap.size, 1, .slice Aac ac.len Cac), (w.heap.size + 1, 0, .int .i64 t), (w.heap.size + 1, 1, .int .i64 a)]) ⟨(by unfold Sees; go_grown), (by simp [go_sem]), (by simp [go_sem]), (by simp [go_sem]), (by simp [go_sem]), trivial⟩ hb
  clear hb
  obtain ⟨_, y0, y1, y2, y3, _⟩ := S1.out
  go_wp2_with fail
  refine (K1.out _ S1.out.1).mono ?_
  rintro e w2 ⟨rfl, hb⟩
  have S2 : Hid (St w [(w.heap.size, 0, .slice Ate te.len Cte), (w.heap.size, 1, .slice Aac ac.len Cac), (w.heap.size + 1, 0, .int .i64 t), (w.heap.size + 1, 1, .int .i64 a)] w2) := St.below S1.out hb
  clear hb y0 y1 y2 y3
  obtain ⟨_, y0, y1, y2, y3, _⟩ := S2.out
  go_wp2_with fail
  go_ret
  exact ⟨rfl, S2.out.1⟩

set_option maxHeartbeats 1500000 in
set_option maxRecDepth 100000 in
theorem stepFilling_any (us : Int) (bk : Bool) (pa : Il) (te : Fo) (ac : Fo) (Apa Ate Aac : Option Addr) (Cpa Cte Cac : Nat) (w : World) :
    Calls Try.prog 202 #[.agg #[.int .i64 us, .bool bk, .slice Apa pa.len Cpa, .slice Ate te.len Cte, .slice Aac ac.len Cac]] w fun e w' => e = .returned (.agg #[.slice Ate te.len Cte, .slice Aac ac.len Cac]) ∧ Below w.heap.size w w' := by
  go_enter Try.func202, Try.ntmps202
  go_wp2_with fail
  refine bodyPost_ret (v := .agg #[.slice Ate te.len Cte, .slice Aac ac.len Cac]) (by simp [results, Try.results202, go_sem]) rfl ⟨rfl, by go_grown⟩
set_option maxHeartbeats 1500000 in
set_option maxRecDepth 100000 in
theorem stepIndex_any (i : Int) (w : World) :
    Calls Try.prog 201 #[.int .i64 i] w fun e w' => e = .returned (.bool (belowB i 2)) ∧ Below w.heap.size w w' := by
  go_enter Try.func201, Try.ntmps201
  go_wp2_with fail
  refine (below_any i 2 w).mono ?_
  rintro e w1 ⟨rfl, rfl⟩
  go_wp2_with fail
  go_ret
  exact ⟨rfl, Below.refl _ _⟩

set_option maxHeartbeats 1500000 in
set_option maxRecDepth 100000 in
theorem implValidStep_any (t a : Int) (us : Int) (bk : Bool) (pa : Il) (te : Fo) (ac : Fo) (hf_pa : pa.len ≤ 9223372036854775807 ∧ pa.Fits) (hf_te : te.len ≤ 9223372036854775807 ∧ te.Fits) (hf_ac : ac.len ≤ 9223372036854775807 ∧ ac.Fits) (hn_te : te.nodes ≤ 1048576) (hn_ac : ac.nodes ≤ 1048576) (Apa Ate Aac : Option Addr) (Cpa Cte Cac : Nat) (w : World) (hl_pa : pa.Lies w Apa) (hl_te : te.Lies w Ate) (hl_ac : ac.Lies w Aac) :
    Calls Try.prog 160 #[.agg #[.int .i64 t, .int .i64 a], .agg #[.int .i64 us, .bool bk, .slice Apa pa.len Cpa, .slice Ate te.len Cte, .slice Aac ac.len Cac]] w fun e w' => e = .returned (.bool (stepB t a us bk pa te ac)) ∧ Below w.heap.size w w' := by
  obtain ⟨q1, hq1⟩ : ∃ q : Bool, q = pa.l.all (fun i => belowB i 2) := ⟨_, rfl⟩
  obtain ⟨q2, hq2⟩ : ∃ q : Bool, q = (te.allG (validE t a) && ac.allG (validE t a)) := ⟨_, rfl⟩
  obtain ⟨q3, hq3⟩ : ∃ q : Bool, q = te.allG condB := ⟨_, rfl⟩
  have K1 : Hid (∀ W : World, Sees w W → Calls Try.prog 200 #[.slice Apa pa.len Cpa, .func (.func 201) #[] #[]] W fun e w' => e = .returned (.bool q1) ∧ Below W.heap.size W w') := fun W h => by
    rw [hq1]
    exact everyi_any (fun i => belowB i 2) 201 #[] (enters_of Try.func201 (by kernel_rfl) rfl) pa.l hf_pa.1 Apa Cpa W (IntsL.of (hl_pa.sees h)) (fun W2 x _ _ => stepIndex_any x W2)
  have E2 : Hid (∀ W : World, Calls Try.prog 202 #[.agg #[.int .i64 us, .bool bk, .slice Apa pa.len Cpa, .slice Ate te.len Cte, .slice Aac ac.len Cac]] W fun e w' => e = .returned (.agg #[.slice Ate te.len Cte, .slice Aac ac.len Cac]) ∧ Below W.heap.size W w') := fun W => stepFilling_any us bk pa te ac Apa Ate Aac Cpa Cte Cac W
  have K2 : Hid (∀ W : World, Sees w W → Calls Try.prog 203 #[.agg #[.slice Ate te.len Cte, .slice Aac ac.len Cac], .agg #[.int .i64 t, .int .i64 a]] W fun e w' => e = .returned (.bool q2) ∧ Below W.heap.size W w') := fun W h => by
    rw [hq2]
    exact isValid_any t a te ac hf_te hf_ac hn_te hn_ac Ate Aac Cte Cac W (hl_te.sees h) (hl_ac.sees h)
  have K3 : Hid (∀ W : World, Sees w W → Calls Try.prog 204 #[.slice Ate te.len Cte, .func (.func 65) #[] #[]] W fun e w' => e = .returned (.bool q3) ∧ Below W.heap.size W w') := fun W h => by
    rw [hq3]
    exact everyE_any condB 65 #[] (enters_of Try.func65 (by kernel_rfl) rfl) te hf_te.1 Ate Cte W (hl_te.sees h) (fun W2 k n ks r j Aks Cks h2 hx g => implIsCondition_aux (ks.nodes + 1) ks (Nat.lt_succ_self _) (Fo.elem hf_te hn_te hx).1.1 (Fo.elem hf_te hn_te hx).1.2 k n Aks Cks W2 g)
  have HD : Hid (stepB t a us bk pa te ac = (!decide (us < -40) && (!decide ((24 : Int) ≤ us) && (!decide ((40 : Int) < (pa.len : Int)) && (!decide ((3 : Int) < (te.len : Int)) && (!decide ((4 : Int) < (ac.len : Int)) && (q1 && (q2 && q3)))))))) := by
    show _ = _
    unfold stepB
    rw [hq1, hq2, hq3]
  have l1 := hf_pa.1; have l2 := hf_te.1; have l3 := hf_ac.1
  clear hq1 hq2 hq3 hl_pa hl_te hl_ac hf_pa hf_te hf_ac hn_te hn_ac
  by_cases hk0 : us < -40
  case pos =>
    have tl0 : decide (us < -40) = true := decide_eq_true hk0
    have HE : Hid (stepB t a us bk pa te ac = false) := by show _ = _; rw [HD.out, tl0]; rfl
    clear HD
    clear K1 K2 K3 E2
    go_enter Try.func160, Try.ntmps160
    go_wp2_with fail
    go_ret
    exact ⟨ret_bool HE.out.symm, by go_grown⟩
  have tl0 : decide (us < -40) = false := decide_eq_false hk0
  rw [tl0] at HD
  by_cases hk1 : (24 : Int) ≤ us
  case pos =>
    have tl1 : decide ((24 : Int) ≤ us) = true := decide_eq_true hk1
    have HE : Hid (stepB t a us bk pa te ac = false) := by show _ = _; rw [HD.out, tl1]; rfl
    clear HD
    clear K1 K2 K3 E2
    go_enter Try.func160, Try.ntmps160
    go_wp2_with fail
    go_ret
    exact ⟨ret_bool HE.out.symm, by go_grown⟩
  have tl1 : decide ((24 : Int) ≤ us) = false := decide_eq_false hk1
  rw [tl1] at HD
  by_cases hk2 : (40 : Int) < (pa.len : Int)
  case pos =>
    have tl2 : decide ((40 : Int) < (pa.len : Int)) = true := decide_eq_true hk2
    have HE : Hid (stepB t a us bk pa te ac = false) := by show _ = _; rw [HD.out, tl2]; rfl
    clear HD
    clear K1 K2 K3 E2
    go_enter Try.func160, Try.ntmps160
    go_wp2_with fail
    go_ret
    exact ⟨ret_bool HE.out.symm, by go_grown⟩
  have tl2 : decide ((40 : Int) < (pa.len : Int)) = false := decide_eq_false hk2
  rw [tl2] at HD
  by_cases hk3 : (3 : Int) < (te.len : Int)
  case pos =>
    have tl3 : decide ((3 : Int) < (te.len : Int)) = true := decide_eq_true hk3
    have HE : Hid (stepB t a us bk pa te ac = false) := by show _ = _; rw [HD.out, tl3]; rfl
    clear HD
    clear K1 K2 K3 E2
    go_enter Try.func160, Try.ntmps160
    go_wp2_with fail
    go_ret
    exact ⟨ret_bool HE.out.symm, by go_grown⟩
  have tl3 : decide ((3 : Int) < (te.len : Int)) = false := decide_eq_false hk3
  rw [tl3] at HD
  by_cases hk4 : (4 : Int) < (ac.len : Int)
  case pos =>
    have tl4 : decide ((4 : Int) < (ac.len : Int)) = true := decide_eq_true hk4
    have HE : Hid (stepB t a us bk pa te ac = false) := by show _ = _; rw [HD.out, tl4]; rfl
    clear HD
    clear K1 K2 K3 E2
    go_enter Try.func160, Try.ntmps160
    go_wp2_with fail
    go_ret
    exact ⟨ret_bool HE.out.symm, by go_grown⟩
  have tl4 : decide ((4 : Int) < (ac.len : Int)) = false := decide_eq_false hk4
  rw [tl4] at HD
  cases q1
  case false =>
    have HE : Hid (stepB t a us bk pa te ac = false) := by show _ = _; rw [HD.out]; rfl
    clear HD
    go_enter Try.func160, Try.ntmps160
    go_wp2_with fail
    refine wp_region_quietC w [(w.heap.size, 0, .int .i64 t), (w.heap.size, 1, .int .i64 a), (w.heap.size + 1, 0, .int .i64 us), (w.heap.size + 1, 1, .bool bk), (w.heap.size + 1, 2, .slice Apa pa.len Cpa), (w.heap.size + 1, 3, .slice Ate te.len Cte), (w.heap.size + 1, 4, .slice Aac ac.len Cac)] (by kernel_rfl) (by kernel_rfl) ⟨(by unfold Sees; go_grown), (by simp [go_sem]), (by simp [go_sem]), (by simp [go_sem]), (by simp [go_sem]), (by simp [go_sem]), (by simp [go_sem]), (by simp [go_sem]), trivial⟩ ?_
    repeat (first | go_big_quiet_skip | (go_big_quiet_want; apply Exists.intro; refine ⟨fun W hW => ?_, ?_⟩; focus (have hK := Lib.hid hW; obtain ⟨hs, hc⟩ := hW; simp only [Has, and_true] at hc; go_simp; (first | rfl | exact ⟨rfl, rfl⟩ | ((with_reducible refine quietC_call hK.out (K1.out _ ?_)); exact hs) | ((with_reducible refine quietC_call hK.out (E2.out _))) | ((with_reducible refine quietC_call hK.out (K2.out _ ?_)); exact hs) | ((with_reducible refine quietC_call hK.out (K3.out _ ?_)); exact hs)))) | (go_simp; go_big_quiet_on))
    refine wpQuiet_nil ?_
    intro wq HQ
    have hbq : Below w.heap.size w wq := HQ.1
    clear HQ
    go_wp2_with fail
    go_ret
    exact ⟨ret_bool HE.out.symm, hbq⟩
  cases q2
  case false =>
    have HE : Hid (stepB t a us bk pa te ac = false) := by show _ = _; rw [HD.out]; rfl
    clear HD
    go_enter Try.func160, Try.ntmps160
    go_wp2_with fail
    refine wp_region_quietC w [(w.heap.size, 0, .int .i64 t), (w.heap.size, 1, .int .i64 a), (w.heap.size + 1, 0, .int .i64 us), (w.heap.size + 1, 1, .bool bk), (w.heap.size + 1, 2, .slice Apa pa.len Cpa), (w.heap.size + 1, 3, .slice Ate te.len Cte), (w.heap.size + 1, 4, .slice Aac ac.len Cac)] (by kernel_rfl) (by kernel_rfl) ⟨(by unfold Sees; go_grown), (by simp [go_sem]), (by simp [go_sem]), (by simp [go_sem]), (by simp [go_sem]), (by simp [go_sem]), (by simp [go_sem]), (by simp [go_sem]), trivial⟩ ?_
    repeat (first | go_big_quiet_skip | (go_big_quiet_want; apply Exists.intro; refine ⟨fun W hW => ?_, ?_⟩; focus (have hK := Lib.hid hW; obtain ⟨hs, hc⟩ := hW; simp only [Has, and_true] at hc; go_simp; (first | rfl | exact ⟨rfl, rfl⟩ | ((with_reducible refine quietC_call hK.out (K1.out _ ?_)); exact hs) | ((with_reducible refine quietC_call hK.out (E2.out _))) | ((with_reducible refine quietC_call hK.out (K2.out _ ?_)); exact hs) | ((with_reducible refine quietC_call hK.out (K3.out _ ?_)); exact hs)))) | (go_simp; go_big_quiet_on))
    refine wpQuiet_nil ?_
    intro wq HQ
    have hbq : Below w.heap.size w wq := HQ.1
    clear HQ
    go_wp2_with fail
    go_ret
    exact ⟨ret_bool HE.out.symm, hbq⟩
  cases q3
  case false =>
    have HE : Hid (stepB t a us bk pa te ac = false) := by show _ = _; rw [HD.out]; rfl
    clear HD
    go_enter Try.func160, Try.ntmps160
    go_wp2_with fail
    refine wp_region_quietC w [(w.heap.size, 0, .int .i64 t), (w.heap.size, 1, .int .i64 a), (w.heap.size + 1, 0, .int .i64 us), (w.heap.size + 1, 1, .bool bk), (w.heap.size + 1, 2, .slice Apa pa.len Cpa), (w.heap.size + 1, 3, .slice Ate te.len Cte), (w.heap.size + 1, 4, .slice Aac ac.len Cac)] (by kernel_rfl) (by kernel_rfl) ⟨(by unfold Sees; go_grown), (by simp [go_sem]), (by simp [go_sem]), (by simp [go_sem]), (by simp [go_sem]), (by simp [go_sem]), (by simp [go_sem]), (by simp [go_sem]), trivial⟩ ?_
    repeat (first | go_big_quiet_skip | (go_big_quiet_want; apply Exists.intro; refine ⟨fun W hW => ?_, ?_⟩; focus (have hK := Lib.hid hW; obtain ⟨hs, hc⟩ := hW; simp only [Has, and_true] at hc; go_simp; (first | rfl | exact ⟨rfl, rfl⟩ | ((with_reducible refine quietC_call hK.out (K1.out _ ?_)); exact hs) | ((with_reducible refine quietC_call hK.out (E2.out _))) | ((with_reducible refine quietC_call hK.out (K2.out _ ?_)); exact hs) | ((with_reducible refine quietC_call hK.out (K3.out _ ?_)); exact hs)))) | (go_simp; go_big_quiet_on))
    refine wpQuiet_nil ?_
    intro wq HQ
    have hbq : Below w.heap.size w wq := HQ.1
    clear HQ
    go_wp2_with fail
    go_ret
    exact ⟨ret_bool HE.out.symm, hbq⟩
  have HE : Hid (stepB t a us bk pa te ac = true) := by show _ = _; rw [HD.out]; rfl
  clear HD
  go_enter Try.func160, Try.ntmps160
  go_wp2_with fail
  refine wp_region_quietC w [(w.heap.size, 0, .int .i64 t), (w.heap.size, 1, .int .i64 a), (w.heap.size + 1, 0, .int .i64 us), (w.heap.size + 1, 1, .bool bk), (w.heap.size + 1, 2, .slice Apa pa.len Cpa), (w.heap.size + 1, 3, .slice Ate te.len Cte), (w.heap.size + 1, 4, .slice Aac ac.len Cac)] (by kernel_rfl) (by kernel_rfl) ⟨(by unfold Sees; go_grown), (by simp [go_sem]), (by simp [go_sem]), (by simp [go_sem]), (by simp [go_sem]), (by simp [go_sem]), (by simp [go_sem]), (by simp [go_sem]), trivial⟩ ?_
  repeat (first | go_big_quiet_skip | (go_big_quiet_want; apply Exists.intro; refine ⟨fun W hW => ?_, ?_⟩; focus (have hK := Lib.hid hW; obtain ⟨hs, hc⟩ := hW; simp only [Has, and_true] at hc; go_simp; (first | rfl | exact ⟨rfl, rfl⟩ | ((with_reducible refine quietC_call hK.out (K1.out _ ?_)); exact hs) | ((with_reducible refine quietC_call hK.out (E2.out _))) | ((with_reducible refine quietC_call hK.out (K2.out _ ?_)); exact hs) | ((with_reducible refine quietC_call hK.out (K3.out _ ?_)); exact hs)))) | (go_simp; go_big_quiet_on))
  refine wpQuiet_nil ?_
  intro wq HQ
  have hbq : Below w.heap.size w wq := HQ.1
  clear HQ
  go_wp2_with fail
  go_ret
  exact ⟨ret_bool HE.out.symm, hbq⟩

end Go.Proofs.YtlpgkhdecccmlaaR
