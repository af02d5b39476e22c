/- Contract of laws.eqTriple. -/
import Derived.Test.YtcgbepmhfimbjaaGreatDoorUe
import Derived.Test.YtcgbepmhfimbjaaGreatDoorUp
import Derived.Test.YtcgbepmhfimbjaaGreatDoorGt
import Derived.StillTailTactics
namespace Go.Proofs.YtcgbepmhfimbjaaGreatDoor
open Go.RowKit
set_option linter.unusedVariables false

set_option maxHeartbeats 4000000 in
set_option maxRecDepth 100000 in
theorem eqTriple_u (pk : Int) (pn : Int) (pf : Fo) (gk : Int) (gn : Int) (gck : Int) (gcn : Int) (gcf : Fo) (gks : Pg) (qk : Int) (qn : Int) (qf : Fo) (hf_pf : pf.len ≤ 9223372036854775807 ∧ pf.Fits) (hf_gcf : gcf.len ≤ 9223372036854775807 ∧ gcf.Fits) (hf_gks : gks.len ≤ 9223372036854775807 ∧ gks.Fits) (hf_qf : qf.len ≤ 9223372036854775807 ∧ qf.Fits) (Apf Agcf Agks Aqf Bpf Bgcf Bgks Bqf : Option Addr) (Cpf Cgcf Cgks Cqf Dpf Dgcf Dgks Dqf : Nat) (w : World) (hl_pf : pf.Lies w Apf) (hl_gcf : gcf.Lies w Agcf) (hl_gks : gks.Lies w Agks) (hl_qf : qf.Lies w Aqf) (hr_pf : pf.Lies w Bpf) (hr_gcf : gcf.Lies w Bgcf) (hr_gks : gks.Lies w Bgks) (hr_qf : qf.Lies w Bqf) :
    Calls Tryz.prog 10 #[.agg #[.int .i64 pk, .int .i64 pn, .slice Apf pf.len Cpf, .int .i64 gk, .int .i64 gn, .int .i64 gck, .int .i64 gcn, .slice Agcf gcf.len Cgcf, .slice Agks gks.len Cgks, .int .i64 qk, .int .i64 qn, .slice Aqf qf.len Cqf], .agg #[.int .i64 pk, .int .i64 pn, .slice Bpf pf.len Dpf, .int .i64 gk, .int .i64 gn, .int .i64 gck, .int .i64 gcn, .slice Bgcf gcf.len Dgcf, .slice Bgks gks.len Dgks, .int .i64 qk, .int .i64 qn, .slice Bqf qf.len Dqf]] w fun e w' => e = .returned (.bool true) ∧ Below w.heap.size w w' := by
  have K0 : Hid (∀ W : World, Sees w W → Calls Tryz.prog 26 #[.agg #[.int .i64 pk, .int .i64 pn, .slice Apf pf.len Cpf], .agg #[.int .i64 pk, .int .i64 pn, .slice Bpf pf.len Dpf]] W fun e w' => e = .returned (.bool true) ∧ Below W.heap.size W w') := fun W h => eqExpr_u pk pn pf hf_pf Apf Bpf Cpf Dpf W (hl_pf.sees h) (hr_pf.sees h)
  have K1 : Hid (∀ W : World, Sees w W → Calls Tryz.prog 27 #[.agg #[.int .i64 gk, .int .i64 gn, .int .i64 gck, .int .i64 gcn, .slice Agcf gcf.len Cgcf, .slice Agks gks.len Cgks], .agg #[.int .i64 gk, .int .i64 gn, .int .i64 gck, .int .i64 gcn, .slice Bgcf gcf.len Dgcf, .slice Bgks gks.len Dgks]] W fun e w' => e = .returned (.bool true) ∧ Below W.heap.size W w') := fun W h => eqProg_u gk gn gck gcn gcf gks hf_gcf hf_gks Agcf Agks Bgcf Bgks Cgcf Cgks Dgcf Dgks W (hl_gcf.sees h) (hl_gks.sees h) (hr_gcf.sees h) (hr_gks.sees h)
  have K2 : Hid (∀ W : World, Sees w W → Calls Tryz.prog 26 #[.agg #[.int .i64 qk, .int .i64 qn, .slice Aqf qf.len Cqf], .agg #[.int .i64 qk, .int .i64 qn, .slice Bqf qf.len Dqf]] W fun e w' => e = .returned (.bool true) ∧ Below W.heap.size W w') := fun W h => eqExpr_u qk qn qf hf_qf Aqf Bqf Cqf Dqf W (hl_qf.sees h) (hr_qf.sees h)
  clear hl_pf hr_pf hl_gcf hr_gcf hl_gks hr_gks hl_qf hr_qf
  go_enter Tryz.func10, Tryz.ntmps10
  go_wp2_with fail
  refine (K0.out _ (by unfold Sees; go_grown)).mono ?_
  rintro e w0 ⟨rfl, hb⟩
  have S0 : Hid (Sees w w0) := Sees.below (by unfold Sees; go_grown) hb
  have HB0 : w0.heap[w.heap.size]? = some (.cells #[.int .i64 pk, .int .i64 pn, .slice Apf pf.len Cpf, .int .i64 gk, .int .i64 gn, .int .i64 gck, .int .i64 gcn, .slice Agcf gcf.len Cgcf, .slice Agks gks.len Cgks, .int .i64 qk, .int .i64 qn, .slice Aqf qf.len Cqf] 43 (0, 0)) := (hb.block _ (by simp <;> omega)).trans ((Below.heap_alloc _ _ _ (by simp <;> omega)).trans (heap_new _ _ _ rfl))
  have HB1 : w0.heap[w.heap.size + 1]? = some (.cells #[.int .i64 pk, .int .i64 pn, .slice Bpf pf.len Dpf, .int .i64 gk, .int .i64 gn, .int .i64 gck, .int .i64 gcn, .slice Bgcf gcf.len Dgcf, .slice Bgks gks.len Dgks, .int .i64 qk, .int .i64 qn, .slice Bqf qf.len Dqf] 43 (0, 0)) := (hb.block _ (by simp <;> omega)).trans (heap_new _ _ _ (by simp))
  clear hb
  have H0 := Lib.hid HB0; have H1 := Lib.hid HB1
  clear HB0 HB1
  obtain ⟨c0, c1, c2, c3, c4, c5, c6, c7, c8, c9, c10, c11, _, _, _, _, _, _, _, _, _, _, _, _⟩ := fc12 H0.out
  obtain ⟨d0, d1, d2, d3, d4, d5, d6, d7, d8, d9, d10, d11, _, _, _, _, _, _, _, _, _, _, _, _⟩ := fc12 H1.out
  go_wp2_with fail
  clear c0 d0 c1 d1 c2 d2 c3 d3 c4 d4 c5 d5 c6 d6 c7 d7 c8 d8 c9 d9 c10 d10 c11 d11
  have HB0 := H0.out; have HB1 := H1.out
  clear H0 H1
  refine (K1.out _ S0.out).mono ?_
  rintro e w1 ⟨rfl, hb⟩
  have S1 := Lib.hid (Sees.below S0.out hb)
  have HB0 := (hb.block _ (Array.getElem?_eq_some_iff.1 HB0).1).trans HB0
  have HB1 := (hb.block _ (Array.getElem?_eq_some_iff.1 HB1).1).trans HB1
  clear hb
  have H0 := Lib.hid HB0; have H1 := Lib.hid HB1
  clear HB0 HB1
  obtain ⟨c0, c1, c2, c3, c4, c5, c6, c7, c8, c9, c10, c11, _, _, _, _, _, _, _, _, _, _, _, _⟩ := fc12 H0.out
  obtain ⟨d0, d1, d2, d3, d4, d5, d6, d7, d8, d9, d10, d11, _, _, _, _, _, _, _, _, _, _, _, _⟩ := fc12 H1.out
  go_wp2_with fail
  clear c0 d0 c1 d1 c2 d2 c3 d3 c4 d4 c5 d5 c6 d6 c7 d7 c8 d8 c9 d9 c10 d10 c11 d11
  have HB0 := H0.out; have HB1 := H1.out
  clear H0 H1
  refine (K2.out _ S1.out).mono ?_
  rintro e w2 ⟨rfl, hb⟩
  have S2 := Lib.hid (Sees.below S1.out hb)
  have HB0 := (hb.block _ (Array.getElem?_eq_some_iff.1 HB0).1).trans HB0
  have HB1 := (hb.block _ (Array.getElem?_eq_some_iff.1 HB1).1).trans HB1
  clear hb
  clear HB0 HB1
  go_wp2_with fail
  go_ret
  exact ⟨rfl, S2.out⟩
end Go.Proofs.YtcgbepmhfimbjaaGreatDoor
