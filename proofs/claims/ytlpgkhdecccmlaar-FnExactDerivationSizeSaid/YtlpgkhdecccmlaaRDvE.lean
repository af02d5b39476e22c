/- Contracts of laws.eqTriple, eqDerivation, eqDerivationS. -/
import Derived.Test.YtlpgkhdecccmlaaRUe
import Derived.Test.YtlpgkhdecccmlaaRUp
import Derived.Test.YtlpgkhdecccmlaaRDv
import Derived.StillTailTactics
namespace Go.Proofs.YtlpgkhdecccmlaaR
open Go.RowKit
set_option linter.unusedVariables false

set_option maxHeartbeats 4000000 in
set_option maxRecDepth 100000 in
theorem eqTriple_u (pk : Int) (pn : Int) (pf : Fo) (gk : Int) (gn : Int) (gck : Int) (gcn : Int) (gcf : Fo) (gks : Pg) (qk : Int) (qn : Int) (qf : Fo) (hf_pf : pf.len ≤ 9223372036854775807 ∧ pf.Fits) (hf_gcf : gcf.len ≤ 9223372036854775807 ∧ gcf.Fits) (hf_gks : gks.len ≤ 9223372036854775807 ∧ gks.Fits) (hf_qf : qf.len ≤ 9223372036854775807 ∧ qf.Fits) (Apf Agcf Agks Aqf Bpf Bgcf Bgks Bqf : Option Addr) (Cpf Cgcf Cgks Cqf Dpf Dgcf Dgks Dqf : Nat) (w : World) (hl_pf : pf.Lies w Apf) (hl_gcf : gcf.Lies w Agcf) (hl_gks : gks.Lies w Agks) (hl_qf : qf.Lies w Aqf) (hr_pf : pf.Lies w Bpf) (hr_gcf : gcf.Lies w Bgcf) (hr_gks : gks.Lies w Bgks) (hr_qf : qf.Lies w Bqf) :
    Calls Try.prog 106 #[.agg #[.int .i64 pk, .int .i64 pn, .slice Apf pf.len Cpf, .int .i64 gk, .int .i64 gn, .int .i64 gck, .int .i64 gcn, .slice Agcf gcf.len Cgcf, .slice Agks gks.len Cgks, .int .i64 qk, .int .i64 qn, .slice Aqf qf.len Cqf], .agg #[.int .i64 pk, .int .i64 pn, .slice Bpf pf.len Dpf, .int .i64 gk, .int .i64 gn, .int .i64 gck, .int .i64 gcn, .slice Bgcf gcf.len Dgcf, .slice Bgks gks.len Dgks, .int .i64 qk, .int .i64 qn, .slice Bqf qf.len Dqf]] w fun e w' => e = .returned (.bool true) ∧ Below w.heap.size w w' := by
  have K0 : Hid (∀ W : World, Sees w W → Calls Try.prog 18 #[.agg #[.int .i64 pk, .int .i64 pn, .slice Apf pf.len Cpf], .agg #[.int .i64 pk, .int .i64 pn, .slice Bpf pf.len Dpf]] W fun e w' => e = .returned (.bool true) ∧ Below W.heap.size W w') := fun W h => eqExpr_u pk pn pf hf_pf Apf Bpf Cpf Dpf W (hl_pf.sees h) (hr_pf.sees h)
  have K1 : Hid (∀ W : World, Sees w W → Calls Try.prog 163 #[.agg #[.int .i64 gk, .int .i64 gn, .int .i64 gck, .int .i64 gcn, .slice Agcf gcf.len Cgcf, .slice Agks gks.len Cgks], .agg #[.int .i64 gk, .int .i64 gn, .int .i64 gck, .int .i64 gcn, .slice Bgcf gcf.len Dgcf, .slice Bgks gks.len Dgks]] W fun e w' => e = .returned (.bool true) ∧ Below W.heap.size W w') := fun W h => eqProg_u gk gn gck gcn gcf gks hf_gcf hf_gks Agcf Agks Bgcf Bgks Cgcf Cgks Dgcf Dgks W (hl_gcf.sees h) (hl_gks.sees h) (hr_gcf.sees h) (hr_gks.sees h)
  have K2 : Hid (∀ W : World, Sees w W → Calls Try.prog 18 #[.agg #[.int .i64 qk, .int .i64 qn, .slice Aqf qf.len Cqf], .agg #[.int .i64 qk, .int .i64 qn, .slice Bqf qf.len Dqf]] W fun e w' => e = .returned (.bool true) ∧ Below W.heap.size W w') := fun W h => eqExpr_u qk qn qf hf_qf Aqf Bqf Cqf Dqf W (hl_qf.sees h) (hr_qf.sees h)
  clear hl_pf hr_pf hl_gcf hr_gcf hl_gks hr_gks hl_qf hr_qf
  go_enter Try.func106, Try.ntmps106
  go_wp2_with fail
  refine (K0.out _ (by unfold Sees; go_grown)).mono ?_
  rintro e w0 ⟨rfl, hb⟩
  have S0 : Hid (Sees w w0) := Sees.below (by unfold Sees; go_grown) hb
  have HB0 : w0.heap[w.heap.size]? = some (.cells #[.int .i64 pk, .int .i64 pn, .slice Apf pf.len Cpf, .int .i64 gk, .int .i64 gn, .int .i64 gck, .int .i64 gcn, .slice Agcf gcf.len Cgcf, .slice Agks gks.len Cgks, .int .i64 qk, .int .i64 qn, .slice Aqf qf.len Cqf] 87 (0, 0)) := (hb.block _ (by simp <;> omega)).trans ((Below.heap_alloc _ _ _ (by simp <;> omega)).trans (heap_new _ _ _ rfl))
  have HB1 : w0.heap[w.heap.size + 1]? = some (.cells #[.int .i64 pk, .int .i64 pn, .slice Bpf pf.len Dpf, .int .i64 gk, .int .i64 gn, .int .i64 gck, .int .i64 gcn, .slice Bgcf gcf.len Dgcf, .slice Bgks gks.len Dgks, .int .i64 qk, .int .i64 qn, .slice Bqf qf.len Dqf] 87 (0, 0)) := (hb.block _ (by simp <;> omega)).trans (heap_new _ _ _ (by simp))
  clear hb
  have H0 := Lib.hid HB0; have H1 := Lib.hid HB1
  clear HB0 HB1
  obtain ⟨c0, c1, c2, c3, c4, c5, c6, c7, c8, c9, c10, c11, _, _, _, _, _, _, _, _, _, _, _, _⟩ := fc12 H0.out
  obtain ⟨d0, d1, d2, d3, d4, d5, d6, d7, d8, d9, d10, d11, _, _, _, _, _, _, _, _, _, _, _, _⟩ := fc12 H1.out
  go_wp2_with fail
  clear c0 d0 c1 d1 c2 d2 c3 d3 c4 d4 c5 d5 c6 d6 c7 d7 c8 d8 c9 d9 c10 d10 c11 d11
  have HB0 := H0.out; have HB1 := H1.out
  clear H0 H1
  refine (K1.out _ S0.out).mono ?_
  rintro e w1 ⟨rfl, hb⟩
  have S1 := Lib.hid (Sees.below S0.out hb)
  have HB0 := (hb.block _ (Array.getElem?_eq_some_iff.1 HB0).1).trans HB0
  have HB1 := (hb.block _ (Array.getElem?_eq_some_iff.1 HB1).1).trans HB1
  clear hb
  have H0 := Lib.hid HB0; have H1 := Lib.hid HB1
  clear HB0 HB1
  obtain ⟨c0, c1, c2, c3, c4, c5, c6, c7, c8, c9, c10, c11, _, _, _, _, _, _, _, _, _, _, _, _⟩ := fc12 H0.out
  obtain ⟨d0, d1, d2, d3, d4, d5, d6, d7, d8, d9, d10, d11, _, _, _, _, _, _, _, _, _, _, _, _⟩ := fc12 H1.out
  go_wp2_with fail
  clear c0 d0 c1 d1 c2 d2 c3 d3 c4 d4 c5 d5 c6 d6 c7 d7 c8 d8 c9 d9 c10 d10 c11 d11
  have HB0 := H0.out; have HB1 := H1.out
  clear H0 H1
  refine (K2.out _ S1.out).mono ?_
  rintro e w2 ⟨rfl, hb⟩
  have S2 := Lib.hid (Sees.below S1.out hb)
  have HB0 := (hb.block _ (Array.getElem?_eq_some_iff.1 HB0).1).trans HB0
  have HB1 := (hb.block _ (Array.getElem?_eq_some_iff.1 HB1).1).trans HB1
  clear hb
  clear HB0 HB1
  go_wp2_with fail
  go_ret
  exact ⟨rfl, S2.out⟩

set_option maxHeartbeats 4000000 in
set_option maxRecDepth 100000 in
theorem eqDerivation_of (ru : Int) (pk : Int) (pn : Int) (pf : Fo) (gk : Int) (gn : Int) (gck : Int) (gcn : Int) (gcf : Fo) (gks : Pg) (qk : Int) (qn : Int) (qf : Fo) (ks : Dv) (hf_pf : pf.len ≤ 9223372036854775807 ∧ pf.Fits) (hf_gcf : gcf.len ≤ 9223372036854775807 ∧ gcf.Fits) (hf_gks : gks.len ≤ 9223372036854775807 ∧ gks.Fits) (hf_qf : qf.len ≤ 9223372036854775807 ∧ qf.Fits) (ihS : ∀ (A A' : Option Addr) (C C' : Nat) (w : World), ks.Lies w A → ks.Lies w A' → Calls Try.prog 107 #[.slice A ks.len C, .slice A' ks.len C'] w fun e w' => e = .returned (.bool true) ∧ Below w.heap.size w w') (Apf Agcf Agks Aqf Aks Bpf Bgcf Bgks Bqf Bks : Option Addr) (Cpf Cgcf Cgks Cqf Cks Dpf Dgcf Dgks Dqf Dks : Nat) (w : World) (hl_pf : pf.Lies w Apf) (hl_gcf : gcf.Lies w Agcf) (hl_gks : gks.Lies w Agks) (hl_qf : qf.Lies w Aqf) (hl_ks : ks.Lies w Aks) (hr_pf : pf.Lies w Bpf) (hr_gcf : gcf.Lies w Bgcf) (hr_gks : gks.Lies w Bgks) (hr_qf : qf.Lies w Bqf) (hr_ks : ks.Lies w Bks) :
    Calls Try.prog 46 #[.agg #[.int .i64 ru, .int .i64 pk, .int .i64 pn, .slice Apf pf.len Cpf, .int .i64 gk, .int .i64 gn, .int .i64 gck, .int .i64 gcn, .slice Agcf gcf.len Cgcf, .slice Agks gks.len Cgks, .int .i64 qk, .int .i64 qn, .slice Aqf qf.len Cqf, .slice Aks ks.len Cks], .agg #[.int .i64 ru, .int .i64 pk, .int .i64 pn, .slice Bpf pf.len Dpf, .int .i64 gk, .int .i64 gn, .int .i64 gck, .int .i64 gcn, .slice Bgcf gcf.len Dgcf, .slice Bgks gks.len Dgks, .int .i64 qk, .int .i64 qn, .slice Bqf qf.len Dqf, .slice Bks ks.len Dks]] w fun e w' => e = .returned (.bool true) ∧ Below w.heap.size w w' := by
  have K0 : Hid (∀ W : World, Sees w W → Calls Try.prog 106 #[.agg #[.int .i64 pk, .int .i64 pn, .slice Apf pf.len Cpf, .int .i64 gk, .int .i64 gn, .int .i64 gck, .int .i64 gcn, .slice Agcf gcf.len Cgcf, .slice Agks gks.len Cgks, .int .i64 qk, .int .i64 qn, .slice Aqf qf.len Cqf], .agg #[.int .i64 pk, .int .i64 pn, .slice Bpf pf.len Dpf, .int .i64 gk, .int .i64 gn, .int .i64 gck, .int .i64 gcn, .slice Bgcf gcf.len Dgcf, .slice Bgks gks.len Dgks, .int .i64 qk, .int .i64 qn, .slice Bqf qf.len Dqf]] W fun e w' => e = .returned (.bool true) ∧ Below W.heap.size W w') := fun W h => eqTriple_u pk pn pf gk gn gck gcn gcf gks qk qn qf hf_pf hf_gcf hf_gks hf_qf Apf Agcf Agks Aqf Bpf Bgcf Bgks Bqf Cpf Cgcf Cgks Cqf Dpf Dgcf Dgks Dqf W (hl_pf.sees h) (hl_gcf.sees h) (hl_gks.sees h) (hl_qf.sees h) (hr_pf.sees h) (hr_gcf.sees h) (hr_gks.sees h) (hr_qf.sees h)
  have K1 : Hid (∀ W : World, Sees w W → Calls Try.prog 107 #[.slice Aks ks.len Cks, .slice Bks ks.len Dks] W fun e w' => e = .returned (.bool true) ∧ Below W.heap.size W w') := fun W h => ihS Aks Bks Cks Dks W (hl_ks.sees h) (hr_ks.sees h)
  clear hl_pf hr_pf hl_gcf hr_gcf hl_gks hr_gks hl_qf hr_qf hl_ks hr_ks ihS
  have n_ru : (ru != ru) = false := by simp
  go_enter Try.func46, Try.ntmps46
  go_wp2_with fail
  refine (K0.out _ (by unfold Sees; go_grown)).mono ?_
  rintro e w0 ⟨rfl, hb⟩
  have S0 : Hid (Sees w w0) := Sees.below (by unfold Sees; go_grown) hb
  have HB0 : w0.heap[w.heap.size]? = some (.cells #[.int .i64 ru, .int .i64 pk, .int .i64 pn, .slice Apf pf.len Cpf, .int .i64 gk, .int .i64 gn, .int .i64 gck, .int .i64 gcn, .slice Agcf gcf.len Cgcf, .slice Agks gks.len Cgks, .int .i64 qk, .int .i64 qn, .slice Aqf qf.len Cqf, .slice Aks ks.len Cks] 90 (0, 0)) := (hb.block _ (by simp <;> omega)).trans ((Below.heap_alloc _ _ _ (by simp <;> omega)).trans (heap_new _ _ _ rfl))
  have HB1 : w0.heap[w.heap.size + 1]? = some (.cells #[.int .i64 ru, .int .i64 pk, .int .i64 pn, .slice Bpf pf.len Dpf, .int .i64 gk, .int .i64 gn, .int .i64 gck, .int .i64 gcn, .slice Bgcf gcf.len Dgcf, .slice Bgks gks.len Dgks, .int .i64 qk, .int .i64 qn, .slice Bqf qf.len Dqf, .slice Bks ks.len Dks] 90 (0, 0)) := (hb.block _ (by simp <;> omega)).trans (heap_new _ _ _ (by simp))
  clear hb
  have H0 := Lib.hid HB0; have H1 := Lib.hid HB1
  clear HB0 HB1
  obtain ⟨c0, c1, c2, c3, c4, c5, c6, c7, c8, c9, c10, c11, c12, c13, _, _, _, _, _, _, _, _, _, _, _, _, _, _⟩ := fc14 H0.out
  obtain ⟨d0, d1, d2, d3, d4, d5, d6, d7, d8, d9, d10, d11, d12, d13, _, _, _, _, _, _, _, _, _, _, _, _, _, _⟩ := fc14 H1.out
  go_wp2_with fail
  clear c0 d0 c1 d1 c2 d2 c3 d3 c4 d4 c5 d5 c6 d6 c7 d7 c8 d8 c9 d9 c10 d10 c11 d11 c12 d12 c13 d13
  have HB0 := H0.out; have HB1 := H1.out
  clear H0 H1
  refine (K1.out _ S0.out).mono ?_
  rintro e w1 ⟨rfl, hb⟩
  have S1 := Lib.hid (Sees.below S0.out hb)
  have HB0 := (hb.block _ (Array.getElem?_eq_some_iff.1 HB0).1).trans HB0
  have HB1 := (hb.block _ (Array.getElem?_eq_some_iff.1 HB1).1).trans HB1
  clear hb
  clear HB0 HB1
  go_wp2_with fail
  go_ret
  exact ⟨rfl, S1.out⟩

set_option maxHeartbeats 4000000 in
set_option maxRecDepth 100000 in
theorem eqDerivationS_any : ∀ (N : Nat) (f : Dv), f.nodes < N → f.len ≤ 9223372036854775807 → f.Fits → ∀ (A A' : Option Addr) (C C' : Nat) (w : World), f.Lies w A → f.Lies w A' →
      Calls Try.prog 107 #[.slice A f.len C, .slice A' f.len C'] w fun e w' => e = .returned (.bool true) ∧ Below w.heap.size w w' := by
  intro N
  induction N with
  | zero => intro f hN; exact absurd hN (Nat.not_lt_zero _)
  | succ N ih =>
    intro f hN hm hf A A' C C' w hl hl'
    have IH := Lib.hid ih; clear ih
    have nl : ((f.len : Int) != (f.len : Int)) = false := by simp
    go_enter Try.func107, Try.ntmps107
    go_wp2_with fail
    go_loopw [5] (fun i wr => ∃ j : Nat, j ≤ f.len ∧ i = .int .i64 j ∧ Hid (Below w.heap.size w wr)) (fun i _ => f.len - (intOf i).toNat)
    case atStart => exact ⟨0, Nat.zero_le _, rfl, Below.refl _ _⟩
    case round =>
      obtain ⟨j, hj, rfl, hb⟩ := hrel
      clear nl
      by_cases hjl : j < f.len
      · obtain ⟨b, o, rfl, hat⟩ := hl (by rintro rfl; simp [Dv.len] at hjl)
        obtain ⟨b', o', rfl, hat'⟩ := hl' (by rintro rfl; simp [Dv.len] at hjl)
        have hatr := hat.later (w' := wr) (fun b o hlt => hb.out.cell (p := ⟨b, o, none⟩) hlt)
        have hatr' := hat'.later (w' := wr) (fun b o hlt => hb.out.cell (p := ⟨b, o, none⟩) hlt)
        obtain ⟨ru, pk, pn, pf, gk, gn, gck, gcn, gcf, gks, qk, qn, qf, ks, r, Apf, Cpf, Agcf, Cgcf, Agks, Cgks, Aqf, Cqf, Aks, Cks, e1, e2, c0, c1, c2, c3, hl_pf, c4, c5, c6, c7, c8, hl_gcf, c9, hl_gks, c10, c11, c12, hl_qf, c13, hl_ks⟩ := Dv.Lies.row hatr hjl
        obtain ⟨ru_, pk_, pn_, pf_, gk_, gn_, gck_, gcn_, gcf_, gks_, qk_, qn_, qf_, ks_, r_, Bpf, Dpf, Bgcf, Dgcf, Bgks, Dgks, Bqf, Dqf, Bks, Dks, e3, e4, d0, d1, d2, d3, hr_pf, d4, d5, d6, d7, d8, hr_gcf, d9, hr_gks, d10, d11, d12, hr_qf, d13, hr_ks⟩ := Dv.Lies.row hatr' hjl
        have he := e1.out.symm.trans e3.out
        simp only [Dv.cons.injEq] at he
        obtain ⟨rfl, rfl, rfl, rfl, rfl, rfl, rfl, rfl, rfl, rfl, rfl, rfl, rfl, rfl, rfl⟩ := he
        have hfd := Dv.fits_drop hf j
        have hnd := f.nodes_drop j
        rw [e1.out] at hfd hnd
        have hkn : ks.nodes < N := by simp only [Dv.nodes] at hnd; omega
        have hj0 : (0 : Int) ≤ (j : Int) := Int.natCast_nonneg _
        have hj1 : (j : Int) < (f.len : Int) := by omega
        have KC : Hid (∀ W : World, Sees wr W → Calls Try.prog 46 #[.agg #[.int .i64 ru, .int .i64 pk, .int .i64 pn, .slice Apf pf.len Cpf, .int .i64 gk, .int .i64 gn, .int .i64 gck, .int .i64 gcn, .slice Agcf gcf.len Cgcf, .slice Agks gks.len Cgks, .int .i64 qk, .int .i64 qn, .slice Aqf qf.len Cqf, .slice Aks ks.len Cks], .agg #[.int .i64 ru, .int .i64 pk, .int .i64 pn, .slice Bpf pf.len Dpf, .int .i64 gk, .int .i64 gn, .int .i64 gck, .int .i64 gcn, .slice Bgcf gcf.len Dgcf, .slice Bgks gks.len Dgks, .int .i64 qk, .int .i64 qn, .slice Bqf qf.len Dqf, .slice Bks ks.len Dks]] W fun e w' => e = .returned (.bool true) ∧ Below W.heap.size W w') :=
          fun W h => eqDerivation_of ru pk pn pf gk gn gck gcn gcf gks qk qn qf ks (hfd.1) (hfd.2.1) (hfd.2.2.1) (hfd.2.2.2.1) (fun A A' C C' w => IH.out ks hkn (hfd.2.2.2.2.1).1 (hfd.2.2.2.2.1).2 A A' C C' w) Apf Agcf Agks Aqf Aks Bpf Bgcf Bgks Bqf Bks Cpf Cgcf Cgks Cqf Cks Dpf Dgcf Dgks Dqf Dks W (hl_pf.sees h) (hl_gcf.sees h) (hl_gks.sees h) (hl_qf.sees h) (hl_ks.sees h) (hr_pf.sees h) (hr_gcf.sees h) (hr_gks.sees h) (hr_qf.sees h) (hr_ks.sees h)
        have JL := Lib.hid hjl
        clear hfd hnd e1 e2 e3 e4 hat hat' hatr hatr' hl hl' hl_pf hr_pf hl_gcf hr_gcf hl_gks hr_gks hl_qf hr_qf hl_ks hr_ks IH hkn
        go_wp2_with fail
        go_still_tail 8, (by kernel_rfl)
        change wpList _ _ _ _ _ wr.drew
        have SD := Lib.hid (Sees.drew (Sees.refl wr))
        generalize wr.drew = w2 at SD ⊢
        clear c0 d0 c1 d1 c2 d2 c3 d3 c4 d4 c5 d5 c6 d6 c7 d7 c8 d8 c9 d9 c10 d10 c11 d11 c12 d12 c13 d13
        go_wp2_with fail
        refine (KC.out _ SD.out).mono ?_
        rintro e w1 ⟨rfl, hb1⟩
        have hb2 := Lib.hid (Sees.below hb.out (Sees.below SD.out hb1))
        clear hb hb1 KC SD
        go_wp2_with fail
        go_roundw
        case rel => exact ⟨j + 1, by omega, by go_num, hb2⟩
        case measure => simp [intOf]; omega
      · obtain rfl : j = f.len := by omega
        go_wp2_with fail
        go_ret
        exact ⟨rfl, hb.out⟩
theorem eqDerivationS_u (f : Dv) (hf : f.len ≤ 9223372036854775807 ∧ f.Fits) (A A' : Option Addr) (C C' : Nat) (w : World) (hl : f.Lies w A) (hl' : f.Lies w A') :
    Calls Try.prog 107 #[.slice A f.len C, .slice A' f.len C'] w fun e w' => e = .returned (.bool true) ∧ Below w.heap.size w w' := eqDerivationS_any (f.nodes + 1) f (Nat.lt_succ_self _) hf.1 hf.2 A A' C C' w hl hl'
theorem eqDerivation_u (ru : Int) (pk : Int) (pn : Int) (pf : Fo) (gk : Int) (gn : Int) (gck : Int) (gcn : Int) (gcf : Fo) (gks : Pg) (qk : Int) (qn : Int) (qf : Fo) (ks : Dv) (hf_pf : pf.len ≤ 9223372036854775807 ∧ pf.Fits) (hf_gcf : gcf.len ≤ 9223372036854775807 ∧ gcf.Fits) (hf_gks : gks.len ≤ 9223372036854775807 ∧ gks.Fits) (hf_qf : qf.len ≤ 9223372036854775807 ∧ qf.Fits) (hf_ks : ks.len ≤ 9223372036854775807 ∧ ks.Fits) (Apf Agcf Agks Aqf Aks Bpf Bgcf Bgks Bqf Bks : Option Addr) (Cpf Cgcf Cgks Cqf Cks Dpf Dgcf Dgks Dqf Dks : Nat) (w : World) (hl_pf : pf.Lies w Apf) (hl_gcf : gcf.Lies w Agcf) (hl_gks : gks.Lies w Agks) (hl_qf : qf.Lies w Aqf) (hl_ks : ks.Lies w Aks) (hr_pf : pf.Lies w Bpf) (hr_gcf : gcf.Lies w Bgcf) (hr_gks : gks.Lies w Bgks) (hr_qf : qf.Lies w Bqf) (hr_ks : ks.Lies w Bks) :
    Calls Try.prog 46 #[.agg #[.int .i64 ru, .int .i64 pk, .int .i64 pn, .slice Apf pf.len Cpf, .int .i64 gk, .int .i64 gn, .int .i64 gck, .int .i64 gcn, .slice Agcf gcf.len Cgcf, .slice Agks gks.len Cgks, .int .i64 qk, .int .i64 qn, .slice Aqf qf.len Cqf, .slice Aks ks.len Cks], .agg #[.int .i64 ru, .int .i64 pk, .int .i64 pn, .slice Bpf pf.len Dpf, .int .i64 gk, .int .i64 gn, .int .i64 gck, .int .i64 gcn, .slice Bgcf gcf.len Dgcf, .slice Bgks gks.len Dgks, .int .i64 qk, .int .i64 qn, .slice Bqf qf.len Dqf, .slice Bks ks.len Dks]] w fun e w' => e = .returned (.bool true) ∧ Below w.heap.size w w' :=
  eqDerivation_of ru pk pn pf gk gn gck gcn gcf gks qk qn qf ks hf_pf hf_gcf hf_gks hf_qf (fun A A' C C' w => eqDerivationS_u ks hf_ks A A' C C' w) Apf Agcf Agks Aqf Aks Bpf Bgcf Bgks Bqf Bks Cpf Cgcf Cgks Cqf Cks Dpf Dgcf Dgks Dqf Dks w hl_pf hl_gcf hl_gks hl_qf hl_ks hr_pf hr_gcf hr_gks hr_qf hr_ks
end Go.Proofs.YtlpgkhdecccmlaaR
