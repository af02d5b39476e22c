/- Contracts of laws.szTriple, szDerivation, szDerivationS. -/
import Derived.Test.YtlpgkhdecccmlaaRUe
import Derived.Test.YtlpgkhdecccmlaaRUp
import Derived.Test.YtlpgkhdecccmlaaRDv
namespace Go.Proofs.YtlpgkhdecccmlaaR
open Go.RowKit
set_option linter.unusedVariables false

set_option maxHeartbeats 4000000 in
set_option maxRecDepth 100000 in
theorem szTriple_u (pk : Int) (pn : Int) (pf : Fo) (gk : Int) (gn : Int) (gck : Int) (gcn : Int) (gcf : Fo) (gks : Pg) (qk : Int) (qn : Int) (qf : Fo) (hf_pf : pf.len ≤ 9223372036854775807 ∧ pf.Fits) (hf_gcf : gcf.len ≤ 9223372036854775807 ∧ gcf.Fits) (hf_gks : gks.len ≤ 9223372036854775807 ∧ gks.Fits) (hf_qf : qf.len ≤ 9223372036854775807 ∧ qf.Fits) (l : Int) (Apf Agcf Agks Aqf : Option Addr) (Cpf Cgcf Cgks Cqf : Nat) (w : World) (hl_pf : pf.Lies w Apf) (hl_gcf : gcf.Lies w Agcf) (hl_gks : gks.Lies w Agks) (hl_qf : qf.Lies w Aqf) (h1 : -1 ≤ l) (h2 : l ≤ 1048576) :
    Calls Try.prog 101 #[.agg #[.int .i64 pk, .int .i64 pn, .slice Apf pf.len Cpf, .int .i64 gk, .int .i64 gn, .int .i64 gck, .int .i64 gcn, .slice Agcf gcf.len Cgcf, .slice Agks gks.len Cgks, .int .i64 qk, .int .i64 qn, .slice Aqf qf.len Cqf], .int .i64 l] w fun e w' => e = .returned (.int .i64 (szR (pf.nodes + gcf.nodes + gks.nodes + qf.nodes) l)) ∧ Below w.heap.size w w' := by
  rw [show pf.nodes + gcf.nodes + gks.nodes + qf.nodes = pf.nodes + (gcf.nodes + gks.nodes + (qf.nodes)) from by omega]
  obtain ⟨z0, hz0⟩ : ∃ z : Int, z = szR (pf.nodes) l := ⟨_, rfl⟩
  have b0 := szR_bd (n := pf.nodes) (l := l) h2
  rw [← hz0] at b0
  have K0 : Hid (∀ W : World, Sees w W → Calls Try.prog 12 #[.agg #[.int .i64 pk, .int .i64 pn, .slice Apf pf.len Cpf], .int .i64 l] W fun e w' => e = .returned (.int .i64 z0) ∧ Below W.heap.size W w') := fun W h => by rw [hz0]; exact szExpr_u pk pn pf hf_pf l Apf Cpf W (hl_pf.sees h) h1 h2
  obtain ⟨z1, hz1⟩ : ∃ z : Int, z = szR (gcf.nodes + gks.nodes) z0 := ⟨_, rfl⟩
  have b1 := szR_bd (n := gcf.nodes + gks.nodes) (l := z0) b0.2
  rw [← hz1] at b1
  have K1 : Hid (∀ W : World, Sees w W → Calls Try.prog 161 #[.agg #[.int .i64 gk, .int .i64 gn, .int .i64 gck, .int .i64 gcn, .slice Agcf gcf.len Cgcf, .slice Agks gks.len Cgks], .int .i64 z0] W fun e w' => e = .returned (.int .i64 z1) ∧ Below W.heap.size W w') := fun W h => by rw [hz1]; exact szProg_u gk gn gck gcn gcf gks hf_gcf hf_gks z0 Agcf Agks Cgcf Cgks W (hl_gcf.sees h) (hl_gks.sees h) b0.1 b0.2
  obtain ⟨z2, hz2⟩ : ∃ z : Int, z = szR (qf.nodes) z1 := ⟨_, rfl⟩
  have b2 := szR_bd (n := qf.nodes) (l := z1) b1.2
  rw [← hz2] at b2
  have K2 : Hid (∀ W : World, Sees w W → Calls Try.prog 12 #[.agg #[.int .i64 qk, .int .i64 qn, .slice Aqf qf.len Cqf], .int .i64 z1] W fun e w' => e = .returned (.int .i64 z2) ∧ Below W.heap.size W w') := fun W h => by rw [hz2]; exact szExpr_u qk qn qf hf_qf z1 Aqf Cqf W (hl_qf.sees h) b1.1 b1.2
  have E0 : Hid (z0 < 0 → -1 = szR (pf.nodes + (gcf.nodes + gks.nodes + (qf.nodes))) l) := by intro g0; rw [szR_add, ← hz0, if_pos g0]
  have E1 : Hid (¬ z0 < 0 → z1 < 0 → -1 = szR (pf.nodes + (gcf.nodes + gks.nodes + (qf.nodes))) l) := by intro g0 g1; rw [szR_add, ← hz0, if_neg g0, szR_add, ← hz1, if_pos g1]
  have E2 : Hid (¬ z0 < 0 → ¬ z1 < 0 → z2 < 0 → -1 = szR (pf.nodes + (gcf.nodes + gks.nodes + (qf.nodes))) l) := by intro g0 g1 g2; rw [szR_add, ← hz0, if_neg g0, szR_add, ← hz1, if_neg g1, ← hz2]; rw [hz2] at g2 ⊢; exact (szR_lt g2).symm
  have EN : Hid (¬ z0 < 0 → ¬ z1 < 0 → z2 = szR (pf.nodes + (gcf.nodes + gks.nodes + (qf.nodes))) l) := by intro g0 g1; rw [szR_add, ← hz0, if_neg g0, szR_add, ← hz1, if_neg g1, ← hz2]
  clear hz0 b0 hz1 b1 hz2 b2 hl_pf hl_gcf hl_gks hl_qf
  go_enter Try.func101, Try.ntmps101
  go_wp2_with fail
  refine (K0.out _ (by unfold Sees; go_grown)).mono ?_
  rintro e w0 ⟨rfl, hb⟩
  have S0 : Hid (St w [(w.heap.size, 3, .int .i64 gk), (w.heap.size, 4, .int .i64 gn), (w.heap.size, 5, .int .i64 gck), (w.heap.size, 6, .int .i64 gcn), (w.heap.size, 7, .slice Agcf gcf.len Cgcf), (w.heap.size, 8, .slice Agks gks.len Cgks), (w.heap.size, 9, .int .i64 qk), (w.heap.size, 10, .int .i64 qn), (w.heap.size, 11, .slice Aqf qf.len Cqf)] w0) := St.below ⟨(by unfold Sees; go_grown), (by simp [go_sem]), (by simp [go_sem]), (by simp [go_sem]), (by simp [go_sem]), (by simp [go_sem]), (by simp [go_sem]), (by simp [go_sem]), (by simp [go_sem]), (by simp [go_sem]), trivial⟩ hb
  clear hb
  by_cases g0 : z0 < 0
  · have H := Lib.hid (E0.out g0)
    go_wp2_with fail
    go_ret
    exact ⟨ret_int H.out, S0.out.1⟩
  obtain ⟨_, x0, x1, x2, x3, x4, x5, x6, x7, x8, _⟩ := S0.out
  go_wp2_with fail
  clear x0 x1 x2 x3 x4 x5 x6 x7 x8
  refine (K1.out _ S0.out.1).mono ?_
  rintro e w1 ⟨rfl, hb⟩
  have S1 := Lib.hid (S0.out.below hb)
  clear S0
  clear hb
  by_cases g1 : z1 < 0
  · have H := Lib.hid (E1.out g0 g1)
    go_wp2_with fail
    go_ret
    exact ⟨ret_int H.out, S1.out.1⟩
  obtain ⟨_, x0, x1, x2, x3, x4, x5, x6, x7, x8, _⟩ := S1.out
  go_wp2_with fail
  clear x0 x1 x2 x3 x4 x5 x6 x7 x8
  refine (K2.out _ S1.out.1).mono ?_
  rintro e w2 ⟨rfl, hb⟩
  have S2 := Lib.hid (S1.out.below hb)
  clear S1
  clear hb
  by_cases g2 : z2 < 0
  · have H := Lib.hid (E2.out g0 g1 g2)
    go_wp2_with fail
    go_ret
    exact ⟨ret_int H.out, S2.out.1⟩
  have H := Lib.hid (EN.out g0 g1)
  go_wp2_with fail
  go_ret
  exact ⟨ret_int H.out, S2.out.1⟩

set_option maxHeartbeats 4000000 in
set_option maxRecDepth 100000 in
theorem szDerivation_of (ru : Int) (pk : Int) (pn : Int) (pf : Fo) (gk : Int) (gn : Int) (gck : Int) (gcn : Int) (gcf : Fo) (gks : Pg) (qk : Int) (qn : Int) (qf : Fo) (ks : Dv) (hf_pf : pf.len ≤ 9223372036854775807 ∧ pf.Fits) (hf_gcf : gcf.len ≤ 9223372036854775807 ∧ gcf.Fits) (hf_gks : gks.len ≤ 9223372036854775807 ∧ gks.Fits) (hf_qf : qf.len ≤ 9223372036854775807 ∧ qf.Fits) (ihS : ∀ (l : Int) (A : Option Addr) (C : Nat) (w : World), ks.Lies w A → -1 ≤ l → l ≤ 1048576 → Calls Try.prog 102 #[.slice A ks.len C, .int .i64 l] w fun e w' => e = .returned (.int .i64 (szR ks.nodes l)) ∧ Below w.heap.size w w') (l : Int) (Apf Agcf Agks Aqf Aks : Option Addr) (Cpf Cgcf Cgks Cqf Cks : Nat) (w : World) (hl_pf : pf.Lies w Apf) (hl_gcf : gcf.Lies w Agcf) (hl_gks : gks.Lies w Agks) (hl_qf : qf.Lies w Aqf) (hl_ks : ks.Lies w Aks) (h1 : -1 ≤ l) (h2 : l ≤ 1048576) :
    Calls Try.prog 42 #[.agg #[.int .i64 ru, .int .i64 pk, .int .i64 pn, .slice Apf pf.len Cpf, .int .i64 gk, .int .i64 gn, .int .i64 gck, .int .i64 gcn, .slice Agcf gcf.len Cgcf, .slice Agks gks.len Cgks, .int .i64 qk, .int .i64 qn, .slice Aqf qf.len Cqf, .slice Aks ks.len Cks], .int .i64 l] w fun e w' => e = .returned (.int .i64 (szR (pf.nodes + gcf.nodes + gks.nodes + qf.nodes + ks.nodes) l)) ∧ Below w.heap.size w w' := by
  rw [show pf.nodes + gcf.nodes + gks.nodes + qf.nodes + ks.nodes = pf.nodes + gcf.nodes + gks.nodes + qf.nodes + (ks.nodes) from by omega]
  obtain ⟨z0, hz0⟩ : ∃ z : Int, z = szR (pf.nodes + gcf.nodes + gks.nodes + qf.nodes) l := ⟨_, rfl⟩
  have b0 := szR_bd (n := pf.nodes + gcf.nodes + gks.nodes + qf.nodes) (l := l) h2
  rw [← hz0] at b0
  have K0 : Hid (∀ W : World, Sees w W → Calls Try.prog 101 #[.agg #[.int .i64 pk, .int .i64 pn, .slice Apf pf.len Cpf, .int .i64 gk, .int .i64 gn, .int .i64 gck, .int .i64 gcn, .slice Agcf gcf.len Cgcf, .slice Agks gks.len Cgks, .int .i64 qk, .int .i64 qn, .slice Aqf qf.len Cqf], .int .i64 l] W fun e w' => e = .returned (.int .i64 z0) ∧ Below W.heap.size W w') := fun W h => by rw [hz0]; exact szTriple_u pk pn pf gk gn gck gcn gcf gks qk qn qf hf_pf hf_gcf hf_gks hf_qf l Apf Agcf Agks Aqf Cpf Cgcf Cgks Cqf W (hl_pf.sees h) (hl_gcf.sees h) (hl_gks.sees h) (hl_qf.sees h) h1 h2
  obtain ⟨z1, hz1⟩ : ∃ z : Int, z = szR (ks.nodes) z0 := ⟨_, rfl⟩
  have b1 := szR_bd (n := ks.nodes) (l := z0) b0.2
  rw [← hz1] at b1
  have K1 : Hid (∀ W : World, Sees w W → Calls Try.prog 102 #[.slice Aks ks.len Cks, .int .i64 z0] W fun e w' => e = .returned (.int .i64 z1) ∧ Below W.heap.size W w') := fun W h => by rw [hz1]; exact ihS z0 Aks Cks W (hl_ks.sees h) b0.1 b0.2
  have E0 : Hid (z0 < 0 → -1 = szR (pf.nodes + gcf.nodes + gks.nodes + qf.nodes + (ks.nodes)) l) := by intro g0; rw [szR_add, ← hz0, if_pos g0]
  have E1 : Hid (¬ z0 < 0 → z1 < 0 → -1 = szR (pf.nodes + gcf.nodes + gks.nodes + qf.nodes + (ks.nodes)) l) := by intro g0 g1; rw [szR_add, ← hz0, if_neg g0, ← hz1]; rw [hz1] at g1 ⊢; exact (szR_lt g1).symm
  have EN : Hid (¬ z0 < 0 → z1 = szR (pf.nodes + gcf.nodes + gks.nodes + qf.nodes + (ks.nodes)) l) := by intro g0; rw [szR_add, ← hz0, if_neg g0, ← hz1]
  clear hz0 b0 hz1 b1 hl_pf hl_gcf hl_gks hl_qf hl_ks ihS
  go_enter Try.func42, Try.ntmps42
  go_wp2_with fail
  refine (K0.out _ (by unfold Sees; go_grown)).mono ?_
  rintro e w0 ⟨rfl, hb⟩
  have S0 : Hid (St w [(w.heap.size, 13, .slice Aks ks.len Cks)] w0) := St.below ⟨(by unfold Sees; go_grown), (by simp [go_sem]), trivial⟩ hb
  clear hb
  by_cases g0 : z0 < 0
  · have H := Lib.hid (E0.out g0)
    go_wp2_with fail
    go_ret
    exact ⟨ret_int H.out, S0.out.1⟩
  obtain ⟨_, x0, _⟩ := S0.out
  go_wp2_with fail
  clear x0
  refine (K1.out _ S0.out.1).mono ?_
  rintro e w1 ⟨rfl, hb⟩
  have S1 := Lib.hid (S0.out.below hb)
  clear S0
  clear hb
  by_cases g1 : z1 < 0
  · have H := Lib.hid (E1.out g0 g1)
    go_wp2_with fail
    go_ret
    exact ⟨ret_int H.out, S1.out.1⟩
  have H := Lib.hid (EN.out g0)
  go_wp2_with fail
  go_ret
  exact ⟨ret_int H.out, S1.out.1⟩

set_option maxHeartbeats 4000000 in
set_option maxRecDepth 100000 in
theorem szDerivationS_any : ∀ (N : Nat) (f : Dv), f.nodes < N → f.len ≤ 9223372036854775807 → f.Fits → ∀ (l : Int) (A : Option Addr) (C : Nat) (w : World), f.Lies w A → -1 ≤ l → l ≤ 1048576 →
      Calls Try.prog 102 #[.slice A f.len C, .int .i64 l] w fun e w' => e = .returned (.int .i64 (szR f.nodes l)) ∧ Below w.heap.size w w' := by
  intro N
  induction N with
  | zero => intro f hN; exact absurd hN (Nat.not_lt_zero _)
  | succ N ih =>
    intro f hN hm hf l A C w hl h1 h2
    have IH := Lib.hid ih; clear ih
    have hln := f.len_le_nodes
    by_cases hneg : l < f.len
    · rw [szR_neg (by omega)]
      go_enter Try.func102, Try.ntmps102
      go_wp2_with fail
      go_ret
      exact ⟨rfl, Below.refl _ _⟩
    · go_enter Try.func102, Try.ntmps102
      go_wp2_with fail
      go_loopw [1, 5] (fun x i wr => ∃ (j : Nat) (q : Int), j ≤ f.len ∧ 0 ≤ q ∧ q ≤ 1048576 ∧ x = .int .i64 q ∧ i = .int .i64 j ∧ Hid (q - (f.drop j).nodes + (f.drop j).len = l - f.nodes) ∧ Below w.heap.size w wr) (fun _ i _ => f.len - (intOf i).toNat)
      case atStart => exact ⟨0, _, Nat.zero_le _, by omega, by omega, rfl, rfl, by show _ = _; simp only [Dv.drop]; omega, Below.refl _ _⟩
      case round =>
        obtain ⟨j, q, hj, hq0, hq1, rfl, rfl, hq, hb⟩ := hrel
        by_cases hjl : j < f.len
        · obtain ⟨b, o, rfl, hat⟩ := hl (by rintro rfl; simp [Dv.len] at hjl)
          have hat' := hat.later (w' := wr) (fun b o hlt => hb.cell (p := ⟨b, o, none⟩) hlt)
          obtain ⟨ru, pk, pn, pf, gk, gn, gck, gcn, gcf, gks, qk, qn, qf, ks, r, Apf, Cpf, Agcf, Cgcf, Agks, Cgks, Aqf, Cqf, Aks, Cks, e1, e2, c0, c1, c2, c3, hl_pf, c4, c5, c6, c7, c8, hl_gcf, c9, hl_gks, c10, c11, c12, hl_qf, c13, hl_ks⟩ := Dv.Lies.row hat' hjl
          have hfd := Dv.fits_drop hf j
          have hnd := f.nodes_drop j
          have hlr := (f.drop (j + 1)).len_le_nodes
          rw [e1.out] at hfd hnd
          have hkn : ks.nodes < N := by simp only [Dv.nodes] at hnd; omega
          have Q1 : Hid (szR (pf.nodes + gcf.nodes + gks.nodes + qf.nodes + ks.nodes) q = -1 ∧ l < f.nodes ∨ 0 ≤ szR (pf.nodes + gcf.nodes + gks.nodes + qf.nodes + ks.nodes) q ∧ szR (pf.nodes + gcf.nodes + gks.nodes + qf.nodes + ks.nodes) q ≤ 1048576 ∧ szR (pf.nodes + gcf.nodes + gks.nodes + qf.nodes + ks.nodes) q - (f.drop (j + 1)).nodes + (f.drop (j + 1)).len = l - f.nodes) := by
            have := hq.out
            rw [e1.out] at this
            simp only [Dv.nodes, Dv.len] at this
            rw [← e2.out] at this
            by_cases hx : q < (pf.nodes + gcf.nodes + gks.nodes + qf.nodes + ks.nodes : Nat)
            · exact Or.inl ⟨szR_neg hx, by omega⟩
            · rw [szR_pos (by omega)]
              exact Or.inr ⟨by omega, by omega, by omega⟩
          obtain ⟨z, hz⟩ : ∃ z, z = szR (pf.nodes + gcf.nodes + gks.nodes + qf.nodes + ks.nodes) q := ⟨_, rfl⟩
          have KC : Hid (∀ W : World, pf.Lies W Apf → gcf.Lies W Agcf → gks.Lies W Agks → qf.Lies W Aqf → ks.Lies W Aks → Calls Try.prog 42 #[.agg #[.int .i64 ru, .int .i64 pk, .int .i64 pn, .slice Apf pf.len Cpf, .int .i64 gk, .int .i64 gn, .int .i64 gck, .int .i64 gcn, .slice Agcf gcf.len Cgcf, .slice Agks gks.len Cgks, .int .i64 qk, .int .i64 qn, .slice Aqf qf.len Cqf, .slice Aks ks.len Cks], .int .i64 q] W fun e w' => e = .returned (.int .i64 z) ∧ Below W.heap.size W w') := fun W ypf ygcf ygks yqf yks => by
            rw [hz]
            exact szDerivation_of ru pk pn pf gk gn gck gcn gcf gks qk qn qf ks (hfd.1) (hfd.2.1) (hfd.2.2.1) (hfd.2.2.2.1) (fun l A C w => IH.out ks hkn (hfd.2.2.2.2.1).1 (hfd.2.2.2.2.1).2 l A C w) q Apf Agcf Agks Aqf Aks Cpf Cgcf Cgks Cqf Cks W ypf ygcf ygks yqf yks (by omega) hq1
          rw [← hz] at Q1
          clear hq hfd hnd hlr hz
          go_wp2_with fail
          refine (KC.out _ hl_pf hl_gcf hl_gks hl_qf hl_ks).mono ?_; rintro e w1 ⟨rfl, hb1⟩
          have hb2 := hb.trans (hb1.mono hb.size)
          rcases Q1.out with ⟨hx, hy⟩ | ⟨hx0, hx1, hx2⟩
          · subst hx
            clear Q1 KC
            go_wp2_with fail
            go_ret
            exact ⟨ret_int (szR_neg hy).symm, hb2⟩
          · have HX := Lib.hid hx2; clear hx2 Q1 KC
            have hx3 : ¬ z < 0 := by omega
            go_wp2_with fail
            go_roundw
            case rel => exact ⟨j + 1, _, by omega, hx0, hx1, rfl, by go_num, HX.out, hb2⟩
            case measure => simp [intOf]; omega
        · obtain rfl : j = f.len := by omega
          have hq' := hq.out
          rw [Dv.drop_len] at hq'
          simp only [Dv.nodes, Dv.len] at hq'
          have hz : szR f.nodes l = q := by rw [szR_pos (by omega)]; omega
          clear hq' hq
          have HZ := Lib.hid hz; clear hz
          go_wp2_with fail
          go_ret
          exact ⟨ret_int HZ.out.symm, hb⟩
theorem szDerivationS_u (f : Dv) (hf : f.len ≤ 9223372036854775807 ∧ f.Fits) (l : Int) (A : Option Addr) (C : Nat) (w : World) (hl : f.Lies w A) (h1 : -1 ≤ l) (h2 : l ≤ 1048576) :
    Calls Try.prog 102 #[.slice A f.len C, .int .i64 l] w fun e w' => e = .returned (.int .i64 (szR f.nodes l)) ∧ Below w.heap.size w w' := szDerivationS_any (f.nodes + 1) f (Nat.lt_succ_self _) hf.1 hf.2 l A C w hl h1 h2
theorem szDerivation_u (ru : Int) (pk : Int) (pn : Int) (pf : Fo) (gk : Int) (gn : Int) (gck : Int) (gcn : Int) (gcf : Fo) (gks : Pg) (qk : Int) (qn : Int) (qf : Fo) (ks : Dv) (hf_pf : pf.len ≤ 9223372036854775807 ∧ pf.Fits) (hf_gcf : gcf.len ≤ 9223372036854775807 ∧ gcf.Fits) (hf_gks : gks.len ≤ 9223372036854775807 ∧ gks.Fits) (hf_qf : qf.len ≤ 9223372036854775807 ∧ qf.Fits) (hf_ks : ks.len ≤ 9223372036854775807 ∧ ks.Fits) (l : Int) (Apf Agcf Agks Aqf Aks : Option Addr) (Cpf Cgcf Cgks Cqf Cks : Nat) (w : World) (hl_pf : pf.Lies w Apf) (hl_gcf : gcf.Lies w Agcf) (hl_gks : gks.Lies w Agks) (hl_qf : qf.Lies w Aqf) (hl_ks : ks.Lies w Aks) (h1 : -1 ≤ l) (h2 : l ≤ 1048576) :
    Calls Try.prog 42 #[.agg #[.int .i64 ru, .int .i64 pk, .int .i64 pn, .slice Apf pf.len Cpf, .int .i64 gk, .int .i64 gn, .int .i64 gck, .int .i64 gcn, .slice Agcf gcf.len Cgcf, .slice Agks gks.len Cgks, .int .i64 qk, .int .i64 qn, .slice Aqf qf.len Cqf, .slice Aks ks.len Cks], .int .i64 l] w fun e w' => e = .returned (.int .i64 (szR (pf.nodes + gcf.nodes + gks.nodes + qf.nodes + ks.nodes) l)) ∧ Below w.heap.size w w' :=
  szDerivation_of ru pk pn pf gk gn gck gcn gcf gks qk qn qf ks hf_pf hf_gcf hf_gks hf_qf (fun l A C w => szDerivationS_u ks hf_ks l A C w) l Apf Agcf Agks Aqf Aks Cpf Cgcf Cgks Cqf Cks w hl_pf hl_gcf hl_gks hl_qf hl_ks h1 h2
end Go.Proofs.YtlpgkhdecccmlaaR
