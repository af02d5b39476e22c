/- Contract of laws.szTriple. -/
import Derived.Test.YtcgbepmhfimbjaaGreatDoorUe
import Derived.Test.YtcgbepmhfimbjaaGreatDoorUp
import Derived.Test.YtcgbepmhfimbjaaGreatDoorGt
namespace Go.Proofs.YtcgbepmhfimbjaaGreatDoor
open Go.RowKit
set_option linter.unusedVariables false

set_option maxHeartbeats 4000000 in
set_option maxRecDepth 100000 in
theorem szTriple_u (pk : Int) (pn : Int) (pf : Fo) (gk : Int) (gn : Int) (gck : Int) (gcn : Int) (gcf : Fo) (gks : Pg) (qk : Int) (qn : Int) (qf : Fo) (hf_pf : pf.len ≤ 9223372036854775807 ∧ pf.Fits) (hf_gcf : gcf.len ≤ 9223372036854775807 ∧ gcf.Fits) (hf_gks : gks.len ≤ 9223372036854775807 ∧ gks.Fits) (hf_qf : qf.len ≤ 9223372036854775807 ∧ qf.Fits) (l : Int) (Apf Agcf Agks Aqf : Option Addr) (Cpf Cgcf Cgks Cqf : Nat) (w : World) (hl_pf : pf.Lies w Apf) (hl_gcf : gcf.Lies w Agcf) (hl_gks : gks.Lies w Agks) (hl_qf : qf.Lies w Aqf) (h1 : -1 ≤ l) (h2 : l ≤ 1048576) :
    Calls Tryz.prog 5 #[.agg #[.int .i64 pk, .int .i64 pn, .slice Apf pf.len Cpf, .int .i64 gk, .int .i64 gn, .int .i64 gck, .int .i64 gcn, .slice Agcf gcf.len Cgcf, .slice Agks gks.len Cgks, .int .i64 qk, .int .i64 qn, .slice Aqf qf.len Cqf], .int .i64 l] w fun e w' => e = .returned (.int .i64 (szR (pf.nodes + gcf.nodes + gks.nodes + qf.nodes) l)) ∧ Below w.heap.size w w' := by
  rw [show pf.nodes + gcf.nodes + gks.nodes + qf.nodes = pf.nodes + (gcf.nodes + gks.nodes + (qf.nodes)) from by omega]
  obtain ⟨z0, hz0⟩ : ∃ z : Int, z = szR (pf.nodes) l := ⟨_, rfl⟩
  have b0 := szR_bd (n := pf.nodes) (l := l) h2
  rw [← hz0] at b0
  have K0 : Hid (∀ W : World, Sees w W → Calls Tryz.prog 16 #[.agg #[.int .i64 pk, .int .i64 pn, .slice Apf pf.len Cpf], .int .i64 l] W fun e w' => e = .returned (.int .i64 z0) ∧ Below W.heap.size W w') := fun W h => by rw [hz0]; exact szExpr_u pk pn pf hf_pf l Apf Cpf W (hl_pf.sees h) h1 h2
  obtain ⟨z1, hz1⟩ : ∃ z : Int, z = szR (gcf.nodes + gks.nodes) z0 := ⟨_, rfl⟩
  have b1 := szR_bd (n := gcf.nodes + gks.nodes) (l := z0) b0.2
  rw [← hz1] at b1
  have K1 : Hid (∀ W : World, Sees w W → Calls Tryz.prog 17 #[.agg #[.int .i64 gk, .int .i64 gn, .int .i64 gck, .int .i64 gcn, .slice Agcf gcf.len Cgcf, .slice Agks gks.len Cgks], .int .i64 z0] W fun e w' => e = .returned (.int .i64 z1) ∧ Below W.heap.size W w') := fun W h => by rw [hz1]; exact szProg_u gk gn gck gcn gcf gks hf_gcf hf_gks z0 Agcf Agks Cgcf Cgks W (hl_gcf.sees h) (hl_gks.sees h) b0.1 b0.2
  obtain ⟨z2, hz2⟩ : ∃ z : Int, z = szR (qf.nodes) z1 := ⟨_, rfl⟩
  have b2 := szR_bd (n := qf.nodes) (l := z1) b1.2
  rw [← hz2] at b2
  have K2 : Hid (∀ W : World, Sees w W → Calls Tryz.prog 16 #[.agg #[.int .i64 qk, .int .i64 qn, .slice Aqf qf.len Cqf], .int .i64 z1] W fun e w' => e = .returned (.int .i64 z2) ∧ Below W.heap.size W w') := fun W h => by rw [hz2]; exact szExpr_u qk qn qf hf_qf z1 Aqf Cqf W (hl_qf.sees h) b1.1 b1.2
  have E0 : Hid (z0 < 0 → -1 = szR (pf.nodes + (gcf.nodes + gks.nodes + (qf.nodes))) l) := by intro g0; rw [szR_add, ← hz0, if_pos g0]
  have E1 : Hid (¬ z0 < 0 → z1 < 0 → -1 = szR (pf.nodes + (gcf.nodes + gks.nodes + (qf.nodes))) l) := by intro g0 g1; rw [szR_add, ← hz0, if_neg g0, szR_add, ← hz1, if_pos g1]
  have E2 : Hid (¬ z0 < 0 → ¬ z1 < 0 → z2 < 0 → -1 = szR (pf.nodes + (gcf.nodes + gks.nodes + (qf.nodes))) l) := by intro g0 g1 g2; rw [szR_add, ← hz0, if_neg g0, szR_add, ← hz1, if_neg g1, ← hz2]; rw [hz2] at g2 ⊢; exact (szR_lt g2).symm
  have EN : Hid (¬ z0 < 0 → ¬ z1 < 0 → z2 = szR (pf.nodes + (gcf.nodes + gks.nodes + (qf.nodes))) l) := by intro g0 g1; rw [szR_add, ← hz0, if_neg g0, szR_add, ← hz1, if_neg g1, ← hz2]
  clear hz0 b0 hz1 b1 hz2 b2 hl_pf hl_gcf hl_gks hl_qf
  go_enter Tryz.func5, Tryz.ntmps5
  go_wp2_with fail
  refine (K0.out _ (by unfold Sees; go_grown)).mono ?_
  rintro e w0 ⟨rfl, hb⟩
  have S0 : Hid (St w [(w.heap.size, 3, .int .i64 gk), (w.heap.size, 4, .int .i64 gn), (w.heap.size, 5, .int .i64 gck), (w.heap.size, 6, .int .i64 gcn), (w.heap.size, 7, .slice Agcf gcf.len Cgcf), (w.heap.size, 8, .slice Agks gks.len Cgks), (w.heap.size, 9, .int .i64 qk), (w.heap.size, 10, .int .i64 qn), (w.heap.size, 11, .slice Aqf qf.len Cqf)] w0) := St.below ⟨(by unfold Sees; go_grown), (by simp [go_sem]), (by simp [go_sem]), (by simp [go_sem]), (by simp [go_sem]), (by simp [go_sem]), (by simp [go_sem]), (by simp [go_sem]), (by simp [go_sem]), (by simp [go_sem]), trivial⟩ hb
  clear hb
  by_cases g0 : z0 < 0
  · have H := Lib.hid (E0.out g0)
    go_wp2_with fail
    go_ret
    exact ⟨ret_int H.out, S0.out.1⟩
  obtain ⟨_, x0, x1, x2, x3, x4, x5, x6, x7, x8, _⟩ := S0.out
  go_wp2_with fail
  clear x0 x1 x2 x3 x4 x5 x6 x7 x8
  refine (K1.out _ S0.out.1).mono ?_
  rintro e w1 ⟨rfl, hb⟩
  have S1 := Lib.hid (S0.out.below hb)
  clear S0
  clear hb
  by_cases g1 : z1 < 0
  · have H := Lib.hid (E1.out g0 g1)
    go_wp2_with fail
    go_ret
    exact ⟨ret_int H.out, S1.out.1⟩
  obtain ⟨_, x0, x1, x2, x3, x4, x5, x6, x7, x8, _⟩ := S1.out
  go_wp2_with fail
  clear x0 x1 x2 x3 x4 x5 x6 x7 x8
  refine (K2.out _ S1.out.1).mono ?_
  rintro e w2 ⟨rfl, hb⟩
  have S2 := Lib.hid (S1.out.below hb)
  clear S1
  clear hb
  by_cases g2 : z2 < 0
  · have H := Lib.hid (E2.out g0 g1 g2)
    go_wp2_with fail
    go_ret
    exact ⟨ret_int H.out, S2.out.1⟩
  have H := Lib.hid (EN.out g0 g1)
  go_wp2_with fail
  go_ret
  exact ⟨ret_int H.out, S2.out.1⟩
end Go.Proofs.YtcgbepmhfimbjaaGreatDoor
