/- The law FnExactDerivationSize, walked, out of the contracts of both sides. -/
import Derived.Test.YtlpgkhdecccmlaaRDvS
import Derived.Test.YtlpgkhdecccmlaaRDvT
import Derived.Test.YtlpgkhdecccmlaaRDvE
import Derived.Deep.RegionHeld3
import Derived.Deep.RegionWith
namespace Go.Proofs.YtlpgkhdecccmlaaR
open Go.RowKit
set_option linter.unusedVariables false

set_option maxHeartbeats 4000000 in
set_option maxRecDepth 100000 in
theorem lawDerivationSize (ru0 : Int) (pk0 : Int) (pn0 : Int) (pf0 : Fo) (gk0 : Int) (gn0 : Int) (gck0 : Int) (gcn0 : Int) (gcf0 : Fo) (gks0 : Pg) (qk0 : Int) (qn0 : Int) (qf0 : Fo) (ks0 : Dv) (Apf0 Agcf0 Agks0 Aqf0 Aks0 : Option Addr) (Cpf0 Cgcf0 Cgks0 Cqf0 Cks0 : Nat) {q0 : Int}
    (KW : Hid (pf0.nodes + gcf0.nodes + gks0.nodes + qf0.nodes + ks0.nodes ≤ 1048576 → ∀ (W : World) (Zpf0 Zgcf0 Zgks0 Zqf0 Zks0 : Option Addr), pf0.Lies W Zpf0 → gcf0.Lies W Zgcf0 → gks0.Lies W Zgks0 → qf0.Lies W Zqf0 → ks0.Lies W Zks0 → Calls Try.prog 43 #[.agg #[.int .i64 ru0, .int .i64 pk0, .int .i64 pn0, .slice Zpf0 pf0.len pf0.len, .int .i64 gk0, .int .i64 gn0, .int .i64 gck0, .int .i64 gcn0, .slice Zgcf0 gcf0.len gcf0.len, .slice Zgks0 gks0.len gks0.len, .int .i64 qk0, .int .i64 qn0, .slice Zqf0 qf0.len qf0.len, .slice Zks0 ks0.len ks0.len]] W fun e w' => e = .returned (.int .i64 q0) ∧ Below W.heap.size W w'))
    (KG : Hid (pf0.nodes + gcf0.nodes + gks0.nodes + qf0.nodes + ks0.nodes ≤ 1048576 → ∀ (W : World) (Zpf0 Zgcf0 Zgks0 Zqf0 Zks0 : Option Addr), pf0.Lies W Zpf0 → gcf0.Lies W Zgcf0 → gks0.Lies W Zgks0 → qf0.Lies W Zqf0 → ks0.Lies W Zks0 → Calls Try.prog 45 #[.agg #[.int .i64 ru0, .int .i64 pk0, .int .i64 pn0, .slice Zpf0 pf0.len pf0.len, .int .i64 gk0, .int .i64 gn0, .int .i64 gck0, .int .i64 gcn0, .slice Zgcf0 gcf0.len gcf0.len, .slice Zgks0 gks0.len gks0.len, .int .i64 qk0, .int .i64 qn0, .slice Zqf0 qf0.len qf0.len, .slice Zks0 ks0.len ks0.len]] W fun e w' => e = .returned (.int .i64 q0) ∧ Below W.heap.size W w'))
    (w : World) (hf_pf0 : pf0.len ≤ 9223372036854775807 ∧ pf0.Fits) (hf_gcf0 : gcf0.len ≤ 9223372036854775807 ∧ gcf0.Fits) (hf_gks0 : gks0.len ≤ 9223372036854775807 ∧ gks0.Fits) (hf_qf0 : qf0.len ≤ 9223372036854775807 ∧ qf0.Fits) (hf_ks0 : ks0.len ≤ 9223372036854775807 ∧ ks0.Fits) (hl_pf0 : pf0.Lies w Apf0) (hl_gcf0 : gcf0.Lies w Agcf0) (hl_gks0 : gks0.Lies w Agks0) (hl_qf0 : qf0.Lies w Aqf0) (hl_ks0 : ks0.Lies w Aks0) :
    Calls Try.prog 9 #[.agg #[.int .i64 ru0, .int .i64 pk0, .int .i64 pn0, .slice Apf0 pf0.len Cpf0, .int .i64 gk0, .int .i64 gn0, .int .i64 gck0, .int .i64 gcn0, .slice Agcf0 gcf0.len Cgcf0, .slice Agks0 gks0.len Cgks0, .int .i64 qk0, .int .i64 qn0, .slice Aqf0 qf0.len Cqf0, .slice Aks0 ks0.len Cks0]] w fun e w' => e = .returned (.bool true) ∧ Below w.heap.size w w' := by
  by_cases hbig0 : 1048576 < ((pf0.nodes + gcf0.nodes + gks0.nodes + qf0.nodes + ks0.nodes : Nat))
  · have hs : szR (pf0.nodes + gcf0.nodes + gks0.nodes + qf0.nodes + ks0.nodes) 1048576 = -1 := szR_neg (by omega)
    have KS0 : Hid (∀ W : World, Sees w W → Calls Try.prog 42 #[.agg #[.int .i64 ru0, .int .i64 pk0, .int .i64 pn0, .slice Apf0 pf0.len Cpf0, .int .i64 gk0, .int .i64 gn0, .int .i64 gck0, .int .i64 gcn0, .slice Agcf0 gcf0.len Cgcf0, .slice Agks0 gks0.len Cgks0, .int .i64 qk0, .int .i64 qn0, .slice Aqf0 qf0.len Cqf0, .slice Aks0 ks0.len Cks0], .int .i64 1048576] W fun e w' => e = .returned (.int .i64 (-1)) ∧ Below W.heap.size W w') := fun W h => by rw [← hs]; exact szDerivation_u ru0 pk0 pn0 pf0 gk0 gn0 gck0 gcn0 gcf0 gks0 qk0 qn0 qf0 ks0 hf_pf0 hf_gcf0 hf_gks0 hf_qf0 hf_ks0 1048576 Apf0 Agcf0 Agks0 Aqf0 Aks0 Cpf0 Cgcf0 Cgks0 Cqf0 Cks0 W (hl_pf0.sees h) (hl_gcf0.sees h) (hl_gks0.sees h) (hl_qf0.sees h) (hl_ks0.sees h) (by omega) (by omega)
    clear hs
    go_enter Try.func9, Try.ntmps9
    go_wp2_with fail
    refine (KS0.out _ ?_).mono ?_
    · unfold Sees; go_grown
    rintro e wz0 ⟨rfl, hb⟩
    have T := St.below (w := w) (l := [(w.heap.size, 0, .int .i64 ru0), (w.heap.size, 1, .int .i64 pk0), (w.heap.size, 2, .int .i64 pn0), (w.heap.size, 3, .slice Apf0 pf0.len Cpf0), (w.heap.size, 4, .int .i64 gk0), (w.heap.size, 5, .int .i64 gn0), (w.heap.size, 6, .int .i64 gck0), (w.heap.size, 7, .int .i64 gcn0), (w.heap.size, 8, .slice Agcf0 gcf0.len Cgcf0), (w.heap.size, 9, .slice Agks0 gks0.len Cgks0), (w.heap.size, 10, .int .i64 qk0), (w.heap.size, 11, .int .i64 qn0), (w.heap.size, 12, .slice Aqf0 qf0.len Cqf0), (w.heap.size, 13, .slice Aks0 ks0.len Cks0)]) ⟨(by unfold Sees; go_grown), (by simp [go_sem]), (by simp [go_sem]), (by simp [go_sem]), (by simp [go_sem]), (by simp [go_sem]), (by simp [go_sem]), (by simp [go_sem]), (by simp [go_sem]), (by simp [go_sem]), (by simp [go_sem]), (by simp [go_sem]), (by simp [go_sem]), (by simp [go_sem]), (by simp [go_sem]), trivial⟩ hb
    have H := Lib.hid T; clear T hb
    obtain ⟨x0, x1, x2, x3, x4, x5, x6, x7, x8, x9, x10, x11, x12, x13, x14, _⟩ := H.out
    go_wp2_with fail
    clear x0 x1 x2 x3 x4 x5 x6 x7 x8 x9 x10 x11 x12 x13 x14
    go_ret
    exact ⟨rfl, H.out.1⟩
  obtain ⟨s0, hs, hz0, hy0, he0⟩ : ∃ s : Int, s = szR (pf0.nodes + gcf0.nodes + gks0.nodes + qf0.nodes + ks0.nodes) 1048576 ∧ 0 ≤ s ∧ s ≤ 1048576 ∧ s = 1048576 - ((pf0.nodes + gcf0.nodes + gks0.nodes + qf0.nodes + ks0.nodes : Nat) : Int) := ⟨_, rfl, by rw [szR_pos (by omega)]; omega, by rw [szR_pos (by omega)]; omega, by rw [szR_pos (by omega)]⟩
  have KS0 : Hid (∀ W : World, Sees w W → Calls Try.prog 42 #[.agg #[.int .i64 ru0, .int .i64 pk0, .int .i64 pn0, .slice Apf0 pf0.len Cpf0, .int .i64 gk0, .int .i64 gn0, .int .i64 gck0, .int .i64 gcn0, .slice Agcf0 gcf0.len Cgcf0, .slice Agks0 gks0.len Cgks0, .int .i64 qk0, .int .i64 qn0, .slice Aqf0 qf0.len Cqf0, .slice Aks0 ks0.len Cks0], .int .i64 1048576] W fun e w' => e = .returned (.int .i64 s0) ∧ Below W.heap.size W w') := fun W h => by rw [hs]; exact szDerivation_u ru0 pk0 pn0 pf0 gk0 gn0 gck0 gcn0 gcf0 gks0 qk0 qn0 qf0 ks0 hf_pf0 hf_gcf0 hf_gks0 hf_qf0 hf_ks0 1048576 Apf0 Agcf0 Agks0 Aqf0 Aks0 Cpf0 Cgcf0 Cgks0 Cqf0 Cks0 W (hl_pf0.sees h) (hl_gcf0.sees h) (hl_gks0.sees h) (hl_qf0.sees h) (hl_ks0.sees h) (by omega) (by omega)
  clear hs
  have hsmall : pf0.nodes + gcf0.nodes + gks0.nodes + qf0.nodes + ks0.nodes ≤ 1048576 := by (first | trivial | omega | (refine ⟨?_, ?_⟩ <;> omega) | (refine ⟨?_, ?_, ?_⟩ <;> omega))
  clear he0
  have KT0 : Hid (∀ W : World, Sees w W → Calls Try.prog 44 #[.agg #[.int .i64 ru0, .int .i64 pk0, .int .i64 pn0, .slice Apf0 pf0.len Cpf0, .int .i64 gk0, .int .i64 gn0, .int .i64 gck0, .int .i64 gcn0, .slice Agcf0 gcf0.len Cgcf0, .slice Agks0 gks0.len Cgks0, .int .i64 qk0, .int .i64 qn0, .slice Aqf0 qf0.len Cqf0, .slice Aks0 ks0.len Cks0]] W fun e w' => ∃ Zpf0 Zgcf0 Zgks0 Zqf0 Zks0, e = .returned (.agg #[.int .i64 ru0, .int .i64 pk0, .int .i64 pn0, .slice Zpf0 pf0.len pf0.len, .int .i64 gk0, .int .i64 gn0, .int .i64 gck0, .int .i64 gcn0, .slice Zgcf0 gcf0.len gcf0.len, .slice Zgks0 gks0.len gks0.len, .int .i64 qk0, .int .i64 qn0, .slice Zqf0 qf0.len qf0.len, .slice Zks0 ks0.len ks0.len]) ∧ pf0.Lies w' Zpf0 ∧ gcf0.Lies w' Zgcf0 ∧ gks0.Lies w' Zgks0 ∧ qf0.Lies w' Zqf0 ∧ ks0.Lies w' Zks0 ∧ Below W.heap.size W w') := fun W h => (toDerivation_u ru0 pk0 pn0 pf0 gk0 gn0 gck0 gcn0 gcf0 gks0 qk0 qn0 qf0 ks0 (by omega) Apf0 Agcf0 Agks0 Aqf0 Aks0 Cpf0 Cgcf0 Cgks0 Cqf0 Cks0 W (hl_pf0.sees h) (hl_gcf0.sees h) (hl_gks0.sees h) (hl_qf0.sees h) (hl_ks0.sees h)).mono fun e w' ⟨Zpf0, Zgcf0, Zgks0, Zqf0, Zks0, he, ypf0, ygcf0, ygks0, yqf0, yks0, hb⟩ => ⟨Zpf0, Zgcf0, Zgks0, Zqf0, Zks0, he, ypf0.lies, ygcf0.lies, ygks0.lies, yqf0.lies, yks0.lies, hb⟩
  have KE0 : Hid (∀ (W : World) (Zpf0 Zgcf0 Zgks0 Zqf0 Zks0 Ypf0 Ygcf0 Ygks0 Yqf0 Yks0 : Option Addr), pf0.Lies W Zpf0 → gcf0.Lies W Zgcf0 → gks0.Lies W Zgks0 → qf0.Lies W Zqf0 → ks0.Lies W Zks0 → pf0.Lies W Ypf0 → gcf0.Lies W Ygcf0 → gks0.Lies W Ygks0 → qf0.Lies W Yqf0 → ks0.Lies W Yks0 → Calls Try.prog 46 #[.agg #[.int .i64 ru0, .int .i64 pk0, .int .i64 pn0, .slice Zpf0 pf0.len pf0.len, .int .i64 gk0, .int .i64 gn0, .int .i64 gck0, .int .i64 gcn0, .slice Zgcf0 gcf0.len gcf0.len, .slice Zgks0 gks0.len gks0.len, .int .i64 qk0, .int .i64 qn0, .slice Zqf0 qf0.len qf0.len, .slice Zks0 ks0.len ks0.len], .agg #[.int .i64 ru0, .int .i64 pk0, .int .i64 pn0, .slice Ypf0 pf0.len pf0.len, .int .i64 gk0, .int .i64 gn0, .int .i64 gck0, .int .i64 gcn0, .slice Ygcf0 gcf0.len gcf0.len, .slice Ygks0 gks0.len gks0.len, .int .i64 qk0, .int .i64 qn0, .slice Yqf0 qf0.len qf0.len, .slice Yks0 ks0.len ks0.len]] W fun e w' => e = .returned (.bool true) ∧ Below W.heap.size W w') := fun W Zpf0 Zgcf0 Zgks0 Zqf0 Zks0 Ypf0 Ygcf0 Ygks0 Yqf0 Yks0 upf0 ugcf0 ugks0 uqf0 uks0 vpf0 vgcf0 vgks0 vqf0 vks0 => eqDerivation_u ru0 pk0 pn0 pf0 gk0 gn0 gck0 gcn0 gcf0 gks0 qk0 qn0 qf0 ks0 hf_pf0 hf_gcf0 hf_gks0 hf_qf0 hf_ks0 Zpf0 Zgcf0 Zgks0 Zqf0 Zks0 Ypf0 Ygcf0 Ygks0 Yqf0 Yks0 pf0.len gcf0.len gks0.len qf0.len ks0.len pf0.len gcf0.len gks0.len qf0.len ks0.len W upf0 ugcf0 ugks0 uqf0 uks0 vpf0 vgcf0 vgks0 vqf0 vks0
  have KW2 := Lib.hid (KW.out hsmall); clear KW
  have KG2 := Lib.hid (KG.out hsmall); clear KG hsmall hbig0 hl_pf0 hf_pf0 hl_gcf0 hf_gcf0 hl_gks0 hf_gks0 hl_qf0 hf_qf0 hl_ks0 hf_ks0
  go_enter Try.func9, Try.ntmps9
  go_wp2_with fail
  refine (KS0.out _ ?_).mono ?_
  · unfold Sees; go_grown
  rintro e wz0 ⟨rfl, hb⟩
  have T := St.below (w := w) (l := [(w.heap.size, 0, .int .i64 ru0), (w.heap.size, 1, .int .i64 pk0), (w.heap.size, 2, .int .i64 pn0), (w.heap.size, 3, .slice Apf0 pf0.len Cpf0), (w.heap.size, 4, .int .i64 gk0), (w.heap.size, 5, .int .i64 gn0), (w.heap.size, 6, .int .i64 gck0), (w.heap.size, 7, .int .i64 gcn0), (w.heap.size, 8, .slice Agcf0 gcf0.len Cgcf0), (w.heap.size, 9, .slice Agks0 gks0.len Cgks0), (w.heap.size, 10, .int .i64 qk0), (w.heap.size, 11, .int .i64 qn0), (w.heap.size, 12, .slice Aqf0 qf0.len Cqf0), (w.heap.size, 13, .slice Aks0 ks0.len Cks0)]) ⟨(by unfold Sees; go_grown), (by simp [go_sem]), (by simp [go_sem]), (by simp [go_sem]), (by simp [go_sem]), (by simp [go_sem]), (by simp [go_sem]), (by simp [go_sem]), (by simp [go_sem]), (by simp [go_sem]), (by simp [go_sem]), (by simp [go_sem]), (by simp [go_sem]), (by simp [go_sem]), (by simp [go_sem]), trivial⟩ hb
  have H := Lib.hid T; clear T hb
  obtain ⟨x0, x1, x2, x3, x4, x5, x6, x7, x8, x9, x10, x11, x12, x13, x14, _⟩ := H.out
  go_wp2_with fail
  clear x0 x1 x2 x3 x4 x5 x6 x7 x8 x9 x10 x11 x12 x13 x14
  obtain ⟨x0, x1, x2, x3, x4, x5, x6, x7, x8, x9, x10, x11, x12, x13, x14, _⟩ := H.out
  go_wp2_with fail
  refine (KT0.out _ H.out.1).mono ?_
  rintro e wA_0 ⟨Zpf0A_0, Zgcf0A_0, Zgks0A_0, Zqf0A_0, Zks0A_0, rfl, Mpf0A_0, Mgcf0A_0, Mgks0A_0, Mqf0A_0, Mks0A_0, hbA_0⟩
  have T := H.out.below hbA_0
  clear x0 x1 x2 x3 x4 x5 x6 x7 x8 x9 x10 x11 x12 x13 x14
  clear H
  have H := Lib.hid T; clear T
  obtain ⟨x0, x1, x2, x3, x4, x5, x6, x7, x8, x9, x10, x11, x12, x13, x14, _⟩ := H.out
  go_wp2_with fail
  refine (KW2.out _ _ _ _ _ _ ?_ ?_ ?_ ?_ ?_ ).mono ?_
  · (first | exact Mpf0A_0 | exact Mpf0A_0.drew | exact Mpf0A_0.drew.drew)
  · (first | exact Mgcf0A_0 | exact Mgcf0A_0.drew | exact Mgcf0A_0.drew.drew)
  · (first | exact Mgks0A_0 | exact Mgks0A_0.drew | exact Mgks0A_0.drew.drew)
  · (first | exact Mqf0A_0 | exact Mqf0A_0.drew | exact Mqf0A_0.drew.drew)
  · (first | exact Mks0A_0 | exact Mks0A_0.drew | exact Mks0A_0.drew.drew)
  rintro e wA ⟨rfl, hbA⟩
  have TA := H.out.below hbA
  clear x0 x1 x2 x3 x4 x5 x6 x7 x8 x9 x10 x11 x12 x13 x14
  clear H
  have H := Lib.hid TA
  clear TA hbA hbA_0 Mpf0A_0 Mgcf0A_0 Mgks0A_0 Mqf0A_0 Mks0A_0
  obtain ⟨x0, x1, x2, x3, x4, x5, x6, x7, x8, x9, x10, x11, x12, x13, x14, _⟩ := H.out
  go_wp2_with fail
  refine (KT0.out _ H.out.1).mono ?_
  rintro e wB0 ⟨Zpf0B0, Zgcf0B0, Zgks0B0, Zqf0B0, Zks0B0, rfl, Mpf0B0, Mgcf0B0, Mgks0B0, Mqf0B0, Mks0B0, hbB0⟩
  have T := H.out.below hbB0
  clear x0 x1 x2 x3 x4 x5 x6 x7 x8 x9 x10 x11 x12 x13 x14
  have T2 : St w [(wB0.heap.size, 0, .int .i64 ru0), (wB0.heap.size, 1, .int .i64 pk0), (wB0.heap.size, 2, .int .i64 pn0), (wB0.heap.size, 3, .slice Zpf0B0 pf0.len pf0.len), (wB0.heap.size, 4, .int .i64 gk0), (wB0.heap.size, 5, .int .i64 gn0), (wB0.heap.size, 6, .int .i64 gck0), (wB0.heap.size, 7, .int .i64 gcn0), (wB0.heap.size, 8, .slice Zgcf0B0 gcf0.len gcf0.len), (wB0.heap.size, 9, .slice Zgks0B0 gks0.len gks0.len), (wB0.heap.size, 10, .int .i64 qk0), (wB0.heap.size, 11, .int .i64 qn0), (wB0.heap.size, 12, .slice Zqf0B0 qf0.len qf0.len), (wB0.heap.size, 13, .slice Zks0B0 ks0.len ks0.len), (w.heap.size, 0, .int .i64 ru0), (w.heap.size, 1, .int .i64 pk0), (w.heap.size, 2, .int .i64 pn0), (w.heap.size, 3, .slice Apf0 pf0.len Cpf0), (w.heap.size, 4, .int .i64 gk0), (w.heap.size, 5, .int .i64 gn0), (w.heap.size, 6, .int .i64 gck0), (w.heap.size, 7, .int .i64 gcn0), (w.heap.size, 8, .slice Agcf0 gcf0.len Cgcf0), (w.heap.size, 9, .slice Agks0 gks0.len Cgks0), (w.heap.size, 10, .int .i64 qk0), (w.heap.size, 11, .int .i64 qn0), (w.heap.size, 12, .slice Aqf0 qf0.len Cqf0), (w.heap.size, 13, .slice Aks0 ks0.len Cks0)] (wB0.alloc (.cells #[.int .i64 ru0, .int .i64 pk0, .int .i64 pn0, .slice Zpf0B0 pf0.len pf0.len, .int .i64 gk0, .int .i64 gn0, .int .i64 gck0, .int .i64 gcn0, .slice Zgcf0B0 gcf0.len gcf0.len, .slice Zgks0B0 gks0.len gks0.len, .int .i64 qk0, .int .i64 qn0, .slice Zqf0B0 qf0.len qf0.len, .slice Zks0B0 ks0.len ks0.len] 90)) := ⟨T.1.alloc _, (by simp [go_sem]), (by simp [go_sem]), (by simp [go_sem]), (by simp [go_sem]), (by simp [go_sem]), (by simp [go_sem]), (by simp [go_sem]), (by simp [go_sem]), (by simp [go_sem]), (by simp [go_sem]), (by simp [go_sem]), (by simp [go_sem]), (by simp [go_sem]), (by simp [go_sem]), T.2.alloc _⟩
  have G1 : pf0.Lies (wB0.alloc (.cells #[.int .i64 ru0, .int .i64 pk0, .int .i64 pn0, .slice Zpf0B0 pf0.len pf0.len, .int .i64 gk0, .int .i64 gn0, .int .i64 gck0, .int .i64 gcn0, .slice Zgcf0B0 gcf0.len gcf0.len, .slice Zgks0B0 gks0.len gks0.len, .int .i64 qk0, .int .i64 qn0, .slice Zqf0B0 qf0.len qf0.len, .slice Zks0B0 ks0.len ks0.len] 90)) Zpf0B0 := Mpf0B0.alloc _
  clear Mpf0B0
  have G2 : gcf0.Lies (wB0.alloc (.cells #[.int .i64 ru0, .int .i64 pk0, .int .i64 pn0, .slice Zpf0B0 pf0.len pf0.len, .int .i64 gk0, .int .i64 gn0, .int .i64 gck0, .int .i64 gcn0, .slice Zgcf0B0 gcf0.len gcf0.len, .slice Zgks0B0 gks0.len gks0.len, .int .i64 qk0, .int .i64 qn0, .slice Zqf0B0 qf0.len qf0.len, .slice Zks0B0 ks0.len ks0.len] 90)) Zgcf0B0 := Mgcf0B0.alloc _
  clear Mgcf0B0
  have G3 : gks0.Lies (wB0.alloc (.cells #[.int .i64 ru0, .int .i64 pk0, .int .i64 pn0, .slice Zpf0B0 pf0.len pf0.len, .int .i64 gk0, .int .i64 gn0, .int .i64 gck0, .int .i64 gcn0, .slice Zgcf0B0 gcf0.len gcf0.len, .slice Zgks0B0 gks0.len gks0.len, .int .i64 qk0, .int .i64 qn0, .slice Zqf0B0 qf0.len qf0.len, .slice Zks0B0 ks0.len ks0.len] 90)) Zgks0B0 := Mgks0B0.alloc _
  clear Mgks0B0
  have G4 : qf0.Lies (wB0.alloc (.cells #[.int .i64 ru0, .int .i64 pk0, .int .i64 pn0, .slice Zpf0B0 pf0.len pf0.len, .int .i64 gk0, .int .i64 gn0, .int .i64 gck0, .int .i64 gcn0, .slice Zgcf0B0 gcf0.len gcf0.len, .slice Zgks0B0 gks0.len gks0.len, .int .i64 qk0, .int .i64 qn0, .slice Zqf0B0 qf0.len qf0.len, .slice Zks0B0 ks0.len ks0.len] 90)) Zqf0B0 := Mqf0B0.alloc _
  clear Mqf0B0
  have G5 : ks0.Lies (wB0.alloc (.cells #[.int .i64 ru0, .int .i64 pk0, .int .i64 pn0, .slice Zpf0B0 pf0.len pf0.len, .int .i64 gk0, .int .i64 gn0, .int .i64 gck0, .int .i64 gcn0, .slice Zgcf0B0 gcf0.len gcf0.len, .slice Zgks0B0 gks0.len gks0.len, .int .i64 qk0, .int .i64 qn0, .slice Zqf0B0 qf0.len qf0.len, .slice Zks0B0 ks0.len ks0.len] 90)) Zks0B0 := Mks0B0.alloc _
  clear Mks0B0
  clear H T hbB0
  have H := Lib.hid T2; clear T2
  obtain ⟨x0, x1, x2, x3, x4, x5, x6, x7, x8, x9, x10, x11, x12, x13, x14, x15, x16, x17, x18, x19, x20, x21, x22, x23, x24, x25, x26, x27, x28, _⟩ := H.out
  go_wp2_with fail
  refine (KG2.out _ _ _ _ _ _ ?_ ?_ ?_ ?_ ?_ ).mono ?_
  · (first | exact G1 | exact G1.drew | exact G1.drew.drew)
  · (first | exact G2 | exact G2.drew | exact G2.drew.drew)
  · (first | exact G3 | exact G3.drew | exact G3.drew.drew)
  · (first | exact G4 | exact G4.drew | exact G4.drew.drew)
  · (first | exact G5 | exact G5.drew | exact G5.drew.drew)
  rintro e wC ⟨rfl, hbC⟩
  have TC := H.out.below hbC
  clear x0 x1 x2 x3 x4 x5 x6 x7 x8 x9 x10 x11 x12 x13 x14 x15 x16 x17 x18 x19 x20 x21 x22 x23 x24 x25 x26 x27 x28
  clear H
  have H := Lib.hid TC
  have G6 : pf0.Lies wC Zpf0B0 := by first | exact G1.below hbC | exact G1.dbelow hbC
  clear G1
  have G7 : gcf0.Lies wC Zgcf0B0 := by first | exact G2.below hbC | exact G2.dbelow hbC
  clear G2
  have G8 : gks0.Lies wC Zgks0B0 := by first | exact G3.below hbC | exact G3.dbelow hbC
  clear G3
  have G9 : qf0.Lies wC Zqf0B0 := by first | exact G4.below hbC | exact G4.dbelow hbC
  clear G4
  have G10 : ks0.Lies wC Zks0B0 := by first | exact G5.below hbC | exact G5.dbelow hbC
  clear G5
  clear TC hbC 
  have ne_q0 : (q0 != q0) = false := by simp
  obtain ⟨x0, x1, x2, x3, x4, x5, x6, x7, x8, x9, x10, x11, x12, x13, x14, x15, x16, x17, x18, x19, x20, x21, x22, x23, x24, x25, x26, x27, x28, _⟩ := H.out
  go_wp2_with fail
  go_region_held3 (fun w' => Sees w w' ∧ w'.cell? ⟨wB0.heap.size, 0, none⟩ = some (.int .i64 ru0) ∧ w'.cell? ⟨wB0.heap.size, 1, none⟩ = some (.int .i64 pk0) ∧ w'.cell? ⟨wB0.heap.size, 2, none⟩ = some (.int .i64 pn0) ∧ w'.cell? ⟨wB0.heap.size, 3, none⟩ = some (.slice Zpf0B0 pf0.len pf0.len) ∧ w'.cell? ⟨wB0.heap.size, 4, none⟩ = some (.int .i64 gk0) ∧ w'.cell? ⟨wB0.heap.size, 5, none⟩ = some (.int .i64 gn0) ∧ w'.cell? ⟨wB0.heap.size, 6, none⟩ = some (.int .i64 gck0) ∧ w'.cell? ⟨wB0.heap.size, 7, none⟩ = some (.int .i64 gcn0) ∧ w'.cell? ⟨wB0.heap.size, 8, none⟩ = some (.slice Zgcf0B0 gcf0.len gcf0.len) ∧ w'.cell? ⟨wB0.heap.size, 9, none⟩ = some (.slice Zgks0B0 gks0.len gks0.len) ∧ w'.cell? ⟨wB0.heap.size, 10, none⟩ = some (.int .i64 qk0) ∧ w'.cell? ⟨wB0.heap.size, 11, none⟩ = some (.int .i64 qn0) ∧ w'.cell? ⟨wB0.heap.size, 12, none⟩ = some (.slice Zqf0B0 qf0.len qf0.len) ∧ w'.cell? ⟨wB0.heap.size, 13, none⟩ = some (.slice Zks0B0 ks0.len ks0.len) ∧ w'.cell? ⟨w.heap.size, 0, none⟩ = some (.int .i64 ru0) ∧ w'.cell? ⟨w.heap.size, 1, none⟩ = some (.int .i64 pk0) ∧ w'.cell? ⟨w.heap.size, 2, none⟩ = some (.int .i64 pn0) ∧ w'.cell? ⟨w.heap.size, 3, none⟩ = some (.slice Apf0 pf0.len Cpf0) ∧ w'.cell? ⟨w.heap.size, 4, none⟩ = some (.int .i64 gk0) ∧ w'.cell? ⟨w.heap.size, 5, none⟩ = some (.int .i64 gn0) ∧ w'.cell? ⟨w.heap.size, 6, none⟩ = some (.int .i64 gck0) ∧ w'.cell? ⟨w.heap.size, 7, none⟩ = some (.int .i64 gcn0) ∧ w'.cell? ⟨w.heap.size, 8, none⟩ = some (.slice Agcf0 gcf0.len Cgcf0) ∧ w'.cell? ⟨w.heap.size, 9, none⟩ = some (.slice Agks0 gks0.len Cgks0) ∧ w'.cell? ⟨w.heap.size, 10, none⟩ = some (.int .i64 qk0) ∧ w'.cell? ⟨w.heap.size, 11, none⟩ = some (.int .i64 qn0) ∧ w'.cell? ⟨w.heap.size, 12, none⟩ = some (.slice Aqf0 qf0.len Cqf0) ∧ w'.cell? ⟨w.heap.size, 13, none⟩ = some (.slice Aks0 ks0.len Cks0) ∧ True)
    (first | exact H.out.drew | exact TF0 | exact TE0 | (go_keep; done))
    (first | (go_at_call 44; (with_reducible refine (KT0.out _ ?_).mono ?_); exact St.sees (l := [(wB0.heap.size, 0, .int .i64 ru0), (wB0.heap.size, 1, .int .i64 pk0), (wB0.heap.size, 2, .int .i64 pn0), (wB0.heap.size, 3, .slice Zpf0B0 pf0.len pf0.len), (wB0.heap.size, 4, .int .i64 gk0), (wB0.heap.size, 5, .int .i64 gn0), (wB0.heap.size, 6, .int .i64 gck0), (wB0.heap.size, 7, .int .i64 gcn0), (wB0.heap.size, 8, .slice Zgcf0B0 gcf0.len gcf0.len), (wB0.heap.size, 9, .slice Zgks0B0 gks0.len gks0.len), (wB0.heap.size, 10, .int .i64 qk0), (wB0.heap.size, 11, .int .i64 qn0), (wB0.heap.size, 12, .slice Zqf0B0 qf0.len qf0.len), (wB0.heap.size, 13, .slice Zks0B0 ks0.len ks0.len), (w.heap.size, 0, .int .i64 ru0), (w.heap.size, 1, .int .i64 pk0), (w.heap.size, 2, .int .i64 pn0), (w.heap.size, 3, .slice Apf0 pf0.len Cpf0), (w.heap.size, 4, .int .i64 gk0), (w.heap.size, 5, .int .i64 gn0), (w.heap.size, 6, .int .i64 gck0), (w.heap.size, 7, .int .i64 gcn0), (w.heap.size, 8, .slice Agcf0 gcf0.len Cgcf0), (w.heap.size, 9, .slice Agks0 gks0.len Cgks0), (w.heap.size, 10, .int .i64 qk0), (w.heap.size, 11, .int .i64 qn0), (w.heap.size, 12, .slice Aqf0 qf0.len Cqf0), (w.heap.size, 13, .slice Aks0 ks0.len Cks0)]) (by assumption); rintro e wE0 ⟨Zpf0E0, Zgcf0E0, Zgks0E0, Zqf0E0, Zks0E0, rfl, Mpf0E0, Mgcf0E0, Mgks0E0, Mqf0E0, Mks0E0, hbE0⟩; have TE0 := St.below (l := [(wB0.heap.size, 0, .int .i64 ru0), (wB0.heap.size, 1, .int .i64 pk0), (wB0.heap.size, 2, .int .i64 pn0), (wB0.heap.size, 3, .slice Zpf0B0 pf0.len pf0.len), (wB0.heap.size, 4, .int .i64 gk0), (wB0.heap.size, 5, .int .i64 gn0), (wB0.heap.size, 6, .int .i64 gck0), (wB0.heap.size, 7, .int .i64 gcn0), (wB0.heap.size, 8, .slice Zgcf0B0 gcf0.len gcf0.len), (wB0.heap.size, 9, .slice Zgks0B0 gks0.len gks0.len), (wB0.heap.size, 10, .int .i64 qk0), (wB0.heap.size, 11, .int .i64 qn0), (wB0.heap.size, 12, .slice Zqf0B0 qf0.len qf0.len), (wB0.heap.size, 13, .slice Zks0B0 ks0.len ks0.len), (w.heap.size, 0, .int .i64 ru0), (w.heap.size, 1, .int .i64 pk0), (w.heap.size, 2, .int .i64 pn0), (w.heap.size, 3, .slice Apf0 pf0.len Cpf0), (w.heap.size, 4, .int .i64 gk0), (w.heap.size, 5, .int .i64 gn0), (w.heap.size, 6, .int .i64 gck0), (w.heap.size, 7, .int .i64 gcn0), (w.heap.size, 8, .slice Agcf0 gcf0.len Cgcf0), (w.heap.size, 9, .slice Agks0 gks0.len Cgks0), (w.heap.size, 10, .int .i64 qk0), (w.heap.size, 11, .int .i64 qn0), (w.heap.size, 12, .slice Aqf0 qf0.len Cqf0), (w.heap.size, 13, .slice Aks0 ks0.len Cks0)]) (by assumption) hbE0) | (go_at_call 46; refine (KE0.out _ _ _ _ _ _ _ _ _ _ _ ?_ ?_ ?_ ?_ ?_ ?_ ?_ ?_ ?_ ?_ ).mono ?_; (first | exact G6 | exact G6.drew | exact G6.drew.drew | exact G6.below hbE0 | exact G6.dbelow hbE0 | exact (G6.below hbE0).drew | exact (G6.dbelow hbE0).drew); (first | exact G7 | exact G7.drew | exact G7.drew.drew | exact G7.below hbE0 | exact G7.dbelow hbE0 | exact (G7.below hbE0).drew | exact (G7.dbelow hbE0).drew); (first | exact G8 | exact G8.drew | exact G8.drew.drew | exact G8.below hbE0 | exact G8.dbelow hbE0 | exact (G8.below hbE0).drew | exact (G8.dbelow hbE0).drew); (first | exact G9 | exact G9.drew | exact G9.drew.drew | exact G9.below hbE0 | exact G9.dbelow hbE0 | exact (G9.below hbE0).drew | exact (G9.dbelow hbE0).drew); (first | exact G10 | exact G10.drew | exact G10.drew.drew | exact G10.below hbE0 | exact G10.dbelow hbE0 | exact (G10.below hbE0).drew | exact (G10.dbelow hbE0).drew); (first | exact Mpf0E0 | exact Mpf0E0.drew | exact Mpf0E0.drew.drew); (first | exact Mgcf0E0 | exact Mgcf0E0.drew | exact Mgcf0E0.drew.drew); (first | exact Mgks0E0 | exact Mgks0E0.drew | exact Mgks0E0.drew.drew); (first | exact Mqf0E0 | exact Mqf0E0.drew | exact Mqf0E0.drew.drew); (first | exact Mks0E0 | exact Mks0E0.drew | exact Mks0E0.drew.drew); rintro e wF0 ⟨rfl, hbF0⟩; have TF0 := St.below (l := [(wB0.heap.size, 0, .int .i64 ru0), (wB0.heap.size, 1, .int .i64 pk0), (wB0.heap.size, 2, .int .i64 pn0), (wB0.heap.size, 3, .slice Zpf0B0 pf0.len pf0.len), (wB0.heap.size, 4, .int .i64 gk0), (wB0.heap.size, 5, .int .i64 gn0), (wB0.heap.size, 6, .int .i64 gck0), (wB0.heap.size, 7, .int .i64 gcn0), (wB0.heap.size, 8, .slice Zgcf0B0 gcf0.len gcf0.len), (wB0.heap.size, 9, .slice Zgks0B0 gks0.len gks0.len), (wB0.heap.size, 10, .int .i64 qk0), (wB0.heap.size, 11, .int .i64 qn0), (wB0.heap.size, 12, .slice Zqf0B0 qf0.len qf0.len), (wB0.heap.size, 13, .slice Zks0B0 ks0.len ks0.len), (w.heap.size, 0, .int .i64 ru0), (w.heap.size, 1, .int .i64 pk0), (w.heap.size, 2, .int .i64 pn0), (w.heap.size, 3, .slice Apf0 pf0.len Cpf0), (w.heap.size, 4, .int .i64 gk0), (w.heap.size, 5, .int .i64 gn0), (w.heap.size, 6, .int .i64 gck0), (w.heap.size, 7, .int .i64 gcn0), (w.heap.size, 8, .slice Agcf0 gcf0.len Cgcf0), (w.heap.size, 9, .slice Agks0 gks0.len Cgks0), (w.heap.size, 10, .int .i64 qk0), (w.heap.size, 11, .int .i64 qn0), (w.heap.size, 12, .slice Aqf0 qf0.len Cqf0), (w.heap.size, 13, .slice Aks0 ks0.len Cks0)]) (by assumption) hbF0))
  clear x0 x1 x2 x3 x4 x5 x6 x7 x8 x9 x10 x11 x12 x13 x14 x15 x16 x17 x18 x19 x20 x21 x22 x23 x24 x25 x26 x27 x28
  clear H
  have H := Lib.hid TF0
  have G11 : pf0.Lies wE0 Zpf0B0 := by first | exact G6.below hbE0 | exact G6.dbelow hbE0
  clear G6
  have G12 : gcf0.Lies wE0 Zgcf0B0 := by first | exact G7.below hbE0 | exact G7.dbelow hbE0
  clear G7
  have G13 : gks0.Lies wE0 Zgks0B0 := by first | exact G8.below hbE0 | exact G8.dbelow hbE0
  clear G8
  have G14 : qf0.Lies wE0 Zqf0B0 := by first | exact G9.below hbE0 | exact G9.dbelow hbE0
  clear G9
  have G15 : ks0.Lies wE0 Zks0B0 := by first | exact G10.below hbE0 | exact G10.dbelow hbE0
  clear G10
  have G16 : pf0.Lies wF0 Zpf0B0 := by first | exact G11.below hbF0 | exact G11.dbelow hbF0
  clear G11
  have G17 : gcf0.Lies wF0 Zgcf0B0 := by first | exact G12.below hbF0 | exact G12.dbelow hbF0
  clear G12
  have G18 : gks0.Lies wF0 Zgks0B0 := by first | exact G13.below hbF0 | exact G13.dbelow hbF0
  clear G13
  have G19 : qf0.Lies wF0 Zqf0B0 := by first | exact G14.below hbF0 | exact G14.dbelow hbF0
  clear G14
  have G20 : ks0.Lies wF0 Zks0B0 := by first | exact G15.below hbF0 | exact G15.dbelow hbF0
  clear G15
  clear TF0 TE0 hbE0 hbF0 Mpf0E0 Mgcf0E0 Mgks0E0 Mqf0E0 Mks0E0
  go_wp2_with fail
  go_ret
  exact ⟨rfl, H.out.1⟩

end Go.Proofs.YtlpgkhdecccmlaaR
