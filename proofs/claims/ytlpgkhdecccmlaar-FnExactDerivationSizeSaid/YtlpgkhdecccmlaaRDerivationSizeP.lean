/- FnExactDerivationSize: for all arguments impl.DerivationSize answers as the model does, and changes none of them. No condition. -/
import Derived.Test.YtlpgkhdecccmlaaRLDerivationSize
import Derived.Test.YtlpgkhdecccmlaaRDsz
import Derived.Test.YtlpgkhdecccmlaaRDvO
import Derived.Test.YtlpgkhdecccmlaaRLaw
namespace Go.Proofs.YtlpgkhdecccmlaaR
open Go.RowKit Go.WideShapes Go.ChangeShapes Go.ChangeAt Go.Deep Go.WideElems
set_option linter.unusedVariables false

set_option maxRecDepth 100000 in
theorem derivationSize_lifted (os : Os) (started : os.Started) (H : Type) (enc : TypeId × Value → H) :
    ReturnsInHanded {} Try.checked os 9 .any (Rows.fnExactDerivationSizeSpec.pre6 enc Try.prog Try.f9 Rows.fnExactDerivationSizeRow.domain false) (Rows.fnExactDerivationSizeSpec.post enc Try.prog Try.f9 false true false false) := by
  refine returnsInHanded_of_change (C := Try.checked) Try.own started (by kernel_rfl) Try.func9
    (ChangeSpec.witness6 (enc := enc) (C := Try.checked) false ⟨#[], #[.agg #[.int .i64 0, .int .i64 0, .int .i64 0, .slice none 0 0, .int .i64 0, .int .i64 0, .int .i64 0, .int .i64 0, .slice none 0 0, .slice none 0 0, .int .i64 0, .int .i64 0, .slice none 0 0, .slice none 0 0]], []⟩ 8 (by kernel_rfl) (by kernel_rfl) (by kernel_rfl) (by kernel_rfl)) ?_
  intro W base args ds gs before hval0 hW _ _
  have hval : ∀ (j : Nat) t v, Try.f9.params[j]? = some t → args[j]? = some v → Value.okWide Try.prog W .any base t v := hval0
  have hW' := hW
  obtain ⟨p, q, hA0, hV, rfl, _, _⟩ := hW
  have hA : DataW.TrodAll enc Try.prog W 0 (fun _ => true) true Try.f9.params.toList args.toList ds p := hA0
  rw [Try.params9] at hA hval
  obtain ⟨v0, d0, rfl, rfl, h0⟩ := trodAll_one hA
  obtain ⟨rfl, rfl⟩ := trodVars_none hV
  obtain ⟨ru0, pk0, pn0, pf0, gk0, gn0, gck0, gcn0, gcf0, gks0, qk0, qn0, qf0, ks0, Apf0, Agcf0, Agks0, Aqf0, Aks0, Cpf0, Cgcf0, Cgks0, Cqf0, Cks0, rfl, l_pf0, l_gcf0, l_gks0, l_qf0, l_ks0⟩ := lDerivation_open (hval 0 80 v0 rfl rfl) h0
  clear hA0 hval0
  refine (lawDerivationSize ru0 pk0 pn0 pf0 gk0 gn0 gck0 gcn0 gcf0 gks0 qk0 qn0 qf0 ks0 Apf0 Agcf0 Agks0 Aqf0 Aks0 Cpf0 Cgcf0 Cgks0 Cqf0 Cks0 (fun h0 W Zpf0 Zgcf0 Zgks0 Zqf0 Zks0 hpf hgcf hgks hqf hks => specDerivationSize_any ru0 pk0 pn0 pf0 gk0 gn0 gck0 gcn0 gcf0 gks0 qk0 qn0 qf0 ks0 (by omega) Zpf0 Zgcf0 Zgks0 Zqf0 Zks0 _ _ _ _ _ W hks) (fun h0 W Zpf0 Zgcf0 Zgks0 Zqf0 Zks0 hpf hgcf hgks hqf hks => implDerivationSize_any (ks0.nodes + 1) ks0 (Nat.lt_succ_self _) (by omega) ru0 pk0 pn0 pf0 gk0 gn0 gck0 gcn0 gcf0 gks0 qk0 qn0 qf0 Zpf0 Zgcf0 Zgks0 Zqf0 Zks0 _ _ _ _ _ W hks) W l_pf0.2 l_gcf0.2 l_gks0.2 l_qf0.2 l_ks0.2 l_pf0.1 l_gcf0.1 l_gks0.1 l_qf0.1 l_ks0.1).mono fun e W' ⟨he, hb⟩ => ?_
  subst he
  exact ⟨_, rfl, law_end Try.laidOut Try.underlying4 rfl (by kernel_rfl) (by rw [Try.params9]; intro t ht; simp at ht; rcases ht with rfl <;> exact ⟨by kernel_rfl, of_decide_eq_true (by kernel_rfl)⟩) rfl rfl rfl hW' hb⟩

theorem derivationSize_holds : Rows.FnExactDerivationSizeSaid :=
  OpenClaim.holds_of_wide 9 Try.f9 rfl rfl rfl rfl rfl rfl rfl ⟨rfl, rfl, rfl, rfl, rfl⟩ rfl rfl rfl rfl rfl (by kernel_rfl) Try.func9 (by kernel_rfl)
    (of_decide_eq_true (by kernel_rfl)) (by unfold Func.isWrapper; first | (rw [if_pos (by decide +kernel)]; kernel_rfl) | (rw [if_neg (by decide +kernel)]; exact ⟨rfl, rfl⟩))
    (fun os started H enc _ => derivationSize_lifted os started H enc)

#print axioms derivationSize_holds
end Go.Proofs.YtlpgkhdecccmlaaR
