/- FnExactSameProof: for all arguments impl.SameProof answers as the model does, and changes none of them. No condition. -/
import Derived.Test.YtlpgkhdecccmlaaRLSameProof
import Derived.Test.YtlpgkhdecccmlaaRSpj
import Derived.Test.YtlpgkhdecccmlaaRSpt
import Derived.Test.YtlpgkhdecccmlaaRPfO
import Derived.Test.YtlpgkhdecccmlaaRLaw
namespace Go.Proofs.YtlpgkhdecccmlaaR
open Go.RowKit Go.WideShapes Go.ChangeShapes Go.ChangeAt Go.Deep Go.WideElems
set_option linter.unusedVariables false

set_option maxRecDepth 100000 in
theorem sameProof_lifted (os : Os) (started : os.Started) (H : Type) (enc : TypeId × Value → H) :
    ReturnsInHanded {} Try.checked os 7 .any (Rows.fnExactSameProofSpec.pre6 enc Try.prog Try.f7 Rows.fnExactSameProofRow.domain false) (Rows.fnExactSameProofSpec.post enc Try.prog Try.f7 false true false false) := by
  refine returnsInHanded_of_change (C := Try.checked) Try.own started (by kernel_rfl) Try.func7
    (ChangeSpec.witness6 (enc := enc) (C := Try.checked) false ⟨#[], #[.agg #[.int .i64 0, .int .i64 0, .slice none 0 0], .agg #[.int .i64 0, .int .i64 0, .slice none 0 0]], []⟩ 8 (by kernel_rfl) (by kernel_rfl) (by kernel_rfl) (by kernel_rfl)) ?_
  intro W base args ds gs before hval0 hW _ _
  have hval : ∀ (j : Nat) t v, Try.f7.params[j]? = some t → args[j]? = some v → Value.okWide Try.prog W .any base t v := hval0
  have hW' := hW
  obtain ⟨p, q, hA0, hV, rfl, _, _⟩ := hW
  have hA : DataW.TrodAll enc Try.prog W 0 (fun _ => true) true Try.f7.params.toList args.toList ds p := hA0
  rw [Try.params7] at hA hval
  obtain ⟨v0, v1, d0, d1, z0, z1, rfl, rfl, rfl, h0, h1⟩ := trodAll_two hA
  obtain ⟨rfl, rfl⟩ := trodVars_none hV
  obtain ⟨gt0, ga0, cl0, Acl0, Ccl0, rfl, l_cl0⟩ := lProof_open (hval 0 63 v0 rfl rfl) h0
  obtain ⟨gt1, ga1, cl1, Acl1, Ccl1, rfl, l_cl1⟩ := lProof_open (hval 1 63 v1 rfl rfl) h1
  clear hA0 hval0
  refine (lawSameProof gt0 ga0 cl0 Acl0 Ccl0 gt1 ga1 cl1 Acl1 Ccl1 (fun _ W Zcl0 Zcl1 h h' => specSameProof_any gt0 ga0 cl0 gt1 ga1 cl1 l_cl0.2 Zcl0 Zcl1 _ _ W h h') (fun _ W Zcl0 Zcl1 h h' => implSameProof_any gt0 ga0 cl0 gt1 ga1 cl1 l_cl0.2 Zcl0 Zcl1 _ _ W h h') W l_cl0.2 l_cl0.1 l_cl1.2 l_cl1.1).mono fun e W' ⟨he, hb⟩ => ?_
  subst he
  exact ⟨_, rfl, law_end Try.laidOut Try.underlying4 rfl (by kernel_rfl) (by rw [Try.params7]; intro t ht; simp at ht; rcases ht with rfl <;> exact ⟨by kernel_rfl, of_decide_eq_true (by kernel_rfl)⟩) rfl rfl rfl hW' hb⟩

theorem sameProof_holds : Rows.FnExactSameProofSaid :=
  OpenClaim.holds_of_wide 7 Try.f7 rfl rfl rfl rfl rfl rfl rfl ⟨rfl, rfl, rfl, rfl, rfl⟩ rfl rfl rfl rfl rfl (by kernel_rfl) Try.func7 (by kernel_rfl)
    (of_decide_eq_true (by kernel_rfl)) (by unfold Func.isWrapper; first | (rw [if_pos (by decide +kernel)]; kernel_rfl) | (rw [if_neg (by decide +kernel)]; exact ⟨rfl, rfl⟩))
    (fun os started H enc _ => sameProof_lifted os started H enc)

#print axioms sameProof_holds
end Go.Proofs.YtlpgkhdecccmlaaR
