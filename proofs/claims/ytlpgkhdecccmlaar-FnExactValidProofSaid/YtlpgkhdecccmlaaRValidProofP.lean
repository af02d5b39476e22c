/- FnExactValidProof: for all arguments impl.ValidProof answers as the model does, and changes none of them. No condition. -/
import Derived.Test.YtlpgkhdecccmlaaRLValidProof
import Derived.Test.YtlpgkhdecccmlaaRPvJ
import Derived.Test.YtlpgkhdecccmlaaRPvU
import Derived.Test.YtlpgkhdecccmlaaRPfO
import Derived.Test.YtlpgkhdecccmlaaRLaw
namespace Go.Proofs.YtlpgkhdecccmlaaR
open Go.RowKit Go.WideShapes Go.ChangeShapes Go.ChangeAt Go.Deep Go.WideElems
set_option linter.unusedVariables false

set_option maxRecDepth 100000 in
theorem validProof_lifted (os : Os) (started : os.Started) (H : Type) (enc : TypeId × Value → H) :
    ReturnsInHanded {} Try.checked os 8 .any (Rows.fnExactValidProofSpec.pre6 enc Try.prog Try.f8 Rows.fnExactValidProofRow.domain false) (Rows.fnExactValidProofSpec.post enc Try.prog Try.f8 false true false false) := by
  refine returnsInHanded_of_change (C := Try.checked) Try.own started (by kernel_rfl) Try.func8
    (ChangeSpec.witness6 (enc := enc) (C := Try.checked) false ⟨#[], #[.agg #[.int .i64 0, .int .i64 0, .slice none 0 0]], []⟩ 8 (by kernel_rfl) (by kernel_rfl) (by kernel_rfl) (by kernel_rfl)) ?_
  intro W base args ds gs before hval0 hW _ _
  have hval : ∀ (j : Nat) t v, Try.f8.params[j]? = some t → args[j]? = some v → Value.okWide Try.prog W .any base t v := hval0
  have hW' := hW
  obtain ⟨p, q, hA0, hV, rfl, _, _⟩ := hW
  have hA : DataW.TrodAll enc Try.prog W 0 (fun _ => true) true Try.f8.params.toList args.toList ds p := hA0
  rw [Try.params8] at hA hval
  obtain ⟨v0, d0, rfl, rfl, h0⟩ := trodAll_one hA
  obtain ⟨rfl, rfl⟩ := trodVars_none hV
  obtain ⟨gt0, ga0, cl0, Acl0, Ccl0, rfl, l_cl0⟩ := lProof_open (hval 0 63 v0 rfl rfl) h0
  clear hA0 hval0
  refine (lawValidProof gt0 ga0 cl0 Acl0 Ccl0 (fun h0 W Zcl0 h => specValidProof_any gt0 ga0 cl0 l_cl0.2 (by omega) Zcl0 _ W h) (fun h0 W Zcl0 h => implValidProof_any gt0 ga0 cl0 l_cl0.2 (by omega) Zcl0 _ W h) W l_cl0.2 l_cl0.1).mono fun e W' ⟨he, hb⟩ => ?_
  subst he
  exact ⟨_, rfl, law_end Try.laidOut Try.underlying4 rfl (by kernel_rfl) (by rw [Try.params8]; intro t ht; simp at ht; rcases ht with rfl <;> exact ⟨by kernel_rfl, of_decide_eq_true (by kernel_rfl)⟩) rfl rfl rfl hW' hb⟩

theorem validProof_holds : Rows.FnExactValidProofSaid :=
  OpenClaim.holds_of_wide 8 Try.f8 rfl rfl rfl rfl rfl rfl rfl ⟨rfl, rfl, rfl, rfl, rfl⟩ rfl rfl rfl rfl rfl (by kernel_rfl) Try.func8 (by kernel_rfl)
    (of_decide_eq_true (by kernel_rfl)) (by unfold Func.isWrapper; first | (rw [if_pos (by decide +kernel)]; kernel_rfl) | (rw [if_neg (by decide +kernel)]; exact ⟨rfl, rfl⟩))
    (fun os started H enc _ => validProof_lifted os started H enc)

#print axioms validProof_holds
end Go.Proofs.YtlpgkhdecccmlaaR
