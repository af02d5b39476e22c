/- FnExactConditionOf: for all arguments impl.ConditionOf answers as the model does, changes none of them, and its answer owns its memory. No condition. -/
import Derived.Test.YtlpgkhdecccmlaaRLConditionOf
import Derived.Test.YtlpgkhdecccmlaaRConT
import Derived.Test.YtlpgkhdecccmlaaRConI
import Derived.Test.YtlpgkhdecccmlaaRLawL
import Derived.Test.YtlpgkhdecccmlaaRLaw
namespace Go.Proofs.YtlpgkhdecccmlaaR
open Go.RowKit Go.WideShapes Go.ChangeShapes Go.ChangeAt Go.Deep Go.WideElems
set_option linter.unusedVariables false


set_option maxRecDepth 100000 in
theorem conditionOf_lifted (os : Os) (started : os.Started) (H : Type) (enc : TypeId × Value → H) :
    ReturnsInHanded {} Try.checked os 4 .any (Rows.fnExactConditionOfSpec.pre6 enc Try.prog Try.f4 Rows.fnExactConditionOfRow.domain false) (Rows.fnExactConditionOfSpec.post enc Try.prog Try.f4 false true false false) := by
  refine returnsInHanded_of_change (C := Try.checked) Try.own started (by kernel_rfl) Try.func4
    (ChangeSpec.witness6 (enc := enc) (C := Try.checked) false ⟨#[], #[.agg #[.int .i64 0, .int .i64 0], .slice none 0 0], []⟩ 8 (by kernel_rfl) (by kernel_rfl) (by kernel_rfl) (by kernel_rfl)) ?_
  intro W base args ds gs before hval0 hW _ _
  have hval : ∀ (j : Nat) t v, Try.f4.params[j]? = some t → args[j]? = some v → Value.okWide Try.prog W .any base t v := hval0
  have hW' := hW
  obtain ⟨p, q, hA0, hV, rfl, _, _⟩ := hW
  have hA : DataW.TrodAll enc Try.prog W 0 (fun _ => true) true Try.f4.params.toList args.toList ds p := hA0
  rw [Try.params4] at hA hval
  obtain ⟨v0, v1, d0, d1, z0, z1, rfl, rfl, rfl, h0, h1⟩ := trodAll_two hA
  obtain ⟨rfl, rfl⟩ := trodVars_none hV
  obtain ⟨t0, a0, rfl, wt0, wa0⟩ := lsig_open (hval 0 23 v0 rfl rfl) h0
  obtain ⟨p1, A1, C1, rfl, hl1, hm1, hw1⟩ := lints_open (hval 1 28 v1 rfl rfl) h1
  clear hA0 hval0
  refine (lawConditionOf t0 a0 p1 A1 C1 (fun _ _ => cnF_nodes t0 a0 p1) (fun _ hp W Z1 h => specConditionOf_any t0 a0 p1 hp Z1 _ W h) (fun _ hp W Z1 h => implConditionOf_any t0 a0 p1 hp Z1 _ W h) W hm1 hl1).mono fun e W' ⟨he, hb⟩ => ?_
  subst he
  exact ⟨_, rfl, law_end Try.laidOut Try.underlying4 rfl (by kernel_rfl) (by rw [Try.params4]; intro t ht; simp at ht; rcases ht with rfl | rfl <;> exact ⟨by kernel_rfl, of_decide_eq_true (by kernel_rfl)⟩) rfl rfl rfl hW' hb⟩

theorem conditionOf_holds : Rows.FnExactConditionOfSaid :=
  OpenClaim.holds_of_wide 4 Try.f4 rfl rfl rfl rfl rfl rfl rfl ⟨rfl, rfl, rfl, rfl, rfl⟩ rfl rfl rfl rfl rfl (by kernel_rfl) Try.func4 (by kernel_rfl)
    (of_decide_eq_true (by kernel_rfl)) (by unfold Func.isWrapper; first | (rw [if_pos (by decide +kernel)]; kernel_rfl) | (rw [if_neg (by decide +kernel)]; exact ⟨rfl, rfl⟩))
    (fun os started H enc _ => conditionOf_lifted os started H enc)

#print axioms conditionOf_holds
end Go.Proofs.YtlpgkhdecccmlaaR
