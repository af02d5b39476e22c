/- FnExactAtomsOf: for all arguments impl.AtomsOf answers as the model does, changes none of them, and its answer owns its memory. No condition. -/
import Derived.Test.YtlpgkhdecccmlaaRLAtomsOf
import Derived.Test.YtlpgkhdecccmlaaRAtS
import Derived.Test.YtlpgkhdecccmlaaRAtI
import Derived.Test.YtlpgkhdecccmlaaRLaw
namespace Go.Proofs.YtlpgkhdecccmlaaR
open Go.RowKit Go.WideShapes Go.ChangeShapes Go.ChangeAt Go.Deep Go.WideElems
set_option linter.unusedVariables false


set_option maxRecDepth 100000 in
theorem atomsOf_lifted (os : Os) (started : os.Started) (H : Type) (enc : TypeId × Value → H) :
    ReturnsInHanded {} Try.checked os 3 .any (Rows.fnExactAtomsOfSpec.pre6 enc Try.prog Try.f3 Rows.fnExactAtomsOfRow.domain false) (Rows.fnExactAtomsOfSpec.post enc Try.prog Try.f3 false true false false) := by
  refine returnsInHanded_of_change (C := Try.checked) Try.own started (by kernel_rfl) Try.func3
    (ChangeSpec.witness6 (enc := enc) (C := Try.checked) false ⟨#[], #[.agg #[.int .i64 0, .int .i64 0], .agg #[.int .i64 0, .int .i64 0, .slice none 0 0]], []⟩ 8 (by kernel_rfl) (by kernel_rfl) (by kernel_rfl) (by kernel_rfl)) ?_
  intro W base args ds gs before hval0 hW _ _
  have hval : ∀ (j : Nat) t v, Try.f3.params[j]? = some t → args[j]? = some v → Value.okWide Try.prog W .any base t v := hval0
  have hW' := hW
  obtain ⟨p, q, hA0, hV, rfl, _, _⟩ := hW
  have hA : DataW.TrodAll enc Try.prog W 0 (fun _ => true) true Try.f3.params.toList args.toList ds p := hA0
  rw [Try.params3] at hA hval
  obtain ⟨v0, v1, d0, d1, z0, z1, rfl, rfl, rfl, h0, h1⟩ := trodAll_two hA
  obtain ⟨rfl, rfl⟩ := trodVars_none hV
  obtain ⟨t0, a0, rfl, wt0, wa0⟩ := lsig_open (hval 0 23 v0 rfl rfl) h0
  obtain ⟨k1, n1, f1, A1, C1, rfl, hl1, hm1, hf1, wk1, wn1⟩ := lexpr_open (hval 1 26 v1 rfl rfl) h1
  clear hA0 hval0
  refine (lawAtomsOf t0 a0 f1 k1 n1 A1 C1 (fun _ => atR_len t0 a0 k1 n1 f1) (fun h0 W Z1 h => specAtomsOf_any t0 a0 k1 n1 f1 hf1 h0 Z1 _ W h) (fun h0 W Z1 h => implAtomsOf_any t0 a0 k1 n1 f1 hf1 h0 Z1 _ W h) W hm1 hf1 hl1).mono fun e W' ⟨he, hb⟩ => ?_
  subst he
  exact ⟨_, rfl, law_end Try.laidOut Try.underlying4 rfl (by kernel_rfl) (by rw [Try.params3]; intro t ht; simp at ht; rcases ht with rfl | rfl <;> exact ⟨by kernel_rfl, of_decide_eq_true (by kernel_rfl)⟩) rfl rfl rfl hW' hb⟩

theorem atomsOf_holds : Rows.FnExactAtomsOfSaid :=
  OpenClaim.holds_of_wide 3 Try.f3 rfl rfl rfl rfl rfl rfl rfl ⟨rfl, rfl, rfl, rfl, rfl⟩ rfl rfl rfl rfl rfl (by kernel_rfl) Try.func3 (by kernel_rfl)
    (of_decide_eq_true (by kernel_rfl)) (by unfold Func.isWrapper; first | (rw [if_pos (by decide +kernel)]; kernel_rfl) | (rw [if_neg (by decide +kernel)]; exact ⟨rfl, rfl⟩))
    (fun os started H enc _ => atomsOf_lifted os started H enc)

#print axioms atomsOf_holds
end Go.Proofs.YtlpgkhdecccmlaaR
