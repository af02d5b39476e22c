/- FnExactSameProg: for all arguments impl.SameProg answers as the model does, and changes none of them. No condition. -/
import Derived.Test.YtlfafcbieeambaaLSameProg
import Derived.Test.YtlfafcbieeambaaPgM
import Derived.Test.YtlfafcbieeambaaPgN
import Derived.Test.YtlfafcbieeambaaPgO
import Derived.Test.YtlfafcbieeambaaLaw
namespace Go.Proofs.Ytlfafcbieeambaa
open Go.RowKit Go.WideShapes Go.ChangeShapes Go.ChangeAt Go.Deep Go.WideElems
set_option linter.unusedVariables false

set_option maxRecDepth 100000 in
theorem sameProg_lifted (os : Os) (started : os.Started) (H : Type) (enc : TypeId × Value → H) :
    ReturnsInHanded {} Try.checked os 4 .any (Rows.fnExactSameProgSpec.pre6 enc Try.prog Try.f4 Rows.fnExactSameProgRow.domain false) (Rows.fnExactSameProgSpec.post enc Try.prog Try.f4 false true false false) := by
  refine returnsInHanded_of_change (C := Try.checked) Try.own started (by kernel_rfl) Try.func4
    (ChangeSpec.witness6 (enc := enc) (C := Try.checked) false ⟨#[], #[.agg #[.int .i64 0, .int .i64 0, .int .i64 0, .int .i64 0, .slice none 0 0, .slice none 0 0], .agg #[.int .i64 0, .int .i64 0, .int .i64 0, .int .i64 0, .slice none 0 0, .slice none 0 0]], []⟩ 8 (by kernel_rfl) (by kernel_rfl) (by kernel_rfl) (by kernel_rfl)) ?_
  intro W base args ds gs before hval0 hW _ _
  have hval : ∀ (j : Nat) t v, Try.f4.params[j]? = some t → args[j]? = some v → Value.okWide Try.prog W .any base t v := hval0
  have hW' := hW
  obtain ⟨p, q, hA0, hV, rfl, _, _⟩ := hW
  have hA : DataW.TrodAll enc Try.prog W 0 (fun _ => true) true Try.f4.params.toList args.toList ds p := hA0
  rw [Try.params4] at hA hval
  obtain ⟨v0, v1, d0, d1, z0, z1, rfl, rfl, rfl, h0, h1⟩ := trodAll_two hA
  obtain ⟨rfl, rfl⟩ := trodVars_none hV
  obtain ⟨k0, n0, ck0, cn0, cf0, A0, C0, f0, B0, D0, rfl, ⟨hl0, hcm0, hc0⟩, hr0, hfm0, hf0, wk0⟩ := lprog_open (hval 0 45 v0 rfl rfl) h0
  obtain ⟨k1, n1, ck1, cn1, cf1, A1, C1, f1, B1, D1, rfl, ⟨hl1, hcm1, hc1⟩, hr1, hfm1, hf1, wk1⟩ := lprog_open (hval 1 45 v1 rfl rfl) h1
  clear hA0 hval0
  refine (lawSameProg k0 n0 ck0 cn0 cf0 f0 A0 B0 C0 D0 k1 n1 ck1 cn1 cf1 f1 A1 B1 C1 D1 (fun _ W Z0 Y0 Z1 Y1 h1 h2 h3 h4 => specSameProg_any cf0 f0 cf1 f1 hcm0 hc0 hfm0 hf0 k0 n0 ck0 cn0 k1 n1 ck1 cn1 Z0 Y0 Z1 Y1 _ _ _ _ W h1 h2 h3 h4) (fun _ W Z0 Y0 Z1 Y1 h1 h2 h3 h4 => implSameProg_any cf0 f0 cf1 f1 hcm0 hc0 hfm0 hf0 k0 n0 ck0 cn0 k1 n1 ck1 cn1 Z0 Y0 Z1 Y1 _ _ _ _ W h1 h2 h3 h4) W ⟨hcm0, hfm0⟩ hc0 hf0 hl0 hr0 ⟨hcm1, hfm1⟩ hc1 hf1 hl1 hr1).mono fun e W' ⟨he, hb⟩ => ?_
  subst he
  exact ⟨_, rfl, law_end Try.laidOut Try.underlying4 rfl (by kernel_rfl) (by rw [Try.params4]; intro t ht; simp at ht; rcases ht with rfl <;> exact ⟨by kernel_rfl, of_decide_eq_true (by kernel_rfl)⟩) rfl rfl rfl hW' hb⟩

theorem sameProg_holds : Rows.FnExactSameProgSaid :=
  OpenClaim.holds_of_wide 4 Try.f4 rfl rfl rfl rfl rfl rfl rfl ⟨rfl, rfl, rfl, rfl, rfl⟩ rfl rfl rfl rfl rfl (by kernel_rfl) Try.func4 (by kernel_rfl)
    (of_decide_eq_true (by kernel_rfl)) (by unfold Func.isWrapper; first | (rw [if_pos (by decide +kernel)]; kernel_rfl) | (rw [if_neg (by decide +kernel)]; exact ⟨rfl, rfl⟩))
    (fun os started H enc _ => sameProg_lifted os started H enc)

#print axioms sameProg_holds
end Go.Proofs.Ytlfafcbieeambaa
