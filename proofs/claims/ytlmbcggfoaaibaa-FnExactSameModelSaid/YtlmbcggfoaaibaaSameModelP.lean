/- FnExactSameModel: for all arguments impl.SameModel answers as the model does, and changes none of them. No condition. -/
import Derived.Test.YtlmbcggfoaaibaaLSameModel
import Derived.Test.YtlmbcggfoaaibaaSmMS
import Derived.Test.YtlmbcggfoaaibaaSmM
import Derived.Test.YtlmbcggfoaaibaaModO
import Derived.Test.YtlmbcggfoaaibaaLaw
namespace Go.Proofs.Ytlmbcggfoaaibaa
open Go.RowKit Go.WideShapes Go.ChangeShapes Go.ChangeAt Go.Deep Go.WideElems
set_option linter.unusedVariables false

set_option maxRecDepth 100000 in
theorem sameModel_lifted (os : Os) (started : os.Started) (H : Type) (enc : TypeId × Value → H) :
    ReturnsInHanded {} Try.checked os 4 .any (Rows.fnExactSameModelSpec.pre6 enc Try.prog Try.f4 Rows.fnExactSameModelRow.domain false) (Rows.fnExactSameModelSpec.post enc Try.prog Try.f4 false true false false) := by
  refine returnsInHanded_of_change (C := Try.checked) Try.own started (by kernel_rfl) Try.func4
    (ChangeSpec.witness6 (enc := enc) (C := Try.checked) false ⟨#[], #[.agg #[.int .i64 0, .int .i64 0, .int .i64 0, .slice none 0 0, .slice none 0 0], .agg #[.int .i64 0, .int .i64 0, .int .i64 0, .slice none 0 0, .slice none 0 0]], []⟩ 8 (by kernel_rfl) (by kernel_rfl) (by kernel_rfl) (by kernel_rfl)) ?_
  intro W base args ds gs before hval0 hW _ _
  have hval : ∀ (j : Nat) t v, Try.f4.params[j]? = some t → args[j]? = some v → Value.okWide Try.prog W .any base t v := hval0
  have hW' := hW
  obtain ⟨p, q, hA0, hV, rfl, _, _⟩ := hW
  have hA : DataW.TrodAll enc Try.prog W 0 (fun _ => true) true Try.f4.params.toList args.toList ds p := hA0
  rw [Try.params4] at hA hval
  obtain ⟨v0, v1, d0, d1, z0, z1, rfl, rfl, rfl, h0, h1⟩ := trodAll_two hA
  obtain ⟨rfl, rfl⟩ := trodVars_none hV
  obtain ⟨t0, a0, u0, ac0, nx0, A0, B0, C0, D0, rfl, hl0, hr0, hm0, wt0, wa0, wu0⟩ := lmodel_open (hval 0 27 v0 rfl rfl) h0
  obtain ⟨t1, a1, u1, ac1, nx1, A1, B1, C1, D1, rfl, hl1, hr1, hm1, wt1, wa1, wu1⟩ := lmodel_open (hval 1 27 v1 rfl rfl) h1
  clear hA0 hval0
  refine (lawSameModel t0 a0 u0 ac0 nx0 A0 B0 C0 D0 t1 a1 u1 ac1 nx1 A1 B1 C1 D1 (fun _ W Z0 Y0 Z1 Y1 h1 h2 h3 h4 => specSameModel_any t0 a0 u0 ac0 nx0 t1 a1 u1 ac1 nx1 hm0 Z0 Y0 Z1 Y1 _ _ _ _ W h1 h2 h3 h4) (fun _ W Z0 Y0 Z1 Y1 h1 h2 h3 h4 => implSameModel_any t0 a0 u0 ac0 nx0 t1 a1 u1 ac1 nx1 hm0 Z0 Y0 Z1 Y1 _ _ _ _ W h1 h2 h3 h4) W hm0 hl0 hr0 hm1 hl1 hr1).mono fun e W' ⟨he, hb⟩ => ?_
  subst he
  exact ⟨_, rfl, law_end Try.laidOut Try.underlying4 rfl (by kernel_rfl) (by rw [Try.params4]; intro t ht; simp at ht; rcases ht with rfl <;> exact ⟨by kernel_rfl, of_decide_eq_true (by kernel_rfl)⟩) rfl rfl rfl hW' hb⟩

theorem sameModel_holds : Rows.FnExactSameModelSaid :=
  OpenClaim.holds_of_wide 4 Try.f4 rfl rfl rfl rfl rfl rfl rfl ⟨rfl, rfl, rfl, rfl, rfl⟩ rfl rfl rfl rfl rfl (by kernel_rfl) Try.func4 (by kernel_rfl)
    (of_decide_eq_true (by kernel_rfl)) (by unfold Func.isWrapper; first | (rw [if_pos (by decide +kernel)]; kernel_rfl) | (rw [if_neg (by decide +kernel)]; exact ⟨rfl, rfl⟩))
    (fun os started H enc _ => sameModel_lifted os started H enc)

#print axioms sameModel_holds
end Go.Proofs.Ytlmbcggfoaaibaa
