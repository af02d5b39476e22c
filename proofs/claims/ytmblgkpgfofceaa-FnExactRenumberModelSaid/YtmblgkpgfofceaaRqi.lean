/- FnExactRenumberModel: for all arguments impl.RenumberModel answers as the model does, changes none of them, and its answer owns its memory. No condition. -/
import Derived.Test.YtmblgkpgfofceaaLRenumberModel
import Derived.Test.YtmblgkpgfofceaaRqf
import Derived.Test.YtmblgkpgfofceaaRqg
import Derived.Test.YtmblgkpgfofceaaRqh
namespace Go.Proofs.Ytmblgkpgfofceaa
open Go.RowKit Go.WideShapes Go.ChangeShapes Go.ChangeAt Go.Deep Go.WideElems
set_option linter.unusedVariables false


set_option maxRecDepth 100000 in
theorem renumberModel_lifted (os : Os) (started : os.Started) (H : Type) (enc : TypeId × Value → H) :
    ReturnsInHanded {} Try.checked os 8 .any (Rows.fnExactRenumberModelSpec.pre6 enc Try.prog Try.f8 Rows.fnExactRenumberModelRow.domain false) (Rows.fnExactRenumberModelSpec.post enc Try.prog Try.f8 false true false false) := by
  refine returnsInHanded_of_change (C := Try.checked) Try.own started (by kernel_rfl) Try.func8
    (ChangeSpec.witness6 (enc := enc) (C := Try.checked) false ⟨#[], #[.agg #[.int .i64 0, .int .i64 0, .int .i64 0, .slice none 0 0, .slice none 0 0], .slice none 0 0], []⟩ 8 (by kernel_rfl) (by kernel_rfl) (by kernel_rfl) (by kernel_rfl)) ?_
  intro W base args ds gs before hval0 hW _ _
  have hval : ∀ (j : Nat) t v, Try.f8.params[j]? = some t → args[j]? = some v → Value.okWide Try.prog W .any base t v := hval0
  have hW' := hW
  obtain ⟨p, q, hA0, hV, rfl, _, _⟩ := hW
  have hA : DataW.TrodAll enc Try.prog W 0 (fun _ => true) true Try.f8.params.toList args.toList ds p := hA0
  rw [Try.params8] at hA hval
  obtain ⟨v0, v1, d0, d1, z0, z1, rfl, rfl, rfl, h0, h1⟩ := trodAll_two hA
  obtain ⟨rfl, rfl⟩ := trodVars_none hV
  obtain ⟨t0, a0, u0, ac0, nx0, A0, B0, C0, D0, rfl, hl0, hr0, hm0, wt0, wa0, wu0⟩ := lmodel_open (hval 0 60 v0 rfl rfl) h0
  obtain ⟨p1, A1, C1, rfl, hl1, hm1, hw1⟩ := lints_open (hval 1 26 v1 rfl rfl) h1
  clear hA0 hval0
  refine (lawRenumberModel t0 a0 u0 ac0 nx0 A0 B0 C0 D0 p1 A1 C1 (fun _ _ => rnO_small t0 a0 u0 ac0 nx0 p1) (fun h0 hp W Z0 Y0 Z1 h h' h'' => specRenumberModel_any t0 a0 u0 ac0 nx0 p1 (modN_small h0) hp Z0 Y0 Z1 _ _ _ W h h' h'') (fun h0 hp W Z0 Y0 Z1 h h' h'' => implRenumberModel_any t0 a0 u0 ac0 nx0 p1 (modN_small h0) hp Z0 Y0 Z1 _ _ _ W h h' h'') W hm0 hl0 hr0 hm1 hl1).mono fun e W' ⟨he, hb⟩ => ?_
  subst he
  exact ⟨_, rfl, law_end Try.laidOut Try.underlying4 rfl (by kernel_rfl) (by rw [Try.params8]; intro t ht; simp at ht; rcases ht with rfl | rfl <;> exact ⟨by kernel_rfl, of_decide_eq_true (by kernel_rfl)⟩) rfl rfl rfl hW' hb⟩

theorem renumberModel_holds : Rows.FnExactRenumberModelSaid :=
  OpenClaim.holds_of_wide 8 Try.f8 rfl rfl rfl rfl rfl rfl rfl ⟨rfl, rfl, rfl, rfl, rfl⟩ rfl rfl rfl rfl rfl (by kernel_rfl) Try.func8 (by kernel_rfl)
    (of_decide_eq_true (by kernel_rfl)) (by unfold Func.isWrapper; first | (rw [if_pos (by decide +kernel)]; kernel_rfl) | (rw [if_neg (by decide +kernel)]; exact ⟨rfl, rfl⟩))
    (fun os started H enc _ => renumberModel_lifted os started H enc)

#print axioms renumberModel_holds
end Go.Proofs.Ytmblgkpgfofceaa
