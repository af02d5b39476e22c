/- FnExactAtomOf: for all arguments impl.AtomOf answers as the model does, and changes none of them. No condition. -/
import Derived.Test.YtlmbcggfoaaibaaLAtomOf
import Derived.Test.YtlmbcggfoaaibaaAtmS
import Derived.Test.YtlmbcggfoaaibaaAtmI
import Derived.Test.YtlmbcggfoaaibaaModO
import Derived.Test.YtlmbcggfoaaibaaLaw
namespace Go.Proofs.Ytlmbcggfoaaibaa
open Go.RowKit Go.WideShapes Go.ChangeShapes Go.ChangeAt Go.Deep Go.WideElems
set_option linter.unusedVariables false

set_option maxRecDepth 100000 in
theorem atomOf_lifted (os : Os) (started : os.Started) (H : Type) (enc : TypeId × Value → H) :
    ReturnsInHanded {} Try.checked os 6 .any (Rows.fnExactAtomOfSpec.pre6 enc Try.prog Try.f6 Rows.fnExactAtomOfRow.domain false) (Rows.fnExactAtomOfSpec.post enc Try.prog Try.f6 false true false false) := by
  refine returnsInHanded_of_change (C := Try.checked) Try.own started (by kernel_rfl) Try.func6
    (ChangeSpec.witness6 (enc := enc) (C := Try.checked) false ⟨#[], #[.agg #[.int .i64 0, .int .i64 0, .int .i64 0, .slice none 0 0, .slice none 0 0], .int .i64 0], []⟩ 8 (by kernel_rfl) (by kernel_rfl) (by kernel_rfl) (by kernel_rfl)) ?_
  intro W base args ds gs before hval0 hW _ _
  have hval : ∀ (j : Nat) t v, Try.f6.params[j]? = some t → args[j]? = some v → Value.okWide Try.prog W .any base t v := hval0
  have hW' := hW
  obtain ⟨p, q, hA0, hV, rfl, _, _⟩ := hW
  have hA : DataW.TrodAll enc Try.prog W 0 (fun _ => true) true Try.f6.params.toList args.toList ds p := hA0
  rw [Try.params6] at hA hval
  obtain ⟨v0, v1, d0, d1, z0, z1, rfl, rfl, rfl, h0, h1⟩ := trodAll_two hA
  obtain ⟨rfl, rfl⟩ := trodVars_none hV
  obtain ⟨t0, a0, u0, ac0, nx0, A0, B0, C0, D0, rfl, hl0, hr0, hm0, wt0, wa0, wu0⟩ := lmodel_open (hval 0 27 v0 rfl rfl) h0
  obtain ⟨m1, rfl, rfl, rfl, wm1⟩ := open_int Try.underlying2 (hval 1 2 v1 rfl rfl) h1
  clear hA0 hval0
  refine (lawAtomOf t0 a0 u0 ac0 nx0 A0 B0 C0 D0 m1 (fun h0 W Z0 Y0 h h' => specAtomOf_any t0 a0 u0 ac0 nx0 m1 wm1 (modN_small h0) Z0 Y0 _ _ W h h') (fun h0 W Z0 Y0 h h' => implAtomOf_any t0 a0 u0 ac0 nx0 m1 wm1 (modN_small h0) Z0 Y0 _ _ W h h') W hm0 hl0 hr0).mono fun e W' ⟨he, hb⟩ => ?_
  subst he
  exact ⟨_, rfl, law_end Try.laidOut Try.underlying4 rfl (by kernel_rfl) (by rw [Try.params6]; intro t ht; simp at ht; rcases ht with rfl | rfl <;> exact ⟨by kernel_rfl, of_decide_eq_true (by kernel_rfl)⟩) rfl rfl rfl hW' hb⟩

theorem atomOf_holds : Rows.FnExactAtomOfSaid :=
  OpenClaim.holds_of_wide 6 Try.f6 rfl rfl rfl rfl rfl rfl rfl ⟨rfl, rfl, rfl, rfl, rfl⟩ rfl rfl rfl rfl rfl (by kernel_rfl) Try.func6 (by kernel_rfl)
    (of_decide_eq_true (by kernel_rfl)) (by unfold Func.isWrapper; first | (rw [if_pos (by decide +kernel)]; kernel_rfl) | (rw [if_neg (by decide +kernel)]; exact ⟨rfl, rfl⟩))
    (fun os started H enc _ => atomOf_lifted os started H enc)

#print axioms atomOf_holds
end Go.Proofs.Ytlmbcggfoaaibaa
