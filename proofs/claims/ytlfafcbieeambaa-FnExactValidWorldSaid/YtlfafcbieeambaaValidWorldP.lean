/- FnExactValidWorld: for all arguments impl.ValidWorld answers as the model does, and changes none of them. No condition. -/
import Derived.Test.YtlfafcbieeambaaLValidWorld
import Derived.Test.YtlfafcbieeambaaWldS
import Derived.Test.YtlfafcbieeambaaWldI
import Derived.Test.YtlfafcbieeambaaWldO
import Derived.Test.YtlfafcbieeambaaLaw
namespace Go.Proofs.Ytlfafcbieeambaa
open Go.RowKit Go.WideShapes Go.ChangeShapes Go.ChangeAt Go.Deep Go.WideElems
set_option linter.unusedVariables false

set_option maxRecDepth 100000 in
theorem validWorld_lifted (os : Os) (started : os.Started) (H : Type) (enc : TypeId × Value → H) :
    ReturnsInHanded {} Try.checked os 5 .any (Rows.fnExactValidWorldSpec.pre6 enc Try.prog Try.f5 Rows.fnExactValidWorldRow.domain false) (Rows.fnExactValidWorldSpec.post enc Try.prog Try.f5 false true false false) := by
  refine returnsInHanded_of_change (C := Try.checked) Try.own started (by kernel_rfl) Try.func5
    (ChangeSpec.witness6 (enc := enc) (C := Try.checked) false ⟨#[], #[.agg #[.int .i64 0, .int .i64 0], .agg #[.slice none 0 0, .slice none 0 0]], []⟩ 8 (by kernel_rfl) (by kernel_rfl) (by kernel_rfl) (by kernel_rfl)) ?_
  intro W base args ds gs before hval0 hW _ _
  have hval : ∀ (j : Nat) t v, Try.f5.params[j]? = some t → args[j]? = some v → Value.okWide Try.prog W .any base t v := hval0
  have hW' := hW
  obtain ⟨p, q, hA0, hV, rfl, _, _⟩ := hW
  have hA : DataW.TrodAll enc Try.prog W 0 (fun _ => true) true Try.f5.params.toList args.toList ds p := hA0
  rw [Try.params5] at hA hval
  obtain ⟨v0, v1, d0, d1, z0, z1, rfl, rfl, rfl, h0, h1⟩ := trodAll_two hA
  obtain ⟨rfl, rfl⟩ := trodVars_none hV
  obtain ⟨t0, a0, rfl, wt0, wa0⟩ := lsig_open (hval 0 23 v0 rfl rfl) h0
  obtain ⟨p1, nx1, A1, B1, C1, D1, rfl, hl1, hr1, hm1⟩ := lworld_open (hval 1 55 v1 rfl rfl) h1
  clear hA0 hval0
  refine (lawValidWorld t0 a0 p1 nx1 A1 B1 C1 D1 (fun h0 W Z1 Y1 h h' => specValidWorld_any t0 a0 p1 nx1 (wldN_small h0) Z1 Y1 _ _ W h h') (fun h0 W Z1 Y1 h h' => implValidWorld_any t0 a0 p1 nx1 (wldN_small h0) Z1 Y1 _ _ W h h') W hm1 hl1 hr1).mono fun e W' ⟨he, hb⟩ => ?_
  subst he
  exact ⟨_, rfl, law_end Try.laidOut Try.underlying4 rfl (by kernel_rfl) (by rw [Try.params5]; intro t ht; simp at ht; rcases ht with rfl | rfl <;> exact ⟨by kernel_rfl, of_decide_eq_true (by kernel_rfl)⟩) rfl rfl rfl hW' hb⟩

theorem validWorld_holds : Rows.FnExactValidWorldSaid :=
  OpenClaim.holds_of_wide 5 Try.f5 rfl rfl rfl rfl rfl rfl rfl ⟨rfl, rfl, rfl, rfl, rfl⟩ rfl rfl rfl rfl rfl (by kernel_rfl) Try.func5 (by kernel_rfl)
    (of_decide_eq_true (by kernel_rfl)) (by unfold Func.isWrapper; first | (rw [if_pos (by decide +kernel)]; kernel_rfl) | (rw [if_neg (by decide +kernel)]; exact ⟨rfl, rfl⟩))
    (fun os started H enc _ => validWorld_lifted os started H enc)

#print axioms validWorld_holds
end Go.Proofs.Ytlfafcbieeambaa
