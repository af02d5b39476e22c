/- FnExactSameAutomaton: for all arguments impl.SameAutomaton answers as the model does, and changes none of them. No condition. -/
import Derived.Test.YtlmbcggfoaaibaaLSameAutomaton
import Derived.Test.YtlmbcggfoaaibaaSmS
import Derived.Test.YtlmbcggfoaaibaaAutO
import Derived.Test.YtlmbcggfoaaibaaLaw
namespace Go.Proofs.Ytlmbcggfoaaibaa
open Go.RowKit Go.WideShapes Go.ChangeShapes Go.ChangeAt Go.Deep Go.WideElems
set_option linter.unusedVariables false

set_option maxRecDepth 100000 in
theorem sameAutomaton_lifted (os : Os) (started : os.Started) (H : Type) (enc : TypeId × Value → H) :
    ReturnsInHanded {} Try.checked os 7 .any (Rows.fnExactSameAutomatonSpec.pre6 enc Try.prog Try.f7 Rows.fnExactSameAutomatonRow.domain false) (Rows.fnExactSameAutomatonSpec.post enc Try.prog Try.f7 false true false false) := by
  refine returnsInHanded_of_change (C := Try.checked) Try.own started (by kernel_rfl) Try.func7
    (ChangeSpec.witness6 (enc := enc) (C := Try.checked) false ⟨#[], #[.agg #[.int .i64 0, .int .i64 0, .slice none 0 0, .slice none 0 0], .agg #[.int .i64 0, .int .i64 0, .slice none 0 0, .slice none 0 0]], []⟩ 8 (by kernel_rfl) (by kernel_rfl) (by kernel_rfl) (by kernel_rfl)) ?_
  intro W base args ds gs before hval0 hW _ _
  have hval : ∀ (j : Nat) t v, Try.f7.params[j]? = some t → args[j]? = some v → Value.okWide Try.prog W .any base t v := hval0
  have hW' := hW
  obtain ⟨p, q, hA0, hV, rfl, _, _⟩ := hW
  have hA : DataW.TrodAll enc Try.prog W 0 (fun _ => true) true Try.f7.params.toList args.toList ds p := hA0
  rw [Try.params7] at hA hval
  obtain ⟨v0, v1, d0, d1, z0, z1, rfl, rfl, rfl, h0, h1⟩ := trodAll_two hA
  obtain ⟨rfl, rfl⟩ := trodVars_none hV
  obtain ⟨t0, a0, ac0, nx0, A0, B0, C0, D0, rfl, hl0, hr0, hm0, wt0, wa0⟩ := laut_open (hval 0 51 v0 rfl rfl) h0
  obtain ⟨t1, a1, ac1, nx1, A1, B1, C1, D1, rfl, hl1, hr1, hm1, wt1, wa1⟩ := laut_open (hval 1 51 v1 rfl rfl) h1
  clear hA0 hval0
  refine (lawSameAutomaton t0 a0 ac0 nx0 A0 B0 C0 D0 t1 a1 ac1 nx1 A1 B1 C1 D1 (fun _ W Z0 Y0 Z1 Y1 h1 h2 h3 h4 => specSameAutomaton_any t0 a0 ac0 nx0 t1 a1 ac1 nx1 hm0 Z0 Y0 Z1 Y1 _ _ _ _ W h1 h2 h3 h4) (fun _ W Z0 Y0 Z1 Y1 h1 h2 h3 h4 => implSameAutomaton_any t0 a0 ac0 nx0 t1 a1 ac1 nx1 hm0 Z0 Y0 Z1 Y1 _ _ _ _ W h1 h2 h3 h4) W hm0 hl0 hr0 hm1 hl1 hr1).mono fun e W' ⟨he, hb⟩ => ?_
  subst he
  exact ⟨_, rfl, law_end Try.laidOut Try.underlying4 rfl (by kernel_rfl) (by rw [Try.params7]; intro t ht; simp at ht; rcases ht with rfl <;> exact ⟨by kernel_rfl, of_decide_eq_true (by kernel_rfl)⟩) rfl rfl rfl hW' hb⟩

theorem sameAutomaton_holds : Rows.FnExactSameAutomatonSaid :=
  OpenClaim.holds_of_wide 7 Try.f7 rfl rfl rfl rfl rfl rfl rfl ⟨rfl, rfl, rfl, rfl, rfl⟩ rfl rfl rfl rfl rfl (by kernel_rfl) Try.func7 (by kernel_rfl)
    (of_decide_eq_true (by kernel_rfl)) (by unfold Func.isWrapper; first | (rw [if_pos (by decide +kernel)]; kernel_rfl) | (rw [if_neg (by decide +kernel)]; exact ⟨rfl, rfl⟩))
    (fun os started H enc _ => sameAutomaton_lifted os started H enc)

#print axioms sameAutomaton_holds
end Go.Proofs.Ytlmbcggfoaaibaa
