/- FnExactValidAutomaton: for all arguments impl.ValidAutomaton answers as the model does, and changes none of them. No condition. -/
import Derived.Test.YtcpeiajniblipaaLValidAutomaton
import Derived.Test.YtcpeiajniblipaaValAI
import Derived.Test.YtcpeiajniblipaaAutO
import Derived.Test.YtcpeiajniblipaaLaw
namespace Go.Proofs.Ytcpeiajniblipaa
open Go.RowKit Go.WideShapes Go.ChangeShapes Go.ChangeAt Go.Deep Go.WideElems
set_option linter.unusedVariables false

set_option maxRecDepth 100000 in
theorem validAutomaton_lifted (os : Os) (started : os.Started) (H : Type) (enc : TypeId × Value → H) :
    ReturnsInHanded {} Try.checked os 10 .any (Rows.fnExactValidAutomatonSpec.pre6 enc Try.prog Try.f10 Rows.fnExactValidAutomatonRow.domain false) (Rows.fnExactValidAutomatonSpec.post enc Try.prog Try.f10 false true false false) := by
  refine returnsInHanded_of_change (C := Try.checked) Try.own started (by kernel_rfl) Try.func10
    (ChangeSpec.witness6 (enc := enc) (C := Try.checked) false ⟨#[], #[.agg #[.int .i64 0, .int .i64 0, .slice none 0 0, .slice none 0 0]], []⟩ 8 (by kernel_rfl) (by kernel_rfl) (by kernel_rfl) (by kernel_rfl)) ?_
  intro W base args ds gs before hval0 hW _ _
  have hval : ∀ (j : Nat) t v, Try.f10.params[j]? = some t → args[j]? = some v → Value.okWide Try.prog W .any base t v := hval0
  have hW' := hW
  obtain ⟨p, q, hA0, hV, rfl, _, _⟩ := hW
  have hA : DataW.TrodAll enc Try.prog W 0 (fun _ => true) true Try.f10.params.toList args.toList ds p := hA0
  rw [Try.params10] at hA hval
  obtain ⟨v0, d0, rfl, rfl, h0⟩ := trodAll_one hA
  obtain ⟨rfl, rfl⟩ := trodVars_none hV
  obtain ⟨t0, a0, ac0, nx0, A0, B0, C0, D0, rfl, hl0, hr0, hm0, wt0, wa0⟩ := laut_open (hval 0 59 v0 rfl rfl) h0
  clear hA0 hval0
  refine (lawValidAutomaton t0 a0 ac0 nx0 A0 B0 C0 D0 (fun h0 W Z0 Y0 h h' => specValidAutomaton_any t0 a0 ac0 nx0 (autN_small h0) Z0 Y0 _ _ W h h') (fun h0 W Z0 Y0 h h' => implValidAutomaton_any t0 a0 ac0 nx0 (autN_small h0) Z0 Y0 _ _ W h h') W hm0 hl0 hr0).mono fun e W' ⟨he, hb⟩ => ?_
  subst he
  exact ⟨_, rfl, law_end Try.laidOut Try.underlying4 rfl (by kernel_rfl) (by rw [Try.params10]; intro t ht; simp at ht; rcases ht with rfl <;> exact ⟨by kernel_rfl, of_decide_eq_true (by kernel_rfl)⟩) rfl rfl rfl hW' hb⟩

theorem validAutomaton_holds : Rows.FnExactValidAutomatonSaid :=
  OpenClaim.holds_of_wide 10 Try.f10 rfl rfl rfl rfl rfl rfl rfl ⟨rfl, rfl, rfl, rfl, rfl⟩ rfl rfl rfl rfl rfl (by kernel_rfl) Try.func10 (by kernel_rfl)
    (of_decide_eq_true (by kernel_rfl)) (by unfold Func.isWrapper; first | (rw [if_pos (by decide +kernel)]; kernel_rfl) | (rw [if_neg (by decide +kernel)]; exact ⟨rfl, rfl⟩))
    (fun os started H enc _ => validAutomaton_lifted os started H enc)

#print axioms validAutomaton_holds
end Go.Proofs.Ytcpeiajniblipaa
