/- FnExactImplies: for all arguments impl.Implies answers as the model does, and changes none of them. No condition. -/
import Derived.Test.YtpoikhilhgijoaaLImplies
import Derived.Test.YtpoikhilhgijoaaImpS
import Derived.Test.YtpoikhilhgijoaaImpI
import Derived.Test.YtpoikhilhgijoaaLaw
namespace Go.Proofs.Ytpoikhilhgijoaa
open Go.RowKit Go.WideShapes Go.ChangeShapes Go.ChangeAt Go.Deep Go.WideElems
set_option linter.unusedVariables false

set_option maxRecDepth 100000 in
theorem implies_lifted (os : Os) (started : os.Started) (H : Type) (enc : TypeId × Value → H) :
    ReturnsInHanded {} Try.checked os 7 .any (Rows.fnExactImpliesSpec.pre6 enc Try.prog Try.f7 Rows.fnExactImpliesRow.domain false) (Rows.fnExactImpliesSpec.post enc Try.prog Try.f7 false true false false) := by
  refine returnsInHanded_of_change (C := Try.checked) Try.own started (by kernel_rfl) Try.func7
    (ChangeSpec.witness6 (enc := enc) (C := Try.checked) false ⟨#[], #[.agg #[.int .i64 0, .int .i64 0], .agg #[.int .i64 0, .int .i64 0, .slice none 0 0], .agg #[.int .i64 0, .int .i64 0, .slice none 0 0]], []⟩ 8 (by kernel_rfl) (by kernel_rfl) (by kernel_rfl) (by kernel_rfl)) ?_
  intro W base args ds gs before hval0 hW _ _
  have hval : ∀ (j : Nat) t v, Try.f7.params[j]? = some t → args[j]? = some v → Value.okWide Try.prog W .any base t v := hval0
  have hW' := hW
  obtain ⟨p, q, hA0, hV, rfl, _, _⟩ := hW
  have hA : DataW.TrodAll enc Try.prog W 0 (fun _ => true) true Try.f7.params.toList args.toList ds p := hA0
  rw [Try.params7] at hA hval
  obtain ⟨v0, v1, v2, d0, d1, d2, z0, z1, z2, rfl, rfl, rfl, h0, h1, h2⟩ := trodAll_three hA
  obtain ⟨rfl, rfl⟩ := trodVars_none hV
  obtain ⟨t0, a0, rfl, wt0, wa0⟩ := lsig_open (hval 0 23 v0 rfl rfl) h0
  obtain ⟨k1, n1, f1, A1, C1, rfl, hl1, hm1, hf1, wk1, wn1⟩ := lexpr_open (hval 1 26 v1 rfl rfl) h1
  obtain ⟨k2, n2, f2, A2, C2, rfl, hl2, hm2, hf2, wk2, wn2⟩ := lexpr_open (hval 2 26 v2 rfl rfl) h2
  clear hA0 hval0
  refine (lawImplies t0 a0 f1 k1 n1 A1 C1 f2 k2 n2 A2 C2 (fun h0 W Z1 Z2 h h' => specImplies_any t0 a0 k1 n1 f1 k2 n2 f2 hf1 hf2 h0.1 h0.2 Z1 Z2 _ _ W h h') (fun h0 W Z1 Z2 h h' => implImplies_any t0 a0 k1 n1 f1 k2 n2 f2 hf1 hf2 h0.1 h0.2 Z1 Z2 _ _ W h h') W hm1 hf1 hl1 hm2 hf2 hl2).mono fun e W' ⟨he, hb⟩ => ?_
  subst he
  exact ⟨_, rfl, law_end Try.laidOut Try.underlying4 rfl (by kernel_rfl) (by rw [Try.params7]; intro t ht; simp at ht; rcases ht with rfl | rfl <;> exact ⟨by kernel_rfl, of_decide_eq_true (by kernel_rfl)⟩) rfl rfl rfl hW' hb⟩

theorem implies_holds : Rows.FnExactImpliesSaid :=
  OpenClaim.holds_of_wide 7 Try.f7 rfl rfl rfl rfl rfl rfl rfl ⟨rfl, rfl, rfl, rfl, rfl⟩ rfl rfl rfl rfl rfl (by kernel_rfl) Try.func7 (by kernel_rfl)
    (of_decide_eq_true (by kernel_rfl)) (by unfold Func.isWrapper; first | (rw [if_pos (by decide +kernel)]; kernel_rfl) | (rw [if_neg (by decide +kernel)]; exact ⟨rfl, rfl⟩))
    (fun os started H enc _ => implies_lifted os started H enc)

#print axioms implies_holds
end Go.Proofs.Ytpoikhilhgijoaa
