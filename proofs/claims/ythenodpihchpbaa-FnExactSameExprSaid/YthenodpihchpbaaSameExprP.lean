/- FnExactSameExpr: for all arguments impl.SameExpr answers as the model does, and changes none of them. No condition. -/
import Derived.Test.YthenodpihchpbaaLSameExpr
import Derived.Test.YthenodpihchpbaaSameI
import Derived.Test.YthenodpihchpbaaLaw
namespace Go.Proofs.Ythenodpihchpbaa
open Go.RowKit Go.WideShapes Go.ChangeShapes Go.ChangeAt Go.Deep Go.WideElems
set_option linter.unusedVariables false

set_option maxRecDepth 100000 in
theorem sameExpr_lifted (os : Os) (started : os.Started) (H : Type) (enc : TypeId × Value → H) :
    ReturnsInHanded {} Try.checked os 6 .any (Rows.fnExactSameExprSpec.pre6 enc Try.prog Try.f6 Rows.fnExactSameExprRow.domain false) (Rows.fnExactSameExprSpec.post enc Try.prog Try.f6 false true false false) := by
  refine returnsInHanded_of_change (C := Try.checked) Try.own started (by kernel_rfl) Try.func6
    (ChangeSpec.witness6 (enc := enc) (C := Try.checked) false ⟨#[], #[.agg #[.int .i64 0, .int .i64 0, .slice none 0 0], .agg #[.int .i64 0, .int .i64 0, .slice none 0 0]], []⟩ 8 (by kernel_rfl) (by kernel_rfl) (by kernel_rfl) (by kernel_rfl)) ?_
  intro W base args ds gs before hval0 hW _ _
  have hval : ∀ (j : Nat) t v, Try.f6.params[j]? = some t → args[j]? = some v → Value.okWide Try.prog W .any base t v := hval0
  have hW' := hW
  obtain ⟨p, q, hA0, hV, rfl, _, _⟩ := hW
  have hA : DataW.TrodAll enc Try.prog W 0 (fun _ => true) true Try.f6.params.toList args.toList ds p := hA0
  rw [Try.params6] at hA hval
  obtain ⟨v0, v1, d0, d1, z0, z1, rfl, rfl, rfl, h0, h1⟩ := trodAll_two hA
  obtain ⟨rfl, rfl⟩ := trodVars_none hV
  obtain ⟨k0, n0, f0, A0, C0, rfl, hl0, hm0, hf0, wk0, wn0⟩ := lexpr_open (hval 0 30 v0 rfl rfl) h0
  obtain ⟨k1, n1, f1, A1, C1, rfl, hl1, hm1, hf1, wk1, wn1⟩ := lexpr_open (hval 1 30 v1 rfl rfl) h1
  clear hA0 hval0
  refine (lawSameExpr f0 k0 n0 A0 C0 f1 k1 n1 A1 C1 (fun _ W Z0 Z1 h h' => specSameExpr_any f0 f1 hm0 hf0 k0 n0 k1 n1 Z0 Z1 _ _ W h h') (fun _ W Z0 Z1 h h' => implSameExpr_aux (f0.nodes + 1) f0 f1 (Nat.lt_succ_self _) hm0 hf0 k0 n0 k1 n1 Z0 Z1 _ _ W h h') W hm0 hf0 hl0 hm1 hf1 hl1).mono fun e W' ⟨he, hb⟩ => ?_
  subst he
  exact ⟨_, rfl, law_end Try.laidOut Try.underlying4 rfl (by kernel_rfl) (by rw [Try.params6]; intro t ht; simp at ht; rcases ht with rfl <;> exact ⟨by kernel_rfl, of_decide_eq_true (by kernel_rfl)⟩) rfl rfl rfl hW' hb⟩

theorem sameExpr_holds : Rows.FnExactSameExprSaid :=
  OpenClaim.holds_of_wide 6 Try.f6 rfl rfl rfl rfl rfl rfl rfl ⟨rfl, rfl, rfl, rfl, rfl⟩ rfl rfl rfl rfl rfl (by kernel_rfl) Try.func6 (by kernel_rfl)
    (of_decide_eq_true (by kernel_rfl)) (by unfold Func.isWrapper; first | (rw [if_pos (by decide +kernel)]; kernel_rfl) | (rw [if_neg (by decide +kernel)]; exact ⟨rfl, rfl⟩))
    (fun os started H enc _ => sameExpr_lifted os started H enc)

#print axioms sameExpr_holds
end Go.Proofs.Ythenodpihchpbaa
