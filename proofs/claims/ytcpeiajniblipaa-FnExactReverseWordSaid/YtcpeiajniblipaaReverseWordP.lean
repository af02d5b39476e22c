/- FnExactReverseWord: for all arguments impl.ReverseWord answers as the model does, changes none of them, and its answer owns its memory. No condition. -/
import Derived.Test.YtcpeiajniblipaaLReverseWord
import Derived.Test.YtcpeiajniblipaaRevW
import Derived.Test.YtcpeiajniblipaaLaw
namespace Go.Proofs.Ytcpeiajniblipaa
open Go.RowKit Go.WideShapes Go.ChangeShapes Go.ChangeAt Go.Deep Go.WideElems
set_option linter.unusedVariables false

theorem rev_lens (t a : Int) (p r : List Int) (h : p.length + r.length ≤ 1048576) : (revU t a p r).length ≤ 1048576 ∧ (revV t a p r).length ≤ 1048576 := by
  unfold revU revV
  constructor <;> split <;> simp <;> omega

set_option maxRecDepth 100000 in
theorem reverseWord_lifted (os : Os) (started : os.Started) (H : Type) (enc : TypeId × Value → H) :
    ReturnsInHanded {} Try.checked os 8 .any (Rows.fnExactReverseWordSpec.pre6 enc Try.prog Try.f8 Rows.fnExactReverseWordRow.domain false) (Rows.fnExactReverseWordSpec.post enc Try.prog Try.f8 false true false false) := by
  refine returnsInHanded_of_change (C := Try.checked) Try.own started (by kernel_rfl) Try.func8
    (ChangeSpec.witness6 (enc := enc) (C := Try.checked) false ⟨#[], #[.agg #[.int .i64 0, .int .i64 0], .agg #[.slice none 0 0, .slice none 0 0]], []⟩ 8 (by kernel_rfl) (by kernel_rfl) (by kernel_rfl) (by kernel_rfl)) ?_
  intro W base args ds gs before hval0 hW _ _
  have hval : ∀ (j : Nat) t v, Try.f8.params[j]? = some t → args[j]? = some v → Value.okWide Try.prog W .any base t v := hval0
  have hW' := hW
  obtain ⟨p, q, hA0, hV, rfl, _, _⟩ := hW
  have hA : DataW.TrodAll enc Try.prog W 0 (fun _ => true) true Try.f8.params.toList args.toList ds p := hA0
  rw [Try.params8] at hA hval
  obtain ⟨v0, v1, d0, d1, z0, z1, rfl, rfl, rfl, h0, h1⟩ := trodAll_two hA
  obtain ⟨rfl, rfl⟩ := trodVars_none hV
  obtain ⟨t0, a0, rfl, wt0, wa0⟩ := lsig_open (hval 0 23 v0 rfl rfl) h0
  obtain ⟨p1, r1, A1, B1, C1, D1, rfl, hl1, hr1, hm1, hw1⟩ := lword_open (hval 1 44 v1 rfl rfl) h1
  clear hA0 hval0
  refine (lawReverseWord t0 a0 p1 r1 A1 B1 C1 D1 (fun h0 => rev_lens t0 a0 p1 r1 h0) (fun h0 W Z1 Y1 h h' => specReverseWord_any t0 a0 p1 r1 h0 Z1 Y1 _ _ W h h') (fun h0 W Z1 Y1 h h' => implReverseWord_any t0 a0 p1 r1 h0 Z1 Y1 _ _ W h h') W hm1 hl1 hr1).mono fun e W' ⟨he, hb⟩ => ?_
  subst he
  exact ⟨_, rfl, law_end Try.laidOut Try.underlying4 rfl (by kernel_rfl) (by rw [Try.params8]; intro t ht; simp at ht; rcases ht with rfl | rfl <;> exact ⟨by kernel_rfl, of_decide_eq_true (by kernel_rfl)⟩) rfl rfl rfl hW' hb⟩

theorem reverseWord_holds : Rows.FnExactReverseWordSaid :=
  OpenClaim.holds_of_wide 8 Try.f8 rfl rfl rfl rfl rfl rfl rfl ⟨rfl, rfl, rfl, rfl, rfl⟩ rfl rfl rfl rfl rfl (by kernel_rfl) Try.func8 (by kernel_rfl)
    (of_decide_eq_true (by kernel_rfl)) (by unfold Func.isWrapper; first | (rw [if_pos (by decide +kernel)]; kernel_rfl) | (rw [if_neg (by decide +kernel)]; exact ⟨rfl, rfl⟩))
    (fun os started H enc _ => reverseWord_lifted os started H enc)

#print axioms reverseWord_holds
end Go.Proofs.Ytcpeiajniblipaa
