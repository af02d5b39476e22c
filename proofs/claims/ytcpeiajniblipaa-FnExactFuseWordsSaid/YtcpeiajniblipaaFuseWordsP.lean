/- FnExactFuseWords: for all arguments impl.FuseWords answers as the model does, changes none of them, and its answer owns its memory. No condition. -/
import Derived.Test.YtcpeiajniblipaaLFuseWords
import Derived.Test.YtcpeiajniblipaaFuseW
import Derived.Test.YtcpeiajniblipaaFuseI
import Derived.Test.YtcpeiajniblipaaLaw
namespace Go.Proofs.Ytcpeiajniblipaa
open Go.RowKit Go.WideShapes Go.ChangeShapes Go.ChangeAt Go.Deep Go.WideElems
set_option linter.unusedVariables false

set_option maxRecDepth 100000 in
theorem fuseWords_lifted (os : Os) (started : os.Started) (H : Type) (enc : TypeId × Value → H) :
    ReturnsInHanded {} Try.checked os 9 .any (Rows.fnExactFuseWordsSpec.pre6 enc Try.prog Try.f9 Rows.fnExactFuseWordsRow.domain false) (Rows.fnExactFuseWordsSpec.post enc Try.prog Try.f9 false true false false) := by
  refine returnsInHanded_of_change (C := Try.checked) Try.own started (by kernel_rfl) Try.func9
    (ChangeSpec.witness6 (enc := enc) (C := Try.checked) false ⟨#[], #[.agg #[.int .i64 0, .int .i64 0], .agg #[.slice none 0 0, .slice none 0 0], .agg #[.slice none 0 0, .slice none 0 0]], []⟩ 8 (by kernel_rfl) (by kernel_rfl) (by kernel_rfl) (by kernel_rfl)) ?_
  intro W base args ds gs before hval0 hW _ _
  have hval : ∀ (j : Nat) t v, Try.f9.params[j]? = some t → args[j]? = some v → Value.okWide Try.prog W .any base t v := hval0
  have hW' := hW
  obtain ⟨p, q, hA0, hV, rfl, _, _⟩ := hW
  have hA : DataW.TrodAll enc Try.prog W 0 (fun _ => true) true Try.f9.params.toList args.toList ds p := hA0
  rw [Try.params9] at hA hval
  obtain ⟨v0, v1, v2, d0, d1, d2, z0, z1, z2, rfl, rfl, rfl, h0, h1, h2⟩ := trodAll_three hA
  obtain ⟨rfl, rfl⟩ := trodVars_none hV
  obtain ⟨t0, a0, rfl, wt0, wa0⟩ := lsig_open (hval 0 23 v0 rfl rfl) h0
  obtain ⟨p1, r1, A1, B1, C1, D1, rfl, hl1, hr1, hm1, hw1⟩ := lword_open (hval 1 44 v1 rfl rfl) h1
  obtain ⟨p2, r2, A2, B2, C2, D2, rfl, hl2, hr2, hm2, hw2⟩ := lword_open (hval 2 44 v2 rfl rfl) h2
  clear hA0 hval0
  refine (lawFuseWords t0 a0 p1 r1 A1 B1 C1 D1 p2 r2 A2 B2 C2 D2 (fun h0 => fuse_lens t0 a0 p1 r1 p2 r2 h0) (fun h0 W Z1 Y1 Z2 Y2 h1 h2 h3 h4 => specFuseWords_any t0 a0 p1 r1 p2 r2 h0 Z1 Y1 Z2 Y2 W h1 h2 h3 h4) (fun h0 W Z1 Y1 Z2 Y2 h1 h2 h3 h4 => implFuseWords_any t0 a0 p1 r1 p2 r2 h0 Z1 Y1 Z2 Y2 W h1 h2 h3 h4) W hm1 hl1 hr1 hm2 hl2 hr2).mono fun e W' ⟨he, hb⟩ => ?_
  subst he
  exact ⟨_, rfl, law_end Try.laidOut Try.underlying4 rfl (by kernel_rfl) (by rw [Try.params9]; intro t ht; simp at ht; rcases ht with rfl | rfl <;> exact ⟨by kernel_rfl, of_decide_eq_true (by kernel_rfl)⟩) rfl rfl rfl hW' hb⟩

theorem fuseWords_holds : Rows.FnExactFuseWordsSaid :=
  OpenClaim.holds_of_wide 9 Try.f9 rfl rfl rfl rfl rfl rfl rfl ⟨rfl, rfl, rfl, rfl, rfl⟩ rfl rfl rfl rfl rfl (by kernel_rfl) Try.func9 (by kernel_rfl)
    (of_decide_eq_true (by kernel_rfl)) (by unfold Func.isWrapper; first | (rw [if_pos (by decide +kernel)]; kernel_rfl) | (rw [if_neg (by decide +kernel)]; exact ⟨rfl, rfl⟩))
    (fun os started H enc _ => fuseWords_lifted os started H enc)

#print axioms fuseWords_holds
end Go.Proofs.Ytcpeiajniblipaa
