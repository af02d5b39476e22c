/- FnExactWordModel: for all arguments impl.WordModel answers as the model does, changes none of them, and its answer owns its memory. No condition. -/
import Derived.Test.YtojheipllpkgdaaWqe
import Derived.Test.YtojheipllpkgdaaLWordModel
import Derived.Test.YtojheipllpkgdaaWqd
namespace Go.Proofs.Ytojheipllpkgdaa
open Go.RowKit Go.WideShapes Go.ChangeShapes Go.ChangeAt Go.Deep Go.WideElems

set_option maxRecDepth 100000 in
theorem lints_open {H : Type} {enc : TypeId × Value → H} {W : World} {base : Nat} {v : Value} {d : DataW H} {p : List MemPlace} (hok : Value.okWide Try.prog W .any base 24 v) (h : DataW.Trod enc Try.prog W 0 (fun _ => true) true 24 v d p) :
    ∃ (xs : List Int) (A : Option Addr) (C : Nat), v = .slice A xs.length C ∧ Ints W xs A ∧ xs.length ≤ 9223372036854775807 ∧ ∀ v ∈ xs, (Lit.int .i64 v).wf = true := by
  obtain ⟨a, len, cap, rfl⟩ := okWide_slice Try.underlying24 hok
  obtain ⟨fuel, hf⟩ := h
  obtain ⟨xs, A, C, hx, l1, l2, l3⟩ := ints_open hf
  simp [Value.cells] at hx
  obtain ⟨rfl, rfl, rfl⟩ := hx
  exact ⟨xs, _, _, rfl, l1, l2, l3⟩

set_option maxRecDepth 100000 in
theorem llist_open {H : Type} {enc : TypeId × Value → H} {W : World} {base : Nat} {v : Value} {d : DataW H} {p : List MemPlace} (hok : Value.okWide Try.prog W .any base 49 v) (h : DataW.Trod enc Try.prog W 0 (fun _ => true) true 49 v d p) :
    ∃ (f : Fo) (A : Option Addr) (C : Nat), v = .slice A f.len C ∧ f.Lies W A ∧ f.len ≤ 9223372036854775807 ∧ f.Fits := by
  obtain ⟨a, len, cap, rfl⟩ := okWide_slice Try.underlying49 hok
  obtain ⟨fuel, hf⟩ := h
  obtain ⟨f, A, C, hx, l1, l2, l3⟩ := lforest_open _ _ _ hf
  simp [Value.cells] at hx
  obtain ⟨rfl, rfl, rfl⟩ := hx
  exact ⟨f, _, _, rfl, l1, l2, l3⟩
end Go.Proofs.Ytojheipllpkgdaa

namespace Go.Proofs.Ytojheipllpkgdaa
open Go.RowKit Go.WideShapes Go.ChangeShapes Go.ChangeAt Go.Deep Go.WideElems
set_option linter.unusedVariables false


set_option maxRecDepth 100000 in
theorem wordModel_lifted (os : Os) (started : os.Started) (H : Type) (enc : TypeId × Value → H) :
    ReturnsInHanded {} Try.checked os 3 .any (Rows.fnExactWordModelSpec.pre6 enc Try.prog Try.f3 Rows.fnExactWordModelRow.domain false) (Rows.fnExactWordModelSpec.post enc Try.prog Try.f3 false true false false) := by
  refine returnsInHanded_of_change (C := Try.checked) Try.own started (by kernel_rfl) Try.func3
    (ChangeSpec.witness6 (enc := enc) (C := Try.checked) false ⟨#[], #[.agg #[.int .i64 0, .int .i64 0], .agg #[.slice none 0 0, .slice none 0 0]], []⟩ 8 (by kernel_rfl) (by kernel_rfl) (by kernel_rfl) (by kernel_rfl)) ?_
  intro W base args ds gs before hval0 hW _ _
  have hval : ∀ (j : Nat) t v, Try.f3.params[j]? = some t → args[j]? = some v → Value.okWide Try.prog W .any base t v := hval0
  have hW' := hW
  obtain ⟨p, q, hA0, hV, rfl, _, _⟩ := hW
  have hA : DataW.TrodAll enc Try.prog W 0 (fun _ => true) true Try.f3.params.toList args.toList ds p := hA0
  rw [Try.params3] at hA hval
  obtain ⟨v0, v1, d0, d1, z0, z1, rfl, rfl, rfl, h0, h1⟩ := trodAll_two hA
  obtain ⟨rfl, rfl⟩ := trodVars_none hV
  obtain ⟨t0, a0, rfl, wt0, wa0⟩ := lsig_open (hval 0 23 v0 rfl rfl) h0
  obtain ⟨p1, r1, A1, B1, C1, D1, rfl, hl1, hr1, hm1, hw1⟩ := lword_open (hval 1 26 v1 rfl rfl) h1
  clear hA0 hval0
  refine (lawWordModel t0 a0 p1 r1 A1 B1 C1 D1 (fun _ => wmO_small t0 a0 p1 r1) (fun h0 W Z1 Y1 h h' => specWordModel_any t0 a0 p1 r1 h0 Z1 Y1 _ _ W h h') (fun h0 W Z1 Y1 h h' => implWordModel_any t0 a0 p1 r1 h0 Z1 Y1 _ _ W h h') W hm1 hl1 hr1).mono fun e W' ⟨he, hb⟩ => ?_
  subst he
  exact ⟨_, rfl, law_end Try.laidOut Try.underlying4 rfl (by kernel_rfl) (by rw [Try.params3]; intro t ht; simp at ht; rcases ht with rfl | rfl <;> exact ⟨by kernel_rfl, of_decide_eq_true (by kernel_rfl)⟩) rfl rfl rfl hW' hb⟩

theorem wordModel_holds : Rows.FnExactWordModelSaid :=
  OpenClaim.holds_of_wide 3 Try.f3 rfl rfl rfl rfl rfl rfl rfl ⟨rfl, rfl, rfl, rfl, rfl⟩ rfl rfl rfl rfl rfl (by kernel_rfl) Try.func3 (by kernel_rfl)
    (of_decide_eq_true (by kernel_rfl)) (by unfold Func.isWrapper; first | (rw [if_pos (by decide +kernel)]; kernel_rfl) | (rw [if_neg (by decide +kernel)]; exact ⟨rfl, rfl⟩))
    (fun os started H enc _ => wordModel_lifted os started H enc)

#print axioms wordModel_holds
end Go.Proofs.Ytojheipllpkgdaa
