/- FnExactEquationText: for all arguments impl.EquationText answers as the model does, and changes none of them. Condition: three tables of the library hold what its text lays, which the card ties; the road never reads them. -/
import Derived.Test.YtgeaiadjmadakaaDoorRows
import Derived.Test.YtgeaiadjmadakaaDoorCards
import Derived.Test.YtgeaiadjmadakaaDoorTie
import Derived.Test.YtgeaiadjmadakaaDoorLEquationText
import Derived.Test.YtgeaiadjmadakaaDoorEqT
import Derived.Test.YtgeaiadjmadakaaDoorLawQ
import Derived.Test.YtgeaiadjmadakaaDoorLaw
import Derived.LaidMore
import Derived.Stop.Joined
import Derived.SevenTiedAt
import Derived.MakeChecks
namespace Go.Proofs.YtgeaiadjmadakaaDoor
open Go.RowKit Go.WideShapes Go.ChangeShapes Go.ChangeAt Go.Deep Go.WideElems
set_option linter.unusedVariables false

theorem door_met (os : Os) (args : Array Value) : laidMetH Tryd.prog Rows.fnExactEquationTextRow.laid ((World.doorLaid Tryd.prog 400 os).forCall (fun _ _ => 0) ⟨#[], args, []⟩).memory :=
  laidMetH_of_parts3 (fuel := 8) (laidMet_of_run' 8 (by kernel_rfl) (by kernel_rfl)) (by kernel_rfl) (by kernel_rfl)

set_option maxRecDepth 100000 in
theorem equationText_lifted (os : Os) (started : os.Started) (H : Type) (enc : TypeId × Value → H) :
    ReturnsInHanded {} Tryd.checked os 3 .any (fun w args => (Rows.fnExactEquationTextSpec.pre enc Tryd.prog Tryd.f3 [] false w args ∧ laidMetH Tryd.prog Rows.fnExactEquationTextRow.laid w) ∧ sizedMet enc Tryd.prog Tryd.f3 (OpenSpec.ofChange Rows.fnExactEquationTextSpec) false w args)
      (Rows.fnExactEquationTextSpec.post enc Tryd.prog Tryd.f3 false true false false) := by
  refine returnsInHanded_of_change_and (C := Tryd.checked) (X := fun w _ => laidMetH Tryd.prog Rows.fnExactEquationTextRow.laid w) (fun _ _ _ hh h => h.of_heap hh) Tryd.own started (by kernel_rfl) Tryd.func3
    (ChangeSpec.witness_shaped (enc := enc) (C := Tryd.checked) (os := os) (X := fun w _ => laidMetH Tryd.prog Rows.fnExactEquationTextRow.laid w) false (World.doorLaid Tryd.prog 400 os) #[.agg #[.int .i64 0, .int .i64 0], .agg #[.int .i64 0, .int .i64 0, .slice none 0 0, .int .i64 0, .int .i64 0, .slice none 0 0]] 8 rfl (World.shaped_of_RefB (by kernel_rfl) (by kernel_rfl)) (by kernel_rfl) (by kernel_rfl) (by kernel_rfl) (door_met os _)) ?_
  intro W base args ds gs before hval0 hW _ _ hL _
  have hval : ∀ (j : Nat) t v, Tryd.f3.params[j]? = some t → args[j]? = some v → Value.okWide Tryd.prog W .any base t v := hval0
  have hW' := hW
  obtain ⟨p, q, hA0, hV, rfl, _, _⟩ := hW
  have hA : DataW.TrodAll enc Tryd.prog W 0 (fun _ => true) true Tryd.f3.params.toList args.toList ds p := hA0
  rw [Tryd.params3] at hA hval
  obtain ⟨v0, v1, d0, d1, z0, z1, rfl, rfl, rfl, h0, h1⟩ := trodAll_two hA
  obtain ⟨rfl, rfl⟩ := trodVars_none hV
  obtain ⟨t0, a0, rfl, wt0, wa0⟩ := lsig_open (hval 0 23 v0 rfl rfl) h0
  obtain ⟨k1, n1, f1, A1, C1, j1, o1, g1, B1, D1, rfl, hl1, hm1, hf1, hr1, hs1, hg1, wk1⟩ := lequation_open (hval 1 28 v1 rfl rfl) h1
  clear hA0 hval0
  refine (lawEquationText t0 a0 k1 n1 f1 A1 C1 j1 o1 g1 B1 D1 (fun h0 W Z1 Y1 h h' => specEquationText_any t0 a0 k1 n1 f1 j1 o1 g1 hf1 hg1 (Nat.le_trans (Nat.le_add_right _ _) h0) (Nat.le_trans (Nat.le_add_left _ _) h0) Z1 Y1 _ _ W h h') (fun h0 W Z1 Y1 h h' => implEquationText_any t0 a0 k1 n1 f1 j1 o1 g1 hf1 hg1 (Nat.le_trans (Nat.le_add_right _ _) h0) (Nat.le_trans (Nat.le_add_left _ _) h0) Z1 Y1 _ _ W h h') W hm1 hf1 hl1 hs1 hg1 hr1).mono fun e W' ⟨he, hb⟩ => ?_
  subst he
  exact ⟨_, rfl, law_end Tryd.laidOut Tryd.underlying4 rfl (by kernel_rfl) (by rw [Tryd.params3]; intro t ht; simp at ht; rcases ht with rfl | rfl <;> exact ⟨by kernel_rfl, of_decide_eq_true (by kernel_rfl)⟩) rfl rfl rfl hW' hb⟩

theorem equationText_holds : Rows.FnExactEquationTextSaid :=
  OpenClaim.holds_of_wide 3 Tryd.f3 rfl rfl rfl rfl rfl rfl rfl ⟨rfl, rfl, rfl, rfl, rfl⟩ rfl rfl rfl rfl rfl (by kernel_rfl) Tryd.func3 (by kernel_rfl)
    (of_decide_eq_true (by kernel_rfl)) (by unfold Func.isWrapper; first | (rw [if_pos (by decide +kernel)]; kernel_rfl) | (rw [if_neg (by decide +kernel)]; exact ⟨rfl, rfl⟩))
    (fun os started H enc _ => equationText_lifted os started H enc)

set_option maxRecDepth 100000 in
theorem equationText_plain (f : FuncId) (fn : Func) (hf : Tryd.pinned.checked.prog.funcNamed "loop.example/g01101/laws.FnExactEquationText" = some f) (hfn : Tryd.pinned.checked.prog.funcs[f]? = some fn) :
    true = Tryd.pinned.checked.prog.looks [] ∧ ∀ (j : Nat) t, fn.params[j]? = some t → Tryd.pinned.checked.prog.wantsStandIn t = false := by
  obtain rfl : f = 3 := Option.some.inj ((show Tryd.prog.funcNamed "loop.example/g01101/laws.FnExactEquationText" = some 3 by kernel_rfl).symm.trans hf) |>.symm
  obtain rfl : fn = Tryd.f3 := (Option.some.inj (Tryd.func3.symm.trans hfn)).symm
  refine ⟨by kernel_rfl, fun j t ht => ?_⟩
  rw [Tryd.params3] at ht
  have h := Array.mem_of_getElem? ht
  simp at h
  rcases h with rfl | rfl
  · exact (show Tryd.prog.wantsStandIn 23 = false by kernel_rfl)
  · exact (show Tryd.prog.wantsStandIn 28 = false by kernel_rfl)

/-- The card. -/
theorem equationText_card : Rows.FnExactEquationTextCardSaid :=
  Claim7.holds_tied_plain_at .later [] _ _ _ _ equationText_holds (fun _ h => by cases h) (by kernel_rfl) (fun _ h => by cases h) fnExactEquationText_row_tie rfl ⟨rfl, rfl⟩ (by kernel_rfl) rfl equationText_plain (by kernel_rfl)
#print axioms equationText_card
end Go.Proofs.YtgeaiadjmadakaaDoor
