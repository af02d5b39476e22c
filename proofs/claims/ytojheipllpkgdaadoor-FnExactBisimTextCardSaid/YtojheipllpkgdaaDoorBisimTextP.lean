/- FnExactBisimText: for all arguments impl.BisimText answers as the model does, and changes none of them. Condition: three tables of the library hold what its text lays, which the card ties; the road never reads them. -/
import Derived.Test.YtojheipllpkgdaaDoorRows
import Derived.Test.YtojheipllpkgdaaDoorCards
import Derived.Test.YtojheipllpkgdaaDoorTie
import Derived.Test.YtojheipllpkgdaaDoorLBisimText
import Derived.Test.YtojheipllpkgdaaDoorBtS
import Derived.Test.YtojheipllpkgdaaDoorBtI
import Derived.Test.YtojheipllpkgdaaDoorPpO
import Derived.Test.YtojheipllpkgdaaDoorLaw
import Derived.LaidMore
import Derived.Stop.Joined
import Derived.SevenTiedAt
import Derived.MakeChecks
namespace Go.Proofs.YtojheipllpkgdaaDoor
open Go.RowKit Go.WideShapes Go.ChangeShapes Go.ChangeAt Go.Deep Go.WideElems
set_option linter.unusedVariables false

set_option maxRecDepth 100000 in
theorem lPairS_val {H : Type} {enc : TypeId × Value → H} {W : World} {base : Nat} {v : Value} {d : DataW H} {p : List MemPlace} (hok : Value.okWide Tryd.prog W .any base 57 v) (h : DataW.Trod enc Tryd.prog W 0 (fun _ => true) true 57 v d p) :
    ∃ (xs : Pp) (A : Option Addr) (C : Nat), v = .slice A xs.len C ∧ xs.Lies W A ∧ xs.len ≤ 9223372036854775807 ∧ xs.Fits := by
  obtain ⟨a, len, cap, rfl⟩ := okWide_slice Tryd.underlying57 hok
  obtain ⟨fuel, hf⟩ := h
  obtain ⟨xs, A, C, hx, l1, l2⟩ := lPairS_open _ _ _ hf
  simp [Value.cells] at hx
  obtain ⟨rfl, rfl, rfl⟩ := hx
  exact ⟨xs, _, _, rfl, l1, l2⟩
theorem door_met (os : Os) (args : Array Value) : laidMetH Tryd.prog Rows.fnExactBisimTextRow.laid ((World.doorLaid Tryd.prog 400 os).forCall (fun _ _ => 0) ⟨#[], args, []⟩).memory :=
  laidMetH_of_parts3 (fuel := 8) (laidMet_of_run' 8 (by kernel_rfl) (by kernel_rfl)) (by kernel_rfl) (by kernel_rfl)

set_option maxRecDepth 100000 in
theorem bisimText_lifted (os : Os) (started : os.Started) (H : Type) (enc : TypeId × Value → H) :
    ReturnsInHanded {} Tryd.checked os 6 .any (fun w args => (Rows.fnExactBisimTextSpec.pre enc Tryd.prog Tryd.f6 [] false w args ∧ laidMetH Tryd.prog Rows.fnExactBisimTextRow.laid w) ∧ sizedMet enc Tryd.prog Tryd.f6 (OpenSpec.ofChange Rows.fnExactBisimTextSpec) false w args)
      (Rows.fnExactBisimTextSpec.post enc Tryd.prog Tryd.f6 false true false false) := by
  refine returnsInHanded_of_change_and (C := Tryd.checked) (X := fun w _ => laidMetH Tryd.prog Rows.fnExactBisimTextRow.laid w) (fun _ _ _ hh h => h.of_heap hh) Tryd.own started (by kernel_rfl) Tryd.func6
    (ChangeSpec.witness_shaped (enc := enc) (C := Tryd.checked) (os := os) (X := fun w _ => laidMetH Tryd.prog Rows.fnExactBisimTextRow.laid w) false (World.doorLaid Tryd.prog 400 os) #[.agg #[.int .i64 0, .int .i64 0], .slice none 0 0] 8 rfl (World.shaped_of_RefB (by kernel_rfl) (by kernel_rfl)) (by kernel_rfl) (by kernel_rfl) (by kernel_rfl) (door_met os _)) ?_
  intro W base args ds gs before hval0 hW _ _ hL _
  have hval : ∀ (j : Nat) t v, Tryd.f6.params[j]? = some t → args[j]? = some v → Value.okWide Tryd.prog W .any base t v := hval0
  have hW' := hW
  obtain ⟨p, q, hA0, hV, rfl, _, _⟩ := hW
  have hA : DataW.TrodAll enc Tryd.prog W 0 (fun _ => true) true Tryd.f6.params.toList args.toList ds p := hA0
  rw [Tryd.params6] at hA hval
  obtain ⟨v0, v1, d0, d1, z0, z1, rfl, rfl, rfl, h0, h1⟩ := trodAll_two hA
  obtain ⟨rfl, rfl⟩ := trodVars_none hV
  obtain ⟨t0, a0, rfl, wt0, wa0⟩ := lsig_open (hval 0 23 v0 rfl rfl) h0
  obtain ⟨x1, A1, C1, rfl, hl1, hm1⟩ := lPairS_val (hval 1 57 v1 rfl rfl) h1
  clear hA0 hval0
  refine (lawBisimText t0 a0 x1 A1 C1 (fun h0 W Z1 h => specBisimText_any t0 a0 x1 h0 hm1.2 Z1 _ W h) (fun h0 W Z1 h => implBisimText_any t0 a0 x1 h0 Z1 _ W h) W hm1 hl1).mono fun e W' ⟨he, hb⟩ => ?_
  subst he
  exact ⟨_, rfl, law_end Tryd.laidOut Tryd.underlying4 rfl (by kernel_rfl) (by rw [Tryd.params6]; intro t ht; simp at ht; rcases ht with rfl | rfl <;> exact ⟨by kernel_rfl, of_decide_eq_true (by kernel_rfl)⟩) rfl rfl rfl hW' hb⟩

theorem bisimText_holds : Rows.FnExactBisimTextSaid :=
  OpenClaim.holds_of_wide 6 Tryd.f6 rfl rfl rfl rfl rfl rfl rfl ⟨rfl, rfl, rfl, rfl, rfl⟩ rfl rfl rfl rfl rfl (by kernel_rfl) Tryd.func6 (by kernel_rfl)
    (of_decide_eq_true (by kernel_rfl)) (by unfold Func.isWrapper; first | (rw [if_pos (by decide +kernel)]; kernel_rfl) | (rw [if_neg (by decide +kernel)]; exact ⟨rfl, rfl⟩))
    (fun os started H enc _ => bisimText_lifted os started H enc)

set_option maxRecDepth 100000 in
theorem bisimText_plain (f : FuncId) (fn : Func) (hf : Tryd.pinned.checked.prog.funcNamed "loop.example/g01101/laws.FnExactBisimText" = some f) (hfn : Tryd.pinned.checked.prog.funcs[f]? = some fn) :
    true = Tryd.pinned.checked.prog.looks [] ∧ ∀ (j : Nat) t, fn.params[j]? = some t → Tryd.pinned.checked.prog.wantsStandIn t = false := by
  obtain rfl : f = 6 := Option.some.inj ((show Tryd.prog.funcNamed "loop.example/g01101/laws.FnExactBisimText" = some 6 by kernel_rfl).symm.trans hf) |>.symm
  obtain rfl : fn = Tryd.f6 := (Option.some.inj (Tryd.func6.symm.trans hfn)).symm
  refine ⟨by kernel_rfl, fun j t ht => ?_⟩
  rw [Tryd.params6] at ht
  have h := Array.mem_of_getElem? ht
  simp at h
  rcases h with rfl | rfl
  · exact (show Tryd.prog.wantsStandIn 23 = false by kernel_rfl)
  · exact (show Tryd.prog.wantsStandIn 57 = false by kernel_rfl)

/-- The card. -/
theorem bisimText_card : Rows.FnExactBisimTextCardSaid :=
  Claim7.holds_tied_plain_at .later [] _ _ _ _ bisimText_holds (fun _ h => by cases h) (by kernel_rfl) (fun _ h => by cases h) fnExactBisimText_row_tie rfl ⟨rfl, rfl⟩ (by kernel_rfl) rfl bisimText_plain (by kernel_rfl)
#print axioms bisimText_card
end Go.Proofs.YtojheipllpkgdaaDoor
