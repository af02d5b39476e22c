/- FnExactValidProg: for all arguments impl.ValidProg answers as the model does, and changes none of them. Condition: the table progForms holds what the program's text lays, which the card ties. -/
import Derived.Test.YtojheipllpkgdaaDoorRows
import Derived.Test.YtojheipllpkgdaaDoorCards
import Derived.Test.YtojheipllpkgdaaDoorTie
import Derived.Test.YtojheipllpkgdaaDoorLValidProg
import Derived.Test.YtojheipllpkgdaaDoorVpO
import Derived.Test.YtojheipllpkgdaaDoorVpI
import Derived.Test.YtojheipllpkgdaaDoorPgO
import Derived.Test.YtojheipllpkgdaaDoorVpF
import Derived.Test.YtojheipllpkgdaaDoorLaw
import Derived.LaidMore
import Derived.Stop.Joined
import Derived.SevenTiedAt
import Derived.MakeChecks
import Derived.Carry
namespace Go.Proofs.YtojheipllpkgdaaDoor
open Go.RowKit Go.WideShapes Go.ChangeShapes Go.ChangeAt Go.Deep Go.WideElems
set_option linter.unusedVariables false

theorem door_met (os : Os) (args : Array Value) : laidMetH Tryd.prog Rows.fnExactValidProgRow.laid ((World.doorLaid Tryd.prog 400 os).forCall (fun _ _ => 0) ⟨#[], args, []⟩).memory :=
  laidMetH_of_parts3 (fuel := 8) (laidMet_of_run' 8 (by kernel_rfl) (by kernel_rfl)) (by kernel_rfl) (by kernel_rfl)

set_option maxRecDepth 100000 in
theorem validProg_lifted (os : Os) (started : os.Started) (H : Type) (enc : TypeId × Value → H) :
    ReturnsInHanded {} Tryd.checked os 3 .any (fun w args => (Rows.fnExactValidProgSpec.pre enc Tryd.prog Tryd.f3 [] false w args ∧ laidMetH Tryd.prog Rows.fnExactValidProgRow.laid w) ∧ sizedMet enc Tryd.prog Tryd.f3 (OpenSpec.ofChange Rows.fnExactValidProgSpec) false w args)
      (Rows.fnExactValidProgSpec.post enc Tryd.prog Tryd.f3 false true false false) := by
  refine returnsInHanded_of_change_and (C := Tryd.checked) (X := fun w _ => laidMetH Tryd.prog Rows.fnExactValidProgRow.laid w) (fun _ _ _ hh h => h.of_heap hh) Tryd.own started (by kernel_rfl) Tryd.func3
    (ChangeSpec.witness_shaped (enc := enc) (C := Tryd.checked) (os := os) (X := fun w _ => laidMetH Tryd.prog Rows.fnExactValidProgRow.laid w) false (World.doorLaid Tryd.prog 400 os) #[.agg #[.int .i64 0, .int .i64 0], .agg #[.int .i64 0, .int .i64 0, .int .i64 0, .int .i64 0, .slice none 0 0, .slice none 0 0]] 8 rfl (World.shaped_of_RefB (by kernel_rfl) (by kernel_rfl)) (by kernel_rfl) (by kernel_rfl) (by kernel_rfl) (door_met os _)) ?_
  intro W base args ds gs before hval0 hW _ _ hL _
  have hval : ∀ (j : Nat) t v, Tryd.f3.params[j]? = some t → args[j]? = some v → Value.okWide Tryd.prog W .any base t v := hval0
  have hW' := hW
  obtain ⟨p, q, hA0, hV, rfl, _, _⟩ := hW
  have hA : DataW.TrodAll enc Tryd.prog W 0 (fun _ => true) true Tryd.f3.params.toList args.toList ds p := hA0
  rw [Tryd.params3] at hA hval
  obtain ⟨v0, v1, d0, d1, z0, z1, rfl, rfl, rfl, h0, h1⟩ := trodAll_two hA
  obtain ⟨t0, a0, rfl, wt0, wa0⟩ := lsig_open (hval 0 23 v0 rfl rfl) h0
  obtain ⟨k1, n1, ck1, cn1, cf1, A1, C1, f1, B1, D1, rfl, ⟨hl1, hcm1, hc1⟩, hr1, hfm1, hf1, wk1⟩ := lprog_open (hval 1 29 v1 rfl rfl) h1
  have hV1 : DataW.TrodVars enc Tryd.prog W (fun _ => true) ["loop.example/g01101/impl.progForms"] gs q := hV
  have hgs : ∃ d1, gs = [d1] := by obtain ⟨_, _, _, _, d1, _, h, _⟩ := trodVars_one hV1; exact ⟨d1, h⟩
  obtain ⟨d1, rfl⟩ := hgs
  have hF := forms_of hL
  have hA0' := hA0
  clear hA0 hval0
  refine (lawValidProg t0 a0 k1 n1 ck1 cn1 cf1 f1 A1 B1 C1 D1 W (fun h0 W' Z1 Y1 h1 h2 => specValidProg_any t0 a0 k1 n1 ck1 cn1 cf1 f1 h0 hc1 hf1 Z1 Y1 _ _ W' h1 h2) (fun h0 W' Z1 Y1 hs h1 h2 => implValidProg_any t0 a0 k1 n1 ck1 cn1 cf1 f1 h0 hc1 hf1 Z1 Y1 _ _ W' h1 h2 (hF.sees hs)) ⟨hcm1, hfm1⟩ hc1 hf1 hl1 hr1).mono fun e W' ⟨he, hb⟩ => ?_
  subst he
  refine ⟨_, rfl, post_of_below (pa := _) (pv := q) hW' ?_ ?_ ?_ rfl hb ?_⟩
  · intro b sp hd
    exact trodAll_mk1 (shut_bool Tryd.underlying4 _)
  · intro sp hsp
    exact trodAll_stays Tryd.laidOut hb (by rw [Tryd.params3]; intro t ht; simp at ht; rcases ht with rfl | rfl <;> exact ⟨by kernel_rfl, of_decide_eq_true (by kernel_rfl)⟩) hA0' (fun x hx => hW'.lt x (List.mem_append_left _ hx)) (fun x hx => hsp x (List.mem_append_left _ hx))
  · intro sp hsp
    exact var_stays Tryd.laidOut hb gForms tForms (by kernel_rfl) (of_decide_eq_true (by kernel_rfl)) hV1 (fun x hx => hW'.lt x (List.mem_append_right _ hx)) (fun x hx => hsp x (List.mem_append_right _ hx))
  · exact ok_one (by kernel_rfl) rfl (okWide_bool_mk Tryd.underlying4 _)

theorem validProg_holds : Rows.FnExactValidProgSaid :=
  OpenClaim.holds_of_wide 3 Tryd.f3 rfl rfl rfl rfl rfl rfl rfl ⟨rfl, rfl, rfl, rfl, rfl⟩ rfl rfl rfl rfl rfl (by kernel_rfl) Tryd.func3 (by kernel_rfl)
    (of_decide_eq_true (by kernel_rfl)) (by unfold Func.isWrapper; first | (rw [if_pos (by decide +kernel)]; kernel_rfl) | (rw [if_neg (by decide +kernel)]; exact ⟨rfl, rfl⟩))
    (fun os started H enc _ => validProg_lifted os started H enc)

set_option maxRecDepth 100000 in
theorem validProg_plain (f : FuncId) (fn : Func) (hf : Tryd.pinned.checked.prog.funcNamed "loop.example/g01101/laws.FnExactValidProg" = some f) (hfn : Tryd.pinned.checked.prog.funcs[f]? = some fn) :
    true = Tryd.pinned.checked.prog.looks [] ∧ ∀ (j : Nat) t, fn.params[j]? = some t → Tryd.pinned.checked.prog.wantsStandIn t = false := by
  obtain rfl : f = 3 := Option.some.inj ((show Tryd.prog.funcNamed "loop.example/g01101/laws.FnExactValidProg" = some 3 by kernel_rfl).symm.trans hf) |>.symm
  obtain rfl : fn = Tryd.f3 := (Option.some.inj (Tryd.func3.symm.trans hfn)).symm
  refine ⟨by kernel_rfl, fun j t ht => ?_⟩
  rw [Tryd.params3] at ht
  have h := Array.mem_of_getElem? ht
  simp at h
  rcases h with rfl | rfl
  · exact (show Tryd.prog.wantsStandIn 23 = false by kernel_rfl)
  · exact (show Tryd.prog.wantsStandIn 29 = false by kernel_rfl)

/-- The card. -/
theorem validProg_card : Rows.FnExactValidProgCardSaid :=
  Claim7.holds_tied_plain_at .later [] _ _ _ _ validProg_holds (fun _ h => by cases h) (by kernel_rfl) (fun _ h => by cases h) fnExactValidProg_row_tie rfl ⟨rfl, rfl⟩ (by kernel_rfl) rfl validProg_plain (by kernel_rfl)
#print axioms validProg_card
end Go.Proofs.YtojheipllpkgdaaDoor
