/- FnExactFollowWord: for all arguments impl.FollowWord answers as the model does, and changes none of them. Condition: the variable errFailed holds what the program's text lays, which the card ties. -/
import Derived.Test.YtlfafcbieeambaaDoorRows
import Derived.Test.YtlfafcbieeambaaDoorCards
import Derived.Test.YtlfafcbieeambaaDoorTie
import Derived.Test.YtlfafcbieeambaaDoorLFollowWord
import Derived.Test.YtlfafcbieeambaaDoorFolS
import Derived.Test.YtlfafcbieeambaaDoorFolI
import Derived.Test.YtlfafcbieeambaaDoorWldO
import Derived.Test.YtlfafcbieeambaaDoorVarE
import Derived.Test.YtlfafcbieeambaaDoorLaw
import Derived.LaidMore
import Derived.Stop.Joined
import Derived.SevenTiedAt
import Derived.MakeChecks
import Derived.Carry
namespace Go.Proofs.YtlfafcbieeambaaDoor
open Go.RowKit Go.WideShapes Go.ChangeShapes Go.ChangeAt Go.Deep Go.WideElems
set_option linter.unusedVariables false

theorem door_met (os : Os) (args : Array Value) : laidMetH Tryd.prog Rows.fnExactFollowWordRow.laid ((World.doorLaid Tryd.prog 400 os).forCall (fun _ _ => 0) ⟨#[], args, []⟩).memory :=
  laidMetH_of_parts3 (fuel := 8) (laidMet_of_run' 8 (by kernel_rfl) (by kernel_rfl)) (by kernel_rfl) (by kernel_rfl)

set_option maxRecDepth 100000 in
theorem followWord_lifted (os : Os) (started : os.Started) (H : Type) (enc : TypeId × Value → H) :
    ReturnsInHanded {} Tryd.checked os 4 .any (fun w args => (Rows.fnExactFollowWordSpec.pre enc Tryd.prog Tryd.f4 [] false w args ∧ laidMetH Tryd.prog Rows.fnExactFollowWordRow.laid w) ∧ sizedMet enc Tryd.prog Tryd.f4 (OpenSpec.ofChange Rows.fnExactFollowWordSpec) false w args)
      (Rows.fnExactFollowWordSpec.post enc Tryd.prog Tryd.f4 false true false false) := by
  refine returnsInHanded_of_change_and (C := Tryd.checked) (X := fun w _ => laidMetH Tryd.prog Rows.fnExactFollowWordRow.laid w) (fun _ _ _ hh h => h.of_heap hh) Tryd.own started (by kernel_rfl) Tryd.func4
    (ChangeSpec.witness_shaped (enc := enc) (C := Tryd.checked) (os := os) (X := fun w _ => laidMetH Tryd.prog Rows.fnExactFollowWordRow.laid w) false (World.doorLaid Tryd.prog 400 os) #[.agg #[.int .i64 0, .int .i64 0], .agg #[.slice none 0 0, .slice none 0 0], .int .i64 0, .agg #[.slice none 0 0, .slice none 0 0]] 8 rfl (World.shaped_of_RefB (by kernel_rfl) (by kernel_rfl)) (by kernel_rfl) (by kernel_rfl) (by kernel_rfl) (door_met os _)) ?_
  intro W base args ds gs before hval0 hW _ _ hL _
  have hval : ∀ (j : Nat) t v, Tryd.f4.params[j]? = some t → args[j]? = some v → Value.okWide Tryd.prog W .any base t v := hval0
  have hW' := hW
  obtain ⟨p, q, hA0, hV, rfl, _, _⟩ := hW
  have hA : DataW.TrodAll enc Tryd.prog W 0 (fun _ => true) true Tryd.f4.params.toList args.toList ds p := hA0
  rw [Tryd.params4] at hA hval
  obtain ⟨v0, v1, v2, v3, d0, d1, d2, d3, z0, z1, z2, z3, rfl, rfl, rfl, h0, h1, h2, h3⟩ := trodAll_four hA
  obtain ⟨t0, a0, rfl, wt0, wa0⟩ := lsig_open (hval 0 23 v0 rfl rfl) h0
  obtain ⟨p1, nx1, A1, B1, C1, D1, rfl, hl1, hr1, hm1⟩ := lworld_open (hval 1 46 v1 rfl rfl) h1
  obtain ⟨m2, rfl, rfl, rfl, wm2⟩ := open_int Tryd.underlying2 (hval 2 2 v2 rfl rfl) h2
  obtain ⟨p3, r3, A3, B3, C3, D3, rfl, hl3, hr3, hm3, hw3⟩ := lword_open (hval 3 48 v3 rfl rfl) h3
  have hV1 : DataW.TrodVars enc Tryd.prog W (fun _ => true) ["loop.example/g01101/impl.errFailed"] gs q := hV
  have hgs : ∃ d1, gs = [d1] := by obtain ⟨_, _, _, _, d1, _, h, _⟩ := trodVars_one hV1; exact ⟨d1, h⟩
  obtain ⟨d1, rfl⟩ := hgs
  obtain ⟨T, gv, hgv⟩ := error_of hL
  have hA0' := hA0
  clear hA0 hval0
  refine (lawFollowWord t0 a0 p1 nx1 A1 B1 C1 D1 m2 p3 r3 A3 B3 C3 D3 W (fun h0 W' Z1 Y1 Z3 Y3 h1 h2 h3 h4 => specFollowWord_any t0 a0 p1 nx1 m2 p3 r3 (wldN_small h0.1) h0.2 Z1 Y1 Z3 Y3 _ _ _ _ W' h1 h2 h3 h4) (fun h0 W' Z1 Y1 Z3 Y3 hs h1 h2 h3 h4 => implFollowWord_any t0 a0 p1 nx1 m2 p3 r3 (wldN_small h0.1) h0.2 Z1 Y1 Z3 Y3 _ _ _ _ W' h1 h2 h3 h4 T gv (kc hs hgv)) hm1 hl1 hr1 hm3 hl3 hr3).mono fun e W' ⟨he, hb⟩ => ?_
  subst he
  refine ⟨_, rfl, post_of_below (pa := _) (pv := q) hW' ?_ ?_ ?_ rfl hb ?_⟩
  · intro b sp hd
    exact trodAll_mk1 (shut_bool Tryd.underlying4 _)
  · intro sp hsp
    exact trodAll_stays Tryd.laidOut hb (by rw [Tryd.params4]; intro t ht; simp at ht; rcases ht with rfl | rfl | rfl | rfl <;> exact ⟨by kernel_rfl, of_decide_eq_true (by kernel_rfl)⟩) hA0' (fun x hx => hW'.lt x (List.mem_append_left _ hx)) (fun x hx => hsp x (List.mem_append_left _ hx))
  · intro sp hsp
    exact error_stays hb gErr tErr Tryd.underlying96 hV1
  · exact ok_one (by kernel_rfl) rfl (okWide_bool_mk Tryd.underlying4 _)

theorem followWord_holds : Rows.FnExactFollowWordSaid :=
  OpenClaim.holds_of_wide 4 Tryd.f4 rfl rfl rfl rfl rfl rfl rfl ⟨rfl, rfl, rfl, rfl, rfl⟩ rfl rfl rfl rfl rfl (by kernel_rfl) Tryd.func4 (by kernel_rfl)
    (of_decide_eq_true (by kernel_rfl)) (by unfold Func.isWrapper; first | (rw [if_pos (by decide +kernel)]; kernel_rfl) | (rw [if_neg (by decide +kernel)]; exact ⟨rfl, rfl⟩))
    (fun os started H enc _ => followWord_lifted os started H enc)

set_option maxRecDepth 100000 in
theorem followWord_plain (f : FuncId) (fn : Func) (hf : Tryd.pinned.checked.prog.funcNamed "loop.example/g01101/laws.FnExactFollowWord" = some f) (hfn : Tryd.pinned.checked.prog.funcs[f]? = some fn) :
    true = Tryd.pinned.checked.prog.looks [] ∧ ∀ (j : Nat) t, fn.params[j]? = some t → Tryd.pinned.checked.prog.wantsStandIn t = false := by
  obtain rfl : f = 4 := Option.some.inj ((show Tryd.prog.funcNamed "loop.example/g01101/laws.FnExactFollowWord" = some 4 by kernel_rfl).symm.trans hf) |>.symm
  obtain rfl : fn = Tryd.f4 := (Option.some.inj (Tryd.func4.symm.trans hfn)).symm
  refine ⟨by kernel_rfl, fun j t ht => ?_⟩
  rw [Tryd.params4] at ht
  have h := Array.mem_of_getElem? ht
  simp at h
  rcases h with rfl | rfl | rfl | rfl
  · exact (show Tryd.prog.wantsStandIn 23 = false by kernel_rfl)
  · exact (show Tryd.prog.wantsStandIn 46 = false by kernel_rfl)
  · exact (show Tryd.prog.wantsStandIn 2 = false by kernel_rfl)
  · exact (show Tryd.prog.wantsStandIn 48 = false by kernel_rfl)

/-- The card. -/
theorem followWord_card : Rows.FnExactFollowWordCardSaid :=
  Claim7.holds_tied_plain_at .later [] _ _ _ _ followWord_holds (fun _ h => by cases h) (by kernel_rfl) (fun _ h => by cases h) fnExactFollowWord_row_tie rfl ⟨rfl, rfl⟩ (by kernel_rfl) rfl followWord_plain (by kernel_rfl)
#print axioms followWord_card
end Go.Proofs.YtlfafcbieeambaaDoor
