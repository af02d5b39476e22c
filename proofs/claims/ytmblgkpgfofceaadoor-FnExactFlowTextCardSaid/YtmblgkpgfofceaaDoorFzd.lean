/- FnExactFlowText: for all arguments impl.FlowText answers as the model does, and changes none of them. Condition: three tables of the library hold what its text lays, which the card ties; the road never reads them. -/
import Derived.Test.YtmblgkpgfofceaaDoorFzc
import Derived.Test.YtmblgkpgfofceaaDoorSp
import Derived.Test.YtmblgkpgfofceaaDoorRows
import Derived.Test.YtmblgkpgfofceaaDoorCards
import Derived.Test.YtmblgkpgfofceaaDoorTie
import Derived.Test.YtmblgkpgfofceaaDoorLFlowText
import Derived.Test.YtmblgkpgfofceaaDoorFza
import Derived.LaidMore
import Derived.Stop.Joined
import Derived.SevenTiedAt
import Derived.MakeChecks
namespace Go.Proofs.YtmblgkpgfofceaaDoor
open Go.RowKit Go.WideShapes Go.ChangeShapes Go.ChangeAt Go.Deep Go.WideElems

theorem Tryd.cellsSp : Tryd.prog.cellsOf 67 = 7 := by kernel_rfl
instance : Inhabited Sp := ⟨⟨0, 0, 0, 0, .nil, 0, 0⟩⟩
set_option maxRecDepth 100000 in
theorem lspots_open {H : Type} {enc : TypeId × Value → H} {W : World} {fuel : Nat} {cs : List Value} {x : DataW H × List MemPlace}
    (h : DataW.trod enc Tryd.prog W 0 (fun _ => true) true fuel 24 cs = some x) : ∃ (xs : List Sp) (A : Option Addr) (C : Nat), cs = [.slice A xs.length C] ∧ SpL W xs A ∧ FitSp xs := by
  rcases DataW.trod_slice Tryd.underlying24 h with ⟨rfl, _⟩ | ⟨a, len, cap, elems, rest, n, hn, rfl, rfl, hb, hl, hm, hlen, hel, hsp, hns⟩
  · exact ⟨[], none, 0, rfl, fun h => absurd rfl h, Nat.zero_le _, fun x hx => absurd hx (by simp)⟩
  · have one : ∀ i, i < len → ∃ z : Sp × Option Addr × Nat, (W.cell? (a.add (i * 7)) = some (.int .i64 z.1.k) ∧ W.cell? (a.add (i * 7 + 1)) = some (.int .i64 z.1.n) ∧ W.cell? (a.add (i * 7 + 2)) = some (.int .i64 z.1.ck) ∧ W.cell? (a.add (i * 7 + 3)) = some (.int .i64 z.1.cn) ∧ W.cell? (a.add (i * 7 + 4)) = some (.slice z.2.1 z.1.cf.len z.2.2) ∧ W.cell? (a.add (i * 7 + 5)) = some (.int .i64 z.1.tg) ∧ W.cell? (a.add (i * 7 + 6)) = some (.int .i64 z.1.el)) ∧ z.1.cf.Lies W z.2.1 ∧ z.1.cf.len ≤ 9223372036854775807 ∧ z.1.cf.Fits := by
      intro i hi
      have key := hel i hi
      rw [List.getElem?_eq_getElem (by omega), Tryd.cellsSp] at key
      obtain ⟨cs', h1, h2⟩ := Option.bind_eq_some_iff.1 key
      obtain ⟨_, hl3, hc⟩ := World.cells?_some h1
      obtain ⟨xs, m, rfl, _, _, hxl, hf⟩ := DataW.trod_struct Tryd.underlying67 h2
      match xs, hxl, cs', hl3 with
      | [y0, y1, y2, y3, y4], _, [v0, v1, v2, v3, v4, v5, v6], _ =>
        have g0 : DataW.trod enc Tryd.prog W 0 (fun _ => true) true m 2 [v0] = some y0 := hf 0 _ rfl
        have g1 : DataW.trod enc Tryd.prog W 0 (fun _ => true) true m 2 [v1] = some y1 := hf 1 _ rfl
        have g2 : DataW.trod enc Tryd.prog W 0 (fun _ => true) true m 65 [v2, v3, v4] = some y2 := hf 2 _ rfl
        have g3 : DataW.trod enc Tryd.prog W 0 (fun _ => true) true m 2 [v5] = some y3 := hf 3 _ rfl
        have g4 : DataW.trod enc Tryd.prog W 0 (fun _ => true) true m 2 [v6] = some y4 := hf 4 _ rfl
        obtain ⟨zs, m2, _, _, _, hzl, hz⟩ := DataW.trod_struct Tryd.underlying65 g2
        match zs, hzl with
        | [z0, z1, z2], _ =>
          have e0 : DataW.trod enc Tryd.prog W 0 (fun _ => true) true m2 2 [v2] = some z0 := hz 0 _ rfl
          have e1 : DataW.trod enc Tryd.prog W 0 (fun _ => true) true m2 2 [v3] = some z1 := hz 1 _ rfl
          have e2 : DataW.trod enc Tryd.prog W 0 (fun _ => true) true m2 63 [v4] = some z2 := hz 2 _ rfl
          obtain ⟨k, hk, _, _⟩ := DataW.trod_int Tryd.underlying2 g0
          obtain ⟨nn, hnn, _, _⟩ := DataW.trod_int Tryd.underlying2 g1
          obtain ⟨ck, hck, _, _⟩ := DataW.trod_int Tryd.underlying2 e0
          obtain ⟨cn, hcn, _, _⟩ := DataW.trod_int Tryd.underlying2 e1
          obtain ⟨tg, htg, _, _⟩ := DataW.trod_int Tryd.underlying2 g3
          obtain ⟨el, hel2, _, _⟩ := DataW.trod_int Tryd.underlying2 g4
          obtain ⟨cf, A, C, hcf, l1, l2, l3⟩ := lforest_open _ _ _ e2
          simp at hk hnn hck hcn hcf htg hel2
          subst hk; subst hnn; subst hck; subst hcn; subst hcf; subst htg; subst hel2
          have c0 := hc 0 (by omega)
          have c1 := hc 1 (by omega)
          have c2 := hc 2 (by omega)
          have c3 := hc 3 (by omega)
          have c4 := hc 4 (by omega)
          have c5 := hc 5 (by omega)
          have c6 := hc 6 (by omega)
          rw [add_add] at c0 c1 c2 c3 c4 c5 c6
          exact ⟨(⟨k, nn, ck, cn, cf, tg, el⟩, A, C), ⟨c0, c1, c2, c3, c4, c5, c6⟩, l1, l2, l3⟩
    have : Inhabited (Option Addr × Nat) := ⟨(none, 0)⟩
    obtain ⟨Z, hZ⟩ := choose_lt one
    refine ⟨(List.range len).map fun i => (Z i).1, some a, cap, by simp, ?_, by simp; unfold maxLen at hm; omega, ?_⟩
    · intro hne
      have hpos : 0 < len := by
        rcases Nat.eq_zero_or_pos len with h0 | h0
        · subst h0; simp at hne
        · exact h0
      obtain ⟨b, o, spot⟩ := a
      have hspot : spot = none := by
        have := (hZ 0 hpos).1.1
        simpa [Addr.add] using World.cell?_spot this
      subst hspot
      refine ⟨b, o, rfl, fun i x hi => ?_⟩
      obtain ⟨hil, he⟩ := List.getElem?_eq_some_iff.1 hi
      have hi' : i < len := by simpa using hil
      have hz : (Z i).1 = x := by rw [← he]; simp
      obtain ⟨⟨q0, q1, q2, q3, q4, q5, q6⟩, q7, _, _⟩ := hZ i hi'
      rw [add_plain] at q0 q1 q2 q3 q4 q5 q6
      rw [← hz]
      exact ⟨(Z i).2.1, (Z i).2.2, ⟨q0, q1, q2, q3, q4, q5, q6⟩, q7⟩
    · intro x hx
      obtain ⟨i, hi, rfl⟩ := List.mem_map.1 hx
      exact (hZ i (by simpa using hi)).2.2

set_option maxRecDepth 100000 in
/-- A flowchart handed by value. -/
theorem lflow_open {H : Type} {enc : TypeId × Value → H} {W : World} {base : Nat} {v : Value} {d : DataW H} {p : List MemPlace} (hok : Value.okWide Tryd.prog W .any base 26 v) (h : DataW.Trod enc Tryd.prog W 0 (fun _ => true) true 26 v d p) :
    ∃ (s : Int) (xs : List Sp) (A : Option Addr) (C : Nat), v = .agg #[.int .i64 s, .slice A xs.length C] ∧ SpL W xs A ∧ FitSp xs ∧ (Lit.int .i64 s).wf = true := by
  obtain ⟨c0, c1, y0, y1, m, rfl, _, _, g0, g1⟩ := Joins.open_agg2 Tryd.underlying26 (by kernel_rfl) (by kernel_rfl) hok h
  obtain ⟨s, hs, _, ws⟩ := DataW.trod_int Tryd.underlying2 g0
  obtain ⟨xs, A, C, hx, l1, l2⟩ := lspots_open g1
  simp at hs hx
  subst hs; subst hx
  exact ⟨s, xs, A, C, rfl, l1, l2, ws⟩
end Go.Proofs.YtmblgkpgfofceaaDoor

namespace Go.Proofs.YtmblgkpgfofceaaDoor
open Go.RowKit Go.WideShapes Go.ChangeShapes Go.ChangeAt Go.Deep Go.WideElems
set_option linter.unusedVariables false

theorem door_met (os : Os) (args : Array Value) : laidMetH Tryd.prog Rows.fnExactFlowTextRow.laid ((World.doorLaid Tryd.prog 400 os).forCall (fun _ _ => 0) ⟨#[], args, []⟩).memory :=
  laidMetH_of_parts3 (fuel := 8) (laidMet_of_run' 8 (by kernel_rfl) (by kernel_rfl)) (by kernel_rfl) (by kernel_rfl)

set_option maxRecDepth 100000 in
theorem flowText_lifted (os : Os) (started : os.Started) (H : Type) (enc : TypeId × Value → H) :
    ReturnsInHanded {} Tryd.checked os 3 .any (fun w args => (Rows.fnExactFlowTextSpec.pre enc Tryd.prog Tryd.f3 [] false w args ∧ laidMetH Tryd.prog Rows.fnExactFlowTextRow.laid w) ∧ sizedMet enc Tryd.prog Tryd.f3 (OpenSpec.ofChange Rows.fnExactFlowTextSpec) false w args)
      (Rows.fnExactFlowTextSpec.post enc Tryd.prog Tryd.f3 false true false false) := by
  refine returnsInHanded_of_change_and (C := Tryd.checked) (X := fun w _ => laidMetH Tryd.prog Rows.fnExactFlowTextRow.laid w) (fun _ _ _ hh h => h.of_heap hh) Tryd.own started (by kernel_rfl) Tryd.func3
    (ChangeSpec.witness_shaped (enc := enc) (C := Tryd.checked) (os := os) (X := fun w _ => laidMetH Tryd.prog Rows.fnExactFlowTextRow.laid w) false (World.doorLaid Tryd.prog 400 os) #[.agg #[.int .i64 0, .int .i64 0], .agg #[.int .i64 0, .slice none 0 0]] 8 rfl (World.shaped_of_RefB (by kernel_rfl) (by kernel_rfl)) (by kernel_rfl) (by kernel_rfl) (by kernel_rfl) (door_met os _)) ?_
  intro W base args ds gs before hval0 hW _ _ hL _
  have hval : ∀ (j : Nat) t v, Tryd.f3.params[j]? = some t → args[j]? = some v → Value.okWide Tryd.prog W .any base t v := hval0
  have hW' := hW
  obtain ⟨p, q, hA0, hV, rfl, _, _⟩ := hW
  have hA : DataW.TrodAll enc Tryd.prog W 0 (fun _ => true) true Tryd.f3.params.toList args.toList ds p := hA0
  rw [Tryd.params3] at hA hval
  obtain ⟨v0, v1, d0, d1, z0, z1, rfl, rfl, rfl, h0, h1⟩ := trodAll_two hA
  obtain ⟨rfl, rfl⟩ := trodVars_none hV
  obtain ⟨t0, a0, rfl, wt0, wa0⟩ := lsig_open (hval 0 23 v0 rfl rfl) h0
  obtain ⟨st1, xs1, A1, C1, rfl, hl1, hm1, ws1⟩ := lflow_open (hval 1 26 v1 rfl rfl) h1
  clear hA0 hval0
  refine (lawFlowText t0 a0 st1 xs1 A1 C1 (fun h0 W Z1 h => specFlowText_any t0 a0 st1 xs1 hm1 h0 Z1 _ W h) (fun h0 W Z1 h => implFlowText_any t0 a0 st1 xs1 hm1 h0 Z1 _ W h) W hm1 hl1).mono fun e W' ⟨he, hb⟩ => ?_
  subst he
  exact ⟨_, rfl, law_end Tryd.laidOut Tryd.underlying4 rfl (by kernel_rfl) (by rw [Tryd.params3]; intro t ht; simp at ht; rcases ht with rfl | rfl <;> exact ⟨by kernel_rfl, of_decide_eq_true (by kernel_rfl)⟩) rfl rfl rfl hW' hb⟩

theorem flowText_holds : Rows.FnExactFlowTextSaid :=
  OpenClaim.holds_of_wide 3 Tryd.f3 rfl rfl rfl rfl rfl rfl rfl ⟨rfl, rfl, rfl, rfl, rfl⟩ rfl rfl rfl rfl rfl (by kernel_rfl) Tryd.func3 (by kernel_rfl)
    (of_decide_eq_true (by kernel_rfl)) (by unfold Func.isWrapper; first | (rw [if_pos (by decide +kernel)]; kernel_rfl) | (rw [if_neg (by decide +kernel)]; exact ⟨rfl, rfl⟩))
    (fun os started H enc _ => flowText_lifted os started H enc)

set_option maxRecDepth 100000 in
theorem flowText_plain (f : FuncId) (fn : Func) (hf : Tryd.pinned.checked.prog.funcNamed "loop.example/g01101/laws.FnExactFlowText" = some f) (hfn : Tryd.pinned.checked.prog.funcs[f]? = some fn) :
    true = Tryd.pinned.checked.prog.looks [] ∧ ∀ (j : Nat) t, fn.params[j]? = some t → Tryd.pinned.checked.prog.wantsStandIn t = false := by
  obtain rfl : f = 3 := Option.some.inj ((show Tryd.prog.funcNamed "loop.example/g01101/laws.FnExactFlowText" = some 3 by kernel_rfl).symm.trans hf) |>.symm
  obtain rfl : fn = Tryd.f3 := (Option.some.inj (Tryd.func3.symm.trans hfn)).symm
  refine ⟨by kernel_rfl, fun j t ht => ?_⟩
  rw [Tryd.params3] at ht
  have h := Array.mem_of_getElem? ht
  simp at h
  rcases h with rfl | rfl
  · exact (show Tryd.prog.wantsStandIn 23 = false by kernel_rfl)
  · exact (show Tryd.prog.wantsStandIn 26 = false by kernel_rfl)

/-- The card. -/
theorem flowText_card : Rows.FnExactFlowTextCardSaid :=
  Claim7.holds_tied_plain_at .later [] _ _ _ _ flowText_holds (fun _ h => by cases h) (by kernel_rfl) (fun _ h => by cases h) fnExactFlowText_row_tie rfl ⟨rfl, rfl⟩ (by kernel_rfl) rfl flowText_plain (by kernel_rfl)
#print axioms flowText_card
end Go.Proofs.YtmblgkpgfofceaaDoor
