/- Lists of pairs that are handed to a law, opened. -/
import Derived.Test.YtojheipllpkgdaaDoorPp
import Derived.Test.YtojheipllpkgdaaDoorLaw
namespace Go.Proofs.YtojheipllpkgdaaDoor
open Go.RowKit Go.WideShapes Go.ChangeShapes Go.ChangeAt Go.Deep Go.WideElems
set_option linter.unusedVariables false

set_option maxRecDepth 100000 in
theorem lExpr_cells {H : Type} {enc : TypeId × Value → H} {W : World} {fuel : Nat} {v0 v1 v2 : Value} {x : DataW H × List MemPlace} (h : DataW.trod enc Tryd.prog W 0 (fun _ => true) true fuel 26 [v0, v1, v2] = some x) :
    ∃ (k n : Int) (f : Fo) (A : Option Addr) (C : Nat), v0 = .int .i64 k ∧ v1 = .int .i64 n ∧ v2 = .slice A f.len C ∧ (f.Lies W A ∧ f.len ≤ 9223372036854775807 ∧ f.Fits) := by
  obtain ⟨xs, m, _, _, _, hxl, hf⟩ := DataW.trod_struct Tryd.underlying26 h
  match xs, hxl with
  | [y0, y1, y2], _ =>
    have g0 : DataW.trod enc Tryd.prog W 0 (fun _ => true) true m 2 [v0] = some y0 := hf 0 _ rfl
    have g1 : DataW.trod enc Tryd.prog W 0 (fun _ => true) true m 2 [v1] = some y1 := hf 1 _ rfl
    have g2 : DataW.trod enc Tryd.prog W 0 (fun _ => true) true m 24 [v2] = some y2 := hf 2 _ rfl
    obtain ⟨k, hk, _, _⟩ := DataW.trod_int Tryd.underlying2 g0
    obtain ⟨n, hn, _, _⟩ := DataW.trod_int Tryd.underlying2 g1
    obtain ⟨f, A, C, hf2, l⟩ := lforest_open _ _ _ g2
    simp at hk hn hf2
    subst hk; subst hn; subst hf2
    exact ⟨k, n, f, A, C, rfl, rfl, rfl, l⟩

set_option maxRecDepth 100000 in
theorem lPair_cells {H : Type} {enc : TypeId × Value → H} {W : World} {fuel : Nat} {v_0 v_1 v_2 v_3 v_4 v_5 : Value} {x : DataW H × List MemPlace} (h : DataW.trod enc Tryd.prog W 0 (fun _ => true) true fuel 97 [v_0, v_1, v_2, v_3, v_4, v_5] = some x) :
    ∃ (lk : Int) (ln : Int) (lf : Fo) (rk : Int) (rn : Int) (rf : Fo) (Alf Arf : Option Addr) (Clf Crf : Nat), v_0 = .int .i64 lk ∧ v_1 = .int .i64 ln ∧ v_2 = .slice Alf lf.len Clf ∧ v_3 = .int .i64 rk ∧ v_4 = .int .i64 rn ∧ v_5 = .slice Arf rf.len Crf ∧ (lf.Lies W Alf ∧ lf.len ≤ 9223372036854775807 ∧ lf.Fits) ∧ (rf.Lies W Arf ∧ rf.len ≤ 9223372036854775807 ∧ rf.Fits) := by
  obtain ⟨xs, m, _, _, _, hxl, hf⟩ := DataW.trod_struct Tryd.underlying97 h
  match xs, hxl with
  | [y0, y1], _ =>
    have g0 : DataW.trod enc Tryd.prog W 0 (fun _ => true) true m 26 [v_0, v_1, v_2] = some y0 := hf 0 _ rfl
    have g1 : DataW.trod enc Tryd.prog W 0 (fun _ => true) true m 26 [v_3, v_4, v_5] = some y1 := hf 1 _ rfl
    obtain ⟨lk, ln, lf, Alf, Clf, rfl, rfl, rfl, l_lf⟩ := lExpr_cells g0
    obtain ⟨rk, rn, rf, Arf, Crf, rfl, rfl, rfl, l_rf⟩ := lExpr_cells g1
    exact ⟨lk, ln, lf, rk, rn, rf, Alf, Arf, Clf, Crf, rfl, rfl, rfl, rfl, rfl, rfl, l_lf, l_rf⟩

theorem Tryd.cellsPp : Tryd.prog.cellsOf 97 = 6 := by kernel_rfl
set_option maxRecDepth 100000 in
set_option maxHeartbeats 1000000 in
theorem lPairS_open {H : Type} {enc : TypeId × Value → H} {W : World} : ∀ (fuel : Nat) (cs : List Value) (x : DataW H × List MemPlace),
    DataW.trod enc Tryd.prog W 0 (fun _ => true) true fuel 57 cs = some x → ∃ (f : Pp) (A : Option Addr) (C : Nat), cs = [.slice A f.len C] ∧ f.Lies W A ∧ f.len ≤ 9223372036854775807 ∧ f.Fits := by
  intro fuel
  induction fuel using Nat.strongRecOn with
  | _ fuel ih =>
    intro cs x h
    rcases DataW.trod_slice Tryd.underlying57 h with ⟨rfl, _⟩ | ⟨a, len, cap, elems, rest, n, hn, rfl, rfl, hb, hl, hm, hlen, hel, hsp, hns⟩
    · exact ⟨.nil, none, 0, rfl, fun h => absurd rfl h, Nat.zero_le _, trivial⟩
    · have one : ∀ i, i < len → ∃ (lk : Int) (ln : Int) (lf : Fo) (rk : Int) (rn : Int) (rf : Fo) (Alf Arf : Option Addr) (Clf Crf : Nat), W.cell? (a.add (i * 6)) = some (.int .i64 lk) ∧ W.cell? (a.add (i * 6 + 1)) = some (.int .i64 ln) ∧ W.cell? (a.add (i * 6 + 2)) = some (.slice Alf lf.len Clf) ∧ W.cell? (a.add (i * 6 + 3)) = some (.int .i64 rk) ∧ W.cell? (a.add (i * 6 + 4)) = some (.int .i64 rn) ∧ W.cell? (a.add (i * 6 + 5)) = some (.slice Arf rf.len Crf) ∧ (lf.Lies W Alf ∧ lf.len ≤ 9223372036854775807 ∧ lf.Fits) ∧ (rf.Lies W Arf ∧ rf.len ≤ 9223372036854775807 ∧ rf.Fits) := by
        intro i hi
        have key := hel i hi
        rw [List.getElem?_eq_getElem (by omega), Tryd.cellsPp] at key
        obtain ⟨cs', h1, h2⟩ := Option.bind_eq_some_iff.1 key
        obtain ⟨_, hl3, hc⟩ := World.cells?_some h1
        match cs', hl3 with
        | [v0, v1, v2, v3, v4, v5], _ =>
          obtain ⟨lk, ln, lf, rk, rn, rf, Alf, Arf, Clf, Crf, rfl, rfl, rfl, rfl, rfl, rfl, llf, lrf⟩ := lPair_cells h2
          have c0 := hc 0 (by omega)
          have c1 := hc 1 (by omega)
          have c2 := hc 2 (by omega)
          have c3 := hc 3 (by omega)
          have c4 := hc 4 (by omega)
          have c5 := hc 5 (by omega)
          rw [add_add] at c0 c1 c2 c3 c4 c5
          exact ⟨lk, ln, lf, rk, rn, rf, Alf, Arf, Clf, Crf, c0, c1, c2, c3, c4, c5, llf, lrf⟩
      obtain ⟨b, o, spot⟩ := a
      by_cases h0 : len = 0
      · subst h0
        exact ⟨.nil, _, _, rfl, fun h => absurd rfl h, Nat.zero_le _, trivial⟩
      have hspot : spot = none := by
        obtain ⟨_, _, _, _, _, _, _, _, _, _, c0, _⟩ := one 0 (by omega)
        simpa [Addr.add] using World.cell?_spot c0
      subst hspot
      have key : ∀ j, j ≤ len → ∃ f : Pp, f.len = j ∧ f.At W b (o + (len - j) * 6) ∧ f.Fits := by
        intro j
        induction j with
        | zero => intro _; exact ⟨.nil, rfl, trivial, trivial⟩
        | succ j ihj =>
          intro hj
          obtain ⟨f, e1, e2, e3⟩ := ihj (by omega)
          obtain ⟨lk, ln, lf, rk, rn, rf, Alf, Arf, Clf, Crf, c0, c1, c2, c3, c4, c5, llf, lrf⟩ := one (len - (j + 1)) (by omega)
          rw [add_plain] at c0 c1 c2 c3 c4 c5
          refine ⟨.cons lk ln lf rk rn rf f, by simp [Pp.len, e1], ⟨c0, c1, ⟨Alf, Clf, c2, llf.1⟩, c3, c4, ⟨Arf, Crf, c5, lrf.1⟩, ?_⟩, llf.2, lrf.2, e3⟩
          rw [show o + (len - (j + 1)) * 6 + 6 = o + (len - j) * 6 from by omega]
          exact e2
      obtain ⟨f, e1, e2, e3⟩ := key len (Nat.le_refl _)
      rw [Nat.sub_self, Nat.zero_mul] at e2
      subst e1
      exact ⟨f, some ⟨b, o, none⟩, cap, rfl, fun _ => ⟨b, o, rfl, e2⟩, by unfold maxLen at hm; omega, e3⟩
end Go.Proofs.YtojheipllpkgdaaDoor
