/- Proofs that are handed to a law, opened. -/
import Derived.Test.YtlpgkhdecccmlaaRCl
import Derived.Test.YtlpgkhdecccmlaaRLaw
namespace Go.Proofs.YtlpgkhdecccmlaaR
open Go.RowKit Go.WideShapes Go.ChangeShapes Go.ChangeAt Go.Deep Go.WideElems
set_option linter.unusedVariables false

set_option maxRecDepth 100000 in
theorem lExpr_cells {H : Type} {enc : TypeId × Value → H} {W : World} {fuel : Nat} {v0 v1 v2 : Value} {x : DataW H × List MemPlace} (h : DataW.trod enc Try.prog W 0 (fun _ => true) true fuel 26 [v0, v1, v2] = some x) :
    ∃ (k n : Int) (f : Fo) (A : Option Addr) (C : Nat), v0 = .int .i64 k ∧ v1 = .int .i64 n ∧ v2 = .slice A f.len C ∧ (f.Lies W A ∧ f.len ≤ 9223372036854775807 ∧ f.Fits) := by
  obtain ⟨xs, m, _, _, _, hxl, hf⟩ := DataW.trod_struct Try.underlying26 h
  match xs, hxl with
  | [y0, y1, y2], _ =>
    have g0 : DataW.trod enc Try.prog W 0 (fun _ => true) true m 2 [v0] = some y0 := hf 0 _ rfl
    have g1 : DataW.trod enc Try.prog W 0 (fun _ => true) true m 2 [v1] = some y1 := hf 1 _ rfl
    have g2 : DataW.trod enc Try.prog W 0 (fun _ => true) true m 24 [v2] = some y2 := hf 2 _ rfl
    obtain ⟨k, hk, _, _⟩ := DataW.trod_int Try.underlying2 g0
    obtain ⟨n, hn, _, _⟩ := DataW.trod_int Try.underlying2 g1
    obtain ⟨f, A, C, hf2, l⟩ := lforest_open _ _ _ g2
    simp at hk hn hf2
    subst hk; subst hn; subst hf2
    exact ⟨k, n, f, A, C, rfl, rfl, rfl, l⟩
theorem lil_open {H : Type} {enc : TypeId × Value → H} {W : World} {fuel : Nat} {cs : List Value} {x : DataW H × List MemPlace} (h : DataW.trod enc Try.prog W 0 (fun _ => true) true fuel 28 cs = some x) :
    ∃ (xs : Il) (A : Option Addr) (C : Nat), cs = [.slice A xs.len C] ∧ xs.Lies W A ∧ xs.len ≤ 9223372036854775807 ∧ xs.Fits := by
  obtain ⟨xs, A, C, hx, l1, l2, _⟩ := ints_open h
  exact ⟨⟨xs⟩, A, C, hx, l1, l2, trivial⟩

set_option maxRecDepth 100000 in
theorem lSig_cells {H : Type} {enc : TypeId × Value → H} {W : World} {fuel : Nat} {v_0 v_1 : Value} {x : DataW H × List MemPlace} (h : DataW.trod enc Try.prog W 0 (fun _ => true) true fuel 23 [v_0, v_1] = some x) :
    ∃ (t : Int) (a : Int) , v_0 = .int .i64 t ∧ v_1 = .int .i64 a := by
  obtain ⟨xs, m, _, _, _, hxl, hf⟩ := DataW.trod_struct Try.underlying23 h
  match xs, hxl with
  | [y0, y1], _ =>
    have g0 : DataW.trod enc Try.prog W 0 (fun _ => true) true m 2 [v_0] = some y0 := hf 0 _ rfl
    have g1 : DataW.trod enc Try.prog W 0 (fun _ => true) true m 2 [v_1] = some y1 := hf 1 _ rfl
    obtain ⟨t, h_t, _, _⟩ := DataW.trod_int Try.underlying2 g0
    simp at h_t
    subst h_t
    obtain ⟨a, h_a, _, _⟩ := DataW.trod_int Try.underlying2 g1
    simp at h_a
    subst h_a
    exact ⟨t, a, rfl, rfl⟩

set_option maxRecDepth 100000 in
theorem lProofStep_cells {H : Type} {enc : TypeId × Value → H} {W : World} {fuel : Nat} {v_0 v_1 v_2 v_3 v_4 : Value} {x : DataW H × List MemPlace} (h : DataW.trod enc Try.prog W 0 (fun _ => true) true fuel 286 [v_0, v_1, v_2, v_3, v_4] = some x) :
    ∃ (us : Int) (bk : Bool) (pa : Il) (te : Fo) (ac : Fo) (Apa Ate Aac : Option Addr) (Cpa Cte Cac : Nat), v_0 = .int .i64 us ∧ v_1 = .bool bk ∧ v_2 = .slice Apa pa.len Cpa ∧ v_3 = .slice Ate te.len Cte ∧ v_4 = .slice Aac ac.len Cac ∧ (pa.Lies W Apa ∧ pa.len ≤ 9223372036854775807 ∧ pa.Fits) ∧ (te.Lies W Ate ∧ te.len ≤ 9223372036854775807 ∧ te.Fits) ∧ (ac.Lies W Aac ∧ ac.len ≤ 9223372036854775807 ∧ ac.Fits) := by
  obtain ⟨xs, m, _, _, _, hxl, hf⟩ := DataW.trod_struct Try.underlying286 h
  match xs, hxl with
  | [y0, y1, y2, y3, y4], _ =>
    have g0 : DataW.trod enc Try.prog W 0 (fun _ => true) true m 2 [v_0] = some y0 := hf 0 _ rfl
    have g1 : DataW.trod enc Try.prog W 0 (fun _ => true) true m 4 [v_1] = some y1 := hf 1 _ rfl
    have g2 : DataW.trod enc Try.prog W 0 (fun _ => true) true m 28 [v_2] = some y2 := hf 2 _ rfl
    have g3 : DataW.trod enc Try.prog W 0 (fun _ => true) true m 24 [v_3] = some y3 := hf 3 _ rfl
    have g4 : DataW.trod enc Try.prog W 0 (fun _ => true) true m 24 [v_4] = some y4 := hf 4 _ rfl
    obtain ⟨us, h_us, _, _⟩ := DataW.trod_int Try.underlying2 g0
    simp at h_us
    subst h_us
    obtain ⟨bk, h_bk, _⟩ := DataW.trod_bool Try.underlying4 g1
    simp at h_bk
    subst h_bk
    obtain ⟨pa, Apa, Cpa, h_pa, l_pa⟩ := lil_open g2
    simp at h_pa
    subst h_pa
    obtain ⟨te, Ate, Cte, h_te, l_te⟩ := lforest_open _ _ _ g3
    simp at h_te
    subst h_te
    obtain ⟨ac, Aac, Cac, h_ac, l_ac⟩ := lforest_open _ _ _ g4
    simp at h_ac
    subst h_ac
    exact ⟨us, bk, pa, te, ac, Apa, Ate, Aac, Cpa, Cte, Cac, rfl, rfl, rfl, rfl, rfl, l_pa, l_te, l_ac⟩

theorem Try.cellsPs : Try.prog.cellsOf 286 = 5 := by kernel_rfl
set_option maxRecDepth 100000 in
set_option maxHeartbeats 1000000 in
theorem lProofStepS_open {H : Type} {enc : TypeId × Value → H} {W : World} : ∀ (fuel : Nat) (cs : List Value) (x : DataW H × List MemPlace),
    DataW.trod enc Try.prog W 0 (fun _ => true) true fuel 214 cs = some x → ∃ (f : Ps) (A : Option Addr) (C : Nat), cs = [.slice A f.len C] ∧ f.Lies W A ∧ f.len ≤ 9223372036854775807 ∧ f.Fits := by
  intro fuel
  induction fuel using Nat.strongRecOn with
  | _ fuel ih =>
    intro cs x h
    rcases DataW.trod_slice Try.underlying214 h with ⟨rfl, _⟩ | ⟨a, len, cap, elems, rest, n, hn, rfl, rfl, hb, hl, hm, hlen, hel, hsp, hns⟩
    · exact ⟨.nil, none, 0, rfl, fun h => absurd rfl h, Nat.zero_le _, trivial⟩
    · have one : ∀ i, i < len → ∃ (us : Int) (bk : Bool) (pa : Il) (te : Fo) (ac : Fo) (Apa Ate Aac : Option Addr) (Cpa Cte Cac : Nat), W.cell? (a.add (i * 5)) = some (.int .i64 us) ∧ W.cell? (a.add (i * 5 + 1)) = some (.bool bk) ∧ W.cell? (a.add (i * 5 + 2)) = some (.slice Apa pa.len Cpa) ∧ W.cell? (a.add (i * 5 + 3)) = some (.slice Ate te.len Cte) ∧ W.cell? (a.add (i * 5 + 4)) = some (.slice Aac ac.len Cac) ∧ (pa.Lies W Apa ∧ pa.len ≤ 9223372036854775807 ∧ pa.Fits) ∧ (te.Lies W Ate ∧ te.len ≤ 9223372036854775807 ∧ te.Fits) ∧ (ac.Lies W Aac ∧ ac.len ≤ 9223372036854775807 ∧ ac.Fits) := by
        intro i hi
        have key := hel i hi
        rw [List.getElem?_eq_getElem (by omega), Try.cellsPs] at key
        obtain ⟨cs', h1, h2⟩ := Option.bind_eq_some_iff.1 key
        obtain ⟨_, hl3, hc⟩ := World.cells?_some h1
        match cs', hl3 with
        | [v0, v1, v2, v3, v4], _ =>
          obtain ⟨us, bk, pa, te, ac, Apa, Ate, Aac, Cpa, Cte, Cac, rfl, rfl, rfl, rfl, rfl, lpa, lte, lac⟩ := lProofStep_cells h2
          have c0 := hc 0 (by omega)
          have c1 := hc 1 (by omega)
          have c2 := hc 2 (by omega)
          have c3 := hc 3 (by omega)
          have c4 := hc 4 (by omega)
          rw [add_add] at c0 c1 c2 c3 c4
          exact ⟨us, bk, pa, te, ac, Apa, Ate, Aac, Cpa, Cte, Cac, c0, c1, c2, c3, c4, lpa, lte, lac⟩
      obtain ⟨b, o, spot⟩ := a
      by_cases h0 : len = 0
      · subst h0
        exact ⟨.nil, _, _, rfl, fun h => absurd rfl h, Nat.zero_le _, trivial⟩
      have hspot : spot = none := by
        obtain ⟨_, _, _, _, _, _, _, _, _, _, _, c0, _⟩ := one 0 (by omega)
        simpa [Addr.add] using World.cell?_spot c0
      subst hspot
      have key : ∀ j, j ≤ len → ∃ f : Ps, f.len = j ∧ f.At W b (o + (len - j) * 5) ∧ f.Fits := by
        intro j
        induction j with
        | zero => intro _; exact ⟨.nil, rfl, trivial, trivial⟩
        | succ j ihj =>
          intro hj
          obtain ⟨f, e1, e2, e3⟩ := ihj (by omega)
          obtain ⟨us, bk, pa, te, ac, Apa, Ate, Aac, Cpa, Cte, Cac, c0, c1, c2, c3, c4, lpa, lte, lac⟩ := one (len - (j + 1)) (by omega)
          rw [add_plain] at c0 c1 c2 c3 c4
          refine ⟨.cons us bk pa te ac f, by simp [Ps.len, e1], ⟨c0, c1, ⟨Apa, Cpa, c2, lpa.1⟩, ⟨Ate, Cte, c3, lte.1⟩, ⟨Aac, Cac, c4, lac.1⟩, ?_⟩, lpa.2, lte.2, lac.2, e3⟩
          rw [show o + (len - (j + 1)) * 5 + 5 = o + (len - j) * 5 from by omega]
          exact e2
      obtain ⟨f, e1, e2, e3⟩ := key len (Nat.le_refl _)
      rw [Nat.sub_self, Nat.zero_mul] at e2
      subst e1
      exact ⟨f, some ⟨b, o, none⟩, cap, rfl, fun _ => ⟨b, o, rfl, e2⟩, by unfold maxLen at hm; omega, e3⟩

set_option maxRecDepth 100000 in
theorem lClaim_cells {H : Type} {enc : TypeId × Value → H} {W : World} {fuel : Nat} {v_0 v_1 v_2 v_3 v_4 v_5 v_6 v_7 v_8 : Value} {x : DataW H × List MemPlace} (h : DataW.trod enc Try.prog W 0 (fun _ => true) true fuel 216 [v_0, v_1, v_2, v_3, v_4, v_5, v_6, v_7, v_8] = some x) :
    ∃ (lk : Int) (ln : Int) (lf : Fo) (rk : Int) (rn : Int) (rf : Fo) (ru : Int) (re : Int) (st : Ps) (Alf Arf Ast : Option Addr) (Clf Crf Cst : Nat), v_0 = .int .i64 lk ∧ v_1 = .int .i64 ln ∧ v_2 = .slice Alf lf.len Clf ∧ v_3 = .int .i64 rk ∧ v_4 = .int .i64 rn ∧ v_5 = .slice Arf rf.len Crf ∧ v_6 = .int .i64 ru ∧ v_7 = .int .i64 re ∧ v_8 = .slice Ast st.len Cst ∧ (lf.Lies W Alf ∧ lf.len ≤ 9223372036854775807 ∧ lf.Fits) ∧ (rf.Lies W Arf ∧ rf.len ≤ 9223372036854775807 ∧ rf.Fits) ∧ (st.Lies W Ast ∧ st.len ≤ 9223372036854775807 ∧ st.Fits) := by
  obtain ⟨xs, m, _, _, _, hxl, hf⟩ := DataW.trod_struct Try.underlying216 h
  match xs, hxl with
  | [y0, y1, y2, y3, y4], _ =>
    have g0 : DataW.trod enc Try.prog W 0 (fun _ => true) true m 26 [v_0, v_1, v_2] = some y0 := hf 0 _ rfl
    have g1 : DataW.trod enc Try.prog W 0 (fun _ => true) true m 26 [v_3, v_4, v_5] = some y1 := hf 1 _ rfl
    have g2 : DataW.trod enc Try.prog W 0 (fun _ => true) true m 2 [v_6] = some y2 := hf 2 _ rfl
    have g3 : DataW.trod enc Try.prog W 0 (fun _ => true) true m 2 [v_7] = some y3 := hf 3 _ rfl
    have g4 : DataW.trod enc Try.prog W 0 (fun _ => true) true m 214 [v_8] = some y4 := hf 4 _ rfl
    obtain ⟨lk, ln, lf, Alf, Clf, rfl, rfl, rfl, l_lf⟩ := lExpr_cells g0
    obtain ⟨rk, rn, rf, Arf, Crf, rfl, rfl, rfl, l_rf⟩ := lExpr_cells g1
    obtain ⟨ru, h_ru, _, _⟩ := DataW.trod_int Try.underlying2 g2
    simp at h_ru
    subst h_ru
    obtain ⟨re, h_re, _, _⟩ := DataW.trod_int Try.underlying2 g3
    simp at h_re
    subst h_re
    obtain ⟨st, Ast, Cst, h_st, l_st⟩ := lProofStepS_open _ _ _ g4
    simp at h_st
    subst h_st
    exact ⟨lk, ln, lf, rk, rn, rf, ru, re, st, Alf, Arf, Ast, Clf, Crf, Cst, rfl, rfl, rfl, rfl, rfl, rfl, rfl, rfl, rfl, l_lf, l_rf, l_st⟩

theorem Try.cellsCl : Try.prog.cellsOf 216 = 9 := by kernel_rfl
set_option maxRecDepth 100000 in
set_option maxHeartbeats 1000000 in
theorem lClaimS_open {H : Type} {enc : TypeId × Value → H} {W : World} : ∀ (fuel : Nat) (cs : List Value) (x : DataW H × List MemPlace),
    DataW.trod enc Try.prog W 0 (fun _ => true) true fuel 61 cs = some x → ∃ (f : Cl) (A : Option Addr) (C : Nat), cs = [.slice A f.len C] ∧ f.Lies W A ∧ f.len ≤ 9223372036854775807 ∧ f.Fits := by
  intro fuel
  induction fuel using Nat.strongRecOn with
  | _ fuel ih =>
    intro cs x h
    rcases DataW.trod_slice Try.underlying61 h with ⟨rfl, _⟩ | ⟨a, len, cap, elems, rest, n, hn, rfl, rfl, hb, hl, hm, hlen, hel, hsp, hns⟩
    · exact ⟨.nil, none, 0, rfl, fun h => absurd rfl h, Nat.zero_le _, trivial⟩
    · have one : ∀ i, i < len → ∃ (lk : Int) (ln : Int) (lf : Fo) (rk : Int) (rn : Int) (rf : Fo) (ru : Int) (re : Int) (st : Ps) (Alf Arf Ast : Option Addr) (Clf Crf Cst : Nat), W.cell? (a.add (i * 9)) = some (.int .i64 lk) ∧ W.cell? (a.add (i * 9 + 1)) = some (.int .i64 ln) ∧ W.cell? (a.add (i * 9 + 2)) = some (.slice Alf lf.len Clf) ∧ W.cell? (a.add (i * 9 + 3)) = some (.int .i64 rk) ∧ W.cell? (a.add (i * 9 + 4)) = some (.int .i64 rn) ∧ W.cell? (a.add (i * 9 + 5)) = some (.slice Arf rf.len Crf) ∧ W.cell? (a.add (i * 9 + 6)) = some (.int .i64 ru) ∧ W.cell? (a.add (i * 9 + 7)) = some (.int .i64 re) ∧ W.cell? (a.add (i * 9 + 8)) = some (.slice Ast st.len Cst) ∧ (lf.Lies W Alf ∧ lf.len ≤ 9223372036854775807 ∧ lf.Fits) ∧ (rf.Lies W Arf ∧ rf.len ≤ 9223372036854775807 ∧ rf.Fits) ∧ (st.Lies W Ast ∧ st.len ≤ 9223372036854775807 ∧ st.Fits) := by
        intro i hi
        have key := hel i hi
        rw [List.getElem?_eq_getElem (by omega), Try.cellsCl] at key
        obtain ⟨cs', h1, h2⟩ := Option.bind_eq_some_iff.1 key
        obtain ⟨_, hl3, hc⟩ := World.cells?_some h1
        match cs', hl3 with
        | [v0, v1, v2, v3, v4, v5, v6, v7, v8], _ =>
          obtain ⟨lk, ln, lf, rk, rn, rf, ru, re, st, Alf, Arf, Ast, Clf, Crf, Cst, rfl, rfl, rfl, rfl, rfl, rfl, rfl, rfl, rfl, llf, lrf, lst⟩ := lClaim_cells h2
          have c0 := hc 0 (by omega)
          have c1 := hc 1 (by omega)
          have c2 := hc 2 (by omega)
          have c3 := hc 3 (by omega)
          have c4 := hc 4 (by omega)
          have c5 := hc 5 (by omega)
          have c6 := hc 6 (by omega)
          have c7 := hc 7 (by omega)
          have c8 := hc 8 (by omega)
          rw [add_add] at c0 c1 c2 c3 c4 c5 c6 c7 c8
          exact ⟨lk, ln, lf, rk, rn, rf, ru, re, st, Alf, Arf, Ast, Clf, Crf, Cst, c0, c1, c2, c3, c4, c5, c6, c7, c8, llf, lrf, lst⟩
      obtain ⟨b, o, spot⟩ := a
      by_cases h0 : len = 0
      · subst h0
        exact ⟨.nil, _, _, rfl, fun h => absurd rfl h, Nat.zero_le _, trivial⟩
      have hspot : spot = none := by
        obtain ⟨_, _, _, _, _, _, _, _, _, _, _, _, _, _, _, c0, _⟩ := one 0 (by omega)
        simpa [Addr.add] using World.cell?_spot c0
      subst hspot
      have key : ∀ j, j ≤ len → ∃ f : Cl, f.len = j ∧ f.At W b (o + (len - j) * 9) ∧ f.Fits := by
        intro j
        induction j with
        | zero => intro _; exact ⟨.nil, rfl, trivial, trivial⟩
        | succ j ihj =>
          intro hj
          obtain ⟨f, e1, e2, e3⟩ := ihj (by omega)
          obtain ⟨lk, ln, lf, rk, rn, rf, ru, re, st, Alf, Arf, Ast, Clf, Crf, Cst, c0, c1, c2, c3, c4, c5, c6, c7, c8, llf, lrf, lst⟩ := one (len - (j + 1)) (by omega)
          rw [add_plain] at c0 c1 c2 c3 c4 c5 c6 c7 c8
          refine ⟨.cons lk ln lf rk rn rf ru re st f, by simp [Cl.len, e1], ⟨c0, c1, ⟨Alf, Clf, c2, llf.1⟩, c3, c4, ⟨Arf, Crf, c5, lrf.1⟩, c6, c7, ⟨Ast, Cst, c8, lst.1⟩, ?_⟩, llf.2, lrf.2, lst.2, e3⟩
          rw [show o + (len - (j + 1)) * 9 + 9 = o + (len - j) * 9 from by omega]
          exact e2
      obtain ⟨f, e1, e2, e3⟩ := key len (Nat.le_refl _)
      rw [Nat.sub_self, Nat.zero_mul] at e2
      subst e1
      exact ⟨f, some ⟨b, o, none⟩, cap, rfl, fun _ => ⟨b, o, rfl, e2⟩, by unfold maxLen at hm; omega, e3⟩

set_option maxRecDepth 100000 in
theorem lProof_cells {H : Type} {enc : TypeId × Value → H} {W : World} {fuel : Nat} {v_0 v_1 v_2 : Value} {x : DataW H × List MemPlace} (h : DataW.trod enc Try.prog W 0 (fun _ => true) true fuel 63 [v_0, v_1, v_2] = some x) :
    ∃ (gt : Int) (ga : Int) (cl : Cl) (Acl : Option Addr) (Ccl : Nat), v_0 = .int .i64 gt ∧ v_1 = .int .i64 ga ∧ v_2 = .slice Acl cl.len Ccl ∧ (cl.Lies W Acl ∧ cl.len ≤ 9223372036854775807 ∧ cl.Fits) := by
  obtain ⟨xs, m, _, _, _, hxl, hf⟩ := DataW.trod_struct Try.underlying63 h
  match xs, hxl with
  | [y0, y1], _ =>
    have g0 : DataW.trod enc Try.prog W 0 (fun _ => true) true m 23 [v_0, v_1] = some y0 := hf 0 _ rfl
    have g1 : DataW.trod enc Try.prog W 0 (fun _ => true) true m 61 [v_2] = some y1 := hf 1 _ rfl
    obtain ⟨gt, ga, rfl, rfl⟩ := lSig_cells g0
    obtain ⟨cl, Acl, Ccl, h_cl, l_cl⟩ := lClaimS_open _ _ _ g1
    simp at h_cl
    subst h_cl
    exact ⟨gt, ga, cl, Acl, Ccl, rfl, rfl, rfl, l_cl⟩

theorem arrProof {α : Type} {cs : Array α} (h : cs.size = 3) : ∃ v0 v1 v2, cs = #[v0, v1, v2] := by
  obtain ⟨l⟩ := cs
  match l, h with
  | [v0, v1, v2], _ => exact ⟨v0, v1, v2, rfl⟩
theorem Try.cellsVProof : Try.prog.cellsOf 63 = 3 := by kernel_rfl
set_option maxRecDepth 100000 in
theorem lProof_open {H : Type} {enc : TypeId × Value → H} {W : World} {base : Nat} {v : Value} {d : DataW H} {p : List MemPlace} (hok : Value.okWide Try.prog W .any base 63 v) (h : DataW.Trod enc Try.prog W 0 (fun _ => true) true 63 v d p) :
    ∃ (gt : Int) (ga : Int) (cl : Cl) (Acl : Option Addr) (Ccl : Nat), v = .agg #[.int .i64 gt, .int .i64 ga, .slice Acl cl.len Ccl] ∧ (cl.Lies W Acl ∧ cl.len ≤ 9223372036854775807 ∧ cl.Fits) := by
  obtain ⟨cs, rfl, hsz⟩ := okWide_struct Try.underlying63 hok
  obtain ⟨v0, v1, v2, rfl⟩ := arrProof (hsz.trans Try.cellsVProof)
  obtain ⟨fuel, hf0⟩ := h
  have hf1 : DataW.trod enc Try.prog W 0 (fun _ => true) true fuel 63 [v0, v1, v2] = some (d, p) := hf0
  obtain ⟨gt, ga, cl, Acl, Ccl, rfl, rfl, rfl, l_cl⟩ := lProof_cells hf1
  exact ⟨gt, ga, cl, Acl, Ccl, rfl, l_cl⟩
end Go.Proofs.YtlpgkhdecccmlaaR
