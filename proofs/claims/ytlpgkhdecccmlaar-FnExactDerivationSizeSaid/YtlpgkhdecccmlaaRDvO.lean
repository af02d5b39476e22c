/- Derivations that are handed to a law, opened. -/
import Derived.Test.YtlpgkhdecccmlaaRDv
import Derived.Test.YtlpgkhdecccmlaaRPgO
import Derived.Test.YtlpgkhdecccmlaaRLaw
namespace Go.Proofs.YtlpgkhdecccmlaaR
open Go.RowKit Go.WideShapes Go.ChangeShapes Go.ChangeAt Go.Deep Go.WideElems
set_option linter.unusedVariables false

set_option maxRecDepth 100000 in
theorem lExpr_cells {H : Type} {enc : TypeId × Value → H} {W : World} {fuel : Nat} {v0 v1 v2 : Value} {x : DataW H × List MemPlace} (h : DataW.trod enc Try.prog W 0 (fun _ => true) true fuel 26 [v0, v1, v2] = some x) :
    ∃ (k n : Int) (f : Fo) (A : Option Addr) (C : Nat), v0 = .int .i64 k ∧ v1 = .int .i64 n ∧ v2 = .slice A f.len C ∧ (f.Lies W A ∧ f.len ≤ 9223372036854775807 ∧ f.Fits) := by
  obtain ⟨xs, m, _, _, _, hxl, hf⟩ := DataW.trod_struct Try.underlying26 h
  match xs, hxl with
  | [y0, y1, y2], _ =>
    have g0 : DataW.trod enc Try.prog W 0 (fun _ => true) true m 2 [v0] = some y0 := hf 0 _ rfl
    have g1 : DataW.trod enc Try.prog W 0 (fun _ => true) true m 2 [v1] = some y1 := hf 1 _ rfl
    have g2 : DataW.trod enc Try.prog W 0 (fun _ => true) true m 24 [v2] = some y2 := hf 2 _ rfl
    obtain ⟨k, hk, _, _⟩ := DataW.trod_int Try.underlying2 g0
    obtain ⟨n, hn, _, _⟩ := DataW.trod_int Try.underlying2 g1
    obtain ⟨f, A, C, hf2, l⟩ := lforest_open _ _ _ g2
    simp at hk hn hf2
    subst hk; subst hn; subst hf2
    exact ⟨k, n, f, A, C, rfl, rfl, rfl, l⟩
set_option maxRecDepth 100000 in
theorem lProg_cells {H : Type} {enc : TypeId × Value → H} {W : World} {fuel : Nat} {v0 v1 v2 v3 v4 v5 : Value} {x : DataW H × List MemPlace} (h : DataW.trod enc Try.prog W 0 (fun _ => true) true fuel 75 [v0, v1, v2, v3, v4, v5] = some x) :
    ∃ (k n ck cn : Int) (cf : Fo) (ks : Pg) (A B : Option Addr) (C D : Nat), v0 = .int .i64 k ∧ v1 = .int .i64 n ∧ v2 = .int .i64 ck ∧ v3 = .int .i64 cn ∧ v4 = .slice A cf.len C ∧ v5 = .slice B ks.len D ∧ (cf.Lies W A ∧ cf.len ≤ 9223372036854775807 ∧ cf.Fits) ∧ (ks.Lies W B ∧ ks.len ≤ 9223372036854775807 ∧ ks.Fits) := by
  obtain ⟨xs, m, _, _, _, hxl, hf⟩ := DataW.trod_struct Try.underlying75 h
  match xs, hxl with
  | [y0, y1, y2, y3], _ =>
    have g0 : DataW.trod enc Try.prog W 0 (fun _ => true) true m 2 [v0] = some y0 := hf 0 _ rfl
    have g1 : DataW.trod enc Try.prog W 0 (fun _ => true) true m 2 [v1] = some y1 := hf 1 _ rfl
    have g2 : DataW.trod enc Try.prog W 0 (fun _ => true) true m 26 [v2, v3, v4] = some y2 := hf 2 _ rfl
    have g3 : DataW.trod enc Try.prog W 0 (fun _ => true) true m 73 [v5] = some y3 := hf 3 _ rfl
    obtain ⟨k, hk, _, _⟩ := DataW.trod_int Try.underlying2 g0
    obtain ⟨n, hn, _, _⟩ := DataW.trod_int Try.underlying2 g1
    obtain ⟨ck, cn, cf, A, C, rfl, rfl, rfl, l1⟩ := lExpr_cells g2
    obtain ⟨ks, B, D, hf3, l2⟩ := lprogs_open _ _ _ g3
    simp at hk hn hf3
    subst hk; subst hn; subst hf3
    exact ⟨k, n, ck, cn, cf, ks, A, B, C, D, rfl, rfl, rfl, rfl, rfl, rfl, l1, l2⟩
set_option maxRecDepth 100000 in
theorem lTriple_cells {H : Type} {enc : TypeId × Value → H} {W : World} {fuel : Nat} {v_0 v_1 v_2 v_3 v_4 v_5 v_6 v_7 v_8 v_9 v_10 v_11 : Value} {x : DataW H × List MemPlace} (h : DataW.trod enc Try.prog W 0 (fun _ => true) true fuel 77 [v_0, v_1, v_2, v_3, v_4, v_5, v_6, v_7, v_8, v_9, v_10, v_11] = some x) :
    ∃ (pk : Int) (pn : Int) (pf : Fo) (gk : Int) (gn : Int) (gck : Int) (gcn : Int) (gcf : Fo) (gks : Pg) (qk : Int) (qn : Int) (qf : Fo) (Apf Agcf Agks Aqf : Option Addr) (Cpf Cgcf Cgks Cqf : Nat), v_0 = .int .i64 pk ∧ v_1 = .int .i64 pn ∧ v_2 = .slice Apf pf.len Cpf ∧ v_3 = .int .i64 gk ∧ v_4 = .int .i64 gn ∧ v_5 = .int .i64 gck ∧ v_6 = .int .i64 gcn ∧ v_7 = .slice Agcf gcf.len Cgcf ∧ v_8 = .slice Agks gks.len Cgks ∧ v_9 = .int .i64 qk ∧ v_10 = .int .i64 qn ∧ v_11 = .slice Aqf qf.len Cqf ∧ (pf.Lies W Apf ∧ pf.len ≤ 9223372036854775807 ∧ pf.Fits) ∧ (gcf.Lies W Agcf ∧ gcf.len ≤ 9223372036854775807 ∧ gcf.Fits) ∧ (gks.Lies W Agks ∧ gks.len ≤ 9223372036854775807 ∧ gks.Fits) ∧ (qf.Lies W Aqf ∧ qf.len ≤ 9223372036854775807 ∧ qf.Fits) := by
  obtain ⟨xs, m, _, _, _, hxl, hf⟩ := DataW.trod_struct Try.underlying77 h
  match xs, hxl with
  | [y0, y1, y2], _ =>
    have g0 : DataW.trod enc Try.prog W 0 (fun _ => true) true m 26 [v_0, v_1, v_2] = some y0 := hf 0 _ rfl
    have g1 : DataW.trod enc Try.prog W 0 (fun _ => true) true m 75 [v_3, v_4, v_5, v_6, v_7, v_8] = some y1 := hf 1 _ rfl
    have g2 : DataW.trod enc Try.prog W 0 (fun _ => true) true m 26 [v_9, v_10, v_11] = some y2 := hf 2 _ rfl
    obtain ⟨pk, pn, pf, Apf, Cpf, rfl, rfl, rfl, l_pf⟩ := lExpr_cells g0
    obtain ⟨gk, gn, gck, gcn, gcf, gks, Agcf, Agks, Cgcf, Cgks, rfl, rfl, rfl, rfl, rfl, rfl, l_gcf, l_gks⟩ := lProg_cells g1
    obtain ⟨qk, qn, qf, Aqf, Cqf, rfl, rfl, rfl, l_qf⟩ := lExpr_cells g2
    exact ⟨pk, pn, pf, gk, gn, gck, gcn, gcf, gks, qk, qn, qf, Apf, Agcf, Agks, Aqf, Cpf, Cgcf, Cgks, Cqf, rfl, rfl, rfl, rfl, rfl, rfl, rfl, rfl, rfl, rfl, rfl, rfl, l_pf, l_gcf, l_gks, l_qf⟩

set_option maxRecDepth 100000 in
theorem lDerivation_cells {H : Type} {enc : TypeId × Value → H} {W : World} {fuel : Nat} {v_0 v_1 v_2 v_3 v_4 v_5 v_6 v_7 v_8 v_9 v_10 v_11 v_12 v_13 : Value} {x : DataW H × List MemPlace} (ihL : ∀ m : Nat, m < fuel → ∀ (cs : List Value) (x : DataW H × List MemPlace), DataW.trod enc Try.prog W 0 (fun _ => true) true m 78 cs = some x → ∃ (f : Dv) (A : Option Addr) (C : Nat), cs = [.slice A f.len C] ∧ f.Lies W A ∧ f.len ≤ 9223372036854775807 ∧ f.Fits) (h : DataW.trod enc Try.prog W 0 (fun _ => true) true fuel 80 [v_0, v_1, v_2, v_3, v_4, v_5, v_6, v_7, v_8, v_9, v_10, v_11, v_12, v_13] = some x) :
    ∃ (ru : Int) (pk : Int) (pn : Int) (pf : Fo) (gk : Int) (gn : Int) (gck : Int) (gcn : Int) (gcf : Fo) (gks : Pg) (qk : Int) (qn : Int) (qf : Fo) (ks : Dv) (Apf Agcf Agks Aqf Aks : Option Addr) (Cpf Cgcf Cgks Cqf Cks : Nat), v_0 = .int .i64 ru ∧ v_1 = .int .i64 pk ∧ v_2 = .int .i64 pn ∧ v_3 = .slice Apf pf.len Cpf ∧ v_4 = .int .i64 gk ∧ v_5 = .int .i64 gn ∧ v_6 = .int .i64 gck ∧ v_7 = .int .i64 gcn ∧ v_8 = .slice Agcf gcf.len Cgcf ∧ v_9 = .slice Agks gks.len Cgks ∧ v_10 = .int .i64 qk ∧ v_11 = .int .i64 qn ∧ v_12 = .slice Aqf qf.len Cqf ∧ v_13 = .slice Aks ks.len Cks ∧ (pf.Lies W Apf ∧ pf.len ≤ 9223372036854775807 ∧ pf.Fits) ∧ (gcf.Lies W Agcf ∧ gcf.len ≤ 9223372036854775807 ∧ gcf.Fits) ∧ (gks.Lies W Agks ∧ gks.len ≤ 9223372036854775807 ∧ gks.Fits) ∧ (qf.Lies W Aqf ∧ qf.len ≤ 9223372036854775807 ∧ qf.Fits) ∧ (ks.Lies W Aks ∧ ks.len ≤ 9223372036854775807 ∧ ks.Fits) := by
  obtain ⟨xs, m, rfl, _, _, hxl, hf⟩ := DataW.trod_struct Try.underlying80 h
  match xs, hxl with
  | [y0, y1, y2], _ =>
    have g0 : DataW.trod enc Try.prog W 0 (fun _ => true) true m 2 [v_0] = some y0 := hf 0 _ rfl
    have g1 : DataW.trod enc Try.prog W 0 (fun _ => true) true m 77 [v_1, v_2, v_3, v_4, v_5, v_6, v_7, v_8, v_9, v_10, v_11, v_12] = some y1 := hf 1 _ rfl
    have g2 : DataW.trod enc Try.prog W 0 (fun _ => true) true m 78 [v_13] = some y2 := hf 2 _ rfl
    obtain ⟨ru, h_ru, _, _⟩ := DataW.trod_int Try.underlying2 g0
    simp at h_ru
    subst h_ru
    obtain ⟨pk, pn, pf, gk, gn, gck, gcn, gcf, gks, qk, qn, qf, Apf, Agcf, Agks, Aqf, Cpf, Cgcf, Cgks, Cqf, rfl, rfl, rfl, rfl, rfl, rfl, rfl, rfl, rfl, rfl, rfl, rfl, l_pf, l_gcf, l_gks, l_qf⟩ := lTriple_cells g1
    obtain ⟨ks, Aks, Cks, h_ks, l_ks⟩ := ihL m (by omega) _ _ g2
    simp at h_ks
    subst h_ks
    exact ⟨ru, pk, pn, pf, gk, gn, gck, gcn, gcf, gks, qk, qn, qf, ks, Apf, Agcf, Agks, Aqf, Aks, Cpf, Cgcf, Cgks, Cqf, Cks, rfl, rfl, rfl, rfl, rfl, rfl, rfl, rfl, rfl, rfl, rfl, rfl, rfl, rfl, l_pf, l_gcf, l_gks, l_qf, l_ks⟩

theorem Try.cellsDv : Try.prog.cellsOf 80 = 14 := by kernel_rfl
set_option maxRecDepth 100000 in
set_option maxHeartbeats 1000000 in
theorem lDerivationS_open {H : Type} {enc : TypeId × Value → H} {W : World} : ∀ (fuel : Nat) (cs : List Value) (x : DataW H × List MemPlace),
    DataW.trod enc Try.prog W 0 (fun _ => true) true fuel 78 cs = some x → ∃ (f : Dv) (A : Option Addr) (C : Nat), cs = [.slice A f.len C] ∧ f.Lies W A ∧ f.len ≤ 9223372036854775807 ∧ f.Fits := by
  intro fuel
  induction fuel using Nat.strongRecOn with
  | _ fuel ih =>
    intro cs x h
    rcases DataW.trod_slice Try.underlying78 h with ⟨rfl, _⟩ | ⟨a, len, cap, elems, rest, n, hn, rfl, rfl, hb, hl, hm, hlen, hel, hsp, hns⟩
    · exact ⟨.nil, none, 0, rfl, fun h => absurd rfl h, Nat.zero_le _, trivial⟩
    · have one : ∀ i, i < len → ∃ (ru : Int) (pk : Int) (pn : Int) (pf : Fo) (gk : Int) (gn : Int) (gck : Int) (gcn : Int) (gcf : Fo) (gks : Pg) (qk : Int) (qn : Int) (qf : Fo) (ks : Dv) (Apf Agcf Agks Aqf Aks : Option Addr) (Cpf Cgcf Cgks Cqf Cks : Nat), W.cell? (a.add (i * 14)) = some (.int .i64 ru) ∧ W.cell? (a.add (i * 14 + 1)) = some (.int .i64 pk) ∧ W.cell? (a.add (i * 14 + 2)) = some (.int .i64 pn) ∧ W.cell? (a.add (i * 14 + 3)) = some (.slice Apf pf.len Cpf) ∧ W.cell? (a.add (i * 14 + 4)) = some (.int .i64 gk) ∧ W.cell? (a.add (i * 14 + 5)) = some (.int .i64 gn) ∧ W.cell? (a.add (i * 14 + 6)) = some (.int .i64 gck) ∧ W.cell? (a.add (i * 14 + 7)) = some (.int .i64 gcn) ∧ W.cell? (a.add (i * 14 + 8)) = some (.slice Agcf gcf.len Cgcf) ∧ W.cell? (a.add (i * 14 + 9)) = some (.slice Agks gks.len Cgks) ∧ W.cell? (a.add (i * 14 + 10)) = some (.int .i64 qk) ∧ W.cell? (a.add (i * 14 + 11)) = some (.int .i64 qn) ∧ W.cell? (a.add (i * 14 + 12)) = some (.slice Aqf qf.len Cqf) ∧ W.cell? (a.add (i * 14 + 13)) = some (.slice Aks ks.len Cks) ∧ (pf.Lies W Apf ∧ pf.len ≤ 9223372036854775807 ∧ pf.Fits) ∧ (gcf.Lies W Agcf ∧ gcf.len ≤ 9223372036854775807 ∧ gcf.Fits) ∧ (gks.Lies W Agks ∧ gks.len ≤ 9223372036854775807 ∧ gks.Fits) ∧ (qf.Lies W Aqf ∧ qf.len ≤ 9223372036854775807 ∧ qf.Fits) ∧ (ks.Lies W Aks ∧ ks.len ≤ 9223372036854775807 ∧ ks.Fits) := by
        intro i hi
        have key := hel i hi
        rw [List.getElem?_eq_getElem (by omega), Try.cellsDv] at key
        obtain ⟨cs', h1, h2⟩ := Option.bind_eq_some_iff.1 key
        obtain ⟨_, hl3, hc⟩ := World.cells?_some h1
        match cs', hl3 with
        | [v0, v1, v2, v3, v4, v5, v6, v7, v8, v9, v10, v11, v12, v13], _ =>
          obtain ⟨ru, pk, pn, pf, gk, gn, gck, gcn, gcf, gks, qk, qn, qf, ks, Apf, Agcf, Agks, Aqf, Aks, Cpf, Cgcf, Cgks, Cqf, Cks, rfl, rfl, rfl, rfl, rfl, rfl, rfl, rfl, rfl, rfl, rfl, rfl, rfl, rfl, lpf, lgcf, lgks, lqf, lks⟩ := lDerivation_cells (fun m hm cs x hx => ih m (by omega) cs x hx) h2
          have c0 := hc 0 (by omega)
          have c1 := hc 1 (by omega)
          have c2 := hc 2 (by omega)
          have c3 := hc 3 (by omega)
          have c4 := hc 4 (by omega)
          have c5 := hc 5 (by omega)
          have c6 := hc 6 (by omega)
          have c7 := hc 7 (by omega)
          have c8 := hc 8 (by omega)
          have c9 := hc 9 (by omega)
          have c10 := hc 10 (by omega)
          have c11 := hc 11 (by omega)
          have c12 := hc 12 (by omega)
          have c13 := hc 13 (by omega)
          rw [add_add] at c0 c1 c2 c3 c4 c5 c6 c7 c8 c9 c10 c11 c12 c13
          exact ⟨ru, pk, pn, pf, gk, gn, gck, gcn, gcf, gks, qk, qn, qf, ks, Apf, Agcf, Agks, Aqf, Aks, Cpf, Cgcf, Cgks, Cqf, Cks, c0, c1, c2, c3, c4, c5, c6, c7, c8, c9, c10, c11, c12, c13, lpf, lgcf, lgks, lqf, lks⟩
      obtain ⟨b, o, spot⟩ := a
      by_cases h0 : len = 0
      · subst h0
        exact ⟨.nil, _, _, rfl, fun h => absurd rfl h, Nat.zero_le _, trivial⟩
      have hspot : spot = none := by
        obtain ⟨_, _, _, _, _, _, _, _, _, _, _, _, _, _, _, _, _, _, _, _, _, _, _, _, c0, _⟩ := one 0 (by omega)
        simpa [Addr.add] using World.cell?_spot c0
      subst hspot
      have key : ∀ j, j ≤ len → ∃ f : Dv, f.len = j ∧ f.At W b (o + (len - j) * 14) ∧ f.Fits := by
        intro j
        induction j with
        | zero => intro _; exact ⟨.nil, rfl, trivial, trivial⟩
        | succ j ihj =>
          intro hj
          obtain ⟨f, e1, e2, e3⟩ := ihj (by omega)
          obtain ⟨ru, pk, pn, pf, gk, gn, gck, gcn, gcf, gks, qk, qn, qf, ks, Apf, Agcf, Agks, Aqf, Aks, Cpf, Cgcf, Cgks, Cqf, Cks, c0, c1, c2, c3, c4, c5, c6, c7, c8, c9, c10, c11, c12, c13, lpf, lgcf, lgks, lqf, lks⟩ := one (len - (j + 1)) (by omega)
          rw [add_plain] at c0 c1 c2 c3 c4 c5 c6 c7 c8 c9 c10 c11 c12 c13
          refine ⟨.cons ru pk pn pf gk gn gck gcn gcf gks qk qn qf ks f, by simp [Dv.len, e1], ⟨c0, c1, c2, ⟨Apf, Cpf, c3, lpf.1⟩, c4, c5, c6, c7, ⟨Agcf, Cgcf, c8, lgcf.1⟩, ⟨Agks, Cgks, c9, lgks.1⟩, c10, c11, ⟨Aqf, Cqf, c12, lqf.1⟩, ⟨Aks, Cks, c13, lks.1⟩, ?_⟩, lpf.2, lgcf.2, lgks.2, lqf.2, lks.2, e3⟩
          rw [show o + (len - (j + 1)) * 14 + 14 = o + (len - j) * 14 from by omega]
          exact e2
      obtain ⟨f, e1, e2, e3⟩ := key len (Nat.le_refl _)
      rw [Nat.sub_self, Nat.zero_mul] at e2
      subst e1
      exact ⟨f, some ⟨b, o, none⟩, cap, rfl, fun _ => ⟨b, o, rfl, e2⟩, by unfold maxLen at hm; omega, e3⟩

theorem arrDerivation {α : Type} {cs : Array α} (h : cs.size = 14) : ∃ v0 v1 v2 v3 v4 v5 v6 v7 v8 v9 v10 v11 v12 v13, cs = #[v0, v1, v2, v3, v4, v5, v6, v7, v8, v9, v10, v11, v12, v13] := by
  obtain ⟨l⟩ := cs
  match l, h with
  | [v0, v1, v2, v3, v4, v5, v6, v7, v8, v9, v10, v11, v12, v13], _ => exact ⟨v0, v1, v2, v3, v4, v5, v6, v7, v8, v9, v10, v11, v12, v13, rfl⟩
theorem Try.cellsVDerivation : Try.prog.cellsOf 80 = 14 := by kernel_rfl
set_option maxRecDepth 100000 in
theorem lDerivation_open {H : Type} {enc : TypeId × Value → H} {W : World} {base : Nat} {v : Value} {d : DataW H} {p : List MemPlace} (hok : Value.okWide Try.prog W .any base 80 v) (h : DataW.Trod enc Try.prog W 0 (fun _ => true) true 80 v d p) :
    ∃ (ru : Int) (pk : Int) (pn : Int) (pf : Fo) (gk : Int) (gn : Int) (gck : Int) (gcn : Int) (gcf : Fo) (gks : Pg) (qk : Int) (qn : Int) (qf : Fo) (ks : Dv) (Apf Agcf Agks Aqf Aks : Option Addr) (Cpf Cgcf Cgks Cqf Cks : Nat), v = .agg #[.int .i64 ru, .int .i64 pk, .int .i64 pn, .slice Apf pf.len Cpf, .int .i64 gk, .int .i64 gn, .int .i64 gck, .int .i64 gcn, .slice Agcf gcf.len Cgcf, .slice Agks gks.len Cgks, .int .i64 qk, .int .i64 qn, .slice Aqf qf.len Cqf, .slice Aks ks.len Cks] ∧ (pf.Lies W Apf ∧ pf.len ≤ 9223372036854775807 ∧ pf.Fits) ∧ (gcf.Lies W Agcf ∧ gcf.len ≤ 9223372036854775807 ∧ gcf.Fits) ∧ (gks.Lies W Agks ∧ gks.len ≤ 9223372036854775807 ∧ gks.Fits) ∧ (qf.Lies W Aqf ∧ qf.len ≤ 9223372036854775807 ∧ qf.Fits) ∧ (ks.Lies W Aks ∧ ks.len ≤ 9223372036854775807 ∧ ks.Fits) := by
  obtain ⟨cs, rfl, hsz⟩ := okWide_struct Try.underlying80 hok
  obtain ⟨v0, v1, v2, v3, v4, v5, v6, v7, v8, v9, v10, v11, v12, v13, rfl⟩ := arrDerivation (hsz.trans Try.cellsVDerivation)
  obtain ⟨fuel, hf0⟩ := h
  have hf1 : DataW.trod enc Try.prog W 0 (fun _ => true) true fuel 80 [v0, v1, v2, v3, v4, v5, v6, v7, v8, v9, v10, v11, v12, v13] = some (d, p) := hf0
  obtain ⟨ru, pk, pn, pf, gk, gn, gck, gcn, gcf, gks, qk, qn, qf, ks, Apf, Agcf, Agks, Aqf, Aks, Cpf, Cgcf, Cgks, Cqf, Cks, rfl, rfl, rfl, rfl, rfl, rfl, rfl, rfl, rfl, rfl, rfl, rfl, rfl, rfl, l_pf, l_gcf, l_gks, l_qf, l_ks⟩ := lDerivation_cells (fun m _ cs x hx => lDerivationS_open m cs x hx) hf1
  exact ⟨ru, pk, pn, pf, gk, gn, gck, gcn, gcf, gks, qk, qn, qf, ks, Apf, Agcf, Agks, Aqf, Aks, Cpf, Cgcf, Cgks, Cqf, Cks, rfl, l_pf, l_gcf, l_gks, l_qf, l_ks⟩
end Go.Proofs.YtlpgkhdecccmlaaR
