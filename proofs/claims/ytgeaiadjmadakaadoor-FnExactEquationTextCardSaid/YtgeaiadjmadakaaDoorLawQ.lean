/- An equation handed by value to a law. No walk. -/
import Derived.Test.YtgeaiadjmadakaaDoorLaw
import Derived.Deep.Strs
namespace Go.Proofs.YtgeaiadjmadakaaDoor
open Go.RowKit Go.WideShapes Go.ChangeShapes Go.ChangeAt Go.Deep Go.WideElems

theorem array6 {α : Type} {cs : Array α} (h : cs.size = 6) : ∃ c0 c1 c2 c3 c4 c5, cs = #[c0, c1, c2, c3, c4, c5] := by
  obtain ⟨l⟩ := cs
  match l, h with
  | [c0, c1, c2, c3, c4, c5], _ => exact ⟨c0, c1, c2, c3, c4, c5, rfl⟩

set_option maxRecDepth 100000 in
theorem lequation_open {H : Type} {enc : TypeId × Value → H} {W : World} {base : Nat} {v : Value} {d : DataW H} {p : List MemPlace} (hok : Value.okWide Tryd.prog W .any base 28 v) (h : DataW.Trod enc Tryd.prog W 0 (fun _ => true) true 28 v d p) :
    ∃ (k n : Int) (f : Fo) (A : Option Addr) (C : Nat) (j o : Int) (g : Fo) (B : Option Addr) (D : Nat), v = .agg #[.int .i64 k, .int .i64 n, .slice A f.len C, .int .i64 j, .int .i64 o, .slice B g.len D] ∧ f.Lies W A ∧ f.len ≤ 9223372036854775807 ∧ f.Fits ∧ g.Lies W B ∧ g.len ≤ 9223372036854775807 ∧ g.Fits ∧
      ((Lit.int .i64 k).wf = true ∧ (Lit.int .i64 n).wf = true ∧ (Lit.int .i64 j).wf = true ∧ (Lit.int .i64 o).wf = true) := by
  obtain ⟨cs, rfl, hsz⟩ := okWide_struct Tryd.underlying28 hok
  obtain ⟨c0, c1, c2, c3, c4, c5, rfl⟩ := array6 (hsz.trans (by kernel_rfl : Tryd.prog.cellsOf 28 = 6))
  obtain ⟨fuel, hf⟩ := h
  obtain ⟨y0, y1, m, _, _, h0, h1⟩ := trod_struct2 Tryd.underlying28 hf
  have s0 : Tryd.prog.cellsOf 26 = 3 := by kernel_rfl
  simp only [Value.cells, s0] at h0 h1
  simp at h0 h1
  obtain ⟨u0, u1, u2, n2, _, _, g0, g1, g2⟩ := trod_struct3 Tryd.underlying26 h0
  obtain ⟨t0, t1, t2, n3, _, _, e0, e1, e2⟩ := trod_struct3 Tryd.underlying26 h1
  have i1 : Tryd.prog.cellsOf 2 = 1 := by kernel_rfl
  have i2 : Tryd.prog.cellsOf 24 = 1 := by kernel_rfl
  simp only [i1, i2] at g0 g1 g2 e0 e1 e2
  simp at g0 g1 g2 e0 e1 e2
  obtain ⟨k, hk, _, wk⟩ := DataW.trod_int Tryd.underlying2 g0
  obtain ⟨n, hn, _, wn⟩ := DataW.trod_int Tryd.underlying2 g1
  obtain ⟨f, A, C, hfo, l1, l2, l3⟩ := lforest_open _ _ _ g2
  obtain ⟨j, hj, _, wj⟩ := DataW.trod_int Tryd.underlying2 e0
  obtain ⟨o, ho, _, wo⟩ := DataW.trod_int Tryd.underlying2 e1
  obtain ⟨g, B, D, hgo, r1, r2, r3⟩ := lforest_open _ _ _ e2
  simp at hk hn hfo hj ho hgo
  subst hk; subst hn; subst hfo; subst hj; subst ho; subst hgo
  exact ⟨k, n, f, A, C, j, o, g, B, D, rfl, l1, l2, l3, r1, r2, r3, wk, wn, wj, wo⟩
end Go.Proofs.YtgeaiadjmadakaaDoor
