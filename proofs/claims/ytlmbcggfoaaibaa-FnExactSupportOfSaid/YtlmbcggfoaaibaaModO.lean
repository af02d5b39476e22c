/- Models and costs that are handed to a law, opened. -/
import Derived.Test.YtlmbcggfoaaibaaAutO
import Derived.Test.YtlmbcggfoaaibaaMod
namespace Go.Proofs.Ytlmbcggfoaaibaa
open Go.RowKit Go.WideShapes Go.ChangeShapes Go.ChangeAt Go.Deep Go.WideElems

theorem array_five {α : Type} {cs : Array α} (h : cs.size = 5) : ∃ a b c d e, cs = #[a, b, c, d, e] := by
  obtain ⟨l⟩ := cs
  match l, h with
  | [a, b, c, d, e], _ => exact ⟨a, b, c, d, e, rfl⟩
theorem bbb_open {H : Type} {enc : TypeId × Value → H} {W : World} {fuel : Nat} {cs : List Value} {x : DataW H × List MemPlace} (h : DataW.trod enc Try.prog W 0 (fun _ => true) true fuel 25 cs = some x) : ∃ (xs : List (List (List Bool))) (A : Option Addr) (C : Nat), cs = [.slice A xs.length C] ∧ BBB 0 W xs A ∧ (xs.length ≤ 9223372036854775807 ∧ ∀ x ∈ xs, x.length ≤ 9223372036854775807 ∧ ∀ y ∈ x, y.length ≤ 9223372036854775807) :=
  rows3_open Try.underlying25 (by kernel_rfl) (fun _ _ _ h => bb_open h) h

set_option maxRecDepth 100000 in
theorem lmodel_open {H : Type} {enc : TypeId × Value → H} {W : World} {base : Nat} {v : Value} {d : DataW H} {p : List MemPlace} (hok : Value.okWide Try.prog W .any base 27 v) (h : DataW.Trod enc Try.prog W 0 (fun _ => true) true 27 v d p) :
    ∃ (t a q : Int) (ac : List (List Bool)) (nx : List (List (List Bool))) (A B : Option Addr) (C D : Nat), v = .agg #[.int .i64 t, .int .i64 a, .int .i64 q, .slice A ac.length C, .slice B nx.length D] ∧ BB 0 W ac A ∧ BBB 0 W nx B ∧ FitM ac nx ∧ (Lit.int .i64 t).wf = true ∧ (Lit.int .i64 a).wf = true ∧ (Lit.int .i64 q).wf = true := by
  obtain ⟨cs, rfl, hsz⟩ := okWide_struct Try.underlying27 hok
  obtain ⟨c0, c1, c2, c3, c4, rfl⟩ := array_five (hsz.trans (by kernel_rfl : Try.prog.cellsOf 27 = 5))
  obtain ⟨fuel, hf⟩ := h
  obtain ⟨y0, y1, y2, y3, n, _, _, h0, h1, h2, h3⟩ := Joins.trod_struct4 Try.underlying27 hf
  have s0 : Try.prog.cellsOf 23 = 2 := by kernel_rfl
  have s1 : Try.prog.cellsOf 24 = 1 := by kernel_rfl
  have s2 : Try.prog.cellsOf 25 = 1 := by kernel_rfl
  have i1 : Try.prog.cellsOf 2 = 1 := by kernel_rfl
  simp only [Value.cells, s0, s1, s2, i1] at h0 h1 h2 h3
  simp at h0 h1 h2 h3
  obtain ⟨u0, u1, n2, _, _, g0, g1⟩ := trod_struct2 Try.underlying23 h0
  simp only [i1] at g0 g1
  simp at g0 g1
  obtain ⟨t, ht, _, wt⟩ := DataW.trod_int Try.underlying2 g0
  obtain ⟨a, ha, _, wa⟩ := DataW.trod_int Try.underlying2 g1
  obtain ⟨q, hq, _, wq⟩ := DataW.trod_int Try.underlying2 h1
  obtain ⟨ac, A, C, hac, l1, l2⟩ := bb_open h2
  obtain ⟨nx, B, D, hnx, m1, m2⟩ := bbb_open h3
  simp at ht ha hq hac hnx
  subst ht; subst ha; subst hq; subst hac; subst hnx
  exact ⟨t, a, q, ac, nx, A, B, C, D, rfl, l1, m1, ⟨l2.1, l2.2, m2.1, m2.2⟩, wt, wa, wq⟩

set_option maxRecDepth 100000 in
theorem lcosts_open {H : Type} {enc : TypeId × Value → H} {W : World} {base : Nat} {v : Value} {d : DataW H} {p : List MemPlace} (hok : Value.okWide Try.prog W .any base 39 v) (h : DataW.Trod enc Try.prog W 0 (fun _ => true) true 39 v d p) :
    ∃ (t a q : Int) (ac : List (List Bool)) (nx : List (List (List Int))) (A B : Option Addr) (C D : Nat), v = .agg #[.int .i64 t, .int .i64 a, .int .i64 q, .slice A ac.length C, .slice B nx.length D] ∧ BB 0 W ac A ∧ III 0 W nx B ∧ FitA ac nx ∧ (Lit.int .i64 t).wf = true ∧ (Lit.int .i64 a).wf = true ∧ (Lit.int .i64 q).wf = true := by
  obtain ⟨cs, rfl, hsz⟩ := okWide_struct Try.underlying39 hok
  obtain ⟨c0, c1, c2, c3, c4, rfl⟩ := array_five (hsz.trans (by kernel_rfl : Try.prog.cellsOf 39 = 5))
  obtain ⟨fuel, hf⟩ := h
  obtain ⟨y0, y1, y2, y3, n, _, _, h0, h1, h2, h3⟩ := Joins.trod_struct4 Try.underlying39 hf
  have s0 : Try.prog.cellsOf 23 = 2 := by kernel_rfl
  have s1 : Try.prog.cellsOf 24 = 1 := by kernel_rfl
  have s2 : Try.prog.cellsOf 37 = 1 := by kernel_rfl
  have i1 : Try.prog.cellsOf 2 = 1 := by kernel_rfl
  simp only [Value.cells, s0, s1, s2, i1] at h0 h1 h2 h3
  simp at h0 h1 h2 h3
  obtain ⟨u0, u1, n2, _, _, g0, g1⟩ := trod_struct2 Try.underlying23 h0
  simp only [i1] at g0 g1
  simp at g0 g1
  obtain ⟨t, ht, _, wt⟩ := DataW.trod_int Try.underlying2 g0
  obtain ⟨a, ha, _, wa⟩ := DataW.trod_int Try.underlying2 g1
  obtain ⟨q, hq, _, wq⟩ := DataW.trod_int Try.underlying2 h1
  obtain ⟨ac, A, C, hac, l1, l2⟩ := bb_open h2
  obtain ⟨nx, B, D, hnx, m1, m2⟩ := iii_open h3
  simp at ht ha hq hac hnx
  subst ht; subst ha; subst hq; subst hac; subst hnx
  exact ⟨t, a, q, ac, nx, A, B, C, D, rfl, l1, m1, ⟨l2.1, l2.2, m2.1, m2.2⟩, wt, wa, wq⟩
end Go.Proofs.Ytlmbcggfoaaibaa
