/- The table of forms as the program's text lays it; it stays. The words of the table of forms as the program's text lays them. Contracts of the nodes' sizes and of impl.newNot, newSum, newDot, newStar. Contract of impl.nodeOf. Facts on assertions that a node is of a type. Closed facts, one a pair of types. Assertions that a node is an action. Closed facts. -/
import Derived.Test.YtcgbepmhfimbjaaGreatDoorRows
import Derived.Test.YtcgbepmhfimbjaaGreatDoorTqd
import Derived.Test.YtcgbepmhfimbjaaGreatDoorTqc
import Derived.LaidMore
import Derived.OpenShut
import Derived.Carry
import Derived.ChangeOld
import Derived.Stop.Joined
import Derived.Lib.SmallJoins
import Derived.WideKeyArgs
import Derived.SevenTiedAt
import Derived.MakeChecks
import Derived.Test.YtcgbepmhfimbjaaGreatDoorTqb
import Derived.Test.YtcgbepmhfimbjaaGreatDoorTqa
import Derived.Test.YtcgbepmhfimbjaaGreatDoorSep
import Derived.Lib.Hide
import Derived.Deep.RegionWith
namespace Go.Proofs.YtcgbepmhfimbjaaGreatDoor
open Go.RowKit Go.WideShapes Go.ChangeShapes Go.ChangeAt Go.WideElems
set_option linter.unusedVariables false

section
variable {H : Type} {enc : TypeId × Value → H} {P : Program}
theorem var_stays (hl : laidOutB P = true) {W W' : World} {sp : Nat → Bool} (hb : Below W.heap.size W W') {n : String} {gs : List (DataW H)} {ps : List MemPlace} {g : Nat} {t : TypeId} (hg : P.globalNamed n = some g) (ht : (P.globals[g]?).map (·.type) = some t)
    (hr : P.readableRec t = true) (hz : t < P.types.size) (h : DataW.TrodVars enc P W (fun _ => true) [n] gs ps) (hlt : ∀ x ∈ ps, x.block < W.heap.size) (hs : ∀ x ∈ ps, sp x.block = true) : DataW.TrodVars enc P W' sp [n] gs ps := by
  obtain ⟨g', t', cs, fuel, d, p, rfl, h1, h2, h3, h4, rfl⟩ := trodVars_one h
  obtain rfl := Option.some.inj (hg.symm.trans h1)
  obtain rfl := Option.some.inj (ht.symm.trans h2)
  have hbl : g < W.heap.size := by
    unfold World.var? at h3
    rw [h1] at h3
    simp only [Option.bind_some] at h3
    cases hh : W.heap[g]? with
    | none => rw [hh] at h3; cases h3
    | some o => exact (Array.getElem?_eq_some_iff.1 hh).1
  refine trodVars_mk1 h1 h2 ?_ (DataW.trod_stays (kids_book hl hr) (book_sized hr) (fun h => by cases h) ⟨hz, book_self t⟩ h4 (fun x hx => hb.same (hlt x (by simp [hx]))) (fun x hx => hs x (by simp [hx])))
  unfold World.var? at h3 ⊢
  rw [h1] at h3 ⊢
  simp only [Option.bind_some] at h3 ⊢
  rw [hb.block g hbl]
  exact h3
end

theorem gForms : Tryz.prog.globalNamed "loop.example/g01101/impl.progForms" = some 0 := by kernel_rfl
theorem tForms : (Tryz.prog.globals[0]?).map (·.type) = some 173 := by kernel_rfl
section
variable {H : Type} {enc : TypeId × Value → H}
theorem form_cells {W : World} {base : Nat} {sp : Nat → Bool} {held : Bool} {m : Nat} {cs : List Value} {x : DataW H × List MemPlace} {Ws : DataW H} {hn hc : Bool} {kids : Int} (h : DataW.trod enc Tryz.prog W base sp held m 172 cs = some x) (hx : x.1 = .agg [Ws, .lit (.bool hn), .lit (.bool hc), .lit (.int .i64 kids)]) :
    (∃ A l C, cs[0]? = some (.slice A l C)) ∧ cs[1]? = some (.bool hn) ∧ cs[2]? = some (.bool hc) ∧ cs[3]? = some (.int .i64 kids) := by
  obtain ⟨ys, n, _, rfl, hl, hlen, hf⟩ := DataW.trod_struct Tryz.underlying172 h
  have h0 : DataW.trod enc Tryz.prog W base sp held n 170 ((cs.drop 0).take (Tryz.prog.cellsOf 170)) = ys[0]? := hf 0 _ rfl
  have h1 : DataW.trod enc Tryz.prog W base sp held n 4 ((cs.drop 1).take (Tryz.prog.cellsOf 4)) = ys[1]? := hf 1 _ rfl
  have h2 : DataW.trod enc Tryz.prog W base sp held n 4 ((cs.drop 2).take (Tryz.prog.cellsOf 4)) = ys[2]? := hf 2 _ rfl
  have h3 : DataW.trod enc Tryz.prog W base sp held n 3 ((cs.drop 3).take (Tryz.prog.cellsOf 3)) = ys[3]? := hf 3 _ rfl
  have c0 : Tryz.prog.cellsOf 170 = 1 := by kernel_rfl
  have c1 : Tryz.prog.cellsOf 4 = 1 := by kernel_rfl
  have c3 : Tryz.prog.cellsOf 3 = 1 := by kernel_rfl
  have hy : ys.length = 4 := hlen
  match ys, hy with
  | [y0, y1, y2, y3], _ =>
  simp only [List.map_cons, List.map_nil, DataW.agg.injEq, List.cons.injEq, and_true] at hx
  obtain ⟨_, e1, e2, e3⟩ := hx
  rw [c0] at h0
  rw [c1] at h1 h2
  rw [c3] at h3
  have g1 : DataW.trod enc Tryz.prog W base sp held n 4 ((cs.drop 1).take 1) = some y1 := h1
  have g2 : DataW.trod enc Tryz.prog W base sp held n 4 ((cs.drop 2).take 1) = some y2 := h2
  have g3 : DataW.trod enc Tryz.prog W base sp held n 3 ((cs.drop 3).take 1) = some y3 := h3
  have g0 : DataW.trod enc Tryz.prog W base sp held n 170 ((cs.drop 0).take 1) = some y0 := h0
  have pick : ∀ (k : Nat) (v : Value), (cs.drop k).take 1 = [v] → cs[k]? = some v := fun k v h => by
    have h4 : ((cs.drop k).take 1)[0]? = some v := by rw [h]; rfl
    simpa using h4
  obtain ⟨b1, q1, r1⟩ := DataW.trod_bool Tryz.underlying4 g1
  obtain ⟨b2, q2, r2⟩ := DataW.trod_bool Tryz.underlying4 g2
  obtain ⟨b3, q3, r3, _⟩ := DataW.trod_int Tryz.underlying3 g3
  rw [r1] at e1
  rw [r2] at e2
  rw [r3] at e3
  simp only [DataW.lit.injEq, Lit.bool.injEq, Lit.int.injEq, true_and] at e1 e2 e3
  subst e1 e2 e3
  refine ⟨?_, pick 1 _ q1, pick 2 _ q2, pick 3 _ q3⟩
  rcases DataW.trod_slice Tryz.underlying170 g0 with ⟨h, _⟩ | ⟨a, len, cap, _, _, _, _, h, _⟩
  · exact ⟨_, _, _, pick 0 _ h⟩
  · exact ⟨_, _, _, pick 0 _ h⟩
end
/-- A listed variable holds what the list says. -/
theorem laid_mem {W : World} : ∀ {L : List (String × DataW Unit)} {ps : List MemPlace}, DataW.LaidVars Tryz.prog W L ps → ∀ {n : String} {d : DataW Unit}, (n, d) ∈ L → ∃ g t cs fuel p, Tryz.prog.globalNamed n = some g ∧ (Tryz.prog.globals[g]?).map (·.type) = some t ∧ W.var? Tryz.prog n = some cs ∧ DataW.trod (fun _ => ()) Tryz.prog W 0 (fun _ => true) false fuel t cs.toList = some (d, p)
  | [], _, _, _, _, hm => by cases hm
  | (n', d') :: L, ps, h, n, d, hm => by
    obtain ⟨g, t, cs, fuel, p, q, h1, h2, h3, h4, h5, _⟩ := h
    rcases List.mem_cons.1 hm with he | hm
    · cases he
      exact ⟨g, t, cs, fuel, p, h1, h2, h3, h4⟩
    · exact laid_mem h5 hm
theorem forms_of {W : World} {L : List (String × DataW Unit)} (h : laidMetH Tryz.prog L W) (hp : (L.all fun x => x.2.handleName?.isNone) = true) (hm : ("loop.example/g01101/impl.progForms", Rows.laid_loop_example_g01101_impl_progForms) ∈ L) : Forms W := by
  rw [MakeChecks.laidMetH_plain _ _ _ hp] at h
  obtain ⟨ps, hlv, _, _⟩ := h
  obtain ⟨g0, t0, cs0, f0, p0, hg0, ht0, hv0, hd0⟩ := laid_mem hlv hm
  obtain rfl := Option.some.inj (gForms.symm.trans hg0)
  obtain rfl := Option.some.inj (tForms.symm.trans ht0)
  obtain ⟨xs, m1, rfl, hx1, hlen, hn3, hel⟩ := DataW.trod_array Tryz.underlying173 hd0
  have cS : Tryz.prog.cellsOf 172 = 4 := by kernel_rfl
  simp only [Prod.mk.injEq] at hx1
  have hx2 := hx1.1
  unfold Rows.laid_loop_example_g01101_impl_progForms at hx2
  simp only [DataW.agg.injEq] at hx2
  have one : ∀ (i : Nat) (Ws : DataW Unit) (hn hc : Bool) (kids : Int), i < 8 → (xs.map (·.1))[i]? = some (.agg [Ws, .lit (.bool hn), .lit (.bool hc), .lit (.int .i64 kids)]) → FormAt W i hn hc kids := fun i Ws hn hc kids hi hxi => by
    have h := hel i hi
    rw [cS] at h
    rw [List.getElem?_map] at hxi
    obtain ⟨x, hx, hx3⟩ := Option.map_eq_some_iff.1 hxi
    rw [hx] at h
    obtain ⟨⟨A, l, C, c0⟩, c1, c2, c3⟩ := form_cells h hx3
    have cell : ∀ (j : Nat) (v : Value), j < 4 → ((cs0.toList.drop (i * 4)).take 4)[j]? = some v → W.cell? ⟨0, 4 * i + j, none⟩ = some v := fun j v hj hv => by
      rw [World.var?_cell hg0 hv0 (4 * i + j)]
      rw [List.getElem?_take, if_pos hj, List.getElem?_drop] at hv
      rw [← Array.getElem?_toList, show 4 * i + j = i * 4 + j by omega]
      exact hv
    exact ⟨A, l, C, cell 0 _ (by omega) c0, cell 1 _ (by omega) c1, cell 2 _ (by omega) c2, cell 3 _ (by omega) c3⟩
  exact ⟨one 1 _ _ _ _ (by decide) (by rw [← hx2]; rfl), one 2 _ _ _ _ (by decide) (by rw [← hx2]; rfl), one 3 _ _ _ _ (by decide) (by rw [← hx2]; rfl), one 4 _ _ _ _ (by decide) (by rw [← hx2]; rfl), one 5 _ _ _ _ (by decide) (by rw [← hx2]; rfl), one 6 _ _ _ _ (by decide) (by rw [← hx2]; rfl), one 7 _ _ _ _ (by decide) (by rw [← hx2]; rfl)⟩
end Go.Proofs.YtcgbepmhfimbjaaGreatDoor

namespace Go.Proofs.YtcgbepmhfimbjaaGreatDoor
open Go.RowKit Go.WideShapes Go.ChangeShapes Go.ChangeAt Go.WideElems
set_option linter.unusedVariables false

/-- The words that the table of forms holds at a kind. -/
def WordsAt (w : World) (i : Nat) (ws : List (List UInt8)) : Prop :=
  ∃ b o : Nat, w.cell? ⟨0, 4 * i, none⟩ = some (.slice (some ⟨b, o, none⟩) ws.length ws.length) ∧ ∀ (j : Nat) (s : List UInt8), ws[j]? = some s → w.cell? ⟨b, o + j, none⟩ = some (str s)
theorem WordsAt.sees {w w' : World} {i : Nat} {ws : List (List UInt8)} (h : WordsAt w i ws) (hs : Sees w w') : WordsAt w' i ws := by
  obtain ⟨b, o, h1, h2⟩ := h
  exact ⟨b, o, kc hs h1, fun j s hj => kc hs (h2 j s hj)⟩
structure FWords (w : World) : Prop where
  f1 : WordsAt w 1 [[115, 107, 105, 112]]
  f2 : WordsAt w 2 [[102, 97, 105, 108]]
  f3 : WordsAt w 3 [[97], []]
  f4 : WordsAt w 4 [[97, 115, 115, 101, 114, 116, 32], []]
  f5 : WordsAt w 5 [[123], [59, 32], [125]]
  f6 : WordsAt w 6 [[105, 102, 32], [32, 116, 104, 101, 110, 32], [32, 101, 108, 115, 101, 32], [32, 102, 105]]
  f7 : WordsAt w 7 [[119, 104, 105, 108, 101, 32], [32, 100, 111, 32], [32, 111, 100]]
theorem FWords.sees {w w' : World} (h : FWords w) (hs : Sees w w') : FWords w' := ⟨h.f1.sees hs, h.f2.sees hs, h.f3.sees hs, h.f4.sees hs, h.f5.sees hs, h.f6.sees hs, h.f7.sees hs⟩

def dlit {H : Type} (ws : List (List UInt8)) : DataW H := .slice (ws.map fun s => .lit (.string s)) []
section
variable {H : Type} {enc : TypeId × Value → H}
theorem word_cells {W : World} {held : Bool} {m : Nat} {cs : List Value} {x : DataW H × List MemPlace} {ws : List (List UInt8)} {d1 d2 d3 : DataW H} (h : DataW.trod enc Tryz.prog W 0 (fun _ => true) held m 172 cs = some x) (hne : 0 < ws.length) (hx : x.1 = .agg [dlit ws, d1, d2, d3]) :
    ∃ b o : Nat, cs[0]? = some (.slice (some ⟨b, o, none⟩) ws.length ws.length) ∧ ∀ (j : Nat) (s : List UInt8), ws[j]? = some s → W.cell? ⟨b, o + j, none⟩ = some (str s) := by
  obtain ⟨ys, n, _, rfl, hl, hlen, hf⟩ := DataW.trod_struct Tryz.underlying172 h
  have h0 : DataW.trod enc Tryz.prog W 0 (fun _ => true) held n 170 ((cs.drop 0).take (Tryz.prog.cellsOf 170)) = ys[0]? := hf 0 _ rfl
  have c0 : Tryz.prog.cellsOf 170 = 1 := by kernel_rfl
  have cS : Tryz.prog.cellsOf 9 = 1 := by kernel_rfl
  have hy : ys.length = 4 := hlen
  match ys, hy with
  | [y0, y1, y2, y3], _ =>
  simp only [List.map_cons, List.map_nil, DataW.agg.injEq, List.cons.injEq, and_true] at hx
  obtain ⟨e0, _⟩ := hx
  rw [c0] at h0
  have g0 : DataW.trod enc Tryz.prog W 0 (fun _ => true) held n 170 ((cs.drop 0).take 1) = some y0 := h0
  rcases DataW.trod_slice Tryz.underlying170 g0 with ⟨_, h1⟩ | ⟨a, len, cap, elems, rest, n1, _, h1, h2, _, hlc, _, hel, hcell, hsp, _⟩
  · rw [h1] at e0; cases e0
  · rw [h2] at e0
    unfold dlit at e0
    simp only [DataW.slice.injEq, List.map_eq_nil_iff] at e0
    obtain ⟨e1, e2⟩ := e0
    have hr := (hsp rfl).1
    rw [e2] at hr
    have hcap : cap = len := by simp at hr; omega
    have hlw : len = ws.length := by
      have h5 := congrArg List.length e1
      simp at h5
      omega
    subst hcap hlw
    have hcellj : ∀ (j : Nat) (s : List UInt8), ws[j]? = some s → W.cells? 0 (a.add j) 1 = some [str s] := fun j s hj => by
      obtain ⟨hjl, _⟩ := List.getElem?_eq_some_iff.1 hj
      have h6 := hcell j hjl
      rw [cS, Nat.mul_one] at h6
      have h7 : (elems.map (·.1))[j]? = some (.lit (.string s)) := by rw [e1]; simp [hj]
      rw [List.getElem?_map] at h7
      obtain ⟨y, hy1, hy2⟩ := Option.map_eq_some_iff.1 h7
      rw [hy1] at h6
      obtain ⟨cc, h8, h9⟩ := Option.bind_eq_some_iff.1 h6
      obtain ⟨s', h10, h11, _⟩ := DataW.trod_string Tryz.underlying9 h9
      rw [h11] at hy2
      simp only [DataW.lit.injEq, Lit.string.injEq] at hy2
      rw [h8, h10, ← hy2]
      rfl
    obtain ⟨b, o, spot⟩ := a
    have hspot : spot = none := by
      obtain ⟨_, _, hc2⟩ := World.cells?_some (hcellj 0 _ (List.getElem?_eq_getElem hne))
      have h12 := hc2 0 (by omega)
      simpa [Addr.add] using World.cell?_spot h12
    subst hspot
    refine ⟨b, o, ?_, fun j s hj => ?_⟩
    · have h4 : ((cs.drop 0).take 1)[0]? = some (.slice (some ⟨b, o, none⟩) ws.length ws.length) := by rw [h1]; rfl
      simpa using h4
    · obtain ⟨_, _, hc2⟩ := World.cells?_some (hcellj j s hj)
      have h12 := hc2 0 (by omega)
      have e : ((⟨b, o, none⟩ : Addr).add j).add 0 = ⟨b, o + j, none⟩ := by cases j <;> simp [Addr.add]
      rw [e] at h12
      exact h12
end
theorem fwords_of {W : World} {L : List (String × DataW Unit)} (h : laidMetH Tryz.prog L W) (hp : (L.all fun x => x.2.handleName?.isNone) = true) (hm : ("loop.example/g01101/impl.progForms", Rows.laid_loop_example_g01101_impl_progForms) ∈ L) : FWords W := by
  rw [MakeChecks.laidMetH_plain _ _ _ hp] at h
  obtain ⟨ps, hlv, _, _⟩ := h
  obtain ⟨g0, t0, cs0, f0, p0, hg0, ht0, hv0, hd0⟩ := laid_mem hlv hm
  obtain rfl := Option.some.inj (gForms.symm.trans hg0)
  obtain rfl := Option.some.inj (tForms.symm.trans ht0)
  obtain ⟨xs, m1, rfl, hx1, hlen, hn3, hel⟩ := DataW.trod_array Tryz.underlying173 hd0
  have cS : Tryz.prog.cellsOf 172 = 4 := by kernel_rfl
  simp only [Prod.mk.injEq] at hx1
  have hx2 := hx1.1
  unfold Rows.laid_loop_example_g01101_impl_progForms at hx2
  simp only [DataW.agg.injEq] at hx2
  have one : ∀ (i : Nat) (ws : List (List UInt8)) (d1 d2 d3 : DataW Unit), i < 8 → 0 < ws.length → (xs.map (·.1))[i]? = some (.agg [dlit ws, d1, d2, d3]) → WordsAt W i ws := fun i ws d1 d2 d3 hi hne hxi => by
    have h := hel i hi
    rw [cS] at h
    rw [List.getElem?_map] at hxi
    obtain ⟨x, hx, hx3⟩ := Option.map_eq_some_iff.1 hxi
    rw [hx] at h
    obtain ⟨b, o, c0, c1⟩ := word_cells h hne hx3
    refine ⟨b, o, ?_, c1⟩
    rw [show 4 * i = 4 * i + 0 from rfl, World.var?_cell hg0 hv0 (4 * i + 0)]
    rw [List.getElem?_take, if_pos (by decide), List.getElem?_drop] at c0
    rw [← Array.getElem?_toList, show 4 * i + 0 = i * 4 + 0 by omega]
    exact c0
  exact ⟨one 1 _ _ _ _ (by decide) (by decide) (by rw [← hx2]; rfl), one 2 _ _ _ _ (by decide) (by decide) (by rw [← hx2]; rfl), one 3 _ _ _ _ (by decide) (by decide) (by rw [← hx2]; rfl), one 4 _ _ _ _ (by decide) (by decide) (by rw [← hx2]; rfl), one 5 _ _ _ _ (by decide) (by decide) (by rw [← hx2]; rfl), one 6 _ _ _ _ (by decide) (by decide) (by rw [← hx2]; rfl), one 7 _ _ _ _ (by decide) (by decide) (by rw [← hx2]; rfl)⟩
end Go.Proofs.YtcgbepmhfimbjaaGreatDoor

namespace Go.Proofs.YtcgbepmhfimbjaaGreatDoor
open Go.RowKit

theorem zeroNode_size  (w : World) : Calls Tryz.prog 190 #[.agg #[]] w fun e w' => e = .returned (.int .i64 1) ∧ Below w.heap.size w w' := by
  go_enter Tryz.func190, Tryz.ntmps190
  go_wp2_with fail
  go_ret
  exact ⟨rfl, by go_grown⟩

theorem oneNode_size  (w : World) : Calls Tryz.prog 187 #[.agg #[]] w fun e w' => e = .returned (.int .i64 1) ∧ Below w.heap.size w w' := by
  go_enter Tryz.func187, Tryz.ntmps187
  go_wp2_with fail
  go_ret
  exact ⟨rfl, by go_grown⟩

theorem testNode_size (n : Int) (w : World) : Calls Tryz.prog 188 #[.agg #[.int .i64 n]] w fun e w' => e = .returned (.int .i64 1) ∧ Below w.heap.size w w' := by
  go_enter Tryz.func188, Tryz.ntmps188
  go_wp2_with fail
  go_ret
  exact ⟨rfl, by go_grown⟩

theorem actNode_size (n : Int) (w : World) : Calls Tryz.prog 189 #[.agg #[.int .i64 n]] w fun e w' => e = .returned (.int .i64 1) ∧ Below w.heap.size w w' := by
  go_enter Tryz.func189, Tryz.ntmps189
  go_wp2_with fail
  go_ret
  exact ⟨rfl, by go_grown⟩

theorem notNode_size (v : Value) (n : Int) (w : World) : Calls Tryz.prog 191 #[.agg #[v, .int .i64 n]] w fun e w' => e = .returned (.int .i64 n) ∧ Below w.heap.size w w' := by
  go_enter Tryz.func191, Tryz.ntmps191
  go_wp2_with fail
  go_ret
  exact ⟨rfl, by go_grown⟩

theorem starNode_size (v : Value) (n : Int) (w : World) : Calls Tryz.prog 194 #[.agg #[v, .int .i64 n]] w fun e w' => e = .returned (.int .i64 n) ∧ Below w.heap.size w w' := by
  go_enter Tryz.func194, Tryz.ntmps194
  go_wp2_with fail
  go_ret
  exact ⟨rfl, by go_grown⟩

theorem sumNode_size (v u : Value) (n : Int) (w : World) : Calls Tryz.prog 192 #[.agg #[v, u, .int .i64 n]] w fun e w' => e = .returned (.int .i64 n) ∧ Below w.heap.size w w' := by
  go_enter Tryz.func192, Tryz.ntmps192
  go_wp2_with fail
  go_ret
  exact ⟨rfl, by go_grown⟩

theorem dotNode_size (v u : Value) (n : Int) (w : World) : Calls Tryz.prog 193 #[.agg #[v, u, .int .i64 n]] w fun e w' => e = .returned (.int .i64 n) ∧ Below w.heap.size w w' := by
  go_enter Tryz.func193, Tryz.ntmps193
  go_wp2_with fail
  go_ret
  exact ⟨rfl, by go_grown⟩

/-- Each node answers its size. -/
theorem node_size (a : Nd) : ∃ (T : TypeId) (x : Value) (F : FuncId), a.val = .iface T x ∧ (∀ w, (method 371 T x "loop.example/g01101/impl.size").run Tryz.prog w = .ok (F, x) w) ∧ (∀ w, (callFunc F #[x]).run Tryz.prog w = .ok (.enter F #[x]) w) ∧
    ∀ w : World, Calls Tryz.prog F #[x] w fun e w' => e = .returned (.int .i64 (a.size : Int)) ∧ Below w.heap.size w w' := by
  cases a with
  | zero => exact ⟨169, _, 190, rfl, fun _ => by kernel_rfl, fun _ => by kernel_rfl, fun w => zeroNode_size w⟩
  | one => exact ⟨163, _, 187, rfl, fun _ => by kernel_rfl, fun _ => by kernel_rfl, fun w => oneNode_size w⟩
  | test n => exact ⟨165, _, 188, rfl, fun _ => by kernel_rfl, fun _ => by kernel_rfl, fun w => testNode_size n w⟩
  | act n => exact ⟨166, _, 189, rfl, fun _ => by kernel_rfl, fun _ => by kernel_rfl, fun w => actNode_size n w⟩
  | not a => exact ⟨202, _, 191, rfl, fun _ => by kernel_rfl, fun _ => by kernel_rfl, fun w => notNode_size _ _ w⟩
  | sum a b => exact ⟨204, _, 192, rfl, fun _ => by kernel_rfl, fun _ => by kernel_rfl, fun w => sumNode_size _ _ _ w⟩
  | dot a b => exact ⟨206, _, 193, rfl, fun _ => by kernel_rfl, fun _ => by kernel_rfl, fun w => dotNode_size _ _ _ w⟩
  | star a => exact ⟨207, _, 194, rfl, fun _ => by kernel_rfl, fun _ => by kernel_rfl, fun w => starNode_size _ _ w⟩

set_option maxRecDepth 100000 in
set_option maxHeartbeats 1000000 in
theorem newNot_any (a : Nd) (w : World) (h : 1 + a.size ≤ 4194304) : Calls Tryz.prog 84 #[a.val] w fun e w' => e = .returned ((Nd.not a).val) ∧ Below w.heap.size w w' := by
  obtain ⟨T1, x1, F1, hv1, hm1, he1, hc1⟩ := node_size a
  have HV : Hid ((Nd.not a).val = .iface 202 (.agg #[.iface T1 x1, .int .i64 (1 + (a.size : Int))])) := by
    have e0 : (Nd.not a).val = .iface 202 (.agg #[a.val, .int .i64 ((1 + a.size : Nat) : Int)]) := rfl
    show _ = _
    rw [e0, hv1, show ((1 + a.size : Nat) : Int) = 1 + (a.size : Int) from by omega]
  rw [hv1]
  have K1 := Lib.hid hc1
  clear hv1 hc1
  go_enter Tryz.func84, Tryz.ntmps84
  go_wp2_with fail
  refine (K1.out _).mono ?_
  rintro e w1 ⟨rfl, hb1⟩
  go_wp2_with fail
  go_ret
  refine ⟨by rw [HV.out]; rfl, hb1⟩

set_option maxRecDepth 100000 in
set_option maxHeartbeats 1000000 in
theorem newStar_any (a : Nd) (w : World) (h : 1 + a.size ≤ 4194304) : Calls Tryz.prog 87 #[a.val] w fun e w' => e = .returned ((Nd.star a).val) ∧ Below w.heap.size w w' := by
  obtain ⟨T1, x1, F1, hv1, hm1, he1, hc1⟩ := node_size a
  have HV : Hid ((Nd.star a).val = .iface 207 (.agg #[.iface T1 x1, .int .i64 (1 + (a.size : Int))])) := by
    have e0 : (Nd.star a).val = .iface 207 (.agg #[a.val, .int .i64 ((1 + a.size : Nat) : Int)]) := rfl
    show _ = _
    rw [e0, hv1, show ((1 + a.size : Nat) : Int) = 1 + (a.size : Int) from by omega]
  rw [hv1]
  have K1 := Lib.hid hc1
  clear hv1 hc1
  go_enter Tryz.func87, Tryz.ntmps87
  go_wp2_with fail
  refine (K1.out _).mono ?_
  rintro e w1 ⟨rfl, hb1⟩
  go_wp2_with fail
  go_ret
  refine ⟨by rw [HV.out]; rfl, hb1⟩

set_option maxRecDepth 100000 in
set_option maxHeartbeats 1000000 in
theorem newSum_any (a b : Nd) (w : World) (h : 1 + a.size + b.size ≤ 4194304) : Calls Tryz.prog 85 #[a.val, b.val] w fun e w' => e = .returned ((Nd.sum a b).val) ∧ Below w.heap.size w w' := by
  obtain ⟨T1, x1, F1, hv1, hm1, he1, hc1⟩ := node_size a
  obtain ⟨T2, x2, F2, hv2, hm2, he2, hc2⟩ := node_size b
  have HV : Hid ((Nd.sum a b).val = .iface 204 (.agg #[.iface T1 x1, .iface T2 x2, .int .i64 (1 + (a.size : Int) + b.size)])) := by
    have e0 : (Nd.sum a b).val = .iface 204 (.agg #[a.val, b.val, .int .i64 ((1 + a.size + b.size : Nat) : Int)]) := rfl
    show _ = _
    rw [e0, hv1, hv2, show ((1 + a.size + b.size : Nat) : Int) = 1 + (a.size : Int) + b.size from by omega]
  rw [hv1, hv2]
  have K1 := Lib.hid hc1
  have K2 := Lib.hid hc2
  clear hv1 hv2 hc1 hc2
  go_enter Tryz.func85, Tryz.ntmps85
  go_wp2_with fail
  refine (K1.out _).mono ?_
  rintro e w1 ⟨rfl, hb1⟩
  go_wp2_with fail
  refine (K2.out _).mono ?_
  rintro e w2 ⟨rfl, hb2⟩
  go_wp2_with fail
  go_ret
  refine ⟨by rw [HV.out]; rfl, hb1.trans (hb2.mono hb1.size)⟩

set_option maxRecDepth 100000 in
set_option maxHeartbeats 1000000 in
theorem newDot_any (a b : Nd) (w : World) (h : 1 + a.size + b.size ≤ 4194304) : Calls Tryz.prog 86 #[a.val, b.val] w fun e w' => e = .returned ((Nd.dot a b).val) ∧ Below w.heap.size w w' := by
  obtain ⟨T1, x1, F1, hv1, hm1, he1, hc1⟩ := node_size a
  obtain ⟨T2, x2, F2, hv2, hm2, he2, hc2⟩ := node_size b
  have HV : Hid ((Nd.dot a b).val = .iface 206 (.agg #[.iface T1 x1, .iface T2 x2, .int .i64 (1 + (a.size : Int) + b.size)])) := by
    have e0 : (Nd.dot a b).val = .iface 206 (.agg #[a.val, b.val, .int .i64 ((1 + a.size + b.size : Nat) : Int)]) := rfl
    show _ = _
    rw [e0, hv1, hv2, show ((1 + a.size + b.size : Nat) : Int) = 1 + (a.size : Int) + b.size from by omega]
  rw [hv1, hv2]
  have K1 := Lib.hid hc1
  have K2 := Lib.hid hc2
  clear hv1 hv2 hc1 hc2
  go_enter Tryz.func86, Tryz.ntmps86
  go_wp2_with fail
  refine (K1.out _).mono ?_
  rintro e w1 ⟨rfl, hb1⟩
  go_wp2_with fail
  refine (K2.out _).mono ?_
  rintro e w2 ⟨rfl, hb2⟩
  go_wp2_with fail
  go_ret
  refine ⟨by rw [HV.out]; rfl, hb1.trans (hb2.mono hb1.size)⟩

end Go.Proofs.YtcgbepmhfimbjaaGreatDoor

namespace Go.Proofs.YtcgbepmhfimbjaaGreatDoor
open Go.RowKit

set_option maxRecDepth 100000 in
set_option maxHeartbeats 2000000 in
theorem nodeOf_any : ∀ (N : Nat) (f : Fo), f.nodes < N → f.nodes ≤ 1048576 → ∀ (t a : Int) (b : Bool) (k n : Int) (A : Option Addr) (C : Nat) (w : World), f.Lies w A → treeE t a b k n f = true →
      Calls Tryz.prog 53 #[.agg #[.int .i64 k, .int .i64 n, .slice A f.len C]] w fun e w' => e = .returned ((ndE f k n).val) ∧ Below w.heap.size w w' := by
  intro N
  induction N with
  | zero => intro f hN; exact absurd hN (Nat.not_lt_zero _)
  | succ N ih =>
    intro f hN hm t a b k n A C w hl ht
    have IH := Lib.hid ih; clear ih
    rcases tree_forms ht with ⟨rfl, hk⟩ | ⟨k1, n1, f1, rfl, hk, ht1⟩ | ⟨k1, n1, f1, k2, n2, f2, rfl, hk, ht1, ht2⟩
    · clear ht IH
      rcases hk with rfl | rfl | ⟨rfl, _, _⟩ | ⟨rfl, _, _⟩
      all_goals
        go_enter Tryz.func53, Tryz.ntmps53
        go_wp2_with fail
        go_ret
        exact ⟨rfl, by go_grown⟩
    all_goals
      obtain ⟨b', o', rfl, hat⟩ := hl (by simp)
      clear hl
    · have hkn : f1.nodes < N ∧ f1.nodes ≤ 1048576 := by simp only [Fo.nodes] at hN hm; omega
      obtain ⟨c0, c1, ⟨A1, C1, c2, hl1'⟩, _⟩ := hat
      have hl1 : f1.Lies w A1 := hl1'
      have lb : b' < w.heap.size := World.block_lt_of_cell? _ _ c0
      have hln : (Fo.cons k1 n1 f1 .nil).len = 1 := rfl
      have HL := Lib.hid hln
      rw [hln]
      clear hln hl1' ht
      rcases hk with rfl | rfl
      · -- not
        have HE : Hid (ndE (.cons k1 n1 f1 .nil) 5 n = .not (ndE f1 k1 n1)) := rfl
        have hsz := ndE_size f1 k1 n1
        obtain ⟨v1, hv1⟩ : ∃ v1 : Value, v1 = (ndE f1 k1 n1).val := ⟨_, rfl⟩
        have KR : Hid (∀ W : World, Sees w W → Calls Tryz.prog 53 #[.agg #[.int .i64 k1, .int .i64 n1, .slice A1 f1.len C1]] W fun e w' => e = .returned v1 ∧ Below W.heap.size W w') := fun W h => by rw [hv1]; exact IH.out f1 hkn.1 hkn.2 t a _ k1 n1 A1 C1 W (hl1.sees h) ht1
        obtain ⟨v2, hv2⟩ : ∃ v2 : Value, v2 = (Nd.not (ndE f1 k1 n1)).val := ⟨_, rfl⟩
        have KN : Hid (∀ W : World, Calls Tryz.prog 84 #[v1] W fun e w' => e = .returned v2 ∧ Below W.heap.size W w') := fun W => by rw [hv1, hv2]; exact newNot_any _ W (by omega)
        have HV : Hid ((ndE (.cons k1 n1 f1 .nil) 5 n).val = v2) := by show _ = _; rw [HE.out, hv2]
        clear hv1 hv2 hsz HE IH
        go_enter Tryz.func53, Tryz.ntmps53
        go_wp2_with fail
        refine (KR.out _ (by unfold Sees; go_grown)).mono ?_
        rintro e w1 ⟨rfl, hb⟩
        have B1 : Sees w w1 := Sees.below (by unfold Sees; go_grown) hb
        clear hb
        go_wp2_with fail
        refine (KN.out _).mono ?_
        rintro e w2 ⟨rfl, hb⟩
        have B2 := B1.below hb
        clear hb
        go_wp2_with fail
        go_ret
        exact ⟨by rw [HV.out]; rfl, B2⟩
      · -- star
        have HE : Hid (ndE (.cons k1 n1 f1 .nil) 8 n = .star (ndE f1 k1 n1)) := rfl
        have hsz := ndE_size f1 k1 n1
        obtain ⟨v1, hv1⟩ : ∃ v1 : Value, v1 = (ndE f1 k1 n1).val := ⟨_, rfl⟩
        have KR : Hid (∀ W : World, Sees w W → Calls Tryz.prog 53 #[.agg #[.int .i64 k1, .int .i64 n1, .slice A1 f1.len C1]] W fun e w' => e = .returned v1 ∧ Below W.heap.size W w') := fun W h => by rw [hv1]; exact IH.out f1 hkn.1 hkn.2 t a _ k1 n1 A1 C1 W (hl1.sees h) ht1
        obtain ⟨v2, hv2⟩ : ∃ v2 : Value, v2 = (Nd.star (ndE f1 k1 n1)).val := ⟨_, rfl⟩
        have KN : Hid (∀ W : World, Calls Tryz.prog 87 #[v1] W fun e w' => e = .returned v2 ∧ Below W.heap.size W w') := fun W => by rw [hv1, hv2]; exact newStar_any _ W (by omega)
        have HV : Hid ((ndE (.cons k1 n1 f1 .nil) 8 n).val = v2) := by show _ = _; rw [HE.out, hv2]
        clear hv1 hv2 hsz HE IH
        go_enter Tryz.func53, Tryz.ntmps53
        go_wp2_with fail
        refine (KR.out _ (by unfold Sees; go_grown)).mono ?_
        rintro e w1 ⟨rfl, hb⟩
        have B1 : Sees w w1 := Sees.below (by unfold Sees; go_grown) hb
        clear hb
        go_wp2_with fail
        refine (KN.out _).mono ?_
        rintro e w2 ⟨rfl, hb⟩
        have B2 := B1.below hb
        clear hb
        go_wp2_with fail
        go_ret
        exact ⟨by rw [HV.out]; rfl, B2⟩
    · have hkn : f1.nodes < N ∧ f2.nodes < N ∧ f1.nodes + f2.nodes ≤ 1048576 := by simp only [Fo.nodes] at hN hm; omega
      obtain ⟨c0, c1, ⟨A1, C1, c2, hl1'⟩, d0, d1, ⟨A2, C2, d2, hl2'⟩, _⟩ := hat
      have hl1 : f1.Lies w A1 := hl1'
      have hl2 : f2.Lies w A2 := hl2'
      have lb : b' < w.heap.size := World.block_lt_of_cell? _ _ c0
      have hln : (Fo.cons k1 n1 f1 (.cons k2 n2 f2 .nil)).len = 2 := rfl
      rw [hln]
      clear hl1' hl2' ht hln
      rcases hk with rfl | rfl
      · -- sum
        have HE : Hid (ndE (.cons k1 n1 f1 (.cons k2 n2 f2 .nil)) 6 n = .sum (ndE f1 k1 n1) (ndE f2 k2 n2)) := rfl
        have hsz := ndE_size f1 k1 n1
        have hsz2 := ndE_size f2 k2 n2
        obtain ⟨v1, hv1⟩ : ∃ v1 : Value, v1 = (ndE f1 k1 n1).val := ⟨_, rfl⟩
        obtain ⟨u1, hu1⟩ : ∃ u1 : Value, u1 = (ndE f2 k2 n2).val := ⟨_, rfl⟩
        have KR : Hid (∀ W : World, Sees w W → Calls Tryz.prog 53 #[.agg #[.int .i64 k1, .int .i64 n1, .slice A1 f1.len C1]] W fun e w' => e = .returned v1 ∧ Below W.heap.size W w') := fun W h => by rw [hv1]; exact IH.out f1 hkn.1 (by omega) t a _ k1 n1 A1 C1 W (hl1.sees h) ht1
        have KR2 : Hid (∀ W : World, Sees w W → Calls Tryz.prog 53 #[.agg #[.int .i64 k2, .int .i64 n2, .slice A2 f2.len C2]] W fun e w' => e = .returned u1 ∧ Below W.heap.size W w') := fun W h => by rw [hu1]; exact IH.out f2 hkn.2.1 (by omega) t a _ k2 n2 A2 C2 W (hl2.sees h) ht2
        obtain ⟨v2, hv2⟩ : ∃ v2 : Value, v2 = (Nd.sum (ndE f1 k1 n1) (ndE f2 k2 n2)).val := ⟨_, rfl⟩
        have KN : Hid (∀ W : World, Calls Tryz.prog 85 #[v1, u1] W fun e w' => e = .returned v2 ∧ Below W.heap.size W w') := fun W => by rw [hv1, hu1, hv2]; exact newSum_any _ _ W (by omega)
        have HV : Hid ((ndE (.cons k1 n1 f1 (.cons k2 n2 f2 .nil)) 6 n).val = v2) := by show _ = _; rw [HE.out, hv2]
        have hX : Hid (St w [(w.heap.size, 2, .slice (some ⟨b', o', none⟩) 2 C), (b', o', .int .i64 k1), (b', o' + 1, .int .i64 n1), (b', o' + 2, .slice A1 f1.len C1), (b', o' + 3, .int .i64 k2), (b', o' + 4, .int .i64 n2), (b', o' + 5, .slice A2 f2.len C2)] (w.alloc (.cells #[.int .i64 6, .int .i64 n, .slice (some ⟨b', o', none⟩) 2 C] 38))) := ⟨(by unfold Sees; go_grown), (by simp [go_sem]), ka _ c0, ka _ c1, ka _ c2, ka _ d0, ka _ d1, ka _ d2, trivial⟩
        clear hv1 hu1 hv2 hsz hsz2 HE IH c0 c1 c2 d0 d1 d2
        go_enter Tryz.func53, Tryz.ntmps53
        go_wp2_with fail
        refine wp_region_quietC w [(w.heap.size, 2, .slice (some ⟨b', o', none⟩) 2 C), (b', o', .int .i64 k1), (b', o' + 1, .int .i64 n1), (b', o' + 2, .slice A1 f1.len C1), (b', o' + 3, .int .i64 k2), (b', o' + 4, .int .i64 n2), (b', o' + 5, .slice A2 f2.len C2)] (by kernel_rfl) (by kernel_rfl) hX.out ?_
        repeat (first | go_big_quiet_skip | (go_big_quiet_want; apply Exists.intro; refine ⟨fun W hW => ?_, ?_⟩; focus (have hK := Lib.hid hW; obtain ⟨hs, hc⟩ := hW; simp only [Has, and_true] at hc; go_simp; (first | (go_at_call_of 53 A1; exact quietC_call hK.out (KR.out _ hK.out.1)) | (go_at_call_of 53 A2; exact quietC_call hK.out (KR2.out _ hK.out.1)) | (go_at_call 85; exact quietC_call hK.out (KN.out _)) | rfl))) | (go_simp; go_big_quiet_on))
        refine wpQuiet_nil ?_
        intro w1 H1
        go_wp2_with fail
        go_ret
        exact ⟨by rw [HV.out]; rfl, H1.1⟩
      · -- dot
        have HE : Hid (ndE (.cons k1 n1 f1 (.cons k2 n2 f2 .nil)) 7 n = .dot (ndE f1 k1 n1) (ndE f2 k2 n2)) := rfl
        have hsz := ndE_size f1 k1 n1
        have hsz2 := ndE_size f2 k2 n2
        obtain ⟨v1, hv1⟩ : ∃ v1 : Value, v1 = (ndE f1 k1 n1).val := ⟨_, rfl⟩
        obtain ⟨u1, hu1⟩ : ∃ u1 : Value, u1 = (ndE f2 k2 n2).val := ⟨_, rfl⟩
        have KR : Hid (∀ W : World, Sees w W → Calls Tryz.prog 53 #[.agg #[.int .i64 k1, .int .i64 n1, .slice A1 f1.len C1]] W fun e w' => e = .returned v1 ∧ Below W.heap.size W w') := fun W h => by rw [hv1]; exact IH.out f1 hkn.1 (by omega) t a _ k1 n1 A1 C1 W (hl1.sees h) ht1
        have KR2 : Hid (∀ W : World, Sees w W → Calls Tryz.prog 53 #[.agg #[.int .i64 k2, .int .i64 n2, .slice A2 f2.len C2]] W fun e w' => e = .returned u1 ∧ Below W.heap.size W w') := fun W h => by rw [hu1]; exact IH.out f2 hkn.2.1 (by omega) t a _ k2 n2 A2 C2 W (hl2.sees h) ht2
        obtain ⟨v2, hv2⟩ : ∃ v2 : Value, v2 = (Nd.dot (ndE f1 k1 n1) (ndE f2 k2 n2)).val := ⟨_, rfl⟩
        have KN : Hid (∀ W : World, Calls Tryz.prog 86 #[v1, u1] W fun e w' => e = .returned v2 ∧ Below W.heap.size W w') := fun W => by rw [hv1, hu1, hv2]; exact newDot_any _ _ W (by omega)
        have HV : Hid ((ndE (.cons k1 n1 f1 (.cons k2 n2 f2 .nil)) 7 n).val = v2) := by show _ = _; rw [HE.out, hv2]
        have hX : Hid (St w [(w.heap.size, 2, .slice (some ⟨b', o', none⟩) 2 C), (b', o', .int .i64 k1), (b', o' + 1, .int .i64 n1), (b', o' + 2, .slice A1 f1.len C1), (b', o' + 3, .int .i64 k2), (b', o' + 4, .int .i64 n2), (b', o' + 5, .slice A2 f2.len C2)] (w.alloc (.cells #[.int .i64 7, .int .i64 n, .slice (some ⟨b', o', none⟩) 2 C] 38))) := ⟨(by unfold Sees; go_grown), (by simp [go_sem]), ka _ c0, ka _ c1, ka _ c2, ka _ d0, ka _ d1, ka _ d2, trivial⟩
        clear hv1 hu1 hv2 hsz hsz2 HE IH c0 c1 c2 d0 d1 d2
        go_enter Tryz.func53, Tryz.ntmps53
        go_wp2_with fail
        refine wp_region_quietC w [(w.heap.size, 2, .slice (some ⟨b', o', none⟩) 2 C), (b', o', .int .i64 k1), (b', o' + 1, .int .i64 n1), (b', o' + 2, .slice A1 f1.len C1), (b', o' + 3, .int .i64 k2), (b', o' + 4, .int .i64 n2), (b', o' + 5, .slice A2 f2.len C2)] (by kernel_rfl) (by kernel_rfl) hX.out ?_
        repeat (first | go_big_quiet_skip | (go_big_quiet_want; apply Exists.intro; refine ⟨fun W hW => ?_, ?_⟩; focus (have hK := Lib.hid hW; obtain ⟨hs, hc⟩ := hW; simp only [Has, and_true] at hc; go_simp; (first | (go_at_call_of 53 A1; exact quietC_call hK.out (KR.out _ hK.out.1)) | (go_at_call_of 53 A2; exact quietC_call hK.out (KR2.out _ hK.out.1)) | (go_at_call 86; exact quietC_call hK.out (KN.out _)) | rfl))) | (go_simp; go_big_quiet_on))
        refine wpQuiet_nil ?_
        intro w1 H1
        go_wp2_with fail
        go_ret
        exact ⟨by rw [HV.out]; rfl, H1.1⟩

end Go.Proofs.YtcgbepmhfimbjaaGreatDoor

namespace Go.Proofs.YtcgbepmhfimbjaaGreatDoor
open Go.RowKit

theorem is_zero_one (v : Value) (w : World) : (Instr.typeAssert (.iface 169 v) 113 163 true).run Tryz.prog w = .ok (.tuple #[.agg #[], .bool false]) w := by kernel_rfl
theorem is_zero_star (v : Value) (w : World) : (Instr.typeAssert (.iface 169 v) 113 207 true).run Tryz.prog w = .ok (.tuple #[.agg #[.nilIface, .int .i64 0], .bool false]) w := by kernel_rfl
theorem is_zero_test (v : Value) (w : World) : (Instr.typeAssert (.iface 169 v) 113 165 true).run Tryz.prog w = .ok (.tuple #[.agg #[.int .i64 0], .bool false]) w := by kernel_rfl
theorem is_zero_not (v : Value) (w : World) : (Instr.typeAssert (.iface 169 v) 113 202 true).run Tryz.prog w = .ok (.tuple #[.agg #[.nilIface, .int .i64 0], .bool false]) w := by kernel_rfl
theorem is_zero_sum (v : Value) (w : World) : (Instr.typeAssert (.iface 169 v) 113 204 true).run Tryz.prog w = .ok (.tuple #[.agg #[.nilIface, .nilIface, .int .i64 0], .bool false]) w := by kernel_rfl
theorem is_zero_dot (v : Value) (w : World) : (Instr.typeAssert (.iface 169 v) 113 206 true).run Tryz.prog w = .ok (.tuple #[.agg #[.nilIface, .nilIface, .int .i64 0], .bool false]) w := by kernel_rfl
theorem is_one_one (v : Value) (w : World) : (Instr.typeAssert (.iface 163 v) 113 163 true).run Tryz.prog w = .ok (.tuple #[v, .bool true]) w := by kernel_rfl
theorem is_one_star (v : Value) (w : World) : (Instr.typeAssert (.iface 163 v) 113 207 true).run Tryz.prog w = .ok (.tuple #[.agg #[.nilIface, .int .i64 0], .bool false]) w := by kernel_rfl
theorem is_one_test (v : Value) (w : World) : (Instr.typeAssert (.iface 163 v) 113 165 true).run Tryz.prog w = .ok (.tuple #[.agg #[.int .i64 0], .bool false]) w := by kernel_rfl
theorem is_one_not (v : Value) (w : World) : (Instr.typeAssert (.iface 163 v) 113 202 true).run Tryz.prog w = .ok (.tuple #[.agg #[.nilIface, .int .i64 0], .bool false]) w := by kernel_rfl
theorem is_one_sum (v : Value) (w : World) : (Instr.typeAssert (.iface 163 v) 113 204 true).run Tryz.prog w = .ok (.tuple #[.agg #[.nilIface, .nilIface, .int .i64 0], .bool false]) w := by kernel_rfl
theorem is_one_dot (v : Value) (w : World) : (Instr.typeAssert (.iface 163 v) 113 206 true).run Tryz.prog w = .ok (.tuple #[.agg #[.nilIface, .nilIface, .int .i64 0], .bool false]) w := by kernel_rfl
theorem is_test_one (v : Value) (w : World) : (Instr.typeAssert (.iface 165 v) 113 163 true).run Tryz.prog w = .ok (.tuple #[.agg #[], .bool false]) w := by kernel_rfl
theorem is_test_star (v : Value) (w : World) : (Instr.typeAssert (.iface 165 v) 113 207 true).run Tryz.prog w = .ok (.tuple #[.agg #[.nilIface, .int .i64 0], .bool false]) w := by kernel_rfl
theorem is_test_test (v : Value) (w : World) : (Instr.typeAssert (.iface 165 v) 113 165 true).run Tryz.prog w = .ok (.tuple #[v, .bool true]) w := by kernel_rfl
theorem is_test_not (v : Value) (w : World) : (Instr.typeAssert (.iface 165 v) 113 202 true).run Tryz.prog w = .ok (.tuple #[.agg #[.nilIface, .int .i64 0], .bool false]) w := by kernel_rfl
theorem is_test_sum (v : Value) (w : World) : (Instr.typeAssert (.iface 165 v) 113 204 true).run Tryz.prog w = .ok (.tuple #[.agg #[.nilIface, .nilIface, .int .i64 0], .bool false]) w := by kernel_rfl
theorem is_test_dot (v : Value) (w : World) : (Instr.typeAssert (.iface 165 v) 113 206 true).run Tryz.prog w = .ok (.tuple #[.agg #[.nilIface, .nilIface, .int .i64 0], .bool false]) w := by kernel_rfl
theorem is_act_one (v : Value) (w : World) : (Instr.typeAssert (.iface 166 v) 113 163 true).run Tryz.prog w = .ok (.tuple #[.agg #[], .bool false]) w := by kernel_rfl
theorem is_act_star (v : Value) (w : World) : (Instr.typeAssert (.iface 166 v) 113 207 true).run Tryz.prog w = .ok (.tuple #[.agg #[.nilIface, .int .i64 0], .bool false]) w := by kernel_rfl
theorem is_act_test (v : Value) (w : World) : (Instr.typeAssert (.iface 166 v) 113 165 true).run Tryz.prog w = .ok (.tuple #[.agg #[.int .i64 0], .bool false]) w := by kernel_rfl
theorem is_act_not (v : Value) (w : World) : (Instr.typeAssert (.iface 166 v) 113 202 true).run Tryz.prog w = .ok (.tuple #[.agg #[.nilIface, .int .i64 0], .bool false]) w := by kernel_rfl
theorem is_act_sum (v : Value) (w : World) : (Instr.typeAssert (.iface 166 v) 113 204 true).run Tryz.prog w = .ok (.tuple #[.agg #[.nilIface, .nilIface, .int .i64 0], .bool false]) w := by kernel_rfl
theorem is_act_dot (v : Value) (w : World) : (Instr.typeAssert (.iface 166 v) 113 206 true).run Tryz.prog w = .ok (.tuple #[.agg #[.nilIface, .nilIface, .int .i64 0], .bool false]) w := by kernel_rfl
theorem is_not_one (v : Value) (w : World) : (Instr.typeAssert (.iface 202 v) 113 163 true).run Tryz.prog w = .ok (.tuple #[.agg #[], .bool false]) w := by kernel_rfl
theorem is_not_star (v : Value) (w : World) : (Instr.typeAssert (.iface 202 v) 113 207 true).run Tryz.prog w = .ok (.tuple #[.agg #[.nilIface, .int .i64 0], .bool false]) w := by kernel_rfl
theorem is_not_test (v : Value) (w : World) : (Instr.typeAssert (.iface 202 v) 113 165 true).run Tryz.prog w = .ok (.tuple #[.agg #[.int .i64 0], .bool false]) w := by kernel_rfl
theorem is_not_not (v : Value) (w : World) : (Instr.typeAssert (.iface 202 v) 113 202 true).run Tryz.prog w = .ok (.tuple #[v, .bool true]) w := by kernel_rfl
theorem is_not_sum (v : Value) (w : World) : (Instr.typeAssert (.iface 202 v) 113 204 true).run Tryz.prog w = .ok (.tuple #[.agg #[.nilIface, .nilIface, .int .i64 0], .bool false]) w := by kernel_rfl
theorem is_not_dot (v : Value) (w : World) : (Instr.typeAssert (.iface 202 v) 113 206 true).run Tryz.prog w = .ok (.tuple #[.agg #[.nilIface, .nilIface, .int .i64 0], .bool false]) w := by kernel_rfl
theorem is_sum_one (v : Value) (w : World) : (Instr.typeAssert (.iface 204 v) 113 163 true).run Tryz.prog w = .ok (.tuple #[.agg #[], .bool false]) w := by kernel_rfl
theorem is_sum_star (v : Value) (w : World) : (Instr.typeAssert (.iface 204 v) 113 207 true).run Tryz.prog w = .ok (.tuple #[.agg #[.nilIface, .int .i64 0], .bool false]) w := by kernel_rfl
theorem is_sum_test (v : Value) (w : World) : (Instr.typeAssert (.iface 204 v) 113 165 true).run Tryz.prog w = .ok (.tuple #[.agg #[.int .i64 0], .bool false]) w := by kernel_rfl
theorem is_sum_not (v : Value) (w : World) : (Instr.typeAssert (.iface 204 v) 113 202 true).run Tryz.prog w = .ok (.tuple #[.agg #[.nilIface, .int .i64 0], .bool false]) w := by kernel_rfl
theorem is_sum_sum (v : Value) (w : World) : (Instr.typeAssert (.iface 204 v) 113 204 true).run Tryz.prog w = .ok (.tuple #[v, .bool true]) w := by kernel_rfl
theorem is_sum_dot (v : Value) (w : World) : (Instr.typeAssert (.iface 204 v) 113 206 true).run Tryz.prog w = .ok (.tuple #[.agg #[.nilIface, .nilIface, .int .i64 0], .bool false]) w := by kernel_rfl
theorem is_dot_one (v : Value) (w : World) : (Instr.typeAssert (.iface 206 v) 113 163 true).run Tryz.prog w = .ok (.tuple #[.agg #[], .bool false]) w := by kernel_rfl
theorem is_dot_star (v : Value) (w : World) : (Instr.typeAssert (.iface 206 v) 113 207 true).run Tryz.prog w = .ok (.tuple #[.agg #[.nilIface, .int .i64 0], .bool false]) w := by kernel_rfl
theorem is_dot_test (v : Value) (w : World) : (Instr.typeAssert (.iface 206 v) 113 165 true).run Tryz.prog w = .ok (.tuple #[.agg #[.int .i64 0], .bool false]) w := by kernel_rfl
theorem is_dot_not (v : Value) (w : World) : (Instr.typeAssert (.iface 206 v) 113 202 true).run Tryz.prog w = .ok (.tuple #[.agg #[.nilIface, .int .i64 0], .bool false]) w := by kernel_rfl
theorem is_dot_sum (v : Value) (w : World) : (Instr.typeAssert (.iface 206 v) 113 204 true).run Tryz.prog w = .ok (.tuple #[.agg #[.nilIface, .nilIface, .int .i64 0], .bool false]) w := by kernel_rfl
theorem is_dot_dot (v : Value) (w : World) : (Instr.typeAssert (.iface 206 v) 113 206 true).run Tryz.prog w = .ok (.tuple #[v, .bool true]) w := by kernel_rfl
theorem is_star_one (v : Value) (w : World) : (Instr.typeAssert (.iface 207 v) 113 163 true).run Tryz.prog w = .ok (.tuple #[.agg #[], .bool false]) w := by kernel_rfl
theorem is_star_star (v : Value) (w : World) : (Instr.typeAssert (.iface 207 v) 113 207 true).run Tryz.prog w = .ok (.tuple #[v, .bool true]) w := by kernel_rfl
theorem is_star_test (v : Value) (w : World) : (Instr.typeAssert (.iface 207 v) 113 165 true).run Tryz.prog w = .ok (.tuple #[.agg #[.int .i64 0], .bool false]) w := by kernel_rfl
theorem is_star_not (v : Value) (w : World) : (Instr.typeAssert (.iface 207 v) 113 202 true).run Tryz.prog w = .ok (.tuple #[.agg #[.nilIface, .int .i64 0], .bool false]) w := by kernel_rfl
theorem is_star_sum (v : Value) (w : World) : (Instr.typeAssert (.iface 207 v) 113 204 true).run Tryz.prog w = .ok (.tuple #[.agg #[.nilIface, .nilIface, .int .i64 0], .bool false]) w := by kernel_rfl
theorem is_star_dot (v : Value) (w : World) : (Instr.typeAssert (.iface 207 v) 113 206 true).run Tryz.prog w = .ok (.tuple #[.agg #[.nilIface, .nilIface, .int .i64 0], .bool false]) w := by kernel_rfl
end Go.Proofs.YtcgbepmhfimbjaaGreatDoor

namespace Go.Proofs.YtcgbepmhfimbjaaGreatDoor
open Go.RowKit
theorem is_zero_act (v : Value) (w : World) : (Instr.typeAssert (.iface 169 v) 113 166 true).run Tryz.prog w = .ok (.tuple #[.agg #[.int .i64 0], .bool false]) w := by kernel_rfl
theorem is_one_act (v : Value) (w : World) : (Instr.typeAssert (.iface 163 v) 113 166 true).run Tryz.prog w = .ok (.tuple #[.agg #[.int .i64 0], .bool false]) w := by kernel_rfl
theorem is_test_act (v : Value) (w : World) : (Instr.typeAssert (.iface 165 v) 113 166 true).run Tryz.prog w = .ok (.tuple #[.agg #[.int .i64 0], .bool false]) w := by kernel_rfl
theorem is_act_act (v : Value) (w : World) : (Instr.typeAssert (.iface 166 v) 113 166 true).run Tryz.prog w = .ok (.tuple #[v, .bool true]) w := by kernel_rfl
theorem is_not_act (v : Value) (w : World) : (Instr.typeAssert (.iface 202 v) 113 166 true).run Tryz.prog w = .ok (.tuple #[.agg #[.int .i64 0], .bool false]) w := by kernel_rfl
theorem is_sum_act (v : Value) (w : World) : (Instr.typeAssert (.iface 204 v) 113 166 true).run Tryz.prog w = .ok (.tuple #[.agg #[.int .i64 0], .bool false]) w := by kernel_rfl
theorem is_dot_act (v : Value) (w : World) : (Instr.typeAssert (.iface 206 v) 113 166 true).run Tryz.prog w = .ok (.tuple #[.agg #[.int .i64 0], .bool false]) w := by kernel_rfl
theorem is_star_act (v : Value) (w : World) : (Instr.typeAssert (.iface 207 v) 113 166 true).run Tryz.prog w = .ok (.tuple #[.agg #[.int .i64 0], .bool false]) w := by kernel_rfl
theorem Nd.val_if (a : Nd) : ∃ (T : TypeId) (x : Value), a.val = .iface T x := by
  cases a <;> exact ⟨_, _, rfl⟩
end Go.Proofs.YtcgbepmhfimbjaaGreatDoor
