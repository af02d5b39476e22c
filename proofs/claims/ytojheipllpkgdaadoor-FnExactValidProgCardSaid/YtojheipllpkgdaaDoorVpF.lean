/- The table of forms as the program's text lays it; it stays. -/
import Derived.Test.YtojheipllpkgdaaDoorRows
import Derived.Test.YtojheipllpkgdaaDoorLaw
import Derived.Test.YtojheipllpkgdaaDoorVpH
import Derived.LaidMore
import Derived.OpenShut
import Derived.Carry
import Derived.ChangeOld
import Derived.Stop.Joined
import Derived.Lib.SmallJoins
import Derived.WideKeyArgs
import Derived.SevenTiedAt
import Derived.MakeChecks
namespace Go.Proofs.YtojheipllpkgdaaDoor
open Go.RowKit Go.WideShapes Go.ChangeShapes Go.ChangeAt Go.WideElems
set_option linter.unusedVariables false

section
variable {H : Type} {enc : TypeId × Value → H} {P : Program}
theorem var_stays (hl : laidOutB P = true) {W W' : World} {sp : Nat → Bool} (hb : Below W.heap.size W W') {n : String} {gs : List (DataW H)} {ps : List MemPlace} {g : Nat} {t : TypeId} (hg : P.globalNamed n = some g) (ht : (P.globals[g]?).map (·.type) = some t)
    (hr : P.readableRec t = true) (hz : t < P.types.size) (h : DataW.TrodVars enc P W (fun _ => true) [n] gs ps) (hlt : ∀ x ∈ ps, x.block < W.heap.size) (hs : ∀ x ∈ ps, sp x.block = true) : DataW.TrodVars enc P W' sp [n] gs ps := by
  obtain ⟨g', t', cs, fuel, d, p, rfl, h1, h2, h3, h4, rfl⟩ := trodVars_one h
  obtain rfl := Option.some.inj (hg.symm.trans h1)
  obtain rfl := Option.some.inj (ht.symm.trans h2)
  have hbl : g < W.heap.size := by
    unfold World.var? at h3
    rw [h1] at h3
    simp only [Option.bind_some] at h3
    cases hh : W.heap[g]? with
    | none => rw [hh] at h3; cases h3
    | some o => exact (Array.getElem?_eq_some_iff.1 hh).1
  refine trodVars_mk1 h1 h2 ?_ (DataW.trod_stays (kids_book hl hr) (book_sized hr) (fun h => by cases h) ⟨hz, book_self t⟩ h4 (fun x hx => hb.same (hlt x (by simp [hx]))) (fun x hx => hs x (by simp [hx])))
  unfold World.var? at h3 ⊢
  rw [h1] at h3 ⊢
  simp only [Option.bind_some] at h3 ⊢
  rw [hb.block g hbl]
  exact h3
end

theorem gForms : Tryd.prog.globalNamed "loop.example/g01101/impl.progForms" = some 0 := by kernel_rfl
theorem tForms : (Tryd.prog.globals[0]?).map (·.type) = some 129 := by kernel_rfl
section
variable {H : Type} {enc : TypeId × Value → H}
theorem form_cells {W : World} {base : Nat} {sp : Nat → Bool} {held : Bool} {m : Nat} {cs : List Value} {x : DataW H × List MemPlace} {Ws : DataW H} {hn hc : Bool} {kids : Int} (h : DataW.trod enc Tryd.prog W base sp held m 128 cs = some x) (hx : x.1 = .agg [Ws, .lit (.bool hn), .lit (.bool hc), .lit (.int .i64 kids)]) :
    (∃ A l C, cs[0]? = some (.slice A l C)) ∧ cs[1]? = some (.bool hn) ∧ cs[2]? = some (.bool hc) ∧ cs[3]? = some (.int .i64 kids) := by
  obtain ⟨ys, n, _, rfl, hl, hlen, hf⟩ := DataW.trod_struct Tryd.underlying128 h
  have h0 : DataW.trod enc Tryd.prog W base sp held n 126 ((cs.drop 0).take (Tryd.prog.cellsOf 126)) = ys[0]? := hf 0 _ rfl
  have h1 : DataW.trod enc Tryd.prog W base sp held n 4 ((cs.drop 1).take (Tryd.prog.cellsOf 4)) = ys[1]? := hf 1 _ rfl
  have h2 : DataW.trod enc Tryd.prog W base sp held n 4 ((cs.drop 2).take (Tryd.prog.cellsOf 4)) = ys[2]? := hf 2 _ rfl
  have h3 : DataW.trod enc Tryd.prog W base sp held n 3 ((cs.drop 3).take (Tryd.prog.cellsOf 3)) = ys[3]? := hf 3 _ rfl
  have c0 : Tryd.prog.cellsOf 126 = 1 := by kernel_rfl
  have c1 : Tryd.prog.cellsOf 4 = 1 := by kernel_rfl
  have c3 : Tryd.prog.cellsOf 3 = 1 := by kernel_rfl
  have hy : ys.length = 4 := hlen
  match ys, hy with
  | [y0, y1, y2, y3], _ =>
  simp only [List.map_cons, List.map_nil, DataW.agg.injEq, List.cons.injEq, and_true] at hx
  obtain ⟨_, e1, e2, e3⟩ := hx
  rw [c0] at h0
  rw [c1] at h1 h2
  rw [c3] at h3
  have g1 : DataW.trod enc Tryd.prog W base sp held n 4 ((cs.drop 1).take 1) = some y1 := h1
  have g2 : DataW.trod enc Tryd.prog W base sp held n 4 ((cs.drop 2).take 1) = some y2 := h2
  have g3 : DataW.trod enc Tryd.prog W base sp held n 3 ((cs.drop 3).take 1) = some y3 := h3
  have g0 : DataW.trod enc Tryd.prog W base sp held n 126 ((cs.drop 0).take 1) = some y0 := h0
  have pick : ∀ (k : Nat) (v : Value), (cs.drop k).take 1 = [v] → cs[k]? = some v := fun k v h => by
    have h4 : ((cs.drop k).take 1)[0]? = some v := by rw [h]; rfl
    simpa using h4
  obtain ⟨b1, q1, r1⟩ := DataW.trod_bool Tryd.underlying4 g1
  obtain ⟨b2, q2, r2⟩ := DataW.trod_bool Tryd.underlying4 g2
  obtain ⟨b3, q3, r3, _⟩ := DataW.trod_int Tryd.underlying3 g3
  rw [r1] at e1
  rw [r2] at e2
  rw [r3] at e3
  simp only [DataW.lit.injEq, Lit.bool.injEq, Lit.int.injEq, true_and] at e1 e2 e3
  subst e1 e2 e3
  refine ⟨?_, pick 1 _ q1, pick 2 _ q2, pick 3 _ q3⟩
  rcases DataW.trod_slice Tryd.underlying126 g0 with ⟨h, _⟩ | ⟨a, len, cap, _, _, _, _, h, _⟩
  · exact ⟨_, _, _, pick 0 _ h⟩
  · exact ⟨_, _, _, pick 0 _ h⟩
end
theorem forms_of {W : World} (h : laidMetH Tryd.prog Rows.fnExactValidProgRow.laid W) : Forms W := by
  rw [MakeChecks.laidMetH_plain _ _ _ (by kernel_rfl)] at h
  obtain ⟨ps, ⟨g0, t0, cs0, f0, p0, q0, hg0, ht0, hv0, hd0, _, _⟩, _, _⟩ := h
  obtain rfl := Option.some.inj (gForms.symm.trans hg0)
  obtain rfl := Option.some.inj (tForms.symm.trans ht0)
  obtain ⟨xs, m1, rfl, hx1, hlen, hn3, hel⟩ := DataW.trod_array Tryd.underlying129 hd0
  have cS : Tryd.prog.cellsOf 128 = 4 := by kernel_rfl
  simp only [Prod.mk.injEq] at hx1
  have hx2 := hx1.1
  unfold Rows.laid_loop_example_g01101_impl_progForms at hx2
  simp only [DataW.agg.injEq] at hx2
  have one : ∀ (i : Nat) (Ws : DataW Unit) (hn hc : Bool) (kids : Int), i < 8 → (xs.map (·.1))[i]? = some (.agg [Ws, .lit (.bool hn), .lit (.bool hc), .lit (.int .i64 kids)]) → FormAt W i hn hc kids := fun i Ws hn hc kids hi hxi => by
    have h := hel i hi
    rw [cS] at h
    rw [List.getElem?_map] at hxi
    obtain ⟨x, hx, hx3⟩ := Option.map_eq_some_iff.1 hxi
    rw [hx] at h
    obtain ⟨⟨A, l, C, c0⟩, c1, c2, c3⟩ := form_cells h hx3
    have cell : ∀ (j : Nat) (v : Value), j < 4 → ((cs0.toList.drop (i * 4)).take 4)[j]? = some v → W.cell? ⟨0, 4 * i + j, none⟩ = some v := fun j v hj hv => by
      rw [World.var?_cell hg0 hv0 (4 * i + j)]
      rw [List.getElem?_take, if_pos hj, List.getElem?_drop] at hv
      rw [← Array.getElem?_toList, show 4 * i + j = i * 4 + j by omega]
      exact hv
    exact ⟨A, l, C, cell 0 _ (by omega) c0, cell 1 _ (by omega) c1, cell 2 _ (by omega) c2, cell 3 _ (by omega) c3⟩
  exact ⟨one 1 _ _ _ _ (by decide) (by rw [← hx2]; rfl), one 2 _ _ _ _ (by decide) (by rw [← hx2]; rfl), one 3 _ _ _ _ (by decide) (by rw [← hx2]; rfl), one 4 _ _ _ _ (by decide) (by rw [← hx2]; rfl), one 5 _ _ _ _ (by decide) (by rw [← hx2]; rfl), one 6 _ _ _ _ (by decide) (by rw [← hx2]; rfl), one 7 _ _ _ _ (by decide) (by rw [← hx2]; rfl)⟩
end Go.Proofs.YtojheipllpkgdaaDoor
