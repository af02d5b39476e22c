/- Contract of spec.l05Pick. -/
import Derived.Test.YtojheipllpkgdaaRsD
import Derived.Test.YtojheipllpkgdaaQuietC
import Derived.Deep.RegionLaw
import Derived.Deep.RegionHeld3
import Derived.Deep.DrawnRows
import Derived.Deep.AppendLies
namespace Go.Proofs.Ytojheipllpkgdaa
open Go.RowKit
set_option linter.unusedVariables false

/-- A row of Booleans that a call makes by append, in blocks from lo on. -/
def OwnB (w : World) (lo : Nat) (v : Value) (xs : List Bool) : Prop := w.ownsRow lo 4 1 v xs.length (xs.map Value.bool)
theorem OwnB.made (w : World) : OwnB (w.alloc (.cells #[] 4)) w.heap.size (.slice (some ⟨w.heap.size, 0, none⟩) 0 0) [] := World.ownsRow_made w #[] 0 (Nat.le_refl _) (Nat.zero_le _) rfl
theorem OwnB.keep {w w' : World} {lo : Nat} {v : Value} {xs : List Bool} (h : OwnB w lo v xs) (hb : Below w.heap.size w w') : OwnB w' lo v xs := own_keep h fun k hk => hb.block k (World.ownsRow.lt h k hk).2
theorem OwnB.done {w : World} {lo : Nat} {v : Value} {xs : List Bool} (h : OwnB w lo v xs) : ∃ A C, v = .slice A xs.length C ∧ BoolsF w xs A (rng lo w.heap.size) := by
  have hlt := World.ownsRow.lt h
  obtain ⟨h1, h2⟩ := h
  rcases h2 with ⟨hv, h0⟩ | ⟨g, cap, cur, rfl, hb, hg, hn, _, hs, ht⟩
  · exact ⟨none, 0, by rw [h0]; exact hv, Or.inl (List.eq_nil_of_length_eq_zero h0)⟩
  · refine ⟨some ⟨g, 0, none⟩, cap, rfl, Or.inr ⟨g, rfl, hlt g rfl, fun i => Fo.unfrozen_of_block hg i, fun i x hx => ?_⟩⟩
    obtain ⟨hl, hxe⟩ := List.getElem?_eq_some_iff.1 hx
    rw [Fo.cell_of_block hg, ← Array.getElem?_toList]
    have h5 : (xs.map Value.bool)[i]? = some (.bool x) := by rw [List.getElem?_map, hx]; rfl
    rw [← ht, List.getElem?_take, if_pos (by omega)] at h5
    exact h5
theorem OwnB.push {w' : World} {lo : Nat} {v' : Value} {xs : List Bool} {q : Bool} (ho : w'.ownsRow lo 4 1 v' (xs.length + 1) (xs.map Value.bool ++ [.bool q])) : OwnB w' lo v' (xs ++ [q]) := by
  unfold OwnB
  rw [List.length_append, List.map_append]
  exact ho
theorem range_map_step {T : Nat → Bool} {x : Nat} : (List.range (x + 1)).map T = (List.range x).map T ++ [T x] := by rw [List.range_succ, List.map_append]; rfl
theorem rsT_row {t : Nat} {ord : List Int} {ac : List (List Bool)} {j : Nat} (h : j < (rsT t ord ac).length) : (rsT t ord ac)[j] = (List.range ord.length).map fun x => (ac.getD j []).getD (nth ord x).toNat false := tab_row _ _ _ h
theorem rsR_row {ord : List Int} {rows : List (List Bool)} {j : Nat} (h : j < (rsR ord rows).length) : (rsR ord rows)[j] = (List.range ord.length).map fun y => (rows.getD (nth ord j).toNat []).getD (nth ord y).toNat false := tab_row _ _ _ h
theorem rsT_step {t : Nat} {ord : List Int} {ac : List (List Bool)} {j : Nat} (h : j < t) : (rsT t ord ac).take (j + 1) = (rsT t ord ac).take j ++ [(List.range ord.length).map fun x => (ac.getD j []).getD (nth ord x).toNat false] := by
  have h1 : j < (rsT t ord ac).length := by rw [rsT_len]; exact h
  rw [List.take_succ_eq_append_getElem h1, rsT_row h1]
theorem rsR_step {ord : List Int} {rows : List (List Bool)} {j : Nat} (h : j < ord.length) : (rsR ord rows).take (j + 1) = (rsR ord rows).take j ++ [(List.range ord.length).map fun y => (rows.getD (nth ord j).toNat []).getD (nth ord y).toNat false] := by
  have h1 : j < (rsR ord rows).length := by rw [rsR_len]; exact h
  rw [List.take_succ_eq_append_getElem h1, rsR_row h1]
theorem mret5 {t a n k : Nat} {w W : World} {b lo1 hi1 : Nat} {ts : List (List Bool)} {acts : List (List (List Bool))} {A1 A2 : Option Addr} {C1 C2 : Nat} (h1 : BBF W ts A1 (rng lo1 hi1)) (h2 : BBBF W acts A2 (rng hi1 W.heap.size)) (hw : Below w.heap.size w W) (hn : w.heap.size ≤ b) (hb : b < lo1) (hl : lo1 ≤ hi1) (hz : hi1 ≤ W.heap.size) (ht : ts.length = t) (ha : acts.length = k) (v0 v1 v2 v3 v4 : Value) :
    MRet t a n ts acts w (.returned (.agg #[.int .i64 (t : Int), .int .i64 (a : Int), .int .i64 (n : Int), .slice A1 t C1, .slice A2 k C2])) (((((W.setCell ⟨b, 0, none⟩ v0).setCell ⟨b, 1, none⟩ v1).setCell ⟨b, 2, none⟩ v2).setCell ⟨b, 3, none⟩ v3).setCell ⟨b, 4, none⟩ v4) := by
  subst ha
  have zs : (((((W.setCell ⟨b, 0, none⟩ v0).setCell ⟨b, 1, none⟩ v1).setCell ⟨b, 2, none⟩ v2).setCell ⟨b, 3, none⟩ v3).setCell ⟨b, 4, none⟩ v4).heap.size = W.heap.size := by simp
  refine ⟨A1, A2, C1, C2, hi1, by rw [ht], by omega, by rw [zs]; omega, bbF_ok.mono (bbF_ok.keep h1 fun k hk => five_keep W b k _ _ _ _ _ (by have := hk.1; omega)) (fun k hk => ⟨by have := hk.1; omega, hk.2⟩), ?_, five_below hw hn _ _ _ _ _⟩
  rw [zs]
  exact bbbF_ok.keep h2 fun k hk => five_keep W b k _ _ _ _ _ (by have := hk.1; omega)
theorem elB_here : El1 91 4 (.bool false) 1 := Try.elB

end Go.Proofs.Ytojheipllpkgdaa
