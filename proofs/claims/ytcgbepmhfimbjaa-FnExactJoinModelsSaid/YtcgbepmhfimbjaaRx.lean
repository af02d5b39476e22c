/- Tables whose rows have no spare room: their footprints, and rows that are copied into them. Plain facts, no walk. -/
import Derived.Test.YtcgbepmhfimbjaaTab
import Derived.Test.YtcgbepmhfimbjaaRx0
import Derived.Test.YtcgbepmhfimbjaaSupB
import Derived.Laws.IdiomCopy
namespace Go.Proofs.Ytcgbepmhfimbjaa
open Go.RowKit
set_option linter.unusedVariables false

theorem setCells_keep (b : Nat) : ∀ (vs : List Value) (o : Nat) (w : World) (k : Nat), k ≠ b → (w.setCells b o vs).heap[k]? = w.heap[k]?
  | [], _, _, _, _ => rfl
  | v :: r, o, w, k, h => (setCells_keep b r (o + 1) _ k h).trans (Below.heap_setCell _ _ _ _ h)
theorem setCells_size (b : Nat) : ∀ (vs : List Value) (o : Nat) (w : World), (w.setCells b o vs).heap.size = w.heap.size
  | [], _, _ => rfl
  | v :: r, o, w => by rw [World.setCells, setCells_size b r (o + 1)]; simp
theorem ButF.sets {F : FP} {a : World} {b : Nat} (hb : F b) : ∀ (vs : List Value) (o : Nat) (w : World), ButF F a w → ButF F a (w.setCells b o vs)
  | [], _, _, h => h
  | v :: r, o, w, h => ButF.sets hb r (o + 1) _ (h.set hb v)
theorem below_sets {n b : Nat} {w0 : World} (hb : n ≤ b) : ∀ (vs : List Value) (o : Nat) (w : World), Below n w0 w → Below n w0 (w.setCells b o vs)
  | [], _, _, h => h
  | v :: r, o, w, h => below_sets hb r (o + 1) _ (h.setCell hb v)

/-- ys laid over xs from place off on. -/
def over (xs : List Bool) (off : Nat) (ys : List Bool) : List Bool := (List.range xs.length).map fun j => if off ≤ j ∧ j < off + ys.length then ys.getD (j - off) false else xs.getD j false
theorem over_len (xs : List Bool) (off : Nat) (ys : List Bool) : (over xs off ys).length = xs.length := by simp [over]
theorem BoolsF.sets {w : World} {xs : List Bool} {A : Option Addr} {F : FP} (h : BoolsF w xs A F) (hne : 0 < xs.length) :
    ∃ r, A = some ⟨r, 0, none⟩ ∧ F r ∧ (∀ i, w.frozen? ⟨r, i, none⟩ = false) ∧ (∀ j, j < xs.length → (w.cell? ⟨r, j, none⟩).isSome = true) ∧
      ∀ (ys : List Bool) (off : Nat), off + ys.length ≤ xs.length → BoolsF (w.setCells r off (ys.map Value.bool)) (over xs off ys) A F := by
  rcases h with h | ⟨r, hA, hr, hf, hc⟩
  · subst h; simp at hne
  have hsome : ∀ j, j < xs.length → (w.cell? ⟨r, j, none⟩).isSome = true := fun j hj => by rw [hc j _ (List.getElem?_eq_getElem hj)]; rfl
  refine ⟨r, hA, hr, hf, hsome, fun ys off hl => Or.inr ⟨r, hA, hr, fun i => (World.frozen?_setCells r _ off w _).trans (hf i), fun i x hx => ?_⟩⟩
  obtain ⟨hi, hxe⟩ := List.getElem?_eq_some_iff.1 hx
  rw [over_len] at hi
  have hxe2 : (if off ≤ i ∧ i < off + ys.length then ys.getD (i - off) false else xs.getD i false) = x := by
    rw [← hxe]; simp [over]
  by_cases hio : off ≤ i ∧ i < off + ys.length
  · rw [if_pos hio] at hxe2
    have hj : i - off < (ys.map Value.bool).length := by simp; omega
    have h1 := World.cell?_setCells_in r (ys.map Value.bool) off w (fun j hj2 => hsome _ (by simp at hj2; omega)) (i - off) hj
    rw [show off + (i - off) = i by omega] at h1
    rw [h1]
    have hj3 : i - off < ys.length := by omega
    simp [List.getD, hj3] at hxe2
    simp [hxe2]
  · rw [if_neg hio] at hxe2
    rw [World.cell?_setCells_out r (ys.map Value.bool) off w ⟨r, i, none⟩ (fun _ _ => by simp; omega)]
    simp [List.getD, hi] at hxe2
    rw [← hxe2]
    exact hc i _ (List.getElem?_eq_getElem hi)
def lay1 (T : Nat → Nat → Bool) (x off : Nat) (row : List Bool) (i j : Nat) : Bool := if i = x ∧ (off ≤ j ∧ j < off + row.length) then row.getD (j - off) false else T i j
theorem tab_lay {R C : Nat} {T : Nat → Nat → Bool} {x off : Nat} {row : List Bool} (hx : x < (tab R C T).length) : (tab R C T).set x (over (tab R C T)[x] off row) = tab R C (lay1 T x off row) := by
  refine List.ext_getElem (by simp [tab_len]) fun i h1 h2 => ?_
  rw [List.getElem_set, tab_row _ _ _ h2]
  rw [tab_len] at h2
  by_cases hix : x = i
  · subst hix
    rw [if_pos rfl, tab_row _ _ _ hx]
    refine List.ext_getElem (by simp [over]) fun j h3 h4 => ?_
    have hjC : j < C := by simpa using h4
    simp only [over, List.getElem_map, List.getElem_range, List.length_map, List.length_range, lay1]
    by_cases hj : off ≤ j ∧ j < off + row.length
    · rw [if_pos hj, if_pos ⟨trivial, hj⟩]
    · rw [if_neg hj, if_neg (fun h => hj h.2)]
      simp [List.getD, hjC]
  · rw [if_neg hix]
    have h5 : i < (tab R C T).length := by rw [tab_len]; exact h2
    rw [tab_row _ _ _ h5]
    refine List.map_congr_left fun j _ => ?_
    unfold lay1
    rw [if_neg (fun h => hix h.1.symm)]
theorem BBX.copy {w : World} {R C : Nat} {T : Nat → Nat → Bool} {A : Option Addr} {F : FP} (h : BBX w (tab R C T) A F) {x : Nat} (hx : x < R) (hC : 0 < C) :
    ∃ b r, A = some ⟨b, 0, none⟩ ∧ F b ∧ F r ∧ w.cell? ⟨b, x, none⟩ = some (.slice (some ⟨r, 0, none⟩) C C) ∧ (∀ i, w.frozen? ⟨r, i, none⟩ = false) ∧ (∀ j, j < C → (w.cell? ⟨r, j, none⟩).isSome = true) ∧
      ∀ (row : List Bool) (off : Nat), off + row.length ≤ C → BBX (w.setCells r off (row.map Value.bool)) (tab R C (lay1 T x off row)) A F := by
  have hl : x < (tab R C T).length := by rw [tab_len]; exact hx
  have hrl : ((tab R C T)[x]).length = C := by rw [tab_row _ _ _ hl]; simp
  obtain ⟨b, B, G, h1, h2, h3, h4, h5, h6⟩ := RowsX.upd boolsF_ok h hl
  obtain ⟨r, g1, g2, g3, g4, g5⟩ := BoolsF.sets h4 (by rw [hrl]; exact hC)
  rw [hrl] at h3 g4 g5
  subst g1
  refine ⟨b, r, h1, h2, h5 r g2, h3, g3, g4, fun row off ho => ?_⟩
  rw [← tab_lay hl]
  exact h6 _ _ (over_len _ _ _) (fun k hk => setCells_keep r _ _ _ k (fun he => hk (he ▸ g2))) (g5 row off ho)
def tabs (a R C : Nat) (T : Nat → Nat → Nat → Bool) : List (List (List Bool)) := (List.range a).map fun k => tab R C (T k)
theorem tabs_len (a R C : Nat) (T : Nat → Nat → Nat → Bool) : (tabs a R C T).length = a := by simp [tabs]
theorem tabs_at {a R C : Nat} {T : Nat → Nat → Nat → Bool} {k : Nat} (h : k < (tabs a R C T).length) : (tabs a R C T)[k] = tab R C (T k) := by simp [tabs]
theorem tabs_ext {a R C : Nat} {S T : Nat → Nat → Nat → Bool} (h : ∀ k i j, k < a → i < R → j < C → S k i j = T k i j) : tabs a R C S = tabs a R C T :=
  List.map_congr_left fun k hk => tab_ext fun i j hi hj => h k i j (List.mem_range.1 hk) hi hj
def lay2 (T : Nat → Nat → Nat → Bool) (k x off : Nat) (row : List Bool) (i : Nat) : Nat → Nat → Bool := if i = k then lay1 (T i) x off row else T i
theorem BBBX.copy {w : World} {a R C : Nat} {T : Nat → Nat → Nat → Bool} {A : Option Addr} {F : FP} (h : BBBX w (tabs a R C T) A F) {k x : Nat} (hk : k < a) (hx : x < R) (hC : 0 < C) :
    ∃ a1 b r D, A = some ⟨a1, 0, none⟩ ∧ F a1 ∧ F b ∧ F r ∧ w.cell? ⟨a1, k, none⟩ = some (.slice (some ⟨b, 0, none⟩) R D) ∧ w.cell? ⟨b, x, none⟩ = some (.slice (some ⟨r, 0, none⟩) C C) ∧ (∀ i, w.frozen? ⟨r, i, none⟩ = false) ∧ (∀ j, j < C → (w.cell? ⟨r, j, none⟩).isSome = true) ∧
      ∀ (row : List Bool) (off : Nat), off + row.length ≤ C → BBBX (w.setCells r off (row.map Value.bool)) (tabs a R C (lay2 T k x off row)) A F := by
  have hl : k < (tabs a R C T).length := by rw [tabs_len]; exact hk
  obtain ⟨a1, B, D, G, h1, h2, h3, h4, h5, h6⟩ := RowsF.upd bbX_ok h hl
  have he := tabs_at hl
  rw [he] at h4 h3
  obtain ⟨b, r, g1, g2, g3, g4, g5, g6, g7⟩ := BBX.copy h4 hx hC
  rw [tab_len] at h3
  subst g1
  refine ⟨a1, b, r, D, h1, h2, h5 b g2, h5 r g3, h3, g4, g5, g6, fun row off ho => ?_⟩
  have hset : (tabs a R C T).set k (tab R C (lay1 (T k) x off row)) = tabs a R C (lay2 T k x off row) := by
    refine List.ext_getElem (by simp [tabs_len]) fun i h1 h2 => ?_
    rw [List.getElem_set, tabs_at h2]
    by_cases hki : k = i
    · subst hki
      rw [if_pos rfl]
      simp [lay2]
    · rw [if_neg hki]
      have h7 : i < (tabs a R C T).length := by rw [tabs_len] at h2 ⊢; exact h2
      rw [tabs_at h7]
      simp only [lay2]
      rw [if_neg (fun h => hki h.symm)]
  rw [← hset]
  exact h6 _ _ (by rw [he, tab_len, tab_len]) (fun q hq => setCells_keep r _ _ _ q (fun he2 => hq (he2 ▸ g3))) (g7 row off ho)
end Go.Proofs.Ytcgbepmhfimbjaa
