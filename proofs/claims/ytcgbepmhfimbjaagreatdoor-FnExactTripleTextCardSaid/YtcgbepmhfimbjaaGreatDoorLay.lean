/- Lists that lie in memory, and lists of such lists: where they lie, what stays, how a row of them is filled, how much they count. Plain facts, no walk. -/
import Derived.Test.YtcgbepmhfimbjaaGreatDoorWordC
namespace Go.Proofs.YtcgbepmhfimbjaaGreatDoor
open Go.RowKit

/-- Where a thing of a kind lies: in blocks from lo on. -/
structure LayOk {α : Type} (Q : Nat → World → α → Option Addr → Prop) : Prop where
  later : ∀ {lo : Nat} {w w' : World} {x : α} {A : Option Addr}, Q lo w x A → (∀ b o, lo ≤ b → b < w.heap.size → w'.cell? ⟨b, o, none⟩ = w.cell? ⟨b, o, none⟩) → Q lo w' x A
  mono : ∀ {lo lo' : Nat} {w : World} {x : α} {A : Option Addr}, Q lo w x A → lo' ≤ lo → Q lo' w x A

/-- A list of simple values. -/
def Cells {α : Type} (enc : α → Value) (lo : Nat) (w : World) (xs : List α) (A : Option Addr) : Prop :=
  xs ≠ [] → ∃ b o, lo ≤ b ∧ A = some ⟨b, o, none⟩ ∧ ∀ i (x : α), xs[i]? = some x → w.cell? ⟨b, o + i, none⟩ = some (enc x)
/-- A list of lists. -/
def Rows3 {α : Type} (Q : Nat → World → α → Option Addr → Prop) (ln : α → Nat) (lo : Nat) (w : World) (xs : List α) (A : Option Addr) : Prop :=
  xs ≠ [] → ∃ b o, lo ≤ b ∧ A = some ⟨b, o, none⟩ ∧ ∀ i (x : α), xs[i]? = some x → ∃ B C, w.cell? ⟨b, o + i, none⟩ = some (.slice B (ln x) C) ∧ Q lo w x B
theorem cells_ok {α : Type} (enc : α → Value) : LayOk (Cells enc) where
  later := fun h hh hn => let ⟨b, o, hl, hA, hc⟩ := h hn; ⟨b, o, hl, hA, fun i x hi => (hh b _ hl (World.block_lt_of_cell? _ _ (hc i x hi))).trans (hc i x hi)⟩
  mono := fun h hl hn => let ⟨b, o, hb, hA, hc⟩ := h hn; ⟨b, o, Nat.le_trans hl hb, hA, hc⟩
theorem rows_ok {α : Type} {Q : Nat → World → α → Option Addr → Prop} (hQ : LayOk Q) (ln : α → Nat) : LayOk (Rows3 Q ln) where
  later := fun h hh hn => let ⟨b, o, hl, hA, hc⟩ := h hn; ⟨b, o, hl, hA, fun i x hi => let ⟨B, C, h1, h2⟩ := hc i x hi; ⟨B, C, (hh b _ hl (World.block_lt_of_cell? _ _ h1)).trans h1, hQ.later h2 hh⟩⟩
  mono := fun h hl hn => let ⟨b, o, hb, hA, hc⟩ := h hn; ⟨b, o, Nat.le_trans hl hb, hA, fun i x hi => let ⟨B, C, h1, h2⟩ := hc i x hi; ⟨B, C, h1, hQ.mono h2 hl⟩⟩
section
variable {α : Type} {Q : Nat → World → α → Option Addr → Prop} (hQ : LayOk Q) {lo : Nat} {w w' W : World} {x : α} {A : Option Addr}
include hQ
theorem LayOk.below (h : Q lo w x A) (hb : Below w.heap.size w w') : Q lo w' x A := hQ.later h fun b o _ hlt => hb.cell (p := ⟨b, o, none⟩) hlt
theorem LayOk.sees (h : Q lo w x A) (hs : Sees w W) : Q lo W x A := hQ.below h hs
theorem LayOk.drew (h : Q lo w x A) : Q lo w.drew x A := hQ.later (w := w) (w' := w.drew) h fun _ _ _ _ => rfl
theorem LayOk.alloc (h : Q lo w x A) (o : Obj) : Q lo (w.alloc o) x A := hQ.below h ((Below.refl _ _).alloc (Nat.le_refl _) _)
end

abbrev BoolsL := Cells Value.bool
abbrev IntsL := Cells (Value.int .i64)
abbrev BB := Rows3 BoolsL List.length
abbrev II := Rows3 IntsL List.length
abbrev III := Rows3 II List.length
theorem bools_ok : LayOk BoolsL := cells_ok _
theorem ints_ok : LayOk IntsL := cells_ok _
theorem bb_ok : LayOk BB := rows_ok bools_ok _
theorem ii_ok : LayOk II := rows_ok ints_ok _
theorem iii_ok : LayOk III := rows_ok ii_ok _

theorem IntsL.of {w : World} {xs : List Int} {A : Option Addr} (h : Ints w xs A) : IntsL 0 w xs A := fun hn =>
  let ⟨b, o, hA, hc⟩ := h hn
  ⟨b, o, Nat.zero_le _, hA, fun i x hi => by
    obtain ⟨hl, he⟩ := List.getElem?_eq_some_iff.1 hi
    rw [hc i hl]
    simp [nth, List.getD, hl, he]⟩
theorem IntsL.ints {w : World} {lo : Nat} {xs : List Int} {A : Option Addr} (h : IntsL lo w xs A) : Ints w xs A := fun hn =>
  let ⟨b, o, _, hA, hc⟩ := h hn
  ⟨b, o, hA, fun i hi => by
    rw [hc i (xs[i]) (by rw [List.getElem?_eq_getElem hi])]
    simp [nth, List.getD, hi]⟩
theorem IntsL.of_in {w : World} {xs : List Int} {lo hi : Nat} {A : Option Addr} (h : IntsIn w xs lo hi A) : IntsL lo w xs A := fun hn => by
  rcases h with ⟨h, _⟩ | ⟨b, hA, h1, _, _, h⟩
  · exact absurd h hn
  · refine ⟨b, 0, h1, hA, fun i x hi => ?_⟩
    obtain ⟨hl, he⟩ := List.getElem?_eq_some_iff.1 hi
    rw [Nat.zero_add, h i hl]
    simp [nth, List.getD, hl, he]

/-- How much a list of lists counts. -/
def tot {α : Type} (f : α → Nat) (xs : List α) : Nat := xs.length + (xs.map f).sum
def rest {α : Type} (f : α → Nat) (xs : List α) (j : Nat) : Nat := ((xs.drop j).map f).sum
theorem rest_zero {α : Type} (f : α → Nat) (xs : List α) : rest f xs 0 = (xs.map f).sum := rfl
theorem rest_step {α : Type} (f : α → Nat) (xs : List α) {j : Nat} (h : j < xs.length) : rest f xs j = f xs[j] + rest f xs (j + 1) := by
  unfold rest
  rw [List.drop_eq_getElem_cons h, List.map_cons, List.sum_cons]
theorem rest_end {α : Type} (f : α → Nat) (xs : List α) : rest f xs xs.length = 0 := by simp [rest]

/-- Block B is a row of slices, of which the first j are those of xs, in blocks from B + 1 on. -/
def FRow {α : Type} (E : TypeId) (Q : Nat → World → α → Option Addr → Prop) (ln : α → Nat) (xs : List α) (B : Nat) (wr : World) (j : Nat) : Prop :=
  ∃ cs : Array Value, wr.heap[B]? = some (.cells cs E (0, 0)) ∧ cs.size = xs.length ∧ ∀ i (x : α), i < j → xs[i]? = some x → ∃ A, cs[i]? = some (.slice A (ln x) (ln x)) ∧ Q (B + 1) wr x A
section
variable {α : Type} {E : TypeId} {Q : Nat → World → α → Option Addr → Prop} {ln : α → Nat} {xs : List α} {B : Nat} {wr w1 : World} {j : Nat}
theorem frow_start {w : World} {cs : Array Value} (hs : cs.size = xs.length) : FRow E Q ln xs w.heap.size (w.alloc (.cells cs E)) 0 := ⟨cs, heap_new _ _ _ rfl, hs, fun _ _ hi => absurd hi (Nat.not_lt_zero _)⟩
theorem FRow.below (hQ : LayOk Q) (h : FRow E Q ln xs B wr j) (hb : Below wr.heap.size wr w1) : FRow E Q ln xs B w1 j := by
  obtain ⟨cs, hc, hs, hi⟩ := h
  exact ⟨cs, (hb.block B (Array.getElem?_eq_some_iff.1 hc).1).trans hc, hs, fun i x hij hx => let ⟨A, h1, h2⟩ := hi i x hij hx; ⟨A, h1, hQ.below h2 hb⟩⟩
theorem FRow.cell (h : FRow E Q ln xs B wr j) (hj : j < xs.length) : (∃ v, wr.cell? ⟨B, j, none⟩ = some v) ∧ wr.frozen? ⟨B, j, none⟩ = false := by
  obtain ⟨cs, hc, hs, _⟩ := h
  exact ⟨⟨cs[j]'(by omega), by rw [Fo.cell_of_block hc]; exact Array.getElem?_eq_getElem _⟩, Fo.unfrozen_of_block hc j⟩
theorem FRow.step (hQ : LayOk Q) (h : FRow E Q ln xs B wr j) (hj : j < xs.length) {A : Option Addr} {lo : Nat} (hlo : B < lo) (hA : Q lo wr xs[j] A) :
    FRow E Q ln xs B (wr.setCell ⟨B, j, none⟩ (.slice A (ln xs[j]) (ln xs[j]))) (j + 1) := by
  obtain ⟨cs, hc, hs, hi⟩ := h
  have keep : ∀ {x : α} {A' : Option Addr}, Q (B + 1) wr x A' → Q (B + 1) (wr.setCell ⟨B, j, none⟩ (.slice A (ln xs[j]) (ln xs[j]))) x A' := fun h => hQ.later h fun b o hb _ =>
    World.cell?_setCell_other (w := wr) (a := ⟨B, j, none⟩) (b := ⟨b, o, none⟩) (v := .slice A (ln xs[j]) (ln xs[j])) (h := fun he => by have := congrArg Addr.block he; simp only at this; omega)
  refine ⟨_, Fo.block_setCell hc _, by simp [hs], fun i x hij hx => ?_⟩
  simp only [Array.getElem?_setIfInBounds]
  by_cases hji : j = i
  · subst hji
    rw [if_pos rfl, if_pos (by omega)]
    obtain ⟨_, rfl⟩ := List.getElem?_eq_some_iff.1 hx
    exact ⟨A, rfl, keep (hQ.mono hA (by omega))⟩
  · rw [if_neg hji]
    obtain ⟨A', h1, h2⟩ := hi i x (by omega) hx
    exact ⟨A', h1, keep h2⟩
theorem FRow.done (hQ : LayOk Q) (h : FRow E Q ln xs B wr xs.length) {lo : Nat} (hlo : lo ≤ B) : Rows3 Q ln lo wr xs (some ⟨B, 0, none⟩) := fun _ => by
  obtain ⟨cs, hc, hs, hi⟩ := h
  refine ⟨B, 0, hlo, rfl, fun i x hx => ?_⟩
  obtain ⟨hl, _⟩ := List.getElem?_eq_some_iff.1 hx
  obtain ⟨A', h1, h2⟩ := hi i x hl hx
  exact ⟨A', ln x, by rw [Nat.zero_add, Fo.cell_of_block hc]; exact h1, hQ.mono h2 (by omega)⟩
end
/-- A row of simple values that is being filled. -/
def CRow {α : Type} (E : TypeId) (enc : α → Value) (xs : List α) (B : Nat) (wr : World) (j : Nat) : Prop :=
  ∃ cs : Array Value, wr.heap[B]? = some (.cells cs E (0, 0)) ∧ cs.size = xs.length ∧ ∀ i (x : α), i < j → xs[i]? = some x → cs[i]? = some (enc x)
section
variable {α : Type} {E : TypeId} {enc : α → Value} {xs : List α} {B : Nat} {wr : World} {j : Nat}
theorem crow_start {w : World} {cs : Array Value} (hs : cs.size = xs.length) : CRow E enc xs w.heap.size (w.alloc (.cells cs E)) 0 := ⟨cs, heap_new _ _ _ rfl, hs, fun _ _ hi => absurd hi (Nat.not_lt_zero _)⟩
theorem CRow.cell (h : CRow E enc xs B wr j) (hj : j < xs.length) : (∃ v, wr.cell? ⟨B, j, none⟩ = some v) ∧ wr.frozen? ⟨B, j, none⟩ = false := by
  obtain ⟨cs, hc, hs, _⟩ := h
  exact ⟨⟨cs[j]'(by omega), by rw [Fo.cell_of_block hc]; exact Array.getElem?_eq_getElem _⟩, Fo.unfrozen_of_block hc j⟩
theorem CRow.step (h : CRow E enc xs B wr j) (hj : j < xs.length) {x : α} (hx : xs[j]? = some x) : CRow E enc xs B (wr.setCell ⟨B, j, none⟩ (enc x)) (j + 1) := by
  obtain ⟨cs, hc, hs, hi⟩ := h
  refine ⟨_, Fo.block_setCell hc _, by simp [hs], fun i y hij hy => ?_⟩
  simp only [Array.getElem?_setIfInBounds]
  by_cases hji : j = i
  · subst hji
    rw [if_pos rfl, if_pos (by omega)]
    rw [hx] at hy
    injection hy with hy
    rw [hy]
  · rw [if_neg hji]
    exact hi i y (by omega) hy
theorem CRow.done (h : CRow E enc xs B wr xs.length) {lo : Nat} (hlo : lo ≤ B) : Cells enc lo wr xs (some ⟨B, 0, none⟩) := fun _ => by
  obtain ⟨cs, hc, hs, hi⟩ := h
  refine ⟨B, 0, hlo, rfl, fun i x hx => ?_⟩
  obtain ⟨hl, _⟩ := List.getElem?_eq_some_iff.1 hx
  rw [Nat.zero_add, Fo.cell_of_block hc]
  exact hi i x hl hx
end
end Go.Proofs.YtcgbepmhfimbjaaGreatDoor
