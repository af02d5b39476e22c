/- Lists, and lists of lists, that lie in blocks of their own: their footprints. Plain facts, no walk. -/
import Derived.Test.YtcgbepmhfimbjaaLayB
import Derived.Test.YtcgbepmhfimbjaaMarkW
namespace Go.Proofs.Ytcgbepmhfimbjaa
open Go.RowKit

/-- A set of blocks. -/
abbrev FP := Nat → Prop
def rng (lo hi : Nat) : FP := fun k => lo ≤ k ∧ k < hi
/-- A thing whose blocks are known. -/
structure FootOk {α : Type} (Q : World → α → Option Addr → FP → Prop) : Prop where
  keep : ∀ {w w' : World} {x : α} {A : Option Addr} {F : FP}, Q w x A F → (∀ k, F k → w'.heap[k]? = w.heap[k]?) → Q w' x A F
  mono : ∀ {w : World} {x : α} {A : Option Addr} {F G : FP}, Q w x A F → (∀ k, F k → G k) → Q w x A G
def CellsF {α : Type} (enc : α → Value) (w : World) (xs : List α) (A : Option Addr) (F : FP) : Prop :=
  xs = [] ∨ ∃ b, A = some ⟨b, 0, none⟩ ∧ F b ∧ (∀ i, w.frozen? ⟨b, i, none⟩ = false) ∧ ∀ i (x : α), xs[i]? = some x → w.cell? ⟨b, i, none⟩ = some (enc x)
def RowsF {α : Type} (Q : World → α → Option Addr → FP → Prop) (ln : α → Nat) (w : World) (xs : List α) (A : Option Addr) (F : FP) : Prop :=
  xs = [] ∨ ∃ (b : Nat) (G : Nat → FP), A = some ⟨b, 0, none⟩ ∧ F b ∧ (∀ i, w.frozen? ⟨b, i, none⟩ = false) ∧ (∀ i (x : α), xs[i]? = some x → ∃ B C, w.cell? ⟨b, i, none⟩ = some (.slice B (ln x) C) ∧ Q w x B (G i)) ∧
    (∀ i k, G i k → F k ∧ k ≠ b) ∧ ∀ i j k, G i k → G j k → i = j
theorem cellsF_ok {α : Type} (enc : α → Value) : FootOk (CellsF enc) where
  keep := fun h hk => h.imp id fun ⟨b, hA, hF, hf, hc⟩ => ⟨b, hA, hF, fun i => (World.frozen?_of_block (a := ⟨b, i, none⟩) (hk b hF)).trans (hf i), fun i x hx => (World.cell?_of_block (a := ⟨b, i, none⟩) (hk b hF)).trans (hc i x hx)⟩
  mono := fun h hm => h.imp id fun ⟨b, hA, hF, hf, hc⟩ => ⟨b, hA, hm b hF, hf, hc⟩
theorem rowsF_ok {α : Type} {Q : World → α → Option Addr → FP → Prop} (hQ : FootOk Q) (ln : α → Nat) : FootOk (RowsF Q ln) where
  keep := fun h hk => h.imp id fun ⟨b, G, hA, hF, hf, hc, hg, hd⟩ => ⟨b, G, hA, hF, fun i => (World.frozen?_of_block (a := ⟨b, i, none⟩) (hk b hF)).trans (hf i), fun i x hx => by
      obtain ⟨B, C, h1, h2⟩ := hc i x hx
      exact ⟨B, C, (World.cell?_of_block (a := ⟨b, i, none⟩) (hk b hF)).trans h1, hQ.keep h2 fun k h3 => hk k (hg i k h3).1⟩, hg, hd⟩
  mono := fun h hm => h.imp id fun ⟨b, G, hA, hF, hf, hc, hg, hd⟩ => ⟨b, G, hA, hm b hF, hf, hc, fun i k h1 => ⟨hm k (hg i k h1).1, (hg i k h1).2⟩, hd⟩
abbrev BoolsF := CellsF Value.bool
abbrev IntsF := CellsF (Value.int .i64)
abbrev BBF := RowsF BoolsF List.length
abbrev IIF := RowsF IntsF List.length
abbrev BBBF := RowsF BBF List.length
abbrev IIIF := RowsF IIF List.length
theorem boolsF_ok : FootOk BoolsF := cellsF_ok _
theorem intsF_ok : FootOk IntsF := cellsF_ok _
theorem bbF_ok : FootOk BBF := rowsF_ok boolsF_ok _
theorem iiF_ok : FootOk IIF := rowsF_ok intsF_ok _
theorem bbbF_ok : FootOk BBBF := rowsF_ok bbF_ok _
theorem iiiF_ok : FootOk IIIF := rowsF_ok iiF_ok _

/-- It lies there. -/
theorem CellsF.lay {α : Type} {enc : α → Value} {w : World} {xs : List α} {A : Option Addr} {F : FP} {lo : Nat} (h : CellsF enc w xs A F) (hF : ∀ k, F k → lo ≤ k) : Cells enc lo w xs A := fun hn => by
  rcases h with h | ⟨b, hA, hb, _, hc⟩
  · exact absurd h hn
  · exact ⟨b, 0, hF b hb, hA, fun i x hx => by rw [Nat.zero_add]; exact hc i x hx⟩
theorem RowsF.lay {α : Type} {Q : World → α → Option Addr → FP → Prop} {R : Nat → World → α → Option Addr → Prop} {ln : α → Nat} (hQ : ∀ {w x A F lo}, Q w x A F → (∀ k, F k → lo ≤ k) → R lo w x A) {w : World} {xs : List α} {A : Option Addr} {F : FP} {lo : Nat}
    (h : RowsF Q ln w xs A F) (hF : ∀ k, F k → lo ≤ k) : Rows3 R ln lo w xs A := fun hn => by
  rcases h with h | ⟨b, G, hA, hb, _, hc, hg, _⟩
  · exact absurd h hn
  · exact ⟨b, 0, hF b hb, hA, fun i x hx => let ⟨B, C, h1, h2⟩ := hc i x hx; ⟨B, C, by rw [Nat.zero_add]; exact h1, hQ h2 fun k hk => hF k (hg i k hk).1⟩⟩
theorem BBF.lay {w : World} {xs : List (List Bool)} {A : Option Addr} {F : FP} {lo : Nat} (h : BBF w xs A F) (hF : ∀ k, F k → lo ≤ k) : BB lo w xs A := RowsF.lay (Q := BoolsF) (R := BoolsL) (fun h1 h2 => CellsF.lay h1 h2) h hF
theorem IIF.lay {w : World} {xs : List (List Int)} {A : Option Addr} {F : FP} {lo : Nat} (h : IIF w xs A F) (hF : ∀ k, F k → lo ≤ k) : II lo w xs A := RowsF.lay (Q := IntsF) (R := IntsL) (fun h1 h2 => CellsF.lay h1 h2) h hF
theorem BBBF.lay {w : World} {xs : List (List (List Bool))} {A : Option Addr} {F : FP} {lo : Nat} (h : BBBF w xs A F) (hF : ∀ k, F k → lo ≤ k) : BBB lo w xs A := RowsF.lay (Q := BBF) (R := BB) (fun h1 h2 => BBF.lay h1 h2) h hF
theorem IIIF.lay {w : World} {xs : List (List (List Int))} {A : Option Addr} {F : FP} {lo : Nat} (h : IIIF w xs A F) (hF : ∀ k, F k → lo ≤ k) : III lo w xs A := RowsF.lay (Q := IIF) (R := II) (fun h1 h2 => IIF.lay h1 h2) h hF

/-- But for the blocks of a set the two worlds are the same. -/
structure ButF (F : FP) (w w' : World) : Prop where
  os : w'.os = w.os
  tape : w'.tape = w.tape
  output : w'.output = w.output
  size : w.heap.size ≤ w'.heap.size
  block : ∀ k, k < w.heap.size → ¬ F k → w'.heap[k]? = w.heap[k]?
theorem ButF.refl (F : FP) (w : World) : ButF F w w := ⟨rfl, rfl, rfl, Nat.le_refl _, fun _ _ _ => rfl⟩
theorem ButF.trans {F : FP} {a b c : World} (h : ButF F a b) (k : ButF F b c) : ButF F a c :=
  ⟨k.os.trans h.os, k.tape.trans h.tape, k.output.trans h.output, Nat.le_trans h.size k.size, fun i hi hn => (k.block i (Nat.lt_of_lt_of_le hi h.size) hn).trans (h.block i hi hn)⟩
theorem ButF.mono {F G : FP} {w w' : World} (h : ButF F w w') (hm : ∀ k, F k → G k) : ButF G w w' := ⟨h.os, h.tape, h.output, h.size, fun k hk hn => h.block k hk fun hf => hn (hm k hf)⟩
theorem ButF.of_below {F : FP} {w w' : World} (h : Below w.heap.size w w') : ButF F w w' := ⟨h.os, h.tape, h.output, h.size, fun k hk _ => h.block k hk⟩
theorem ButF.set {F : FP} {a w : World} (h : ButF F a w) {b i : Nat} (hb : F b) (v : Value) : ButF F a (w.setCell ⟨b, i, none⟩ v) :=
  h.trans ⟨rfl, rfl, rfl, by simp, fun k _ hn => Below.heap_setCell _ _ _ _ (fun he => hn (by have he2 : b = k := he.symm; rw [← he2]; exact hb))⟩
theorem ButF.rng {lo hi : Nat} {w w' : World} (h : ButF (rng lo hi) w w') : ButIn lo hi w w' := ⟨h.os, h.tape, h.output, h.size, fun k hk hn => h.block k hk fun ⟨h1, h2⟩ => by omega⟩

/-- Blocks B is a row of slices, of which the first j are those of xs, in blocks of their own behind B. -/
def FRowF {α : Type} (E : TypeId) (Q : World → α → Option Addr → FP → Prop) (ln : α → Nat) (xs : List α) (B : Nat) (wr : World) (j : Nat) : Prop :=
  ∃ (cs : Array Value) (G : Nat → FP), wr.heap[B]? = some (.cells cs E (0, 0)) ∧ cs.size = xs.length ∧ (∀ i (x : α), i < j → xs[i]? = some x → ∃ A, cs[i]? = some (.slice A (ln x) (ln x)) ∧ Q wr x A (G i)) ∧
    (∀ i k, G i k → i < j ∧ B < k ∧ k < wr.heap.size) ∧ ∀ i i' k, G i k → G i' k → i = i'
section
variable {α : Type} {E : TypeId} {Q : World → α → Option Addr → FP → Prop} {ln : α → Nat} {xs : List α} {B : Nat} {wr w1 : World} {j : Nat}
theorem frowF_start {w : World} {cs : Array Value} (hs : cs.size = xs.length) : FRowF E Q ln xs w.heap.size (w.alloc (.cells cs E)) 0 := ⟨cs, fun _ _ => False, heap_new _ _ _ rfl, hs, fun _ _ hi => absurd hi (Nat.not_lt_zero _), fun _ _ h => h.elim, fun _ _ _ h => h.elim⟩
theorem FRowF.below (hQ : FootOk Q) (h : FRowF E Q ln xs B wr j) (hb : Below wr.heap.size wr w1) : FRowF E Q ln xs B w1 j := by
  obtain ⟨cs, G, hc, hs, hi, hg, hd⟩ := h
  exact ⟨cs, G, (hb.block B (Array.getElem?_eq_some_iff.1 hc).1).trans hc, hs, fun i x hij hx => let ⟨A, h1, h2⟩ := hi i x hij hx; ⟨A, h1, hQ.keep h2 fun k hk => hb.block k (hg i k hk).2.2⟩, fun i k hk => ⟨(hg i k hk).1, (hg i k hk).2.1, Nat.lt_of_lt_of_le (hg i k hk).2.2 hb.size⟩, hd⟩
theorem FRowF.cell (h : FRowF E Q ln xs B wr j) (hj : j < xs.length) : (∃ v, wr.cell? ⟨B, j, none⟩ = some v) ∧ wr.frozen? ⟨B, j, none⟩ = false := by
  obtain ⟨cs, G, hc, hs, _⟩ := h
  exact ⟨⟨cs[j]'(by omega), by rw [Fo.cell_of_block hc]; exact Array.getElem?_eq_getElem _⟩, Fo.unfrozen_of_block hc j⟩
/-- A row comes in: what a call made between two worlds. -/
theorem FRowF.add (hQ : FootOk Q) (h : FRowF E Q ln xs B wr j) (hb : Below wr.heap.size wr w1) (hj : j < xs.length) (hB : B < wr.heap.size) {A : Option Addr} (hA : Q w1 xs[j] A (rng wr.heap.size w1.heap.size)) :
    FRowF E Q ln xs B (w1.setCell ⟨B, j, none⟩ (.slice A (ln xs[j]) (ln xs[j]))) (j + 1) := by
  obtain ⟨cs, G, hc, hs, hi, hg, hd⟩ := h
  have hc1 := (hb.block B (Array.getElem?_eq_some_iff.1 hc).1).trans hc
  have ks : ∀ k, k ≠ B → (w1.setCell ⟨B, j, none⟩ (.slice A (ln xs[j]) (ln xs[j]))).heap[k]? = w1.heap[k]? := fun k hk => Below.heap_setCell _ _ _ _ (fun he => hk he)
  have hsz : (w1.setCell ⟨B, j, none⟩ (.slice A (ln xs[j]) (ln xs[j]))).heap.size = w1.heap.size := by simp
  refine ⟨cs.setIfInBounds j (.slice A (ln xs[j]) (ln xs[j])), fun i => if i = j then rng wr.heap.size w1.heap.size else G i, Fo.block_setCell hc1 _, by simp [hs], fun i x hij hx => ?_, fun i k hk => ?_, fun i i' k h1 h2 => ?_⟩
  · simp only [Array.getElem?_setIfInBounds]
    by_cases hji : i = j
    · subst hji
      rw [if_pos rfl, if_pos (by omega), if_pos rfl]
      obtain ⟨_, rfl⟩ := List.getElem?_eq_some_iff.1 hx
      exact ⟨A, rfl, hQ.keep hA fun k hk => ks k (by have := hk.1; omega)⟩
    · rw [if_neg (fun he => hji he.symm), if_neg hji]
      obtain ⟨A', h1, h2⟩ := hi i x (by omega) hx
      exact ⟨A', h1, hQ.keep (hQ.keep h2 fun k hk => hb.block k (hg i k hk).2.2) fun k hk => ks k (by have := (hg i k hk).2.1; omega)⟩
  · rw [hsz]
    dsimp only at hk
    by_cases hji : i = j
    · rw [if_pos hji] at hk
      exact ⟨by omega, by have := hk.1; omega, hk.2⟩
    · rw [if_neg hji] at hk
      have := hg i k hk
      exact ⟨by omega, this.2.1, Nat.lt_of_lt_of_le this.2.2 hb.size⟩
  · dsimp only at h1 h2
    by_cases hj1 : i = j <;> by_cases hj2 : i' = j
    · rw [hj1, hj2]
    · rw [if_pos hj1] at h1
      rw [if_neg hj2] at h2
      have := (hg i' k h2).2.2
      have := h1.1
      omega
    · rw [if_neg hj1] at h1
      rw [if_pos hj2] at h2
      have := (hg i k h1).2.2
      have := h2.1
      omega
    · rw [if_neg hj1] at h1
      rw [if_neg hj2] at h2
      exact hd i i' k h1 h2
theorem FRowF.done (h : FRowF E Q ln xs B wr xs.length) {lo hi : Nat} (hlo : lo ≤ B) (hhi : wr.heap.size ≤ hi) : RowsF Q ln wr xs (some ⟨B, 0, none⟩) (rng lo hi) := by
  obtain ⟨cs, G, hc, hs, hi', hg, hd⟩ := h
  have hB : B < wr.heap.size := (Array.getElem?_eq_some_iff.1 hc).1
  refine Or.inr ⟨B, G, rfl, ⟨hlo, by omega⟩, Fo.unfrozen_of_block hc, fun i x hx => ?_, fun i k hk => ?_, hd⟩
  · obtain ⟨hl, _⟩ := List.getElem?_eq_some_iff.1 hx
    obtain ⟨A', h1, h2⟩ := hi' i x hl hx
    exact ⟨A', ln x, by rw [Fo.cell_of_block hc]; exact h1, h2⟩
  · have := hg i k hk
    exact ⟨⟨by omega, by omega⟩, by omega⟩
end
theorem CRow.doneF {α : Type} {E : TypeId} {enc : α → Value} {xs : List α} {B : Nat} {wr : World} (h : CRow E enc xs B wr xs.length) {lo hi : Nat} (hlo : lo ≤ B) (hhi : wr.heap.size ≤ hi) : CellsF enc wr xs (some ⟨B, 0, none⟩) (rng lo hi) := by
  obtain ⟨cs, hc, hs, hi'⟩ := h
  have hB : B < wr.heap.size := (Array.getElem?_eq_some_iff.1 hc).1
  refine Or.inr ⟨B, rfl, ⟨hlo, by omega⟩, Fo.unfrozen_of_block hc, fun i x hx => ?_⟩
  obtain ⟨hl, _⟩ := List.getElem?_eq_some_iff.1 hx
  rw [Fo.cell_of_block hc]
  exact hi' i x hl hx
theorem IntsF.of_in {w : World} {xs : List Int} {lo hi : Nat} {A : Option Addr} (h : IntsIn w xs lo hi A) : IntsF w xs A (rng lo hi) := by
  rcases h with ⟨h, _⟩ | ⟨b, hA, h1, h2, hf, h⟩
  · exact Or.inl h
  · refine Or.inr ⟨b, hA, ⟨h1, h2⟩, hf, fun i x hi => ?_⟩
    obtain ⟨hl, he⟩ := List.getElem?_eq_some_iff.1 hi
    rw [h i hl]
    simp [nth, List.getD, hl, he]
theorem IntsF.in {w : World} {xs : List Int} {lo hi : Nat} {A : Option Addr} (h : IntsF w xs A (rng lo hi)) (hle : lo ≤ hi) : IntsIn w xs lo hi A := by
  rcases h with h | ⟨b, hA, hF, hf, hc⟩
  · exact Or.inl ⟨h, hle⟩
  · exact Or.inr ⟨b, hA, hF.1, hF.2, hf, fun i hi => by rw [hc i xs[i] (List.getElem?_eq_getElem hi)]; simp [nth, List.getD, hi]⟩
end Go.Proofs.Ytcgbepmhfimbjaa
