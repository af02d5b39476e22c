/- Rows of slices that have no spare room: their footprints. Plain facts, no walk. -/
import Derived.Test.YtcgbepmhfimbjaaFpt
namespace Go.Proofs.Ytcgbepmhfimbjaa
open Go.RowKit
set_option linter.unusedVariables false

def RowsX {α : Type} (Q : World → α → Option Addr → FP → Prop) (ln : α → Nat) (w : World) (xs : List α) (A : Option Addr) (F : FP) : Prop :=
  xs = [] ∨ ∃ (b : Nat) (G : Nat → FP), A = some ⟨b, 0, none⟩ ∧ F b ∧ (∀ i, w.frozen? ⟨b, i, none⟩ = false) ∧ (∀ i (x : α), xs[i]? = some x → ∃ B, w.cell? ⟨b, i, none⟩ = some (.slice B (ln x) (ln x)) ∧ Q w x B (G i)) ∧
    (∀ i k, G i k → F k ∧ k ≠ b) ∧ ∀ i j k, G i k → G j k → i = j
theorem rowsX_ok {α : Type} {Q : World → α → Option Addr → FP → Prop} (hQ : FootOk Q) (ln : α → Nat) : FootOk (RowsX Q ln) where
  keep := fun h hk => h.imp id fun ⟨b, G, hA, hF, hf, hc, hg, hd⟩ => ⟨b, G, hA, hF, fun i => (World.frozen?_of_block (a := ⟨b, i, none⟩) (hk b hF)).trans (hf i), fun i x hx => by
      obtain ⟨B, h1, h2⟩ := hc i x hx
      exact ⟨B, (World.cell?_of_block (a := ⟨b, i, none⟩) (hk b hF)).trans h1, hQ.keep h2 fun k h3 => hk k (hg i k h3).1⟩, hg, hd⟩
  mono := fun h hm => h.imp id fun ⟨b, G, hA, hF, hf, hc, hg, hd⟩ => ⟨b, G, hA, hm b hF, hf, hc, fun i k h1 => ⟨hm k (hg i k h1).1, (hg i k h1).2⟩, hd⟩
theorem RowsX.toF {α : Type} {Q : World → α → Option Addr → FP → Prop} {ln : α → Nat} {w : World} {xs : List α} {A : Option Addr} {F : FP} (h : RowsX Q ln w xs A F) : RowsF Q ln w xs A F :=
  h.imp id fun ⟨b, G, hA, hF, hf, hc, hg, hd⟩ => ⟨b, G, hA, hF, hf, fun i x hx => let ⟨B, h1, h2⟩ := hc i x hx; ⟨B, _, h1, h2⟩, hg, hd⟩
abbrev BBX := RowsX BoolsF List.length
abbrev BBBX := RowsF BBX List.length
theorem bbX_ok : FootOk BBX := rowsX_ok boolsF_ok _
theorem bbbX_ok : FootOk BBBX := rowsF_ok bbX_ok _
theorem RowsF.imp {α : Type} {Q Q' : World → α → Option Addr → FP → Prop} {ln : α → Nat} {w : World} {xs : List α} {A : Option Addr} {F : FP} (hq : ∀ x B G, Q w x B G → Q' w x B G) (h : RowsF Q ln w xs A F) : RowsF Q' ln w xs A F :=
  Or.imp id (fun ⟨b, G, hA, hF, hf, hc, hg, hd⟩ => ⟨b, G, hA, hF, hf, fun i x hx => let ⟨B, C, h1, h2⟩ := hc i x hx; ⟨B, C, h1, hq _ _ _ h2⟩, hg, hd⟩) h
theorem BBBX.toF {w : World} {xs : List (List (List Bool))} {A : Option Addr} {F : FP} (h : BBBX w xs A F) : BBBF w xs A F := RowsF.imp (fun _ _ _ h => h.toF) h

/-- One element changes where it lies. -/
theorem RowsX.upd {α : Type} {Q : World → α → Option Addr → FP → Prop} {ln : α → Nat} (hQ : FootOk Q) {w : World} {xs : List α} {A : Option Addr} {F : FP} (h : RowsX Q ln w xs A F) {x : Nat} (hx : x < xs.length) :
    ∃ (b : Nat) (B : Option Addr) (G : FP), A = some ⟨b, 0, none⟩ ∧ F b ∧ w.cell? ⟨b, x, none⟩ = some (.slice B (ln xs[x]) (ln xs[x])) ∧ Q w xs[x] B G ∧ (∀ k, G k → F k) ∧
      ∀ (w' : World) (y : α), ln y = ln xs[x] → (∀ k, ¬ G k → w'.heap[k]? = w.heap[k]?) → Q w' y B G → RowsX Q ln w' (xs.set x y) A F := by
  rcases h with h | ⟨b, G, hA, hb, hf, hrow, hG, hdis⟩
  · subst h; simp at hx
  obtain ⟨B, hc, hq⟩ := hrow x xs[x] (List.getElem?_eq_getElem hx)
  refine ⟨b, B, G x, hA, hb, hc, hq, fun k hk => (hG x k hk).1, fun w' y hy hk hy2 => ?_⟩
  have hkb : w'.heap[b]? = w.heap[b]? := hk b (fun h => (hG x b h).2 rfl)
  refine Or.inr ⟨b, G, hA, hb, fun i => (World.frozen?_of_block (a := ⟨b, i, none⟩) hkb).trans (hf i), fun i z hz => ?_, hG, hdis⟩
  rw [World.cell?_of_block (a := ⟨b, i, none⟩) hkb]
  by_cases hix : i = x
  · subst hix
    rw [List.getElem?_set_self hx] at hz
    obtain rfl : y = z := Option.some.inj hz
    exact ⟨B, by rw [hy]; exact hc, hy2⟩
  · rw [List.getElem?_set_ne (fun h => hix h.symm)] at hz
    obtain ⟨B2, h1, h2⟩ := hrow i z hz
    exact ⟨B2, h1, hQ.keep h2 fun k hk2 => hk k (fun hx2 => hix (hdis i x k hk2 hx2))⟩
theorem RowsF.upd {α : Type} {Q : World → α → Option Addr → FP → Prop} {ln : α → Nat} (hQ : FootOk Q) {w : World} {xs : List α} {A : Option Addr} {F : FP} (h : RowsF Q ln w xs A F) {x : Nat} (hx : x < xs.length) :
    ∃ (b : Nat) (B : Option Addr) (C : Nat) (G : FP), A = some ⟨b, 0, none⟩ ∧ F b ∧ w.cell? ⟨b, x, none⟩ = some (.slice B (ln xs[x]) C) ∧ Q w xs[x] B G ∧ (∀ k, G k → F k) ∧
      ∀ (w' : World) (y : α), ln y = ln xs[x] → (∀ k, ¬ G k → w'.heap[k]? = w.heap[k]?) → Q w' y B G → RowsF Q ln w' (xs.set x y) A F := by
  rcases h with h | ⟨b, G, hA, hb, hf, hrow, hG, hdis⟩
  · subst h; simp at hx
  obtain ⟨B, C, hc, hq⟩ := hrow x xs[x] (List.getElem?_eq_getElem hx)
  refine ⟨b, B, C, G x, hA, hb, hc, hq, fun k hk => (hG x k hk).1, fun w' y hy hk hy2 => ?_⟩
  have hkb : w'.heap[b]? = w.heap[b]? := hk b (fun h => (hG x b h).2 rfl)
  refine Or.inr ⟨b, G, hA, hb, fun i => (World.frozen?_of_block (a := ⟨b, i, none⟩) hkb).trans (hf i), fun i z hz => ?_, hG, hdis⟩
  rw [World.cell?_of_block (a := ⟨b, i, none⟩) hkb]
  by_cases hix : i = x
  · subst hix
    rw [List.getElem?_set_self hx] at hz
    obtain rfl : y = z := Option.some.inj hz
    exact ⟨B, C, by rw [hy]; exact hc, hy2⟩
  · rw [List.getElem?_set_ne (fun h => hix h.symm)] at hz
    obtain ⟨B2, C2, h1, h2⟩ := hrow i z hz
    exact ⟨B2, C2, h1, hQ.keep h2 fun k hk2 => hk k (fun hx2 => hix (hdis i x k hk2 hx2))⟩

theorem FRowF.doneX {α : Type} {E : TypeId} {Q : World → α → Option Addr → FP → Prop} {ln : α → Nat} {xs : List α} {B : Nat} {wr : World} (h : FRowF E Q ln xs B wr xs.length) {lo hi : Nat} (hlo : lo ≤ B) (hhi : wr.heap.size ≤ hi) : RowsX Q ln wr xs (some ⟨B, 0, none⟩) (rng lo hi) := by
  obtain ⟨cs, G, hc, hs, hi', hg, hd⟩ := h
  have hB : B < wr.heap.size := (Array.getElem?_eq_some_iff.1 hc).1
  refine Or.inr ⟨B, G, rfl, ⟨hlo, by omega⟩, Fo.unfrozen_of_block hc, fun i x hx => ?_, fun i k hk => ?_, hd⟩
  · obtain ⟨hl, _⟩ := List.getElem?_eq_some_iff.1 hx
    obtain ⟨A', h1, h2⟩ := hi' i x hl hx
    exact ⟨A', by rw [Fo.cell_of_block hc]; exact h1, h2⟩
  · have := hg i k hk
    exact ⟨⟨by omega, by omega⟩, by omega⟩
end Go.Proofs.Ytcgbepmhfimbjaa
