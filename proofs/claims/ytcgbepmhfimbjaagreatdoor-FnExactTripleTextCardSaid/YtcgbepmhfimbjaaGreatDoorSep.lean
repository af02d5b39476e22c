/- Forests whose rows lie apart, in blocks of one range: what a call made. Plain facts, no walk. -/
import Derived.Test.YtcgbepmhfimbjaaGreatDoorFo
namespace Go.Proofs.YtcgbepmhfimbjaaGreatDoor
open Go.RowKit

/-- A world in which all that was in w is as it was. -/
def Sees (w W : World) : Prop := Below w.heap.size w W
theorem Sees.refl (w : World) : Sees w w := Below.refl _ _
theorem Sees.below {w W W' : World} (h : Sees w W) (hb : Below W.heap.size W W') : Sees w W' := Below.trans h (hb.mono h.size)
theorem Sees.drew {w W : World} (h : Sees w W) : Sees w W.drew := Below.drew h
theorem Sees.alloc {w W : World} (h : Sees w W) (o : Obj) : Sees w (W.alloc o) := Below.alloc h h.size o
theorem kc {W W' : World} {b o : Nat} {v : Value} (hb : Below W.heap.size W W') (h : W.cell? ⟨b, o, none⟩ = some v) : W'.cell? ⟨b, o, none⟩ = some v :=
  (hb.cell (p := ⟨b, o, none⟩) (World.block_lt_of_cell? _ _ h)).trans h
theorem ka {W : World} {b o : Nat} {v : Value} (x : Obj) (h : W.cell? ⟨b, o, none⟩ = some v) : (W.alloc x).cell? ⟨b, o, none⟩ = some v :=
  (World.cell?_alloc_lt _ _ _ (World.block_lt_of_cell? _ _ h)).trans h

theorem heap_new (w : World) (o : Obj) (n : Nat) (hn : n = w.heap.size) : (w.alloc o).heap[n]? = some o := by
  subst hn
  show (w.heap.push o)[w.heap.size]? = some o
  simp

/-- Cells that hold what is listed. -/
def Has (W : World) : List (Nat × Nat × Value) → Prop
  | [] => True
  | c :: l => W.cell? ⟨c.1, c.2.1, none⟩ = some c.2.2 ∧ Has W l
theorem Has.below {W W' : World} (hb : Below W.heap.size W W') : ∀ {l : List (Nat × Nat × Value)}, Has W l → Has W' l
  | [], _ => trivial
  | _ :: _, ⟨h1, h2⟩ => ⟨kc hb h1, Has.below hb h2⟩
theorem Has.alloc {W : World} (x : Obj) : ∀ {l : List (Nat × Nat × Value)}, Has W l → Has (W.alloc x) l
  | [], _ => trivial
  | _ :: _, ⟨h1, h2⟩ => ⟨ka x h1, Has.alloc x h2⟩
theorem Has.drew {W : World} : ∀ {l : List (Nat × Nat × Value)}, Has W l → Has W.drew l
  | [], _ => trivial
  | _ :: _, ⟨h1, h2⟩ => ⟨h1, Has.drew h2⟩
/-- A world that sees w, in which the listed cells are as listed. -/
def St (w : World) (l : List (Nat × Nat × Value)) (W : World) : Prop := Sees w W ∧ Has W l
theorem St.sees {w W : World} {l : List (Nat × Nat × Value)} (h : St w l W) : Sees w W := h.1
theorem St.below {w W W' : World} {l : List (Nat × Nat × Value)} (h : St w l W) (hb : Below W.heap.size W W') : St w l W' := ⟨h.1.below hb, h.2.below hb⟩
theorem St.drew {w W : World} {l : List (Nat × Nat × Value)} (h : St w l W) : St w l W.drew := ⟨h.1.drew, h.2.drew⟩
theorem St.alloc {w W : World} {l : List (Nat × Nat × Value)} (h : St w l W) (x : Obj) : St w l (W.alloc x) := ⟨h.1.alloc x, h.2.alloc x⟩

namespace Fo
theorem Lies.dbelow {w w' : World} {f : Fo} {A : Option Addr} (h : f.Lies w A) (hb : Below w.drew.heap.size w.drew w') : f.Lies w' A := (h.later (w := w) (w' := w.drew) (fun b o _ => (rfl : w.drew.cell? ⟨b, o, none⟩ = w.cell? ⟨b, o, none⟩))).below hb
theorem Lies.drew {w : World} {f : Fo} {A : Option Addr} (h : f.Lies w A) : f.Lies w.drew A := h.later (w := w) (w' := w.drew) (fun b o _ => (rfl : w.drew.cell? ⟨b, o, none⟩ = w.cell? ⟨b, o, none⟩))
theorem Lies.alloc {w : World} {f : Fo} {A : Option Addr} (h : f.Lies w A) (x : Obj) : f.Lies (w.alloc x) A := h.later (fun _ _ h => World.cell?_alloc_lt _ _ _ h)
theorem Lies.sees {w W : World} {f : Fo} {A : Option Addr} (h : f.Lies w A) (hs : Sees w W) : f.Lies W A := h.below hs

/-- The rows lie in block b from cell o on; each row's kids in blocks of their own, in order, from lo on, below hi. -/
def SepAt (w : World) : Fo → Nat → Nat → Nat → Nat → Prop
  | nil, lo, hi, _, _ => lo ≤ hi
  | cons k n ks r, lo, hi, b, o => ∃ (mid : Nat) (A : Option Addr) (C : Nat), w.cell? ⟨b, o, none⟩ = some (.int .i64 k) ∧ w.cell? ⟨b, o + 1, none⟩ = some (.int .i64 n) ∧ w.cell? ⟨b, o + 2, none⟩ = some (.slice A ks.len C) ∧
      ((ks = nil ∧ lo ≤ mid) ∨ ∃ b', A = some ⟨b', 0, none⟩ ∧ lo ≤ b' ∧ (∀ i, w.frozen? ⟨b', i, none⟩ = false) ∧ ks.SepAt w (b' + 1) mid b' 0) ∧ r.SepAt w mid hi b (o + 3)

def SepIn (w : World) (f : Fo) (lo hi : Nat) (A : Option Addr) : Prop :=
  (f = nil ∧ lo ≤ hi) ∨ ∃ b', A = some ⟨b', 0, none⟩ ∧ lo ≤ b' ∧ (∀ i, w.frozen? ⟨b', i, none⟩ = false) ∧ f.SepAt w (b' + 1) hi b' 0

theorem SepAt.le {w : World} {f : Fo} : ∀ {lo hi b o : Nat}, f.SepAt w lo hi b o → lo ≤ hi := by
  induction f with
  | nil => intro lo hi b o h; exact h
  | cons k n ks r ihk ihr =>
    intro lo hi b o ⟨mid, A, C, _, _, _, h3, h4⟩
    have := ihr h4
    rcases h3 with ⟨_, h⟩ | ⟨b', _, hb, _, h⟩
    · omega
    · have := ihk h; omega

theorem SepIn.le {w : World} {f : Fo} {lo hi : Nat} {A : Option Addr} (h : f.SepIn w lo hi A) : lo ≤ hi := by
  rcases h with ⟨_, h⟩ | ⟨b', _, hb, _, h⟩
  · exact h
  · have := h.le; omega

theorem SepAt.at {w : World} {f : Fo} : ∀ {lo hi b o : Nat}, f.SepAt w lo hi b o → f.At w b o := by
  induction f with
  | nil => intro lo hi b o _; trivial
  | cons k n ks r ihk ihr =>
    intro lo hi b o ⟨mid, A, C, h0, h1, h2, h3, h4⟩
    refine ⟨h0, h1, ⟨A, C, h2, fun hn => ?_⟩, ihr h4⟩
    rcases h3 with ⟨h, _⟩ | ⟨b', hA, _, _, h⟩
    · exact absurd h hn
    · exact ⟨b', 0, hA, ihk h⟩

theorem SepIn.lies {w : World} {f : Fo} {lo hi : Nat} {A : Option Addr} (h : f.SepIn w lo hi A) : f.Lies w A := by
  intro hn
  rcases h with ⟨h, _⟩ | ⟨b', hA, _, _, h⟩
  · exact absurd h hn
  · exact ⟨b', 0, hA, h.at⟩

/-- Two worlds agree on the blocks from lo on, below hi. -/
def Agree (w w' : World) (lo hi : Nat) : Prop := ∀ k, lo ≤ k → k < hi → w'.heap[k]? = w.heap[k]?

theorem Agree.cell {w w' : World} {lo hi : Nat} (h : Agree w w' lo hi) {b : Nat} (h1 : lo ≤ b) (h2 : b < hi) (o : Nat) : w'.cell? ⟨b, o, none⟩ = w.cell? ⟨b, o, none⟩ := World.cell?_of_block (a := ⟨b, o, none⟩) (h b h1 h2)
theorem Agree.frozen {w w' : World} {lo hi : Nat} (h : Agree w w' lo hi) {b : Nat} (h1 : lo ≤ b) (h2 : b < hi) (o : Nat) : w'.frozen? ⟨b, o, none⟩ = w.frozen? ⟨b, o, none⟩ := World.frozen?_of_block (a := ⟨b, o, none⟩) (h b h1 h2)
theorem Agree.mono {w w' : World} {lo hi lo' hi' : Nat} (h : Agree w w' lo hi) (h1 : lo ≤ lo') (h2 : hi' ≤ hi) : Agree w w' lo' hi' := fun k a b => h k (by omega) (by omega)
theorem Agree.of_below {w w' : World} {lo hi : Nat} (h : Below hi w w') : Agree w w' lo hi := fun k _ b => h.block k b

theorem Agree.refl (w : World) (lo hi : Nat) : Agree w w lo hi := fun _ _ _ => rfl
theorem Agree.trans {w w' w'' : World} {lo hi : Nat} (h : Agree w w' lo hi) (h' : Agree w' w'' lo hi) : Agree w w'' lo hi := fun k a b => (h' k a b).trans (h k a b)
theorem Agree.setCell {w w' : World} {lo hi : Nat} (h : Agree w w' lo hi) (p : Addr) (hp : p.block < lo ∨ hi ≤ p.block) (u : Value) : Agree w (w'.setCell p u) lo hi :=
  fun k a b => (Below.heap_setCell _ _ _ _ (by omega)).trans (h k a b)
theorem Agree.alloc {w w' : World} {lo hi : Nat} (h : Agree w w' lo hi) (hs : hi ≤ w'.heap.size) (o : Obj) : Agree w (w'.alloc o) lo hi :=
  fun k a b => (Below.heap_alloc _ _ _ (by omega)).trans (h k a b)
theorem Agree.drew {w w' : World} {lo hi : Nat} (h : Agree w w' lo hi) : Agree w w'.drew lo hi := h

theorem SepAt.agree {w w' : World} {f : Fo} : ∀ {lo hi b o : Nat}, f.SepAt w lo hi b o → (∀ i, o ≤ i → w'.cell? ⟨b, i, none⟩ = w.cell? ⟨b, i, none⟩) → Agree w w' lo hi → f.SepAt w' lo hi b o := by
  induction f with
  | nil => intro lo hi b o h _ _; exact h
  | cons k n ks r ihk ihr =>
    intro lo hi b o ⟨mid, A, C, h0, h1, h2, h3, h4⟩ hc ha
    have hle := h4.le
    refine ⟨mid, A, C, (hc _ (by omega)).trans h0, (hc _ (by omega)).trans h1, (hc _ (by omega)).trans h2, ?_, ihr h4 (fun i hi => hc i (by omega)) (ha.mono ?_ (Nat.le_refl _))⟩
    · rcases h3 with h | ⟨b', hA, hb, hf, h⟩
      · exact Or.inl h
      · have hl := h.le
        exact Or.inr ⟨b', hA, hb, fun i => (ha.frozen hb (by omega) i).trans (hf i), ihk h (fun i _ => ha.cell hb (by omega) i) (ha.mono (by omega) (by omega))⟩
    · rcases h3 with ⟨_, h⟩ | ⟨b', _, hb, _, h⟩
      · exact h
      · have := h.le; omega

theorem SepIn.agree {w w' : World} {f : Fo} {lo hi : Nat} {A : Option Addr} (h : f.SepIn w lo hi A) (ha : Agree w w' lo hi) : f.SepIn w' lo hi A := by
  rcases h with h | ⟨b', hA, hb, hf, h⟩
  · exact Or.inl h
  · have hl := h.le
    exact Or.inr ⟨b', hA, hb, fun i => (ha.frozen hb (by omega) i).trans (hf i), h.agree (fun i _ => ha.cell hb (by omega) i) (ha.mono (by omega) (Nat.le_refl _))⟩

theorem SepAt.hi_mono {w : World} {f : Fo} : ∀ {lo hi hi' b o : Nat}, f.SepAt w lo hi b o → hi ≤ hi' → f.SepAt w lo hi' b o := by
  induction f with
  | nil => intro lo hi hi' b o h hl; exact Nat.le_trans h hl
  | cons k n ks r _ ihr =>
    intro lo hi hi' b o ⟨mid, A, C, h0, h1, h2, h3, h4⟩ hl
    exact ⟨mid, A, C, h0, h1, h2, h3, ihr h4 hl⟩

theorem SepIn.mono {w : World} {f : Fo} {lo hi lo' hi' : Nat} {A : Option Addr} (h : f.SepIn w lo hi A) (h1 : lo' ≤ lo) (h2 : hi ≤ hi') : f.SepIn w lo' hi' A := by
  rcases h with ⟨h, hl⟩ | ⟨b', hA, hb, hf, h⟩
  · exact Or.inl ⟨h, by omega⟩
  · exact Or.inr ⟨b', hA, by omega, hf, h.hi_mono h2⟩

end Fo
end Go.Proofs.YtcgbepmhfimbjaaGreatDoor
