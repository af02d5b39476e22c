/- Forests all of whose blocks lie in a range; forests that are marked. Plain facts, no walk. -/
import Derived.Test.YtcgbepmhfimbjaaGreatDoorMarkW
namespace Go.Proofs.YtcgbepmhfimbjaaGreatDoor
open Go.RowKit
namespace Fo

/-- As At, with all blocks of kids from lo on, below hi. -/
def AtIn (w : World) (lo hi : Nat) : Fo → Nat → Nat → Prop
  | nil, _, _ => True
  | cons k n ks r, b, o => w.cell? ⟨b, o, none⟩ = some (.int .i64 k) ∧ w.cell? ⟨b, o + 1, none⟩ = some (.int .i64 n) ∧
      (∃ (A : Option Addr) (C : Nat), w.cell? ⟨b, o + 2, none⟩ = some (.slice A ks.len C) ∧ (ks ≠ nil → ∃ b' o', A = some ⟨b', o', none⟩ ∧ lo ≤ b' ∧ b' < hi ∧ ks.AtIn w lo hi b' o')) ∧ r.AtIn w lo hi b (o + 3)
def LiesIn (w : World) (f : Fo) (lo hi : Nat) (A : Option Addr) : Prop := f ≠ nil → ∃ b o, A = some ⟨b, o, none⟩ ∧ lo ≤ b ∧ b < hi ∧ f.AtIn w lo hi b o

theorem AtIn.at {w : World} {lo hi : Nat} {f : Fo} : ∀ {b o : Nat}, f.AtIn w lo hi b o → f.At w b o := by
  induction f with
  | nil => intro b o _; trivial
  | cons k n ks r ihk ihr =>
    intro b o ⟨h0, h1, ⟨A, C, h2, h3⟩, h4⟩
    exact ⟨h0, h1, ⟨A, C, h2, fun hn => let ⟨b', o', ha, _, _, hat⟩ := h3 hn; ⟨b', o', ha, ihk hat⟩⟩, ihr h4⟩
theorem LiesIn.lies {w : World} {f : Fo} {lo hi : Nat} {A : Option Addr} (h : f.LiesIn w lo hi A) : f.Lies w A :=
  fun hn => let ⟨b, o, ha, _, _, hat⟩ := h hn; ⟨b, o, ha, hat.at⟩
theorem AtIn.agree {w w' : World} {lo hi : Nat} (ha : Agree w w' lo hi) {f : Fo} : ∀ {b o : Nat}, lo ≤ b → b < hi → f.AtIn w lo hi b o → f.AtIn w' lo hi b o := by
  induction f with
  | nil => intro b o _ _ _; trivial
  | cons k n ks r ihk ihr =>
    intro b o hb1 hb2 ⟨h0, h1, ⟨A, C, h2, h3⟩, h4⟩
    exact ⟨(ha.cell hb1 hb2 _).trans h0, (ha.cell hb1 hb2 _).trans h1, ⟨A, C, (ha.cell hb1 hb2 _).trans h2, fun hn => let ⟨b', o', e, l1, l2, hat⟩ := h3 hn; ⟨b', o', e, l1, l2, ihk l1 l2 hat⟩⟩, ihr hb1 hb2 h4⟩
theorem LiesIn.agree {w w' : World} {f : Fo} {lo hi : Nat} {A : Option Addr} (h : f.LiesIn w lo hi A) (ha : Agree w w' lo hi) : f.LiesIn w' lo hi A :=
  fun hn => let ⟨b, o, e, l1, l2, hat⟩ := h hn; ⟨b, o, e, l1, l2, hat.agree ha l1 l2⟩
theorem AtIn.mono {w : World} {lo hi lo' hi' : Nat} (h1 : lo' ≤ lo) (h2 : hi ≤ hi') {f : Fo} : ∀ {b o : Nat}, f.AtIn w lo hi b o → f.AtIn w lo' hi' b o := by
  induction f with
  | nil => intro b o _; trivial
  | cons k n ks r ihk ihr =>
    intro b o ⟨g0, g1, ⟨A, C, g2, g3⟩, g4⟩
    exact ⟨g0, g1, ⟨A, C, g2, fun hn => let ⟨b', o', e, l1, l2, hat⟩ := g3 hn; ⟨b', o', e, by omega, by omega, ihk hat⟩⟩, ihr g4⟩
theorem LiesIn.mono {w : World} {f : Fo} {lo hi lo' hi' : Nat} {A : Option Addr} (h : f.LiesIn w lo hi A) (h1 : lo' ≤ lo) (h2 : hi ≤ hi') : f.LiesIn w lo' hi' A :=
  fun hn => let ⟨b, o, e, l1, l2, hat⟩ := h hn; ⟨b, o, e, by omega, by omega, hat.mono h1 h2⟩
/-- The rows lie in block b from cell o on; each row's kids in blocks of their own, in ranges in order from lo on, below hi, without b. -/
def XAt (w : World) : Fo → Nat → Nat → Nat → Nat → Prop
  | nil, lo, hi, _, _ => lo ≤ hi
  | cons k n ks r, lo, hi, b, o => ∃ (l mid : Nat) (A : Option Addr) (C : Nat), lo ≤ l ∧ l ≤ mid ∧ (b < l ∨ mid ≤ b) ∧ w.cell? ⟨b, o, none⟩ = some (.int .i64 k) ∧ w.cell? ⟨b, o + 1, none⟩ = some (.int .i64 n) ∧ w.cell? ⟨b, o + 2, none⟩ = some (.slice A ks.len C) ∧
      (ks = nil ∨ ∃ b', A = some ⟨b', 0, none⟩ ∧ l ≤ b' ∧ b' < mid ∧ (∀ i, w.frozen? ⟨b', i, none⟩ = false) ∧ ks.XAt w l mid b' 0) ∧ r.XAt w mid hi b (o + 3)
def XIn (w : World) (f : Fo) (lo hi : Nat) (A : Option Addr) : Prop :=
  lo ≤ hi ∧ (f = nil ∨ ∃ b', A = some ⟨b', 0, none⟩ ∧ lo ≤ b' ∧ b' < hi ∧ (∀ i, w.frozen? ⟨b', i, none⟩ = false) ∧ f.XAt w lo hi b' 0)
/-- Two worlds agree on the blocks from lo on, below hi, but for b. -/
def AgreeB (w w' : World) (lo hi b : Nat) : Prop := ∀ x, lo ≤ x → x < hi → x ≠ b → w'.heap[x]? = w.heap[x]?
theorem AgreeB.of {w w' : World} {lo hi b : Nat} (h : Agree w w' lo hi) : AgreeB w w' lo hi b := fun x a c _ => h x a c
theorem AgreeB.trans {w w' w'' : World} {lo hi b : Nat} (h : AgreeB w w' lo hi b) (h' : AgreeB w' w'' lo hi b) : AgreeB w w'' lo hi b := fun x a c d => (h' x a c d).trans (h x a c d)
theorem AgreeB.out {w w' : World} {lo hi b l m : Nat} (h : AgreeB w w' lo hi b) (h1 : lo ≤ l) (h2 : m ≤ hi) (h3 : b < l ∨ m ≤ b) : Agree w w' l m := fun x a c => h x (by omega) (by omega) (by omega)

theorem XAt.le {w : World} {f : Fo} : ∀ {lo hi b o : Nat}, f.XAt w lo hi b o → lo ≤ hi := by
  induction f with
  | nil => intro lo hi b o h; exact h
  | cons k n ks r _ ihr =>
    intro lo hi b o ⟨l, mid, A, C, h1, h2, _, _, _, _, _, h4⟩
    have := ihr h4
    omega
theorem XAt.agree {w w' : World} {f : Fo} : ∀ {lo hi b o : Nat}, f.XAt w lo hi b o → (∀ i, o ≤ i → w'.cell? ⟨b, i, none⟩ = w.cell? ⟨b, i, none⟩) → AgreeB w w' lo hi b → f.XAt w' lo hi b o := by
  induction f with
  | nil => intro lo hi b o h _ _; exact h
  | cons k n ks r ihk ihr =>
    intro lo hi b o ⟨l, mid, A, C, g1, g2, g3, h0, h1, h2, h3, h4⟩ hc ha
    have hle := h4.le
    refine ⟨l, mid, A, C, g1, g2, g3, (hc _ (by omega)).trans h0, (hc _ (by omega)).trans h1, (hc _ (by omega)).trans h2, ?_, ihr h4 (fun i hi => hc i (by omega)) (fun x a c d => ha x (by omega) c d)⟩
    rcases h3 with h | ⟨b', hA, hb, hb2, hf, h⟩
    · exact Or.inl h
    · have ag : Agree w w' l mid := ha.out g1 hle g3
      exact Or.inr ⟨b', hA, hb, hb2, fun i => (ag.frozen hb hb2 i).trans (hf i), ihk h (fun i _ => ag.cell hb hb2 i) (.of ag)⟩
theorem XIn.agree {w w' : World} {f : Fo} {lo hi : Nat} {A : Option Addr} (h : f.XIn w lo hi A) (ha : Agree w w' lo hi) : f.XIn w' lo hi A := by
  refine ⟨h.1, ?_⟩
  rcases h.2 with h | ⟨b', hA, hb, hb2, hf, h⟩
  · exact Or.inl h
  · exact Or.inr ⟨b', hA, hb, hb2, fun i => (ha.frozen hb hb2 i).trans (hf i), h.agree (fun i _ => ha.cell hb hb2 i) (.of ha)⟩
theorem XAt.hi_mono {w : World} {f : Fo} : ∀ {lo hi hi' b o : Nat}, f.XAt w lo hi b o → hi ≤ hi' → f.XAt w lo hi' b o := by
  induction f with
  | nil => intro lo hi hi' b o h hl; exact Nat.le_trans h hl
  | cons k n ks r _ ihr =>
    intro lo hi hi' b o ⟨l, mid, A, C, g1, g2, g3, h0, h1, h2, h3, h4⟩ hl
    exact ⟨l, mid, A, C, g1, g2, g3, h0, h1, h2, h3, ihr h4 hl⟩
theorem XAt.lo_mono {w : World} {f : Fo} {lo lo' hi b o : Nat} (h : f.XAt w lo hi b o) (hl : lo' ≤ lo) : f.XAt w lo' hi b o := by
  cases f with
  | nil => exact Nat.le_trans hl h
  | cons k n ks r =>
    obtain ⟨l, mid, A, C, g1, g2, g3, h0, h1, h2, h3, h4⟩ := h
    exact ⟨l, mid, A, C, Nat.le_trans hl g1, g2, g3, h0, h1, h2, h3, h4⟩
theorem XIn.mono {w : World} {f : Fo} {lo hi lo' hi' : Nat} {A : Option Addr} (h : f.XIn w lo hi A) (h1 : lo' ≤ lo) (h2 : hi ≤ hi') : f.XIn w lo' hi' A := by
  have h0 := h.1
  refine ⟨by omega, ?_⟩
  rcases h.2 with h | ⟨b', hA, hb, hb2, hf, h⟩
  · exact Or.inl h
  · exact Or.inr ⟨b', hA, by omega, by omega, hf, (h.hi_mono h2).lo_mono h1⟩
theorem XAt.atIn {w : World} {f : Fo} : ∀ {lo hi b o lo' hi' : Nat}, f.XAt w lo hi b o → lo' ≤ lo → hi ≤ hi' → f.AtIn w lo' hi' b o := by
  induction f with
  | nil => intro lo hi b o lo' hi' _ _ _; trivial
  | cons k n ks r ihk ihr =>
    intro lo hi b o lo' hi' ⟨l, mid, A, C, g1, g2, _, h0, h1, h2, h3, h4⟩ e1 e2
    have hle := h4.le
    refine ⟨h0, h1, ⟨A, C, h2, fun hn => ?_⟩, ihr h4 (by omega) e2⟩
    rcases h3 with h | ⟨b', hA, hb, hb2, _, h⟩
    · exact absurd h hn
    · exact ⟨b', 0, hA, by omega, by omega, ihk h (by omega) (by omega)⟩
theorem XIn.liesIn {w : World} {f : Fo} {lo hi : Nat} {A : Option Addr} (h : f.XIn w lo hi A) : f.LiesIn w lo hi A := by
  intro hn
  rcases h.2 with h | ⟨b', hA, hb, hb2, _, h⟩
  · exact absurd h hn
  · exact ⟨b', 0, hA, hb, hb2, h.atIn (Nat.le_refl _) (Nat.le_refl _)⟩
theorem XIn.lies {w : World} {f : Fo} {lo hi : Nat} {A : Option Addr} (h : f.XIn w lo hi A) : f.Lies w A := h.liesIn.lies
theorem SepAt.xat {w : World} {f : Fo} : ∀ {lo hi b o : Nat}, f.SepAt w lo hi b o → b < lo → f.XAt w lo hi b o := by
  induction f with
  | nil => intro lo hi b o h _; exact h
  | cons k n ks r ihk ihr =>
    intro lo hi b o ⟨mid, A, C, h0, h1, h2, h3, h4⟩ hb
    rcases h3 with ⟨h, hl⟩ | ⟨b', hA, hb', hf, h⟩
    · exact ⟨lo, mid, A, C, Nat.le_refl _, hl, Or.inl hb, h0, h1, h2, Or.inl h, ihr h4 (by omega)⟩
    · have := h.le
      exact ⟨lo, mid, A, C, Nat.le_refl _, by omega, Or.inl hb, h0, h1, h2, Or.inr ⟨b', hA, hb', by omega, hf, (ihk h (Nat.lt_succ_self _)).lo_mono (by omega)⟩, ihr h4 (by omega)⟩
theorem SepIn.xin {w : World} {f : Fo} {lo hi : Nat} {A : Option Addr} (h : f.SepIn w lo hi A) : f.XIn w lo hi A := by
  refine ⟨h.le, ?_⟩
  rcases h with ⟨h, _⟩ | ⟨b', hA, hb, hf, h⟩
  · exact Or.inl h
  · have := h.le
    exact Or.inr ⟨b', hA, hb, by omega, hf, (h.xat (Nat.lt_succ_self _)).lo_mono (by omega)⟩
theorem XIn.nil {w : World} {lo hi : Nat} (h : lo ≤ hi) (A : Option Addr) : Fo.nil.XIn w lo hi A := ⟨h, Or.inl rfl⟩
theorem LiesIn.nil {w : World} (lo hi : Nat) (A : Option Addr) : Fo.nil.LiesIn w lo hi A := fun h => absurd rfl h

/-- The marks from k on. -/
def mark : Fo → Int → Fo
  | nil, _ => nil
  | cons _ _ ks r, k => cons k (k + 1) (ks.mark (k + 1 + 1)) (r.mark (k + 2 + 2 * (ks.nodes : Int)))
theorem mark_len (f : Fo) : ∀ k, (f.mark k).len = f.len := by
  induction f with
  | nil => intro k; rfl
  | cons _ _ ks r _ ihr => intro k; simp only [mark, len, ihr]
theorem mark_nodes (f : Fo) : ∀ k, (f.mark k).nodes = f.nodes := by
  induction f with
  | nil => intro k; rfl
  | cons _ _ ks r ihk ihr => intro k; simp only [mark, nodes, ihr, ihk]
/-- The number ahead of a place. -/
def upTo (f : Fo) (k : Int) (j : Nat) : Int := k + 2 * ((f.nodes : Int) - ((f.drop j).nodes : Int))
theorem upTo_zero (f : Fo) (k : Int) : f.upTo k 0 = k := by
  unfold upTo
  have : f.drop 0 = f := by cases f <;> rfl
  rw [this]; omega
theorem upTo_end (f : Fo) (k : Int) : f.upTo k f.len = k + 2 * (f.nodes : Int) := by
  unfold upTo
  rw [drop_len]
  show _ + 2 * (_ - ((0 : Nat) : Int)) = _
  omega
theorem upTo_step {f ks r : Fo} {j : Nat} {k0 n0 : Int} (k : Int) (e1 : f.drop j = cons k0 n0 ks r) (e2 : f.drop (j + 1) = r) : f.upTo k (j + 1) = f.upTo k j + 1 + 1 + 2 * (ks.nodes : Int) := by
  unfold upTo
  rw [e1, e2]
  simp only [nodes]
  omega
theorem upTo_bd (f : Fo) (k : Int) (j : Nat) : k ≤ f.upTo k j ∧ f.upTo k j ≤ k + 2 * (f.nodes : Int) := by
  have := f.nodes_drop j
  unfold upTo
  omega
theorem mark_drop (f : Fo) : ∀ (j : Nat) (k : Int), (f.mark k).drop j = (f.drop j).mark (f.upTo k j) := by
  induction f with
  | nil => intro j k; cases j <;> rfl
  | cons k0 n0 ks r ihk ihr =>
    intro j k
    cases j with
    | zero => rw [upTo_zero]; rfl
    | succ j =>
      show (r.mark _).drop j = (r.drop j).mark _
      rw [ihr]
      congr 1
      unfold upTo
      simp only [drop, nodes]
      omega

/-- Rows of which the first j are marked, from k on; the rest is as it was, its kids in blocks from mid on. -/
structure MkRows (f : Fo) (k : Int) (lo hi B : Nat) (wr : World) (j mid : Nat) : Prop where
  bd : lo ≤ mid ∧ mid ≤ hi ∧ hi ≤ wr.heap.size ∧ B < wr.heap.size
  fr : ∀ i, wr.frozen? ⟨B, i, none⟩ = false
  rest : (f.drop j).XAt wr mid hi B (j * 3)
  front : ∀ w' : World, AgreeB wr w' lo mid B → (∀ o, o < j * 3 → w'.cell? ⟨B, o, none⟩ = wr.cell? ⟨B, o, none⟩) → ((f.mark k).drop j).XAt w' mid hi B (j * 3) → (f.mark k).XAt w' lo hi B 0

theorem drop_zero (f : Fo) : f.drop 0 = f := by cases f <;> rfl
theorem MkRows.start {f : Fo} {k : Int} {lo hi B : Nat} {w : World} (h : f.XAt w lo hi B 0) (hB : B < w.heap.size) (hz : hi ≤ w.heap.size) (hf : ∀ i, w.frozen? ⟨B, i, none⟩ = false) : MkRows f k lo hi B w 0 lo := by
  refine ⟨⟨Nat.le_refl _, h.le, hz, hB⟩, hf, ?_, fun w' _ _ h2 => ?_⟩
  · rw [drop_zero, Nat.zero_mul]; exact h
  · rw [drop_zero, Nat.zero_mul] at h2; exact h2

/-- The row at hand: its cells, its kids. -/
theorem MkRows.row {f : Fo} {k : Int} {lo hi B : Nat} {wr : World} {j mid : Nat} (h : MkRows f k lo hi B wr j mid) {k0 n0 : Int} {ks r : Fo} (e1 : f.drop j = cons k0 n0 ks r) :
    ∃ (l mid' : Nat) (A : Option Addr) (C : Nat), mid ≤ l ∧ l ≤ mid' ∧ (B < l ∨ mid' ≤ B) ∧ wr.cell? ⟨B, j * 3, none⟩ = some (.int .i64 k0) ∧ wr.cell? ⟨B, j * 3 + 1, none⟩ = some (.int .i64 n0) ∧ wr.cell? ⟨B, j * 3 + 2, none⟩ = some (.slice A ks.len C) ∧ Hid (ks.XIn wr l mid' A) ∧ mid' ≤ hi ∧ Hid (r.XAt wr mid' hi B (j * 3 + 3)) := by
  have h1 := h.rest
  rw [e1] at h1
  obtain ⟨l, mid', A, C, g1, g2, g3, c0, c1, c2, h3, h4⟩ := h1
  exact ⟨l, mid', A, C, g1, g2, g3, c0, c1, c2, ⟨g2, h3⟩, h4.le, h4⟩

/-- What lies elsewhere is as it was, behind two stores into a block. -/
theorem agree_two {wr : World} {B o1 o2 : Nat} {u1 u2 : Value} {lo hi : Nat} (h : B < lo ∨ hi ≤ B) : Agree wr ((wr.setCell ⟨B, o1, none⟩ u1).setCell ⟨B, o2, none⟩ u2) lo hi :=
  Agree.setCell (Agree.setCell (Agree.refl _ _ _) _ h _) _ h _

theorem MkRows.step {f : Fo} {k : Int} {lo hi B : Nat} {wr w2 : World} {j mid l mid' : Nat} (h : MkRows f k lo hi B wr j mid) {k0 n0 : Int} {ks r : Fo} {A : Option Addr} {C : Nat}
    (e1 : f.drop j = cons k0 n0 ks r) (e2 : f.drop (j + 1) = r) (g1 : mid ≤ l) (g2 : l ≤ mid') (g3 : B < l ∨ mid' ≤ B) (c0 : wr.cell? ⟨B, j * 3, none⟩ = some (.int .i64 k0)) (c1 : wr.cell? ⟨B, j * 3 + 1, none⟩ = some (.int .i64 n0)) (c2 : wr.cell? ⟨B, j * 3 + 2, none⟩ = some (.slice A ks.len C))
    (hr : r.XAt wr mid' hi B (j * 3 + 3))
    (hk : (ks.mark (f.upTo k j + 1 + 1)).XIn w2 l mid' A) (hb : ButIn l mid' ((wr.setCell ⟨B, j * 3, none⟩ (.int .i64 (f.upTo k j))).setCell ⟨B, j * 3 + 1, none⟩ (.int .i64 (f.upTo k j + 1))) w2) : MkRows f k lo hi B w2 (j + 1) mid' := by
  obtain ⟨⟨b1, b2, b4, b5⟩, hf, _, hfr⟩ := h
  have hmi := hr.le
  obtain ⟨w1, hw1⟩ : ∃ w1, w1 = (wr.setCell ⟨B, j * 3, none⟩ (.int .i64 (f.upTo k j))).setCell ⟨B, j * 3 + 1, none⟩ (.int .i64 (f.upTo k j + 1)) := ⟨_, rfl⟩
  rw [← hw1] at hb
  have hs1 : w1.heap.size = wr.heap.size := by rw [hw1]; simp
  have n1 : (⟨B, j * 3, none⟩ : Addr) ≠ ⟨B, j * 3 + 1, none⟩ := fun h => by simp at h
  have a1 : ∀ x, x ≠ B → w1.heap[x]? = wr.heap[x]? := fun x hx => by
    have : Agree wr w1 x (x + 1) := by rw [hw1]; exact agree_two (by omega)
    exact this x (Nat.le_refl _) (Nat.lt_succ_self _)
  have oth : ∀ o, o ≠ j * 3 → o ≠ j * 3 + 1 → w1.cell? ⟨B, o, none⟩ = wr.cell? ⟨B, o, none⟩ := by
    intro o h1 h2
    rw [hw1, World.cell?_setCell_other (a := ⟨B, j * 3 + 1, none⟩) (b := ⟨B, o, none⟩) (h := fun h => h2 (by cases h; rfl)), World.cell?_setCell_other (a := ⟨B, j * 3, none⟩) (b := ⟨B, o, none⟩) (h := fun h => h1 (by cases h; rfl))]
  have kB : w2.heap[B]? = w1.heap[B]? := hb.block B (by omega) (by omega)
  have B2 : ∀ o, w2.cell? ⟨B, o, none⟩ = w1.cell? ⟨B, o, none⟩ := fun o => World.cell?_of_block (a := ⟨B, o, none⟩) kB
  have d0 : w2.cell? ⟨B, j * 3, none⟩ = some (.int .i64 (f.upTo k j)) := by
    rw [B2, hw1, World.cell?_setCell_other (a := ⟨B, j * 3 + 1, none⟩) (b := ⟨B, j * 3, none⟩) (h := fun h => by simp at h)]
    exact World.cell?_setCell_same (h := c0) ..
  have d1 : w2.cell? ⟨B, j * 3 + 1, none⟩ = some (.int .i64 (f.upTo k j + 1)) := by
    rw [B2, hw1]
    exact World.cell?_setCell_same (h := (World.cell?_setCell_other (w := wr) (v := .int .i64 (f.upTo k j)) (a := ⟨B, j * 3, none⟩) (b := ⟨B, j * 3 + 1, none⟩) (h := n1)).trans c1) ..
  have d2 : w2.cell? ⟨B, j * 3 + 2, none⟩ = some (.slice A ks.len C) := by rw [B2, oth _ (by omega) (by omega)]; exact c2
  have a2 : ∀ x, x < wr.heap.size → x ≠ B → (x < l ∨ mid' ≤ x) → w2.heap[x]? = wr.heap[x]? := fun x h1 h2 h3 => (hb.block x (by omega) h3).trans (a1 x h2)
  have hz := hb.size
  refine ⟨⟨by omega, hmi, by omega, by omega⟩, fun i => ?_, ?_, fun w' ha hc h2 => ?_⟩
  · rw [World.frozen?_of_block (a := ⟨B, i, none⟩) kB, hw1, World.frozen?_setCell, World.frozen?_setCell]
    exact hf i
  · rw [e2, show (j + 1) * 3 = j * 3 + 3 from by omega]
    exact hr.agree (fun i hi => by rw [B2, oth _ (by omega) (by omega)]) (fun x h1 h2 h3 => a2 x (by omega) h3 (Or.inr h1))
  · refine hfr w' (fun x h1 h2 h3 => (ha x h1 (by omega) h3).trans (a2 x (by omega) h3 (Or.inl (by omega)))) (fun o ho => ?_) ?_
    · rw [hc o (by omega), B2, oth _ (by omega) (by omega)]
    · have em := mark_drop f j k
      rw [e1] at em
      have em2 := mark_drop f (j + 1) k
      rw [e2, upTo_step k e1 e2] at em2
      have e3 : f.upTo k j + 1 + 1 + 2 * (ks.nodes : Int) = f.upTo k j + 2 + 2 * (ks.nodes : Int) := by omega
      rw [e3] at em2
      rw [em2] at h2
      rw [em]
      have hk' := hk.agree (w' := w') (fun x h1 h3 => ha x (by omega) h3 (by omega))
      refine ⟨l, mid', A, C, g1, g2, g3, ?_, ?_, ?_, hk'.2, ?_⟩
      · rw [hc _ (by omega)]; exact d0
      · rw [hc _ (by omega)]; exact d1
      · rw [hc _ (by omega), mark_len]; exact d2
      · rw [show (j + 1) * 3 = j * 3 + 3 from by omega] at h2
        exact h2

theorem MkRows.end {f : Fo} {k : Int} {lo hi B : Nat} {wr : World} {mid : Nat} (h : MkRows f k lo hi B wr f.len mid) : (f.mark k).XAt wr lo hi B 0 := by
  refine h.front wr (fun _ _ _ _ => rfl) (fun _ _ => rfl) ?_
  have : (f.mark k).drop f.len = nil := by rw [← mark_len f k, drop_len]
  rw [this]
  exact h.bd.2.1
end Fo
end Go.Proofs.YtcgbepmhfimbjaaGreatDoor
