/- Pp: a list of Go's Pair: what it holds; where it lies in memory; how a row is filled. Plain facts, no walk. -/
import Derived.Test.YtojheipllpkgdaaDoorGt
namespace Go.Proofs.YtojheipllpkgdaaDoor
open Go.RowKit
set_option linter.unusedVariables false

inductive Pp where
  | nil
  | cons (lk : Int) (ln : Int) (lf : Fo) (rk : Int) (rn : Int) (rf : Fo) (rest : Pp)
deriving DecidableEq, Inhabited

namespace Pp
def len : Pp → Nat
  | nil => 0
  | cons _ _ _ _ _ _ r => r.len + 1
def nodes : Pp → Nat
  | nil => 0
  | cons lk ln lf rk rn rf r => 1 + lf.nodes + rf.nodes + r.nodes
def drop : Nat → Pp → Pp
  | 0, f => f
  | _ + 1, nil => nil
  | i + 1, cons _ _ _ _ _ _ r => r.drop i
/-- No list is longer than a length can be. -/
def Fits : Pp → Prop
  | nil => True
  | cons lk ln lf rk rn rf r => (lf.len ≤ 9223372036854775807 ∧ lf.Fits) ∧ (rf.len ≤ 9223372036854775807 ∧ rf.Fits) ∧ r.Fits
/-- The rows of a list lie in block b from cell o on. -/
def At (w : World) : Pp → Nat → Nat → Prop
  | nil, _, _ => True
  | cons lk ln lf rk rn rf r, b, o => w.cell? ⟨b, o, none⟩ = some (.int .i64 lk) ∧ w.cell? ⟨b, o + 1, none⟩ = some (.int .i64 ln) ∧ (∃ (A : Option Addr) (C : Nat), w.cell? ⟨b, o + 2, none⟩ = some (.slice A lf.len C) ∧ lf.Lies w A) ∧ w.cell? ⟨b, o + 3, none⟩ = some (.int .i64 rk) ∧ w.cell? ⟨b, o + 4, none⟩ = some (.int .i64 rn) ∧ (∃ (A : Option Addr) (C : Nat), w.cell? ⟨b, o + 5, none⟩ = some (.slice A rf.len C) ∧ rf.Lies w A) ∧ r.At w b (o + 6)
/-- A list lies where a slice value's pointer leads. -/
def Lies (w : World) (f : Pp) (A : Option Addr) : Prop := f ≠ nil → ∃ b o, A = some ⟨b, o, none⟩ ∧ f.At w b o

theorem drop_lt (f : Pp) : ∀ i, i < f.len → ∃ lk ln lf rk rn rf r, f.drop i = cons lk ln lf rk rn rf r ∧ f.drop (i + 1) = r := by
  induction f with
  | nil => intro i h; simp [len] at h
  | cons lk ln lf rk rn rf r ih => intro i h; cases i with
    | zero => exact ⟨lk, ln, lf, rk, rn, rf, r, rfl, by cases r <;> rfl⟩
    | succ i => exact ih i (by simp [len] at h; omega)
theorem drop_len (f : Pp) : f.drop f.len = nil := by
  induction f with
  | nil => rfl
  | cons lk ln lf rk rn rf r ih => exact ih
theorem fits_drop {f : Pp} (h : f.Fits) : ∀ i, (f.drop i).Fits := by
  induction f with
  | nil => intro i; cases i <;> exact h
  | cons lk ln lf rk rn rf r ih => intro i; cases i with
    | zero => exact h
    | succ i => exact ih h.2.2 i
theorem at_drop {w : World} {f : Pp} : ∀ {b o : Nat}, f.At w b o → ∀ i, (f.drop i).At w b (o + i * 6) := by
  induction f with
  | nil => intro b o _ i; cases i <;> exact trivial
  | cons lk ln lf rk rn rf r ih => intro b o h i; cases i with
    | zero => exact h
    | succ i =>
      obtain ⟨h0, h1, ⟨A2, C2, h2, g2⟩, h3, h4, ⟨A5, C5, h5, g5⟩, hr⟩ := h
      have := ih hr i
      rw [show o + (i + 1) * 6 = o + 6 + i * 6 from by omega]
      exact this
theorem len_le_nodes (f : Pp) : f.len ≤ f.nodes := by
  induction f with
  | nil => exact Nat.le_refl _
  | cons lk ln lf rk rn rf r ih => simp only [len, nodes]; omega
theorem nodes_drop (f : Pp) : ∀ i, (f.drop i).nodes ≤ f.nodes := by
  induction f with
  | nil => intro i; cases i <;> exact Nat.le_refl _
  | cons lk ln lf rk rn rf r ih => intro i; cases i with
    | zero => exact Nat.le_refl _
    | succ i => have := ih i; simp only [drop, nodes]; omega
/-- What lies in a world lies in every later one. -/
theorem At.later {w w' : World} (hh : ∀ b o, b < w.heap.size → w'.cell? ⟨b, o, none⟩ = w.cell? ⟨b, o, none⟩) {f : Pp} : ∀ {b o : Nat}, f.At w b o → f.At w' b o := by
  induction f with
  | nil => intro b o _; trivial
  | cons lk ln lf rk rn rf r ihr =>
    intro b o ⟨h0, h1, ⟨A2, C2, h2, g2⟩, h3, h4, ⟨A5, C5, h5, g5⟩, hr⟩
    have hlt : b < w.heap.size := World.block_lt_of_cell? _ _ h0
    exact ⟨(hh b o hlt).trans h0, (hh b _ hlt).trans h1, ⟨A2, C2, (hh b _ hlt).trans h2, g2.later hh⟩, (hh b _ hlt).trans h3, (hh b _ hlt).trans h4, ⟨A5, C5, (hh b _ hlt).trans h5, g5.later hh⟩, ihr hr⟩
theorem Lies.later {w w' : World} (hh : ∀ b o, b < w.heap.size → w'.cell? ⟨b, o, none⟩ = w.cell? ⟨b, o, none⟩) {f : Pp} {A : Option Addr} (h : f.Lies w A) : f.Lies w' A :=
  fun hn => let ⟨b, o, ha, hat⟩ := h hn; ⟨b, o, ha, hat.later hh⟩
theorem Lies.below {w w' : World} (hb : Below w.heap.size w w') {f : Pp} {A : Option Addr} (h : f.Lies w A) : f.Lies w' A :=
  h.later fun b o hlt => hb.cell (p := ⟨b, o, none⟩) hlt
theorem Lies.drew {w : World} {f : Pp} {A : Option Addr} (h : f.Lies w A) : f.Lies w.drew A := h.later (w := w) (w' := w.drew) (fun b o _ => (rfl : w.drew.cell? ⟨b, o, none⟩ = w.cell? ⟨b, o, none⟩))
theorem Lies.dbelow {w w' : World} {f : Pp} {A : Option Addr} (h : f.Lies w A) (hb : Below w.drew.heap.size w.drew w') : f.Lies w' A := h.drew.below hb
theorem Lies.alloc {w : World} {f : Pp} {A : Option Addr} (h : f.Lies w A) (x : Obj) : f.Lies (w.alloc x) A := h.later (fun _ _ h => World.cell?_alloc_lt _ _ _ h)
theorem Lies.sees {w W : World} {f : Pp} {A : Option Addr} (h : f.Lies w A) (hs : Sees w W) : f.Lies W A := h.below hs
/-- The row of index i. -/
theorem Lies.row {w : World} {f : Pp} {b o : Nat} (h : f.At w b o) {i : Nat} (hi : i < f.len) :
    ∃ lk ln lf rk rn rf r Alf Clf Arf Crf, Hid (f.drop i = cons lk ln lf rk rn rf r) ∧ Hid (f.drop (i + 1) = r) ∧ w.cell? ⟨b, o + i * 6, none⟩ = some (.int .i64 lk) ∧ w.cell? ⟨b, o + i * 6 + 1, none⟩ = some (.int .i64 ln) ∧ w.cell? ⟨b, o + i * 6 + 2, none⟩ = some (.slice Alf lf.len Clf) ∧ lf.Lies w Alf ∧ w.cell? ⟨b, o + i * 6 + 3, none⟩ = some (.int .i64 rk) ∧ w.cell? ⟨b, o + i * 6 + 4, none⟩ = some (.int .i64 rn) ∧ w.cell? ⟨b, o + i * 6 + 5, none⟩ = some (.slice Arf rf.len Crf) ∧ rf.Lies w Arf := by
  obtain ⟨lk, ln, lf, rk, rn, rf, r, e1, e2⟩ := f.drop_lt i hi
  have h' := at_drop h i
  rw [e1] at h'
  obtain ⟨h0, h1, ⟨A2, C2, h2, g2⟩, h3, h4, ⟨A5, C5, h5, g5⟩, _⟩ := h'
  exact ⟨lk, ln, lf, rk, rn, rf, r, A2, C2, A5, C5, e1, e2, h0, h1, h2, g2, h3, h4, h5, g5⟩
/-- The same, where all lists lie in blocks from lo on, below hi. -/
def AtIn (w : World) (lo hi : Nat) : Pp → Nat → Nat → Prop
  | nil, _, _ => True
  | cons lk ln lf rk rn rf r, b, o => w.cell? ⟨b, o, none⟩ = some (.int .i64 lk) ∧ w.cell? ⟨b, o + 1, none⟩ = some (.int .i64 ln) ∧ (∃ (A : Option Addr) (C : Nat), w.cell? ⟨b, o + 2, none⟩ = some (.slice A lf.len C) ∧ lf.LiesIn w lo hi A) ∧ w.cell? ⟨b, o + 3, none⟩ = some (.int .i64 rk) ∧ w.cell? ⟨b, o + 4, none⟩ = some (.int .i64 rn) ∧ (∃ (A : Option Addr) (C : Nat), w.cell? ⟨b, o + 5, none⟩ = some (.slice A rf.len C) ∧ rf.LiesIn w lo hi A) ∧ r.AtIn w lo hi b (o + 6)
def LiesIn (w : World) (f : Pp) (lo hi : Nat) (A : Option Addr) : Prop := f ≠ nil → ∃ b o, A = some ⟨b, o, none⟩ ∧ lo ≤ b ∧ b < hi ∧ f.AtIn w lo hi b o
theorem AtIn.at {w : World} {lo hi : Nat} {f : Pp} : ∀ {b o : Nat}, f.AtIn w lo hi b o → f.At w b o := by
  induction f with
  | nil => intro b o _; trivial
  | cons lk ln lf rk rn rf r ihr =>
    intro b o ⟨h0, h1, ⟨A2, C2, h2, g2⟩, h3, h4, ⟨A5, C5, h5, g5⟩, hr⟩
    exact ⟨h0, h1, ⟨A2, C2, h2, g2.lies⟩, h3, h4, ⟨A5, C5, h5, g5.lies⟩, ihr hr⟩
theorem LiesIn.lies {w : World} {f : Pp} {lo hi : Nat} {A : Option Addr} (h : f.LiesIn w lo hi A) : f.Lies w A :=
  fun hn => let ⟨b, o, ha, _, _, hat⟩ := h hn; ⟨b, o, ha, hat.at⟩
theorem AtIn.agree {w w' : World} {lo hi : Nat} (ha : Fo.Agree w w' lo hi) {f : Pp} : ∀ {b o : Nat}, lo ≤ b → b < hi → f.AtIn w lo hi b o → f.AtIn w' lo hi b o := by
  induction f with
  | nil => intro b o _ _ _; trivial
  | cons lk ln lf rk rn rf r ihr =>
    intro b o hb hb2 ⟨h0, h1, ⟨A2, C2, h2, g2⟩, h3, h4, ⟨A5, C5, h5, g5⟩, hr⟩
    have hs := fun o => ha.cell hb hb2 o
    exact ⟨(hs _).trans h0, (hs _).trans h1, ⟨A2, C2, (hs _).trans h2, g2.agree ha⟩, (hs _).trans h3, (hs _).trans h4, ⟨A5, C5, (hs _).trans h5, g5.agree ha⟩, ihr hb hb2 hr⟩
theorem LiesIn.agree {w w' : World} {f : Pp} {lo hi : Nat} {A : Option Addr} (h : f.LiesIn w lo hi A) (ha : Fo.Agree w w' lo hi) : f.LiesIn w' lo hi A :=
  fun hn => let ⟨b, o, e, p, p', hat⟩ := h hn; ⟨b, o, e, p, p', hat.agree ha p p'⟩
theorem AtIn.mono {w : World} {lo hi lo' hi' : Nat} (h1x : lo' ≤ lo) (h2x : hi ≤ hi') {f : Pp} : ∀ {b o : Nat}, f.AtIn w lo hi b o → f.AtIn w lo' hi' b o := by
  induction f with
  | nil => intro b o _; trivial
  | cons lk ln lf rk rn rf r ihr =>
    intro b o ⟨h0, h1, ⟨A2, C2, h2, g2⟩, h3, h4, ⟨A5, C5, h5, g5⟩, hr⟩
    exact ⟨h0, h1, ⟨A2, C2, h2, g2.mono h1x h2x⟩, h3, h4, ⟨A5, C5, h5, g5.mono h1x h2x⟩, ihr hr⟩
theorem LiesIn.mono {w : World} {f : Pp} {lo hi lo' hi' : Nat} {A : Option Addr} (h : f.LiesIn w lo hi A) (h1 : lo' ≤ lo) (h2 : hi ≤ hi') : f.LiesIn w lo' hi' A :=
  fun hn => let ⟨b, o, e, p, p', hat⟩ := h hn; ⟨b, o, e, Nat.le_trans h1 p, Nat.lt_of_lt_of_le p' h2, hat.mono h1 h2⟩

/-- Block B is a row of so many of them of type E, of which the first j are those of f, what belongs to them in blocks from B + 1 on. -/
def Rows (E : TypeId) (f : Pp) (B : Nat) (wr : World) (j : Nat) : Prop :=
  (∃ cs : Array Value, wr.heap[B]? = some (.cells cs E (0, 0)) ∧ cs.size = f.len * 6) ∧ B < wr.heap.size ∧
  ∀ (w' : World) (hi : Nat), wr.heap.size ≤ hi → Fo.Agree wr w' (B + 1) wr.heap.size → (∀ o, o < j * 6 → w'.cell? ⟨B, o, none⟩ = wr.cell? ⟨B, o, none⟩) → (f.drop j).AtIn w' (B + 1) hi B (j * 6) → f.AtIn w' (B + 1) hi B 0
theorem rows_start {E : TypeId} {f : Pp} {w : World} {cs : Array Value} (hs : cs.size = f.len * 6) : Rows E f w.heap.size (w.alloc (.cells cs E)) 0 := by
  refine ⟨⟨cs, heap_new _ _ _ rfl, hs⟩, by simp, fun w' hi _ _ _ h => ?_⟩
  simp only [drop, Nat.zero_mul] at h
  exact h
theorem Rows.below {E : TypeId} {f : Pp} {B : Nat} {wr w1 : World} {j : Nat} (h : Rows E f B wr j) (hb : Below wr.heap.size wr w1) : Rows E f B w1 j := by
  obtain ⟨⟨cs, hc, hs⟩, hlt, hd⟩ := h
  have hz := hb.size
  refine ⟨⟨cs, (hb.block B hlt).trans hc, hs⟩, by omega, fun w' hi hh h1 h2 h3 => hd w' hi (by omega) ?_ (fun o ho => ?_) h3⟩
  · exact Fo.Agree.trans ((Fo.Agree.of_below hb).mono (Nat.zero_le _) (Nat.le_refl _)) (h1.mono (Nat.le_refl _) hz)
  · exact (h2 o ho).trans (hb.cell (p := ⟨B, o, none⟩) hlt)
theorem Rows.cells {E : TypeId} {f : Pp} {B : Nat} {wr : World} {j : Nat} (h : Rows E f B wr j) (hj : j < f.len) :
    (∃ v, wr.cell? ⟨B, j * 6, none⟩ = some v) ∧ (∃ v, wr.cell? ⟨B, j * 6 + 1, none⟩ = some v) ∧ (∃ v, wr.cell? ⟨B, j * 6 + 2, none⟩ = some v) ∧ (∃ v, wr.cell? ⟨B, j * 6 + 3, none⟩ = some v) ∧ (∃ v, wr.cell? ⟨B, j * 6 + 4, none⟩ = some v) ∧ (∃ v, wr.cell? ⟨B, j * 6 + 5, none⟩ = some v) ∧ (∀ i, wr.frozen? ⟨B, i, none⟩ = false) := by
  obtain ⟨⟨cs, hc, hs⟩, _, _⟩ := h
  refine ⟨⟨cs[j * 6]'(by omega), ?_⟩, ⟨cs[j * 6 + 1]'(by omega), ?_⟩, ⟨cs[j * 6 + 2]'(by omega), ?_⟩, ⟨cs[j * 6 + 3]'(by omega), ?_⟩, ⟨cs[j * 6 + 4]'(by omega), ?_⟩, ⟨cs[j * 6 + 5]'(by omega), ?_⟩, fun i => Fo.unfrozen_of_block hc i⟩ <;>
  · rw [Fo.cell_of_block hc]
    exact Array.getElem?_eq_getElem _
/-- The cells of a row are stored. -/
def put (w : World) (B o : Nat) (v0 v1 v2 v3 v4 v5 : Value) : World := ((((((w.setCell ⟨B, o, none⟩ v0).setCell ⟨B, o + 1, none⟩ v1).setCell ⟨B, o + 2, none⟩ v2).setCell ⟨B, o + 3, none⟩ v3).setCell ⟨B, o + 4, none⟩ v4).setCell ⟨B, o + 5, none⟩ v5)
theorem put_block {w : World} {B o : Nat} {cs : Array Value} {T : TypeId} (h : w.heap[B]? = some (.cells cs T (0, 0))) (v0 v1 v2 v3 v4 v5 : Value) :
    (put w B o v0 v1 v2 v3 v4 v5).heap[B]? = some (.cells ((((((cs.setIfInBounds (o) v0).setIfInBounds (o + 1) v1).setIfInBounds (o + 2) v2).setIfInBounds (o + 3) v3).setIfInBounds (o + 4) v4).setIfInBounds (o + 5) v5) T (0, 0)) := (Fo.block_setCell (Fo.block_setCell (Fo.block_setCell (Fo.block_setCell (Fo.block_setCell (Fo.block_setCell h v0) v1) v2) v3) v4) v5)
theorem put_size (w : World) (B o : Nat) (v0 v1 v2 v3 v4 v5 : Value) : (put w B o v0 v1 v2 v3 v4 v5).heap.size = w.heap.size := by simp [put]
theorem put_agree {w : World} {B o : Nat} (v0 v1 v2 v3 v4 v5 : Value) {lo hi : Nat} (h : B < lo) : Fo.Agree w (put w B o v0 v1 v2 v3 v4 v5) lo hi := by
  unfold put
  refine Fo.Agree.setCell (Fo.Agree.setCell (Fo.Agree.setCell (Fo.Agree.setCell (Fo.Agree.setCell (Fo.Agree.setCell (Fo.Agree.refl _ _ _) _ ?_ _) _ ?_ _) _ ?_ _) _ ?_ _) _ ?_ _) _ ?_ _ <;> exact Or.inl h
theorem rows_step {E : TypeId} {f r : Pp} {lk : Int} {ln : Int} {lf : Fo} {rk : Int} {rn : Int} {rf : Fo} {B : Nat} {w1 : World} {j : Nat} {Alf Arf : Option Addr} (h : Rows E f B w1 j) (e1 : f.drop j = cons lk ln lf rk rn rf r) (e2 : f.drop (j + 1) = r) (hj : j < f.len)
    {x : Nat} (hx : B < x) (hAlf : lf.LiesIn w1 x w1.heap.size Alf) (hArf : rf.LiesIn w1 x w1.heap.size Arf) :
    Rows E f B (put w1 B (j * 6) (.int .i64 lk) (.int .i64 ln) (.slice Alf lf.len lf.len) (.int .i64 rk) (.int .i64 rn) (.slice Arf rf.len rf.len)) (j + 1) := by
  obtain ⟨⟨cs, hc, hsz⟩, hlt, hd⟩ := h
  obtain ⟨v0, hv0, v1, hv1, v2, hv2, v3, hv3, v4, hv4, v5, hv5⟩ : ∃ v0 : Value, v0 = (.int .i64 lk) ∧ ∃ v1 : Value, v1 = (.int .i64 ln) ∧ ∃ v2 : Value, v2 = (.slice Alf lf.len lf.len) ∧ ∃ v3 : Value, v3 = (.int .i64 rk) ∧ ∃ v4 : Value, v4 = (.int .i64 rn) ∧ ∃ v5 : Value, v5 = (.slice Arf rf.len rf.len) := ⟨_, rfl, _, rfl, _, rfl, _, rfl, _, rfl, _, rfl⟩
  rw [← hv0, ← hv1, ← hv2, ← hv3, ← hv4, ← hv5]
  have b := put_block (o := j * 6) hc v0 v1 v2 v3 v4 v5
  have a1 : Fo.Agree w1 (put w1 B (j * 6) v0 v1 v2 v3 v4 v5) (B + 1) w1.heap.size := put_agree v0 v1 v2 v3 v4 v5 (Nat.lt_succ_self _)
  have z := put_size w1 B (j * 6) v0 v1 v2 v3 v4 v5
  obtain ⟨W, hW⟩ : ∃ W, W = put w1 B (j * 6) v0 v1 v2 v3 v4 v5 := ⟨_, rfl⟩
  rw [← hW] at b a1 z ⊢
  have hcell : ∀ o, W.cell? ⟨B, o, none⟩ = _ := fun o => Fo.cell_of_block b o
  refine ⟨⟨_, b, by simp [hsz]⟩, by omega, fun w' hi hh ha hcl hr => ?_⟩
  rw [z] at ha hh
  have a2 : Fo.Agree w1 w' (B + 1) w1.heap.size := Fo.Agree.trans a1 ha
  refine hd w' hi hh a2 (fun o ho => ?_) ?_
  · rw [hcl o (by omega), hcell, Fo.cell_of_block hc]
    simp only [Array.getElem?_setIfInBounds]
    rw [if_neg (by omega), if_neg (by omega), if_neg (by omega), if_neg (by omega), if_neg (by omega), if_neg (by omega)]
  · rw [e1]
    have a3 : Fo.Agree w1 w' x w1.heap.size := a2.mono (by omega) (Nat.le_refl _)
    have n0 : W.cell? ⟨B, j * 6, none⟩ = some v0 := by rw [hcell]; simp only [Array.getElem?_setIfInBounds, Array.size_setIfInBounds]; rw [if_neg (by omega), if_neg (by omega), if_neg (by omega), if_neg (by omega), if_neg (by omega), if_pos trivial, if_pos (by omega)]
    have n1 : W.cell? ⟨B, j * 6 + 1, none⟩ = some v1 := by rw [hcell]; simp only [Array.getElem?_setIfInBounds, Array.size_setIfInBounds]; rw [if_neg (by omega), if_neg (by omega), if_neg (by omega), if_neg (by omega), if_pos trivial, if_pos (by omega)]
    have n2 : W.cell? ⟨B, j * 6 + 2, none⟩ = some v2 := by rw [hcell]; simp only [Array.getElem?_setIfInBounds, Array.size_setIfInBounds]; rw [if_neg (by omega), if_neg (by omega), if_neg (by omega), if_pos trivial, if_pos (by omega)]
    have n3 : W.cell? ⟨B, j * 6 + 3, none⟩ = some v3 := by rw [hcell]; simp only [Array.getElem?_setIfInBounds, Array.size_setIfInBounds]; rw [if_neg (by omega), if_neg (by omega), if_pos trivial, if_pos (by omega)]
    have n4 : W.cell? ⟨B, j * 6 + 4, none⟩ = some v4 := by rw [hcell]; simp only [Array.getElem?_setIfInBounds, Array.size_setIfInBounds]; rw [if_neg (by omega), if_pos trivial, if_pos (by omega)]
    have n5 : W.cell? ⟨B, j * 6 + 5, none⟩ = some v5 := by rw [hcell]; simp only [Array.getElem?_setIfInBounds, Array.size_setIfInBounds]; rw [if_pos trivial, if_pos (by omega)]
    rw [hv0] at n0; rw [hv1] at n1; rw [hv2] at n2; rw [hv3] at n3; rw [hv4] at n4; rw [hv5] at n5
    refine ⟨(hcl _ (by omega)).trans n0, (hcl _ (by omega)).trans n1, ⟨Alf, lf.len, (hcl _ (by omega)).trans n2, (hAlf.agree a3).mono (by omega) hh⟩, (hcl _ (by omega)).trans n3, (hcl _ (by omega)).trans n4, ⟨Arf, rf.len, (hcl _ (by omega)).trans n5, (hArf.agree a3).mono (by omega) hh⟩, ?_⟩
    rw [e2, show (j + 1) * 6 = j * 6 + 6 from by omega] at hr
    exact hr
theorem rows_end {E : TypeId} {f : Pp} {B : Nat} {wr : World} {lo : Nat} (h : Rows E f B wr f.len) (hlo : lo ≤ B) : f.LiesIn wr lo wr.heap.size (some ⟨B, 0, none⟩) := by
  obtain ⟨_, hlt, hd⟩ := h
  refine fun _ => ⟨B, 0, rfl, hlo, hlt, AtIn.mono (by omega) (Nat.le_refl _) (hd wr wr.heap.size (Nat.le_refl _) (Fo.Agree.refl _ _ _) (fun _ _ => rfl) ?_)⟩
  rw [drop_len]
  trivial
end Pp
end Go.Proofs.YtojheipllpkgdaaDoor
