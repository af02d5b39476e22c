/- Programs: what a list of programs holds; where it lies in memory. Plain facts, no walk. -/
import Derived.Test.YtcgbepmhfimbjaaGreatDoorFoIn
import Derived.Test.YtcgbepmhfimbjaaGreatDoorFill
namespace Go.Proofs.YtcgbepmhfimbjaaGreatDoor
open Go.RowKit

/-- A list of programs: the first one's kind and number, its condition (kind, number, kids), its kids, and the rest. -/
inductive Pg where
  | nil
  | cons (k n ck cn : Int) (cf : Fo) (kids rest : Pg)
deriving DecidableEq, Inhabited

namespace Pg
def len : Pg → Nat
  | nil => 0
  | cons _ _ _ _ _ _ r => r.len + 1
def nodes : Pg → Nat
  | nil => 0
  | cons _ _ _ _ cf ks r => 1 + cf.nodes + ks.nodes + r.nodes
def drop : Nat → Pg → Pg
  | 0, f => f
  | _ + 1, nil => nil
  | i + 1, cons _ _ _ _ _ _ r => r.drop i

/-- No list is longer than a length can be. -/
def Fits : Pg → Prop
  | nil => True
  | cons _ _ _ _ cf ks r => (cf.len ≤ 9223372036854775807 ∧ cf.Fits) ∧ ks.len ≤ 9223372036854775807 ∧ ks.Fits ∧ r.Fits

/-- The rows of a list lie in block b from cell o on. -/
def At (w : World) : Pg → Nat → Nat → Prop
  | nil, _, _ => True
  | cons k n ck cn cf ks r, b, o => w.cell? ⟨b, o, none⟩ = some (.int .i64 k) ∧ w.cell? ⟨b, o + 1, none⟩ = some (.int .i64 n) ∧ w.cell? ⟨b, o + 2, none⟩ = some (.int .i64 ck) ∧ w.cell? ⟨b, o + 3, none⟩ = some (.int .i64 cn) ∧
      (∃ (A : Option Addr) (C : Nat), w.cell? ⟨b, o + 4, none⟩ = some (.slice A cf.len C) ∧ cf.Lies w A) ∧
      (∃ (A : Option Addr) (C : Nat), w.cell? ⟨b, o + 5, none⟩ = some (.slice A ks.len C) ∧ (ks ≠ nil → ∃ b' o', A = some ⟨b', o', none⟩ ∧ ks.At w b' o')) ∧ r.At w b (o + 6)

/-- A list lies where a slice value's pointer leads. -/
def Lies (w : World) (f : Pg) (A : Option Addr) : Prop := f ≠ nil → ∃ b o, A = some ⟨b, o, none⟩ ∧ f.At w b o

theorem len_drop (f : Pg) : ∀ i, (f.drop i).len = f.len - i := by
  induction f with
  | nil => intro i; cases i <;> simp [drop, len]
  | cons k n ck cn cf ks r _ ih => intro i; cases i with
    | zero => simp [drop]
    | succ i => simp only [drop, len]; rw [ih]; omega

theorem drop_lt (f : Pg) : ∀ i, i < f.len → ∃ k n ck cn cf ks r, f.drop i = cons k n ck cn cf ks r ∧ f.drop (i + 1) = r := by
  induction f with
  | nil => intro i h; simp [len] at h
  | cons k n ck cn cf ks r _ ih => intro i h; cases i with
    | zero => exact ⟨k, n, ck, cn, cf, ks, r, rfl, by cases r <;> rfl⟩
    | succ i => exact ih i (by simp [len] at h; omega)

theorem drop_len (f : Pg) : f.drop f.len = nil := by
  induction f with
  | nil => rfl
  | cons k n ck cn cf ks r _ ih => exact ih

theorem fits_drop {f : Pg} (h : f.Fits) : ∀ i, (f.drop i).Fits := by
  induction f with
  | nil => intro i; cases i <;> exact h
  | cons k n ck cn cf ks r _ ih => intro i; cases i with
    | zero => exact h
    | succ i => exact ih h.2.2.2 i

theorem at_drop {w : World} {f : Pg} : ∀ {b o : Nat}, f.At w b o → ∀ i, (f.drop i).At w b (o + i * 6) := by
  induction f with
  | nil => intro b o _ i; cases i <;> exact trivial
  | cons k n ck cn cf ks r _ ih => intro b o h i; cases i with
    | zero => exact h
    | succ i =>
      have := ih h.2.2.2.2.2.2 i
      rw [show o + (i + 1) * 6 = o + 6 + i * 6 from by omega]
      exact this

theorem len_le_nodes (f : Pg) : f.len ≤ f.nodes := by
  induction f with
  | nil => exact Nat.le_refl _
  | cons k n ck cn cf ks r _ ih => simp only [len, nodes]; omega

theorem nodes_drop (f : Pg) : ∀ i, (f.drop i).nodes ≤ f.nodes := by
  induction f with
  | nil => intro i; cases i <;> exact Nat.le_refl _
  | cons k n ck cn cf ks r _ ih => intro i; cases i with
    | zero => exact Nat.le_refl _
    | succ i => have := ih i; simp only [drop, nodes]; omega

/-- What lies in a world lies in every later one. -/
theorem At.later {w w' : World} (hh : ∀ b o, b < w.heap.size → w'.cell? ⟨b, o, none⟩ = w.cell? ⟨b, o, none⟩) {f : Pg} : ∀ {b o : Nat}, f.At w b o → f.At w' b o := by
  induction f with
  | nil => intro b o _; trivial
  | cons k n ck cn cf ks r ihk ihr =>
    intro b o ⟨h0, h1, h2, h3, ⟨A, C, h4, h5⟩, ⟨B, D, h6, h7⟩, h8⟩
    have hlt : b < w.heap.size := World.block_lt_of_cell? _ _ h0
    exact ⟨(hh b o hlt).trans h0, (hh b _ hlt).trans h1, (hh b _ hlt).trans h2, (hh b _ hlt).trans h3, ⟨A, C, (hh b _ hlt).trans h4, h5.later hh⟩, ⟨B, D, (hh b _ hlt).trans h6, fun hn => let ⟨b', o', ha, hat⟩ := h7 hn; ⟨b', o', ha, ihk hat⟩⟩, ihr h8⟩

theorem Lies.later {w w' : World} (hh : ∀ b o, b < w.heap.size → w'.cell? ⟨b, o, none⟩ = w.cell? ⟨b, o, none⟩) {f : Pg} {A : Option Addr} (h : f.Lies w A) : f.Lies w' A :=
  fun hn => let ⟨b, o, ha, hat⟩ := h hn; ⟨b, o, ha, hat.later hh⟩
theorem Lies.below {w w' : World} (hb : Below w.heap.size w w') {f : Pg} {A : Option Addr} (h : f.Lies w A) : f.Lies w' A :=
  h.later fun b o hlt => hb.cell (p := ⟨b, o, none⟩) hlt
theorem Lies.drew {w : World} {f : Pg} {A : Option Addr} (h : f.Lies w A) : f.Lies w.drew A := h.later (w := w) (w' := w.drew) (fun b o _ => (rfl : w.drew.cell? ⟨b, o, none⟩ = w.cell? ⟨b, o, none⟩))
theorem Lies.dbelow {w w' : World} {f : Pg} {A : Option Addr} (h : f.Lies w A) (hb : Below w.drew.heap.size w.drew w') : f.Lies w' A := h.drew.below hb
theorem Lies.alloc {w : World} {f : Pg} {A : Option Addr} (h : f.Lies w A) (x : Obj) : f.Lies (w.alloc x) A := h.later (fun _ _ h => World.cell?_alloc_lt _ _ _ h)
theorem Lies.sees {w W : World} {f : Pg} {A : Option Addr} (h : f.Lies w A) (hs : Sees w W) : f.Lies W A := h.below hs

/-- The row of index i. -/
theorem Lies.row {w : World} {f : Pg} {b o : Nat} (h : f.At w b o) {i : Nat} (hi : i < f.len) :
    ∃ k n ck cn cf ks r A C B D, Hid (f.drop i = cons k n ck cn cf ks r) ∧ Hid (f.drop (i + 1) = r) ∧ w.cell? ⟨b, o + i * 6, none⟩ = some (.int .i64 k) ∧ w.cell? ⟨b, o + i * 6 + 1, none⟩ = some (.int .i64 n) ∧ w.cell? ⟨b, o + i * 6 + 2, none⟩ = some (.int .i64 ck) ∧ w.cell? ⟨b, o + i * 6 + 3, none⟩ = some (.int .i64 cn) ∧
      w.cell? ⟨b, o + i * 6 + 4, none⟩ = some (.slice A cf.len C) ∧ cf.Lies w A ∧ w.cell? ⟨b, o + i * 6 + 5, none⟩ = some (.slice B ks.len D) ∧ ks.Lies w B := by
  obtain ⟨k, n, ck, cn, cf, ks, r, e1, e2⟩ := f.drop_lt i hi
  have h' := at_drop h i
  rw [e1] at h'
  obtain ⟨h0, h1, h2, h3, ⟨A, C, h4, h5⟩, ⟨B, D, h6, h7⟩, _⟩ := h'
  exact ⟨k, n, ck, cn, cf, ks, r, A, C, B, D, e1, e2, h0, h1, h2, h3, h4, h5, h6, h7⟩

/-- The same, where all lists lie in blocks from lo on, below hi. -/
def AtIn (w : World) (lo hi : Nat) : Pg → Nat → Nat → Prop
  | nil, _, _ => True
  | cons k n ck cn cf ks r, b, o => w.cell? ⟨b, o, none⟩ = some (.int .i64 k) ∧ w.cell? ⟨b, o + 1, none⟩ = some (.int .i64 n) ∧ w.cell? ⟨b, o + 2, none⟩ = some (.int .i64 ck) ∧ w.cell? ⟨b, o + 3, none⟩ = some (.int .i64 cn) ∧
      (∃ (A : Option Addr) (C : Nat), w.cell? ⟨b, o + 4, none⟩ = some (.slice A cf.len C) ∧ cf.LiesIn w lo hi A) ∧
      (∃ (A : Option Addr) (C : Nat), w.cell? ⟨b, o + 5, none⟩ = some (.slice A ks.len C) ∧ (ks ≠ nil → ∃ b' o', A = some ⟨b', o', none⟩ ∧ lo ≤ b' ∧ b' < hi ∧ ks.AtIn w lo hi b' o')) ∧ r.AtIn w lo hi b (o + 6)
def LiesIn (w : World) (f : Pg) (lo hi : Nat) (A : Option Addr) : Prop := f ≠ nil → ∃ b o, A = some ⟨b, o, none⟩ ∧ lo ≤ b ∧ b < hi ∧ f.AtIn w lo hi b o
theorem AtIn.at {w : World} {lo hi : Nat} {f : Pg} : ∀ {b o : Nat}, f.AtIn w lo hi b o → f.At w b o := by
  induction f with
  | nil => intro b o _; trivial
  | cons k n ck cn cf ks r ihk ihr =>
    intro b o ⟨h0, h1, h2, h3, ⟨A, C, h4, h5⟩, ⟨B, D, h6, h7⟩, h8⟩
    exact ⟨h0, h1, h2, h3, ⟨A, C, h4, h5.lies⟩, ⟨B, D, h6, fun hn => let ⟨b', o', ha, _, _, hat⟩ := h7 hn; ⟨b', o', ha, ihk hat⟩⟩, ihr h8⟩
theorem LiesIn.lies {w : World} {f : Pg} {lo hi : Nat} {A : Option Addr} (h : f.LiesIn w lo hi A) : f.Lies w A :=
  fun hn => let ⟨b, o, ha, _, _, hat⟩ := h hn; ⟨b, o, ha, hat.at⟩
theorem AtIn.agree {w w' : World} {lo hi : Nat} (ha : Fo.Agree w w' lo hi) {f : Pg} : ∀ {b o : Nat}, lo ≤ b → b < hi → f.AtIn w lo hi b o → f.AtIn w' lo hi b o := by
  induction f with
  | nil => intro b o _ _ _; trivial
  | cons k n ck cn cf ks r ihk ihr =>
    intro b o hb hb2 ⟨h0, h1, h2, h3, ⟨A, C, h4, h5⟩, ⟨B, D, h6, h7⟩, h8⟩
    have hs := fun o => ha.cell hb hb2 o
    exact ⟨(hs _).trans h0, (hs _).trans h1, (hs _).trans h2, (hs _).trans h3, ⟨A, C, (hs _).trans h4, h5.agree ha⟩, ⟨B, D, (hs _).trans h6, fun hn => let ⟨b', o', e, p, p', hat⟩ := h7 hn; ⟨b', o', e, p, p', ihk p p' hat⟩⟩, ihr hb hb2 h8⟩
theorem LiesIn.agree {w w' : World} {f : Pg} {lo hi : Nat} {A : Option Addr} (h : f.LiesIn w lo hi A) (ha : Fo.Agree w w' lo hi) : f.LiesIn w' lo hi A :=
  fun hn => let ⟨b, o, e, p, p', hat⟩ := h hn; ⟨b, o, e, p, p', hat.agree ha p p'⟩
theorem AtIn.mono {w : World} {lo hi lo' hi' : Nat} (h1 : lo' ≤ lo) (h2 : hi ≤ hi') {f : Pg} : ∀ {b o : Nat}, f.AtIn w lo hi b o → f.AtIn w lo' hi' b o := by
  induction f with
  | nil => intro b o _; trivial
  | cons k n ck cn cf ks r ihk ihr =>
    intro b o ⟨h0, h1', h2', h3, ⟨A, C, h4, h5⟩, ⟨B, D, h6, h7⟩, h8⟩
    exact ⟨h0, h1', h2', h3, ⟨A, C, h4, h5.mono h1 h2⟩, ⟨B, D, h6, fun hn => let ⟨b', o', e, p, p', hat⟩ := h7 hn; ⟨b', o', e, Nat.le_trans h1 p, Nat.lt_of_lt_of_le p' h2, ihk hat⟩⟩, ihr h8⟩
theorem LiesIn.mono {w : World} {f : Pg} {lo hi lo' hi' : Nat} {A : Option Addr} (h : f.LiesIn w lo hi A) (h1 : lo' ≤ lo) (h2 : hi ≤ hi') : f.LiesIn w lo' hi' A :=
  fun hn => let ⟨b, o, e, p, p', hat⟩ := h hn; ⟨b, o, e, Nat.le_trans h1 p, Nat.lt_of_lt_of_le p' h2, hat.mono h1 h2⟩

/-- Block B is a row of so many programs of type E, of which the first j are those of f, what belongs to them in blocks from B + 1 on. -/
def Rows (E : TypeId) (f : Pg) (B : Nat) (wr : World) (j : Nat) : Prop :=
  (∃ cs : Array Value, wr.heap[B]? = some (.cells cs E (0, 0)) ∧ cs.size = f.len * 6) ∧ B < wr.heap.size ∧
  ∀ (w' : World) (hi : Nat), wr.heap.size ≤ hi → Fo.Agree wr w' (B + 1) wr.heap.size → (∀ o, o < j * 6 → w'.cell? ⟨B, o, none⟩ = wr.cell? ⟨B, o, none⟩) → (f.drop j).AtIn w' (B + 1) hi B (j * 6) → f.AtIn w' (B + 1) hi B 0

theorem rows_start {E : TypeId} {f : Pg} {w : World} {cs : Array Value} (hs : cs.size = f.len * 6) : Rows E f w.heap.size (w.alloc (.cells cs E)) 0 := by
  refine ⟨⟨cs, heap_new _ _ _ rfl, hs⟩, by simp, fun w' hi _ _ _ h => ?_⟩
  simp only [drop, Nat.zero_mul] at h
  exact h
theorem Rows.below {E : TypeId} {f : Pg} {B : Nat} {wr w1 : World} {j : Nat} (h : Rows E f B wr j) (hb : Below wr.heap.size wr w1) : Rows E f B w1 j := by
  obtain ⟨⟨cs, hc, hs⟩, hlt, hd⟩ := h
  have hz := hb.size
  refine ⟨⟨cs, (hb.block B hlt).trans hc, hs⟩, by omega, fun w' hi hh h1 h2 h3 => hd w' hi (by omega) ?_ (fun o ho => ?_) h3⟩
  · exact Fo.Agree.trans ((Fo.Agree.of_below hb).mono (Nat.zero_le _) (Nat.le_refl _)) (h1.mono (Nat.le_refl _) hz)
  · exact (h2 o ho).trans (hb.cell (p := ⟨B, o, none⟩) hlt)
theorem Rows.cells {E : TypeId} {f : Pg} {B : Nat} {wr : World} {j : Nat} (h : Rows E f B wr j) (hj : j < f.len) :
    (∃ v0, wr.cell? ⟨B, j * 6, none⟩ = some v0) ∧ (∃ v1, wr.cell? ⟨B, j * 6 + 1, none⟩ = some v1) ∧ (∃ v2, wr.cell? ⟨B, j * 6 + 2, none⟩ = some v2) ∧ (∃ v3, wr.cell? ⟨B, j * 6 + 3, none⟩ = some v3) ∧ (∃ v4, wr.cell? ⟨B, j * 6 + 4, none⟩ = some v4) ∧ (∃ v5, wr.cell? ⟨B, j * 6 + 5, none⟩ = some v5) ∧ (∀ i, wr.frozen? ⟨B, i, none⟩ = false) := by
  obtain ⟨⟨cs, hc, hs⟩, _, _⟩ := h
  refine ⟨⟨cs[j * 6]'(by omega), ?_⟩, ⟨cs[j * 6 + 1]'(by omega), ?_⟩, ⟨cs[j * 6 + 2]'(by omega), ?_⟩, ⟨cs[j * 6 + 3]'(by omega), ?_⟩, ⟨cs[j * 6 + 4]'(by omega), ?_⟩, ⟨cs[j * 6 + 5]'(by omega), ?_⟩, fun i => Fo.unfrozen_of_block hc i⟩ <;>
  · rw [Fo.cell_of_block hc]
    exact Array.getElem?_eq_getElem _
/-- Six cells of a row are stored. -/
def put6 (w : World) (B o : Nat) (v0 v1 v2 v3 v4 v5 : Value) : World :=
  (((((w.setCell ⟨B, o, none⟩ v0).setCell ⟨B, o + 1, none⟩ v1).setCell ⟨B, o + 2, none⟩ v2).setCell ⟨B, o + 3, none⟩ v3).setCell ⟨B, o + 4, none⟩ v4).setCell ⟨B, o + 5, none⟩ v5
theorem put6_block {w : World} {B o : Nat} {cs : Array Value} {T : TypeId} (h : w.heap[B]? = some (.cells cs T (0, 0))) (v0 v1 v2 v3 v4 v5 : Value) :
    (put6 w B o v0 v1 v2 v3 v4 v5).heap[B]? = some (.cells ((((((cs.setIfInBounds o v0).setIfInBounds (o + 1) v1).setIfInBounds (o + 2) v2).setIfInBounds (o + 3) v3).setIfInBounds (o + 4) v4).setIfInBounds (o + 5) v5) T (0, 0)) :=
  Fo.block_setCell (Fo.block_setCell (Fo.block_setCell (Fo.block_setCell (Fo.block_setCell (Fo.block_setCell h v0) v1) v2) v3) v4) v5
theorem put6_size (w : World) (B o : Nat) (v0 v1 v2 v3 v4 v5 : Value) : (put6 w B o v0 v1 v2 v3 v4 v5).heap.size = w.heap.size := by simp [put6]
theorem put6_agree {w : World} {B o : Nat} (v0 v1 v2 v3 v4 v5 : Value) {lo hi : Nat} (h : B < lo) : Fo.Agree w (put6 w B o v0 v1 v2 v3 v4 v5) lo hi := by
  unfold put6
  refine Fo.Agree.setCell (Fo.Agree.setCell (Fo.Agree.setCell (Fo.Agree.setCell (Fo.Agree.setCell (Fo.Agree.setCell (Fo.Agree.refl _ _ _) _ ?_ _) _ ?_ _) _ ?_ _) _ ?_ _) _ ?_ _) _ ?_ _ <;> exact Or.inl h
theorem rows_step {E : TypeId} {f ks r : Pg} {cf : Fo} {B : Nat} {w1 : World} {j : Nat} {k n ck cn : Int} {A D : Option Addr} (h : Rows E f B w1 j) (e1 : f.drop j = cons k n ck cn cf ks r) (e2 : f.drop (j + 1) = r) (hj : j < f.len)
    {x : Nat} (hx : B < x) (hA : cf.LiesIn w1 x w1.heap.size A) (hD : ks.LiesIn w1 x w1.heap.size D) :
    Rows E f B (put6 w1 B (j * 6) (.int .i64 k) (.int .i64 n) (.int .i64 ck) (.int .i64 cn) (.slice A cf.len cf.len) (.slice D ks.len ks.len)) (j + 1) := by
  obtain ⟨⟨cs, hc, hsz⟩, hlt, hd⟩ := h
  have b := put6_block (o := j * 6) hc (.int .i64 k) (.int .i64 n) (.int .i64 ck) (.int .i64 cn) (.slice A cf.len cf.len) (.slice D ks.len ks.len)
  have a1 : Fo.Agree w1 (put6 w1 B (j * 6) (.int .i64 k) (.int .i64 n) (.int .i64 ck) (.int .i64 cn) (.slice A cf.len cf.len) (.slice D ks.len ks.len)) (B + 1) w1.heap.size := put6_agree _ _ _ _ _ _ (Nat.lt_succ_self _)
  have z := put6_size w1 B (j * 6) (.int .i64 k) (.int .i64 n) (.int .i64 ck) (.int .i64 cn) (.slice A cf.len cf.len) (.slice D ks.len ks.len)
  obtain ⟨W, hW⟩ : ∃ W, W = put6 w1 B (j * 6) (.int .i64 k) (.int .i64 n) (.int .i64 ck) (.int .i64 cn) (.slice A cf.len cf.len) (.slice D ks.len ks.len) := ⟨_, rfl⟩
  rw [← hW] at b a1 z ⊢
  have hcell : ∀ o, W.cell? ⟨B, o, none⟩ = _ := fun o => Fo.cell_of_block b o
  refine ⟨⟨_, b, by simp [hsz]⟩, by omega, fun w' hi hh ha hcl hr => ?_⟩
  rw [z] at ha hh
  have a2 : Fo.Agree w1 w' (B + 1) w1.heap.size := Fo.Agree.trans a1 ha
  refine hd w' hi hh a2 (fun o ho => ?_) ?_
  · rw [hcl o (by omega), hcell, Fo.cell_of_block hc]
    simp only [Array.getElem?_setIfInBounds]
    rw [if_neg (by omega), if_neg (by omega), if_neg (by omega), if_neg (by omega), if_neg (by omega), if_neg (by omega)]
  · rw [e1]
    have a3 : Fo.Agree w1 w' x w1.heap.size := a2.mono (by omega) (Nat.le_refl _)
    refine ⟨?_, ?_, ?_, ?_, ⟨A, cf.len, ?_, (hA.agree a3).mono (by omega) hh⟩, ⟨D, ks.len, ?_, (hD.agree a3).mono (by omega) hh⟩, ?_⟩
    · rw [hcl _ (by omega), hcell]
      simp only [Array.getElem?_setIfInBounds, Array.size_setIfInBounds]
      rw [if_neg (by omega), if_neg (by omega), if_neg (by omega), if_neg (by omega), if_neg (by omega), if_pos trivial, if_pos (by omega)]
    · rw [hcl _ (by omega), hcell]
      simp only [Array.getElem?_setIfInBounds, Array.size_setIfInBounds]
      rw [if_neg (by omega), if_neg (by omega), if_neg (by omega), if_neg (by omega), if_pos trivial, if_pos (by omega)]
    · rw [hcl _ (by omega), hcell]
      simp only [Array.getElem?_setIfInBounds, Array.size_setIfInBounds]
      rw [if_neg (by omega), if_neg (by omega), if_neg (by omega), if_pos trivial, if_pos (by omega)]
    · rw [hcl _ (by omega), hcell]
      simp only [Array.getElem?_setIfInBounds, Array.size_setIfInBounds]
      rw [if_neg (by omega), if_neg (by omega), if_pos trivial, if_pos (by omega)]
    · rw [hcl _ (by omega), hcell]
      simp only [Array.getElem?_setIfInBounds, Array.size_setIfInBounds]
      rw [if_neg (by omega), if_pos trivial, if_pos (by omega)]
    · rw [hcl _ (by omega), hcell]
      simp only [Array.getElem?_setIfInBounds, Array.size_setIfInBounds]
      rw [if_pos trivial, if_pos (by omega)]
    · rw [e2, show (j + 1) * 6 = j * 6 + 6 from by omega] at hr
      exact hr
theorem rows_end {E : TypeId} {f : Pg} {B : Nat} {wr : World} {lo : Nat} (h : Rows E f B wr f.len) (hlo : lo ≤ B) : f.LiesIn wr lo wr.heap.size (some ⟨B, 0, none⟩) := by
  obtain ⟨_, hlt, hd⟩ := h
  refine fun _ => ⟨B, 0, rfl, hlo, hlt, AtIn.mono (by omega) (Nat.le_refl _) (hd wr wr.heap.size (Nat.le_refl _) (Fo.Agree.refl _ _ _) (fun _ _ => rfl) ?_)⟩
  rw [drop_len]
  trivial
end Pg
end Go.Proofs.YtcgbepmhfimbjaaGreatDoor
