/- Ps: a list of Go's ProofStep: what it holds; where it lies in memory; how a row is filled. Plain facts, no walk. -/
import Derived.Test.YtlpgkhdecccmlaaRGt
import Derived.Test.YtlpgkhdecccmlaaRIl
namespace Go.Proofs.YtlpgkhdecccmlaaR
open Go.RowKit
set_option linter.unusedVariables false

inductive Ps where
  | nil
  | cons (us : Int) (bk : Bool) (pa : Il) (te : Fo) (ac : Fo) (rest : Ps)
deriving DecidableEq, Inhabited

namespace Ps
def len : Ps → Nat
  | nil => 0
  | cons _ _ _ _ _ r => r.len + 1
def nodes : Ps → Nat
  | nil => 0
  | cons us bk pa te ac r => 1 + pa.nodes + te.nodes + ac.nodes + r.nodes
def drop : Nat → Ps → Ps
  | 0, f => f
  | _ + 1, nil => nil
  | i + 1, cons _ _ _ _ _ r => r.drop i
/-- No list is longer than a length can be. -/
def Fits : Ps → Prop
  | nil => True
  | cons us bk pa te ac r => (pa.len ≤ 9223372036854775807 ∧ pa.Fits) ∧ (te.len ≤ 9223372036854775807 ∧ te.Fits) ∧ (ac.len ≤ 9223372036854775807 ∧ ac.Fits) ∧ r.Fits
/-- The rows of a list lie in block b from cell o on. -/
def At (w : World) : Ps → Nat → Nat → Prop
  | nil, _, _ => True
  | cons us bk pa te ac r, b, o => w.cell? ⟨b, o, none⟩ = some (.int .i64 us) ∧ w.cell? ⟨b, o + 1, none⟩ = some (.bool bk) ∧ (∃ (A : Option Addr) (C : Nat), w.cell? ⟨b, o + 2, none⟩ = some (.slice A pa.len C) ∧ pa.Lies w A) ∧ (∃ (A : Option Addr) (C : Nat), w.cell? ⟨b, o + 3, none⟩ = some (.slice A te.len C) ∧ te.Lies w A) ∧ (∃ (A : Option Addr) (C : Nat), w.cell? ⟨b, o + 4, none⟩ = some (.slice A ac.len C) ∧ ac.Lies w A) ∧ r.At w b (o + 5)
/-- A list lies where a slice value's pointer leads. -/
def Lies (w : World) (f : Ps) (A : Option Addr) : Prop := f ≠ nil → ∃ b o, A = some ⟨b, o, none⟩ ∧ f.At w b o

theorem drop_lt (f : Ps) : ∀ i, i < f.len → ∃ us bk pa te ac r, f.drop i = cons us bk pa te ac r ∧ f.drop (i + 1) = r := by
  induction f with
  | nil => intro i h; simp [len] at h
  | cons us bk pa te ac r ih => intro i h; cases i with
    | zero => exact ⟨us, bk, pa, te, ac, r, rfl, by cases r <;> rfl⟩
    | succ i => exact ih i (by simp [len] at h; omega)
theorem drop_len (f : Ps) : f.drop f.len = nil := by
  induction f with
  | nil => rfl
  | cons us bk pa te ac r ih => exact ih
theorem fits_drop {f : Ps} (h : f.Fits) : ∀ i, (f.drop i).Fits := by
  induction f with
  | nil => intro i; cases i <;> exact h
  | cons us bk pa te ac r ih => intro i; cases i with
    | zero => exact h
    | succ i => exact ih h.2.2.2 i
theorem at_drop {w : World} {f : Ps} : ∀ {b o : Nat}, f.At w b o → ∀ i, (f.drop i).At w b (o + i * 5) := by
  induction f with
  | nil => intro b o _ i; cases i <;> exact trivial
  | cons us bk pa te ac r ih => intro b o h i; cases i with
    | zero => exact h
    | succ i =>
      obtain ⟨h0, h1, ⟨A2, C2, h2, g2⟩, ⟨A3, C3, h3, g3⟩, ⟨A4, C4, h4, g4⟩, hr⟩ := h
      have := ih hr i
      rw [show o + (i + 1) * 5 = o + 5 + i * 5 from by omega]
      exact this
theorem len_le_nodes (f : Ps) : f.len ≤ f.nodes := by
  induction f with
  | nil => exact Nat.le_refl _
  | cons us bk pa te ac r ih => simp only [len, nodes]; omega
theorem nodes_drop (f : Ps) : ∀ i, (f.drop i).nodes ≤ f.nodes := by
  induction f with
  | nil => intro i; cases i <;> exact Nat.le_refl _
  | cons us bk pa te ac r ih => intro i; cases i with
    | zero => exact Nat.le_refl _
    | succ i => have := ih i; simp only [drop, nodes]; omega
/-- What lies in a world lies in every later one. -/
theorem At.later {w w' : World} (hh : ∀ b o, b < w.heap.size → w'.cell? ⟨b, o, none⟩ = w.cell? ⟨b, o, none⟩) {f : Ps} : ∀ {b o : Nat}, f.At w b o → f.At w' b o := by
  induction f with
  | nil => intro b o _; trivial
  | cons us bk pa te ac r ihr =>
    intro b o ⟨h0, h1, ⟨A2, C2, h2, g2⟩, ⟨A3, C3, h3, g3⟩, ⟨A4, C4, h4, g4⟩, hr⟩
    have hlt : b < w.heap.size := World.block_lt_of_cell? _ _ h0
    exact ⟨(hh b o hlt).trans h0, (hh b _ hlt).trans h1, ⟨A2, C2, (hh b _ hlt).trans h2, g2.later hh⟩, ⟨A3, C3, (hh b _ hlt).trans h3, g3.later hh⟩, ⟨A4, C4, (hh b _ hlt).trans h4, g4.later hh⟩, ihr hr⟩
theorem Lies.later {w w' : World} (hh : ∀ b o, b < w.heap.size → w'.cell? ⟨b, o, none⟩ = w.cell? ⟨b, o, none⟩) {f : Ps} {A : Option Addr} (h : f.Lies w A) : f.Lies w' A :=
  fun hn => let ⟨b, o, ha, hat⟩ := h hn; ⟨b, o, ha, hat.later hh⟩
theorem Lies.below {w w' : World} (hb : Below w.heap.size w w') {f : Ps} {A : Option Addr} (h : f.Lies w A) : f.Lies w' A :=
  h.later fun b o hlt => hb.cell (p := ⟨b, o, none⟩) hlt
theorem Lies.drew {w : World} {f : Ps} {A : Option Addr} (h : f.Lies w A) : f.Lies w.drew A := h.later (w := w) (w' := w.drew) (fun b o _ => (rfl : w.drew.cell? ⟨b, o, none⟩ = w.cell? ⟨b, o, none⟩))
theorem Lies.dbelow {w w' : World} {f : Ps} {A : Option Addr} (h : f.Lies w A) (hb : Below w.drew.heap.size w.drew w') : f.Lies w' A := h.drew.below hb
theorem Lies.alloc {w : World} {f : Ps} {A : Option Addr} (h : f.Lies w A) (x : Obj) : f.Lies (w.alloc x) A := h.later (fun _ _ h => World.cell?_alloc_lt _ _ _ h)
theorem Lies.sees {w W : World} {f : Ps} {A : Option Addr} (h : f.Lies w A) (hs : Sees w W) : f.Lies W A := h.below hs
/-- The row of index i. -/
theorem Lies.row {w : World} {f : Ps} {b o : Nat} (h : f.At w b o) {i : Nat} (hi : i < f.len) :
    ∃ us bk pa te ac r Apa Cpa Ate Cte Aac Cac, Hid (f.drop i = cons us bk pa te ac r) ∧ Hid (f.drop (i + 1) = r) ∧ w.cell? ⟨b, o + i * 5, none⟩ = some (.int .i64 us) ∧ w.cell? ⟨b, o + i * 5 + 1, none⟩ = some (.bool bk) ∧ w.cell? ⟨b, o + i * 5 + 2, none⟩ = some (.slice Apa pa.len Cpa) ∧ pa.Lies w Apa ∧ w.cell? ⟨b, o + i * 5 + 3, none⟩ = some (.slice Ate te.len Cte) ∧ te.Lies w Ate ∧ w.cell? ⟨b, o + i * 5 + 4, none⟩ = some (.slice Aac ac.len Cac) ∧ ac.Lies w Aac := by
  obtain ⟨us, bk, pa, te, ac, r, e1, e2⟩ := f.drop_lt i hi
  have h' := at_drop h i
  rw [e1] at h'
  obtain ⟨h0, h1, ⟨A2, C2, h2, g2⟩, ⟨A3, C3, h3, g3⟩, ⟨A4, C4, h4, g4⟩, _⟩ := h'
  exact ⟨us, bk, pa, te, ac, r, A2, C2, A3, C3, A4, C4, e1, e2, h0, h1, h2, g2, h3, g3, h4, g4⟩
/-- The same, where all lists lie in blocks from lo on, below hi. -/
def AtIn (w : World) (lo hi : Nat) : Ps → Nat → Nat → Prop
  | nil, _, _ => True
  | cons us bk pa te ac r, b, o => w.cell? ⟨b, o, none⟩ = some (.int .i64 us) ∧ w.cell? ⟨b, o + 1, none⟩ = some (.bool bk) ∧ (∃ (A : Option Addr) (C : Nat), w.cell? ⟨b, o + 2, none⟩ = some (.slice A pa.len C) ∧ pa.LiesIn w lo hi A) ∧ (∃ (A : Option Addr) (C : Nat), w.cell? ⟨b, o + 3, none⟩ = some (.slice A te.len C) ∧ te.LiesIn w lo hi A) ∧ (∃ (A : Option Addr) (C : Nat), w.cell? ⟨b, o + 4, none⟩ = some (.slice A ac.len C) ∧ ac.LiesIn w lo hi A) ∧ r.AtIn w lo hi b (o + 5)
def LiesIn (w : World) (f : Ps) (lo hi : Nat) (A : Option Addr) : Prop := f ≠ nil → ∃ b o, A = some ⟨b, o, none⟩ ∧ lo ≤ b ∧ b < hi ∧ f.AtIn w lo hi b o
theorem AtIn.at {w : World} {lo hi : Nat} {f : Ps} : ∀ {b o : Nat}, f.AtIn w lo hi b o → f.At w b o := by
  induction f with
  | nil => intro b o _; trivial
  | cons us bk pa te ac r ihr =>
    intro b o ⟨h0, h1, ⟨A2, C2, h2, g2⟩, ⟨A3, C3, h3, g3⟩, ⟨A4, C4, h4, g4⟩, hr⟩
    exact ⟨h0, h1, ⟨A2, C2, h2, g2.lies⟩, ⟨A3, C3, h3, g3.lies⟩, ⟨A4, C4, h4, g4.lies⟩, ihr hr⟩
theorem LiesIn.lies {w : World} {f : Ps} {lo hi : Nat} {A : Option Addr} (h : f.LiesIn w lo hi A) : f.Lies w A :=
  fun hn => let ⟨b, o, ha, _, _, hat⟩ := h hn; ⟨b, o, ha, hat.at⟩
theorem AtIn.agree {w w' : World} {lo hi : Nat} (ha : Fo.Agree w w' lo hi) {f : Ps} : ∀ {b o : Nat}, lo ≤ b → b < hi → f.AtIn w lo hi b o → f.AtIn w' lo hi b o := by
  induction f with
  | nil => intro b o _ _ _; trivial
  | cons us bk pa te ac r ihr =>
    intro b o hb hb2 ⟨h0, h1, ⟨A2, C2, h2, g2⟩, ⟨A3, C3, h3, g3⟩, ⟨A4, C4, h4, g4⟩, hr⟩
    have hs := fun o => ha.cell hb hb2 o
    exact ⟨(hs _).trans h0, (hs _).trans h1, ⟨A2, C2, (hs _).trans h2, g2.agree ha⟩, ⟨A3, C3, (hs _).trans h3, g3.agree ha⟩, ⟨A4, C4, (hs _).trans h4, g4.agree ha⟩, ihr hb hb2 hr⟩
theorem LiesIn.agree {w w' : World} {f : Ps} {lo hi : Nat} {A : Option Addr} (h : f.LiesIn w lo hi A) (ha : Fo.Agree w w' lo hi) : f.LiesIn w' lo hi A :=
  fun hn => let ⟨b, o, e, p, p', hat⟩ := h hn; ⟨b, o, e, p, p', hat.agree ha p p'⟩
theorem AtIn.mono {w : World} {lo hi lo' hi' : Nat} (h1x : lo' ≤ lo) (h2x : hi ≤ hi') {f : Ps} : ∀ {b o : Nat}, f.AtIn w lo hi b o → f.AtIn w lo' hi' b o := by
  induction f with
  | nil => intro b o _; trivial
  | cons us bk pa te ac r ihr =>
    intro b o ⟨h0, h1, ⟨A2, C2, h2, g2⟩, ⟨A3, C3, h3, g3⟩, ⟨A4, C4, h4, g4⟩, hr⟩
    exact ⟨h0, h1, ⟨A2, C2, h2, g2.mono h1x h2x⟩, ⟨A3, C3, h3, g3.mono h1x h2x⟩, ⟨A4, C4, h4, g4.mono h1x h2x⟩, ihr hr⟩
theorem LiesIn.mono {w : World} {f : Ps} {lo hi lo' hi' : Nat} {A : Option Addr} (h : f.LiesIn w lo hi A) (h1 : lo' ≤ lo) (h2 : hi ≤ hi') : f.LiesIn w lo' hi' A :=
  fun hn => let ⟨b, o, e, p, p', hat⟩ := h hn; ⟨b, o, e, Nat.le_trans h1 p, Nat.lt_of_lt_of_le p' h2, hat.mono h1 h2⟩

/-- Block B is a row of so many of them of type E, of which the first j are those of f, what belongs to them in blocks from B + 1 on. -/
def Rows (E : TypeId) (f : Ps) (B : Nat) (wr : World) (j : Nat) : Prop :=
  (∃ cs : Array Value, wr.heap[B]? = some (.cells cs E (0, 0)) ∧ cs.size = f.len * 5) ∧ B < wr.heap.size ∧
  ∀ (w' : World) (hi : Nat), wr.heap.size ≤ hi → Fo.Agree wr w' (B + 1) wr.heap.size → (∀ o, o < j * 5 → w'.cell? ⟨B, o, none⟩ = wr.cell? ⟨B, o, none⟩) → (f.drop j).AtIn w' (B + 1) hi B (j * 5) → f.AtIn w' (B + 1) hi B 0
theorem rows_start {E : TypeId} {f : Ps} {w : World} {cs : Array Value} (hs : cs.size = f.len * 5) : Rows E f w.heap.size (w.alloc (.cells cs E)) 0 := by
  refine ⟨⟨cs, heap_new _ _ _ rfl, hs⟩, by simp, fun w' hi _ _ _ h => ?_⟩
  simp only [drop, Nat.zero_mul] at h
  exact h
theorem Rows.below {E : TypeId} {f : Ps} {B : Nat} {wr w1 : World} {j : Nat} (h : Rows E f B wr j) (hb : Below wr.heap.size wr w1) : Rows E f B w1 j := by
  obtain ⟨⟨cs, hc, hs⟩, hlt, hd⟩ := h
  have hz := hb.size
  refine ⟨⟨cs, (hb.block B hlt).trans hc, hs⟩, by omega, fun w' hi hh h1 h2 h3 => hd w' hi (by omega) ?_ (fun o ho => ?_) h3⟩
  · exact Fo.Agree.trans ((Fo.Agree.of_below hb).mono (Nat.zero_le _) (Nat.le_refl _)) (h1.mono (Nat.le_refl _) hz)
  · exact (h2 o ho).trans (hb.cell (p := ⟨B, o, none⟩) hlt)
theorem Rows.cells {E : TypeId} {f : Ps} {B : Nat} {wr : World} {j : Nat} (h : Rows E f B wr j) (hj : j < f.len) :
    (∃ v, wr.cell? ⟨B, j * 5, none⟩ = some v) ∧ (∃ v, wr.cell? ⟨B, j * 5 + 1, none⟩ = some v) ∧ (∃ v, wr.cell? ⟨B, j * 5 + 2, none⟩ = some v) ∧ (∃ v, wr.cell? ⟨B, j * 5 + 3, none⟩ = some v) ∧ (∃ v, wr.cell? ⟨B, j * 5 + 4, none⟩ = some v) ∧ (∀ i, wr.frozen? ⟨B, i, none⟩ = false) := by
  obtain ⟨⟨cs, hc, hs⟩, _, _⟩ := h
  refine ⟨⟨cs[j * 5]'(by omega), ?_⟩, ⟨cs[j * 5 + 1]'(by omega), ?_⟩, ⟨cs[j * 5 + 2]'(by omega), ?_⟩, ⟨cs[j * 5 + 3]'(by omega), ?_⟩, ⟨cs[j * 5 + 4]'(by omega), ?_⟩, fun i => Fo.unfrozen_of_block hc i⟩ <;>
  · rw [Fo.cell_of_block hc]
    exact Array.getElem?_eq_getElem _
/-- The cells of a row are stored. -/
def put (w : World) (B o : Nat) (v0 v1 v2 v3 v4 : Value) : World := (((((w.setCell ⟨B, o, none⟩ v0).setCell ⟨B, o + 1, none⟩ v1).setCell ⟨B, o + 2, none⟩ v2).setCell ⟨B, o + 3, none⟩ v3).setCell ⟨B, o + 4, none⟩ v4)
theorem put_block {w : World} {B o : Nat} {cs : Array Value} {T : TypeId} (h : w.heap[B]? = some (.cells cs T (0, 0))) (v0 v1 v2 v3 v4 : Value) :
    (put w B o v0 v1 v2 v3 v4).heap[B]? = some (.cells (((((cs.setIfInBounds (o) v0).setIfInBounds (o + 1) v1).setIfInBounds (o + 2) v2).setIfInBounds (o + 3) v3).setIfInBounds (o + 4) v4) T (0, 0)) := (Fo.block_setCell (Fo.block_setCell (Fo.block_setCell (Fo.block_setCell (Fo.block_setCell h v0) v1) v2) v3) v4)
theorem put_size (w : World) (B o : Nat) (v0 v1 v2 v3 v4 : Value) : (put w B o v0 v1 v2 v3 v4).heap.size = w.heap.size := by simp [put]
theorem put_agree {w : World} {B o : Nat} (v0 v1 v2 v3 v4 : Value) {lo hi : Nat} (h : B < lo) : Fo.Agree w (put w B o v0 v1 v2 v3 v4) lo hi := by
  unfold put
  refine Fo.Agree.setCell (Fo.Agree.setCell (Fo.Agree.setCell (Fo.Agree.setCell (Fo.Agree.setCell (Fo.Agree.refl _ _ _) _ ?_ _) _ ?_ _) _ ?_ _) _ ?_ _) _ ?_ _ <;> exact Or.inl h
theorem rows_step {E : TypeId} {f r : Ps} {us : Int} {bk : Bool} {pa : Il} {te : Fo} {ac : Fo} {B : Nat} {w1 : World} {j : Nat} {Apa Ate Aac : Option Addr} (h : Rows E f B w1 j) (e1 : f.drop j = cons us bk pa te ac r) (e2 : f.drop (j + 1) = r) (hj : j < f.len)
    {x : Nat} (hx : B < x) (hApa : pa.LiesIn w1 x w1.heap.size Apa) (hAte : te.LiesIn w1 x w1.heap.size Ate) (hAac : ac.LiesIn w1 x w1.heap.size Aac) :
    Rows E f B (put w1 B (j * 5) (.int .i64 us) (.bool bk) (.slice Apa pa.len pa.len) (.slice Ate te.len te.len) (.slice Aac ac.len ac.len)) (j + 1) := by
  obtain ⟨⟨cs, hc, hsz⟩, hlt, hd⟩ := h
  obtain ⟨v0, hv0, v1, hv1, v2, hv2, v3, hv3, v4, hv4⟩ : ∃ v0 : Value, v0 = (.int .i64 us) ∧ ∃ v1 : Value, v1 = (.bool bk) ∧ ∃ v2 : Value, v2 = (.slice Apa pa.len pa.len) ∧ ∃ v3 : Value, v3 = (.slice Ate te.len te.len) ∧ ∃ v4 : Value, v4 = (.slice Aac ac.len ac.len) := ⟨_, rfl, _, rfl, _, rfl, _, rfl, _, rfl⟩
  rw [← hv0, ← hv1, ← hv2, ← hv3, ← hv4]
  have b := put_block (o := j * 5) hc v0 v1 v2 v3 v4
  have a1 : Fo.Agree w1 (put w1 B (j * 5) v0 v1 v2 v3 v4) (B + 1) w1.heap.size := put_agree v0 v1 v2 v3 v4 (Nat.lt_succ_self _)
  have z := put_size w1 B (j * 5) v0 v1 v2 v3 v4
  obtain ⟨W, hW⟩ : ∃ W, W = put w1 B (j * 5) v0 v1 v2 v3 v4 := ⟨_, rfl⟩
  rw [← hW] at b a1 z ⊢
  have hcell : ∀ o, W.cell? ⟨B, o, none⟩ = _ := fun o => Fo.cell_of_block b o
  refine ⟨⟨_, b, by simp [hsz]⟩, by omega, fun w' hi hh ha hcl hr => ?_⟩
  rw [z] at ha hh
  have a2 : Fo.Agree w1 w' (B + 1) w1.heap.size := Fo.Agree.trans a1 ha
  refine hd w' hi hh a2 (fun o ho => ?_) ?_
  · rw [hcl o (by omega), hcell, Fo.cell_of_block hc]
    simp only [Array.getElem?_setIfInBounds]
    rw [if_neg (by omega), if_neg (by omega), if_neg (by omega), if_neg (by omega), if_neg (by omega)]
  · rw [e1]
    have a3 : Fo.Agree w1 w' x w1.heap.size := a2.mono (by omega) (Nat.le_refl _)
    have n0 : W.cell? ⟨B, j * 5, none⟩ = some v0 := by rw [hcell]; simp only [Array.getElem?_setIfInBounds, Array.size_setIfInBounds]; rw [if_neg (by omega), if_neg (by omega), if_neg (by omega), if_neg (by omega), if_pos trivial, if_pos (by omega)]
    have n1 : W.cell? ⟨B, j * 5 + 1, none⟩ = some v1 := by rw [hcell]; simp only [Array.getElem?_setIfInBounds, Array.size_setIfInBounds]; rw [if_neg (by omega), if_neg (by omega), if_neg (by omega), if_pos trivial, if_pos (by omega)]
    have n2 : W.cell? ⟨B, j * 5 + 2, none⟩ = some v2 := by rw [hcell]; simp only [Array.getElem?_setIfInBounds, Array.size_setIfInBounds]; rw [if_neg (by omega), if_neg (by omega), if_pos trivial, if_pos (by omega)]
    have n3 : W.cell? ⟨B, j * 5 + 3, none⟩ = some v3 := by rw [hcell]; simp only [Array.getElem?_setIfInBounds, Array.size_setIfInBounds]; rw [if_neg (by omega), if_pos trivial, if_pos (by omega)]
    have n4 : W.cell? ⟨B, j * 5 + 4, none⟩ = some v4 := by rw [hcell]; simp only [Array.getElem?_setIfInBounds, Array.size_setIfInBounds]; rw [if_pos trivial, if_pos (by omega)]
    rw [hv0] at n0; rw [hv1] at n1; rw [hv2] at n2; rw [hv3] at n3; rw [hv4] at n4
    refine ⟨(hcl _ (by omega)).trans n0, (hcl _ (by omega)).trans n1, ⟨Apa, pa.len, (hcl _ (by omega)).trans n2, (hApa.agree a3).mono (by omega) hh⟩, ⟨Ate, te.len, (hcl _ (by omega)).trans n3, (hAte.agree a3).mono (by omega) hh⟩, ⟨Aac, ac.len, (hcl _ (by omega)).trans n4, (hAac.agree a3).mono (by omega) hh⟩, ?_⟩
    rw [e2, show (j + 1) * 5 = j * 5 + 5 from by omega] at hr
    exact hr
theorem rows_end {E : TypeId} {f : Ps} {B : Nat} {wr : World} {lo : Nat} (h : Rows E f B wr f.len) (hlo : lo ≤ B) : f.LiesIn wr lo wr.heap.size (some ⟨B, 0, none⟩) := by
  obtain ⟨_, hlt, hd⟩ := h
  refine fun _ => ⟨B, 0, rfl, hlo, hlt, AtIn.mono (by omega) (Nat.le_refl _) (hd wr wr.heap.size (Nat.le_refl _) (Fo.Agree.refl _ _ _) (fun _ _ => rfl) ?_)⟩
  rw [drop_len]
  trivial
end Ps
end Go.Proofs.YtlpgkhdecccmlaaR
