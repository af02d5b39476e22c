/- Spots: what a list of them holds; where it lies in memory. Plain facts, no walk. -/
import Derived.Test.YtcgbepmhfimbjaaGreatDoorFoIn
import Derived.Test.YtcgbepmhfimbjaaGreatDoorFill
import Derived.Test.YtcgbepmhfimbjaaGreatDoorLay
namespace Go.Proofs.YtcgbepmhfimbjaaGreatDoor
open Go.RowKit

structure Sp where
  k : Int
  n : Int
  ck : Int
  cn : Int
  cf : Fo
  tg : Int
  el : Int
deriving DecidableEq

/-- How much a spot counts. -/
def Sp.cnt (x : Sp) : Nat := x.cf.nodes
/-- The cells of a spot. -/
def Sp.At (w : World) (x : Sp) (b o : Nat) (A : Option Addr) (C : Nat) : Prop :=
  w.cell? ⟨b, o, none⟩ = some (.int .i64 x.k) ∧ w.cell? ⟨b, o + 1, none⟩ = some (.int .i64 x.n) ∧ w.cell? ⟨b, o + 2, none⟩ = some (.int .i64 x.ck) ∧ w.cell? ⟨b, o + 3, none⟩ = some (.int .i64 x.cn) ∧ w.cell? ⟨b, o + 4, none⟩ = some (.slice A x.cf.len C) ∧ w.cell? ⟨b, o + 5, none⟩ = some (.int .i64 x.tg) ∧ w.cell? ⟨b, o + 6, none⟩ = some (.int .i64 x.el)
theorem Sp.At.later {w w' : World} {x : Sp} {b o : Nat} {A : Option Addr} {C : Nat} (h : x.At w b o A C) (hh : ∀ c, w'.cell? ⟨b, c, none⟩ = w.cell? ⟨b, c, none⟩) : x.At w' b o A C := by
  obtain ⟨h0, h1, h2, h3, h4, h5, h6⟩ := h
  exact ⟨(hh _).trans h0, (hh _).trans h1, (hh _).trans h2, (hh _).trans h3, (hh _).trans h4, (hh _).trans h5, (hh _).trans h6⟩
theorem Sp.At.lt {w : World} {x : Sp} {b o : Nat} {A : Option Addr} {C : Nat} (h : x.At w b o A C) : b < w.heap.size := World.block_lt_of_cell? _ _ h.1
theorem Sp.At.below {w w' : World} {x : Sp} {b o : Nat} {A : Option Addr} {C : Nat} (h : x.At w b o A C) (hb : Below w.heap.size w w') : x.At w' b o A C := h.later fun c => hb.cell (p := ⟨b, c, none⟩) h.lt
/-- A list of spots lies where a slice value's pointer leads. -/
def SpL (w : World) (xs : List Sp) (A : Option Addr) : Prop := xs ≠ [] → ∃ b o, A = some ⟨b, o, none⟩ ∧ ∀ i (x : Sp), xs[i]? = some x → ∃ A C, x.At w b (o + i * 7) A C ∧ x.cf.Lies w A
theorem SpL.below {w w' : World} {xs : List Sp} {A : Option Addr} (h : SpL w xs A) (hb : Below w.heap.size w w') : SpL w' xs A := fun hn =>
  let ⟨b, o, hA, hh⟩ := h hn
  ⟨b, o, hA, fun i x hi => let ⟨A, C, h1, h2⟩ := hh i x hi; ⟨A, C, h1.below hb, h2.below hb⟩⟩
theorem SpL.sees {w W : World} {xs : List Sp} {A : Option Addr} (h : SpL w xs A) (hs : Sees w W) : SpL W xs A := h.below hs
theorem SpL.drew {w : World} {xs : List Sp} {A : Option Addr} (h : SpL w xs A) : SpL w.drew xs A := h.below (Sees.drew (Sees.refl w))
theorem SpL.dbelow {w w' : World} {xs : List Sp} {A : Option Addr} (h : SpL w xs A) (hb : Below w.drew.heap.size w.drew w') : SpL w' xs A := h.drew.below hb
theorem SpL.alloc {w : World} {xs : List Sp} {A : Option Addr} (h : SpL w xs A) (o : Obj) : SpL (w.alloc o) xs A := h.below ((Sees.refl w).alloc o)
/-- No list is longer than a length can be. -/
def FitSp (xs : List Sp) : Prop := xs.length ≤ 9223372036854775807 ∧ ∀ x ∈ xs, x.cf.len ≤ 9223372036854775807 ∧ x.cf.Fits
theorem sp_ge {xs : List Sp} {x : Sp} (h : x ∈ xs) : x.cf.nodes ≤ tot Sp.cnt xs := by
  have h2 : ∀ ys : List Sp, x ∈ ys → x.cf.nodes ≤ (ys.map Sp.cnt).sum := by
    intro ys
    induction ys with
    | nil => intro h; exact absurd h (by simp)
    | cons y ys ih =>
      intro h
      rw [List.map_cons, List.sum_cons]
      rcases List.mem_cons.1 h with rfl | h
      · unfold Sp.cnt; omega
      · have := ih h; omega
  have := h2 xs h
  unfold tot
  omega
theorem sp_len (xs : List Sp) : xs.length ≤ tot Sp.cnt xs := by unfold tot; omega

/-- Seven cells of a row are stored. -/
def put7 (w : World) (B o : Nat) (v0 v1 v2 v3 v4 v5 v6 : Value) : World := (((((((w.setCell ⟨B, o, none⟩ v0).setCell ⟨B, o + 1, none⟩ v1).setCell ⟨B, o + 2, none⟩ v2).setCell ⟨B, o + 3, none⟩ v3).setCell ⟨B, o + 4, none⟩ v4).setCell ⟨B, o + 5, none⟩ v5).setCell ⟨B, o + 6, none⟩ v6)
theorem put7_block {w : World} {B o : Nat} {cs : Array Value} {T : TypeId} (h : w.heap[B]? = some (.cells cs T (0, 0))) (v0 v1 v2 v3 v4 v5 v6 : Value) : (put7 w B o v0 v1 v2 v3 v4 v5 v6).heap[B]? = some (.cells (((((((cs.setIfInBounds (o) v0).setIfInBounds (o + 1) v1).setIfInBounds (o + 2) v2).setIfInBounds (o + 3) v3).setIfInBounds (o + 4) v4).setIfInBounds (o + 5) v5).setIfInBounds (o + 6) v6) T (0, 0)) :=
  Fo.block_setCell (Fo.block_setCell (Fo.block_setCell (Fo.block_setCell (Fo.block_setCell (Fo.block_setCell (Fo.block_setCell h v0) v1) v2) v3) v4) v5) v6
theorem put7_size (w : World) (B o : Nat) (v0 v1 v2 v3 v4 v5 v6 : Value) : (put7 w B o v0 v1 v2 v3 v4 v5 v6).heap.size = w.heap.size := by simp [put7]
theorem put7_agree {w : World} {B o : Nat} (v0 v1 v2 v3 v4 v5 v6 : Value) {lo hi : Nat} (h : B < lo) : Fo.Agree w (put7 w B o v0 v1 v2 v3 v4 v5 v6) lo hi := by
  unfold put7
  refine Fo.Agree.setCell (Fo.Agree.setCell (Fo.Agree.setCell (Fo.Agree.setCell (Fo.Agree.setCell (Fo.Agree.setCell (Fo.Agree.setCell (Fo.Agree.refl _ _ _) _ ?_ _) _ ?_ _) _ ?_ _) _ ?_ _) _ ?_ _) _ ?_ _) _ ?_ _ <;> exact Or.inl h
/-- Block B is a row of so many spots, of which the first j are those of the list, their conditions in blocks from B + 1 on. -/
def SpRows (E : TypeId) (xs : List Sp) (B : Nat) (wr : World) (j : Nat) : Prop :=
  (∃ cs : Array Value, wr.heap[B]? = some (.cells cs E (0, 0)) ∧ cs.size = xs.length * 7) ∧ B < wr.heap.size ∧
  ∀ i (x : Sp), i < j → xs[i]? = some x → ∃ A, x.At wr B (i * 7) A x.cf.len ∧ x.cf.LiesIn wr (B + 1) wr.heap.size A
theorem sprows_start {E : TypeId} {xs : List Sp} {w : World} {cs : Array Value} (hs : cs.size = xs.length * 7) : SpRows E xs w.heap.size (w.alloc (.cells cs E)) 0 :=
  ⟨⟨cs, heap_new _ _ _ rfl, hs⟩, by simp, fun i x hi => absurd hi (Nat.not_lt_zero _)⟩
theorem SpRows.below {E : TypeId} {xs : List Sp} {B : Nat} {wr w1 : World} {j : Nat} (h : SpRows E xs B wr j) (hb : Below wr.heap.size wr w1) : SpRows E xs B w1 j := by
  obtain ⟨⟨cs, hc, hs⟩, hlt, hd⟩ := h
  have hz := hb.size
  refine ⟨⟨cs, (hb.block B hlt).trans hc, hs⟩, by omega, fun i x hi hx => ?_⟩
  obtain ⟨A, h1, h2⟩ := hd i x hi hx
  exact ⟨A, h1.below hb, (h2.agree (Fo.Agree.of_below hb)).mono (Nat.le_refl _) hz⟩
theorem SpRows.cells {E : TypeId} {xs : List Sp} {B : Nat} {wr : World} {j : Nat} (h : SpRows E xs B wr j) (hj : j < xs.length) :
    (∃ v, wr.cell? ⟨B, j * 7, none⟩ = some v) ∧ (∃ v, wr.cell? ⟨B, j * 7 + 1, none⟩ = some v) ∧ (∃ v, wr.cell? ⟨B, j * 7 + 2, none⟩ = some v) ∧ (∃ v, wr.cell? ⟨B, j * 7 + 3, none⟩ = some v) ∧ (∃ v, wr.cell? ⟨B, j * 7 + 4, none⟩ = some v) ∧ (∃ v, wr.cell? ⟨B, j * 7 + 5, none⟩ = some v) ∧ (∃ v, wr.cell? ⟨B, j * 7 + 6, none⟩ = some v) ∧ (∀ i, wr.frozen? ⟨B, i, none⟩ = false) := by
  obtain ⟨⟨cs, hc, hs⟩, _, _⟩ := h
  refine ⟨⟨cs[j * 7]'(by omega), ?_⟩, ⟨cs[j * 7 + 1]'(by omega), ?_⟩, ⟨cs[j * 7 + 2]'(by omega), ?_⟩, ⟨cs[j * 7 + 3]'(by omega), ?_⟩, ⟨cs[j * 7 + 4]'(by omega), ?_⟩, ⟨cs[j * 7 + 5]'(by omega), ?_⟩, ⟨cs[j * 7 + 6]'(by omega), ?_⟩, fun i => Fo.unfrozen_of_block hc i⟩ <;>
  · rw [Fo.cell_of_block hc]
    exact Array.getElem?_eq_getElem _
theorem sprows_step {E : TypeId} {xs : List Sp} {x : Sp} {B : Nat} {w1 : World} {j : Nat} {A : Option Addr} (h : SpRows E xs B w1 j) (hx : xs[j]? = some x) (hj : j < xs.length) {y : Nat} (hy : B < y) (hA : x.cf.LiesIn w1 y w1.heap.size A) :
    SpRows E xs B (put7 w1 B (j * 7) (.int .i64 x.k) (.int .i64 x.n) (.int .i64 x.ck) (.int .i64 x.cn) (.slice A x.cf.len x.cf.len) (.int .i64 x.tg) (.int .i64 x.el)) (j + 1) := by
  obtain ⟨⟨cs, hc, hsz⟩, hlt, hd⟩ := h
  obtain ⟨v0, hv0, v1, hv1, v2, hv2, v3, hv3, v4, hv4, v5, hv5, v6, hv6⟩ : ∃ v0 : Value, v0 = (.int .i64 x.k) ∧ ∃ v1 : Value, v1 = (.int .i64 x.n) ∧ ∃ v2 : Value, v2 = (.int .i64 x.ck) ∧ ∃ v3 : Value, v3 = (.int .i64 x.cn) ∧ ∃ v4 : Value, v4 = (.slice A x.cf.len x.cf.len) ∧ ∃ v5 : Value, v5 = (.int .i64 x.tg) ∧ ∃ v6 : Value, v6 = (.int .i64 x.el) := ⟨_, rfl, _, rfl, _, rfl, _, rfl, _, rfl, _, rfl, _, rfl⟩
  rw [← hv0, ← hv1, ← hv2, ← hv3, ← hv4, ← hv5, ← hv6]
  have b := put7_block (o := j * 7) hc v0 v1 v2 v3 v4 v5 v6
  have a1 : Fo.Agree w1 (put7 w1 B (j * 7) v0 v1 v2 v3 v4 v5 v6) (B + 1) w1.heap.size := put7_agree v0 v1 v2 v3 v4 v5 v6 (Nat.lt_succ_self _)
  have z := put7_size w1 B (j * 7) v0 v1 v2 v3 v4 v5 v6
  obtain ⟨W, hW⟩ : ∃ W, W = put7 w1 B (j * 7) v0 v1 v2 v3 v4 v5 v6 := ⟨_, rfl⟩
  rw [← hW] at b a1 z ⊢
  have hcell : ∀ o, W.cell? ⟨B, o, none⟩ = _ := fun o => Fo.cell_of_block b o
  have hfar : ∀ o, o < j * 7 → W.cell? ⟨B, o, none⟩ = w1.cell? ⟨B, o, none⟩ := fun o ho => by
    rw [hcell, Fo.cell_of_block hc]
    simp only [Array.getElem?_setIfInBounds]
    rw [if_neg (by omega), if_neg (by omega), if_neg (by omega), if_neg (by omega), if_neg (by omega), if_neg (by omega), if_neg (by omega)]
  refine ⟨⟨_, b, by simp [hsz]⟩, by omega, fun i u hi hu => ?_⟩
  rw [z]
  by_cases hij : i = j
  · subst hij
    rw [hx] at hu
    cases hu
    refine ⟨A, ⟨?_, ?_, ?_, ?_, ?_, ?_, ?_⟩, (hA.agree (a1.mono (by omega) (Nat.le_refl _))).mono (by omega) (Nat.le_refl _)⟩
    · rw [hcell]; simp only [Array.getElem?_setIfInBounds, Array.size_setIfInBounds]; rw [if_neg (by omega), if_neg (by omega), if_neg (by omega), if_neg (by omega), if_neg (by omega), if_neg (by omega), if_pos trivial, if_pos (by omega), hv0]
    · rw [hcell]; simp only [Array.getElem?_setIfInBounds, Array.size_setIfInBounds]; rw [if_neg (by omega), if_neg (by omega), if_neg (by omega), if_neg (by omega), if_neg (by omega), if_pos trivial, if_pos (by omega), hv1]
    · rw [hcell]; simp only [Array.getElem?_setIfInBounds, Array.size_setIfInBounds]; rw [if_neg (by omega), if_neg (by omega), if_neg (by omega), if_neg (by omega), if_pos trivial, if_pos (by omega), hv2]
    · rw [hcell]; simp only [Array.getElem?_setIfInBounds, Array.size_setIfInBounds]; rw [if_neg (by omega), if_neg (by omega), if_neg (by omega), if_pos trivial, if_pos (by omega), hv3]
    · rw [hcell]; simp only [Array.getElem?_setIfInBounds, Array.size_setIfInBounds]; rw [if_neg (by omega), if_neg (by omega), if_pos trivial, if_pos (by omega), hv4]
    · rw [hcell]; simp only [Array.getElem?_setIfInBounds, Array.size_setIfInBounds]; rw [if_neg (by omega), if_pos trivial, if_pos (by omega), hv5]
    · rw [hcell]; simp only [Array.getElem?_setIfInBounds, Array.size_setIfInBounds]; rw [if_pos trivial, if_pos (by omega), hv6]
  · obtain ⟨A', ⟨h0, h1, h2, h3, h4, h5, h6⟩, h7⟩ := hd i u (by omega) hu
    exact ⟨A', ⟨(hfar _ (by omega)).trans h0, (hfar _ (by omega)).trans h1, (hfar _ (by omega)).trans h2, (hfar _ (by omega)).trans h3, (hfar _ (by omega)).trans h4, (hfar _ (by omega)).trans h5, (hfar _ (by omega)).trans h6⟩, h7.agree a1⟩
/-- The same as SpL, where all lists lie in blocks from lo on, below hi. -/
def SpIn (w : World) (xs : List Sp) (lo hi : Nat) (A : Option Addr) : Prop := xs ≠ [] → ∃ b o, A = some ⟨b, o, none⟩ ∧ lo ≤ b ∧ b < hi ∧ ∀ i (x : Sp), xs[i]? = some x → ∃ A C, x.At w b (o + i * 7) A C ∧ x.cf.LiesIn w lo hi A
theorem SpIn.lies {w : World} {xs : List Sp} {lo hi : Nat} {A : Option Addr} (h : SpIn w xs lo hi A) : SpL w xs A := fun hn =>
  let ⟨b, o, hA, _, _, hh⟩ := h hn
  ⟨b, o, hA, fun i x hi => let ⟨A, C, h1, h2⟩ := hh i x hi; ⟨A, C, h1, h2.lies⟩⟩
theorem SpIn.agree {w w' : World} {xs : List Sp} {lo hi : Nat} {A : Option Addr} (h : SpIn w xs lo hi A) (ha : Fo.Agree w w' lo hi) : SpIn w' xs lo hi A := fun hn =>
  let ⟨b, o, hA, h1, h2, hh⟩ := h hn
  ⟨b, o, hA, h1, h2, fun i x hi => let ⟨A, C, h3, h4⟩ := hh i x hi; ⟨A, C, h3.later fun c => ha.cell h1 h2 c, h4.agree ha⟩⟩
theorem SpIn.mono {w : World} {xs : List Sp} {lo hi lo' hi' : Nat} {A : Option Addr} (h : SpIn w xs lo hi A) (h1 : lo' ≤ lo) (h2 : hi ≤ hi') : SpIn w xs lo' hi' A := fun hn =>
  let ⟨b, o, hA, h3, h4, hh⟩ := h hn
  ⟨b, o, hA, Nat.le_trans h1 h3, Nat.lt_of_lt_of_le h4 h2, fun i x hi => let ⟨A, C, h5, h6⟩ := hh i x hi; ⟨A, C, h5, h6.mono h1 h2⟩⟩
theorem sprows_end {E : TypeId} {xs : List Sp} {B : Nat} {wr : World} (h : SpRows E xs B wr xs.length) : SpIn wr xs B wr.heap.size (some ⟨B, 0, none⟩) := fun _ =>
  ⟨B, 0, rfl, Nat.le_refl _, h.2.1, fun i x hx => let ⟨hi, _⟩ := List.getElem?_eq_some_iff.1 hx; let ⟨A, h1, h2⟩ := h.2.2 i x hi hx; ⟨A, _, by rw [Nat.zero_add]; exact h1, h2.mono (Nat.le_succ _) (Nat.le_refl _)⟩⟩
end Go.Proofs.YtcgbepmhfimbjaaGreatDoor
