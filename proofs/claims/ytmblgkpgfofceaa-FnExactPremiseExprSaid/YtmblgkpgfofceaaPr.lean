/- Premises: what a list of them holds; where it lies in memory. Plain facts, no walk. -/
import Derived.Test.YtmblgkpgfofceaaFoIn
import Derived.Test.YtmblgkpgfofceaaFill
import Derived.Test.YtmblgkpgfofceaaLay
namespace Go.Proofs.Ytmblgkpgfofceaa
open Go.RowKit

structure Pm where
  pk : Int
  pn : Int
  pf : Fo
  act : Int
  qk : Int
  qn : Int
  qf : Fo
deriving DecidableEq

/-- How much a premise counts. -/
def Pm.cnt (x : Pm) : Nat := x.pf.nodes + x.qf.nodes
/-- The cells of a premise. -/
def Pm.At (w : World) (x : Pm) (b o : Nat) (A : Option Addr) (C : Nat) (B : Option Addr) (D : Nat) : Prop :=
  w.cell? ⟨b, o, none⟩ = some (.int .i64 x.pk) ∧ w.cell? ⟨b, o + 1, none⟩ = some (.int .i64 x.pn) ∧ w.cell? ⟨b, o + 2, none⟩ = some (.slice A x.pf.len C) ∧ w.cell? ⟨b, o + 3, none⟩ = some (.int .i64 x.act) ∧ w.cell? ⟨b, o + 4, none⟩ = some (.int .i64 x.qk) ∧ w.cell? ⟨b, o + 5, none⟩ = some (.int .i64 x.qn) ∧ w.cell? ⟨b, o + 6, none⟩ = some (.slice B x.qf.len D)
theorem Pm.At.later {w w' : World} {x : Pm} {b o : Nat} {A B : Option Addr} {C D : Nat} (h : x.At w b o A C B D) (hh : ∀ c, w'.cell? ⟨b, c, none⟩ = w.cell? ⟨b, c, none⟩) : x.At w' b o A C B D := by
  obtain ⟨h0, h1, h2, h3, h4, h5, h6⟩ := h
  exact ⟨(hh _).trans h0, (hh _).trans h1, (hh _).trans h2, (hh _).trans h3, (hh _).trans h4, (hh _).trans h5, (hh _).trans h6⟩
theorem Pm.At.lt {w : World} {x : Pm} {b o : Nat} {A B : Option Addr} {C D : Nat} (h : x.At w b o A C B D) : b < w.heap.size := World.block_lt_of_cell? _ _ h.1
theorem Pm.At.below {w w' : World} {x : Pm} {b o : Nat} {A B : Option Addr} {C D : Nat} (h : x.At w b o A C B D) (hb : Below w.heap.size w w') : x.At w' b o A C B D := h.later fun c => hb.cell (p := ⟨b, c, none⟩) h.lt
/-- A list of premises lies where a slice value's pointer leads. -/
def PmL (w : World) (xs : List Pm) (A : Option Addr) : Prop := xs ≠ [] → ∃ b o, A = some ⟨b, o, none⟩ ∧ ∀ i (x : Pm), xs[i]? = some x → ∃ A C B D, x.At w b (o + i * 7) A C B D ∧ x.pf.Lies w A ∧ x.qf.Lies w B
theorem PmL.below {w w' : World} {xs : List Pm} {A : Option Addr} (h : PmL w xs A) (hb : Below w.heap.size w w') : PmL w' xs A := fun hn =>
  let ⟨b, o, hA, hh⟩ := h hn
  ⟨b, o, hA, fun i x hi => let ⟨A, C, B, D, h1, h2, h3⟩ := hh i x hi; ⟨A, C, B, D, h1.below hb, h2.below hb, h3.below hb⟩⟩
theorem PmL.sees {w W : World} {xs : List Pm} {A : Option Addr} (h : PmL w xs A) (hs : Sees w W) : PmL W xs A := h.below hs
theorem PmL.drew {w : World} {xs : List Pm} {A : Option Addr} (h : PmL w xs A) : PmL w.drew xs A := h.below (Sees.drew (Sees.refl w))
theorem PmL.dbelow {w w' : World} {xs : List Pm} {A : Option Addr} (h : PmL w xs A) (hb : Below w.drew.heap.size w.drew w') : PmL w' xs A := h.drew.below hb
theorem PmL.alloc {w : World} {xs : List Pm} {A : Option Addr} (h : PmL w xs A) (o : Obj) : PmL (w.alloc o) xs A := h.below ((Sees.refl w).alloc o)
/-- No list is longer than a length can be. -/
def FitPm (xs : List Pm) : Prop := xs.length ≤ 9223372036854775807 ∧ ∀ x ∈ xs, (x.pf.len ≤ 9223372036854775807 ∧ x.pf.Fits) ∧ (x.qf.len ≤ 9223372036854775807 ∧ x.qf.Fits)
theorem pm_ge {xs : List Pm} {x : Pm} (h : x ∈ xs) : x.pf.nodes + x.qf.nodes ≤ tot Pm.cnt xs := by
  have h2 : ∀ ys : List Pm, x ∈ ys → x.pf.nodes + x.qf.nodes ≤ (ys.map Pm.cnt).sum := by
    intro ys
    induction ys with
    | nil => intro h; exact absurd h (by simp)
    | cons y ys ih =>
      intro h
      rw [List.map_cons, List.sum_cons]
      rcases List.mem_cons.1 h with rfl | h
      · unfold Pm.cnt; omega
      · have := ih h; omega
  have := h2 xs h
  unfold tot
  omega
theorem pm_len (xs : List Pm) : xs.length ≤ tot Pm.cnt xs := by unfold tot; omega

/-- Seven cells of a row are stored. -/
def pmput (w : World) (B o : Nat) (v0 v1 v2 v3 v4 v5 v6 : Value) : World := (((((((w.setCell ⟨B, o, none⟩ v0).setCell ⟨B, o + 1, none⟩ v1).setCell ⟨B, o + 2, none⟩ v2).setCell ⟨B, o + 3, none⟩ v3).setCell ⟨B, o + 4, none⟩ v4).setCell ⟨B, o + 5, none⟩ v5).setCell ⟨B, o + 6, none⟩ v6)
theorem pmput_block {w : World} {B o : Nat} {cs : Array Value} {T : TypeId} (h : w.heap[B]? = some (.cells cs T (0, 0))) (v0 v1 v2 v3 v4 v5 v6 : Value) : (pmput w B o v0 v1 v2 v3 v4 v5 v6).heap[B]? = some (.cells (((((((cs.setIfInBounds (o) v0).setIfInBounds (o + 1) v1).setIfInBounds (o + 2) v2).setIfInBounds (o + 3) v3).setIfInBounds (o + 4) v4).setIfInBounds (o + 5) v5).setIfInBounds (o + 6) v6) T (0, 0)) :=
  Fo.block_setCell (Fo.block_setCell (Fo.block_setCell (Fo.block_setCell (Fo.block_setCell (Fo.block_setCell (Fo.block_setCell h v0) v1) v2) v3) v4) v5) v6
theorem pmput_size (w : World) (B o : Nat) (v0 v1 v2 v3 v4 v5 v6 : Value) : (pmput w B o v0 v1 v2 v3 v4 v5 v6).heap.size = w.heap.size := by simp [pmput]
theorem pmput_agree {w : World} {B o : Nat} (v0 v1 v2 v3 v4 v5 v6 : Value) {lo hi : Nat} (h : B < lo) : Fo.Agree w (pmput w B o v0 v1 v2 v3 v4 v5 v6) lo hi := by
  unfold pmput
  refine Fo.Agree.setCell (Fo.Agree.setCell (Fo.Agree.setCell (Fo.Agree.setCell (Fo.Agree.setCell (Fo.Agree.setCell (Fo.Agree.setCell (Fo.Agree.refl _ _ _) _ ?_ _) _ ?_ _) _ ?_ _) _ ?_ _) _ ?_ _) _ ?_ _) _ ?_ _ <;> exact Or.inl h
/-- Block K is a row of so many premises, of which the first j are those of the list, their conditions in blocks from K + 1 on. -/
def PmRows (E : TypeId) (xs : List Pm) (K : Nat) (wr : World) (j : Nat) : Prop :=
  (∃ cs : Array Value, wr.heap[K]? = some (.cells cs E (0, 0)) ∧ cs.size = xs.length * 7) ∧ K < wr.heap.size ∧
  ∀ i (x : Pm), i < j → xs[i]? = some x → ∃ A B, x.At wr K (i * 7) A x.pf.len B x.qf.len ∧ x.pf.LiesIn wr (K + 1) wr.heap.size A ∧ x.qf.LiesIn wr (K + 1) wr.heap.size B
theorem pmrows_start {E : TypeId} {xs : List Pm} {w : World} {cs : Array Value} (hs : cs.size = xs.length * 7) : PmRows E xs w.heap.size (w.alloc (.cells cs E)) 0 :=
  ⟨⟨cs, heap_new _ _ _ rfl, hs⟩, by simp, fun i x hi => absurd hi (Nat.not_lt_zero _)⟩
theorem PmRows.below {E : TypeId} {xs : List Pm} {K : Nat} {wr w1 : World} {j : Nat} (h : PmRows E xs K wr j) (hb : Below wr.heap.size wr w1) : PmRows E xs K w1 j := by
  obtain ⟨⟨cs, hc, hs⟩, hlt, hd⟩ := h
  have hz := hb.size
  refine ⟨⟨cs, (hb.block K hlt).trans hc, hs⟩, by omega, fun i x hi hx => ?_⟩
  obtain ⟨A, B, h1, h2, h3⟩ := hd i x hi hx
  exact ⟨A, B, h1.below hb, (h2.agree (Fo.Agree.of_below hb)).mono (Nat.le_refl _) hz, (h3.agree (Fo.Agree.of_below hb)).mono (Nat.le_refl _) hz⟩
theorem PmRows.cells {E : TypeId} {xs : List Pm} {K : Nat} {wr : World} {j : Nat} (h : PmRows E xs K wr j) (hj : j < xs.length) :
    (∃ v, wr.cell? ⟨K, j * 7, none⟩ = some v) ∧ (∃ v, wr.cell? ⟨K, j * 7 + 1, none⟩ = some v) ∧ (∃ v, wr.cell? ⟨K, j * 7 + 2, none⟩ = some v) ∧ (∃ v, wr.cell? ⟨K, j * 7 + 3, none⟩ = some v) ∧ (∃ v, wr.cell? ⟨K, j * 7 + 4, none⟩ = some v) ∧ (∃ v, wr.cell? ⟨K, j * 7 + 5, none⟩ = some v) ∧ (∃ v, wr.cell? ⟨K, j * 7 + 6, none⟩ = some v) ∧ (∀ i, wr.frozen? ⟨K, i, none⟩ = false) := by
  obtain ⟨⟨cs, hc, hs⟩, _, _⟩ := h
  refine ⟨⟨cs[j * 7]'(by omega), ?_⟩, ⟨cs[j * 7 + 1]'(by omega), ?_⟩, ⟨cs[j * 7 + 2]'(by omega), ?_⟩, ⟨cs[j * 7 + 3]'(by omega), ?_⟩, ⟨cs[j * 7 + 4]'(by omega), ?_⟩, ⟨cs[j * 7 + 5]'(by omega), ?_⟩, ⟨cs[j * 7 + 6]'(by omega), ?_⟩, fun i => Fo.unfrozen_of_block hc i⟩ <;>
  · rw [Fo.cell_of_block hc]
    exact Array.getElem?_eq_getElem _
theorem pmrows_step {E : TypeId} {xs : List Pm} {x : Pm} {K : Nat} {w1 : World} {j : Nat} {A B : Option Addr} (h : PmRows E xs K w1 j) (hx : xs[j]? = some x) (hj : j < xs.length) {y : Nat} (hy : K < y) (hA : x.pf.LiesIn w1 y w1.heap.size A) (hB : x.qf.LiesIn w1 y w1.heap.size B) :
    PmRows E xs K (pmput w1 K (j * 7) (.int .i64 x.pk) (.int .i64 x.pn) (.slice A x.pf.len x.pf.len) (.int .i64 x.act) (.int .i64 x.qk) (.int .i64 x.qn) (.slice B x.qf.len x.qf.len)) (j + 1) := by
  obtain ⟨⟨cs, hc, hsz⟩, hlt, hd⟩ := h
  obtain ⟨v0, hv0, v1, hv1, v2, hv2, v3, hv3, v4, hv4, v5, hv5, v6, hv6⟩ : ∃ v0 : Value, v0 = (.int .i64 x.pk) ∧ ∃ v1 : Value, v1 = (.int .i64 x.pn) ∧ ∃ v2 : Value, v2 = (.slice A x.pf.len x.pf.len) ∧ ∃ v3 : Value, v3 = (.int .i64 x.act) ∧ ∃ v4 : Value, v4 = (.int .i64 x.qk) ∧ ∃ v5 : Value, v5 = (.int .i64 x.qn) ∧ ∃ v6 : Value, v6 = (.slice B x.qf.len x.qf.len) := ⟨_, rfl, _, rfl, _, rfl, _, rfl, _, rfl, _, rfl, _, rfl⟩
  rw [← hv0, ← hv1, ← hv2, ← hv3, ← hv4, ← hv5, ← hv6]
  have b := pmput_block (o := j * 7) hc v0 v1 v2 v3 v4 v5 v6
  have a1 : Fo.Agree w1 (pmput w1 K (j * 7) v0 v1 v2 v3 v4 v5 v6) (K + 1) w1.heap.size := pmput_agree v0 v1 v2 v3 v4 v5 v6 (Nat.lt_succ_self _)
  have z := pmput_size w1 K (j * 7) v0 v1 v2 v3 v4 v5 v6
  obtain ⟨W, hW⟩ : ∃ W, W = pmput w1 K (j * 7) v0 v1 v2 v3 v4 v5 v6 := ⟨_, rfl⟩
  rw [← hW] at b a1 z ⊢
  have hcell : ∀ o, W.cell? ⟨K, o, none⟩ = _ := fun o => Fo.cell_of_block b o
  have hfar : ∀ o, o < j * 7 → W.cell? ⟨K, o, none⟩ = w1.cell? ⟨K, o, none⟩ := fun o ho => by
    rw [hcell, Fo.cell_of_block hc]
    simp only [Array.getElem?_setIfInBounds]
    rw [if_neg (by omega), if_neg (by omega), if_neg (by omega), if_neg (by omega), if_neg (by omega), if_neg (by omega), if_neg (by omega)]
  refine ⟨⟨_, b, by simp [hsz]⟩, by omega, fun i u hi hu => ?_⟩
  rw [z]
  by_cases hij : i = j
  · subst hij
    rw [hx] at hu
    cases hu
    refine ⟨A, B, ⟨?_, ?_, ?_, ?_, ?_, ?_, ?_⟩, (hA.agree (a1.mono (by omega) (Nat.le_refl _))).mono (by omega) (Nat.le_refl _), (hB.agree (a1.mono (by omega) (Nat.le_refl _))).mono (by omega) (Nat.le_refl _)⟩
    · rw [hcell]; simp only [Array.getElem?_setIfInBounds, Array.size_setIfInBounds]; rw [if_neg (by omega), if_neg (by omega), if_neg (by omega), if_neg (by omega), if_neg (by omega), if_neg (by omega), if_pos trivial, if_pos (by omega), hv0]
    · rw [hcell]; simp only [Array.getElem?_setIfInBounds, Array.size_setIfInBounds]; rw [if_neg (by omega), if_neg (by omega), if_neg (by omega), if_neg (by omega), if_neg (by omega), if_pos trivial, if_pos (by omega), hv1]
    · rw [hcell]; simp only [Array.getElem?_setIfInBounds, Array.size_setIfInBounds]; rw [if_neg (by omega), if_neg (by omega), if_neg (by omega), if_neg (by omega), if_pos trivial, if_pos (by omega), hv2]
    · rw [hcell]; simp only [Array.getElem?_setIfInBounds, Array.size_setIfInBounds]; rw [if_neg (by omega), if_neg (by omega), if_neg (by omega), if_pos trivial, if_pos (by omega), hv3]
    · rw [hcell]; simp only [Array.getElem?_setIfInBounds, Array.size_setIfInBounds]; rw [if_neg (by omega), if_neg (by omega), if_pos trivial, if_pos (by omega), hv4]
    · rw [hcell]; simp only [Array.getElem?_setIfInBounds, Array.size_setIfInBounds]; rw [if_neg (by omega), if_pos trivial, if_pos (by omega), hv5]
    · rw [hcell]; simp only [Array.getElem?_setIfInBounds, Array.size_setIfInBounds]; rw [if_pos trivial, if_pos (by omega), hv6]
  · obtain ⟨A', B', ⟨h0, h1, h2, h3, h4, h5, h6⟩, h7, h8⟩ := hd i u (by omega) hu
    exact ⟨A', B', ⟨(hfar _ (by omega)).trans h0, (hfar _ (by omega)).trans h1, (hfar _ (by omega)).trans h2, (hfar _ (by omega)).trans h3, (hfar _ (by omega)).trans h4, (hfar _ (by omega)).trans h5, (hfar _ (by omega)).trans h6⟩, h7.agree a1, h8.agree a1⟩
/-- The same as PmL, where all lists lie in blocks from lo on, below hi. -/
def PmIn (w : World) (xs : List Pm) (lo hi : Nat) (A : Option Addr) : Prop := xs ≠ [] → ∃ b o, A = some ⟨b, o, none⟩ ∧ lo ≤ b ∧ b < hi ∧ ∀ i (x : Pm), xs[i]? = some x → ∃ A C B D, x.At w b (o + i * 7) A C B D ∧ x.pf.LiesIn w lo hi A ∧ x.qf.LiesIn w lo hi B
theorem PmIn.lies {w : World} {xs : List Pm} {lo hi : Nat} {A : Option Addr} (h : PmIn w xs lo hi A) : PmL w xs A := fun hn =>
  let ⟨b, o, hA, _, _, hh⟩ := h hn
  ⟨b, o, hA, fun i x hi => let ⟨A, C, B, D, h1, h2, h3⟩ := hh i x hi; ⟨A, C, B, D, h1, h2.lies, h3.lies⟩⟩
theorem PmIn.agree {w w' : World} {xs : List Pm} {lo hi : Nat} {A : Option Addr} (h : PmIn w xs lo hi A) (ha : Fo.Agree w w' lo hi) : PmIn w' xs lo hi A := fun hn =>
  let ⟨b, o, hA, h1, h2, hh⟩ := h hn
  ⟨b, o, hA, h1, h2, fun i x hi => let ⟨A, C, B, D, h3, h4, h5⟩ := hh i x hi; ⟨A, C, B, D, h3.later fun c => ha.cell h1 h2 c, h4.agree ha, h5.agree ha⟩⟩
theorem PmIn.mono {w : World} {xs : List Pm} {lo hi lo' hi' : Nat} {A : Option Addr} (h : PmIn w xs lo hi A) (h1 : lo' ≤ lo) (h2 : hi ≤ hi') : PmIn w xs lo' hi' A := fun hn =>
  let ⟨b, o, hA, h3, h4, hh⟩ := h hn
  ⟨b, o, hA, Nat.le_trans h1 h3, Nat.lt_of_lt_of_le h4 h2, fun i x hi => let ⟨A, C, B, D, h5, h6, h7⟩ := hh i x hi; ⟨A, C, B, D, h5, h6.mono h1 h2, h7.mono h1 h2⟩⟩
theorem pmrows_end {E : TypeId} {xs : List Pm} {K : Nat} {wr : World} (h : PmRows E xs K wr xs.length) : PmIn wr xs K wr.heap.size (some ⟨K, 0, none⟩) := fun _ =>
  ⟨K, 0, rfl, Nat.le_refl _, h.2.1, fun i x hx => let ⟨hi, _⟩ := List.getElem?_eq_some_iff.1 hx; let ⟨A, B, h1, h2, h3⟩ := h.2.2 i x hi hx; ⟨A, _, B, _, by rw [Nat.zero_add]; exact h1, h2.mono (Nat.le_succ _) (Nat.le_refl _), h3.mono (Nat.le_succ _) (Nat.le_refl _)⟩⟩

theorem pm_other {W : World} {b b' i : Nat} {o : Obj} (k : W.heap[b']? = some o) (h : b' ≠ b) (v : Value) : (W.setCell ⟨b, i, none⟩ v).heap[b']? = some o := (Below.heap_setCell _ _ _ _ h).trans k
theorem pm_sees_set {w W : World} (h : Sees w W) {b i : Nat} (hb : w.heap.size ≤ b) (v : Value) : Sees w (W.setCell ⟨b, i, none⟩ v) := Below.setCell h hb v
theorem pm_facts {W : World} {b : Nat} {T : TypeId} {u0 u1 u2 u3 u4 u5 u6 : Value} (h : W.heap[b]? = some (.cells #[u0, u1, u2, u3, u4, u5, u6] T (0, 0))) :
    W.cell? ⟨b, 0, none⟩ = some u0 ∧ W.cell? ⟨b, 1, none⟩ = some u1 ∧ W.cell? ⟨b, 2, none⟩ = some u2 ∧ W.cell? ⟨b, 3, none⟩ = some u3 ∧ W.cell? ⟨b, 4, none⟩ = some u4 ∧ W.cell? ⟨b, 5, none⟩ = some u5 ∧ W.cell? ⟨b, 6, none⟩ = some u6 ∧ W.frozen? ⟨b, 0, none⟩ = false ∧ W.frozen? ⟨b, 1, none⟩ = false ∧ W.frozen? ⟨b, 2, none⟩ = false ∧ W.frozen? ⟨b, 3, none⟩ = false ∧ W.frozen? ⟨b, 4, none⟩ = false ∧ W.frozen? ⟨b, 5, none⟩ = false ∧ W.frozen? ⟨b, 6, none⟩ = false :=
  ⟨Fo.cell_of_block h 0, Fo.cell_of_block h 1, Fo.cell_of_block h 2, Fo.cell_of_block h 3, Fo.cell_of_block h 4, Fo.cell_of_block h 5, Fo.cell_of_block h 6, Fo.unfrozen_of_block h 0, Fo.unfrozen_of_block h 1, Fo.unfrozen_of_block h 2, Fo.unfrozen_of_block h 3, Fo.unfrozen_of_block h 4, Fo.unfrozen_of_block h 5, Fo.unfrozen_of_block h 6⟩
end Go.Proofs.Ytmblgkpgfofceaa
