/- Premises with their conditions apart, in blocks of their own. Plain facts, no walk. -/
import Derived.Test.YtmblgkpgfofceaaPr
import Derived.Test.YtmblgkpgfofceaaFoIn
import Derived.Test.YtmblgkpgfofceaaGenI
namespace Go.Proofs.Ytmblgkpgfofceaa
open Go.RowKit

/-- The rows lie in block b from cell o on; their conditions in ranges in order from l on, below hi. -/
def PmAt (w : World) : List Pm → Nat → Nat → Nat → Nat → Prop
  | [], l, hi, _, _ => l ≤ hi
  | x :: r, l, hi, b, o => ∃ (m1 m2 : Nat) (A : Option Addr) (C : Nat) (B : Option Addr) (D : Nat), x.At w b o A C B D ∧ x.pf.XIn w l m1 A ∧ x.qf.XIn w m1 m2 B ∧ PmAt w r m2 hi b (o + 7)
theorem PmAt.le {w : World} : ∀ {xs : List Pm} {l hi b o : Nat}, PmAt w xs l hi b o → l ≤ hi
  | [], _, _, _, _, h => h
  | x :: r, l, hi, b, o, ⟨m1, m2, A, C, B, D, _, h1, h2, h3⟩ => by
    have := h1.1; have := h2.1; have := PmAt.le h3; omega
theorem Pm.At.same {w w' : World} {x : Pm} {b o : Nat} {A B : Option Addr} {C D : Nat} (h : x.At w b o A C B D) (hh : ∀ c, o ≤ c → c < o + 7 → w'.cell? ⟨b, c, none⟩ = w.cell? ⟨b, c, none⟩) : x.At w' b o A C B D := by
  obtain ⟨h0, h1, h2, h3, h4, h5, h6⟩ := h
  exact ⟨(hh _ (by omega) (by omega)).trans h0, (hh _ (by omega) (by omega)).trans h1, (hh _ (by omega) (by omega)).trans h2, (hh _ (by omega) (by omega)).trans h3, (hh _ (by omega) (by omega)).trans h4, (hh _ (by omega) (by omega)).trans h5, (hh _ (by omega) (by omega)).trans h6⟩
theorem PmAt.agree {w w' : World} : ∀ {xs : List Pm} {l hi b o : Nat}, PmAt w xs l hi b o → (∀ c, o ≤ c → c < o + xs.length * 7 → w'.cell? ⟨b, c, none⟩ = w.cell? ⟨b, c, none⟩) → Fo.Agree w w' l hi → PmAt w' xs l hi b o
  | [], _, _, _, _, h, _, _ => h
  | x :: r, l, hi, b, o, ⟨m1, m2, A, C, B, D, h0, h1, h2, h3⟩, hc, ha => by
    have e1 := h1.1; have e2 := h2.1; have e3 := PmAt.le h3
    refine ⟨m1, m2, A, C, B, D, h0.same fun c g1 g2 => hc c g1 (by simp; omega), h1.agree fun k g1 g2 => ha k (by omega) (by omega), h2.agree fun k g1 g2 => ha k (by omega) (by omega), PmAt.agree h3 (fun c g1 g2 => hc c (by omega) (by simp; omega)) fun k g1 g2 => ha k (by omega) (by omega)⟩
theorem PmAt.snoc {w : World} {x : Pm} {A B : Option Addr} {C D : Nat} : ∀ {xs : List Pm} {l m m1 m2 b o : Nat}, PmAt w xs l m b o → x.At w b (o + xs.length * 7) A C B D → x.pf.XIn w m m1 A → x.qf.XIn w m1 m2 B → PmAt w (xs ++ [x]) l m2 b o
  | [], l, m, m1, m2, b, o, h, h0, h1, h2 => ⟨m1, m2, A, C, B, D, by simpa using h0, h1.mono h (Nat.le_refl _), h2, Nat.le_refl _⟩
  | y :: r, l, m, m1, m2, b, o, ⟨n1, n2, A', C', B', D', g0, g1, g2, g3⟩, h0, h1, h2 =>
    ⟨n1, n2, A', C', B', D', g0, g1, g2, PmAt.snoc g3 (by have e : o + (y :: r).length * 7 = o + 7 + r.length * 7 := by simp; omega
                                                          rw [← e]; exact h0) h1 h2⟩
theorem PmAt.get {w : World} : ∀ {xs : List Pm} {l hi b o : Nat}, PmAt w xs l hi b o → ∀ i (x : Pm), xs[i]? = some x → ∃ A C B D, x.At w b (o + i * 7) A C B D ∧ x.pf.Lies w A ∧ x.qf.Lies w B
  | [], _, _, _, _, _, i, x, hi => by simp at hi
  | y :: r, l, hi, b, o, ⟨n1, n2, A', C', B', D', g0, g1, g2, g3⟩, 0, x, hx => by
    simp at hx; subst hx
    exact ⟨A', C', B', D', by simpa using g0, g1.lies, g2.lies⟩
  | y :: r, l, hi, b, o, ⟨n1, n2, A', C', B', D', g0, g1, g2, g3⟩, i + 1, x, hx => by
    have h := PmAt.get g3 i x (by simpa using hx)
    rw [show o + (i + 1) * 7 = o + 7 + i * 7 by omega]
    exact h
/-- A list of premises in blocks of its own, from lo on, below hi, its rows first. -/
def PmX (w : World) (xs : List Pm) (lo hi : Nat) (A : Option Addr) : Prop := (xs = [] ∧ lo ≤ hi) ∨ ∃ b, A = some ⟨b, 0, none⟩ ∧ lo ≤ b ∧ b + 1 ≤ hi ∧ (∀ i, w.frozen? ⟨b, i, none⟩ = false) ∧ PmAt w xs (b + 1) hi b 0
theorem PmX.lies {w : World} {xs : List Pm} {lo hi : Nat} {A : Option Addr} (h : PmX w xs lo hi A) : PmL w xs A := by
  rcases h with ⟨rfl, _⟩ | ⟨b, rfl, _, _, _, h⟩
  · exact fun h => absurd rfl h
  · exact fun _ => ⟨b, 0, rfl, fun i x hi => h.get i x hi⟩
theorem PmX.agree {w w' : World} {xs : List Pm} {lo hi : Nat} {A : Option Addr} (h : PmX w xs lo hi A) (ha : Fo.Agree w w' lo hi) : PmX w' xs lo hi A := by
  rcases h with ⟨rfl, hle⟩ | ⟨b, rfl, h1, h2, h3, h⟩
  · exact Or.inl ⟨rfl, hle⟩
  · exact Or.inr ⟨b, rfl, h1, h2, fun i => (ha.frozen h1 (by omega) i).trans (h3 i), h.agree (fun c _ _ => ha.cell h1 (by omega) c) (ha.mono (by omega) (Nat.le_refl _))⟩
def pmNodes (xs : List Pm) : Nat := (xs.map Pm.cnt).sum
theorem pmNodes_le (xs : List Pm) : xs.length + pmNodes xs ≤ tot Pm.cnt xs := by unfold tot pmNodes; omega
theorem pmNodes_take (xs : List Pm) {j : Nat} (h : j < xs.length) : pmNodes (xs.take (j + 1)) = pmNodes (xs.take j) + (xs[j].pf.nodes + xs[j].qf.nodes) := by
  unfold pmNodes
  rw [List.take_succ_eq_append_getElem h, List.map_append, List.sum_append]
  simp [Pm.cnt]
theorem pmNodes_bd (xs : List Pm) (j : Nat) : pmNodes (xs.take j) ≤ pmNodes xs := by
  unfold pmNodes
  conv => rhs; rw [← List.take_append_drop j xs, List.map_append, List.sum_append]
  omega
def ownP (xs : List Pm) (lo hi : Nat) (A : Option Addr) : Own1 := ⟨fun W => PmX W xs lo hi A, lo, hi, fun h a => PmX.agree h a⟩
section
variable {w W W' : World} {L : List (Nat × Nat × Value)} {O : List Own1} {xs : List Pm} {A : Option Addr} {lo hi : Nat}
theorem Gs.resP (h : Gs w L O W) (hi : PmX W' xs W.heap.size W'.heap.size A) (hb : Below W.heap.size W W') : Gs w L (ownP xs W.heap.size W'.heap.size A :: O) W' := h.result _ hi rfl rfl hb
theorem Gs.p1 (h : Gs w L (ownP xs lo hi A :: O) W) : PmL W xs A := PmX.lies h.hd
end
/-- Block K is a row of so many premises, of which the first j are those of the list. -/
def PmOwn (E : TypeId) (xs : List Pm) (K : Nat) (wr : World) (j : Nat) : Prop :=
  (∃ cs : Array Value, wr.heap[K]? = some (.cells cs E (0, 0)) ∧ cs.size = xs.length * 7) ∧ K < wr.heap.size ∧ PmAt wr (xs.take j) (K + 1) wr.heap.size K 0
theorem pmown_start {E : TypeId} {xs : List Pm} {w : World} {cs : Array Value} (hs : cs.size = xs.length * 7) : PmOwn E xs w.heap.size (w.alloc (.cells cs E)) 0 :=
  ⟨⟨cs, heap_new _ _ _ rfl, hs⟩, by simp, by show _ ≤ _; simp⟩
theorem PmOwn.cells {E : TypeId} {xs : List Pm} {K : Nat} {wr w1 : World} {j : Nat} (h : PmOwn E xs K wr j) (hb : Below wr.heap.size wr w1) (hj : j < xs.length) :
    (∃ v, w1.cell? ⟨K, j * 7, none⟩ = some v) ∧ (∃ v, w1.cell? ⟨K, j * 7 + 1, none⟩ = some v) ∧ (∃ v, w1.cell? ⟨K, j * 7 + 2, none⟩ = some v) ∧ (∃ v, w1.cell? ⟨K, j * 7 + 3, none⟩ = some v) ∧ (∃ v, w1.cell? ⟨K, j * 7 + 4, none⟩ = some v) ∧ (∃ v, w1.cell? ⟨K, j * 7 + 5, none⟩ = some v) ∧ (∃ v, w1.cell? ⟨K, j * 7 + 6, none⟩ = some v) ∧ (∀ i, w1.frozen? ⟨K, i, none⟩ = false) := by
  obtain ⟨⟨cs, hc, hs⟩, hlt, _⟩ := h
  have hc1 := (hb.block K hlt).trans hc
  refine ⟨⟨cs[j * 7]'(by omega), ?_⟩, ⟨cs[j * 7 + 1]'(by omega), ?_⟩, ⟨cs[j * 7 + 2]'(by omega), ?_⟩, ⟨cs[j * 7 + 3]'(by omega), ?_⟩, ⟨cs[j * 7 + 4]'(by omega), ?_⟩, ⟨cs[j * 7 + 5]'(by omega), ?_⟩, ⟨cs[j * 7 + 6]'(by omega), ?_⟩, fun i => Fo.unfrozen_of_block hc1 i⟩ <;>
  · rw [Fo.cell_of_block hc1]
    exact Array.getElem?_eq_getElem _
theorem pmown_step {E : TypeId} {xs : List Pm} {x : Pm} {K : Nat} {wr w1 : World} {j m : Nat} {A B : Option Addr} (h : PmOwn E xs K wr j) (hb : Below wr.heap.size wr w1) (hx : xs[j]? = some x) (hj : j < xs.length) (hA : x.pf.XIn w1 wr.heap.size m A) (hB : x.qf.XIn w1 m w1.heap.size B) :
    PmOwn E xs K (pmput w1 K (j * 7) (.int .i64 x.pk) (.int .i64 x.pn) (.slice A x.pf.len x.pf.len) (.int .i64 x.act) (.int .i64 x.qk) (.int .i64 x.qn) (.slice B x.qf.len x.qf.len)) (j + 1) := by
  obtain ⟨⟨cs, hc, hsz⟩, hlt, hd⟩ := h
  obtain ⟨v0, hv0, v1, hv1, v2, hv2, v3, hv3, v4, hv4, v5, hv5, v6, hv6⟩ : ∃ v0 : Value, v0 = (.int .i64 x.pk) ∧ ∃ v1 : Value, v1 = (.int .i64 x.pn) ∧ ∃ v2 : Value, v2 = (.slice A x.pf.len x.pf.len) ∧ ∃ v3 : Value, v3 = (.int .i64 x.act) ∧ ∃ v4 : Value, v4 = (.int .i64 x.qk) ∧ ∃ v5 : Value, v5 = (.int .i64 x.qn) ∧ ∃ v6 : Value, v6 = (.slice B x.qf.len x.qf.len) := ⟨_, rfl, _, rfl, _, rfl, _, rfl, _, rfl, _, rfl, _, rfl⟩
  rw [← hv0, ← hv1, ← hv2, ← hv3, ← hv4, ← hv5, ← hv6]
  have hz := hb.size
  have hc1 := (hb.block K hlt).trans hc
  have b := pmput_block (o := j * 7) hc1 v0 v1 v2 v3 v4 v5 v6
  have a1 : Fo.Agree w1 (pmput w1 K (j * 7) v0 v1 v2 v3 v4 v5 v6) (K + 1) w1.heap.size := pmput_agree v0 v1 v2 v3 v4 v5 v6 (Nat.lt_succ_self _)
  have z := pmput_size w1 K (j * 7) v0 v1 v2 v3 v4 v5 v6
  obtain ⟨W, hW⟩ : ∃ W, W = pmput w1 K (j * 7) v0 v1 v2 v3 v4 v5 v6 := ⟨_, rfl⟩
  rw [← hW] at b a1 z ⊢
  have hcell : ∀ o, W.cell? ⟨K, o, none⟩ = _ := fun o => Fo.cell_of_block b o
  have hfar : ∀ o, o < j * 7 → W.cell? ⟨K, o, none⟩ = wr.cell? ⟨K, o, none⟩ := fun o ho => by
    rw [hcell, Fo.cell_of_block hc]
    simp only [Array.getElem?_setIfInBounds]
    rw [if_neg (by omega), if_neg (by omega), if_neg (by omega), if_neg (by omega), if_neg (by omega), if_neg (by omega), if_neg (by omega)]
  have hln : (xs.take j).length = j := by rw [List.length_take]; omega
  refine ⟨⟨_, b, by simp [hsz]⟩, by omega, ?_⟩
  have hget : xs[j] = x := by
    have := List.getElem?_eq_getElem hj
    rw [hx] at this
    exact (Option.some.inj this).symm
  rw [List.take_succ_eq_append_getElem hj, hget, z]
  have ag : Fo.Agree wr W (K + 1) wr.heap.size := fun k g1 g2 => (a1 k g1 (by omega)).trans (hb.block k g2)
  refine PmAt.snoc (C := x.pf.len) (D := x.qf.len) (m := wr.heap.size) (m1 := m) (hd.agree (fun c _ g2 => hfar c (by rw [hln] at g2; omega)) ag) ?_ (hA.agree fun k g1 g2 => a1 k (by omega) (by have := hB.1; omega)) (hB.agree fun k g1 g2 => a1 k (by have := hA.1; omega) g2)
  rw [hln, Nat.zero_add]
  refine ⟨?_, ?_, ?_, ?_, ?_, ?_, ?_⟩
  · rw [hcell]; simp only [Array.getElem?_setIfInBounds, Array.size_setIfInBounds]; rw [if_neg (by omega), if_neg (by omega), if_neg (by omega), if_neg (by omega), if_neg (by omega), if_neg (by omega), if_pos trivial, if_pos (by omega), hv0]
  · rw [hcell]; simp only [Array.getElem?_setIfInBounds, Array.size_setIfInBounds]; rw [if_neg (by omega), if_neg (by omega), if_neg (by omega), if_neg (by omega), if_neg (by omega), if_pos trivial, if_pos (by omega), hv1]
  · rw [hcell]; simp only [Array.getElem?_setIfInBounds, Array.size_setIfInBounds]; rw [if_neg (by omega), if_neg (by omega), if_neg (by omega), if_neg (by omega), if_pos trivial, if_pos (by omega), hv2]
  · rw [hcell]; simp only [Array.getElem?_setIfInBounds, Array.size_setIfInBounds]; rw [if_neg (by omega), if_neg (by omega), if_neg (by omega), if_pos trivial, if_pos (by omega), hv3]
  · rw [hcell]; simp only [Array.getElem?_setIfInBounds, Array.size_setIfInBounds]; rw [if_neg (by omega), if_neg (by omega), if_pos trivial, if_pos (by omega), hv4]
  · rw [hcell]; simp only [Array.getElem?_setIfInBounds, Array.size_setIfInBounds]; rw [if_neg (by omega), if_pos trivial, if_pos (by omega), hv5]
  · rw [hcell]; simp only [Array.getElem?_setIfInBounds, Array.size_setIfInBounds]; rw [if_pos trivial, if_pos (by omega), hv6]
theorem pmown_end {E : TypeId} {xs : List Pm} {K : Nat} {wr : World} (h : PmOwn E xs K wr xs.length) : PmX wr xs K wr.heap.size (some ⟨K, 0, none⟩) := by
  obtain ⟨⟨cs, hc, _⟩, hlt, hd⟩ := h
  rw [List.take_length] at hd
  exact Or.inr ⟨K, rfl, Nat.le_refl _, hlt, fun i => Fo.unfrozen_of_block hc i, hd⟩
end Go.Proofs.Ytmblgkpgfofceaa
