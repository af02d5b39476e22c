/- Words that lie each in blocks of their own, apart from the boxes of local variables: kept over calls, new blocks and marks. Plain facts, no walk. -/
import Derived.Test.YtcgbepmhfimbjaaMarkW
namespace Go.Proofs.Ytcgbepmhfimbjaa
open Go.RowKit

/-- A word in blocks of its own: its lists, its blocks' bounds, its pointers. -/
structure OwnW where
  p : List Int
  r : List Int
  lo : Nat
  hi : Nat
  A : Option Addr
  B : Option Addr
def OwnW.at_ (o : OwnW) (W : World) : Prop := WordIn W o.p o.r o.lo o.hi o.A o.B

structure OwnAll (w : World) (L : List (Nat × Nat × Value)) (O : List OwnW) (W : World) : Prop where
  sz : w.heap.size ≤ W.heap.size
  bs : ∀ c ∈ L, c.1 < W.heap.size
  each : ∀ o ∈ O, o.at_ W ∧ w.heap.size ≤ o.lo ∧ o.hi ≤ W.heap.size ∧ ∀ c ∈ L, c.1 < o.lo ∨ o.hi ≤ c.1
  apart : O.Pairwise fun x y => y.hi ≤ x.lo

theorem WordIn.agree {w w' : World} {p r : List Int} {lo hi : Nat} {A B : Option Addr} (h : WordIn w p r lo hi A B) (ha : Fo.Agree w w' lo hi) : WordIn w' p r lo hi A B := by
  obtain ⟨m, h1, h2⟩ := h
  exact ⟨m, h1.agree (ha.mono (Nat.le_refl _) h2.le), h2.agree (ha.mono h1.le (Nat.le_refl _))⟩
theorem OwnW.le {o : OwnW} {W : World} (h : o.at_ W) : o.lo ≤ o.hi := by
  obtain ⟨m, h1, h2⟩ := h
  exact Nat.le_trans h1.le h2.le

section
variable {w W W' : World} {L : List (Nat × Nat × Value)} {O : List OwnW} {o : OwnW}

theorem Has.bs : ∀ {L : List (Nat × Nat × Value)}, Has W L → ∀ c ∈ L, c.1 < W.heap.size
  | [], _, c, hc => absurd hc (by simp)
  | (b, j, v) :: r, h, c, hc => by
    rcases List.mem_cons.1 hc with rfl | hc
    · exact World.block_lt_of_cell? _ _ h.1
    · exact Has.bs h.2 c hc
theorem OwnAll.start (h : St w L W) : OwnAll w L [] W := ⟨h.1.size, Has.bs h.2, fun o ho => absurd ho (by simp), .nil⟩
theorem OwnAll.keep (h : OwnAll w L O W) (hs : W.heap.size ≤ W'.heap.size) (hb : ∀ k, k < W.heap.size → W'.heap[k]? = W.heap[k]?) : OwnAll w L O W' :=
  ⟨Nat.le_trans h.sz hs, fun c hc => Nat.lt_of_lt_of_le (h.bs c hc) hs, fun o ho => by
    obtain ⟨h1, h2, h3, h4⟩ := h.each o ho
    exact ⟨WordIn.agree h1 (fun k _ b => hb k (by omega)), h2, Nat.le_trans h3 hs, h4⟩, h.apart⟩
theorem OwnAll.below (h : OwnAll w L O W) (hb : Below W.heap.size W W') : OwnAll w L O W' := h.keep hb.size hb.block
theorem OwnAll.drew (h : OwnAll w L O W) : OwnAll w L O W.drew := h.keep (Nat.le_refl _) fun _ _ => rfl
theorem OwnAll.dbelow (h : OwnAll w L O W) (hb : Below W.drew.heap.size W.drew W') : OwnAll w L O W' := h.drew.below hb
theorem OwnAll.hd (h : OwnAll w L (o :: O) W) : WordIn W o.p o.r o.lo o.hi o.A o.B := (h.each o (by simp)).1
theorem OwnAll.top (h : OwnAll w L (o :: O) W) : o.hi ≤ W.heap.size := (h.each o (by simp)).2.2.1
theorem OwnAll.tl (h : OwnAll w L (o :: O) W) : OwnAll w L O W := ⟨h.sz, h.bs, fun x hx => h.each x (List.mem_cons_of_mem _ hx), (List.pairwise_cons.1 h.apart).2⟩
theorem OwnAll.i1 (h : OwnAll w L (o :: O) W) : Ints W o.p o.A := h.hd.ints1
theorem OwnAll.i2 (h : OwnAll w L (o :: O) W) : Ints W o.r o.B := h.hd.ints2

/-- A call's result comes in. -/
theorem OwnAll.result {p r : List Int} {A B : Option Addr} (h : OwnAll w L O W) (hi : WordIn W' p r W.heap.size W'.heap.size A B) (hb : Below W.heap.size W W') : OwnAll w L (⟨p, r, W.heap.size, W'.heap.size, A, B⟩ :: O) W' := by
  have hk := h.below hb
  refine ⟨hk.sz, hk.bs, fun x hx => ?_, List.pairwise_cons.2 ⟨fun y hy => (h.each y hy).2.2.1, h.apart⟩⟩
  rcases List.mem_cons.1 hx with rfl | hx
  · exact ⟨hi, h.sz, Nat.le_refl _, fun c hc => Or.inl (h.bs c hc)⟩
  · exact hk.each x hx

/-- A box is made. -/
theorem OwnAll.box (h : OwnAll w L O W) (x : Obj) (N : List (Nat × Nat × Value)) (hN : ∀ c ∈ N, c.1 = W.heap.size) : OwnAll w (N ++ L) O (W.alloc x) := by
  have hk : OwnAll w L O (W.alloc x) := h.keep (by simp) fun k hk => Below.heap_alloc _ _ _ hk
  refine ⟨hk.sz, fun c hc => ?_, fun y hy => ?_, h.apart⟩
  · rcases List.mem_append.1 hc with hc | hc
    · have := hN c hc; simp; omega
    · exact hk.bs c hc
  · obtain ⟨h1, h2, h3, h4⟩ := hk.each y hy
    refine ⟨h1, h2, h3, fun c hc => ?_⟩
    rcases List.mem_append.1 hc with hc | hc
    · exact Or.inr (by have := hN c hc; have := (h.each y hy).2.2.1; omega)
    · exact h4 c hc

/-- Marks are put into one of them: the boxes stay. -/
theorem Has.but {lo hi : Nat} (hb : ButIn lo hi W W') : ∀ {L : List (Nat × Nat × Value)}, Has W L → (∀ c ∈ L, c.1 < W.heap.size) → (∀ c ∈ L, c.1 < lo ∨ hi ≤ c.1) → Has W' L
  | [], h, _, _ => h
  | (b, j, v) :: r, h, h1, h2 => ⟨(World.cell?_of_block (a := ⟨b, j, none⟩) (hb.block b (h1 (b, j, v) (by simp)) (h2 (b, j, v) (by simp)))).trans h.1, Has.but hb h.2 (fun c hc => h1 c (by simp [hc])) (fun c hc => h2 c (by simp [hc]))⟩
theorem OwnAll.st {O1 O2 : List OwnW} (h : OwnAll w L (O1 ++ o :: O2) W) (hs : St w L W) (hb : ButIn o.lo o.hi W W') : St w L W' := by
  obtain ⟨_, h2, _, h4⟩ := h.each o (by simp)
  exact ⟨Sees.but hs.1 hb h2, Has.but hb hs.2 h.bs h4⟩
where
  Sees.but {w W W' : World} {lo hi : Nat} (h : Sees w W) (hb : ButIn lo hi W W') (h2 : w.heap.size ≤ lo) : Sees w W' := Below.trans h (hb.below h2 h.size)
/-- .. the others stay; of the marked one nothing is said. -/
theorem OwnAll.drop {O1 O2 : List OwnW} (h : OwnAll w L (O1 ++ o :: O2) W) (hb : ButIn o.lo o.hi W W') : OwnAll w L (O1 ++ O2) W' := by
  have hp := List.pairwise_append.1 h.apart
  have hq := List.pairwise_cons.1 hp.2.1
  refine ⟨Nat.le_trans h.sz hb.size, fun c hc => Nat.lt_of_lt_of_le (h.bs c hc) hb.size, fun x hx => ?_, List.pairwise_append.2 ⟨hp.1, hq.2, fun a ha b hb => hp.2.2 a ha b (List.mem_cons_of_mem _ hb)⟩⟩
  have hx' : x ∈ O1 ++ o :: O2 := by
    rcases List.mem_append.1 hx with h1 | h1
    · exact List.mem_append.2 (Or.inl h1)
    · exact List.mem_append.2 (Or.inr (List.mem_cons_of_mem _ h1))
  obtain ⟨h1, h2, h3, h4⟩ := h.each x hx'
  have hd : o.hi ≤ x.lo ∨ x.hi ≤ o.lo := by
    rcases List.mem_append.1 hx with h5 | h5
    · exact Or.inl (hp.2.2 x h5 o (by simp))
    · exact Or.inr (hq.1 x h5)
  refine ⟨WordIn.agree h1 (fun k a b => hb.block k (by omega) (by omega)), h2, Nat.le_trans h3 hb.size, h4⟩
/-- .. the newest one is marked, and what it is then is known. -/
theorem OwnAll.marked {p r : List Int} (h : OwnAll w L (o :: O) W) (hb : ButIn o.lo o.hi W W') (hm : WordIn W' p r o.lo o.hi o.A o.B) : OwnAll w L (⟨p, r, o.lo, o.hi, o.A, o.B⟩ :: O) W' := by
  have hd : OwnAll w L O W' := OwnAll.drop (O1 := []) h hb
  obtain ⟨_, h2, h3, h4⟩ := h.each o (by simp)
  refine ⟨hd.sz, hd.bs, fun x hx => ?_, List.pairwise_cons.2 ⟨fun y hy => (List.pairwise_cons.1 h.apart).1 y hy, hd.apart⟩⟩
  rcases List.mem_cons.1 hx with rfl | hx
  · exact ⟨hm, h2, Nat.le_trans h3 hb.size, h4⟩
  · exact hd.each x hx
end
end Go.Proofs.Ytcgbepmhfimbjaa
