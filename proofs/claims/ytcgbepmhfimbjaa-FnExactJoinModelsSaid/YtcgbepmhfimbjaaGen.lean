/- The state between a law's statements, for results of any type: boxes, what lies in blocks of its own, and a box that is being made. Plain facts, no walk. -/
import Derived.Test.YtcgbepmhfimbjaaFoIn
import Derived.Test.YtcgbepmhfimbjaaOwn
namespace Go.Proofs.Ytcgbepmhfimbjaa
open Go.RowKit

/-- Something that lies in blocks of its own, from lo on, below hi. -/
structure Own1 where
  P : World → Prop
  lo : Nat
  hi : Nat
  keep : ∀ {W W' : World}, P W → Fo.Agree W W' lo hi → P W'
def ownS (f : Fo) (lo hi : Nat) (A : Option Addr) : Own1 := ⟨fun W => f.XIn W lo hi A, lo, hi, fun h a => h.agree a⟩
def ownL (f : Fo) (lo hi : Nat) (A : Option Addr) : Own1 := ⟨fun W => f.LiesIn W lo hi A, lo, hi, fun h a => h.agree a⟩
def ownV (p r : List Int) (lo hi : Nat) (A B : Option Addr) : Own1 := ⟨fun W => WordIn W p r lo hi A B, lo, hi, fun h a => WordIn.agree h a⟩

structure Gs (w : World) (L : List (Nat × Nat × Value)) (O : List Own1) (W : World) : Prop where
  st : St w L W
  sz : w.heap.size ≤ W.heap.size
  bs : ∀ c ∈ L, c.1 < W.heap.size
  each : ∀ o ∈ O, o.P W ∧ w.heap.size ≤ o.lo ∧ o.hi ≤ W.heap.size ∧ ∀ c ∈ L, c.1 < o.lo ∨ o.hi ≤ c.1
  apart : O.Pairwise fun x y => y.hi ≤ x.lo
/-- .. and a new box, that nothing points to. -/
structure GB (w : World) (L : List (Nat × Nat × Value)) (O : List Own1) (b : Nat) (cs : Array Value) (T : TypeId) (W : World) : Prop where
  gs : Gs w L O W
  sep : ∀ o ∈ O, b < o.lo ∨ o.hi ≤ b
  blk : W.heap[b]? = some (.cells cs T (0, 0))
  ne : ∀ c ∈ L, c.1 ≠ b
  low : w.heap.size ≤ b

section
variable {w W W' : World} {L : List (Nat × Nat × Value)} {O O1 O2 : List Own1} {o o1 o2 : Own1} {b : Nat} {cs : Array Value} {T : TypeId}

theorem Gs.start (h : St w L W) : Gs w L [] W := ⟨h, h.1.size, Has.bs h.2, fun o ho => absurd ho (by simp), .nil⟩
theorem Gs.keep (h : Gs w L O W) (hst : St w L W') (hs : W.heap.size ≤ W'.heap.size) (hb : ∀ k, k < W.heap.size → W'.heap[k]? = W.heap[k]?) : Gs w L O W' :=
  ⟨hst, Nat.le_trans h.sz hs, fun c hc => Nat.lt_of_lt_of_le (h.bs c hc) hs, fun o ho => by
    obtain ⟨h1, h2, h3, h4⟩ := h.each o ho
    exact ⟨o.keep h1 (fun k _ b => hb k (by omega)), h2, Nat.le_trans h3 hs, h4⟩, h.apart⟩
theorem Gs.drew (h : Gs w L O W) : Gs w L O W.drew := h.keep h.st.drew (Nat.le_refl _) fun _ _ => rfl
theorem Gs.below (h : Gs w L O W) (hb : Below W.heap.size W W') : Gs w L O W' := h.keep (h.st.below hb) hb.size hb.block
theorem Gs.hd (h : Gs w L (o :: O) W) : o.P W := (h.each o (by simp)).1
theorem Gs.top (h : Gs w L (o :: O) W) : o.hi ≤ W.heap.size := (h.each o (by simp)).2.2.1
theorem Gs.tl (h : Gs w L (o :: O) W) : Gs w L O W := ⟨h.st, h.sz, h.bs, fun x hx => h.each x (List.mem_cons_of_mem _ hx), (List.pairwise_cons.1 h.apart).2⟩
theorem Gs.skip (h : Gs w L (o1 :: o2 :: O) W) : Gs w L (o1 :: O) W := by
  refine ⟨h.st, h.sz, h.bs, fun x hx => h.each x ?_, ?_⟩
  · rcases List.mem_cons.1 hx with rfl | hx
    · exact List.mem_cons_self ..
    · exact List.mem_cons_of_mem _ (List.mem_cons_of_mem _ hx)
  · have h1 := List.pairwise_cons.1 h.apart
    exact List.pairwise_cons.2 ⟨fun y hy => h1.1 y (List.mem_cons_of_mem _ hy), (List.pairwise_cons.1 h1.2).2⟩
/-- A call's result comes in. -/
theorem Gs.result (o : Own1) (h : Gs w L O W) (hp : o.P W') (hlo : o.lo = W.heap.size) (hhi : o.hi = W'.heap.size) (hb : Below W.heap.size W W') : Gs w L (o :: O) W' := by
  have hk := h.below hb
  refine ⟨hk.st, hk.sz, hk.bs, fun x hx => ?_, List.pairwise_cons.2 ⟨fun y hy => by rw [hlo]; exact (h.each y hy).2.2.1, h.apart⟩⟩
  rcases List.mem_cons.1 hx with rfl | hx
  · exact ⟨hp, by rw [hlo]; exact h.sz, by rw [hhi]; exact Nat.le_refl _, fun c hc => Or.inl (by rw [hlo]; exact h.bs c hc)⟩
  · exact hk.each x hx
theorem Gs.resS {f : Fo} {A : Option Addr} (h : Gs w L O W) (hi : f.XIn W' W.heap.size W'.heap.size A) (hb : Below W.heap.size W W') : Gs w L (ownS f W.heap.size W'.heap.size A :: O) W' := h.result _ hi rfl rfl hb
theorem Gs.resL {f : Fo} {A : Option Addr} (h : Gs w L O W) (hi : f.LiesIn W' W.heap.size W'.heap.size A) (hb : Below W.heap.size W W') : Gs w L (ownL f W.heap.size W'.heap.size A :: O) W' := h.result _ hi rfl rfl hb
theorem Gs.lieS {f : Fo} {lo hi : Nat} {A : Option Addr} (h : Gs w L (ownS f lo hi A :: O) W) : f.Lies W A := Fo.XIn.lies h.hd
theorem Gs.lieL {f : Fo} {lo hi : Nat} {A : Option Addr} (h : Gs w L (ownL f lo hi A :: O) W) : f.Lies W A := Fo.LiesIn.lies h.hd

theorem Gs.boxed (h : Gs w L O W) (cs : Array Value) (T : TypeId) : GB w L O W.heap.size cs T (W.alloc (.cells cs T (0, 0))) := by
  refine ⟨h.keep (h.st.alloc _) (by simp) (fun k hk => Below.heap_alloc _ _ _ hk), fun o ho => Or.inr (h.each o ho).2.2.1, heap_new _ _ _ rfl, fun c hc he => absurd (h.bs c hc) (by omega), h.sz⟩
theorem Gs.boxedD (h : Gs w L O W) (cs : Array Value) (T : TypeId) : GB w L O W.heap.size cs T (W.drew.alloc (.cells cs T (0, 0))) := h.drew.boxed cs T
theorem GB.lt (h : GB w L O b cs T W) : b < W.heap.size := (Array.getElem?_eq_some_iff.1 h.blk).1
theorem GB.drew (h : GB w L O b cs T W) : GB w L O b cs T W.drew := ⟨h.gs.drew, h.sep, h.blk, h.ne, h.low⟩
theorem GB.below (h : GB w L O b cs T W) (hb : Below W.heap.size W W') : GB w L O b cs T W' := ⟨h.gs.below hb, h.sep, (hb.block b h.lt).trans h.blk, h.ne, h.low⟩
theorem GB.result (o : Own1) (h : GB w L O b cs T W) (hp : o.P W') (hlo : o.lo = W.heap.size) (hhi : o.hi = W'.heap.size) (hb : Below W.heap.size W W') : GB w L (o :: O) b cs T W' := by
  refine ⟨h.gs.result o hp hlo hhi hb, fun x hx => ?_, (hb.block b h.lt).trans h.blk, h.ne, h.low⟩
  rcases List.mem_cons.1 hx with rfl | hx
  · exact Or.inl (by rw [hlo]; exact h.lt)
  · exact h.sep x hx
theorem GB.resS {f : Fo} {A : Option Addr} (h : GB w L O b cs T W) (hi : f.XIn W' W.heap.size W'.heap.size A) (hb : Below W.heap.size W W') : GB w L (ownS f W.heap.size W'.heap.size A :: O) b cs T W' := h.result _ hi rfl rfl hb
theorem GB.resL {f : Fo} {A : Option Addr} (h : GB w L O b cs T W) (hi : f.LiesIn W' W.heap.size W'.heap.size A) (hb : Below W.heap.size W W') : GB w L (ownL f W.heap.size W'.heap.size A :: O) b cs T W' := h.result _ hi rfl rfl hb
theorem GB.skip (h : GB w L (o1 :: o2 :: O) b cs T W) : GB w L (o1 :: O) b cs T W := by
  refine ⟨h.gs.skip, fun x hx => h.sep x ?_, h.blk, h.ne, h.low⟩
  rcases List.mem_cons.1 hx with rfl | hx
  · exact List.mem_cons_self ..
  · exact List.mem_cons_of_mem _ (List.mem_cons_of_mem _ hx)
theorem GB.tl (h : GB w L (o :: O) b cs T W) : GB w L O b cs T W := ⟨h.gs.tl, fun x hx => h.sep x (List.mem_cons_of_mem _ hx), h.blk, h.ne, h.low⟩
theorem GB.lieS {f : Fo} {lo hi : Nat} {A : Option Addr} (h : GB w L (ownS f lo hi A :: O) b cs T W) : f.Lies W A := h.gs.lieS
theorem GB.cell (h : GB w L O b cs T W) (j : Nat) : W.cell? ⟨b, j, none⟩ = cs[j]? := Fo.cell_of_block h.blk j
theorem GB.free (h : GB w L O b cs T W) (j : Nat) : W.frozen? ⟨b, j, none⟩ = false := Fo.unfrozen_of_block h.blk j
theorem GB.st (h : GB w L O b cs T W) : St w L W := h.gs.st

/-- The cells of a box, listed. -/
def bx (b : Nat) : Nat → List Value → List (Nat × Nat × Value) → List (Nat × Nat × Value)
  | _, [], L => L
  | j, v :: vs, L => (b, j, v) :: bx b (j + 1) vs L
theorem bx_mem {b : Nat} {c : Nat × Nat × Value} : ∀ {vs : List Value} {j : Nat} {L : List (Nat × Nat × Value)}, c ∈ bx b j vs L → c.1 = b ∨ c ∈ L
  | [], _, _, h => Or.inr h
  | v :: vs, j, L, h => by
    rcases List.mem_cons.1 h with rfl | h
    · exact Or.inl rfl
    · exact bx_mem h
theorem bx_has {b : Nat} : ∀ {vs : List Value} {j : Nat} {L : List (Nat × Nat × Value)}, (∀ i u, vs[i]? = some u → W.cell? ⟨b, j + i, none⟩ = some u) → Has W L → Has W (bx b j vs L)
  | [], _, _, _, h => h
  | v :: vs, j, L, hc, h => ⟨hc 0 v rfl, bx_has (fun i u hi => by have := hc (i + 1) u hi; rw [show j + (i + 1) = j + 1 + i from by omega] at this; exact this) h⟩
theorem GB.rg (h : GB w L O b cs T W) : Gs w (bx b 0 cs.toList L) O W := by
  refine ⟨⟨h.gs.st.1, bx_has (fun i u hi => ?_) h.gs.st.2⟩, h.gs.sz, fun c hc => ?_, fun o ho => ?_, h.gs.apart⟩
  · rw [Nat.zero_add, h.cell, ← Array.getElem?_toList]; exact hi
  · rcases bx_mem hc with hc | hc
    · rw [hc]; exact h.lt
    · exact h.gs.bs c hc
  · obtain ⟨h1, h2, h3, h4⟩ := h.gs.each o ho
    refine ⟨h1, h2, h3, fun c hc => ?_⟩
    rcases bx_mem hc with hc | hc
    · rw [hc]; exact h.sep o ho
    · exact h4 c hc

theorem Has.set (j : Nat) (v : Value) : ∀ {L : List (Nat × Nat × Value)}, Has W L → (∀ c ∈ L, c.1 ≠ b) → Has (W.setCell ⟨b, j, none⟩ v) L
  | [], h, _ => h
  | (c, i, u) :: r, h, hn => ⟨(World.cell?_setCell_other (w := W) (v := v) (a := ⟨b, j, none⟩) (b := ⟨c, i, none⟩) (fun he => hn (c, i, u) (by simp) (congrArg Addr.block he).symm)).trans h.1, Has.set j v h.2 fun c hc => hn c (by simp [hc])⟩
theorem GB.set (h : GB w L O b cs T W) (j : Nat) (v : Value) : GB w L O b (cs.setIfInBounds j v) T (W.setCell ⟨b, j, none⟩ v) := by
  have hs : (W.setCell ⟨b, j, none⟩ v).heap.size = W.heap.size := by simp
  refine ⟨⟨⟨Below.setCell h.gs.st.1 h.low v, h.gs.st.2.set j v h.ne⟩, by rw [hs]; exact h.gs.sz, fun c hc => by rw [hs]; exact h.gs.bs c hc, fun o ho => ?_, h.gs.apart⟩, h.sep, Fo.block_setCell h.blk v, h.ne, h.low⟩
  obtain ⟨h1, h2, h3, h4⟩ := h.gs.each o ho
  exact ⟨o.keep h1 (Fo.Agree.setCell (Fo.Agree.refl _ _ _) _ (h.sep o ho) _), h2, by rw [hs]; exact h3, h4⟩
theorem GB.fill2 (h : GB w L O b cs T W) (u v : Value) : GB w L O b ((cs.setIfInBounds 0 u).setIfInBounds 1 v) T ((W.setCell ⟨b, 0, none⟩ u).setCell ⟨b, 1, none⟩ v) := (h.set 0 u).set 1 v
theorem GB.fill3 (h : GB w L O b cs T W) (u v x : Value) : GB w L O b (((cs.setIfInBounds 0 u).setIfInBounds 1 v).setIfInBounds 2 x) T (((W.setCell ⟨b, 0, none⟩ u).setCell ⟨b, 1, none⟩ v).setCell ⟨b, 2, none⟩ x) := (h.fill2 u v).set 2 x

/-- Marks are put into one of them: the boxes and the others stay. -/
theorem Gs.mark (h : Gs w L (O1 ++ o :: O2) W) (hb : ButIn o.lo o.hi W W') : Gs w L (O1 ++ O2) W' := by
  have hp := List.pairwise_append.1 h.apart
  have hq := List.pairwise_cons.1 hp.2.1
  obtain ⟨_, g2, _, g4⟩ := h.each o (by simp)
  refine ⟨⟨Below.trans h.st.1 (hb.below g2 h.st.1.size), Has.but hb h.st.2 h.bs g4⟩, Nat.le_trans h.sz hb.size, fun c hc => Nat.lt_of_lt_of_le (h.bs c hc) hb.size, fun x hx => ?_, List.pairwise_append.2 ⟨hp.1, hq.2, fun a ha b hb => hp.2.2 a ha b (List.mem_cons_of_mem _ hb)⟩⟩
  have hx' : x ∈ O1 ++ o :: O2 := by
    rcases List.mem_append.1 hx with h1 | h1
    · exact List.mem_append.2 (Or.inl h1)
    · exact List.mem_append.2 (Or.inr (List.mem_cons_of_mem _ h1))
  obtain ⟨h1, h2, h3, h4⟩ := h.each x hx'
  have hd : o.hi ≤ x.lo ∨ x.hi ≤ o.lo := by
    rcases List.mem_append.1 hx with h5 | h5
    · exact Or.inl (hp.2.2 x h5 o (by simp))
    · exact Or.inr (hq.1 x h5)
  exact ⟨x.keep h1 (fun k a b => hb.block k (by omega) (by omega)), h2, Nat.le_trans h3 hb.size, h4⟩
/-- .. the newest one is marked, and what it is then is known. -/
theorem Gs.marked (o' : Own1) (h : Gs w L (o :: O) W) (hb : ButIn o.lo o.hi W W') (hp : o'.P W') (e1 : o'.lo = o.lo) (e2 : o'.hi = o.hi) : Gs w L (o' :: O) W' := by
  have hd : Gs w L O W' := Gs.mark (O1 := []) h hb
  obtain ⟨_, h2, h3, h4⟩ := h.each o (by simp)
  refine ⟨hd.st, hd.sz, hd.bs, fun x hx => ?_, List.pairwise_cons.2 ⟨fun y hy => by rw [e1]; exact (List.pairwise_cons.1 h.apart).1 y hy, hd.apart⟩⟩
  rcases List.mem_cons.1 hx with rfl | hx
  · exact ⟨hp, by rw [e1]; exact h2, by rw [e2]; exact Nat.le_trans h3 hb.size, fun c hc => by rw [e1, e2]; exact h4 c hc⟩
  · exact hd.each x hx
theorem Gs.markedS {f g : Fo} {lo hi : Nat} {A : Option Addr} (h : Gs w L (ownS f lo hi A :: O) W) (hb : ButIn lo hi W W') (hp : g.XIn W' lo hi A) : Gs w L (ownS g lo hi A :: O) W' := h.marked _ hb hp rfl rfl
end
end Go.Proofs.Ytcgbepmhfimbjaa
