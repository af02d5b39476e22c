/- The state between the statements of a law: boxes, words in blocks of their own, and a box that is being made. Plain facts, no walk. -/
import Derived.Test.YtcpeiajniblipaaOwn
import Derived.Test.YtcpeiajniblipaaCat
import Derived.Test.YtcpeiajniblipaaRevW
namespace Go.Proofs.Ytcpeiajniblipaa
open Go.RowKit

structure Rg (w : World) (L : List (Nat × Nat × Value)) (O : List OwnW) (W : World) : Prop where
  st : St w L W
  own : OwnAll w L O W
/-- .. and a new box of two cells, that nothing points to. -/
structure RgB (w : World) (L : List (Nat × Nat × Value)) (O : List OwnW) (b : Nat) (x y : Value) (T : TypeId) (W : World) : Prop where
  st : St w L W
  own : OwnAll w ((b, 0, x) :: (b, 1, y) :: L) O W
  blk : W.heap[b]? = some (.cells #[x, y] T (0, 0))
  ne : ∀ c ∈ L, c.1 ≠ b
  low : w.heap.size ≤ b

section
variable {w W W' : World} {L : List (Nat × Nat × Value)} {O O1 O2 : List OwnW} {o o1 o2 : OwnW} {b : Nat} {x y : Value} {T : TypeId} {p r : List Int} {A B : Option Addr}

theorem Rg.start (h : St w L W) : Rg w L [] W := ⟨h, OwnAll.start h⟩
theorem Rg.drew (h : Rg w L O W) : Rg w L O W.drew := ⟨h.st.drew, h.own.drew⟩
theorem Rg.below (h : Rg w L O W) (hb : Below W.heap.size W W') : Rg w L O W' := ⟨h.st.below hb, h.own.below hb⟩
theorem Rg.result (h : Rg w L O W) (hi : WordIn W' p r W.heap.size W'.heap.size A B) (hb : Below W.heap.size W W') : Rg w L (⟨p, r, W.heap.size, W'.heap.size, A, B⟩ :: O) W' := ⟨h.st.below hb, h.own.result hi hb⟩
theorem Rg.tl (h : Rg w L (o :: O) W) : Rg w L O W := ⟨h.st, h.own.tl⟩
theorem OwnAll.skip (h : OwnAll w L (o1 :: o2 :: O) W) : OwnAll w L (o1 :: O) W := by
  refine ⟨h.sz, h.bs, fun x hx => h.each x ?_, ?_⟩
  · rcases List.mem_cons.1 hx with rfl | hx
    · exact List.mem_cons_self ..
    · exact List.mem_cons_of_mem _ (List.mem_cons_of_mem _ hx)
  · have h1 := List.pairwise_cons.1 h.apart
    exact List.pairwise_cons.2 ⟨fun y hy => h1.1 y (List.mem_cons_of_mem _ hy), (List.pairwise_cons.1 h1.2).2⟩
theorem Rg.skip (h : Rg w L (o1 :: o2 :: O) W) : Rg w L (o1 :: O) W := ⟨h.st, h.own.skip⟩
theorem Rg.i1 (h : Rg w L (o :: O) W) : Ints W o.p o.A := h.own.i1
theorem Rg.i2 (h : Rg w L (o :: O) W) : Ints W o.r o.B := h.own.i2
theorem Rg.hd (h : Rg w L (o :: O) W) : WordIn W o.p o.r o.lo o.hi o.A o.B := h.own.hd
theorem Rg.top (h : Rg w L (o :: O) W) : o.hi ≤ W.heap.size := h.own.top
theorem Rg.boxed (h : Rg w L O W) (x y : Value) (T : TypeId) : RgB w L O W.heap.size x y T (W.alloc (.cells #[x, y] T (0, 0))) :=
  ⟨h.st.alloc _, h.own.box _ [(W.heap.size, 0, x), (W.heap.size, 1, y)] (by simp), heap_new _ _ _ rfl, fun c hc he => absurd (h.own.bs c hc) (by omega), h.own.sz⟩
theorem Rg.boxedD (h : Rg w L O W) (x y : Value) (T : TypeId) : RgB w L O W.heap.size x y T (W.drew.alloc (.cells #[x, y] T (0, 0))) := h.drew.boxed x y T
theorem Rg.boxedDD (h : Rg w L O W) (x y : Value) (T : TypeId) : RgB w L O W.heap.size x y T (W.drew.drew.alloc (.cells #[x, y] T (0, 0))) := h.drew.drew.boxed x y T
theorem RgB.drew (h : RgB w L O b x y T W) : RgB w L O b x y T W.drew := ⟨h.st.drew, h.own.drew, h.blk, h.ne, h.low⟩
theorem RgB.lt (h : RgB w L O b x y T W) : b < W.heap.size := h.own.bs (b, 0, x) (by simp)
theorem RgB.below (h : RgB w L O b x y T W) (hb : Below W.heap.size W W') : RgB w L O b x y T W' := ⟨h.st.below hb, h.own.below hb, (hb.block b h.lt).trans h.blk, h.ne, h.low⟩
theorem RgB.result (h : RgB w L O b x y T W) (hi : WordIn W' p r W.heap.size W'.heap.size A B) (hb : Below W.heap.size W W') : RgB w L (⟨p, r, W.heap.size, W'.heap.size, A, B⟩ :: O) b x y T W' := ⟨h.st.below hb, h.own.result hi hb, (hb.block b h.lt).trans h.blk, h.ne, h.low⟩
theorem RgB.skip (h : RgB w L (o1 :: o2 :: O) b x y T W) : RgB w L (o1 :: O) b x y T W := ⟨h.st, h.own.skip, h.blk, h.ne, h.low⟩
theorem RgB.tl (h : RgB w L (o :: O) b x y T W) : RgB w L O b x y T W := ⟨h.st, h.own.tl, h.blk, h.ne, h.low⟩
theorem RgB.i1 (h : RgB w L (o :: O) b x y T W) : Ints W o.p o.A := h.own.i1
theorem RgB.i2 (h : RgB w L (o :: O) b x y T W) : Ints W o.r o.B := h.own.i2
theorem RgB.facts (h : RgB w L O b x y T W) : W.cell? ⟨b, 0, none⟩ = some x ∧ W.cell? ⟨b, 1, none⟩ = some y ∧ W.frozen? ⟨b, 0, none⟩ = false ∧ W.frozen? ⟨b, 1, none⟩ = false := box_facts h.blk
theorem RgB.rg (h : RgB w L O b x y T W) : Rg w ((b, 0, x) :: (b, 1, y) :: L) O W := ⟨⟨h.st.1, h.facts.1, h.facts.2.1, h.st.2⟩, h.own⟩

theorem Has.set (j : Nat) (v : Value) : ∀ {L : List (Nat × Nat × Value)}, Has W L → (∀ c ∈ L, c.1 ≠ b) → Has (W.setCell ⟨b, j, none⟩ v) L
  | [], h, _ => h
  | (c, i, u) :: r, h, hn => ⟨(World.cell?_setCell_other (w := W) (v := v) (a := ⟨b, j, none⟩) (b := ⟨c, i, none⟩) (fun he => hn (c, i, u) (by simp) (congrArg Addr.block he).symm)).trans h.1, Has.set j v h.2 fun c hc => hn c (by simp [hc])⟩
theorem St.set (h : St w L W) (hn : ∀ c ∈ L, c.1 ≠ b) (hb : w.heap.size ≤ b) (j : Nat) (v : Value) : St w L (W.setCell ⟨b, j, none⟩ v) :=
  ⟨Below.setCell h.1 hb v, h.2.set j v hn⟩
theorem RgB.set0 (h : RgB w L O b x y T W) (v : Value) : St w L (W.setCell ⟨b, 0, none⟩ v) := h.st.set h.ne h.low 0 v
theorem RgB.set1 (h : RgB w L O b x y T W) (u v : Value) : St w L ((W.setCell ⟨b, 0, none⟩ u).setCell ⟨b, 1, none⟩ v) := (h.set0 u).set h.ne h.low 1 v
theorem RgB.fill (h : RgB w L O b x y T W) (u v : Value) : Rg w ((b, 0, u) :: (b, 1, v) :: L) O ((W.setCell ⟨b, 0, none⟩ u).setCell ⟨b, 1, none⟩ v) := by
  have hk : ((W.setCell ⟨b, 0, none⟩ u).setCell ⟨b, 1, none⟩ v).heap[b]? = some (.cells #[u, v] T (0, 0)) := by
    rw [Fo.block_setCell (Fo.block_setCell h.blk _) _]
    rfl
  have hs : ((W.setCell ⟨b, 0, none⟩ u).setCell ⟨b, 1, none⟩ v).heap.size = W.heap.size := by simp
  obtain ⟨f0, f1, _, _⟩ := box_facts hk
  refine ⟨⟨(h.set1 u v).1, f0, f1, (h.set1 u v).2⟩, by rw [hs]; exact h.own.sz, fun c hc => ?_, fun o ho => ?_, h.own.apart⟩
  · rw [hs]
    simp only [List.mem_cons] at hc
    rcases hc with rfl | rfl | hc
    · exact h.lt
    · exact h.lt
    · exact h.own.bs c (by simp [hc])
  · obtain ⟨h1, h2, h3, h4⟩ := h.own.each o ho
    have hd := h4 (b, 0, x) (by simp)
    refine ⟨WordIn.agree h1 (Fo.Agree.setCell (Fo.Agree.setCell (Fo.Agree.refl _ _ _) _ hd _) _ hd _), h2, by rw [hs]; exact h3, fun c hc => ?_⟩
    simp only [List.mem_cons] at hc
    rcases hc with rfl | rfl | hc
    · exact hd
    · exact hd
    · exact h4 c (by simp [hc])

/-- Marks are put into one of them, which is struck. -/
theorem Rg.mark (h : Rg w L (O1 ++ o :: O2) W) (hb : ButIn o.lo o.hi W W') : Rg w L (O1 ++ O2) W' := ⟨h.own.st h.st hb, h.own.drop hb⟩
/-- .. or the newest one is marked. -/
theorem Rg.marked (h : Rg w L (o :: O) W) (hb : ButIn o.lo o.hi W W') (hm : WordIn W' p r o.lo o.hi o.A o.B) : Rg w L (⟨p, r, o.lo, o.hi, o.A, o.B⟩ :: O) W' :=
  ⟨OwnAll.st (O1 := []) h.own h.st hb, h.own.marked hb hm⟩
end
end Go.Proofs.Ytcpeiajniblipaa
