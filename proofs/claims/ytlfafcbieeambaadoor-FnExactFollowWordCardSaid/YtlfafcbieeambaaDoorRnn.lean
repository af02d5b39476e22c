/- The state of a runner: a box, and two rows of its own. Plain facts, no walk. -/
import Derived.Test.YtlfafcbieeambaaDoorApp
import Derived.Test.YtlfafcbieeambaaDoorSep
namespace Go.Proofs.YtlfafcbieeambaaDoor
open Go.RowKit

def rnC (A : Option Addr) (np C : Nat) (B : Option Addr) (nn D : Nat) (f k s : Int) (v1 v2 : Value) : Array Value := #[.slice A np C, .slice B nn D, .int .i64 f, .int .i64 s, v1, v2, .int .i64 k]
structure Rn (w : World) (b : Nat) (A : Option Addr) (np C : Nat) (B : Option Addr) (nn D : Nat) (f k s : Int) (v1 v2 : Value) (tr ac : List Int) (W : World) : Prop where
  sees : Sees w W
  up : w.heap.size ≤ b
  blk : W.heap[b]? = some (.cells (rnC A np C B nn D f k s v1 v2) 99 (0, 0))
  o1 : W.ownsRow w.heap.size 2 1 v1 tr.length (encs tr)
  o2 : W.ownsRow w.heap.size 2 1 v2 ac.length (encs ac)
  ne : ∀ g, v1.ownBlock = some g → v2.ownBlock ≠ some g
  n1 : v1.ownBlock ≠ some b
  n2 : v2.ownBlock ≠ some b
theorem rn_keep {W W' : World} {base : Nat} {E : TypeId} {v : Value} {n : Nat} {vals : List Value} (h : W.ownsRow base E 1 v n vals) (hk : ∀ k, v.ownBlock = some k → W'.heap[k]? = W.heap[k]?) : W'.ownsRow base E 1 v n vals := by
  refine ⟨h.1, ?_⟩
  rcases h.2 with hn | ⟨g, cap, cur, rfl, hb, hgg, rest⟩
  · exact .inl hn
  · exact .inr ⟨g, cap, cur, rfl, hb, (hk g rfl).trans hgg, rest⟩
section
variable {w W W' : World} {b : Nat} {A : Option Addr} {np C : Nat} {B : Option Addr} {nn D : Nat} {f k s : Int} {v1 v2 : Value} {tr ac : List Int}
theorem Rn.lt (h : Rn w b A np C B nn D f k s v1 v2 tr ac W) : b < W.heap.size := (Array.getElem?_eq_some_iff.1 h.blk).1
theorem Rn.below (h : Rn w b A np C B nn D f k s v1 v2 tr ac W) (hb : Below W.heap.size W W') : Rn w b A np C B nn D f k s v1 v2 tr ac W' :=
  ⟨h.sees.below hb, h.up, (hb.block b h.lt).trans h.blk, rn_keep h.o1 fun g hg => hb.block g (h.o1.lt g hg).2, rn_keep h.o2 fun g hg => hb.block g (h.o2.lt g hg).2, h.ne, h.n1, h.n2⟩
theorem Rn.drew (h : Rn w b A np C B nn D f k s v1 v2 tr ac W) : Rn w b A np C B nn D f k s v1 v2 tr ac W.drew := h.below (Sees.drew (Sees.refl W))
theorem Rn.alloc (h : Rn w b A np C B nn D f k s v1 v2 tr ac W) (o : Obj) : Rn w b A np C B nn D f k s v1 v2 tr ac (W.alloc o) := h.below ((Sees.refl W).alloc o)
theorem set_other {W : World} {b x i : Nat} (h : x ≠ b) (v : Value) : (W.setCell ⟨b, i, none⟩ v).heap[x]? = W.heap[x]? := Below.heap_setCell _ _ _ _ h
theorem Rn.state (h : Rn w b A np C B nn D f k s v1 v2 tr ac W) (s' : Int) : Rn w b A np C B nn D f k s' v1 v2 tr ac (W.setCell ⟨b, 3, none⟩ (.int .i64 s')) := by
  refine ⟨Below.setCell h.sees h.up _, h.up, ?_, rn_keep h.o1 fun g hg => set_other (fun e => h.n1 (by rw [hg, e])) _, rn_keep h.o2 fun g hg => set_other (fun e => h.n2 (by rw [hg, e])) _, h.ne, h.n1, h.n2⟩
  rw [Fo.block_setCell h.blk]
  rfl
theorem seven_rn {W : World} {b : Nat} {T : TypeId} {u0 u1 u2 u3 u4 u5 u6 : Value} (h : W.heap[b]? = some (.cells #[u0, u1, u2, u3, u4, u5, u6] T (0, 0))) :
    W.cell? ⟨b, 0, none⟩ = some u0 ∧ W.cell? ⟨b, 1, none⟩ = some u1 ∧ W.cell? ⟨b, 2, none⟩ = some u2 ∧ W.cell? ⟨b, 3, none⟩ = some u3 ∧ W.cell? ⟨b, 4, none⟩ = some u4 ∧ W.cell? ⟨b, 5, none⟩ = some u5 ∧ W.cell? ⟨b, 6, none⟩ = some u6 ∧ W.frozen? ⟨b, 3, none⟩ = false ∧ W.frozen? ⟨b, 4, none⟩ = false ∧ W.frozen? ⟨b, 5, none⟩ = false :=
  ⟨Fo.cell_of_block h 0, Fo.cell_of_block h 1, Fo.cell_of_block h 2, Fo.cell_of_block h 3, Fo.cell_of_block h 4, Fo.cell_of_block h 5, Fo.cell_of_block h 6, Fo.unfrozen_of_block h 3, Fo.unfrozen_of_block h 4, Fo.unfrozen_of_block h 5⟩
theorem Rn.form1 (h : Rn w b A np C B nn D f k s v1 v2 tr ac W) : ∃ A1 D1, v1 = .slice A1 tr.length D1 := let ⟨A1, D1, h1, _⟩ := own_ints h.o1 h.sees.size; ⟨A1, D1, h1⟩
theorem Rn.form2 (h : Rn w b A np C B nn D f k s v1 v2 tr ac W) : ∃ A2 D2, v2 = .slice A2 ac.length D2 := let ⟨A2, D2, h1, _⟩ := own_ints h.o2 h.sees.size; ⟨A2, D2, h1⟩
/-- Behind an append onto the row of actions: the box is as it was; when the row is stored, the state is whole again. -/
theorem Rn.push2 {y : Int} {v' : Value} (h : Rn w b A np C B nn D f k s v1 v2 tr ac W) (R : W'.ownsRow w.heap.size 2 1 v' (ac.length + 1) (encs (ac ++ [y]))) (g : W.grownBy W' v2.ownBlock) (a : v'.ownBlock = v2.ownBlock ∨ v'.ownBlock = some W.heap.size) :
    W'.heap[b]? = some (.cells (rnC A np C B nn D f k s v1 v2) 99 (0, 0)) ∧ Rn w b A np C B nn D f k s v1 v' tr (ac ++ [y]) (W'.setCell ⟨b, 5, none⟩ v') ∧ Sees w W' := by
  have hB : W'.heap[b]? = some (.cells (rnC A np C B nn D f k s v1 v2) 99 (0, 0)) := (g.block b h.lt (fun e => h.n2 e.symm)).trans h.blk
  have hS : Sees w W' := h.sees.grown g h.sees.size (fun x hx => (h.o2.lt x hx).1)
  have hn1 : v'.ownBlock ≠ some b := by
    rcases a with a | a
    · rw [a]; exact h.n2
    · rw [a]; intro e; have := h.lt; have := Option.some.inj e; omega
  refine ⟨hB, ⟨Below.setCell hS h.up _, h.up, ?_, ?_, ?_, ?_, h.n1, hn1⟩, hS⟩
  · rw [Fo.block_setCell hB]; rfl
  · refine rn_keep h.o1 fun x hx => (set_other (fun e => h.n1 (by rw [hx, e])) _).trans (g.block x (h.o1.lt x hx).2 ?_)
    exact fun e => h.ne x hx e.symm
  · rw [show (ac ++ [y]).length = ac.length + 1 from by simp]
    exact rn_keep R fun x hx => set_other (fun e => hn1 (by rw [hx, e])) _
  · intro x hx
    rcases a with a | a
    · rw [a]; exact h.ne x hx
    · rw [a]; intro e; have := (h.o1.lt x hx).2; have := Option.some.inj e; omega
theorem Rn.push1 {y : Int} {v' : Value} (h : Rn w b A np C B nn D f k s v1 v2 tr ac W) (R : W'.ownsRow w.heap.size 2 1 v' (tr.length + 1) (encs (tr ++ [y]))) (g : W.grownBy W' v1.ownBlock) (a : v'.ownBlock = v1.ownBlock ∨ v'.ownBlock = some W.heap.size) :
    W'.heap[b]? = some (.cells (rnC A np C B nn D f k s v1 v2) 99 (0, 0)) ∧ Rn w b A np C B nn D f k s v' v2 (tr ++ [y]) ac (W'.setCell ⟨b, 4, none⟩ v') ∧ Sees w W' := by
  have hB : W'.heap[b]? = some (.cells (rnC A np C B nn D f k s v1 v2) 99 (0, 0)) := (g.block b h.lt (fun e => h.n1 e.symm)).trans h.blk
  have hS : Sees w W' := h.sees.grown g h.sees.size (fun x hx => (h.o1.lt x hx).1)
  have hn1 : v'.ownBlock ≠ some b := by
    rcases a with a | a
    · rw [a]; exact h.n1
    · rw [a]; intro e; have := h.lt; have := Option.some.inj e; omega
  refine ⟨hB, ⟨Below.setCell hS h.up _, h.up, ?_, ?_, ?_, ?_, hn1, h.n2⟩, hS⟩
  · rw [Fo.block_setCell hB]; rfl
  · rw [show (tr ++ [y]).length = tr.length + 1 from by simp]
    exact rn_keep R fun x hx => set_other (fun e => hn1 (by rw [hx, e])) _
  · refine rn_keep h.o2 fun x hx => (set_other (fun e => h.n2 (by rw [hx, e])) _).trans (g.block x (h.o2.lt x hx).2 ?_)
    exact fun e => h.ne x e.symm hx
  · intro x hx e2
    rcases a with a | a
    · rw [a] at hx; exact h.ne x hx e2
    · rw [a] at hx; have := (h.o2.lt x e2).2; have := Option.some.inj hx; omega
end
end Go.Proofs.YtlfafcbieeambaaDoor
