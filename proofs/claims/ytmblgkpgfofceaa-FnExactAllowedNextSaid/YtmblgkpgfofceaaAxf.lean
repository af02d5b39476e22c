/- Sizes one behind the other; the cells of a box. Plain facts, no walk. Ft: a list of Go's fact: what it holds; where it lies in memory; how a row is filled. Plain facts, no walk. impl.every at fact. Contract of the inner function literal of impl.possibleBehind. -/
import Derived.Test.YtmblgkpgfofceaaSz
import Derived.Test.YtmblgkpgfofceaaFill
import Derived.Test.YtmblgkpgfofceaaFoIn
import Derived.Test.YtmblgkpgfofceaaAxa
import Derived.Shelf.Abstract
import Derived.Laws.EntriesVeiled
import Derived.Deep.RegionHeld3
namespace Go.Proofs.Ytmblgkpgfofceaa
open Go.RowKit
set_option linter.unusedVariables false

theorem szR_bd {n : Nat} {l : Int} (h2 : l ≤ 1048576) : -1 ≤ szR n l ∧ szR n l ≤ 1048576 := by unfold szR; split <;> omega
theorem szR_add (a b : Nat) (l : Int) : szR (a + b) l = if szR a l < 0 then -1 else szR b (szR a l) := by
  unfold szR
  split <;> split <;> (try split) <;> omega
theorem szR_lt {n : Nat} {l : Int} (h : szR n l < 0) : szR n l = -1 := by unfold szR at h ⊢; split <;> simp_all <;> omega
theorem blk_set {w : World} {g i : Nat} {l : List Value} {t : TypeId} {fr : Nat × Nat} (h : w.heap[g]? = some (.cells (List.toArray l) t fr)) (v : Value) : (w.setCell ⟨g, i, none⟩ v).heap[g]? = some (.cells (List.toArray (l.set i v)) t fr) := by
  rw [← List.setIfInBounds_toArray]
  exact Fo.block_setCell h v
theorem gt_other {W : World} {b b' i : Nat} {o : Obj} (k : W.heap[b']? = some o) (h : b' ≠ b) (v : Value) : (W.setCell ⟨b, i, none⟩ v).heap[b']? = some o := (Below.heap_setCell _ _ _ _ h).trans k
theorem gt_sees {w W : World} (h : Sees w W) {b i : Nat} (hb : w.heap.size ≤ b) (v : Value) : Sees w (W.setCell ⟨b, i, none⟩ v) := Below.setCell h hb v
theorem fc3 {W : World} {b : Nat} {T : TypeId} {u0 u1 u2 : Value} (h : W.heap[b]? = some (.cells #[u0, u1, u2] T (0, 0))) :
    W.cell? ⟨b, 0, none⟩ = some u0 ∧ W.cell? ⟨b, 1, none⟩ = some u1 ∧ W.cell? ⟨b, 2, none⟩ = some u2 ∧ W.frozen? ⟨b, 0, none⟩ = false ∧ W.frozen? ⟨b, 1, none⟩ = false ∧ W.frozen? ⟨b, 2, none⟩ = false :=
  ⟨Fo.cell_of_block h 0, Fo.cell_of_block h 1, Fo.cell_of_block h 2, Fo.unfrozen_of_block h 0, Fo.unfrozen_of_block h 1, Fo.unfrozen_of_block h 2⟩
theorem fc5 {W : World} {b : Nat} {T : TypeId} {u0 u1 u2 u3 u4 : Value} (h : W.heap[b]? = some (.cells #[u0, u1, u2, u3, u4] T (0, 0))) :
    W.cell? ⟨b, 0, none⟩ = some u0 ∧ W.cell? ⟨b, 1, none⟩ = some u1 ∧ W.cell? ⟨b, 2, none⟩ = some u2 ∧ W.cell? ⟨b, 3, none⟩ = some u3 ∧ W.cell? ⟨b, 4, none⟩ = some u4 ∧ W.frozen? ⟨b, 0, none⟩ = false ∧ W.frozen? ⟨b, 1, none⟩ = false ∧ W.frozen? ⟨b, 2, none⟩ = false ∧ W.frozen? ⟨b, 3, none⟩ = false ∧ W.frozen? ⟨b, 4, none⟩ = false :=
  ⟨Fo.cell_of_block h 0, Fo.cell_of_block h 1, Fo.cell_of_block h 2, Fo.cell_of_block h 3, Fo.cell_of_block h 4, Fo.unfrozen_of_block h 0, Fo.unfrozen_of_block h 1, Fo.unfrozen_of_block h 2, Fo.unfrozen_of_block h 3, Fo.unfrozen_of_block h 4⟩
theorem fc6 {W : World} {b : Nat} {T : TypeId} {u0 u1 u2 u3 u4 u5 : Value} (h : W.heap[b]? = some (.cells #[u0, u1, u2, u3, u4, u5] T (0, 0))) :
    W.cell? ⟨b, 0, none⟩ = some u0 ∧ W.cell? ⟨b, 1, none⟩ = some u1 ∧ W.cell? ⟨b, 2, none⟩ = some u2 ∧ W.cell? ⟨b, 3, none⟩ = some u3 ∧ W.cell? ⟨b, 4, none⟩ = some u4 ∧ W.cell? ⟨b, 5, none⟩ = some u5 ∧ W.frozen? ⟨b, 0, none⟩ = false ∧ W.frozen? ⟨b, 1, none⟩ = false ∧ W.frozen? ⟨b, 2, none⟩ = false ∧ W.frozen? ⟨b, 3, none⟩ = false ∧ W.frozen? ⟨b, 4, none⟩ = false ∧ W.frozen? ⟨b, 5, none⟩ = false :=
  ⟨Fo.cell_of_block h 0, Fo.cell_of_block h 1, Fo.cell_of_block h 2, Fo.cell_of_block h 3, Fo.cell_of_block h 4, Fo.cell_of_block h 5, Fo.unfrozen_of_block h 0, Fo.unfrozen_of_block h 1, Fo.unfrozen_of_block h 2, Fo.unfrozen_of_block h 3, Fo.unfrozen_of_block h 4, Fo.unfrozen_of_block h 5⟩
theorem fc8 {W : World} {b : Nat} {T : TypeId} {u0 u1 u2 u3 u4 u5 u6 u7 : Value} (h : W.heap[b]? = some (.cells #[u0, u1, u2, u3, u4, u5, u6, u7] T (0, 0))) :
    W.cell? ⟨b, 0, none⟩ = some u0 ∧ W.cell? ⟨b, 1, none⟩ = some u1 ∧ W.cell? ⟨b, 2, none⟩ = some u2 ∧ W.cell? ⟨b, 3, none⟩ = some u3 ∧ W.cell? ⟨b, 4, none⟩ = some u4 ∧ W.cell? ⟨b, 5, none⟩ = some u5 ∧ W.cell? ⟨b, 6, none⟩ = some u6 ∧ W.cell? ⟨b, 7, none⟩ = some u7 ∧ W.frozen? ⟨b, 0, none⟩ = false ∧ W.frozen? ⟨b, 1, none⟩ = false ∧ W.frozen? ⟨b, 2, none⟩ = false ∧ W.frozen? ⟨b, 3, none⟩ = false ∧ W.frozen? ⟨b, 4, none⟩ = false ∧ W.frozen? ⟨b, 5, none⟩ = false ∧ W.frozen? ⟨b, 6, none⟩ = false ∧ W.frozen? ⟨b, 7, none⟩ = false :=
  ⟨Fo.cell_of_block h 0, Fo.cell_of_block h 1, Fo.cell_of_block h 2, Fo.cell_of_block h 3, Fo.cell_of_block h 4, Fo.cell_of_block h 5, Fo.cell_of_block h 6, Fo.cell_of_block h 7, Fo.unfrozen_of_block h 0, Fo.unfrozen_of_block h 1, Fo.unfrozen_of_block h 2, Fo.unfrozen_of_block h 3, Fo.unfrozen_of_block h 4, Fo.unfrozen_of_block h 5, Fo.unfrozen_of_block h 6, Fo.unfrozen_of_block h 7⟩
theorem fc9 {W : World} {b : Nat} {T : TypeId} {u0 u1 u2 u3 u4 u5 u6 u7 u8 : Value} (h : W.heap[b]? = some (.cells #[u0, u1, u2, u3, u4, u5, u6, u7, u8] T (0, 0))) :
    W.cell? ⟨b, 0, none⟩ = some u0 ∧ W.cell? ⟨b, 1, none⟩ = some u1 ∧ W.cell? ⟨b, 2, none⟩ = some u2 ∧ W.cell? ⟨b, 3, none⟩ = some u3 ∧ W.cell? ⟨b, 4, none⟩ = some u4 ∧ W.cell? ⟨b, 5, none⟩ = some u5 ∧ W.cell? ⟨b, 6, none⟩ = some u6 ∧ W.cell? ⟨b, 7, none⟩ = some u7 ∧ W.cell? ⟨b, 8, none⟩ = some u8 ∧ W.frozen? ⟨b, 0, none⟩ = false ∧ W.frozen? ⟨b, 1, none⟩ = false ∧ W.frozen? ⟨b, 2, none⟩ = false ∧ W.frozen? ⟨b, 3, none⟩ = false ∧ W.frozen? ⟨b, 4, none⟩ = false ∧ W.frozen? ⟨b, 5, none⟩ = false ∧ W.frozen? ⟨b, 6, none⟩ = false ∧ W.frozen? ⟨b, 7, none⟩ = false ∧ W.frozen? ⟨b, 8, none⟩ = false :=
  ⟨Fo.cell_of_block h 0, Fo.cell_of_block h 1, Fo.cell_of_block h 2, Fo.cell_of_block h 3, Fo.cell_of_block h 4, Fo.cell_of_block h 5, Fo.cell_of_block h 6, Fo.cell_of_block h 7, Fo.cell_of_block h 8, Fo.unfrozen_of_block h 0, Fo.unfrozen_of_block h 1, Fo.unfrozen_of_block h 2, Fo.unfrozen_of_block h 3, Fo.unfrozen_of_block h 4, Fo.unfrozen_of_block h 5, Fo.unfrozen_of_block h 6, Fo.unfrozen_of_block h 7, Fo.unfrozen_of_block h 8⟩
theorem fc12 {W : World} {b : Nat} {T : TypeId} {u0 u1 u2 u3 u4 u5 u6 u7 u8 u9 u10 u11 : Value} (h : W.heap[b]? = some (.cells #[u0, u1, u2, u3, u4, u5, u6, u7, u8, u9, u10, u11] T (0, 0))) :
    W.cell? ⟨b, 0, none⟩ = some u0 ∧ W.cell? ⟨b, 1, none⟩ = some u1 ∧ W.cell? ⟨b, 2, none⟩ = some u2 ∧ W.cell? ⟨b, 3, none⟩ = some u3 ∧ W.cell? ⟨b, 4, none⟩ = some u4 ∧ W.cell? ⟨b, 5, none⟩ = some u5 ∧ W.cell? ⟨b, 6, none⟩ = some u6 ∧ W.cell? ⟨b, 7, none⟩ = some u7 ∧ W.cell? ⟨b, 8, none⟩ = some u8 ∧ W.cell? ⟨b, 9, none⟩ = some u9 ∧ W.cell? ⟨b, 10, none⟩ = some u10 ∧ W.cell? ⟨b, 11, none⟩ = some u11 ∧ W.frozen? ⟨b, 0, none⟩ = false ∧ W.frozen? ⟨b, 1, none⟩ = false ∧ W.frozen? ⟨b, 2, none⟩ = false ∧ W.frozen? ⟨b, 3, none⟩ = false ∧ W.frozen? ⟨b, 4, none⟩ = false ∧ W.frozen? ⟨b, 5, none⟩ = false ∧ W.frozen? ⟨b, 6, none⟩ = false ∧ W.frozen? ⟨b, 7, none⟩ = false ∧ W.frozen? ⟨b, 8, none⟩ = false ∧ W.frozen? ⟨b, 9, none⟩ = false ∧ W.frozen? ⟨b, 10, none⟩ = false ∧ W.frozen? ⟨b, 11, none⟩ = false :=
  ⟨Fo.cell_of_block h 0, Fo.cell_of_block h 1, Fo.cell_of_block h 2, Fo.cell_of_block h 3, Fo.cell_of_block h 4, Fo.cell_of_block h 5, Fo.cell_of_block h 6, Fo.cell_of_block h 7, Fo.cell_of_block h 8, Fo.cell_of_block h 9, Fo.cell_of_block h 10, Fo.cell_of_block h 11, Fo.unfrozen_of_block h 0, Fo.unfrozen_of_block h 1, Fo.unfrozen_of_block h 2, Fo.unfrozen_of_block h 3, Fo.unfrozen_of_block h 4, Fo.unfrozen_of_block h 5, Fo.unfrozen_of_block h 6, Fo.unfrozen_of_block h 7, Fo.unfrozen_of_block h 8, Fo.unfrozen_of_block h 9, Fo.unfrozen_of_block h 10, Fo.unfrozen_of_block h 11⟩
theorem fc14 {W : World} {b : Nat} {T : TypeId} {u0 u1 u2 u3 u4 u5 u6 u7 u8 u9 u10 u11 u12 u13 : Value} (h : W.heap[b]? = some (.cells #[u0, u1, u2, u3, u4, u5, u6, u7, u8, u9, u10, u11, u12, u13] T (0, 0))) :
    W.cell? ⟨b, 0, none⟩ = some u0 ∧ W.cell? ⟨b, 1, none⟩ = some u1 ∧ W.cell? ⟨b, 2, none⟩ = some u2 ∧ W.cell? ⟨b, 3, none⟩ = some u3 ∧ W.cell? ⟨b, 4, none⟩ = some u4 ∧ W.cell? ⟨b, 5, none⟩ = some u5 ∧ W.cell? ⟨b, 6, none⟩ = some u6 ∧ W.cell? ⟨b, 7, none⟩ = some u7 ∧ W.cell? ⟨b, 8, none⟩ = some u8 ∧ W.cell? ⟨b, 9, none⟩ = some u9 ∧ W.cell? ⟨b, 10, none⟩ = some u10 ∧ W.cell? ⟨b, 11, none⟩ = some u11 ∧ W.cell? ⟨b, 12, none⟩ = some u12 ∧ W.cell? ⟨b, 13, none⟩ = some u13 ∧ W.frozen? ⟨b, 0, none⟩ = false ∧ W.frozen? ⟨b, 1, none⟩ = false ∧ W.frozen? ⟨b, 2, none⟩ = false ∧ W.frozen? ⟨b, 3, none⟩ = false ∧ W.frozen? ⟨b, 4, none⟩ = false ∧ W.frozen? ⟨b, 5, none⟩ = false ∧ W.frozen? ⟨b, 6, none⟩ = false ∧ W.frozen? ⟨b, 7, none⟩ = false ∧ W.frozen? ⟨b, 8, none⟩ = false ∧ W.frozen? ⟨b, 9, none⟩ = false ∧ W.frozen? ⟨b, 10, none⟩ = false ∧ W.frozen? ⟨b, 11, none⟩ = false ∧ W.frozen? ⟨b, 12, none⟩ = false ∧ W.frozen? ⟨b, 13, none⟩ = false :=
  ⟨Fo.cell_of_block h 0, Fo.cell_of_block h 1, Fo.cell_of_block h 2, Fo.cell_of_block h 3, Fo.cell_of_block h 4, Fo.cell_of_block h 5, Fo.cell_of_block h 6, Fo.cell_of_block h 7, Fo.cell_of_block h 8, Fo.cell_of_block h 9, Fo.cell_of_block h 10, Fo.cell_of_block h 11, Fo.cell_of_block h 12, Fo.cell_of_block h 13, Fo.unfrozen_of_block h 0, Fo.unfrozen_of_block h 1, Fo.unfrozen_of_block h 2, Fo.unfrozen_of_block h 3, Fo.unfrozen_of_block h 4, Fo.unfrozen_of_block h 5, Fo.unfrozen_of_block h 6, Fo.unfrozen_of_block h 7, Fo.unfrozen_of_block h 8, Fo.unfrozen_of_block h 9, Fo.unfrozen_of_block h 10, Fo.unfrozen_of_block h 11, Fo.unfrozen_of_block h 12, Fo.unfrozen_of_block h 13⟩
end Go.Proofs.Ytmblgkpgfofceaa

namespace Go.Proofs.Ytmblgkpgfofceaa
open Go.RowKit
set_option linter.unusedVariables false

inductive Ft where
  | nil
  | cons (b0 : Bool) (b1 : Bool) (b2 : Bool) (b3 : Bool) (b4 : Bool) (b5 : Bool) (b6 : Bool) (b7 : Bool) (b8 : Bool) (b9 : Bool) (b10 : Bool) (b11 : Bool) (b12 : Bool) (b13 : Bool) (b14 : Bool) (b15 : Bool) (rest : Ft)
deriving DecidableEq, Inhabited

namespace Ft
def len : Ft → Nat
  | nil => 0
  | cons _ _ _ _ _ _ _ _ _ _ _ _ _ _ _ _ r => r.len + 1
def nodes : Ft → Nat
  | nil => 0
  | cons b0 b1 b2 b3 b4 b5 b6 b7 b8 b9 b10 b11 b12 b13 b14 b15 r => 1 + r.nodes
def drop : Nat → Ft → Ft
  | 0, f => f
  | _ + 1, nil => nil
  | i + 1, cons _ _ _ _ _ _ _ _ _ _ _ _ _ _ _ _ r => r.drop i
/-- No list is longer than a length can be. -/
def Fits : Ft → Prop
  | nil => True
  | cons b0 b1 b2 b3 b4 b5 b6 b7 b8 b9 b10 b11 b12 b13 b14 b15 r => r.Fits
/-- The rows of a list lie in block b from cell o on. -/
def At (w : World) : Ft → Nat → Nat → Prop
  | nil, _, _ => True
  | cons b0 b1 b2 b3 b4 b5 b6 b7 b8 b9 b10 b11 b12 b13 b14 b15 r, b, o => w.cell? ⟨b, o, none⟩ = some (.bool b0) ∧ w.cell? ⟨b, o + 1, none⟩ = some (.bool b1) ∧ w.cell? ⟨b, o + 2, none⟩ = some (.bool b2) ∧ w.cell? ⟨b, o + 3, none⟩ = some (.bool b3) ∧ w.cell? ⟨b, o + 4, none⟩ = some (.bool b4) ∧ w.cell? ⟨b, o + 5, none⟩ = some (.bool b5) ∧ w.cell? ⟨b, o + 6, none⟩ = some (.bool b6) ∧ w.cell? ⟨b, o + 7, none⟩ = some (.bool b7) ∧ w.cell? ⟨b, o + 8, none⟩ = some (.bool b8) ∧ w.cell? ⟨b, o + 9, none⟩ = some (.bool b9) ∧ w.cell? ⟨b, o + 10, none⟩ = some (.bool b10) ∧ w.cell? ⟨b, o + 11, none⟩ = some (.bool b11) ∧ w.cell? ⟨b, o + 12, none⟩ = some (.bool b12) ∧ w.cell? ⟨b, o + 13, none⟩ = some (.bool b13) ∧ w.cell? ⟨b, o + 14, none⟩ = some (.bool b14) ∧ w.cell? ⟨b, o + 15, none⟩ = some (.bool b15) ∧ r.At w b (o + 16)
/-- A list lies where a slice value's pointer leads. -/
def Lies (w : World) (f : Ft) (A : Option Addr) : Prop := f ≠ nil → ∃ b o, A = some ⟨b, o, none⟩ ∧ f.At w b o

theorem drop_lt (f : Ft) : ∀ i, i < f.len → ∃ b0 b1 b2 b3 b4 b5 b6 b7 b8 b9 b10 b11 b12 b13 b14 b15 r, f.drop i = cons b0 b1 b2 b3 b4 b5 b6 b7 b8 b9 b10 b11 b12 b13 b14 b15 r ∧ f.drop (i + 1) = r := by
  induction f with
  | nil => intro i h; simp [len] at h
  | cons b0 b1 b2 b3 b4 b5 b6 b7 b8 b9 b10 b11 b12 b13 b14 b15 r ih => intro i h; cases i with
    | zero => exact ⟨b0, b1, b2, b3, b4, b5, b6, b7, b8, b9, b10, b11, b12, b13, b14, b15, r, rfl, by cases r <;> rfl⟩
    | succ i => exact ih i (by simp [len] at h; omega)
theorem drop_len (f : Ft) : f.drop f.len = nil := by
  induction f with
  | nil => rfl
  | cons b0 b1 b2 b3 b4 b5 b6 b7 b8 b9 b10 b11 b12 b13 b14 b15 r ih => exact ih
theorem fits_drop {f : Ft} (h : f.Fits) : ∀ i, (f.drop i).Fits := by
  induction f with
  | nil => intro i; cases i <;> exact h
  | cons b0 b1 b2 b3 b4 b5 b6 b7 b8 b9 b10 b11 b12 b13 b14 b15 r ih => intro i; cases i with
    | zero => exact h
    | succ i => exact ih h i
theorem at_drop {w : World} {f : Ft} : ∀ {b o : Nat}, f.At w b o → ∀ i, (f.drop i).At w b (o + i * 16) := by
  induction f with
  | nil => intro b o _ i; cases i <;> exact trivial
  | cons b0 b1 b2 b3 b4 b5 b6 b7 b8 b9 b10 b11 b12 b13 b14 b15 r ih => intro b o h i; cases i with
    | zero => exact h
    | succ i =>
      obtain ⟨h0, h1, h2, h3, h4, h5, h6, h7, h8, h9, h10, h11, h12, h13, h14, h15, hr⟩ := h
      have := ih hr i
      rw [show o + (i + 1) * 16 = o + 16 + i * 16 from by omega]
      exact this
theorem len_le_nodes (f : Ft) : f.len ≤ f.nodes := by
  induction f with
  | nil => exact Nat.le_refl _
  | cons b0 b1 b2 b3 b4 b5 b6 b7 b8 b9 b10 b11 b12 b13 b14 b15 r ih => simp only [len, nodes]; omega
theorem nodes_drop (f : Ft) : ∀ i, (f.drop i).nodes ≤ f.nodes := by
  induction f with
  | nil => intro i; cases i <;> exact Nat.le_refl _
  | cons b0 b1 b2 b3 b4 b5 b6 b7 b8 b9 b10 b11 b12 b13 b14 b15 r ih => intro i; cases i with
    | zero => exact Nat.le_refl _
    | succ i => have := ih i; simp only [drop, nodes]; omega
/-- What lies in a world lies in every later one. -/
theorem At.later {w w' : World} (hh : ∀ b o, b < w.heap.size → w'.cell? ⟨b, o, none⟩ = w.cell? ⟨b, o, none⟩) {f : Ft} : ∀ {b o : Nat}, f.At w b o → f.At w' b o := by
  induction f with
  | nil => intro b o _; trivial
  | cons b0 b1 b2 b3 b4 b5 b6 b7 b8 b9 b10 b11 b12 b13 b14 b15 r ihr =>
    intro b o ⟨h0, h1, h2, h3, h4, h5, h6, h7, h8, h9, h10, h11, h12, h13, h14, h15, hr⟩
    have hlt : b < w.heap.size := World.block_lt_of_cell? _ _ h0
    exact ⟨(hh b o hlt).trans h0, (hh b _ hlt).trans h1, (hh b _ hlt).trans h2, (hh b _ hlt).trans h3, (hh b _ hlt).trans h4, (hh b _ hlt).trans h5, (hh b _ hlt).trans h6, (hh b _ hlt).trans h7, (hh b _ hlt).trans h8, (hh b _ hlt).trans h9, (hh b _ hlt).trans h10, (hh b _ hlt).trans h11, (hh b _ hlt).trans h12, (hh b _ hlt).trans h13, (hh b _ hlt).trans h14, (hh b _ hlt).trans h15, ihr hr⟩
theorem Lies.later {w w' : World} (hh : ∀ b o, b < w.heap.size → w'.cell? ⟨b, o, none⟩ = w.cell? ⟨b, o, none⟩) {f : Ft} {A : Option Addr} (h : f.Lies w A) : f.Lies w' A :=
  fun hn => let ⟨b, o, ha, hat⟩ := h hn; ⟨b, o, ha, hat.later hh⟩
theorem Lies.below {w w' : World} (hb : Below w.heap.size w w') {f : Ft} {A : Option Addr} (h : f.Lies w A) : f.Lies w' A :=
  h.later fun b o hlt => hb.cell (p := ⟨b, o, none⟩) hlt
theorem Lies.drew {w : World} {f : Ft} {A : Option Addr} (h : f.Lies w A) : f.Lies w.drew A := h.later (w := w) (w' := w.drew) (fun b o _ => (rfl : w.drew.cell? ⟨b, o, none⟩ = w.cell? ⟨b, o, none⟩))
theorem Lies.dbelow {w w' : World} {f : Ft} {A : Option Addr} (h : f.Lies w A) (hb : Below w.drew.heap.size w.drew w') : f.Lies w' A := h.drew.below hb
theorem Lies.alloc {w : World} {f : Ft} {A : Option Addr} (h : f.Lies w A) (x : Obj) : f.Lies (w.alloc x) A := h.later (fun _ _ h => World.cell?_alloc_lt _ _ _ h)
theorem Lies.sees {w W : World} {f : Ft} {A : Option Addr} (h : f.Lies w A) (hs : Sees w W) : f.Lies W A := h.below hs
/-- The row of index i. -/
theorem Lies.row {w : World} {f : Ft} {b o : Nat} (h : f.At w b o) {i : Nat} (hi : i < f.len) :
    ∃ b0 b1 b2 b3 b4 b5 b6 b7 b8 b9 b10 b11 b12 b13 b14 b15 r , Hid (f.drop i = cons b0 b1 b2 b3 b4 b5 b6 b7 b8 b9 b10 b11 b12 b13 b14 b15 r) ∧ Hid (f.drop (i + 1) = r) ∧ w.cell? ⟨b, o + i * 16, none⟩ = some (.bool b0) ∧ w.cell? ⟨b, o + i * 16 + 1, none⟩ = some (.bool b1) ∧ w.cell? ⟨b, o + i * 16 + 2, none⟩ = some (.bool b2) ∧ w.cell? ⟨b, o + i * 16 + 3, none⟩ = some (.bool b3) ∧ w.cell? ⟨b, o + i * 16 + 4, none⟩ = some (.bool b4) ∧ w.cell? ⟨b, o + i * 16 + 5, none⟩ = some (.bool b5) ∧ w.cell? ⟨b, o + i * 16 + 6, none⟩ = some (.bool b6) ∧ w.cell? ⟨b, o + i * 16 + 7, none⟩ = some (.bool b7) ∧ w.cell? ⟨b, o + i * 16 + 8, none⟩ = some (.bool b8) ∧ w.cell? ⟨b, o + i * 16 + 9, none⟩ = some (.bool b9) ∧ w.cell? ⟨b, o + i * 16 + 10, none⟩ = some (.bool b10) ∧ w.cell? ⟨b, o + i * 16 + 11, none⟩ = some (.bool b11) ∧ w.cell? ⟨b, o + i * 16 + 12, none⟩ = some (.bool b12) ∧ w.cell? ⟨b, o + i * 16 + 13, none⟩ = some (.bool b13) ∧ w.cell? ⟨b, o + i * 16 + 14, none⟩ = some (.bool b14) ∧ w.cell? ⟨b, o + i * 16 + 15, none⟩ = some (.bool b15) := by
  obtain ⟨b0, b1, b2, b3, b4, b5, b6, b7, b8, b9, b10, b11, b12, b13, b14, b15, r, e1, e2⟩ := f.drop_lt i hi
  have h' := at_drop h i
  rw [e1] at h'
  obtain ⟨h0, h1, h2, h3, h4, h5, h6, h7, h8, h9, h10, h11, h12, h13, h14, h15, _⟩ := h'
  exact ⟨b0, b1, b2, b3, b4, b5, b6, b7, b8, b9, b10, b11, b12, b13, b14, b15, r, e1, e2, h0, h1, h2, h3, h4, h5, h6, h7, h8, h9, h10, h11, h12, h13, h14, h15⟩
/-- The same, where all lists lie in blocks from lo on, below hi. -/
def AtIn (w : World) (lo hi : Nat) : Ft → Nat → Nat → Prop
  | nil, _, _ => True
  | cons b0 b1 b2 b3 b4 b5 b6 b7 b8 b9 b10 b11 b12 b13 b14 b15 r, b, o => w.cell? ⟨b, o, none⟩ = some (.bool b0) ∧ w.cell? ⟨b, o + 1, none⟩ = some (.bool b1) ∧ w.cell? ⟨b, o + 2, none⟩ = some (.bool b2) ∧ w.cell? ⟨b, o + 3, none⟩ = some (.bool b3) ∧ w.cell? ⟨b, o + 4, none⟩ = some (.bool b4) ∧ w.cell? ⟨b, o + 5, none⟩ = some (.bool b5) ∧ w.cell? ⟨b, o + 6, none⟩ = some (.bool b6) ∧ w.cell? ⟨b, o + 7, none⟩ = some (.bool b7) ∧ w.cell? ⟨b, o + 8, none⟩ = some (.bool b8) ∧ w.cell? ⟨b, o + 9, none⟩ = some (.bool b9) ∧ w.cell? ⟨b, o + 10, none⟩ = some (.bool b10) ∧ w.cell? ⟨b, o + 11, none⟩ = some (.bool b11) ∧ w.cell? ⟨b, o + 12, none⟩ = some (.bool b12) ∧ w.cell? ⟨b, o + 13, none⟩ = some (.bool b13) ∧ w.cell? ⟨b, o + 14, none⟩ = some (.bool b14) ∧ w.cell? ⟨b, o + 15, none⟩ = some (.bool b15) ∧ r.AtIn w lo hi b (o + 16)
def LiesIn (w : World) (f : Ft) (lo hi : Nat) (A : Option Addr) : Prop := f ≠ nil → ∃ b o, A = some ⟨b, o, none⟩ ∧ lo ≤ b ∧ b < hi ∧ f.AtIn w lo hi b o
theorem AtIn.at {w : World} {lo hi : Nat} {f : Ft} : ∀ {b o : Nat}, f.AtIn w lo hi b o → f.At w b o := by
  induction f with
  | nil => intro b o _; trivial
  | cons b0 b1 b2 b3 b4 b5 b6 b7 b8 b9 b10 b11 b12 b13 b14 b15 r ihr =>
    intro b o ⟨h0, h1, h2, h3, h4, h5, h6, h7, h8, h9, h10, h11, h12, h13, h14, h15, hr⟩
    exact ⟨h0, h1, h2, h3, h4, h5, h6, h7, h8, h9, h10, h11, h12, h13, h14, h15, ihr hr⟩
theorem LiesIn.lies {w : World} {f : Ft} {lo hi : Nat} {A : Option Addr} (h : f.LiesIn w lo hi A) : f.Lies w A :=
  fun hn => let ⟨b, o, ha, _, _, hat⟩ := h hn; ⟨b, o, ha, hat.at⟩
theorem AtIn.agree {w w' : World} {lo hi : Nat} (ha : Fo.Agree w w' lo hi) {f : Ft} : ∀ {b o : Nat}, lo ≤ b → b < hi → f.AtIn w lo hi b o → f.AtIn w' lo hi b o := by
  induction f with
  | nil => intro b o _ _ _; trivial
  | cons b0 b1 b2 b3 b4 b5 b6 b7 b8 b9 b10 b11 b12 b13 b14 b15 r ihr =>
    intro b o hb hb2 ⟨h0, h1, h2, h3, h4, h5, h6, h7, h8, h9, h10, h11, h12, h13, h14, h15, hr⟩
    have hs := fun o => ha.cell hb hb2 o
    exact ⟨(hs _).trans h0, (hs _).trans h1, (hs _).trans h2, (hs _).trans h3, (hs _).trans h4, (hs _).trans h5, (hs _).trans h6, (hs _).trans h7, (hs _).trans h8, (hs _).trans h9, (hs _).trans h10, (hs _).trans h11, (hs _).trans h12, (hs _).trans h13, (hs _).trans h14, (hs _).trans h15, ihr hb hb2 hr⟩
theorem LiesIn.agree {w w' : World} {f : Ft} {lo hi : Nat} {A : Option Addr} (h : f.LiesIn w lo hi A) (ha : Fo.Agree w w' lo hi) : f.LiesIn w' lo hi A :=
  fun hn => let ⟨b, o, e, p, p', hat⟩ := h hn; ⟨b, o, e, p, p', hat.agree ha p p'⟩
theorem AtIn.mono {w : World} {lo hi lo' hi' : Nat} (h1x : lo' ≤ lo) (h2x : hi ≤ hi') {f : Ft} : ∀ {b o : Nat}, f.AtIn w lo hi b o → f.AtIn w lo' hi' b o := by
  induction f with
  | nil => intro b o _; trivial
  | cons b0 b1 b2 b3 b4 b5 b6 b7 b8 b9 b10 b11 b12 b13 b14 b15 r ihr =>
    intro b o ⟨h0, h1, h2, h3, h4, h5, h6, h7, h8, h9, h10, h11, h12, h13, h14, h15, hr⟩
    exact ⟨h0, h1, h2, h3, h4, h5, h6, h7, h8, h9, h10, h11, h12, h13, h14, h15, ihr hr⟩
theorem LiesIn.mono {w : World} {f : Ft} {lo hi lo' hi' : Nat} {A : Option Addr} (h : f.LiesIn w lo hi A) (h1 : lo' ≤ lo) (h2 : hi ≤ hi') : f.LiesIn w lo' hi' A :=
  fun hn => let ⟨b, o, e, p, p', hat⟩ := h hn; ⟨b, o, e, Nat.le_trans h1 p, Nat.lt_of_lt_of_le p' h2, hat.mono h1 h2⟩

/-- Block B is a row of so many of them of type E, of which the first j are those of f, what belongs to them in blocks from B + 1 on. -/
def Rows (E : TypeId) (f : Ft) (B : Nat) (wr : World) (j : Nat) : Prop :=
  (∃ cs : Array Value, wr.heap[B]? = some (.cells cs E (0, 0)) ∧ cs.size = f.len * 16) ∧ B < wr.heap.size ∧
  ∀ (w' : World) (hi : Nat), wr.heap.size ≤ hi → Fo.Agree wr w' (B + 1) wr.heap.size → (∀ o, o < j * 16 → w'.cell? ⟨B, o, none⟩ = wr.cell? ⟨B, o, none⟩) → (f.drop j).AtIn w' (B + 1) hi B (j * 16) → f.AtIn w' (B + 1) hi B 0
theorem rows_start {E : TypeId} {f : Ft} {w : World} {cs : Array Value} (hs : cs.size = f.len * 16) : Rows E f w.heap.size (w.alloc (.cells cs E)) 0 := by
  refine ⟨⟨cs, heap_new _ _ _ rfl, hs⟩, by simp, fun w' hi _ _ _ h => ?_⟩
  simp only [drop, Nat.zero_mul] at h
  exact h
theorem Rows.below {E : TypeId} {f : Ft} {B : Nat} {wr w1 : World} {j : Nat} (h : Rows E f B wr j) (hb : Below wr.heap.size wr w1) : Rows E f B w1 j := by
  obtain ⟨⟨cs, hc, hs⟩, hlt, hd⟩ := h
  have hz := hb.size
  refine ⟨⟨cs, (hb.block B hlt).trans hc, hs⟩, by omega, fun w' hi hh h1 h2 h3 => hd w' hi (by omega) ?_ (fun o ho => ?_) h3⟩
  · exact Fo.Agree.trans ((Fo.Agree.of_below hb).mono (Nat.zero_le _) (Nat.le_refl _)) (h1.mono (Nat.le_refl _) hz)
  · exact (h2 o ho).trans (hb.cell (p := ⟨B, o, none⟩) hlt)
theorem Rows.cells {E : TypeId} {f : Ft} {B : Nat} {wr : World} {j : Nat} (h : Rows E f B wr j) (hj : j < f.len) :
    (∃ v, wr.cell? ⟨B, j * 16, none⟩ = some v) ∧ (∃ v, wr.cell? ⟨B, j * 16 + 1, none⟩ = some v) ∧ (∃ v, wr.cell? ⟨B, j * 16 + 2, none⟩ = some v) ∧ (∃ v, wr.cell? ⟨B, j * 16 + 3, none⟩ = some v) ∧ (∃ v, wr.cell? ⟨B, j * 16 + 4, none⟩ = some v) ∧ (∃ v, wr.cell? ⟨B, j * 16 + 5, none⟩ = some v) ∧ (∃ v, wr.cell? ⟨B, j * 16 + 6, none⟩ = some v) ∧ (∃ v, wr.cell? ⟨B, j * 16 + 7, none⟩ = some v) ∧ (∃ v, wr.cell? ⟨B, j * 16 + 8, none⟩ = some v) ∧ (∃ v, wr.cell? ⟨B, j * 16 + 9, none⟩ = some v) ∧ (∃ v, wr.cell? ⟨B, j * 16 + 10, none⟩ = some v) ∧ (∃ v, wr.cell? ⟨B, j * 16 + 11, none⟩ = some v) ∧ (∃ v, wr.cell? ⟨B, j * 16 + 12, none⟩ = some v) ∧ (∃ v, wr.cell? ⟨B, j * 16 + 13, none⟩ = some v) ∧ (∃ v, wr.cell? ⟨B, j * 16 + 14, none⟩ = some v) ∧ (∃ v, wr.cell? ⟨B, j * 16 + 15, none⟩ = some v) ∧ (∀ i, wr.frozen? ⟨B, i, none⟩ = false) := by
  obtain ⟨⟨cs, hc, hs⟩, _, _⟩ := h
  refine ⟨⟨cs[j * 16]'(by omega), ?_⟩, ⟨cs[j * 16 + 1]'(by omega), ?_⟩, ⟨cs[j * 16 + 2]'(by omega), ?_⟩, ⟨cs[j * 16 + 3]'(by omega), ?_⟩, ⟨cs[j * 16 + 4]'(by omega), ?_⟩, ⟨cs[j * 16 + 5]'(by omega), ?_⟩, ⟨cs[j * 16 + 6]'(by omega), ?_⟩, ⟨cs[j * 16 + 7]'(by omega), ?_⟩, ⟨cs[j * 16 + 8]'(by omega), ?_⟩, ⟨cs[j * 16 + 9]'(by omega), ?_⟩, ⟨cs[j * 16 + 10]'(by omega), ?_⟩, ⟨cs[j * 16 + 11]'(by omega), ?_⟩, ⟨cs[j * 16 + 12]'(by omega), ?_⟩, ⟨cs[j * 16 + 13]'(by omega), ?_⟩, ⟨cs[j * 16 + 14]'(by omega), ?_⟩, ⟨cs[j * 16 + 15]'(by omega), ?_⟩, fun i => Fo.unfrozen_of_block hc i⟩ <;>
  · rw [Fo.cell_of_block hc]
    exact Array.getElem?_eq_getElem _
end Ft
end Go.Proofs.Ytmblgkpgfofceaa

namespace Go.Proofs.Ytmblgkpgfofceaa
open Go.RowKit
set_option linter.unusedVariables false

def Ft.allG (G : Bool → Bool → Bool → Bool → Bool → Bool → Bool → Bool → Bool → Bool → Bool → Bool → Bool → Bool → Bool → Bool → Bool) : Ft → Bool
  | .nil => true
  | .cons b0 b1 b2 b3 b4 b5 b6 b7 b8 b9 b10 b11 b12 b13 b14 b15 r => G b0 b1 b2 b3 b4 b5 b6 b7 b8 b9 b10 b11 b12 b13 b14 b15 && r.allG G
set_option maxHeartbeats 1500000 in
set_option maxRecDepth 100000 in
theorem every1F_any (q : Bool) (N : Nat) (caps : Array Value) (eg : ∀ args w, (callFunc N args).run Try.prog w = .ok (.enter N args) w) (bh : Nat) (b0 : Bool) (b1 : Bool) (b2 : Bool) (b3 : Bool) (b4 : Bool) (b5 : Bool) (b6 : Bool) (b7 : Bool) (b8 : Bool) (b9 : Bool) (b10 : Bool) (b11 : Bool) (b12 : Bool) (b13 : Bool) (b14 : Bool) (b15 : Bool)  (w : World) (hc : w.cell? ⟨bh, 0, none⟩ = some (.func (.func N) #[] caps))
    (KC : Hid (∀ W : World, Sees w W → Calls Try.prog N (#[.agg #[.bool b0, .bool b1, .bool b2, .bool b3, .bool b4, .bool b5, .bool b6, .bool b7, .bool b8, .bool b9, .bool b10, .bool b11, .bool b12, .bool b13, .bool b14, .bool b15]] ++ caps) W fun e w' => e = .returned (.bool q) ∧ Below W.heap.size W w')) :
    Calls Try.prog 143 #[.agg #[.bool b0, .bool b1, .bool b2, .bool b3, .bool b4, .bool b5, .bool b6, .bool b7, .bool b8, .bool b9, .bool b10, .bool b11, .bool b12, .bool b13, .bool b14, .bool b15], .pointer (some ⟨bh, 0, none⟩)] w fun e w' => e = .returned (.bool (!q)) ∧ Below w.heap.size w w' := by
  have hc2 := ka (.cells #[.bool b0, .bool b1, .bool b2, .bool b3, .bool b4, .bool b5, .bool b6, .bool b7, .bool b8, .bool b9, .bool b10, .bool b11, .bool b12, .bool b13, .bool b14, .bool b15] 146) hc
  have KS := Lib.hid (KC.out _ ((Sees.refl w).alloc (.cells #[.bool b0, .bool b1, .bool b2, .bool b3, .bool b4, .bool b5, .bool b6, .bool b7, .bool b8, .bool b9, .bool b10, .bool b11, .bool b12, .bool b13, .bool b14, .bool b15] 146)))
  clear hc KC
  cases q
  all_goals
    go_enter Try.func143, Try.ntmps143
    go_wp2_with (go_at_fn N; refine KS.out.mono ?_; rintro e w1 ⟨rfl, hb⟩)
    go_ret
    exact ⟨rfl, Sees.below ((Sees.refl w).alloc _) (by assumption)⟩
set_option maxHeartbeats 1500000 in
set_option maxRecDepth 100000 in
theorem indexF_any (G : Bool → Bool → Bool → Bool → Bool → Bool → Bool → Bool → Bool → Bool → Bool → Bool → Bool → Bool → Bool → Bool → Bool) (bh : Nat) (xs : Ft) (hm : xs.len ≤ 9223372036854775807) (A : Option Addr) (C : Nat) (w : World) (hl : xs.Lies w A)
    (KC : Hid (∀ (W : World) (b0 : Bool) (b1 : Bool) (b2 : Bool) (b3 : Bool) (b4 : Bool) (b5 : Bool) (b6 : Bool) (b7 : Bool) (b8 : Bool) (b9 : Bool) (b10 : Bool) (b11 : Bool) (b12 : Bool) (b13 : Bool) (b14 : Bool) (b15 : Bool) (r : Ft) (j : Nat), Sees w W → xs.drop j = .cons b0 b1 b2 b3 b4 b5 b6 b7 b8 b9 b10 b11 b12 b13 b14 b15 r → Calls Try.prog 143 #[.agg #[.bool b0, .bool b1, .bool b2, .bool b3, .bool b4, .bool b5, .bool b6, .bool b7, .bool b8, .bool b9, .bool b10, .bool b11, .bool b12, .bool b13, .bool b14, .bool b15], .pointer (some ⟨bh, 0, none⟩)] W fun e w' => e = .returned (.bool (!G b0 b1 b2 b3 b4 b5 b6 b7 b8 b9 b10 b11 b12 b13 b14 b15)) ∧ Below W.heap.size W w')) :
    Calls Try.prog 166 #[.slice A xs.len C, .func (.func 143) #[] #[.pointer (some ⟨bh, 0, none⟩)]] w fun e w' => (∃ i : Int, e = .returned (.int .i64 i) ∧ decide (0 ≤ i) = !(xs.allG G)) ∧ Below w.heap.size w w' := by
  have HD : Hid (xs.allG G = (xs.drop 0).allG G) := by cases xs <;> rfl
  have HH := Lib.hid hl
  clear hl
  go_enter Try.func166, Try.ntmps166
  go_wp2_with fail
  go_loopw [8] (fun i wr => ∃ j : Nat, j ≤ xs.len ∧ i = .int .i64 j ∧ Hid (xs.allG G = (xs.drop j).allG G) ∧ Hid (Below w.heap.size w wr)) (fun i _ => xs.len - (intOf i).toNat)
  case atStart => exact ⟨0, Nat.zero_le _, rfl, HD, Below.refl _ _⟩
  case round =>
    obtain ⟨j, hj, rfl, hq, hw⟩ := hrel
    clear HD
    by_cases hjl : j < xs.len
    · obtain ⟨b, o, rfl, hat⟩ := HH.out (by rintro rfl; simp [Ft.len] at hjl)
      obtain ⟨b0, b1, b2, b3, b4, b5, b6, b7, b8, b9, b10, b11, b12, b13, b14, b15, r, e1, e2, c0, c1, c2, c3, c4, c5, c6, c7, c8, c9, c10, c11, c12, c13, c14, c15⟩ := Ft.Lies.row hat hjl
      have hb := hw.out
      have a0 := kc hb c0; have a1 := kc hb c1; have a2 := kc hb c2; have a3 := kc hb c3; have a4 := kc hb c4; have a5 := kc hb c5; have a6 := kc hb c6; have a7 := kc hb c7; have a8 := kc hb c8; have a9 := kc hb c9; have a10 := kc hb c10; have a11 := kc hb c11; have a12 := kc hb c12; have a13 := kc hb c13; have a14 := kc hb c14; have a15 := kc hb c15
      have KX := Lib.hid (KC.out wr b0 b1 b2 b3 b4 b5 b6 b7 b8 b9 b10 b11 b12 b13 b14 b15 r j   hw.out e1.out )
      have HA := Lib.hid hat
      have hst : Hid (xs.allG G = (G b0 b1 b2 b3 b4 b5 b6 b7 b8 b9 b10 b11 b12 b13 b14 b15 && (xs.drop (j + 1)).allG G)) := by
        show _ = _
        rw [hq.out, e1.out, e2.out]; rfl
      obtain ⟨q, hqe⟩ : ∃ q : Bool, q = G b0 b1 b2 b3 b4 b5 b6 b7 b8 b9 b10 b11 b12 b13 b14 b15 := ⟨_, rfl⟩
      rw [← hqe] at KX hst
      clear hat c0 c1 c2 c3 c4 c5 c6 c7 c8 c9 c10 c11 c12 c13 c14 c15  hb hqe hq e1 e2
      have hj0 : (0 : Int) ≤ (j : Int) := Int.natCast_nonneg _
      have hj1 : (j : Int) < (xs.len : Int) := by omega
      cases q
      · have hq2 : Hid (decide ((0 : Int) ≤ (j : Int)) = !(xs.allG G)) := by show _ = _; rw [hst.out, decide_eq_true hj0]; rfl
        go_wp2_with fail
        refine KX.out.mono ?_
        rintro e w1 ⟨rfl, hb1⟩
        have hw2 := Sees.below hw.out hb1
        clear hb1 a0 a1 a2 a3 a4 a5 a6 a7 a8 a9 a10 a11 a12 a13 a14 a15
        go_wp2_with fail
        go_ret
        exact ⟨⟨_, rfl, hq2.out⟩, hw2⟩
      · have hq2 : Hid (xs.allG G = (xs.drop (j + 1)).allG G) := by show _ = _; rw [hst.out]; rfl
        go_wp2_with fail
        refine KX.out.mono ?_
        rintro e w1 ⟨rfl, hb1⟩
        have hw2 := Lib.hid (Sees.below hw.out hb1)
        clear hb1 a0 a1 a2 a3 a4 a5 a6 a7 a8 a9 a10 a11 a12 a13 a14 a15
        go_wp2_with fail
        go_roundw
        case rel => exact ⟨j + 1, by omega, by go_num, hq2, hw2⟩
        case measure => simp [intOf]; omega
    · obtain rfl : j = xs.len := by omega
      have hq2 : Hid (decide ((0 : Int) ≤ -1) = !(xs.allG G)) := by show _ = _; rw [hq.out, Ft.drop_len]; rfl
      clear hq
      go_wp2_with fail
      go_ret
      exact ⟨⟨_, rfl, hq2.out⟩, hw.out⟩
set_option maxHeartbeats 1500000 in
set_option maxRecDepth 100000 in
theorem containsF_any (G : Bool → Bool → Bool → Bool → Bool → Bool → Bool → Bool → Bool → Bool → Bool → Bool → Bool → Bool → Bool → Bool → Bool) (bh : Nat) (xs : Ft) (hm : xs.len ≤ 9223372036854775807) (A : Option Addr) (C : Nat) (w : World) (hl : xs.Lies w A)
    (KC : Hid (∀ (W : World) (b0 : Bool) (b1 : Bool) (b2 : Bool) (b3 : Bool) (b4 : Bool) (b5 : Bool) (b6 : Bool) (b7 : Bool) (b8 : Bool) (b9 : Bool) (b10 : Bool) (b11 : Bool) (b12 : Bool) (b13 : Bool) (b14 : Bool) (b15 : Bool) (r : Ft) (j : Nat), Sees w W → xs.drop j = .cons b0 b1 b2 b3 b4 b5 b6 b7 b8 b9 b10 b11 b12 b13 b14 b15 r → Calls Try.prog 143 #[.agg #[.bool b0, .bool b1, .bool b2, .bool b3, .bool b4, .bool b5, .bool b6, .bool b7, .bool b8, .bool b9, .bool b10, .bool b11, .bool b12, .bool b13, .bool b14, .bool b15], .pointer (some ⟨bh, 0, none⟩)] W fun e w' => e = .returned (.bool (!G b0 b1 b2 b3 b4 b5 b6 b7 b8 b9 b10 b11 b12 b13 b14 b15)) ∧ Below W.heap.size W w')) :
    Calls Try.prog 142 #[.slice A xs.len C, .func (.func 143) #[] #[.pointer (some ⟨bh, 0, none⟩)]] w fun e w' => e = .returned (.bool (!(xs.allG G))) ∧ Below w.heap.size w w' := by
  have KI := Lib.hid (indexF_any G bh xs hm A C w hl KC)
  clear hl
  obtain ⟨q, hq⟩ : ∃ q : Bool, q = xs.allG G := ⟨_, rfl⟩
  rw [← hq] at KI ⊢
  clear hq
  go_enter Try.func142, Try.ntmps142
  go_wp2_with fail
  refine KI.out.mono ?_
  rintro e w1 ⟨⟨i, rfl, hi⟩, hb⟩
  by_cases h0 : 0 ≤ i
  · have hi' : q = false := by rw [decide_eq_true h0] at hi; simpa using hi.symm
    subst hi'
    clear hi
    go_wp2_with fail
    go_ret
    exact ⟨rfl, hb⟩
  · have hi' : q = true := by rw [decide_eq_false h0] at hi; simpa using hi.symm
    subst hi'
    clear hi
    have hd : Hid (decide (0 ≤ i) = !true) := decide_eq_false h0
    go_wp2_with fail
    go_ret
    exact ⟨ret_bool hd.out, hb⟩
set_option maxHeartbeats 1500000 in
set_option maxRecDepth 100000 in
theorem everyF_any (G : Bool → Bool → Bool → Bool → Bool → Bool → Bool → Bool → Bool → Bool → Bool → Bool → Bool → Bool → Bool → Bool → Bool) (N : Nat) (caps : Array Value) (eg : ∀ args w, (callFunc N args).run Try.prog w = .ok (.enter N args) w) (xs : Ft) (hm : xs.len ≤ 9223372036854775807) (A : Option Addr) (C : Nat) (w : World) (hl : xs.Lies w A)
    (KC : Hid (∀ (W : World) (b0 : Bool) (b1 : Bool) (b2 : Bool) (b3 : Bool) (b4 : Bool) (b5 : Bool) (b6 : Bool) (b7 : Bool) (b8 : Bool) (b9 : Bool) (b10 : Bool) (b11 : Bool) (b12 : Bool) (b13 : Bool) (b14 : Bool) (b15 : Bool) (r : Ft) (j : Nat), Sees w W → xs.drop j = .cons b0 b1 b2 b3 b4 b5 b6 b7 b8 b9 b10 b11 b12 b13 b14 b15 r → Calls Try.prog N (#[.agg #[.bool b0, .bool b1, .bool b2, .bool b3, .bool b4, .bool b5, .bool b6, .bool b7, .bool b8, .bool b9, .bool b10, .bool b11, .bool b12, .bool b13, .bool b14, .bool b15]] ++ caps) W fun e w' => e = .returned (.bool (G b0 b1 b2 b3 b4 b5 b6 b7 b8 b9 b10 b11 b12 b13 b14 b15)) ∧ Below W.heap.size W w')) :
    Calls Try.prog 110 #[.slice A xs.len C, .func (.func N) #[] caps] w fun e w' => e = .returned (.bool (xs.allG G)) ∧ Below w.heap.size w w' := by
  have KI : Hid (∀ W : World, Sees w W → W.cell? ⟨w.heap.size, 0, none⟩ = some (.func (.func N) #[] caps) → Calls Try.prog 142 #[.slice A xs.len C, .func (.func 143) #[] #[.pointer (some ⟨w.heap.size, 0, none⟩)]] W fun e w' => e = .returned (.bool (!(xs.allG G))) ∧ Below W.heap.size W w') := fun W h hc =>
    containsF_any G w.heap.size xs hm A C W (hl.sees h) (fun W' b0 b1 b2 b3 b4 b5 b6 b7 b8 b9 b10 b11 b12 b13 b14 b15 r j   h' hx  => every1F_any (G b0 b1 b2 b3 b4 b5 b6 b7 b8 b9 b10 b11 b12 b13 b14 b15) N caps eg w.heap.size b0 b1 b2 b3 b4 b5 b6 b7 b8 b9 b10 b11 b12 b13 b14 b15   W' (kc h' hc) (fun W2 h2 => KC.out W2 b0 b1 b2 b3 b4 b5 b6 b7 b8 b9 b10 b11 b12 b13 b14 b15 r j   (Sees.below h (Sees.below h' h2)) hx ))
  clear hl
  obtain ⟨q, hq⟩ : ∃ q : Bool, q = xs.allG G := ⟨_, rfl⟩
  rw [← hq] at KI ⊢
  clear hq
  cases q
  all_goals
    go_enter Try.func110, Try.ntmps110
    go_wp2_with fail
    refine (KI.out _ (by unfold Sees; go_grown) (by simp [go_sem])).mono ?_
    rintro e w1 ⟨rfl, hb⟩
    have B1 : Sees w w1 := Sees.below (by unfold Sees; go_grown) hb
    clear hb
    go_wp2_with fail
    go_ret
    exact ⟨rfl, B1⟩
end Go.Proofs.Ytmblgkpgfofceaa

namespace Go.Proofs.Ytmblgkpgfofceaa
open Go.RowKit
set_option linter.unusedVariables false

theorem lt16 {j : Nat} (h : j < 16) : j = 0 ∨ j = 1 ∨ j = 2 ∨ j = 3 ∨ j = 4 ∨ j = 5 ∨ j = 6 ∨ j = 7 ∨ j = 8 ∨ j = 9 ∨ j = 10 ∨ j = 11 ∨ j = 12 ∨ j = 13 ∨ j = 14 ∨ j = 15 := by omega
set_option maxHeartbeats 1000000 in
set_option maxRecDepth 100000 in
theorem behind11_any (B : Nat → Bool) (i j : Nat) (hi : i < 8) (hj : j < 8) (p1 p2 : Nat) (w : World) (h1 : w.cell? ⟨p1, 0, none⟩ = some (.int .i64 (i : Int))) (h2 : w.cell? ⟨p2, 0, none⟩ = some (.int .i64 (j : Int))) :
    Calls Try.prog 111 #[.agg #[.bool (B 0), .bool (B 1), .bool (B 2), .bool (B 3), .bool (B 4), .bool (B 5), .bool (B 6), .bool (B 7), .bool (B 8), .bool (B 9), .bool (B 10), .bool (B 11), .bool (B 12), .bool (B 13), .bool (B 14), .bool (B 15)], .pointer (some ⟨p1, 0, none⟩), .pointer (some ⟨p2, 0, none⟩)] w fun e w' => e = .returned (.bool (!(B i) || B (8 + j))) ∧ Below w.heap.size w w' := by
  obtain ⟨w0, hw0⟩ : ∃ w0, w0 = w.alloc (.cells #[.bool (B 0), .bool (B 1), .bool (B 2), .bool (B 3), .bool (B 4), .bool (B 5), .bool (B 6), .bool (B 7), .bool (B 8), .bool (B 9), .bool (B 10), .bool (B 11), .bool (B 12), .bool (B 13), .bool (B 14), .bool (B 15)] 146) := ⟨_, rfl⟩
  have HB : w0.heap[w.heap.size]? = some (.cells #[.bool (B 0), .bool (B 1), .bool (B 2), .bool (B 3), .bool (B 4), .bool (B 5), .bool (B 6), .bool (B 7), .bool (B 8), .bool (B 9), .bool (B 10), .bool (B 11), .bool (B 12), .bool (B 13), .bool (B 14), .bool (B 15)] 146 (0, 0)) := by rw [hw0]; exact heap_new _ _ _ rfl
  have hc : ∀ k, k < 16 → w0.cell? ⟨w.heap.size, k, none⟩ = some (.bool (B k)) := fun k hk => by
    rcases lt16 hk with rfl | rfl | rfl | rfl | rfl | rfl | rfl | rfl | rfl | rfl | rfl | rfl | rfl | rfl | rfl | rfl <;> exact Fo.cell_of_block HB _
  have c1 := hc i (by omega)
  have c2 := hc (8 + j) (by omega)
  have g1 : w0.cell? ⟨p1, 0, none⟩ = some (.int .i64 (i : Int)) := by rw [hw0]; exact ka _ h1
  have g2 : w0.cell? ⟨p2, 0, none⟩ = some (.int .i64 (j : Int)) := by rw [hw0]; exact ka _ h2
  have hS : Hid (Sees w w0) := by show Sees w w0; rw [hw0]; exact (Sees.refl w).alloc _
  have i0 : (0 : Int) ≤ (i : Int) := Int.natCast_nonneg _
  have i1 : (i : Int) < 8 := by omega
  have j0 : (0 : Int) ≤ (j : Int) := Int.natCast_nonneg _
  have j1 : (j : Int) < 8 := by omega
  clear HB hc h1 h2
  obtain ⟨q1, hq1⟩ : ∃ q : Bool, q = B i := ⟨_, rfl⟩
  obtain ⟨q2, hq2⟩ : ∃ q : Bool, q = B (8 + j) := ⟨_, rfl⟩
  rw [← hq1] at c1 ⊢
  rw [← hq2] at c2 ⊢
  clear hq1 hq2
  subst hw0
  cases q1
  all_goals
    go_enter Try.func111, Try.ntmps111
    go_wp2_with fail
    go_ret
    exact ⟨by simp, hS.out⟩

def arr16 (b0 b1 b2 b3 b4 b5 b6 b7 b8 b9 b10 b11 b12 b13 b14 b15 : Bool) (k : Nat) : Bool := match k with
  | 0 => b0 | 1 => b1 | 2 => b2 | 3 => b3 | 4 => b4 | 5 => b5 | 6 => b6 | 7 => b7 | 8 => b8 | 9 => b9 | 10 => b10 | 11 => b11 | 12 => b12 | 13 => b13 | 14 => b14 | _ => b15
/-- No fact rules out the atom j behind the atom i. -/
def ruleG (i j : Nat) (b0 b1 b2 b3 b4 b5 b6 b7 b8 b9 b10 b11 b12 b13 b14 b15 : Bool) : Bool := !(arr16 b0 b1 b2 b3 b4 b5 b6 b7 b8 b9 b10 b11 b12 b13 b14 b15 i) || arr16 b0 b1 b2 b3 b4 b5 b6 b7 b8 b9 b10 b11 b12 b13 b14 b15 (8 + j)
set_option maxHeartbeats 1000000 in
set_option maxRecDepth 100000 in
theorem behind1_any (xs : Ft) (hm : xs.len ≤ 9223372036854775807) (i j : Nat) (hi : i < 8) (hj : j < 8) (A : Option Addr) (C : Nat) (p1 p2 : Nat) (w : World) (hl : xs.Lies w A) (h1 : w.cell? ⟨p1, 0, none⟩ = some (.slice A xs.len C)) (h2 : w.cell? ⟨p2, 0, none⟩ = some (.int .i64 (i : Int))) :
    Calls Try.prog 109 #[.int .i64 (j : Int), .pointer (some ⟨p1, 0, none⟩), .pointer (some ⟨p2, 0, none⟩)] w fun e w' => e = .returned (.bool (xs.allG (ruleG i j))) ∧ Below w.heap.size w w' := by
  obtain ⟨q, hq⟩ : ∃ q : Bool, q = xs.allG (ruleG i j) := ⟨_, rfl⟩
  have K : Hid (∀ (W : World) (p3 : Nat), Sees w W → W.cell? ⟨p3, 0, none⟩ = some (.int .i64 (j : Int)) → Calls Try.prog 110 #[.slice A xs.len C, .func (.func 111) #[] #[.pointer (some ⟨p2, 0, none⟩), .pointer (some ⟨p3, 0, none⟩)]] W fun e w' => e = .returned (.bool q) ∧ Below W.heap.size W w') := fun W p3 h c => by
    rw [hq]
    exact everyF_any (ruleG i j) 111 #[.pointer (some ⟨p2, 0, none⟩), .pointer (some ⟨p3, 0, none⟩)] (enters_of Try.func111 (by kernel_rfl) rfl) xs hm A C W (hl.sees h)
      (fun W2 b0 b1 b2 b3 b4 b5 b6 b7 b8 b9 b10 b11 b12 b13 b14 b15 r k h3 hx => behind11_any (arr16 b0 b1 b2 b3 b4 b5 b6 b7 b8 b9 b10 b11 b12 b13 b14 b15) i j hi hj p2 p3 W2 (kc h3 (kc h h2)) (kc h3 c))
  rw [← hq]
  have g1 := ka (.cells #[.int .i64 (j : Int)] 2) h1
  clear hq hl h1 h2 hm hi hj
  go_enter Try.func109, Try.ntmps109
  go_wp2_with fail
  refine (K.out _ w.heap.size ((Sees.refl w).alloc _) (by simp [go_sem])).mono ?_
  rintro e w1 ⟨rfl, hb⟩
  have B1 : Sees w w1 := Sees.below ((Sees.refl w).alloc _) hb
  clear hb
  go_wp2_with fail
  go_ret
  exact ⟨rfl, B1⟩
end Go.Proofs.Ytmblgkpgfofceaa
