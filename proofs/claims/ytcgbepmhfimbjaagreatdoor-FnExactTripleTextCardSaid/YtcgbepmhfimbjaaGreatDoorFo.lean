/- Forests: what a list of expressions holds; where it lies in memory. Plain facts, no walk. -/
import Derived.WalkKit
namespace Go.Proofs.YtcgbepmhfimbjaaGreatDoor
open Go.RowKit

/-- A list of expressions: the first one's kind, number and kids, and the rest. -/
inductive Fo where
  | nil
  | cons (k n : Int) (kids rest : Fo)
deriving DecidableEq, Inhabited

namespace Fo
def len : Fo → Nat
  | nil => 0
  | cons _ _ _ r => r.len + 1
def nodes : Fo → Nat
  | nil => 0
  | cons _ _ ks r => 1 + ks.nodes + r.nodes
def drop : Nat → Fo → Fo
  | 0, f => f
  | _ + 1, nil => nil
  | i + 1, cons _ _ _ r => r.drop i

/-- No list is longer than a length can be. -/
def Fits : Fo → Prop
  | nil => True
  | cons _ _ ks r => ks.len ≤ 9223372036854775807 ∧ ks.Fits ∧ r.Fits

/-- The rows of a list lie in block b from cell o on. -/
def At (w : World) : Fo → Nat → Nat → Prop
  | nil, _, _ => True
  | cons k n ks r, b, o => w.cell? ⟨b, o, none⟩ = some (.int .i64 k) ∧ w.cell? ⟨b, o + 1, none⟩ = some (.int .i64 n) ∧
      (∃ (A : Option Addr) (C : Nat), w.cell? ⟨b, o + 2, none⟩ = some (.slice A ks.len C) ∧ (ks ≠ nil → ∃ b' o', A = some ⟨b', o', none⟩ ∧ ks.At w b' o')) ∧ r.At w b (o + 3)

/-- A list lies where a slice value's pointer leads. -/
def Lies (w : World) (f : Fo) (A : Option Addr) : Prop := f ≠ nil → ∃ b o, A = some ⟨b, o, none⟩ ∧ f.At w b o

theorem len_drop (f : Fo) : ∀ i, (f.drop i).len = f.len - i := by
  induction f with
  | nil => intro i; cases i <;> simp [drop, len]
  | cons k n ks r _ ih => intro i; cases i with
    | zero => simp [drop]
    | succ i => simp only [drop, len]; rw [ih]; omega

theorem drop_lt (f : Fo) : ∀ i, i < f.len → ∃ k n ks r, f.drop i = cons k n ks r ∧ f.drop (i + 1) = r := by
  induction f with
  | nil => intro i h; simp [len] at h
  | cons k n ks r _ ih => intro i h; cases i with
    | zero => exact ⟨k, n, ks, r, rfl, by cases r <;> rfl⟩
    | succ i => exact ih i (by simp [len] at h; omega)

theorem drop_len (f : Fo) : f.drop f.len = nil := by
  induction f with
  | nil => rfl
  | cons k n ks r _ ih => exact ih

theorem fits_drop {f : Fo} (h : f.Fits) : ∀ i, (f.drop i).Fits := by
  induction f with
  | nil => intro i; cases i <;> exact h
  | cons k n ks r _ ih => intro i; cases i with
    | zero => exact h
    | succ i => exact ih h.2.2 i

theorem at_drop {w : World} {f : Fo} : ∀ {b o : Nat}, f.At w b o → ∀ i, (f.drop i).At w b (o + i * 3) := by
  induction f with
  | nil => intro b o _ i; cases i <;> exact trivial
  | cons k n ks r _ ih => intro b o h i; cases i with
    | zero => exact h
    | succ i =>
      have := ih h.2.2.2 i
      rw [show o + (i + 1) * 3 = o + 3 + i * 3 from by omega]
      exact this

theorem len_le_nodes (f : Fo) : f.len ≤ f.nodes := by
  induction f with
  | nil => exact Nat.le_refl _
  | cons k n ks r _ ih => simp only [len, nodes]; omega

theorem nodes_drop (f : Fo) : ∀ i, (f.drop i).nodes ≤ f.nodes := by
  induction f with
  | nil => intro i; cases i <;> exact Nat.le_refl _
  | cons k n ks r _ ih => intro i; cases i with
    | zero => exact Nat.le_refl _
    | succ i => have := ih i; simp only [drop, nodes]; omega

/-- What lies in a world lies in every later one. -/
theorem At.later {w w' : World} (hh : ∀ b o, b < w.heap.size → w'.cell? ⟨b, o, none⟩ = w.cell? ⟨b, o, none⟩) {f : Fo} : ∀ {b o : Nat}, f.At w b o → f.At w' b o := by
  induction f with
  | nil => intro b o _; trivial
  | cons k n ks r ihk ihr =>
    intro b o ⟨h0, h1, ⟨A, C, h2, h3⟩, h4⟩
    have hlt : b < w.heap.size := World.block_lt_of_cell? _ _ h0
    exact ⟨(hh b o hlt).trans h0, (hh b _ hlt).trans h1, ⟨A, C, (hh b _ hlt).trans h2, fun hn => let ⟨b', o', ha, hat⟩ := h3 hn; ⟨b', o', ha, ihk hat⟩⟩, ihr h4⟩

theorem Lies.later {w w' : World} (hh : ∀ b o, b < w.heap.size → w'.cell? ⟨b, o, none⟩ = w.cell? ⟨b, o, none⟩) {f : Fo} {A : Option Addr} (h : f.Lies w A) : f.Lies w' A :=
  fun hn => let ⟨b, o, ha, hat⟩ := h hn; ⟨b, o, ha, hat.later hh⟩
theorem Lies.below {w w' : World} (hb : Below w.heap.size w w') {f : Fo} {A : Option Addr} (h : f.Lies w A) : f.Lies w' A :=
  h.later fun b o hlt => hb.cell (p := ⟨b, o, none⟩) hlt

/-- The row of index i. -/
theorem Lies.row {w : World} {f : Fo} {b o : Nat} (h : f.At w b o) {i : Nat} (hi : i < f.len) :
    ∃ k n ks r A C, Hid (f.drop i = cons k n ks r) ∧ Hid (f.drop (i + 1) = r) ∧ w.cell? ⟨b, o + i * 3, none⟩ = some (.int .i64 k) ∧ w.cell? ⟨b, o + i * 3 + 1, none⟩ = some (.int .i64 n) ∧ w.cell? ⟨b, o + i * 3 + 2, none⟩ = some (.slice A ks.len C) ∧ ks.Lies w A := by
  obtain ⟨k, n, ks, r, e1, e2⟩ := f.drop_lt i hi
  have h' := at_drop h i
  rw [e1] at h'
  obtain ⟨h0, h1, ⟨A, C, h2, h3⟩, _⟩ := h'
  exact ⟨k, n, ks, r, A, C, e1, e2, h0, h1, h2, h3⟩

end Fo
end Go.Proofs.YtcgbepmhfimbjaaGreatDoor
