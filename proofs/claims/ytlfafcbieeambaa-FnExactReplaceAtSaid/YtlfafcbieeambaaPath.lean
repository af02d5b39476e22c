/- Paths: the node to which a path leads. Plain facts, no walk. -/
import Derived.Test.YtlfafcbieeambaaTreeD
import Derived.Test.YtlfafcbieeambaaInts
namespace Go.Proofs.Ytlfafcbieeambaa
open Go.RowKit

/-- The node to which a path leads, and whether it lies below a negation. -/
def walkP : List Int → Int → Int → Fo → Bool → Option (Int × Int × Fo × Bool)
  | [], k, n, f, b => some (k, n, f, b)
  | i :: r, k, _, f, b => if 0 ≤ i ∧ i < (f.len : Int) then (match f.drop i.toNat with | .cons k' n' ks _ => walkP r k' n' ks (b || k == 5) | .nil => none) else none

theorem walkP_no {xs : List Int} {j : Nat} (hj : j < xs.length) {k n : Int} {f : Fo} {b : Bool} (h : ¬ (0 ≤ nth xs j ∧ nth xs j < (f.len : Int))) : walkP (xs.drop j) k n f b = none := by
  rw [drop_getD xs j hj]; simp only [walkP]; rw [if_neg h]
theorem walkP_step {xs : List Int} {j : Nat} (hj : j < xs.length) {k n : Int} {f : Fo} {b : Bool} {k' n' : Int} {ks r : Fo} (h0 : 0 ≤ nth xs j) (h1 : nth xs j < (f.len : Int)) (e : f.drop (nth xs j).toNat = .cons k' n' ks r) :
    walkP (xs.drop j) k n f b = walkP (xs.drop (j + 1)) k' n' ks (b || k == 5) := by
  rw [drop_getD xs j hj]; simp only [walkP]; rw [if_pos ⟨h0, h1⟩, e]
theorem walkP_end (xs : List Int) (k n : Int) (f : Fo) (b : Bool) : walkP (xs.drop xs.length) k n f b = some (k, n, f, b) := by simp [walkP]

theorem tree_drop {t a : Int} {b : Bool} (f : Fo) : ∀ i, f.tree t a b = true → (f.drop i).tree t a b = true := by
  induction f with
  | nil => intro i h; cases i <;> exact h
  | cons k n ks r _ ih => intro i h; cases i with
    | zero => exact h
    | succ i => rw [Fo.tree_cons, Bool.and_eq_true] at h; exact ih i h.2

theorem walkP_tree {t a : Int} : ∀ (xs : List Int) {k n : Int} {f : Fo} {b c : Bool} {k' n' : Int} {f' : Fo} {b' : Bool}, treeE t a c k n f = true → walkP xs k n f b = some (k', n', f', b') → ∃ c', treeE t a c' k' n' f' = true := by
  intro xs
  induction xs with
  | nil => intro k n f b c k' n' f' b' h e; simp only [walkP, Option.some.injEq, Prod.mk.injEq] at e; obtain ⟨rfl, rfl, rfl, _⟩ := e; exact ⟨c, h⟩
  | cons i r ih =>
    intro k n f b c k' n' f' b' h e
    simp only [walkP] at e
    by_cases hi : 0 ≤ i ∧ i < (f.len : Int)
    · rw [if_pos hi] at e
      obtain ⟨k1, n1, ks, r1, e1, _⟩ := f.drop_lt i.toNat (by omega)
      rw [e1] at e
      have ht : f.tree t a (c || k == 5) = true := by
        have := h; unfold treeE at this; simp only [Bool.and_eq_true] at this; exact this.2
      have h2 := tree_drop f i.toNat ht
      rw [e1, Fo.tree_cons, Bool.and_eq_true] at h2
      exact ih h2.1 e
    · rw [if_neg hi] at e; cases e

theorem walkP_nodes : ∀ (xs : List Int) {k n : Int} {f : Fo} {b : Bool} {k' n' : Int} {f' : Fo} {b' : Bool}, walkP xs k n f b = some (k', n', f', b') → f'.nodes ≤ f.nodes := by
  intro xs
  induction xs with
  | nil => intro k n f b k' n' f' b' e; simp only [walkP, Option.some.injEq, Prod.mk.injEq] at e; obtain ⟨rfl, rfl, rfl, _⟩ := e; exact Nat.le_refl _
  | cons i r ih =>
    intro k n f b k' n' f' b' e
    simp only [walkP] at e
    by_cases hi : 0 ≤ i ∧ i < (f.len : Int)
    · rw [if_pos hi] at e
      obtain ⟨k1, n1, ks, r1, e1, _⟩ := f.drop_lt i.toNat (by omega)
      rw [e1] at e
      have h1 := f.nodes_drop i.toNat
      rw [e1] at h1
      simp only [Fo.nodes] at h1
      have := ih e
      omega
    · rw [if_neg hi] at e; cases e

theorem or5 (b : Bool) (k : Int) : (b || k == 5) = (if b then true else (k == 5)) := by cases b <;> rfl
end Go.Proofs.Ytlfafcbieeambaa
