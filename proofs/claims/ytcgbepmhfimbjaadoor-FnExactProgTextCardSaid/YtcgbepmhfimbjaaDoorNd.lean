/- Nodes: what impl's node values are. Plain facts, no walk. -/
import Derived.Test.YtcgbepmhfimbjaaDoorTreeD
namespace Go.Proofs.YtcgbepmhfimbjaaDoor
open Go.RowKit

inductive Nd where
  | zero
  | one
  | test (n : Int)
  | act (n : Int)
  | not (a : Nd)
  | sum (a b : Nd)
  | dot (a b : Nd)
  | star (a : Nd)
deriving DecidableEq, Inhabited

namespace Nd
def size : Nd → Nat
  | zero | one | test _ | act _ => 1
  | not a | star a => 1 + a.size
  | sum a b | dot a b => 1 + a.size + b.size
def val : Nd → Value
  | zero => .iface 108 (.agg #[])
  | one => .iface 95 (.agg #[])
  | test n => .iface 97 (.agg #[.int .i64 n])
  | act n => .iface 98 (.agg #[.int .i64 n])
  | not a => .iface 100 (.agg #[a.val, .int .i64 (1 + a.size : Nat)])
  | sum a b => .iface 102 (.agg #[a.val, b.val, .int .i64 (1 + a.size + b.size : Nat)])
  | dot a b => .iface 103 (.agg #[a.val, b.val, .int .i64 (1 + a.size + b.size : Nat)])
  | star a => .iface 104 (.agg #[a.val, .int .i64 (1 + a.size : Nat)])
end Nd

/-- The node of an expression without kids. -/
def leaf (k n : Int) : Nd := if k = 2 then .one else if k = 3 then .test n else if k = 4 then .act n else .zero
/-- The node of an expression. -/
def ndE : Fo → Int → Int → Nd
  | .nil, k, n => leaf k n
  | .cons k1 n1 f1 .nil, k, n => if k = 5 then .not (ndE f1 k1 n1) else if k = 8 then .star (ndE f1 k1 n1) else leaf k n
  | .cons k1 n1 f1 (.cons k2 n2 f2 _), k, n => if k = 6 then .sum (ndE f1 k1 n1) (ndE f2 k2 n2) else if k = 7 then .dot (ndE f1 k1 n1) (ndE f2 k2 n2) else leaf k n

/-- The forms that an expression of the table has. -/
theorem tree_forms {t a : Int} {b : Bool} {k n : Int} {f : Fo} (h : treeE t a b k n f = true) :
    (f = .nil ∧ (k = 1 ∨ k = 2 ∨ (k = 3 ∧ 0 ≤ n ∧ n < t) ∨ (k = 4 ∧ 0 ≤ n ∧ n < a))) ∨
    (∃ k1 n1 f1, f = .cons k1 n1 f1 .nil ∧ (k = 5 ∨ k = 8) ∧ treeE t a (b || k == 5) k1 n1 f1 = true) ∨
    (∃ k1 n1 f1 k2 n2 f2, f = .cons k1 n1 f1 (.cons k2 n2 f2 .nil) ∧ (k = 6 ∨ k = 7) ∧ treeE t a b k1 n1 f1 = true ∧ treeE t a b k2 n2 f2 = true) := by
  have h0 := h
  unfold treeE shapeB at h
  simp only [Bool.and_eq_true, decide_eq_true_eq] at h
  obtain ⟨⟨⟨h1, h2, h3⟩, h4⟩, h5⟩ := h
  have hk : (1 ≤ k ∧ k ≤ 4 ∧ f.len = 0) ∨ ((k = 5 ∨ k = 8) ∧ f.len = 1) ∨ ((k = 6 ∨ k = 7) ∧ f.len = 2) := by
    unfold kidC at h1
    split at h1
    · left; omega
    · split at h1
      · right; left; omega
      · split at h1
        · right; right; omega
        · omega
  rcases hk with ⟨hk1, hk2, hl⟩ | ⟨hk, hl⟩ | ⟨hk, hl⟩
  · left
    refine ⟨Fo.nil_of_len hl, ?_⟩
    unfold numC at h3
    split at h3
    · right; right; left; omega
    · split at h3
      · right; right; right; omega
      · omega
  · right; left
    match f, hl with
    | .cons k1 n1 f1 r, hl =>
      have hr : r = .nil := Fo.nil_of_len (by simp [Fo.len] at hl; omega)
      subst hr
      refine ⟨k1, n1, f1, rfl, hk, ?_⟩
      rw [Fo.tree_cons] at h5
      simp only [Bool.and_eq_true] at h5
      exact h5.1
  · right; right
    have hk5 : (k == 5) = false := by rw [beq_eq_false_iff_ne]; omega
    match f, hl with
    | .cons k1 n1 f1 (.cons k2 n2 f2 r), hl =>
      have hr : r = .nil := Fo.nil_of_len (by simp [Fo.len] at hl; omega)
      subst hr
      refine ⟨k1, n1, f1, k2, n2, f2, rfl, hk, ?_⟩
      rw [hk5, Bool.or_false, Fo.tree_cons, Fo.tree_cons] at h5
      simp only [Bool.and_eq_true] at h5
      exact ⟨h5.1, h5.2.1⟩
    | .cons _ _ _ .nil, hl => simp [Fo.len] at hl

theorem leaf_size (k n : Int) : (leaf k n).size = 1 := by
  unfold leaf; split
  · rfl
  · split
    · rfl
    · split <;> rfl
theorem ndE_size : ∀ (f : Fo) (k n : Int), (ndE f k n).size ≤ 1 + f.nodes
  | .nil, k, n => by simp [ndE, leaf_size, Fo.nodes]
  | .cons k1 n1 f1 .nil, k, n => by
    have h1 := ndE_size f1 k1 n1
    unfold ndE
    split
    · simp only [Nd.size, Fo.nodes]; omega
    · split
      · simp only [Nd.size, Fo.nodes]; omega
      · rw [leaf_size]; omega
  | .cons k1 n1 f1 (.cons k2 n2 f2 r), k, n => by
    have h1 := ndE_size f1 k1 n1
    have h2 := ndE_size f2 k2 n2
    unfold ndE
    split
    · simp only [Nd.size, Fo.nodes]; omega
    · split
      · simp only [Nd.size, Fo.nodes]; omega
      · rw [leaf_size]; omega
end Go.Proofs.YtcgbepmhfimbjaaDoor
