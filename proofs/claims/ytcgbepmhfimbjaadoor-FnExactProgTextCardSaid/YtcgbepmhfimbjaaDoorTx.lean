/- The texts of nodes, as bytes. Plain facts, no walk. -/
import Derived.Test.YtcgbepmhfimbjaaDoorNd
import Derived.Lib.ItoaNum
namespace Go.Proofs.YtcgbepmhfimbjaaDoor
open Go.RowKit
namespace Nd
/-- The text of a node's expression. -/
def tx : Nd → List UInt8
  | zero => [48]
  | one => [49]
  | test n => 116 :: Lib.decDigits n.toNat
  | act n => 97 :: Lib.decDigits n.toNat
  | not a => 126 :: a.tx
  | sum a b => 40 :: (a.tx ++ ([32, 43, 32] ++ (b.tx ++ [41])))
  | dot a b => 40 :: (a.tx ++ ([32] ++ (b.tx ++ [41])))
  | star a => a.tx ++ [42]
/-- All numbers have one digit. -/
def okD : Nd → Prop
  | zero | one => True
  | test n | act n => 0 ≤ n ∧ n < 10
  | not a | star a => a.okD
  | sum a b | dot a b => a.okD ∧ b.okD
theorem dig_len {n : Int} (h : n < 10) : (Lib.decDigits n.toNat).length = 1 := by
  rw [Lib.decDigits_one (by omega)]; rfl
theorem tx_len {a : Nd} : a.okD → a.tx.length ≤ 5 * a.size := by
  induction a with
  | zero | one => intro _; decide
  | test n | act n => intro h; have := dig_len h.2; simp only [tx, size, List.length_cons]; omega
  | not a ih => intro h; have := ih h; simp only [tx, size, List.length_cons]; omega
  | star a ih => intro h; have := ih h; simp only [tx, size, List.length_append, List.length_cons, List.length_nil]; omega
  | sum a b iha ihb | dot a b iha ihb =>
    intro h
    have := iha h.1
    have := ihb h.2
    simp only [tx, size, List.length_append, List.length_cons, List.length_nil]
    omega
end Nd
/-- .. of the expressions of the table. -/
theorem ndE_okD (t a : Int) (ht : t ≤ 3) (ha : a ≤ 4) : ∀ (N : Nat) (f : Fo), f.nodes < N → ∀ (b : Bool) (k n : Int), treeE t a b k n f = true → (ndE f k n).okD := by
  intro N
  induction N with
  | zero => intro f hN; exact absurd hN (Nat.not_lt_zero _)
  | succ N ih =>
    intro f hN b k n h
    rcases tree_forms h with ⟨rfl, hk⟩ | ⟨k1, n1, f1, rfl, hk, h1⟩ | ⟨k1, n1, f1, k2, n2, f2, rfl, hk, h1, h2⟩
    · rcases hk with rfl | rfl | ⟨rfl, hn, hn'⟩ | ⟨rfl, hn, hn'⟩
      · trivial
      · trivial
      · show 0 ≤ n ∧ n < 10; omega
      · show 0 ≤ n ∧ n < 10; omega
    · have := ih f1 (by simp only [Fo.nodes] at hN; omega) _ k1 n1 h1
      rcases hk with rfl | rfl <;> exact this
    · have g1 := ih f1 (by simp only [Fo.nodes] at hN; omega) _ k1 n1 h1
      have g2 := ih f2 (by simp only [Fo.nodes] at hN; omega) _ k2 n2 h2
      rcases hk with rfl | rfl <;> exact ⟨g1, g2⟩
/-- A string of bytes, as a value. -/
def str (l : List UInt8) : Value := .string ⟨l.toArray⟩
end Go.Proofs.YtcgbepmhfimbjaaDoor
