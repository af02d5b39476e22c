/- Contracts of spec.l01True, impl.emptyAt. -/
import Derived.Test.YtmblgkpgfofceaaDoorAssert
namespace Go.Proofs.YtmblgkpgfofceaaDoor
open Go.RowKit

/-- Whether a test holds at an atom. -/
def bitB (x n : Int) : Bool := decide (x / 2 ^ n.toNat % 2 = 1)
namespace Nd
/-- Whether a node has the word of length 0 with an atom. -/
def emptyB (x : Int) : Nd → Bool
  | zero | act _ => false
  | one | star _ => true
  | test n => bitB x n
  | not a => !a.emptyB x
  | sum a b => a.emptyB x || b.emptyB x
  | dot a b => a.emptyB x && b.emptyB x
/-- All tests are among the first three. -/
def okT : Nd → Prop
  | zero | one | act _ => True
  | test n => 0 ≤ n ∧ n ≤ 2
  | not a | star a => a.okT
  | sum a b | dot a b => a.okT ∧ b.okT
end Nd

theorem ndE_okT (t a : Int) (ht : t ≤ 3) : ∀ (N : Nat) (f : Fo), f.nodes < N → ∀ (b : Bool) (k n : Int), treeE t a b k n f = true → (ndE f k n).okT := by
  intro N
  induction N with
  | zero => intro f hN; exact absurd hN (Nat.not_lt_zero _)
  | succ N ih =>
    intro f hN b k n h
    rcases tree_forms h with ⟨rfl, hk⟩ | ⟨k1, n1, f1, rfl, hk, h1⟩ | ⟨k1, n1, f1, k2, n2, f2, rfl, hk, h1, h2⟩
    · rcases hk with rfl | rfl | ⟨rfl, hn, hn'⟩ | ⟨rfl, _, _⟩
      · trivial
      · trivial
      · show 0 ≤ n ∧ n ≤ 2; omega
      · trivial
    · have := ih f1 (by simp only [Fo.nodes] at hN; omega) _ k1 n1 h1
      rcases hk with rfl | rfl <;> exact this
    · have g1 := ih f1 (by simp only [Fo.nodes] at hN; omega) _ k1 n1 h1
      have g2 := ih f2 (by simp only [Fo.nodes] at hN; omega) _ k2 n2 h2
      rcases hk with rfl | rfl <;> exact ⟨g1, g2⟩

theorem val_iface (a : Nd) : ∃ (T : TypeId) (x : Value), a.val = .iface T x := by
  cases a <;> exact ⟨_, _, rfl⟩

end Go.Proofs.YtmblgkpgfofceaaDoor
