/- When an expression has the form of the table. Plain facts, no walk. -/
import Derived.Test.YtcgbepmhfimbjaaGreatDoorCond
namespace Go.Proofs.YtcgbepmhfimbjaaGreatDoor
open Go.RowKit

def kidC (k : Int) : Int := if 1 ≤ k ∧ k ≤ 4 then 0 else if k = 5 ∨ k = 8 then 1 else if k = 6 ∨ k = 7 then 2 else -1
def numC (t a k : Int) : Int := if k = 3 then t else if k = 4 then a else 1
def shapeB (t a k n : Int) (len : Nat) : Bool := decide ((len : Int) = kidC k ∧ 0 ≤ n ∧ n < numC t a k)

namespace Fo
def tree (t a : Int) : Bool → Fo → Bool
  | _, nil => true
  | b, cons k n ks r => shapeB t a k n ks.len && (!b || condK k) && tree t a (b || k == 5) ks && tree t a b r
def deep : Fo → Nat
  | nil => 0
  | cons _ _ ks r => max (1 + ks.deep) r.deep
end Fo
def treeE (t a : Int) (b : Bool) (k n : Int) (f : Fo) : Bool := shapeB t a k n f.len && (!b || condK k) && f.tree t a (b || k == 5)
def validE (t a k n : Int) (f : Fo) : Bool := sigOk t a && decide (1 + f.nodes ≤ 200) && decide (1 + f.deep ≤ 40) && treeE t a false k n f

theorem Fo.tree_true (t a : Int) (f : Fo) : f.tree t a true = (f.tree t a false && f.cond) := by
  induction f with
  | nil => rfl
  | cons k n ks r ihk ihr =>
    simp only [Fo.tree, Fo.cond, Bool.true_or, Bool.false_or, Bool.not_true, Bool.not_false]
    rw [ihr, ihk]
    by_cases hk : k = 5
    · subst hk
      rw [show ((5 : Int) == 5) = true from rfl, ihk]
      cases shapeB t a 5 n ks.len <;> cases condK 5 <;> cases Fo.tree t a false ks <;> cases ks.cond <;> cases Fo.tree t a false r <;> cases r.cond <;> rfl
    · rw [show (k == 5) = false from by rw [beq_eq_false_iff_ne]; exact hk]
      cases shapeB t a k n ks.len <;> cases condK k <;> cases Fo.tree t a false ks <;> cases ks.cond <;> cases Fo.tree t a false r <;> cases r.cond <;> rfl

theorem Fo.tree_cons (t a : Int) (b : Bool) (k n : Int) (ks r : Fo) : (Fo.cons k n ks r).tree t a b = (treeE t a b k n ks && r.tree t a b) := rfl

theorem shape_no {t a k n : Int} {len : Nat} (h : (len : Int) ≠ kidC k) : shapeB t a k n len = false := decide_eq_false (fun h' => h h'.1)

theorem kidC_zero {k : Int} (h : k = 3 ∨ k = 4) : kidC k = 0 := by unfold kidC; rw [if_pos (by omega)]
theorem kidC_five : kidC 5 = 1 := by decide

theorem Fo.deep_le (f : Fo) : f.deep ≤ f.nodes := by
  induction f with
  | nil => exact Nat.le_refl _
  | cons k n ks r ihk ihr => simp only [deep, nodes]; omega

theorem Fo.nil_of_len {f : Fo} (h : f.len = 0) : f = .nil := by
  cases f with
  | nil => rfl
  | cons k n ks r => simp [Fo.len] at h

/-- The model's count of what is left. -/
def Fo.left : Fo → Int → Int
  | .nil, l => l
  | .cons _ _ ks r, l => if l < 0 then l else r.left (ks.left (l - 1))

theorem Fo.left_neg (f : Fo) {l : Int} (h : l < 0) : f.left l = l := by
  cases f with
  | nil => rfl
  | cons k n ks r => simp only [Fo.left]; rw [if_pos h]

theorem Fo.left_ge (f : Fo) : ∀ l : Int, -1 ≤ l → -1 ≤ f.left l ∧ f.left l ≤ l := by
  induction f with
  | nil => intro l h; exact ⟨h, Int.le_refl _⟩
  | cons k n ks r ihk ihr =>
    intro l h
    simp only [Fo.left]
    split
    · exact ⟨h, Int.le_refl _⟩
    · have h1 := ihk (l - 1) (by omega)
      have h2 := ihr _ h1.1
      omega

theorem Fo.left_val (f : Fo) : ∀ l : Int, -1 ≤ l → (f.nodes ≤ l → f.left l = l - f.nodes) ∧ (l < f.nodes → f.left l < 0) := by
  induction f with
  | nil => intro l h; simp only [Fo.left, Fo.nodes]; omega
  | cons k n ks r ihk ihr =>
    intro l h
    simp only [Fo.left, Fo.nodes]
    split
    · omega
    · have h1 := ihk (l - 1) (by omega)
      have hg := ks.left_ge (l - 1) (by omega)
      have h2 := ihr (ks.left (l - 1)) hg.1
      constructor
      · intro hle
        rw [h2.1 (by rw [h1.1 (by omega)]; omega), h1.1 (by omega)]
        omega
      · intro hlt
        by_cases hk : (ks.nodes : Int) ≤ l - 1
        · refine h2.2 ?_
          rw [h1.1 hk]; omega
        · have := h1.2 (by omega)
          rw [r.left_neg this]; exact this

theorem Fo.left_ok (f : Fo) (l : Int) (h : 0 ≤ l) : decide (0 ≤ f.left (l - 1)) = decide ((1 : Int) + f.nodes ≤ l) := by
  have hv := f.left_val (l - 1) (by omega)
  rw [decide_eq_decide]
  constructor
  · intro h1
    by_cases h2 : (f.nodes : Int) ≤ l - 1
    · omega
    · have := hv.2 (by omega); omega
  · intro h1
    rw [hv.1 (by omega)]; omega

end Go.Proofs.YtcgbepmhfimbjaaGreatDoor
