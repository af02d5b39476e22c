/- Actions that are replaced by expressions: values. Plain facts, no walk. -/
import Derived.Test.YtdcaelgojjnglaaExD
import Derived.Test.YtdcaelgojjnglaaPath
import Derived.Test.YtdcaelgojjnglaaTurn
namespace Go.Proofs.Ytdcaelgojjnglaa
open Go.RowKit

namespace Fo
/-- The expression of index i of a list. -/
def getE (B : Fo) (i : Nat) : Int × Int × Fo := match B.drop i with | cons k n ks _ => (k, n, ks) | nil => (0, 0, nil)
/-- .. with an action's element in its place. -/
def repl (B : Fo) : Fo → Fo
  | nil => nil
  | cons k n ks r => cons (if k = 4 then (B.getE n.toNat).1 else k) (if k = 4 then (B.getE n.toNat).2.1 else n) (if k = 4 then (B.getE n.toNat).2.2 else repl B ks) (repl B r)
def replE (B : Fo) (k n : Int) (f : Fo) : Int × Int × Fo := if k = 4 then B.getE n.toNat else (k, n, repl B f)

theorem repl_cons (B : Fo) (k n : Int) (ks r : Fo) : repl B (cons k n ks r) = cons (replE B k n ks).1 (replE B k n ks).2.1 (replE B k n ks).2.2 (repl B r) := by
  simp only [repl, replE]; split <;> rfl
theorem repl_len (B f : Fo) : (repl B f).len = f.len := by
  induction f with
  | nil => rfl
  | cons k n ks r _ ih => simp only [repl, len, ih]
theorem repl_drop (B : Fo) (f : Fo) : ∀ i, (repl B f).drop i = repl B (f.drop i) := by
  induction f with
  | nil => intro i; cases i <;> rfl
  | cons k n ks r _ ih => intro i; cases i with
    | zero => rfl
    | succ i => exact ih i
theorem getE_row {B : Fo} {i : Nat} {k n : Int} {ks r : Fo} (h : B.drop i = cons k n ks r) : B.getE i = (k, n, ks) := by unfold getE; rw [h]
theorem getE_tree {t a : Int} {B : Fo} (h : B.tree t a false = true) {i : Nat} (hi : i < B.len) : treeE t a false (B.getE i).1 (B.getE i).2.1 (B.getE i).2.2 = true := by
  obtain ⟨k, n, ks, r, e, _⟩ := B.drop_lt i hi
  have := tree_drop B i h
  rw [e, tree_cons, Bool.and_eq_true] at this
  rw [getE_row e]; exact this.1
theorem repl_cond {t a : Int} (B : Fo) (f : Fo) : f.tree t a true = true → repl B f = f := by
  induction f with
  | nil => intro _; rfl
  | cons k n ks r ihk ihr =>
    intro h
    rw [tree_cons, Bool.and_eq_true] at h
    have h1 := h.1
    unfold treeE at h1
    simp only [Bool.and_eq_true, Bool.not_true, Bool.false_or, Bool.true_or] at h1
    have hk : k ≠ 4 := by rintro rfl; exact absurd h1.1.2 (by decide)
    simp only [repl, if_neg hk]
    rw [ihk h1.2, ihr h.2]
theorem repl_tree {t a : Int} {B : Fo} (hB : B.tree t a false = true) (hl : (B.len : Int) = a) (f : Fo) : ∀ b : Bool, f.tree t a b = true → (repl B f).tree t a b = true := by
  induction f with
  | nil => intro b h; exact h
  | cons k n ks r ihk ihr =>
    intro b h
    have h0 := h
    rw [tree_cons, Bool.and_eq_true] at h
    rw [repl_cons, tree_cons, Bool.and_eq_true]
    refine ⟨?_, ihr b h.2⟩
    have h1 := h.1
    unfold treeE shapeB at h1
    simp only [Bool.and_eq_true, decide_eq_true_eq] at h1
    by_cases hk : k = 4
    · subst hk
      have hb : b = false := by cases b with | false => rfl | true => exact absurd h1.1.2 (by decide)
      subst hb
      simp only [replE, if_pos]
      refine getE_tree hB ?_
      have := h1.1.1.2
      rw [show numC t a 4 = a from rfl] at this
      omega
    · simp only [replE, if_neg hk]
      unfold treeE shapeB
      rw [repl_len]
      simp only [Bool.and_eq_true, decide_eq_true_eq]
      exact ⟨h1.1, ihk _ h1.2⟩
theorem replE_tree {t a : Int} {B : Fo} (hB : B.tree t a false = true) (hl : (B.len : Int) = a) {b : Bool} {k n : Int} {f : Fo} (h : treeE t a b k n f = true) : treeE t a b (replE B k n f).1 (replE B k n f).2.1 (replE B k n f).2.2 = true := by
  have := repl_tree hB hl (cons k n f nil) b (by rw [tree_cons, h]; rfl)
  rw [repl_cons, tree_cons, Bool.and_eq_true] at this
  exact this.1
/-- No element is larger. -/
def Most (M : Nat) : Fo → Prop
  | nil => True
  | cons _ _ ks r => 1 + ks.nodes ≤ M ∧ r.Most M
theorem most_get {M : Nat} (B : Fo) : B.Most M → ∀ i, 1 ≤ M → 1 + (B.getE i).2.2.nodes ≤ M := by
  induction B with
  | nil => intro _ i h; cases i <;> simpa [getE, drop, nodes] using h
  | cons k n ks r _ ih => intro hm i h; cases i with
    | zero => simpa [getE, drop] using hm.1
    | succ i => exact ih hm.2 i h
theorem repl_nodes {M : Nat} (B : Fo) (hM : B.Most M) (h1 : 1 ≤ M) (f : Fo) : (repl B f).nodes ≤ f.nodes * M := by
  induction f with
  | nil => exact Nat.zero_le _
  | cons k n ks r ihk ihr =>
    rw [repl_cons]
    simp only [nodes, replE]
    have e : (1 + ks.nodes + r.nodes) * M = M + ks.nodes * M + r.nodes * M := by rw [Nat.add_mul, Nat.add_mul, Nat.one_mul]
    rw [e]
    split
    · have := most_get B hM n.toNat h1
      omega
    · show 1 + (repl B ks).nodes + _ ≤ _
      omega
theorem replE_nodes {M : Nat} (B : Fo) (hM : B.Most M) (h1 : 1 ≤ M) (k n : Int) (f : Fo) : 1 + (replE B k n f).2.2.nodes ≤ (1 + f.nodes) * M := by
  have := repl_nodes B hM h1 (cons k n f nil)
  rw [repl_cons] at this
  simp only [nodes, Nat.add_zero] at this
  exact this
theorem take_row (f : Fo) : ∀ (j : Nat) {k n : Int} {ks r : Fo}, f.drop j = .cons k n ks r → (f.take (j + 1)).nodes = (f.take j).nodes + 1 + ks.nodes := by
  induction f with
  | nil => intro j k n ks r h; cases j <;> cases h
  | cons k0 n0 ks0 r0 _ ih =>
    intro j k n ks r h
    cases j with
    | zero => cases h; simp only [take, take_zero, nodes]; omega
    | succ j => have := ih j h; simp only [take, nodes] at this ⊢; omega
theorem take_nodes (f : Fo) : ∀ j, (f.take j).nodes ≤ f.nodes := by
  induction f with
  | nil => intro j; cases j <;> exact Nat.le_refl _
  | cons k n ks r _ ih => intro j; cases j with
    | zero => exact Nat.zero_le _
    | succ j => have := ih j; simp only [take, nodes]; omega
end Fo

/-- The nodes of a list. -/
def nds : Fo → List Nd
  | .nil => []
  | .cons k n ks r => ndE ks k n :: nds r
theorem nds_len (B : Fo) : (nds B).length = B.len := by
  induction B with
  | nil => rfl
  | cons k n ks r _ ih => simp [nds, Fo.len, ih]
theorem nds_get (B : Fo) : ∀ i, i < B.len → (nds B).getD i .zero = ndE (B.getE i).2.2 (B.getE i).1 (B.getE i).2.1 := by
  induction B with
  | nil => intro i h; simp [Fo.len] at h
  | cons k n ks r _ ih => intro i h; cases i with
    | zero => simp [nds, Fo.getE, Fo.drop]
    | succ i => simpa [nds, Fo.getE, Fo.drop] using ih i (by simpa [Fo.len] using h)

namespace Nd
def repl (ns : List Nd) : Nd → Nd
  | act x => ns.getD x.toNat .zero
  | sum a b => sum (repl ns a) (repl ns b)
  | dot a b => dot (repl ns a) (repl ns b)
  | star a => star (repl ns a)
  | d => d
/-- Its actions are below m. -/
def acts (m : Nat) : Nd → Prop
  | act x => 0 ≤ x ∧ x < (m : Int)
  | sum a b => a.acts m ∧ b.acts m
  | dot a b => a.acts m ∧ b.acts m
  | star a => a.acts m
  | _ => True
end Nd

theorem ndE_repl {t a : Int} {B : Fo} (hl : (B.len : Int) = a) : ∀ (N : Nat) (f : Fo), f.nodes < N → ∀ (b : Bool) (k n : Int), treeE t a b k n f = true →
    (ndE f k n).repl (nds B) = ndE (Fo.replE B k n f).2.2 (Fo.replE B k n f).1 (Fo.replE B k n f).2.1 ∧ (ndE f k n).acts B.len := by
  intro N
  induction N with
  | zero => intro f h; exact absurd h (Nat.not_lt_zero _)
  | succ N ih =>
    intro f hN b k n h
    have h0 := h
    rcases tree_forms h with ⟨rfl, hk⟩ | ⟨k1, n1, f1, rfl, hk, h1⟩ | ⟨k1, n1, f1, k2, n2, f2, rfl, hk, h1, h2⟩
    · rcases hk with rfl | rfl | ⟨rfl, _⟩ | ⟨rfl, h3, h4⟩
      · exact ⟨rfl, trivial⟩
      · exact ⟨rfl, trivial⟩
      · exact ⟨rfl, trivial⟩
      · refine ⟨?_, h3, by omega⟩
        have := nds_get B n.toNat (by omega)
        simpa [ndE, leaf, Nd.repl, Fo.replE] using this
    · have i1 := ih f1 (by simp only [Fo.nodes] at hN; omega) _ k1 n1 h1
      rcases hk with rfl | rfl
      · have hc : Fo.repl B (.cons k1 n1 f1 .nil) = .cons k1 n1 f1 .nil := by
          refine Fo.repl_cond (t := t) (a := a) B _ ?_
          rw [Fo.tree_cons]
          have : (b || (5 : Int) == 5) = true := by cases b <;> rfl
          rw [this] at h1
          rw [h1]; rfl
        refine ⟨?_, trivial⟩
        show Nd.not (ndE f1 k1 n1) = ndE (Fo.repl B (.cons k1 n1 f1 .nil)) 5 n
        rw [hc]; rfl
      · refine ⟨?_, i1.2⟩
        show Nd.star ((ndE f1 k1 n1).repl (nds B)) = ndE (Fo.repl B (.cons k1 n1 f1 .nil)) 8 n
        rw [i1.1, Fo.repl_cons]; rfl
    · have i1 := ih f1 (by simp only [Fo.nodes] at hN; omega) _ k1 n1 h1
      have i2 := ih f2 (by simp only [Fo.nodes] at hN; omega) _ k2 n2 h2
      rcases hk with rfl | rfl
      · refine ⟨?_, i1.2, i2.2⟩
        show Nd.sum ((ndE f1 k1 n1).repl (nds B)) ((ndE f2 k2 n2).repl (nds B)) = ndE (Fo.repl B (.cons k1 n1 f1 (.cons k2 n2 f2 .nil))) 6 n
        rw [i1.1, i2.1, Fo.repl_cons, Fo.repl_cons]; rfl
      · refine ⟨?_, i1.2, i2.2⟩
        show Nd.dot ((ndE f1 k1 n1).repl (nds B)) ((ndE f2 k2 n2).repl (nds B)) = ndE (Fo.repl B (.cons k1 n1 f1 (.cons k2 n2 f2 .nil))) 7 n
        rw [i1.1, i2.1, Fo.repl_cons, Fo.repl_cons]; rfl

/-- All expressions of a list are valid. -/
def validL (t a : Int) : Fo → Bool
  | .nil => true
  | .cons k n ks r => validE t a k n ks && validL t a r
theorem validL_tree {t a : Int} (B : Fo) : validL t a B = true → B.tree t a false = true := by
  induction B with
  | nil => intro _; rfl
  | cons k n ks r _ ih =>
    intro h
    simp only [validL, Bool.and_eq_true] at h
    rw [Fo.tree_cons, Bool.and_eq_true]
    refine ⟨?_, ih h.2⟩
    have h1 := h.1
    unfold validE at h1
    simp only [Bool.and_eq_true] at h1
    exact h1.2
theorem validL_most {t a : Int} (B : Fo) : validL t a B = true → B.Most 200 := by
  induction B with
  | nil => intro _; trivial
  | cons k n ks r _ ih =>
    intro h
    simp only [validL, Bool.and_eq_true] at h
    refine ⟨?_, ih h.2⟩
    have h1 := h.1
    unfold validE at h1
    simp only [Bool.and_eq_true, decide_eq_true_eq] at h1
    omega
theorem validL_row {t a : Int} {B : Fo} {j : Nat} {k n : Int} {ks r : Fo} (h : B.drop j = .cons k n ks r) : validL t a (B.drop j) = (validE t a k n ks && validL t a (B.drop (j + 1))) := by
  have e2 : B.drop (j + 1) = r := by
    obtain ⟨k', n', ks', r', e, e'⟩ := B.drop_lt j (by
      by_cases hj : j < B.len
      · exact hj
      · have hz := B.len_drop j; rw [h] at hz; simp only [Fo.len] at hz; omega)
    rw [h] at e; cases e; exact e'
  rw [h, e2]; rfl
end Go.Proofs.Ytdcaelgojjnglaa
