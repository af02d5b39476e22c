/- What BisimText answers. Plain facts, no walk. -/
import Derived.Test.YtojheipllpkgdaaDoorPpS
import Derived.Test.YtojheipllpkgdaaDoorTx
namespace Go.Proofs.YtojheipllpkgdaaDoor
open Go.RowKit
def pairT (lk ln : Int) (lf : Fo) (rk rn : Int) (rf : Fo) : List UInt8 := (ndE lf lk ln).tx ++ [32, 61, 32] ++ (ndE rf rk rn).tx ++ [10]
def Pp.txt : Pp → List UInt8
  | .nil => []
  | .cons lk ln lf rk rn rf r => pairT lk ln lf rk rn rf ++ r.txt
def bisT (t a : Int) (xs : Pp) : List UInt8 := if listedB t a xs = true then xs.txt else []
theorem formP_tree {t a k n : Int} {f : Fo} (h : formP t a k n f = true) : treeE t a false k n f = true := by
  unfold formP at h
  rw [Bool.and_eq_true] at h
  exact h.2
theorem pairF_both {t a lk ln rk rn : Int} {lf rf : Fo} (h : pairF t a lk ln lf rk rn rf = true) : treeE t a false lk ln lf = true ∧ treeE t a false rk rn rf = true := by
  unfold pairF at h
  rw [Bool.and_eq_true] at h
  exact ⟨formP_tree h.1, formP_tree h.2⟩
theorem tree_len {t a k n : Int} {f : Fo} (ht : t ≤ 3) (ha : a ≤ 4) (h : treeE t a false k n f = true) : (ndE f k n).tx.length ≤ 5 * (1 + f.nodes) := by
  have h1 := Nd.tx_len (ndE_okD t a ht ha (f.nodes + 1) f (Nat.lt_succ_self _) false k n h)
  have h2 := ndE_size f k n
  omega
theorem pairT_len {t a lk ln rk rn : Int} {lf rf : Fo} (ht : t ≤ 3) (ha : a ≤ 4) (h : pairF t a lk ln lf rk rn rf = true) : (pairT lk ln lf rk rn rf).length ≤ 14 * (1 + lf.nodes + rf.nodes) := by
  have h1 := tree_len ht ha (pairF_both h).1
  have h2 := tree_len ht ha (pairF_both h).2
  simp only [pairT, List.length_append, List.length_cons, List.length_nil]
  omega
theorem Pp.txt_len {t a : Int} (ht : t ≤ 3) (ha : a ≤ 4) : ∀ xs : Pp, xs.form t a = true → xs.txt.length ≤ 14 * xs.nodes
  | .nil, _ => Nat.zero_le _
  | .cons lk ln lf rk rn rf r, h => by
    have h' : (pairF t a lk ln lf rk rn rf && r.form t a) = true := h
    rw [Bool.and_eq_true] at h'
    have h1 := pairT_len ht ha h'.1
    have h2 := Pp.txt_len ht ha r h'.2
    show (pairT lk ln lf rk rn rf ++ r.txt).length ≤ 14 * (1 + lf.nodes + rf.nodes + r.nodes)
    rw [List.length_append]
    omega
theorem listed_parts {t a : Int} {xs : Pp} (h : listedB t a xs = true) : (t ≤ 3 ∧ a ≤ 4) ∧ (xs.drop 0).form t a = true := by
  unfold listedB at h
  rw [Bool.and_eq_true] at h
  have hs := sigOk_of h.2
  exact ⟨⟨hs.2.1, hs.2.2.2⟩, by have h1 := h.1; cases xs <;> exact h1⟩
theorem Pp.txt_drop0 (xs : Pp) : (xs.drop 0).txt = xs.txt := by cases xs <;> rfl
end Go.Proofs.YtojheipllpkgdaaDoor
