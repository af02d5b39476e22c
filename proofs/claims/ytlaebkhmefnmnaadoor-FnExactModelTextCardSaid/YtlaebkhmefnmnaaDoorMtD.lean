/- The text of a model, as a value. Plain facts, no walk. -/
import Derived.Test.YtlaebkhmefnmnaaDoorAtmD
import Derived.Test.YtlaebkhmefnmnaaDoorAuD
namespace Go.Proofs.YtlaebkhmefnmnaaDoor
open Go.RowKit

def bitT (b : Bool) : List UInt8 := if b then [49] else [48]
def bitsT : List Bool → List UInt8
  | [] => []
  | b :: r => bitT b ++ bitsT r
def tstsT : List (List Bool) → List UInt8
  | [] => []
  | r :: rs => ([116, 101, 115, 116, 32] ++ (bitsT r ++ [10])) ++ tstsT rs
def rowsB : List (List Bool) → List UInt8
  | [] => []
  | r :: rs => ([32] ++ bitsT r) ++ rowsB rs
def actsT : List (List (List Bool)) → List UInt8
  | [] => []
  | a :: r => ([97, 99, 116] ++ (rowsB a ++ [10])) ++ actsT r
def headT (t a p : Int) : List UInt8 := [109, 111, 100, 101, 108, 32] ++ Lib.decDigits t.toNat ++ [32] ++ Lib.decDigits a.toNat ++ [32] ++ Lib.decDigits p.toNat ++ [10]
def modT (t a p : Int) (ac : List (List Bool)) (nx : List (List (List Bool))) : List UInt8 := headT t a p ++ (tstsT ac ++ actsT nx)
/-- What ModelText answers. -/
def moTx (t a p : Int) (ac : List (List Bool)) (nx : List (List (List Bool))) : List UInt8 := if validM t a p ac nx = true then modT t a p ac nx else []

theorem bitsT_step {xs : List Bool} {j : Nat} (h : j < xs.length) : bitsT (xs.drop j) = bitT xs[j] ++ bitsT (xs.drop (j + 1)) := by
  rw [List.drop_eq_getElem_cons h]; rfl
theorem tstsT_step {xs : List (List Bool)} {j : Nat} (h : j < xs.length) : tstsT (xs.drop j) = ([116, 101, 115, 116, 32] ++ (bitsT xs[j] ++ [10])) ++ tstsT (xs.drop (j + 1)) := by
  rw [List.drop_eq_getElem_cons h]; rfl
theorem rowsB_step {xs : List (List Bool)} {j : Nat} (h : j < xs.length) : rowsB (xs.drop j) = ([32] ++ bitsT xs[j]) ++ rowsB (xs.drop (j + 1)) := by
  rw [List.drop_eq_getElem_cons h]; rfl
theorem actsT_step {xs : List (List (List Bool))} {j : Nat} (h : j < xs.length) : actsT (xs.drop j) = ([97, 99, 116] ++ (rowsB xs[j] ++ [10])) ++ actsT (xs.drop (j + 1)) := by
  rw [List.drop_eq_getElem_cons h]; rfl
theorem bitsT_len (xs : List Bool) : (bitsT xs).length = xs.length := by
  induction xs with
  | nil => rfl
  | cons b r ih => cases b <;> simp [bitsT, bitT, ih]
theorem tstsT_len (m : Nat) (xs : List (List Bool)) (h : ∀ x ∈ xs, x.length ≤ m) : (tstsT xs).length ≤ (6 + m) * xs.length := by
  induction xs with
  | nil => simp [tstsT]
  | cons x r ih =>
    have h1 := ih (fun y hy => h y (by simp [hy]))
    have h2 := h x (by simp)
    simp only [tstsT, List.length_append, List.length_cons, List.length_nil, bitsT_len]
    rw [Nat.mul_add, Nat.mul_one]
    omega
theorem rowsB_len (m : Nat) (xs : List (List Bool)) (h : ∀ x ∈ xs, x.length ≤ m) : (rowsB xs).length ≤ (1 + m) * xs.length := by
  induction xs with
  | nil => simp [rowsB]
  | cons x r ih =>
    have h1 := ih (fun y hy => h y (by simp [hy]))
    have h2 := h x (by simp)
    simp only [rowsB, List.length_append, List.length_cons, List.length_nil, bitsT_len]
    rw [Nat.mul_add, Nat.mul_one]
    omega
theorem actsT_len (xs : List (List (List Bool))) (h : ∀ x ∈ xs, x.length ≤ 8 ∧ ∀ y ∈ x, y.length ≤ 8) : (actsT xs).length ≤ 100 * xs.length := by
  induction xs with
  | nil => simp [actsT]
  | cons x r ih =>
    have h1 := ih (fun y hy => h y (by simp [hy]))
    have h2 := h x (by simp)
    have h3 := rowsB_len 8 x h2.2
    simp only [actsT, List.length_append, List.length_cons, List.length_nil]
    omega
/-- What is known of a valid model. -/
theorem mod_parts {t a p : Int} {ac : List (List Bool)} {nx : List (List (List Bool))} (hv : validM t a p ac nx = true) : (0 ≤ t ∧ t ≤ 3 ∧ 0 ≤ a ∧ a ≤ 4 ∧ 1 ≤ p ∧ p ≤ 8) ∧ ac.length ≤ 3 ∧ nx.length ≤ 4 ∧ (modT t a p ac nx).length ≤ 1000000 ∧ (∀ r ∈ ac, r.length ≤ 8) ∧ ∀ rows ∈ nx, rows.length ≤ 8 ∧ ∀ r ∈ rows, r.length ≤ 8 := by
  obtain ⟨h1, h2, h3, h4, h5, h6, h7, h8, h9, h10⟩ := validM_bd hv
  have ha : ∀ r ∈ ac, r.length ≤ 8 := fun r hr => by have := h9 r hr; omega
  have hn : ∀ rows ∈ nx, rows.length ≤ 8 ∧ ∀ r ∈ rows, r.length ≤ 8 := fun rows hr => ⟨by have := (h10 rows hr).1; omega, fun r hr2 => by have := (h10 rows hr).2 r hr2; omega⟩
  refine ⟨⟨h1, h2, h3, h4, h5, h6⟩, by omega, by omega, ?_, ha, hn⟩
  have l1 := tstsT_len 8 ac ha
  have l2 := actsT_len nx hn
  have d1 := dec_len (n := t.toNat) (by omega)
  have d2 := dec_len (n := a.toNat) (by omega)
  have d3 := dec_len (n := p.toNat) (by omega)
  unfold modT headT
  simp only [List.length_append, List.length_cons, List.length_nil]
  omega
end Go.Proofs.YtlaebkhmefnmnaaDoor
