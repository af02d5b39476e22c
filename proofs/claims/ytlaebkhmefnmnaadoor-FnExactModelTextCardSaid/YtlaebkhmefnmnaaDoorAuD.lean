/- The text of an automaton, as a value. Plain facts, no walk. -/
import Derived.Test.YtlaebkhmefnmnaaDoorValAD
import Derived.Test.YtlaebkhmefnmnaaDoorTx
namespace Go.Proofs.YtlaebkhmefnmnaaDoor
open Go.RowKit

def cellT (x : Int) : List UInt8 := if x < 0 then [58, 46] else [58] ++ Lib.decDigits x.toNat
def cellsT : List Int → List UInt8
  | [] => []
  | x :: xs => cellT x ++ cellsT xs
def markT (b : Bool) : List UInt8 := if b then [32, 43] else [32, 45]
def rowT (b : Bool) (row : List Int) : List UInt8 := markT b ++ cellsT row
def rowsT : List Bool → List (List Int) → List UInt8
  | b :: bs, r :: rs => rowT b r ++ rowsT bs rs
  | _, _ => []
def stT (bs : List Bool) (rs : List (List Int)) : List UInt8 := [115, 116, 97, 116, 101] ++ (rowsT bs rs ++ [10])
def stsT : List (List Bool) → List (List (List Int)) → List UInt8
  | b :: bs, r :: rs => stT b r ++ stsT bs rs
  | _, _ => []
def autT (t a : Int) (ac : List (List Bool)) (nx : List (List (List Int))) : List UInt8 := ([97, 117, 116, 111, 109, 97, 116, 111, 110, 32] ++ Lib.decDigits t.toNat ++ [32] ++ Lib.decDigits a.toNat ++ [10]) ++ stsT ac nx
/-- What AutomatonText answers. -/
def auTx (t a : Int) (ac : List (List Bool)) (nx : List (List (List Int))) : List UInt8 := if validA t a ac nx = true then autT t a ac nx else []

theorem cellsT_step {xs : List Int} {j : Nat} (h : j < xs.length) : cellsT (xs.drop j) = cellT xs[j] ++ cellsT (xs.drop (j + 1)) := by
  rw [List.drop_eq_getElem_cons h]; rfl
theorem rowsT_step {bs : List Bool} {rs : List (List Int)} {j : Nat} (h : j < bs.length) (h2 : j < rs.length) : rowsT (bs.drop j) (rs.drop j) = rowT bs[j] rs[j] ++ rowsT (bs.drop (j + 1)) (rs.drop (j + 1)) := by
  rw [List.drop_eq_getElem_cons h, List.drop_eq_getElem_cons h2]; rfl
theorem rowsT_end (bs : List Bool) (rs : List (List Int)) : rowsT (bs.drop bs.length) rs = [] := by rw [List.drop_length]; cases rs <;> rfl
theorem stsT_step {bs : List (List Bool)} {rs : List (List (List Int))} {j : Nat} (h : j < bs.length) (h2 : j < rs.length) : stsT (bs.drop j) (rs.drop j) = stT bs[j] rs[j] ++ stsT (bs.drop (j + 1)) (rs.drop (j + 1)) := by
  rw [List.drop_eq_getElem_cons h, List.drop_eq_getElem_cons h2]; rfl
theorem stsT_end (bs : List (List Bool)) (rs : List (List (List Int))) : stsT (bs.drop bs.length) rs = [] := by rw [List.drop_length]; cases rs <;> rfl

theorem dec_len {n : Nat} (h : n < 100) : (Lib.decDigits n).length ≤ 2 := by
  by_cases h10 : n < 10
  · rw [Lib.decDigits_one h10]; simp
  · rw [Lib.decDigits_two h10 h]; simp
theorem cellT_len {x : Int} (h : x < 100) : (cellT x).length ≤ 3 := by
  unfold cellT
  split
  · simp
  · have := dec_len (n := x.toNat) (by omega)
    simp only [List.length_append, List.length_cons, List.length_nil]; omega
theorem cellsT_len (xs : List Int) (h : ∀ x ∈ xs, x < 100) : (cellsT xs).length ≤ 3 * xs.length := by
  induction xs with
  | nil => simp [cellsT]
  | cons x xs ih =>
    have h1 := cellT_len (h x (by simp))
    have h2 := ih (fun y hy => h y (by simp [hy]))
    simp only [cellsT, List.length_append, List.length_cons]; omega
theorem rowsT_len (m : Nat) : ∀ (bs : List Bool) (rs : List (List Int)), (∀ r ∈ rs, r.length ≤ m ∧ ∀ x ∈ r, x < 100) → (rowsT bs rs).length ≤ (2 + 3 * m) * bs.length
  | [], rs, _ => by cases rs <;> simp [rowsT]
  | b :: bs, [], _ => by simp [rowsT]
  | b :: bs, r :: rs, h => by
    have h1 := rowsT_len m bs rs (fun y hy => h y (by simp [hy]))
    have h2 := cellsT_len r (h r (by simp)).2
    have h3 := (h r (by simp)).1
    have h4 : (markT b).length = 2 := by cases b <;> rfl
    simp only [rowsT, rowT, List.length_append, List.length_cons, h4]
    have e : (2 + 3 * m) * (bs.length + 1) = (2 + 3 * m) * bs.length + (2 + 3 * m) := by rw [Nat.mul_add, Nat.mul_one]
    rw [e]
    omega
theorem stsT_len (m n : Nat) : ∀ (bs : List (List Bool)) (rs : List (List (List Int))), (∀ b ∈ bs, b.length ≤ n) → (∀ s ∈ rs, ∀ r ∈ s, r.length ≤ m ∧ ∀ x ∈ r, x < 100) → (stsT bs rs).length ≤ (6 + (2 + 3 * m) * n) * bs.length
  | [], rs, _, _ => by cases rs <;> simp [stsT]
  | b :: bs, [], _, _ => by simp [stsT]
  | b :: bs, r :: rs, hb, h => by
    have h1 := stsT_len m n bs rs (fun y hy => hb y (by simp [hy])) (fun y hy => h y (by simp [hy]))
    have h2 := rowsT_len m b r (h r (by simp))
    have h3 := Nat.mul_le_mul_left (2 + 3 * m) (hb b (by simp))
    simp only [stsT, stT, List.length_append, List.length_cons, List.length_nil]
    have e : (6 + (2 + 3 * m) * n) * (bs.length + 1) = (6 + (2 + 3 * m) * n) * bs.length + (6 + (2 + 3 * m) * n) := by rw [Nat.mul_add, Nat.mul_one]
    rw [e]
    omega
end Go.Proofs.YtlaebkhmefnmnaaDoor
