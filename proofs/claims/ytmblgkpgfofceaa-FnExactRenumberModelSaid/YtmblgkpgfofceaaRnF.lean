/- RenumberModel: sorted lists that rise. Plain facts. -/
import Derived.Test.YtmblgkpgfofceaaRnD
import Derived.Test.YtmblgkpgfofceaaRsMD
namespace Go.Proofs.Ytmblgkpgfofceaa
open Go.RowKit
set_option linter.unusedVariables false

theorem has_at_mem {xs : List Int} {n : Int} (h : n ∈ xs) : hasB xs n = true := decide_eq_true h
theorem asc_le {n : Int} {ys : List Int} (h : ascB n ys = true) : ∀ d j : Nat, j + d + 1 = ys.length → nth ys j ≤ n - 1 - d
  | 0, j, hj => by have := (asc_bd h (j := j) (by omega)).2; omega
  | d + 1, j, hj => by
    have h1 := asc_le h d (j + 1) (by omega)
    have h2 := asc_at h (j := j + 1) (by omega)
    unfold ascAt at h2
    simp only [Bool.and_eq_true, Bool.or_eq_true, decide_eq_true_eq, Nat.add_sub_cancel] at h2
    omega
/-- A sorted list of p numbers rises below p just where all numbers below p are among them. -/
theorem asc_rn {p : Int} {xs ys : List Int} (hp : ys.Perm xs) (hs : ys.Pairwise (· ≤ ·)) (hl : (xs.length : Int) = p) : ascB p ys = rnB p xs := by
  have hyl : ys.length = xs.length := hp.length_eq
  cases hb : rnB p xs
  · cases ha : ascB p ys
    · rfl
    · exfalso
      have hall : rnB p xs = true := by
        unfold rnB
        rw [List.all_eq_true]
        intro x hx
        have hx := List.mem_range.1 hx
        have h1 := asc_ge ha x (by omega)
        have h2 := asc_le ha (ys.length - 1 - x) x (by omega)
        refine has_at_mem (hp.mem_iff.1 ?_)
        have e : nth ys x = (x : Int) := by omega
        rw [← e, nth_get (show x < ys.length by omega)]
        exact List.getElem_mem _
      rw [hall] at hb
      cases hb
  · have hf := full xs.length xs rfl fun x hx => rn_mem hb (by omega)
    have hnd : ys.Nodup := hp.nodup_iff.2 hf.2
    unfold ascB
    rw [List.all_eq_true]
    intro i hi
    have hi := List.mem_range.1 hi
    have hm := hf.1 _ (hp.mem_iff.1 (List.getElem_mem hi))
    unfold ascAt belowB
    rw [nth_get hi]
    simp only [Bool.and_eq_true, Bool.or_eq_true, decide_eq_true_eq]
    refine ⟨⟨hm.1, by omega⟩, ?_⟩
    rcases Nat.eq_zero_or_pos i with h0 | h0
    · exact Or.inl h0
    · refine Or.inr ?_
      rw [nth_get (show i - 1 < ys.length by omega)]
      have h1 := List.pairwise_iff_getElem.1 hs (i - 1) i (by omega) hi (by omega)
      have h2 := List.pairwise_iff_getElem.1 hnd (i - 1) i (by omega) hi (by omega)
      have h1' : ys[i - 1] ≤ ys[i] := h1
      have h2' : ys[i - 1] ≠ ys[i] := h2
      omega
end Go.Proofs.Ytmblgkpgfofceaa
