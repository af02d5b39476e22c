/- The places of what is true, as a list; numbers that rise. Plain facts. -/
import Derived.Test.YtlpgkhdecccmlaaRInts
namespace Go.Proofs.YtlpgkhdecccmlaaR
open Go.RowKit

def pickA (G : Nat → Bool) (m : Nat) : List Int := ((List.range m).filter G).map (fun i : Nat => (i : Int))
theorem pickA_len (G : Nat → Bool) (m : Nat) : (pickA G m).length ≤ m := by
  unfold pickA
  rw [List.length_map]
  exact Nat.le_trans (List.length_filter_le _ _) (by simp)
theorem pickA_yes {G : Nat → Bool} {j : Nat} (h : G j = true) : pickA G (j + 1) = pickA G j ++ [(j : Int)] := by
  unfold pickA
  rw [List.range_succ, List.filter_append, List.map_append]
  simp [h]
theorem pickA_no {G : Nat → Bool} {j : Nat} (h : G j = false) : pickA G (j + 1) = pickA G j := by
  unfold pickA
  rw [List.range_succ, List.filter_append, List.map_append]
  simp [h]
theorem pickA_congr {G H : Nat → Bool} {m : Nat} (h : ∀ i, i < m → G i = H i) : pickA G m = pickA H m := by
  unfold pickA
  rw [List.filter_congr fun i hi => h i (List.mem_range.1 hi)]
end Go.Proofs.YtlpgkhdecccmlaaR
