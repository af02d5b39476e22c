/- Sets of atoms: eight Booleans in a row. Plain facts. -/
import Derived.Test.YtlpgkhdecccmlaaRTruthT
import Derived.Test.YtlpgkhdecccmlaaRFill
namespace Go.Proofs.YtlpgkhdecccmlaaR
open Go.RowKit

/-- Eight cells. -/
def arr8 (f : Nat → Bool) : Array Value := #[.bool (f 0), .bool (f 1), .bool (f 2), .bool (f 3), .bool (f 4), .bool (f 5), .bool (f 6), .bool (f 7)]
theorem arr8_facts {W : World} {b : Nat} {T : TypeId} {f : Nat → Bool} (h : W.heap[b]? = some (.cells (arr8 f) T (0, 0))) :
    W.cell? ⟨b, 0, none⟩ = some (.bool (f 0)) ∧ W.cell? ⟨b, 1, none⟩ = some (.bool (f 1)) ∧ W.cell? ⟨b, 2, none⟩ = some (.bool (f 2)) ∧ W.cell? ⟨b, 3, none⟩ = some (.bool (f 3)) ∧ W.cell? ⟨b, 4, none⟩ = some (.bool (f 4)) ∧ W.cell? ⟨b, 5, none⟩ = some (.bool (f 5)) ∧ W.cell? ⟨b, 6, none⟩ = some (.bool (f 6)) ∧ W.cell? ⟨b, 7, none⟩ = some (.bool (f 7)) ∧ W.frozen? ⟨b, 0, none⟩ = false ∧ W.frozen? ⟨b, 1, none⟩ = false ∧ W.frozen? ⟨b, 2, none⟩ = false ∧ W.frozen? ⟨b, 3, none⟩ = false ∧ W.frozen? ⟨b, 4, none⟩ = false ∧ W.frozen? ⟨b, 5, none⟩ = false ∧ W.frozen? ⟨b, 6, none⟩ = false ∧ W.frozen? ⟨b, 7, none⟩ = false :=
  ⟨Fo.cell_of_block h 0, Fo.cell_of_block h 1, Fo.cell_of_block h 2, Fo.cell_of_block h 3, Fo.cell_of_block h 4, Fo.cell_of_block h 5, Fo.cell_of_block h 6, Fo.cell_of_block h 7, Fo.unfrozen_of_block h 0, Fo.unfrozen_of_block h 1, Fo.unfrozen_of_block h 2, Fo.unfrozen_of_block h 3, Fo.unfrozen_of_block h 4, Fo.unfrozen_of_block h 5, Fo.unfrozen_of_block h 6, Fo.unfrozen_of_block h 7⟩
theorem lt8 {j : Nat} (h : j < 8) : j = 0 ∨ j = 1 ∨ j = 2 ∨ j = 3 ∨ j = 4 ∨ j = 5 ∨ j = 6 ∨ j = 7 := by omega
/-- How many atoms there are. -/
def atomsNat (t : Int) : Nat := (atomsN t).toNat
theorem atomsNat_cast (t : Int) : ((atomsNat t : Nat) : Int) = atomsN t := by have := atomsN_bd t; unfold atomsNat; omega
theorem atomsNat_bd (t : Int) : 1 ≤ atomsNat t ∧ atomsNat t ≤ 8 := by have := atomsN_bd t; unfold atomsNat; omega
theorem atomsNat_forms (t : Int) : atomsNat t = 1 ∨ atomsNat t = 2 ∨ atomsNat t = 4 ∨ atomsNat t = 8 := by
  unfold atomsNat atomsN
  split
  · exact Or.inl rfl
  · split
    · exact Or.inr (Or.inl rfl)
    · split
      · exact Or.inr (Or.inr (Or.inl rfl))
      · exact Or.inr (Or.inr (Or.inr rfl))
theorem range_all_no {G : Nat → Bool} {m j : Nat} (h : j < m) (hj : G j = false) : (List.range m).all G = false := by
  rw [List.all_eq_false]
  exact ⟨j, List.mem_range.2 h, by simp [hj]⟩
theorem range_all_step {G : Nat → Bool} {j : Nat} (h : (List.range j).all G = true) (hj : G j = true) : (List.range (j + 1)).all G = true := by
  rw [List.range_succ, List.all_append, h]
  simp [hj]
/-- The set of the atoms below m that G names. -/
def setOfG (m : Nat) (G : Nat → Bool) (i : Nat) : Bool := decide (i < m) && G i
theorem within_all (m : Nat) (hm : m = 1 ∨ m = 2 ∨ m = 4 ∨ m = 8) (G H : Nat → Bool) : (List.range 8).all (fun i => !(setOfG m G i) || setOfG m H i) = (List.range m).all (fun i => !(G i) || H i) := by
  rcases hm with rfl | rfl | rfl | rfl <;> simp [List.range, List.range.loop, setOfG]
end Go.Proofs.YtlpgkhdecccmlaaR
