/- Contracts of laws.markInt64S, heldInt64S: marks put into a list of its own, and found again. -/
import Derived.Test.YtcgbepmhfimbjaaGreatDoorWordC
import Derived.Test.YtcgbepmhfimbjaaGreatDoorBut
namespace Go.Proofs.YtcgbepmhfimbjaaGreatDoor
open Go.RowKit

/-- A row of which the first j are marked, from k on. -/
def MRow (xs : List Int) (k : Int) (b : Nat) (wr : World) (j : Nat) : Prop :=
  (∀ i, wr.frozen? ⟨b, i, none⟩ = false) ∧ (∀ i, i < j → wr.cell? ⟨b, i, none⟩ = some (.int .i64 (k + i))) ∧ ∀ i, j ≤ i → i < xs.length → wr.cell? ⟨b, i, none⟩ = some (.int .i64 (nth xs i))

theorem MRow.step {xs : List Int} {k : Int} {b : Nat} {wr : World} {j : Nat} (h : MRow xs k b wr j) (hj : j < xs.length) : MRow xs k b (wr.setCell ⟨b, j, none⟩ (.int .i64 (k + j))) (j + 1) := by
  obtain ⟨h1, h2, h3⟩ := h
  refine ⟨fun i => by rw [World.frozen?_setCell]; exact h1 i, fun i hi => ?_, fun i h4 h5 => ?_⟩
  · by_cases hij : j = i
    · subst hij
      exact World.cell?_setCell_same (h := h3 j (Nat.le_refl _) hj) ..
    · rw [World.cell?_setCell_other (a := ⟨b, j, none⟩) (b := ⟨b, i, none⟩) (h := fun h => hij (by cases h; rfl))]
      exact h2 i (by omega)
  · rw [World.cell?_setCell_other (a := ⟨b, j, none⟩) (b := ⟨b, i, none⟩) (h := fun h => by cases h; omega)]
    exact h3 i (by omega) h5

end Go.Proofs.YtcgbepmhfimbjaaGreatDoor
