/- Contract of slices.Reverse at []int64, on a list in a block of its own. -/
import Derived.Test.YtcpeiajniblipaaMarkW
import Derived.BigRegion
import Derived.Deep.RegionHeld3
namespace Go.Proofs.Ytcpeiajniblipaa
open Go.RowKit

/-- The number at k behind i rounds from both ends. -/
def rv (xs : List Int) (i k : Nat) : Int := if k < i ∨ xs.length ≤ k + i then nth xs (xs.length - 1 - k) else nth xs k
theorem rv_zero (xs : List Int) {k : Nat} (h : k < xs.length) : rv xs 0 k = nth xs k := by unfold rv; rw [if_neg (by omega)]
theorem rv_low (xs : List Int) {i k : Nat} (h1 : i ≤ k) (h2 : k + i < xs.length) : rv xs i k = nth xs k := by unfold rv; rw [if_neg (by omega)]
theorem nth_rev (xs : List Int) {k : Nat} (h : k < xs.length) : nth xs.reverse k = nth xs (xs.length - 1 - k) := by
  unfold nth
  simp only [List.getD]
  rw [List.getElem?_reverse h]
theorem rv_end (xs : List Int) {i k : Nat} (h : k < xs.length) (hi : xs.length ≤ 2 * i + 1) : rv xs i k = nth xs.reverse k := by
  rw [nth_rev xs h]
  unfold rv
  split
  · rfl
  · have : xs.length - 1 - k = k := by omega
    rw [this]
/-- A row of which i numbers from each end are exchanged. -/
def RvRow (xs : List Int) (b : Nat) (wr : World) (i : Nat) : Prop := (∀ k, wr.frozen? ⟨b, k, none⟩ = false) ∧ ∀ k, k < xs.length → wr.cell? ⟨b, k, none⟩ = some (.int .i64 (rv xs i k))
theorem RvRow.step {xs : List Int} {b : Nat} {wr : World} {i j : Nat} (h : RvRow xs b wr i) (hj : j + i + 1 = xs.length) (hlt : i < j) :
    RvRow xs b ((wr.setCell ⟨b, i, none⟩ (.int .i64 (nth xs j))).setCell ⟨b, j, none⟩ (.int .i64 (nth xs i))) (i + 1) := by
  refine ⟨fun k => by rw [World.frozen?_setCell, World.frozen?_setCell]; exact h.1 k, fun k hk => ?_⟩
  have ci := h.2 i (by omega)
  have cj := h.2 j (by omega)
  have cj2 : (wr.setCell ⟨b, i, none⟩ (.int .i64 (nth xs j))).cell? ⟨b, j, none⟩ = some (.int .i64 (rv xs i j)) := by
    rw [World.cell?_setCell_other (a := ⟨b, i, none⟩) (b := ⟨b, j, none⟩) (h := fun h => by cases h; omega)]
    exact cj
  by_cases hkj : j = k
  · subst hkj
    rw [World.cell?_setCell_same (h := cj2)]
    unfold rv
    rw [if_pos (Or.inr (by omega))]
    have : xs.length - 1 - j = i := by omega
    rw [this]
  · rw [World.cell?_setCell_other (a := ⟨b, j, none⟩) (b := ⟨b, k, none⟩) (h := fun h => hkj (by cases h; rfl))]
    by_cases hki : i = k
    · subst hki
      rw [World.cell?_setCell_same (h := ci)]
      unfold rv
      rw [if_pos (Or.inl (by omega))]
      have : xs.length - 1 - i = j := by omega
      rw [this]
    · rw [World.cell?_setCell_other (a := ⟨b, i, none⟩) (b := ⟨b, k, none⟩) (h := fun h => hki (by cases h; rfl))]
      rw [h.2 k hk]
      have e : (k < i ∨ xs.length ≤ k + i) ↔ (k < i + 1 ∨ xs.length ≤ k + (i + 1)) := by omega
      unfold rv
      simp only [e]

set_option maxHeartbeats 2000000 in
set_option maxRecDepth 100000 in
theorem reverse_any (xs : List Int) (hm : xs.length ≤ 4194304) (lo hi : Nat) (A : Option Addr) (C : Nat) (w : World) (h : IntsIn w xs lo hi A) :
    Calls Try.prog 68 #[.slice A xs.length C] w fun e w' => e = .returned (.tuple #[]) ∧ IntsIn w' xs.reverse lo hi A ∧ ButIn lo hi w w' := by
  rcases h with ⟨rfl, hle⟩ | ⟨b, rfl, h1, h2, hf, hc⟩
  · go_enter Try.func68, Try.ntmps68
    go_wp2_with fail
    go_loopw [2, 3] (fun i j wr => i = .int .i64 0 ∧ j = .int .i64 (-1) ∧ wr = w) (fun _ _ _ => 0)
    case atStart => exact ⟨rfl, rfl, rfl⟩
    case round =>
      obtain ⟨rfl, rfl, rfl⟩ := hrel
      go_wp2_with fail
      go_end0
      exact ⟨rfl, Or.inl ⟨rfl, hle⟩, ButIn.refl _ _ _⟩
  · have hR : Hid (RvRow xs b w 0) := ⟨hf, fun k hk => by rw [rv_zero xs hk]; exact hc k hk⟩
    clear hf hc
    go_enter Try.func68, Try.ntmps68
    go_wp2_with fail
    go_loopw [2, 3] (fun s2 s3 wr => ∃ (i : Nat) (z : Int), s2 = .int .i64 i ∧ s3 = .int .i64 z ∧ z ≤ (xs.length : Int) - 1 - i ∧ (xs.length : Int) - 1 - i ≤ z ∧ i ≤ xs.length ∧ Hid (RvRow xs b wr i) ∧ Hid (But b w.heap.size w wr)) (fun i _ _ => xs.length - (intOf i).toNat)
    case atStart => exact ⟨0, _, rfl, rfl, by simp, by simp, Nat.zero_le _, hR, But.refl _ _ _⟩
    case round =>
      obtain ⟨i, z, rfl, rfl, hz0, hz1, hi', hrow, hbt⟩ := hrel
      by_cases hlt : (i : Int) < z
      · obtain ⟨j, rfl⟩ := Int.eq_ofNat_of_zero_le (show 0 ≤ z by omega)
        have hij : i < j := by omega
        have hj : j + i + 1 = xs.length := by omega
        have hjl : j < xs.length := by omega
        have hil : i < xs.length := by omega
        have HJ := Lib.hid hj; clear hj hz0 hz1
        have ci : wr.cell? ⟨b, i, none⟩ = some (.int .i64 (nth xs i)) := by rw [hrow.out.2 i (by omega), rv_low xs (Nat.le_refl _) (by have := HJ.out; omega)]
        have cj : wr.cell? ⟨b, j, none⟩ = some (.int .i64 (nth xs j)) := by rw [hrow.out.2 j (by omega), rv_low xs (by omega) (by have := HJ.out; omega)]
        have fi := hrow.out.1 i
        have fj := hrow.out.1 j
        have i0 : (0 : Int) ≤ (i : Int) := Int.natCast_nonneg _
        have j0 : (0 : Int) ≤ (j : Int) := Int.natCast_nonneg _
        have i1 : (i : Int) < (xs.length : Int) := by omega
        have j1 : (j : Int) < (xs.length : Int) := by omega
        go_wp2_with fail
        go_region
        go_wp2_with fail
        go_roundw
        case rel => exact ⟨i + 1, (j : Int) - 1, by go_num, by go_num, by have := HJ.out; omega, by have := HJ.out; omega, by omega, RvRow.step (wr := wr.drew) hrow.out HJ.out hij, ((hbt.out.drew).setCell (Or.inl rfl) _).setCell (Or.inl rfl) _⟩
        case measure => simp [intOf]; omega
      · have hend : xs.length ≤ 2 * i + 1 := by omega
        clear hz0 hz1
        go_wp2_with fail
        go_end0
        exact ⟨rfl, Or.inr ⟨b, rfl, h1, h2, hrow.out.1, fun k hk => by rw [List.length_reverse] at hk; rw [hrow.out.2 k hk, rv_end xs hk hend]⟩, ButIn.of_but hbt.out h1 h2⟩
end Go.Proofs.Ytcpeiajniblipaa
