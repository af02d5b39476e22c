/- Contracts of spec.CodeName and impl.CodeName, and the law's walk. -/
import Derived.Test.YthenodpihchpbaaDoorProg
import Derived.WalkKit
import Derived.WalkSpells
import Derived.WalkLawsBesides
import Derived.Handy
import Derived.Below
import Derived.Lib.Hide
import Derived.ProofKit
namespace Go.Proofs.YthenodpihchpbaaDoor
open Go.RowKit

def inB (n lo hi : Int) : Bool := decide (lo ≤ n ∧ n ≤ hi)
theorem in_any (n lo hi : Int) (w : World) :
    Calls Tryd.prog 13 #[.int .i64 n, .int .i64 lo, .int .i64 hi] w fun e w' => e = .returned (.bool (inB n lo hi)) ∧ w = w' := by
  by_cases h1 : lo ≤ n
  · by_cases h2 : n ≤ hi
    · have e : inB n lo hi = true := decide_eq_true ⟨h1, h2⟩
      rw [e]
      go_enter Tryd.func13, Tryd.ntmps13
      go_wp2
      go_ret
      exact ⟨rfl, rfl⟩
    · have e : inB n lo hi = false := decide_eq_false (fun h => h2 h.2)
      rw [e]
      go_enter Tryd.func13, Tryd.ntmps13
      go_wp2
      go_ret
      exact ⟨rfl, rfl⟩
  · have e : inB n lo hi = false := decide_eq_false (fun h => h1 h.1)
    rw [e]
    go_enter Tryd.func13, Tryd.ntmps13
    go_wp2
    go_ret
    exact ⟨rfl, rfl⟩
def belowB (n hi : Int) : Bool := decide (0 ≤ n ∧ n < hi)
theorem below_any (n hi : Int) (w : World) :
    Calls Tryd.prog 14 #[.int .i64 n, .int .i64 hi] w fun e w' => e = .returned (.bool (belowB n hi)) ∧ w = w' := by
  by_cases h1 : 0 ≤ n
  · by_cases h2 : n < hi
    · have e : belowB n hi = true := decide_eq_true ⟨h1, h2⟩
      rw [e]
      go_enter Tryd.func14, Tryd.ntmps14
      go_wp2
      go_ret
      exact ⟨rfl, rfl⟩
    · have e : belowB n hi = false := decide_eq_false (fun h => h2 h.2)
      rw [e]
      go_enter Tryd.func14, Tryd.ntmps14
      go_wp2
      go_ret
      exact ⟨rfl, rfl⟩
  · have e : belowB n hi = false := decide_eq_false (fun h => h1 h.1)
    rw [e]
    go_enter Tryd.func14, Tryd.ntmps14
    go_wp2
    go_ret
    exact ⟨rfl, rfl⟩

/-- What the table of names holds. -/
def Named (w : World) : Prop := w.cell? ⟨0, 0, none⟩ = some (.string ⟨#[111, 107]⟩) ∧ w.cell? ⟨0, 1, none⟩ = some (.string ⟨#[105, 110, 118, 97, 108, 105, 100]⟩) ∧ w.cell? ⟨0, 2, none⟩ = some (.string ⟨#[114, 97, 110, 103, 101]⟩) ∧ w.cell? ⟨0, 3, none⟩ = some (.string ⟨#[108, 105, 109, 105, 116]⟩) ∧ w.cell? ⟨0, 4, none⟩ = some (.string ⟨#[115, 116, 97, 116, 101]⟩) ∧ w.cell? ⟨0, 5, none⟩ = some (.string ⟨#[115, 121, 110, 116, 97, 120]⟩) ∧ w.cell? ⟨0, 6, none⟩ = some (.string ⟨#[110, 111, 116, 102, 111, 117, 110, 100]⟩) ∧ w.cell? ⟨0, 7, none⟩ = some (.string ⟨#[98, 117, 100, 103, 101, 116]⟩) ∧ w.cell? ⟨0, 8, none⟩ = some (.string ⟨#[112, 114, 111, 111, 102]⟩)

theorem Named.below {w w' : World} (h : Named w) (hb : Below w.heap.size w w') : Named w' := by
  obtain ⟨h0, h1, h2, h3, h4, h5, h6, h7, h8⟩ := h
  exact ⟨(hb.cell (p := ⟨0, 0, none⟩) (World.block_lt_of_cell? _ _ h0)).trans h0, (hb.cell (p := ⟨0, 1, none⟩) (World.block_lt_of_cell? _ _ h1)).trans h1, (hb.cell (p := ⟨0, 2, none⟩) (World.block_lt_of_cell? _ _ h2)).trans h2, (hb.cell (p := ⟨0, 3, none⟩) (World.block_lt_of_cell? _ _ h3)).trans h3, (hb.cell (p := ⟨0, 4, none⟩) (World.block_lt_of_cell? _ _ h4)).trans h4, (hb.cell (p := ⟨0, 5, none⟩) (World.block_lt_of_cell? _ _ h5)).trans h5, (hb.cell (p := ⟨0, 6, none⟩) (World.block_lt_of_cell? _ _ h6)).trans h6, (hb.cell (p := ⟨0, 7, none⟩) (World.block_lt_of_cell? _ _ h7)).trans h7, (hb.cell (p := ⟨0, 8, none⟩) (World.block_lt_of_cell? _ _ h8)).trans h8⟩

set_option maxHeartbeats 400000 in
theorem specCode_0 (w : World) : Calls Tryd.prog 5 #[.int .i64 0] w fun e w' => e = .returned (.string ⟨#[111, 107]⟩) ∧ Below w.heap.size w w' := by
  have K : ∀ W : World, Calls Tryd.prog 13 #[.int .i64 0, .int .i64 0, .int .i64 8] W fun e w' => e = .returned (.bool true) ∧ W = w' := fun W => in_any 0 0 8 W
  go_enter Tryd.func5, Tryd.ntmps5
  go_wp2_with fail
  refine (K _).mono ?_
  rintro e w' ⟨rfl, rfl⟩
  go_wp2_with fail
  go_ret
  exact ⟨rfl, by go_grown⟩
set_option maxHeartbeats 400000 in
theorem implCode_0 (w : World) (h : w.cell? ⟨0, 0, none⟩ = some (.string ⟨#[111, 107]⟩)) : Calls Tryd.prog 6 #[.int .i64 0] w fun e w' => e = .returned (.string ⟨#[111, 107]⟩) ∧ Below w.heap.size w w' := by
  have K : ∀ W : World, Calls Tryd.prog 14 #[.int .i64 0, .int .i64 9] W fun e w' => e = .returned (.bool true) ∧ W = w' := fun W => below_any 0 9 W
  go_enter Tryd.func6, Tryd.ntmps6
  go_wp2_with fail
  refine (K _).mono ?_
  rintro e w' ⟨rfl, rfl⟩
  go_wp2_with fail
  go_ret
  exact ⟨rfl, by go_grown⟩
set_option maxHeartbeats 400000 in
theorem specCode_1 (w : World) : Calls Tryd.prog 5 #[.int .i64 1] w fun e w' => e = .returned (.string ⟨#[105, 110, 118, 97, 108, 105, 100]⟩) ∧ Below w.heap.size w w' := by
  have K : ∀ W : World, Calls Tryd.prog 13 #[.int .i64 1, .int .i64 0, .int .i64 8] W fun e w' => e = .returned (.bool true) ∧ W = w' := fun W => in_any 1 0 8 W
  go_enter Tryd.func5, Tryd.ntmps5
  go_wp2_with fail
  refine (K _).mono ?_
  rintro e w' ⟨rfl, rfl⟩
  go_wp2_with fail
  go_ret
  exact ⟨rfl, by go_grown⟩
set_option maxHeartbeats 400000 in
theorem implCode_1 (w : World) (h : w.cell? ⟨0, 1, none⟩ = some (.string ⟨#[105, 110, 118, 97, 108, 105, 100]⟩)) : Calls Tryd.prog 6 #[.int .i64 1] w fun e w' => e = .returned (.string ⟨#[105, 110, 118, 97, 108, 105, 100]⟩) ∧ Below w.heap.size w w' := by
  have K : ∀ W : World, Calls Tryd.prog 14 #[.int .i64 1, .int .i64 9] W fun e w' => e = .returned (.bool true) ∧ W = w' := fun W => below_any 1 9 W
  go_enter Tryd.func6, Tryd.ntmps6
  go_wp2_with fail
  refine (K _).mono ?_
  rintro e w' ⟨rfl, rfl⟩
  go_wp2_with fail
  go_ret
  exact ⟨rfl, by go_grown⟩
set_option maxHeartbeats 400000 in
theorem specCode_2 (w : World) : Calls Tryd.prog 5 #[.int .i64 2] w fun e w' => e = .returned (.string ⟨#[114, 97, 110, 103, 101]⟩) ∧ Below w.heap.size w w' := by
  have K : ∀ W : World, Calls Tryd.prog 13 #[.int .i64 2, .int .i64 0, .int .i64 8] W fun e w' => e = .returned (.bool true) ∧ W = w' := fun W => in_any 2 0 8 W
  go_enter Tryd.func5, Tryd.ntmps5
  go_wp2_with fail
  refine (K _).mono ?_
  rintro e w' ⟨rfl, rfl⟩
  go_wp2_with fail
  go_ret
  exact ⟨rfl, by go_grown⟩
set_option maxHeartbeats 400000 in
theorem implCode_2 (w : World) (h : w.cell? ⟨0, 2, none⟩ = some (.string ⟨#[114, 97, 110, 103, 101]⟩)) : Calls Tryd.prog 6 #[.int .i64 2] w fun e w' => e = .returned (.string ⟨#[114, 97, 110, 103, 101]⟩) ∧ Below w.heap.size w w' := by
  have K : ∀ W : World, Calls Tryd.prog 14 #[.int .i64 2, .int .i64 9] W fun e w' => e = .returned (.bool true) ∧ W = w' := fun W => below_any 2 9 W
  go_enter Tryd.func6, Tryd.ntmps6
  go_wp2_with fail
  refine (K _).mono ?_
  rintro e w' ⟨rfl, rfl⟩
  go_wp2_with fail
  go_ret
  exact ⟨rfl, by go_grown⟩
set_option maxHeartbeats 400000 in
theorem specCode_3 (w : World) : Calls Tryd.prog 5 #[.int .i64 3] w fun e w' => e = .returned (.string ⟨#[108, 105, 109, 105, 116]⟩) ∧ Below w.heap.size w w' := by
  have K : ∀ W : World, Calls Tryd.prog 13 #[.int .i64 3, .int .i64 0, .int .i64 8] W fun e w' => e = .returned (.bool true) ∧ W = w' := fun W => in_any 3 0 8 W
  go_enter Tryd.func5, Tryd.ntmps5
  go_wp2_with fail
  refine (K _).mono ?_
  rintro e w' ⟨rfl, rfl⟩
  go_wp2_with fail
  go_ret
  exact ⟨rfl, by go_grown⟩
set_option maxHeartbeats 400000 in
theorem implCode_3 (w : World) (h : w.cell? ⟨0, 3, none⟩ = some (.string ⟨#[108, 105, 109, 105, 116]⟩)) : Calls Tryd.prog 6 #[.int .i64 3] w fun e w' => e = .returned (.string ⟨#[108, 105, 109, 105, 116]⟩) ∧ Below w.heap.size w w' := by
  have K : ∀ W : World, Calls Tryd.prog 14 #[.int .i64 3, .int .i64 9] W fun e w' => e = .returned (.bool true) ∧ W = w' := fun W => below_any 3 9 W
  go_enter Tryd.func6, Tryd.ntmps6
  go_wp2_with fail
  refine (K _).mono ?_
  rintro e w' ⟨rfl, rfl⟩
  go_wp2_with fail
  go_ret
  exact ⟨rfl, by go_grown⟩
set_option maxHeartbeats 400000 in
theorem specCode_4 (w : World) : Calls Tryd.prog 5 #[.int .i64 4] w fun e w' => e = .returned (.string ⟨#[115, 116, 97, 116, 101]⟩) ∧ Below w.heap.size w w' := by
  have K : ∀ W : World, Calls Tryd.prog 13 #[.int .i64 4, .int .i64 0, .int .i64 8] W fun e w' => e = .returned (.bool true) ∧ W = w' := fun W => in_any 4 0 8 W
  go_enter Tryd.func5, Tryd.ntmps5
  go_wp2_with fail
  refine (K _).mono ?_
  rintro e w' ⟨rfl, rfl⟩
  go_wp2_with fail
  go_ret
  exact ⟨rfl, by go_grown⟩
set_option maxHeartbeats 400000 in
theorem implCode_4 (w : World) (h : w.cell? ⟨0, 4, none⟩ = some (.string ⟨#[115, 116, 97, 116, 101]⟩)) : Calls Tryd.prog 6 #[.int .i64 4] w fun e w' => e = .returned (.string ⟨#[115, 116, 97, 116, 101]⟩) ∧ Below w.heap.size w w' := by
  have K : ∀ W : World, Calls Tryd.prog 14 #[.int .i64 4, .int .i64 9] W fun e w' => e = .returned (.bool true) ∧ W = w' := fun W => below_any 4 9 W
  go_enter Tryd.func6, Tryd.ntmps6
  go_wp2_with fail
  refine (K _).mono ?_
  rintro e w' ⟨rfl, rfl⟩
  go_wp2_with fail
  go_ret
  exact ⟨rfl, by go_grown⟩
set_option maxHeartbeats 400000 in
theorem specCode_5 (w : World) : Calls Tryd.prog 5 #[.int .i64 5] w fun e w' => e = .returned (.string ⟨#[115, 121, 110, 116, 97, 120]⟩) ∧ Below w.heap.size w w' := by
  have K : ∀ W : World, Calls Tryd.prog 13 #[.int .i64 5, .int .i64 0, .int .i64 8] W fun e w' => e = .returned (.bool true) ∧ W = w' := fun W => in_any 5 0 8 W
  go_enter Tryd.func5, Tryd.ntmps5
  go_wp2_with fail
  refine (K _).mono ?_
  rintro e w' ⟨rfl, rfl⟩
  go_wp2_with fail
  go_ret
  exact ⟨rfl, by go_grown⟩
set_option maxHeartbeats 400000 in
theorem implCode_5 (w : World) (h : w.cell? ⟨0, 5, none⟩ = some (.string ⟨#[115, 121, 110, 116, 97, 120]⟩)) : Calls Tryd.prog 6 #[.int .i64 5] w fun e w' => e = .returned (.string ⟨#[115, 121, 110, 116, 97, 120]⟩) ∧ Below w.heap.size w w' := by
  have K : ∀ W : World, Calls Tryd.prog 14 #[.int .i64 5, .int .i64 9] W fun e w' => e = .returned (.bool true) ∧ W = w' := fun W => below_any 5 9 W
  go_enter Tryd.func6, Tryd.ntmps6
  go_wp2_with fail
  refine (K _).mono ?_
  rintro e w' ⟨rfl, rfl⟩
  go_wp2_with fail
  go_ret
  exact ⟨rfl, by go_grown⟩
set_option maxHeartbeats 400000 in
theorem specCode_6 (w : World) : Calls Tryd.prog 5 #[.int .i64 6] w fun e w' => e = .returned (.string ⟨#[110, 111, 116, 102, 111, 117, 110, 100]⟩) ∧ Below w.heap.size w w' := by
  have K : ∀ W : World, Calls Tryd.prog 13 #[.int .i64 6, .int .i64 0, .int .i64 8] W fun e w' => e = .returned (.bool true) ∧ W = w' := fun W => in_any 6 0 8 W
  go_enter Tryd.func5, Tryd.ntmps5
  go_wp2_with fail
  refine (K _).mono ?_
  rintro e w' ⟨rfl, rfl⟩
  go_wp2_with fail
  go_ret
  exact ⟨rfl, by go_grown⟩
set_option maxHeartbeats 400000 in
theorem implCode_6 (w : World) (h : w.cell? ⟨0, 6, none⟩ = some (.string ⟨#[110, 111, 116, 102, 111, 117, 110, 100]⟩)) : Calls Tryd.prog 6 #[.int .i64 6] w fun e w' => e = .returned (.string ⟨#[110, 111, 116, 102, 111, 117, 110, 100]⟩) ∧ Below w.heap.size w w' := by
  have K : ∀ W : World, Calls Tryd.prog 14 #[.int .i64 6, .int .i64 9] W fun e w' => e = .returned (.bool true) ∧ W = w' := fun W => below_any 6 9 W
  go_enter Tryd.func6, Tryd.ntmps6
  go_wp2_with fail
  refine (K _).mono ?_
  rintro e w' ⟨rfl, rfl⟩
  go_wp2_with fail
  go_ret
  exact ⟨rfl, by go_grown⟩
set_option maxHeartbeats 400000 in
theorem specCode_7 (w : World) : Calls Tryd.prog 5 #[.int .i64 7] w fun e w' => e = .returned (.string ⟨#[98, 117, 100, 103, 101, 116]⟩) ∧ Below w.heap.size w w' := by
  have K : ∀ W : World, Calls Tryd.prog 13 #[.int .i64 7, .int .i64 0, .int .i64 8] W fun e w' => e = .returned (.bool true) ∧ W = w' := fun W => in_any 7 0 8 W
  go_enter Tryd.func5, Tryd.ntmps5
  go_wp2_with fail
  refine (K _).mono ?_
  rintro e w' ⟨rfl, rfl⟩
  go_wp2_with fail
  go_ret
  exact ⟨rfl, by go_grown⟩
set_option maxHeartbeats 400000 in
theorem implCode_7 (w : World) (h : w.cell? ⟨0, 7, none⟩ = some (.string ⟨#[98, 117, 100, 103, 101, 116]⟩)) : Calls Tryd.prog 6 #[.int .i64 7] w fun e w' => e = .returned (.string ⟨#[98, 117, 100, 103, 101, 116]⟩) ∧ Below w.heap.size w w' := by
  have K : ∀ W : World, Calls Tryd.prog 14 #[.int .i64 7, .int .i64 9] W fun e w' => e = .returned (.bool true) ∧ W = w' := fun W => below_any 7 9 W
  go_enter Tryd.func6, Tryd.ntmps6
  go_wp2_with fail
  refine (K _).mono ?_
  rintro e w' ⟨rfl, rfl⟩
  go_wp2_with fail
  go_ret
  exact ⟨rfl, by go_grown⟩
set_option maxHeartbeats 400000 in
theorem specCode_8 (w : World) : Calls Tryd.prog 5 #[.int .i64 8] w fun e w' => e = .returned (.string ⟨#[112, 114, 111, 111, 102]⟩) ∧ Below w.heap.size w w' := by
  have K : ∀ W : World, Calls Tryd.prog 13 #[.int .i64 8, .int .i64 0, .int .i64 8] W fun e w' => e = .returned (.bool true) ∧ W = w' := fun W => in_any 8 0 8 W
  go_enter Tryd.func5, Tryd.ntmps5
  go_wp2_with fail
  refine (K _).mono ?_
  rintro e w' ⟨rfl, rfl⟩
  go_wp2_with fail
  go_ret
  exact ⟨rfl, by go_grown⟩
set_option maxHeartbeats 400000 in
theorem implCode_8 (w : World) (h : w.cell? ⟨0, 8, none⟩ = some (.string ⟨#[112, 114, 111, 111, 102]⟩)) : Calls Tryd.prog 6 #[.int .i64 8] w fun e w' => e = .returned (.string ⟨#[112, 114, 111, 111, 102]⟩) ∧ Below w.heap.size w w' := by
  have K : ∀ W : World, Calls Tryd.prog 14 #[.int .i64 8, .int .i64 9] W fun e w' => e = .returned (.bool true) ∧ W = w' := fun W => below_any 8 9 W
  go_enter Tryd.func6, Tryd.ntmps6
  go_wp2_with fail
  refine (K _).mono ?_
  rintro e w' ⟨rfl, rfl⟩
  go_wp2_with fail
  go_ret
  exact ⟨rfl, by go_grown⟩
set_option maxHeartbeats 400000 in
theorem specCode_no (x : Int) (hx : inB x 0 8 = false) (w : World) : Calls Tryd.prog 5 #[.int .i64 x] w fun e w' => e = .returned (.string ⟨#[]⟩) ∧ Below w.heap.size w w' := by
  have K : ∀ W : World, Calls Tryd.prog 13 #[.int .i64 x, .int .i64 0, .int .i64 8] W fun e w' => e = .returned (.bool false) ∧ W = w' := fun W => by rw [← hx]; exact in_any x 0 8 W
  clear hx
  go_enter Tryd.func5, Tryd.ntmps5
  go_wp2_with fail
  refine (K _).mono ?_
  rintro e w' ⟨rfl, rfl⟩
  go_wp2_with fail
  go_ret
  exact ⟨rfl, by go_grown⟩
set_option maxHeartbeats 400000 in
theorem implCode_no (x : Int) (hx : belowB x 9 = false) (w : World) : Calls Tryd.prog 6 #[.int .i64 x] w fun e w' => e = .returned (.string ⟨#[]⟩) ∧ Below w.heap.size w w' := by
  have K : ∀ W : World, Calls Tryd.prog 14 #[.int .i64 x, .int .i64 9] W fun e w' => e = .returned (.bool false) ∧ W = w' := fun W => by rw [← hx]; exact below_any x 9 W
  clear hx
  go_enter Tryd.func6, Tryd.ntmps6
  go_wp2_with fail
  refine (K _).mono ?_
  rintro e w' ⟨rfl, rfl⟩
  go_wp2_with fail
  go_ret
  exact ⟨rfl, by go_grown⟩

theorem names_of (x : Int) : ∃ s : ByteArray, (∀ w, Calls Tryd.prog 5 #[.int .i64 x] w fun e w' => e = .returned (.string s) ∧ Below w.heap.size w w') ∧
    (∀ w, Named w → Calls Tryd.prog 6 #[.int .i64 x] w fun e w' => e = .returned (.string s) ∧ Below w.heap.size w w') := by
  by_cases hx : 0 ≤ x ∧ x ≤ 8
  · have h : x = 0 ∨ x = 1 ∨ x = 2 ∨ x = 3 ∨ x = 4 ∨ x = 5 ∨ x = 6 ∨ x = 7 ∨ x = 8 := by omega
    rcases h with rfl | rfl | rfl | rfl | rfl | rfl | rfl | rfl | rfl
    · exact ⟨_, specCode_0, fun w h => implCode_0 w h.1⟩
    · exact ⟨_, specCode_1, fun w h => implCode_1 w h.2.1⟩
    · exact ⟨_, specCode_2, fun w h => implCode_2 w h.2.2.1⟩
    · exact ⟨_, specCode_3, fun w h => implCode_3 w h.2.2.2.1⟩
    · exact ⟨_, specCode_4, fun w h => implCode_4 w h.2.2.2.2.1⟩
    · exact ⟨_, specCode_5, fun w h => implCode_5 w h.2.2.2.2.2.1⟩
    · exact ⟨_, specCode_6, fun w h => implCode_6 w h.2.2.2.2.2.2.1⟩
    · exact ⟨_, specCode_7, fun w h => implCode_7 w h.2.2.2.2.2.2.2.1⟩
    · exact ⟨_, specCode_8, fun w h => implCode_8 w h.2.2.2.2.2.2.2.2⟩
  · exact ⟨_, specCode_no x (decide_eq_false hx), fun w _ => implCode_no x (decide_eq_false (by omega)) w⟩

set_option maxHeartbeats 400000 in
theorem lawCodeName (x : Int) (w : World) (h : Named w) : Calls Tryd.prog 3 #[.int .i64 x] w fun e w' => e = .returned (.bool true) ∧ Below w.heap.size w w' := by
  obtain ⟨s, K1, K2⟩ := names_of x
  go_enter Tryd.func3, Tryd.ntmps3
  go_wp2_with fail
  refine (K1 _).mono ?_
  rintro e w1 ⟨rfl, hb⟩
  have B1 : Below w.heap.size w w1 := Below.trans (by go_grown) (hb.mono (by simp))
  clear hb
  go_wp2_with fail
  refine (K2 _ (h.below (Below.trans B1 (by go_grown)))).mono ?_
  rintro e w2 ⟨rfl, hb⟩
  have B2 : Below w.heap.size w w2 := Below.trans B1 (hb.mono B1.size)
  clear hb
  go_wp2_with fail
  go_ret
  exact ⟨rfl, B2⟩
end Go.Proofs.YthenodpihchpbaaDoor
