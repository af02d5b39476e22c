/- Which worlds are valid; facts on it. -/
import Derived.Test.YtlfafcbieeambaaDoorWld
import Derived.Test.YtlfafcbieeambaaDoorVWord
namespace Go.Proofs.YtlfafcbieeambaaDoor
open Go.RowKit

def nextB (n : Int) (x : Int) : Bool := inB x (-1) (n - 1)
def rowW (n : Int) (r : List Int) : Bool := decide ((r.length : Int) = n) && r.all (nextB n)
def validD (t a : Int) (p : List Int) (nx : List (List Int)) : Bool :=
  sigOk t a && (inB p.length 1 12 && (decide ((nx.length : Int) = a) && (p.all (atomB t) && nx.all (rowW p.length))))
/-- All from a place on. -/
def allW {α : Type} (f : α → Bool) (xs : List α) (j : Nat) : Bool := (xs.drop j).all f
theorem allW_zero {α : Type} (f : α → Bool) (xs : List α) : xs.all f = allW f xs 0 := by simp [allW]
theorem allW_step {α : Type} (f : α → Bool) (xs : List α) {j : Nat} (h : j < xs.length) : allW f xs j = (f xs[j] && allW f xs (j + 1)) := by
  unfold allW
  rw [List.drop_eq_getElem_cons h, List.all_cons]
theorem allW_end {α : Type} (f : α → Bool) (xs : List α) : allW f xs xs.length = true := by simp [allW]

theorem atom_any (t a x : Int) (w : World) (h0 : 0 ≤ t) (h1 : t ≤ 3) : Calls Tryd.prog 69 #[.agg #[.int .i64 t, .int .i64 a], .int .i64 x] w fun e w' => e = .returned (.bool (atomB t x)) ∧ Below w.heap.size w w' := by
  obtain ⟨na, hna, hn1, hn8⟩ : ∃ na : Int, na = atomsN t ∧ 1 ≤ na ∧ na ≤ 8 := ⟨_, rfl, (atomsN_bd t).1, (atomsN_bd t).2⟩
  have KA : Hid (∀ W : World, Calls Tryd.prog 70 #[.agg #[.int .i64 t, .int .i64 a]] W fun e w' => e = .returned (.int .i64 na) ∧ Below W.heap.size W w') := fun W => by rw [hna]; exact atoms_any t a W h0 h1
  obtain ⟨q3, hq3⟩ : ∃ q3 : Bool, q3 = atomB t x := ⟨_, rfl⟩
  have K3 : Hid (∀ W : World, Calls Tryd.prog 40 #[.int .i64 x, .int .i64 0, .int .i64 (na - 1)] W fun e w' => e = .returned (.bool q3) ∧ Below W.heap.size W w') := fun W => (in_any x 0 (na - 1) W).mono fun e w' h => ⟨by rw [hq3, atomB, ← hna]; exact h.1, by rw [← h.2]; exact Below.refl _ _⟩
  have wn : IntKind.i64.wrap (na - 1) = na - 1 := IntWalk.i64_in _ (by omega)
  have HQ := Lib.hid hq3
  clear hq3 hna hn1 hn8
  go_enter Tryd.func69, Tryd.ntmps69
  go_wp2_with fail
  refine (KA.out _).mono ?_
  rintro e w2 ⟨rfl, hb⟩
  have B1 : Sees w w2 := Sees.below (by unfold Sees; go_grown) hb
  clear hb
  go_wp2_with fail
  refine (K3.out _).mono ?_
  rintro e w3 ⟨rfl, hb⟩
  have B2 := B1.below hb
  clear hb
  go_wp2_with fail
  go_ret
  exact ⟨ret_bool HQ.out, B2⟩
end Go.Proofs.YtlfafcbieeambaaDoor
