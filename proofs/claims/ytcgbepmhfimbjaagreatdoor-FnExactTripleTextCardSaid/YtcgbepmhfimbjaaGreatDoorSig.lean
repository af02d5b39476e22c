/- Contracts of the functions on signatures (laws.toSig, spec.ValidSig, impl.ValidSig). -/
import Derived.Test.YtcgbepmhfimbjaaGreatDoorRows
import Derived.WalkKit
import Derived.WalkSpells
import Derived.WalkLawsBesides
import Derived.Handy
namespace Go.Proofs.YtcgbepmhfimbjaaGreatDoor
open Go.RowKit

theorem ret_int {k : IntKind} {a b : Int} (h : a = b) : Ending.returned (.int k a) = .returned (.int k b) := by rw [h]
theorem ret_bool {a b : Bool} (h : a = b) : Ending.returned (.bool a) = .returned (.bool b) := by rw [h]

/-- Behind a call that makes memory: all old cells and marks read as before; the heap has not shrunk. -/
theorem bkeep {W w1 : World} (hb : Below W.heap.size W w1) : (∀ b o, b < W.heap.size → w1.cell? ⟨b, o, none⟩ = W.cell? ⟨b, o, none⟩) ∧ (∀ b o, b < W.heap.size → w1.frozen? ⟨b, o, none⟩ = W.frozen? ⟨b, o, none⟩) ∧ W.heap.size ≤ w1.heap.size :=
  ⟨fun b o h => hb.cell (p := ⟨b, o, none⟩) h, fun b o h => hb.frozen (p := ⟨b, o, none⟩) h, hb.size⟩

/-- Three cells of an old block, behind a call that makes memory. -/
theorem box3 {W W' : World} {b : Nat} {u v x : Value} (hb : Below W.heap.size W W') (h : W.cell? ⟨b, 0, none⟩ = some u ∧ W.cell? ⟨b, 1, none⟩ = some v ∧ W.cell? ⟨b, 2, none⟩ = some x) :
    W'.cell? ⟨b, 0, none⟩ = some u ∧ W'.cell? ⟨b, 1, none⟩ = some v ∧ W'.cell? ⟨b, 2, none⟩ = some x :=
  have hlt := World.block_lt_of_cell? _ _ h.1
  ⟨(hb.cell (p := ⟨b, 0, none⟩) hlt).trans h.1, (hb.cell (p := ⟨b, 1, none⟩) hlt).trans h.2.1, (hb.cell (p := ⟨b, 2, none⟩) hlt).trans h.2.2⟩
theorem box2 {W W' : World} {b : Nat} {u v : Value} (hb : Below W.heap.size W W') (h : W.cell? ⟨b, 0, none⟩ = some u ∧ W.cell? ⟨b, 1, none⟩ = some v) :
    W'.cell? ⟨b, 0, none⟩ = some u ∧ W'.cell? ⟨b, 1, none⟩ = some v :=
  have hlt := World.block_lt_of_cell? _ _ h.1
  ⟨(hb.cell (p := ⟨b, 0, none⟩) hlt).trans h.1, (hb.cell (p := ⟨b, 1, none⟩) hlt).trans h.2⟩

/-- A signature is valid. -/
def sigOk (t a : Int) : Bool := decide (0 ≤ t ∧ t ≤ 3 ∧ 0 ≤ a ∧ a ≤ 4)
theorem sigOk_yes {t a : Int} (h : 0 ≤ t ∧ t ≤ 3 ∧ 0 ≤ a ∧ a ≤ 4) : sigOk t a = true := decide_eq_true h
theorem sigOk_no {t a : Int} (h : ¬ (0 ≤ t ∧ t ≤ 3 ∧ 0 ≤ a ∧ a ≤ 4)) : sigOk t a = false := decide_eq_false h
theorem sigOk_of {t a : Int} (h : sigOk t a = true) : 0 ≤ t ∧ t ≤ 3 ∧ 0 ≤ a ∧ a ≤ 4 := of_decide_eq_true h

set_option maxHeartbeats 400000 in
theorem toSig_any (t a : Int) (w : World) :
    Calls Tryz.prog 7 #[.agg #[.int .i64 t, .int .i64 a]] w fun e w' => e = .returned (.agg #[.int .i64 t, .int .i64 a]) ∧ Below w.heap.size w w' := by
  go_enter Tryz.func7, Tryz.ntmps7
  go_wp2
  refine bodyPost_ret (v := .agg #[.int .i64 t, .int .i64 a]) (by simp [results, Tryz.results7, go_sem]) rfl ⟨rfl, ?_⟩
  repeat (first | exact Below.refl _ _ | refine Below.setCell ?_ (by first | (simp; done) | (simp; omega)) _ | refine Below.alloc ?_ (by first | (simp; done) | (simp; omega)) _ | refine Below.drew ?_)

/-- What l00In says. -/
def inB (n lo hi : Int) : Bool := decide (lo ≤ n ∧ n ≤ hi)
set_option maxHeartbeats 400000 in
theorem in_any (n lo hi : Int) (w : World) :
    Calls Tryz.prog 90 #[.int .i64 n, .int .i64 lo, .int .i64 hi] w fun e w' => e = .returned (.bool (inB n lo hi)) ∧ w = w' := by
  by_cases h1 : lo ≤ n
  · by_cases h2 : n ≤ hi
    · have e : inB n lo hi = true := decide_eq_true ⟨h1, h2⟩
      rw [e]; clear e
      go_enter Tryz.func90, Tryz.ntmps90
      go_wp2
      go_ret
      exact ⟨rfl, rfl⟩
    · have e : inB n lo hi = false := decide_eq_false (fun h => h2 h.2)
      rw [e]; clear e
      go_enter Tryz.func90, Tryz.ntmps90
      go_wp2
      go_ret
      exact ⟨rfl, rfl⟩
  · have e : inB n lo hi = false := decide_eq_false (fun h => h1 h.1)
    rw [e]; clear e
    go_enter Tryz.func90, Tryz.ntmps90
    go_wp2
    go_ret
    exact ⟨rfl, rfl⟩

/-- What impl.below says. -/
def belowB (n hi : Int) : Bool := decide (0 ≤ n ∧ n < hi)
set_option maxHeartbeats 400000 in
theorem below_any (n hi : Int) (w : World) :
    Calls Tryz.prog 95 #[.int .i64 n, .int .i64 hi] w fun e w' => e = .returned (.bool (belowB n hi)) ∧ w = w' := by
  by_cases h1 : 0 ≤ n
  · by_cases h2 : n < hi
    · have e : belowB n hi = true := decide_eq_true ⟨h1, h2⟩
      rw [e]; clear e
      go_enter Tryz.func95, Tryz.ntmps95
      go_wp2
      go_ret
      exact ⟨rfl, rfl⟩
    · have e : belowB n hi = false := decide_eq_false (fun h => h2 h.2)
      rw [e]; clear e
      go_enter Tryz.func95, Tryz.ntmps95
      go_wp2
      go_ret
      exact ⟨rfl, rfl⟩
  · have e : belowB n hi = false := decide_eq_false (fun h => h1 h.1)
    rw [e]; clear e
    go_enter Tryz.func95, Tryz.ntmps95
    go_wp2
    go_ret
    exact ⟨rfl, rfl⟩

theorem sigOk_in (t a : Int) : sigOk t a = (inB t 0 3 && inB a 0 4) := by
  unfold sigOk inB; rw [Bool.eq_iff_iff]; simp; omega
theorem sigOk_below (t a : Int) : sigOk t a = (belowB t 4 && belowB a 5) := by
  unfold sigOk belowB; rw [Bool.eq_iff_iff]; simp; omega

set_option maxHeartbeats 400000 in
theorem l01Sig_any (t a : Int) (w : World) :
    Calls Tryz.prog 58 #[.agg #[.int .i64 t, .int .i64 a]] w fun e w' => e = .returned (.bool (sigOk t a)) ∧ Below w.heap.size w w' := by
  rw [sigOk_in]
  cases e1 : inB t 0 3 <;> cases e2 : inB a 0 4
  all_goals
    go_enter Tryz.func58, Tryz.ntmps58
    go_wp2_with (first | (go_at_call 90; refine (in_any _ _ _ _).mono ?_; rintro e w' ⟨rfl, rfl⟩))
    go_ret
    refine ⟨rfl, ?_⟩
    repeat (first | exact Below.refl _ _ | refine Below.setCell ?_ (by first | (simp; done) | (simp; omega)) _ | refine Below.alloc ?_ (by first | (simp; done) | (simp; omega)) _ | refine Below.drew ?_)

set_option maxHeartbeats 400000 in
theorem implValidSig_any (t a : Int) (w : World) :
    Calls Tryz.prog 63 #[.agg #[.int .i64 t, .int .i64 a]] w fun e w' => e = .returned (.bool (sigOk t a)) ∧ Below w.heap.size w w' := by
  rw [sigOk_below]
  cases e1 : belowB t 4 <;> cases e2 : belowB a 5
  all_goals
    go_enter Tryz.func63, Tryz.ntmps63
    go_wp2_with (first | (go_at_call 95; refine (below_any _ _ _).mono ?_; rintro e w' ⟨rfl, rfl⟩))
    go_ret
    refine ⟨rfl, ?_⟩
    repeat (first | exact Below.refl _ _ | refine Below.setCell ?_ (by first | (simp; done) | (simp; omega)) _ | refine Below.alloc ?_ (by first | (simp; done) | (simp; omega)) _ | refine Below.drew ?_)

end Go.Proofs.YtcgbepmhfimbjaaGreatDoor
