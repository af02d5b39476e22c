/- Which spots and flowcharts are valid; facts on it. -/
import Derived.Test.YtcgbepmhfimbjaaGreatDoorSp
import Derived.Test.YtcgbepmhfimbjaaGreatDoorSig
import Derived.Test.YtcgbepmhfimbjaaGreatDoorTreeD
namespace Go.Proofs.YtcgbepmhfimbjaaGreatDoor
open Go.RowKit

/-- No condition. -/
def noneC (ck cn : Int) (cf : Fo) : Bool := decide (ck = 0 ∧ cn = 0 ∧ cf = .nil)
/-- A valid condition. -/
def condV (t a ck cn : Int) (cf : Fo) : Bool := validE t a ck cn cf && (condK ck && cf.cond)
def spotB (t a cnt k n ck cn : Int) (cf : Fo) (tg el : Int) : Bool :=
  if k = 1 then noneC ck cn cf && (decide (el = 0) && (inB n 0 (a - 1) && inB tg 0 (cnt - 1)))
  else if k = 2 then decide (n = 0) && (condV t a ck cn cf && (inB tg 0 (cnt - 1) && inB el 0 (cnt - 1)))
  else if k = 3 ∨ k = 4 then noneC ck cn cf && (decide (n = 0) && (decide (el = 0) && decide (tg = 0)))
  else false
def spB (t a cnt : Int) (x : Sp) : Bool := spotB t a cnt x.k x.n x.ck x.cn x.cf x.tg x.el
def flowB (t a s : Int) (xs : List Sp) : Bool := sigOk t a && (inB xs.length 1 60 && (inB s 0 (xs.length - 1) && xs.all (spB t a xs.length)))
theorem in_below (v n : Int) : inB v 0 (n - 1) = belowB v n := by unfold inB belowB; rw [Bool.eq_iff_iff]; simp; omega
theorem zero_below (v : Int) : decide (v = 0) = belowB v 1 := by unfold belowB; rw [Bool.eq_iff_iff]; simp; omega
theorem spot_act (t a cnt n ck cn : Int) (cf : Fo) (tg el : Int) : spotB t a cnt 1 n ck cn cf tg el = (belowB n a && (belowB tg cnt && (belowB el 1 && noneC ck cn cf))) := by
  unfold spotB
  rw [if_pos rfl, in_below, in_below, zero_below]
  cases belowB n a <;> cases belowB tg cnt <;> cases belowB el 1 <;> cases noneC ck cn cf <;> rfl
theorem spot_test (t a cnt n ck cn : Int) (cf : Fo) (tg el : Int) : spotB t a cnt 2 n ck cn cf tg el = (belowB n 1 && (belowB tg cnt && (belowB el cnt && condV t a ck cn cf))) := by
  unfold spotB
  rw [if_neg (by decide), if_pos rfl, in_below, in_below, zero_below]
  cases belowB n 1 <;> cases belowB tg cnt <;> cases belowB el cnt <;> cases condV t a ck cn cf <;> rfl
theorem spot_end (t a cnt k n ck cn : Int) (cf : Fo) (tg el : Int) (hk : k = 3 ∨ k = 4) : spotB t a cnt k n ck cn cf tg el = (belowB n 1 && (belowB tg 1 && (belowB el 1 && noneC ck cn cf))) := by
  unfold spotB
  rw [if_neg (by omega), if_neg (by omega), if_pos hk, zero_below, zero_below, zero_below]
  cases belowB n 1 <;> cases belowB tg 1 <;> cases belowB el 1 <;> cases noneC ck cn cf <;> rfl
theorem spot_other (t a cnt k n ck cn : Int) (cf : Fo) (tg el : Int) (h1 : k ≠ 1) (h2 : k ≠ 2) (h3 : k ≠ 3) (h4 : k ≠ 4) : spotB t a cnt k n ck cn cf tg el = false := by
  unfold spotB
  rw [if_neg h1, if_neg h2, if_neg (by omega)]
theorem fo_nil {f : Fo} : f = .nil ↔ (f.len : Int) = 0 := by
  cases f with
  | nil => simp [Fo.len]
  | cons k n ks r => simp [Fo.len]; omega
/-- All from a place on. -/
def allS {α : Type} (f : α → Bool) (xs : List α) (j : Nat) : Bool := (xs.drop j).all f
theorem allS_zero {α : Type} (f : α → Bool) (xs : List α) : xs.all f = allS f xs 0 := by simp [allS]
theorem allS_step {α : Type} (f : α → Bool) (xs : List α) {j : Nat} (h : j < xs.length) : allS f xs j = (f xs[j] && allS f xs (j + 1)) := by
  unfold allS
  rw [List.drop_eq_getElem_cons h, List.all_cons]
theorem allS_end {α : Type} (f : α → Bool) (xs : List α) : allS f xs xs.length = true := by simp [allS]
end Go.Proofs.YtcgbepmhfimbjaaGreatDoor
