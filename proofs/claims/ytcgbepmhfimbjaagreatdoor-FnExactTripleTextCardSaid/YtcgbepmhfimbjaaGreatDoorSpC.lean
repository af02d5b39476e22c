/- Conditions in a field: spec.l06None, spec.l06Cond; impl.validCondition, impl.isCondField. -/
import Derived.Test.YtcgbepmhfimbjaaGreatDoorSpD
import Derived.Test.YtcgbepmhfimbjaaGreatDoorOk
import Derived.Test.YtcgbepmhfimbjaaGreatDoorValidI
import Derived.Test.YtcgbepmhfimbjaaGreatDoorCondI
import Derived.Test.YtcgbepmhfimbjaaGreatDoorSameI
namespace Go.Proofs.YtcgbepmhfimbjaaGreatDoor
open Go.RowKit

set_option maxHeartbeats 400000 in
theorem l06None_any (ck cn : Int) (cf : Fo) (A : Option Addr) (C b o : Nat) (w : World) (h0 : w.cell? ⟨b, o, none⟩ = some (.int .i64 ck)) (h1 : w.cell? ⟨b, o + 1, none⟩ = some (.int .i64 cn)) (h2 : w.cell? ⟨b, o + 2, none⟩ = some (.slice A cf.len C)) :
    Calls Tryz.prog 111 #[.pointer (some ⟨b, o, none⟩)] w fun e w' => e = .returned (.bool (noneC ck cn cf)) ∧ Below w.heap.size w w' := by
  by_cases hk : ck = 0
  case neg =>
    have tk : (ck == 0) = false := by rw [beq_eq_false_iff_ne]; exact hk
    have HD : Hid (noneC ck cn cf = false) := decide_eq_false (fun h => hk h.1)
    clear hk
    go_enter Tryz.func111, Tryz.ntmps111
    go_wp2_with fail
    go_ret
    exact ⟨ret_bool HD.out.symm, Below.refl _ _⟩
  have tk : (ck == 0) = true := by simp [hk]
  by_cases hn : cn = 0
  case neg =>
    have tn : (cn == 0) = false := by rw [beq_eq_false_iff_ne]; exact hn
    have HD : Hid (noneC ck cn cf = false) := decide_eq_false (fun h => hn h.2.1)
    clear hk hn
    go_enter Tryz.func111, Tryz.ntmps111
    go_wp2_with fail
    go_ret
    exact ⟨ret_bool HD.out.symm, Below.refl _ _⟩
  have tn : (cn == 0) = true := by simp [hn]
  by_cases hl : (cf.len : Int) = 0
  · have tl : ((cf.len : Int) == 0) = true := by simp [hl]
    have HD : Hid (noneC ck cn cf = true) := decide_eq_true ⟨hk, hn, fo_nil.2 hl⟩
    clear hk hn hl
    go_enter Tryz.func111, Tryz.ntmps111
    go_wp2_with fail
    go_ret
    exact ⟨ret_bool HD.out.symm, Below.refl _ _⟩
  · have tl : ((cf.len : Int) == 0) = false := by rw [beq_eq_false_iff_ne]; exact hl
    have HD : Hid (noneC ck cn cf = false) := decide_eq_false (fun h => hl (fo_nil.1 h.2.2))
    clear hk hn hl
    go_enter Tryz.func111, Tryz.ntmps111
    go_wp2_with fail
    go_ret
    exact ⟨ret_bool HD.out.symm, Below.refl _ _⟩

set_option maxHeartbeats 400000 in
theorem l06Cond_any (t a ck cn : Int) (cf : Fo) (hm : cf.nodes ≤ 1048576) (hf : cf.Fits) (A : Option Addr) (C b o : Nat) (w : World) (hA : cf.Lies w A) (h0 : w.cell? ⟨b, o, none⟩ = some (.int .i64 ck)) (h1 : w.cell? ⟨b, o + 1, none⟩ = some (.int .i64 cn)) (h2 : w.cell? ⟨b, o + 2, none⟩ = some (.slice A cf.len C)) :
    Calls Tryz.prog 44 #[.agg #[.int .i64 t, .int .i64 a], .pointer (some ⟨b, o, none⟩)] w fun e w' => e = .returned (.bool (condV t a ck cn cf)) ∧ Below w.heap.size w w' := by
  obtain ⟨q1, hq1⟩ : ∃ q1 : Bool, q1 = validE t a ck cn cf := ⟨_, rfl⟩
  obtain ⟨q2, hq2⟩ : ∃ q2 : Bool, q2 = (condK ck && cf.cond) := ⟨_, rfl⟩
  have K1 : Hid (∀ W : World, Sees w W → Calls Tryz.prog 72 #[.agg #[.int .i64 t, .int .i64 a], .pointer (some ⟨b, o, none⟩)] W fun e w' => e = .returned (.bool q1) ∧ Below W.heap.size W w') := fun W h => by
    rw [hq1]
    exact l01Ok_any cf hm hf t a ck cn A C b o W (hA.sees h) (kc h h0) (kc h h1) (kc h h2)
  have K2 : Hid (∀ W : World, Sees w W → Calls Tryz.prog 73 #[.pointer (some ⟨b, o, none⟩)] W fun e w' => e = .returned (.bool q2) ∧ Below W.heap.size W w') := fun W h => by
    rw [hq2]
    exact (l01Condition_any (cf.nodes + 1) cf (Nat.lt_succ_self _) (Nat.le_trans cf.len_le_nodes (by omega)) hf ck A C b o W (hA.sees h) (kc h h0) (kc h h2)).mono fun e w' ⟨he, hw⟩ => ⟨he, by rw [← hw]; exact Below.refl _ _⟩
  have HD : Hid (condV t a ck cn cf = (q1 && q2)) := by show _ = _; unfold condV; rw [hq1, hq2]
  clear hq1 hq2 hA h0 h1 h2
  cases q1
  · go_enter Tryz.func44, Tryz.ntmps44
    go_wp2_with fail
    refine (K1.out _ (by unfold Sees; go_grown)).mono ?_
    rintro e w1 ⟨rfl, hb⟩
    have B1 : Sees w w1 := Sees.below (by unfold Sees; go_grown) hb
    clear hb
    go_wp2_with fail
    go_ret
    exact ⟨ret_bool HD.out.symm, B1⟩
  · go_enter Tryz.func44, Tryz.ntmps44
    go_wp2_with fail
    refine (K1.out _ (by unfold Sees; go_grown)).mono ?_
    rintro e w1 ⟨rfl, hb⟩
    have B1 : Sees w w1 := Sees.below (by unfold Sees; go_grown) hb
    clear hb
    go_wp2_with fail
    refine (K2.out _ B1).mono ?_
    rintro e w2 ⟨rfl, hb⟩
    have B2 := B1.below hb
    clear hb
    go_wp2_with fail
    go_ret
    exact ⟨ret_bool HD.out.symm, B2⟩

set_option maxHeartbeats 400000 in
theorem validCondition_any (t a ck cn : Int) (cf : Fo) (hm : cf.nodes ≤ 1048576) (hf : cf.Fits) (A : Option Addr) (C : Nat) (w : World) (hA : cf.Lies w A) :
    Calls Tryz.prog 49 #[.agg #[.int .i64 t, .int .i64 a], .agg #[.int .i64 ck, .int .i64 cn, .slice A cf.len C]] w fun e w' => e = .returned (.bool (condV t a ck cn cf)) ∧ Below w.heap.size w w' := by
  obtain ⟨q1, hq1⟩ : ∃ q1 : Bool, q1 = validE t a ck cn cf := ⟨_, rfl⟩
  obtain ⟨q2, hq2⟩ : ∃ q2 : Bool, q2 = (condK ck && cf.cond) := ⟨_, rfl⟩
  have K1 : Hid (∀ W : World, Sees w W → Calls Tryz.prog 51 #[.agg #[.int .i64 t, .int .i64 a], .agg #[.int .i64 ck, .int .i64 cn, .slice A cf.len C]] W fun e w' => e = .returned (.bool q1) ∧ Below W.heap.size W w') := fun W h => by
    rw [hq1]
    exact implValidExpr_any t a ck cn cf hm A C W (hA.sees h)
  have K2 : Hid (∀ W : World, Sees w W → Calls Tryz.prog 77 #[.agg #[.int .i64 ck, .int .i64 cn, .slice A cf.len C]] W fun e w' => e = .returned (.bool q2) ∧ Below W.heap.size W w') := fun W h => by
    rw [hq2]
    exact implIsCondition_aux (cf.nodes + 1) cf (Nat.lt_succ_self _) (Nat.le_trans cf.len_le_nodes (by omega)) hf ck cn A C W (hA.sees h)
  have HD : Hid (condV t a ck cn cf = (q1 && q2)) := by show _ = _; unfold condV; rw [hq1, hq2]
  clear hq1 hq2 hA
  cases q1
  · go_enter Tryz.func49, Tryz.ntmps49
    go_wp2_with fail
    refine (K1.out _ (by unfold Sees; go_grown)).mono ?_
    rintro e w1 ⟨rfl, hb⟩
    have B1 : Sees w w1 := Sees.below (by unfold Sees; go_grown) hb
    clear hb
    go_wp2_with fail
    go_ret
    exact ⟨ret_bool HD.out.symm, B1⟩
  · go_enter Tryz.func49, Tryz.ntmps49
    go_wp2_with fail
    refine (K1.out _ (by unfold Sees; go_grown)).mono ?_
    rintro e w1 ⟨rfl, hb⟩
    have B1 : Sees w w1 := Sees.below (by unfold Sees; go_grown) hb
    obtain ⟨x0, x1, x2⟩ := box3 hb (b := w.heap.size + 1) (u := .int .i64 ck) (v := .int .i64 cn) (x := .slice A cf.len C) (by simp [go_sem])
    clear hb
    go_wp2_with fail
    refine (K2.out _ B1).mono ?_
    rintro e w2 ⟨rfl, hb⟩
    have B2 := B1.below hb
    clear hb
    go_wp2_with fail
    go_ret
    exact ⟨ret_bool HD.out.symm, B2⟩

/-- What a field for a condition may hold. -/
def fieldV (t a ck cn : Int) (cf : Fo) (u : Bool) : Bool := if u then condV t a ck cn cf else noneC ck cn cf
set_option maxHeartbeats 400000 in
theorem isCondField_any (t a ck cn : Int) (cf : Fo) (hm : cf.nodes ≤ 1048576) (hf : cf.Fits) (u : Bool) (A : Option Addr) (C : Nat) (w : World) (hA : cf.Lies w A) :
    Calls Tryz.prog 115 #[.agg #[.int .i64 t, .int .i64 a], .agg #[.int .i64 ck, .int .i64 cn, .slice A cf.len C], .bool u] w fun e w' => e = .returned (.bool (fieldV t a ck cn cf u)) ∧ Below w.heap.size w w' := by
  obtain ⟨q1, hq1⟩ : ∃ q1 : Bool, q1 = fieldV t a ck cn cf u := ⟨_, rfl⟩
  rw [← hq1]
  cases u
  · have K2 : Hid (∀ W : World, Sees w W → Calls Tryz.prog 138 #[.agg #[.int .i64 ck, .int .i64 cn, .slice A cf.len C], .agg #[.int .i64 0, .int .i64 0, .slice none 0 0]] W fun e w' => e = .returned (.bool q1) ∧ Below W.heap.size W w') := fun W h => by
      rw [hq1]
      exact implSameExpr_aux (cf.nodes + 1) cf .nil (Nat.lt_succ_self _) (Nat.le_trans cf.len_le_nodes (by omega)) hf ck cn 0 0 A none C 0 W (hA.sees h) (fun h => absurd rfl h)
    clear hq1 hA
    go_enter Tryz.func115, Tryz.ntmps115
    go_wp2_with fail
    refine (K2.out _ (by unfold Sees; go_grown)).mono ?_
    rintro e w1 ⟨rfl, hb⟩
    have B1 : Sees w w1 := Sees.below (by unfold Sees; go_grown) hb
    clear hb
    go_wp2_with fail
    go_ret
    exact ⟨rfl, B1⟩
  · have K2 : Hid (∀ W : World, Sees w W → Calls Tryz.prog 49 #[.agg #[.int .i64 t, .int .i64 a], .agg #[.int .i64 ck, .int .i64 cn, .slice A cf.len C]] W fun e w' => e = .returned (.bool q1) ∧ Below W.heap.size W w') := fun W h => by
      rw [hq1]
      exact validCondition_any t a ck cn cf hm hf A C W (hA.sees h)
    clear hq1 hA
    go_enter Tryz.func115, Tryz.ntmps115
    go_wp2_with fail
    refine (K2.out _ (by unfold Sees; go_grown)).mono ?_
    rintro e w1 ⟨rfl, hb⟩
    have B1 : Sees w w1 := Sees.below (by unfold Sees; go_grown) hb
    clear hb
    go_wp2_with fail
    go_ret
    exact ⟨rfl, B1⟩
end Go.Proofs.YtcgbepmhfimbjaaGreatDoor
