/- Conditions: spec.l06Cond; impl.validCondition. -/
import Derived.Test.YtmblgkpgfofceaaSpD0
import Derived.Test.YtmblgkpgfofceaaOk
import Derived.Test.YtmblgkpgfofceaaValidI
import Derived.Test.YtmblgkpgfofceaaCondI
namespace Go.Proofs.Ytmblgkpgfofceaa
open Go.RowKit

set_option maxHeartbeats 400000 in
theorem l06Cond_any (t a ck cn : Int) (cf : Fo) (hm : cf.nodes ≤ 1048576) (hf : cf.Fits) (A : Option Addr) (C b o : Nat) (w : World) (hA : cf.Lies w A) (h0 : w.cell? ⟨b, o, none⟩ = some (.int .i64 ck)) (h1 : w.cell? ⟨b, o + 1, none⟩ = some (.int .i64 cn)) (h2 : w.cell? ⟨b, o + 2, none⟩ = some (.slice A cf.len C)) :
    Calls Try.prog 115 #[.agg #[.int .i64 t, .int .i64 a], .pointer (some ⟨b, o, none⟩)] w fun e w' => e = .returned (.bool (condV t a ck cn cf)) ∧ Below w.heap.size w w' := by
  obtain ⟨q1, hq1⟩ : ∃ q1 : Bool, q1 = validE t a ck cn cf := ⟨_, rfl⟩
  obtain ⟨q2, hq2⟩ : ∃ q2 : Bool, q2 = (condK ck && cf.cond) := ⟨_, rfl⟩
  have K1 : Hid (∀ W : World, Sees w W → Calls Try.prog 62 #[.agg #[.int .i64 t, .int .i64 a], .pointer (some ⟨b, o, none⟩)] W fun e w' => e = .returned (.bool q1) ∧ Below W.heap.size W w') := fun W h => by
    rw [hq1]
    exact l01Ok_any cf hm hf t a ck cn A C b o W (hA.sees h) (kc h h0) (kc h h1) (kc h h2)
  have K2 : Hid (∀ W : World, Sees w W → Calls Try.prog 145 #[.pointer (some ⟨b, o, none⟩)] W fun e w' => e = .returned (.bool q2) ∧ Below W.heap.size W w') := fun W h => by
    rw [hq2]
    exact (l01Condition_any (cf.nodes + 1) cf (Nat.lt_succ_self _) (Nat.le_trans cf.len_le_nodes (by omega)) hf ck A C b o W (hA.sees h) (kc h h0) (kc h h2)).mono fun e w' ⟨he, hw⟩ => ⟨he, by rw [← hw]; exact Below.refl _ _⟩
  have HD : Hid (condV t a ck cn cf = (q1 && q2)) := by show _ = _; unfold condV; rw [hq1, hq2]
  clear hq1 hq2 hA h0 h1 h2
  cases q1
  · go_enter Try.func115, Try.ntmps115
    go_wp2_with fail
    refine (K1.out _ (by unfold Sees; go_grown)).mono ?_
    rintro e w1 ⟨rfl, hb⟩
    have B1 : Sees w w1 := Sees.below (by unfold Sees; go_grown) hb
    clear hb
    go_wp2_with fail
    go_ret
    exact ⟨ret_bool HD.out.symm, B1⟩
  · go_enter Try.func115, Try.ntmps115
    go_wp2_with fail
    refine (K1.out _ (by unfold Sees; go_grown)).mono ?_
    rintro e w1 ⟨rfl, hb⟩
    have B1 : Sees w w1 := Sees.below (by unfold Sees; go_grown) hb
    clear hb
    go_wp2_with fail
    refine (K2.out _ B1).mono ?_
    rintro e w2 ⟨rfl, hb⟩
    have B2 := B1.below hb
    clear hb
    go_wp2_with fail
    go_ret
    exact ⟨ret_bool HD.out.symm, B2⟩

set_option maxHeartbeats 400000 in
theorem validCondition_any (t a ck cn : Int) (cf : Fo) (hm : cf.nodes ≤ 1048576) (hf : cf.Fits) (A : Option Addr) (C : Nat) (w : World) (hA : cf.Lies w A) :
    Calls Try.prog 120 #[.agg #[.int .i64 t, .int .i64 a], .agg #[.int .i64 ck, .int .i64 cn, .slice A cf.len C]] w fun e w' => e = .returned (.bool (condV t a ck cn cf)) ∧ Below w.heap.size w w' := by
  obtain ⟨q1, hq1⟩ : ∃ q1 : Bool, q1 = validE t a ck cn cf := ⟨_, rfl⟩
  obtain ⟨q2, hq2⟩ : ∃ q2 : Bool, q2 = (condK ck && cf.cond) := ⟨_, rfl⟩
  have K1 : Hid (∀ W : World, Sees w W → Calls Try.prog 67 #[.agg #[.int .i64 t, .int .i64 a], .agg #[.int .i64 ck, .int .i64 cn, .slice A cf.len C]] W fun e w' => e = .returned (.bool q1) ∧ Below W.heap.size W w') := fun W h => by
    rw [hq1]
    exact implValidExpr_any t a ck cn cf hm A C W (hA.sees h)
  have K2 : Hid (∀ W : World, Sees w W → Calls Try.prog 148 #[.agg #[.int .i64 ck, .int .i64 cn, .slice A cf.len C]] W fun e w' => e = .returned (.bool q2) ∧ Below W.heap.size W w') := fun W h => by
    rw [hq2]
    exact implIsCondition_aux (cf.nodes + 1) cf (Nat.lt_succ_self _) (Nat.le_trans cf.len_le_nodes (by omega)) hf ck cn A C W (hA.sees h)
  have HD : Hid (condV t a ck cn cf = (q1 && q2)) := by show _ = _; unfold condV; rw [hq1, hq2]
  clear hq1 hq2 hA
  cases q1
  · go_enter Try.func120, Try.ntmps120
    go_wp2_with fail
    refine (K1.out _ (by unfold Sees; go_grown)).mono ?_
    rintro e w1 ⟨rfl, hb⟩
    have B1 : Sees w w1 := Sees.below (by unfold Sees; go_grown) hb
    clear hb
    go_wp2_with fail
    go_ret
    exact ⟨ret_bool HD.out.symm, B1⟩
  · go_enter Try.func120, Try.ntmps120
    go_wp2_with fail
    refine (K1.out _ (by unfold Sees; go_grown)).mono ?_
    rintro e w1 ⟨rfl, hb⟩
    have B1 : Sees w w1 := Sees.below (by unfold Sees; go_grown) hb
    obtain ⟨x0, x1, x2⟩ := box3 hb (b := w.heap.size + 1) (u := .int .i64 ck) (v := .int .i64 cn) (x := .slice A cf.len C) (by simp [go_sem])
    clear hb
    go_wp2_with fail
    refine (K2.out _ B1).mono ?_
    rintro e w2 ⟨rfl, hb⟩
    have B2 := B1.below hb
    clear hb
    go_wp2_with fail
    go_ret
    exact ⟨ret_bool HD.out.symm, B2⟩

end Go.Proofs.Ytmblgkpgfofceaa
