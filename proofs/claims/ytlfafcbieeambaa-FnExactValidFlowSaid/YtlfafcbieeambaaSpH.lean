/- Contract of impl.Spot.hasForm. -/
import Derived.Test.YtlfafcbieeambaaSpC
namespace Go.Proofs.Ytlfafcbieeambaa
open Go.RowKit

set_option maxHeartbeats 2000000 in
set_option maxRecDepth 100000 in
theorem hasForm_act (t a cnt n ck cn : Int) (cf : Fo) (tg el : Int) (hm : cf.nodes ≤ 1048576) (hf : cf.Fits) (A : Option Addr) (C : Nat) (w : World) (hA : cf.Lies w A) :
    Calls Try.prog 78 #[.agg #[.int .i64 1, .int .i64 n, .int .i64 ck, .int .i64 cn, .slice A cf.len C, .int .i64 tg, .int .i64 el], .agg #[.int .i64 t, .int .i64 a], .int .i64 cnt] w fun e w' => e = .returned (.bool (spotB t a cnt 1 n ck cn cf tg el)) ∧ Below w.heap.size w w' := by
  obtain ⟨q0, hq0⟩ : ∃ q0 : Bool, q0 = belowB n a := ⟨_, rfl⟩
  have K0 : Hid (∀ W : World, Calls Try.prog 66 #[.int .i64 n, .int .i64 a] W fun e w' => e = .returned (.bool q0) ∧ W = w') := fun W => by rw [hq0]; exact below_any n a W
  obtain ⟨q1, hq1⟩ : ∃ q1 : Bool, q1 = belowB tg cnt := ⟨_, rfl⟩
  have K1 : Hid (∀ W : World, Calls Try.prog 66 #[.int .i64 tg, .int .i64 cnt] W fun e w' => e = .returned (.bool q1) ∧ W = w') := fun W => by rw [hq1]; exact below_any tg cnt W
  obtain ⟨q2, hq2⟩ : ∃ q2 : Bool, q2 = belowB el 1 := ⟨_, rfl⟩
  have K2 : Hid (∀ W : World, Calls Try.prog 66 #[.int .i64 el, .int .i64 1] W fun e w' => e = .returned (.bool q2) ∧ W = w') := fun W => by rw [hq2]; exact below_any el 1 W
  obtain ⟨q3, hq3⟩ : ∃ q3 : Bool, q3 = fieldV t a ck cn cf false := ⟨_, rfl⟩
  have K3 : Hid (∀ W : World, Sees w W → Calls Try.prog 125 #[.agg #[.int .i64 t, .int .i64 a], .agg #[.int .i64 ck, .int .i64 cn, .slice A cf.len C], .bool false] W fun e w' => e = .returned (.bool q3) ∧ Below W.heap.size W w') := fun W h => by rw [hq3]; exact isCondField_any t a ck cn cf hm hf false A C W (hA.sees h)
  have HS : Hid (spotB t a cnt 1 n ck cn cf tg el = (q0 && (q1 && (q2 && q3)))) := by show _ = _; rw [spot_act, hq0, hq1, hq2, hq3]; rfl
  clear hq0 hq1 hq2 hq3 hm hf hA
  cases q0
  · have HD : Hid (spotB t a cnt 1 n ck cn cf tg el = false) := by show _ = _; rw [HS.out]; rfl
    clear HS
    go_enter Try.func78, Try.ntmps78
    go_wp2_with fail
    refine (K0.out _).mono ?_
    rintro e w' ⟨rfl, rfl⟩
    go_wp2_with fail
    go_ret
    exact ⟨ret_bool HD.out.symm, by go_grown⟩
  · cases q1
    · have HD : Hid (spotB t a cnt 1 n ck cn cf tg el = false) := by show _ = _; rw [HS.out]; rfl
      clear HS
      go_enter Try.func78, Try.ntmps78
      go_wp2_with fail
      refine (K0.out _).mono ?_
      rintro e w' ⟨rfl, rfl⟩
      go_wp2_with fail
      refine (K1.out _).mono ?_
      rintro e w' ⟨rfl, rfl⟩
      go_wp2_with fail
      go_ret
      exact ⟨ret_bool HD.out.symm, by go_grown⟩
    · cases q2
      · have HD : Hid (spotB t a cnt 1 n ck cn cf tg el = false) := by show _ = _; rw [HS.out]; rfl
        clear HS
        go_enter Try.func78, Try.ntmps78
        go_wp2_with fail
        refine (K0.out _).mono ?_
        rintro e w' ⟨rfl, rfl⟩
        go_wp2_with fail
        refine (K1.out _).mono ?_
        rintro e w' ⟨rfl, rfl⟩
        go_wp2_with fail
        refine (K2.out _).mono ?_
        rintro e w' ⟨rfl, rfl⟩
        go_wp2_with fail
        go_ret
        exact ⟨ret_bool HD.out.symm, by go_grown⟩
      · have HD : Hid (spotB t a cnt 1 n ck cn cf tg el = q3) := by show _ = _; rw [HS.out]; rfl
        clear HS
        go_enter Try.func78, Try.ntmps78
        go_wp2_with fail
        refine (K0.out _).mono ?_
        rintro e w' ⟨rfl, rfl⟩
        go_wp2_with fail
        refine (K1.out _).mono ?_
        rintro e w' ⟨rfl, rfl⟩
        go_wp2_with fail
        refine (K2.out _).mono ?_
        rintro e w' ⟨rfl, rfl⟩
        go_wp2_with fail
        refine (K3.out _ (by unfold Sees; go_grown)).mono ?_
        rintro e w1 ⟨rfl, hb⟩
        have B1 : Sees w w1 := Sees.below (by unfold Sees; go_grown) hb
        clear hb
        go_wp2_with fail
        go_ret
        exact ⟨ret_bool HD.out.symm, B1⟩

set_option maxHeartbeats 2000000 in
set_option maxRecDepth 100000 in
theorem hasForm_test (t a cnt n ck cn : Int) (cf : Fo) (tg el : Int) (hm : cf.nodes ≤ 1048576) (hf : cf.Fits) (A : Option Addr) (C : Nat) (w : World) (hA : cf.Lies w A) :
    Calls Try.prog 78 #[.agg #[.int .i64 2, .int .i64 n, .int .i64 ck, .int .i64 cn, .slice A cf.len C, .int .i64 tg, .int .i64 el], .agg #[.int .i64 t, .int .i64 a], .int .i64 cnt] w fun e w' => e = .returned (.bool (spotB t a cnt 2 n ck cn cf tg el)) ∧ Below w.heap.size w w' := by
  obtain ⟨q0, hq0⟩ : ∃ q0 : Bool, q0 = belowB n 1 := ⟨_, rfl⟩
  have K0 : Hid (∀ W : World, Calls Try.prog 66 #[.int .i64 n, .int .i64 1] W fun e w' => e = .returned (.bool q0) ∧ W = w') := fun W => by rw [hq0]; exact below_any n 1 W
  obtain ⟨q1, hq1⟩ : ∃ q1 : Bool, q1 = belowB tg cnt := ⟨_, rfl⟩
  have K1 : Hid (∀ W : World, Calls Try.prog 66 #[.int .i64 tg, .int .i64 cnt] W fun e w' => e = .returned (.bool q1) ∧ W = w') := fun W => by rw [hq1]; exact below_any tg cnt W
  obtain ⟨q2, hq2⟩ : ∃ q2 : Bool, q2 = belowB el cnt := ⟨_, rfl⟩
  have K2 : Hid (∀ W : World, Calls Try.prog 66 #[.int .i64 el, .int .i64 cnt] W fun e w' => e = .returned (.bool q2) ∧ W = w') := fun W => by rw [hq2]; exact below_any el cnt W
  obtain ⟨q3, hq3⟩ : ∃ q3 : Bool, q3 = fieldV t a ck cn cf true := ⟨_, rfl⟩
  have K3 : Hid (∀ W : World, Sees w W → Calls Try.prog 125 #[.agg #[.int .i64 t, .int .i64 a], .agg #[.int .i64 ck, .int .i64 cn, .slice A cf.len C], .bool true] W fun e w' => e = .returned (.bool q3) ∧ Below W.heap.size W w') := fun W h => by rw [hq3]; exact isCondField_any t a ck cn cf hm hf true A C W (hA.sees h)
  have HS : Hid (spotB t a cnt 2 n ck cn cf tg el = (q0 && (q1 && (q2 && q3)))) := by show _ = _; rw [spot_test, hq0, hq1, hq2, hq3]; rfl
  clear hq0 hq1 hq2 hq3 hm hf hA
  cases q0
  · have HD : Hid (spotB t a cnt 2 n ck cn cf tg el = false) := by show _ = _; rw [HS.out]; rfl
    clear HS
    go_enter Try.func78, Try.ntmps78
    go_wp2_with fail
    refine (K0.out _).mono ?_
    rintro e w' ⟨rfl, rfl⟩
    go_wp2_with fail
    go_ret
    exact ⟨ret_bool HD.out.symm, by go_grown⟩
  · cases q1
    · have HD : Hid (spotB t a cnt 2 n ck cn cf tg el = false) := by show _ = _; rw [HS.out]; rfl
      clear HS
      go_enter Try.func78, Try.ntmps78
      go_wp2_with fail
      refine (K0.out _).mono ?_
      rintro e w' ⟨rfl, rfl⟩
      go_wp2_with fail
      refine (K1.out _).mono ?_
      rintro e w' ⟨rfl, rfl⟩
      go_wp2_with fail
      go_ret
      exact ⟨ret_bool HD.out.symm, by go_grown⟩
    · cases q2
      · have HD : Hid (spotB t a cnt 2 n ck cn cf tg el = false) := by show _ = _; rw [HS.out]; rfl
        clear HS
        go_enter Try.func78, Try.ntmps78
        go_wp2_with fail
        refine (K0.out _).mono ?_
        rintro e w' ⟨rfl, rfl⟩
        go_wp2_with fail
        refine (K1.out _).mono ?_
        rintro e w' ⟨rfl, rfl⟩
        go_wp2_with fail
        refine (K2.out _).mono ?_
        rintro e w' ⟨rfl, rfl⟩
        go_wp2_with fail
        go_ret
        exact ⟨ret_bool HD.out.symm, by go_grown⟩
      · have HD : Hid (spotB t a cnt 2 n ck cn cf tg el = q3) := by show _ = _; rw [HS.out]; rfl
        clear HS
        go_enter Try.func78, Try.ntmps78
        go_wp2_with fail
        refine (K0.out _).mono ?_
        rintro e w' ⟨rfl, rfl⟩
        go_wp2_with fail
        refine (K1.out _).mono ?_
        rintro e w' ⟨rfl, rfl⟩
        go_wp2_with fail
        refine (K2.out _).mono ?_
        rintro e w' ⟨rfl, rfl⟩
        go_wp2_with fail
        refine (K3.out _ (by unfold Sees; go_grown)).mono ?_
        rintro e w1 ⟨rfl, hb⟩
        have B1 : Sees w w1 := Sees.below (by unfold Sees; go_grown) hb
        clear hb
        go_wp2_with fail
        go_ret
        exact ⟨ret_bool HD.out.symm, B1⟩

set_option maxHeartbeats 2000000 in
set_option maxRecDepth 100000 in
theorem hasForm_halt (t a cnt n ck cn : Int) (cf : Fo) (tg el : Int) (hm : cf.nodes ≤ 1048576) (hf : cf.Fits) (A : Option Addr) (C : Nat) (w : World) (hA : cf.Lies w A) :
    Calls Try.prog 78 #[.agg #[.int .i64 3, .int .i64 n, .int .i64 ck, .int .i64 cn, .slice A cf.len C, .int .i64 tg, .int .i64 el], .agg #[.int .i64 t, .int .i64 a], .int .i64 cnt] w fun e w' => e = .returned (.bool (spotB t a cnt 3 n ck cn cf tg el)) ∧ Below w.heap.size w w' := by
  obtain ⟨q0, hq0⟩ : ∃ q0 : Bool, q0 = belowB n 1 := ⟨_, rfl⟩
  have K0 : Hid (∀ W : World, Calls Try.prog 66 #[.int .i64 n, .int .i64 1] W fun e w' => e = .returned (.bool q0) ∧ W = w') := fun W => by rw [hq0]; exact below_any n 1 W
  obtain ⟨q1, hq1⟩ : ∃ q1 : Bool, q1 = belowB tg 1 := ⟨_, rfl⟩
  have K1 : Hid (∀ W : World, Calls Try.prog 66 #[.int .i64 tg, .int .i64 1] W fun e w' => e = .returned (.bool q1) ∧ W = w') := fun W => by rw [hq1]; exact below_any tg 1 W
  obtain ⟨q2, hq2⟩ : ∃ q2 : Bool, q2 = belowB el 1 := ⟨_, rfl⟩
  have K2 : Hid (∀ W : World, Calls Try.prog 66 #[.int .i64 el, .int .i64 1] W fun e w' => e = .returned (.bool q2) ∧ W = w') := fun W => by rw [hq2]; exact below_any el 1 W
  obtain ⟨q3, hq3⟩ : ∃ q3 : Bool, q3 = fieldV t a ck cn cf false := ⟨_, rfl⟩
  have K3 : Hid (∀ W : World, Sees w W → Calls Try.prog 125 #[.agg #[.int .i64 t, .int .i64 a], .agg #[.int .i64 ck, .int .i64 cn, .slice A cf.len C], .bool false] W fun e w' => e = .returned (.bool q3) ∧ Below W.heap.size W w') := fun W h => by rw [hq3]; exact isCondField_any t a ck cn cf hm hf false A C W (hA.sees h)
  have HS : Hid (spotB t a cnt 3 n ck cn cf tg el = (q0 && (q1 && (q2 && q3)))) := by show _ = _; rw [spot_end _ _ _ _ _ _ _ _ _ _ (Or.inl rfl), hq0, hq1, hq2, hq3]; rfl
  clear hq0 hq1 hq2 hq3 hm hf hA
  cases q0
  · have HD : Hid (spotB t a cnt 3 n ck cn cf tg el = false) := by show _ = _; rw [HS.out]; rfl
    clear HS
    go_enter Try.func78, Try.ntmps78
    go_wp2_with fail
    refine (K0.out _).mono ?_
    rintro e w' ⟨rfl, rfl⟩
    go_wp2_with fail
    go_ret
    exact ⟨ret_bool HD.out.symm, by go_grown⟩
  · cases q1
    · have HD : Hid (spotB t a cnt 3 n ck cn cf tg el = false) := by show _ = _; rw [HS.out]; rfl
      clear HS
      go_enter Try.func78, Try.ntmps78
      go_wp2_with fail
      refine (K0.out _).mono ?_
      rintro e w' ⟨rfl, rfl⟩
      go_wp2_with fail
      refine (K1.out _).mono ?_
      rintro e w' ⟨rfl, rfl⟩
      go_wp2_with fail
      go_ret
      exact ⟨ret_bool HD.out.symm, by go_grown⟩
    · cases q2
      · have HD : Hid (spotB t a cnt 3 n ck cn cf tg el = false) := by show _ = _; rw [HS.out]; rfl
        clear HS
        go_enter Try.func78, Try.ntmps78
        go_wp2_with fail
        refine (K0.out _).mono ?_
        rintro e w' ⟨rfl, rfl⟩
        go_wp2_with fail
        refine (K1.out _).mono ?_
        rintro e w' ⟨rfl, rfl⟩
        go_wp2_with fail
        refine (K2.out _).mono ?_
        rintro e w' ⟨rfl, rfl⟩
        go_wp2_with fail
        go_ret
        exact ⟨ret_bool HD.out.symm, by go_grown⟩
      · have HD : Hid (spotB t a cnt 3 n ck cn cf tg el = q3) := by show _ = _; rw [HS.out]; rfl
        clear HS
        go_enter Try.func78, Try.ntmps78
        go_wp2_with fail
        refine (K0.out _).mono ?_
        rintro e w' ⟨rfl, rfl⟩
        go_wp2_with fail
        refine (K1.out _).mono ?_
        rintro e w' ⟨rfl, rfl⟩
        go_wp2_with fail
        refine (K2.out _).mono ?_
        rintro e w' ⟨rfl, rfl⟩
        go_wp2_with fail
        refine (K3.out _ (by unfold Sees; go_grown)).mono ?_
        rintro e w1 ⟨rfl, hb⟩
        have B1 : Sees w w1 := Sees.below (by unfold Sees; go_grown) hb
        clear hb
        go_wp2_with fail
        go_ret
        exact ⟨ret_bool HD.out.symm, B1⟩

set_option maxHeartbeats 2000000 in
set_option maxRecDepth 100000 in
theorem hasForm_fail (t a cnt n ck cn : Int) (cf : Fo) (tg el : Int) (hm : cf.nodes ≤ 1048576) (hf : cf.Fits) (A : Option Addr) (C : Nat) (w : World) (hA : cf.Lies w A) :
    Calls Try.prog 78 #[.agg #[.int .i64 4, .int .i64 n, .int .i64 ck, .int .i64 cn, .slice A cf.len C, .int .i64 tg, .int .i64 el], .agg #[.int .i64 t, .int .i64 a], .int .i64 cnt] w fun e w' => e = .returned (.bool (spotB t a cnt 4 n ck cn cf tg el)) ∧ Below w.heap.size w w' := by
  obtain ⟨q0, hq0⟩ : ∃ q0 : Bool, q0 = belowB n 1 := ⟨_, rfl⟩
  have K0 : Hid (∀ W : World, Calls Try.prog 66 #[.int .i64 n, .int .i64 1] W fun e w' => e = .returned (.bool q0) ∧ W = w') := fun W => by rw [hq0]; exact below_any n 1 W
  obtain ⟨q1, hq1⟩ : ∃ q1 : Bool, q1 = belowB tg 1 := ⟨_, rfl⟩
  have K1 : Hid (∀ W : World, Calls Try.prog 66 #[.int .i64 tg, .int .i64 1] W fun e w' => e = .returned (.bool q1) ∧ W = w') := fun W => by rw [hq1]; exact below_any tg 1 W
  obtain ⟨q2, hq2⟩ : ∃ q2 : Bool, q2 = belowB el 1 := ⟨_, rfl⟩
  have K2 : Hid (∀ W : World, Calls Try.prog 66 #[.int .i64 el, .int .i64 1] W fun e w' => e = .returned (.bool q2) ∧ W = w') := fun W => by rw [hq2]; exact below_any el 1 W
  obtain ⟨q3, hq3⟩ : ∃ q3 : Bool, q3 = fieldV t a ck cn cf false := ⟨_, rfl⟩
  have K3 : Hid (∀ W : World, Sees w W → Calls Try.prog 125 #[.agg #[.int .i64 t, .int .i64 a], .agg #[.int .i64 ck, .int .i64 cn, .slice A cf.len C], .bool false] W fun e w' => e = .returned (.bool q3) ∧ Below W.heap.size W w') := fun W h => by rw [hq3]; exact isCondField_any t a ck cn cf hm hf false A C W (hA.sees h)
  have HS : Hid (spotB t a cnt 4 n ck cn cf tg el = (q0 && (q1 && (q2 && q3)))) := by show _ = _; rw [spot_end _ _ _ _ _ _ _ _ _ _ (Or.inr rfl), hq0, hq1, hq2, hq3]; rfl
  clear hq0 hq1 hq2 hq3 hm hf hA
  cases q0
  · have HD : Hid (spotB t a cnt 4 n ck cn cf tg el = false) := by show _ = _; rw [HS.out]; rfl
    clear HS
    go_enter Try.func78, Try.ntmps78
    go_wp2_with fail
    refine (K0.out _).mono ?_
    rintro e w' ⟨rfl, rfl⟩
    go_wp2_with fail
    go_ret
    exact ⟨ret_bool HD.out.symm, by go_grown⟩
  · cases q1
    · have HD : Hid (spotB t a cnt 4 n ck cn cf tg el = false) := by show _ = _; rw [HS.out]; rfl
      clear HS
      go_enter Try.func78, Try.ntmps78
      go_wp2_with fail
      refine (K0.out _).mono ?_
      rintro e w' ⟨rfl, rfl⟩
      go_wp2_with fail
      refine (K1.out _).mono ?_
      rintro e w' ⟨rfl, rfl⟩
      go_wp2_with fail
      go_ret
      exact ⟨ret_bool HD.out.symm, by go_grown⟩
    · cases q2
      · have HD : Hid (spotB t a cnt 4 n ck cn cf tg el = false) := by show _ = _; rw [HS.out]; rfl
        clear HS
        go_enter Try.func78, Try.ntmps78
        go_wp2_with fail
        refine (K0.out _).mono ?_
        rintro e w' ⟨rfl, rfl⟩
        go_wp2_with fail
        refine (K1.out _).mono ?_
        rintro e w' ⟨rfl, rfl⟩
        go_wp2_with fail
        refine (K2.out _).mono ?_
        rintro e w' ⟨rfl, rfl⟩
        go_wp2_with fail
        go_ret
        exact ⟨ret_bool HD.out.symm, by go_grown⟩
      · have HD : Hid (spotB t a cnt 4 n ck cn cf tg el = q3) := by show _ = _; rw [HS.out]; rfl
        clear HS
        go_enter Try.func78, Try.ntmps78
        go_wp2_with fail
        refine (K0.out _).mono ?_
        rintro e w' ⟨rfl, rfl⟩
        go_wp2_with fail
        refine (K1.out _).mono ?_
        rintro e w' ⟨rfl, rfl⟩
        go_wp2_with fail
        refine (K2.out _).mono ?_
        rintro e w' ⟨rfl, rfl⟩
        go_wp2_with fail
        refine (K3.out _ (by unfold Sees; go_grown)).mono ?_
        rintro e w1 ⟨rfl, hb⟩
        have B1 : Sees w w1 := Sees.below (by unfold Sees; go_grown) hb
        clear hb
        go_wp2_with fail
        go_ret
        exact ⟨ret_bool HD.out.symm, B1⟩

set_option maxHeartbeats 1000000 in
theorem hasForm_any (t a cnt : Int) (x : Sp) (hm : x.cf.nodes ≤ 1048576) (hf : x.cf.Fits) (A : Option Addr) (C : Nat) (w : World) (hA : x.cf.Lies w A) :
    Calls Try.prog 78 #[.agg #[.int .i64 x.k, .int .i64 x.n, .int .i64 x.ck, .int .i64 x.cn, .slice A x.cf.len C, .int .i64 x.tg, .int .i64 x.el], .agg #[.int .i64 t, .int .i64 a], .int .i64 cnt] w fun e w' => e = .returned (.bool (spB t a cnt x)) ∧ Below w.heap.size w w' := by
  obtain ⟨k, n, ck, cn, cf, tg, el⟩ := x
  by_cases h1 : k = 1
  · subst h1; exact hasForm_act t a cnt n ck cn cf tg el hm hf A C w hA
  by_cases h2 : k = 2
  · subst h2; exact hasForm_test t a cnt n ck cn cf tg el hm hf A C w hA
  by_cases h3 : k = 3
  · subst h3; exact hasForm_halt t a cnt n ck cn cf tg el hm hf A C w hA
  by_cases h4 : k = 4
  · subst h4; exact hasForm_fail t a cnt n ck cn cf tg el hm hf A C w hA
  have HD : Hid (spotB t a cnt k n ck cn cf tg el = false) := spot_other t a cnt k n ck cn cf tg el h1 h2 h3 h4
  show Calls _ _ _ _ (fun e w' => e = .returned (.bool (spotB t a cnt k n ck cn cf tg el)) ∧ Below w.heap.size w w')
  have tk1 : (k == 1) = false := by rw [beq_eq_false_iff_ne]; exact h1
  have tk2 : (k == 2) = false := by rw [beq_eq_false_iff_ne]; exact h2
  have tk3 : (k == 3) = false := by rw [beq_eq_false_iff_ne]; exact h3
  have tk4 : (k == 4) = false := by rw [beq_eq_false_iff_ne]; exact h4
  clear h1 h2 h3 h4 hm hf hA
  dsimp only
  go_enter Try.func78, Try.ntmps78
  go_wp2_with fail
  go_ret
  exact ⟨ret_bool HD.out.symm, by go_grown⟩
end Go.Proofs.Ytlfafcbieeambaa
