/- Contract of impl.Spot.hasForm. Contracts of impl.every at spots, impl.ValidFlow. A builder that a call has made: strings and numbers are written, the text is read. Assertions that a node is an action. Closed facts. -/
import Derived.Test.YtmblgkpgfofceaaDoorSpC
import Derived.Shelf.Abstract
import Derived.Laws.EntriesVeiled
import Derived.Test.YtmblgkpgfofceaaDoorShelf
import Derived.Test.YtmblgkpgfofceaaDoorTx
import Derived.Test.YtmblgkpgfofceaaDoorSig
import Derived.Test.YtmblgkpgfofceaaDoorSep
import Derived.Lib.Hide
import Derived.Test.YtmblgkpgfofceaaDoorAssert
namespace Go.Proofs.YtmblgkpgfofceaaDoor
open Go.RowKit

set_option maxHeartbeats 2000000 in
set_option maxRecDepth 100000 in
theorem hasForm_act (t a cnt n ck cn : Int) (cf : Fo) (tg el : Int) (hm : cf.nodes ≤ 1048576) (hf : cf.Fits) (A : Option Addr) (C : Nat) (w : World) (hA : cf.Lies w A) :
    Calls Tryd.prog 30 #[.agg #[.int .i64 1, .int .i64 n, .int .i64 ck, .int .i64 cn, .slice A cf.len C, .int .i64 tg, .int .i64 el], .agg #[.int .i64 t, .int .i64 a], .int .i64 cnt] w fun e w' => e = .returned (.bool (spotB t a cnt 1 n ck cn cf tg el)) ∧ Below w.heap.size w w' := by
  obtain ⟨q0, hq0⟩ : ∃ q0 : Bool, q0 = belowB n a := ⟨_, rfl⟩
  have K0 : Hid (∀ W : World, Calls Tryd.prog 27 #[.int .i64 n, .int .i64 a] W fun e w' => e = .returned (.bool q0) ∧ W = w') := fun W => by rw [hq0]; exact below_any n a W
  obtain ⟨q1, hq1⟩ : ∃ q1 : Bool, q1 = belowB tg cnt := ⟨_, rfl⟩
  have K1 : Hid (∀ W : World, Calls Tryd.prog 27 #[.int .i64 tg, .int .i64 cnt] W fun e w' => e = .returned (.bool q1) ∧ W = w') := fun W => by rw [hq1]; exact below_any tg cnt W
  obtain ⟨q2, hq2⟩ : ∃ q2 : Bool, q2 = belowB el 1 := ⟨_, rfl⟩
  have K2 : Hid (∀ W : World, Calls Tryd.prog 27 #[.int .i64 el, .int .i64 1] W fun e w' => e = .returned (.bool q2) ∧ W = w') := fun W => by rw [hq2]; exact below_any el 1 W
  obtain ⟨q3, hq3⟩ : ∃ q3 : Bool, q3 = fieldV t a ck cn cf false := ⟨_, rfl⟩
  have K3 : Hid (∀ W : World, Sees w W → Calls Tryd.prog 42 #[.agg #[.int .i64 t, .int .i64 a], .agg #[.int .i64 ck, .int .i64 cn, .slice A cf.len C], .bool false] W fun e w' => e = .returned (.bool q3) ∧ Below W.heap.size W w') := fun W h => by rw [hq3]; exact isCondField_any t a ck cn cf hm hf false A C W (hA.sees h)
  have HS : Hid (spotB t a cnt 1 n ck cn cf tg el = (q0 && (q1 && (q2 && q3)))) := by show _ = _; rw [spot_act, hq0, hq1, hq2, hq3]; rfl
  clear hq0 hq1 hq2 hq3 hm hf hA
  cases q0
  · have HD : Hid (spotB t a cnt 1 n ck cn cf tg el = false) := by show _ = _; rw [HS.out]; rfl
    clear HS
    go_enter Tryd.func30, Tryd.ntmps30
    go_wp2_with fail
    refine (K0.out _).mono ?_
    rintro e w' ⟨rfl, rfl⟩
    go_wp2_with fail
    go_ret
    exact ⟨ret_bool HD.out.symm, by go_grown⟩
  · cases q1
    · have HD : Hid (spotB t a cnt 1 n ck cn cf tg el = false) := by show _ = _; rw [HS.out]; rfl
      clear HS
      go_enter Tryd.func30, Tryd.ntmps30
      go_wp2_with fail
      refine (K0.out _).mono ?_
      rintro e w' ⟨rfl, rfl⟩
      go_wp2_with fail
      refine (K1.out _).mono ?_
      rintro e w' ⟨rfl, rfl⟩
      go_wp2_with fail
      go_ret
      exact ⟨ret_bool HD.out.symm, by go_grown⟩
    · cases q2
      · have HD : Hid (spotB t a cnt 1 n ck cn cf tg el = false) := by show _ = _; rw [HS.out]; rfl
        clear HS
        go_enter Tryd.func30, Tryd.ntmps30
        go_wp2_with fail
        refine (K0.out _).mono ?_
        rintro e w' ⟨rfl, rfl⟩
        go_wp2_with fail
        refine (K1.out _).mono ?_
        rintro e w' ⟨rfl, rfl⟩
        go_wp2_with fail
        refine (K2.out _).mono ?_
        rintro e w' ⟨rfl, rfl⟩
        go_wp2_with fail
        go_ret
        exact ⟨ret_bool HD.out.symm, by go_grown⟩
      · have HD : Hid (spotB t a cnt 1 n ck cn cf tg el = q3) := by show _ = _; rw [HS.out]; rfl
        clear HS
        go_enter Tryd.func30, Tryd.ntmps30
        go_wp2_with fail
        refine (K0.out _).mono ?_
        rintro e w' ⟨rfl, rfl⟩
        go_wp2_with fail
        refine (K1.out _).mono ?_
        rintro e w' ⟨rfl, rfl⟩
        go_wp2_with fail
        refine (K2.out _).mono ?_
        rintro e w' ⟨rfl, rfl⟩
        go_wp2_with fail
        refine (K3.out _ (by unfold Sees; go_grown)).mono ?_
        rintro e w1 ⟨rfl, hb⟩
        have B1 : Sees w w1 := Sees.below (by unfold Sees; go_grown) hb
        clear hb
        go_wp2_with fail
        go_ret
        exact ⟨ret_bool HD.out.symm, B1⟩

set_option maxHeartbeats 2000000 in
set_option maxRecDepth 100000 in
theorem hasForm_test (t a cnt n ck cn : Int) (cf : Fo) (tg el : Int) (hm : cf.nodes ≤ 1048576) (hf : cf.Fits) (A : Option Addr) (C : Nat) (w : World) (hA : cf.Lies w A) :
    Calls Tryd.prog 30 #[.agg #[.int .i64 2, .int .i64 n, .int .i64 ck, .int .i64 cn, .slice A cf.len C, .int .i64 tg, .int .i64 el], .agg #[.int .i64 t, .int .i64 a], .int .i64 cnt] w fun e w' => e = .returned (.bool (spotB t a cnt 2 n ck cn cf tg el)) ∧ Below w.heap.size w w' := by
  obtain ⟨q0, hq0⟩ : ∃ q0 : Bool, q0 = belowB n 1 := ⟨_, rfl⟩
  have K0 : Hid (∀ W : World, Calls Tryd.prog 27 #[.int .i64 n, .int .i64 1] W fun e w' => e = .returned (.bool q0) ∧ W = w') := fun W => by rw [hq0]; exact below_any n 1 W
  obtain ⟨q1, hq1⟩ : ∃ q1 : Bool, q1 = belowB tg cnt := ⟨_, rfl⟩
  have K1 : Hid (∀ W : World, Calls Tryd.prog 27 #[.int .i64 tg, .int .i64 cnt] W fun e w' => e = .returned (.bool q1) ∧ W = w') := fun W => by rw [hq1]; exact below_any tg cnt W
  obtain ⟨q2, hq2⟩ : ∃ q2 : Bool, q2 = belowB el cnt := ⟨_, rfl⟩
  have K2 : Hid (∀ W : World, Calls Tryd.prog 27 #[.int .i64 el, .int .i64 cnt] W fun e w' => e = .returned (.bool q2) ∧ W = w') := fun W => by rw [hq2]; exact below_any el cnt W
  obtain ⟨q3, hq3⟩ : ∃ q3 : Bool, q3 = fieldV t a ck cn cf true := ⟨_, rfl⟩
  have K3 : Hid (∀ W : World, Sees w W → Calls Tryd.prog 42 #[.agg #[.int .i64 t, .int .i64 a], .agg #[.int .i64 ck, .int .i64 cn, .slice A cf.len C], .bool true] W fun e w' => e = .returned (.bool q3) ∧ Below W.heap.size W w') := fun W h => by rw [hq3]; exact isCondField_any t a ck cn cf hm hf true A C W (hA.sees h)
  have HS : Hid (spotB t a cnt 2 n ck cn cf tg el = (q0 && (q1 && (q2 && q3)))) := by show _ = _; rw [spot_test, hq0, hq1, hq2, hq3]; rfl
  clear hq0 hq1 hq2 hq3 hm hf hA
  cases q0
  · have HD : Hid (spotB t a cnt 2 n ck cn cf tg el = false) := by show _ = _; rw [HS.out]; rfl
    clear HS
    go_enter Tryd.func30, Tryd.ntmps30
    go_wp2_with fail
    refine (K0.out _).mono ?_
    rintro e w' ⟨rfl, rfl⟩
    go_wp2_with fail
    go_ret
    exact ⟨ret_bool HD.out.symm, by go_grown⟩
  · cases q1
    · have HD : Hid (spotB t a cnt 2 n ck cn cf tg el = false) := by show _ = _; rw [HS.out]; rfl
      clear HS
      go_enter Tryd.func30, Tryd.ntmps30
      go_wp2_with fail
      refine (K0.out _).mono ?_
      rintro e w' ⟨rfl, rfl⟩
      go_wp2_with fail
      refine (K1.out _).mono ?_
      rintro e w' ⟨rfl, rfl⟩
      go_wp2_with fail
      go_ret
      exact ⟨ret_bool HD.out.symm, by go_grown⟩
    · cases q2
      · have HD : Hid (spotB t a cnt 2 n ck cn cf tg el = false) := by show _ = _; rw [HS.out]; rfl
        clear HS
        go_enter Tryd.func30, Tryd.ntmps30
        go_wp2_with fail
        refine (K0.out _).mono ?_
        rintro e w' ⟨rfl, rfl⟩
        go_wp2_with fail
        refine (K1.out _).mono ?_
        rintro e w' ⟨rfl, rfl⟩
        go_wp2_with fail
        refine (K2.out _).mono ?_
        rintro e w' ⟨rfl, rfl⟩
        go_wp2_with fail
        go_ret
        exact ⟨ret_bool HD.out.symm, by go_grown⟩
      · have HD : Hid (spotB t a cnt 2 n ck cn cf tg el = q3) := by show _ = _; rw [HS.out]; rfl
        clear HS
        go_enter Tryd.func30, Tryd.ntmps30
        go_wp2_with fail
        refine (K0.out _).mono ?_
        rintro e w' ⟨rfl, rfl⟩
        go_wp2_with fail
        refine (K1.out _).mono ?_
        rintro e w' ⟨rfl, rfl⟩
        go_wp2_with fail
        refine (K2.out _).mono ?_
        rintro e w' ⟨rfl, rfl⟩
        go_wp2_with fail
        refine (K3.out _ (by unfold Sees; go_grown)).mono ?_
        rintro e w1 ⟨rfl, hb⟩
        have B1 : Sees w w1 := Sees.below (by unfold Sees; go_grown) hb
        clear hb
        go_wp2_with fail
        go_ret
        exact ⟨ret_bool HD.out.symm, B1⟩

set_option maxHeartbeats 2000000 in
set_option maxRecDepth 100000 in
theorem hasForm_halt (t a cnt n ck cn : Int) (cf : Fo) (tg el : Int) (hm : cf.nodes ≤ 1048576) (hf : cf.Fits) (A : Option Addr) (C : Nat) (w : World) (hA : cf.Lies w A) :
    Calls Tryd.prog 30 #[.agg #[.int .i64 3, .int .i64 n, .int .i64 ck, .int .i64 cn, .slice A cf.len C, .int .i64 tg, .int .i64 el], .agg #[.int .i64 t, .int .i64 a], .int .i64 cnt] w fun e w' => e = .returned (.bool (spotB t a cnt 3 n ck cn cf tg el)) ∧ Below w.heap.size w w' := by
  obtain ⟨q0, hq0⟩ : ∃ q0 : Bool, q0 = belowB n 1 := ⟨_, rfl⟩
  have K0 : Hid (∀ W : World, Calls Tryd.prog 27 #[.int .i64 n, .int .i64 1] W fun e w' => e = .returned (.bool q0) ∧ W = w') := fun W => by rw [hq0]; exact below_any n 1 W
  obtain ⟨q1, hq1⟩ : ∃ q1 : Bool, q1 = belowB tg 1 := ⟨_, rfl⟩
  have K1 : Hid (∀ W : World, Calls Tryd.prog 27 #[.int .i64 tg, .int .i64 1] W fun e w' => e = .returned (.bool q1) ∧ W = w') := fun W => by rw [hq1]; exact below_any tg 1 W
  obtain ⟨q2, hq2⟩ : ∃ q2 : Bool, q2 = belowB el 1 := ⟨_, rfl⟩
  have K2 : Hid (∀ W : World, Calls Tryd.prog 27 #[.int .i64 el, .int .i64 1] W fun e w' => e = .returned (.bool q2) ∧ W = w') := fun W => by rw [hq2]; exact below_any el 1 W
  obtain ⟨q3, hq3⟩ : ∃ q3 : Bool, q3 = fieldV t a ck cn cf false := ⟨_, rfl⟩
  have K3 : Hid (∀ W : World, Sees w W → Calls Tryd.prog 42 #[.agg #[.int .i64 t, .int .i64 a], .agg #[.int .i64 ck, .int .i64 cn, .slice A cf.len C], .bool false] W fun e w' => e = .returned (.bool q3) ∧ Below W.heap.size W w') := fun W h => by rw [hq3]; exact isCondField_any t a ck cn cf hm hf false A C W (hA.sees h)
  have HS : Hid (spotB t a cnt 3 n ck cn cf tg el = (q0 && (q1 && (q2 && q3)))) := by show _ = _; rw [spot_end _ _ _ _ _ _ _ _ _ _ (Or.inl rfl), hq0, hq1, hq2, hq3]; rfl
  clear hq0 hq1 hq2 hq3 hm hf hA
  cases q0
  · have HD : Hid (spotB t a cnt 3 n ck cn cf tg el = false) := by show _ = _; rw [HS.out]; rfl
    clear HS
    go_enter Tryd.func30, Tryd.ntmps30
    go_wp2_with fail
    refine (K0.out _).mono ?_
    rintro e w' ⟨rfl, rfl⟩
    go_wp2_with fail
    go_ret
    exact ⟨ret_bool HD.out.symm, by go_grown⟩
  · cases q1
    · have HD : Hid (spotB t a cnt 3 n ck cn cf tg el = false) := by show _ = _; rw [HS.out]; rfl
      clear HS
      go_enter Tryd.func30, Tryd.ntmps30
      go_wp2_with fail
      refine (K0.out _).mono ?_
      rintro e w' ⟨rfl, rfl⟩
      go_wp2_with fail
      refine (K1.out _).mono ?_
      rintro e w' ⟨rfl, rfl⟩
      go_wp2_with fail
      go_ret
      exact ⟨ret_bool HD.out.symm, by go_grown⟩
    · cases q2
      · have HD : Hid (spotB t a cnt 3 n ck cn cf tg el = false) := by show _ = _; rw [HS.out]; rfl
        clear HS
        go_enter Tryd.func30, Tryd.ntmps30
        go_wp2_with fail
        refine (K0.out _).mono ?_
        rintro e w' ⟨rfl, rfl⟩
        go_wp2_with fail
        refine (K1.out _).mono ?_
        rintro e w' ⟨rfl, rfl⟩
        go_wp2_with fail
        refine (K2.out _).mono ?_
        rintro e w' ⟨rfl, rfl⟩
        go_wp2_with fail
        go_ret
        exact ⟨ret_bool HD.out.symm, by go_grown⟩
      · have HD : Hid (spotB t a cnt 3 n ck cn cf tg el = q3) := by show _ = _; rw [HS.out]; rfl
        clear HS
        go_enter Tryd.func30, Tryd.ntmps30
        go_wp2_with fail
        refine (K0.out _).mono ?_
        rintro e w' ⟨rfl, rfl⟩
        go_wp2_with fail
        refine (K1.out _).mono ?_
        rintro e w' ⟨rfl, rfl⟩
        go_wp2_with fail
        refine (K2.out _).mono ?_
        rintro e w' ⟨rfl, rfl⟩
        go_wp2_with fail
        refine (K3.out _ (by unfold Sees; go_grown)).mono ?_
        rintro e w1 ⟨rfl, hb⟩
        have B1 : Sees w w1 := Sees.below (by unfold Sees; go_grown) hb
        clear hb
        go_wp2_with fail
        go_ret
        exact ⟨ret_bool HD.out.symm, B1⟩

set_option maxHeartbeats 2000000 in
set_option maxRecDepth 100000 in
theorem hasForm_fail (t a cnt n ck cn : Int) (cf : Fo) (tg el : Int) (hm : cf.nodes ≤ 1048576) (hf : cf.Fits) (A : Option Addr) (C : Nat) (w : World) (hA : cf.Lies w A) :
    Calls Tryd.prog 30 #[.agg #[.int .i64 4, .int .i64 n, .int .i64 ck, .int .i64 cn, .slice A cf.len C, .int .i64 tg, .int .i64 el], .agg #[.int .i64 t, .int .i64 a], .int .i64 cnt] w fun e w' => e = .returned (.bool (spotB t a cnt 4 n ck cn cf tg el)) ∧ Below w.heap.size w w' := by
  obtain ⟨q0, hq0⟩ : ∃ q0 : Bool, q0 = belowB n 1 := ⟨_, rfl⟩
  have K0 : Hid (∀ W : World, Calls Tryd.prog 27 #[.int .i64 n, .int .i64 1] W fun e w' => e = .returned (.bool q0) ∧ W = w') := fun W => by rw [hq0]; exact below_any n 1 W
  obtain ⟨q1, hq1⟩ : ∃ q1 : Bool, q1 = belowB tg 1 := ⟨_, rfl⟩
  have K1 : Hid (∀ W : World, Calls Tryd.prog 27 #[.int .i64 tg, .int .i64 1] W fun e w' => e = .returned (.bool q1) ∧ W = w') := fun W => by rw [hq1]; exact below_any tg 1 W
  obtain ⟨q2, hq2⟩ : ∃ q2 : Bool, q2 = belowB el 1 := ⟨_, rfl⟩
  have K2 : Hid (∀ W : World, Calls Tryd.prog 27 #[.int .i64 el, .int .i64 1] W fun e w' => e = .returned (.bool q2) ∧ W = w') := fun W => by rw [hq2]; exact below_any el 1 W
  obtain ⟨q3, hq3⟩ : ∃ q3 : Bool, q3 = fieldV t a ck cn cf false := ⟨_, rfl⟩
  have K3 : Hid (∀ W : World, Sees w W → Calls Tryd.prog 42 #[.agg #[.int .i64 t, .int .i64 a], .agg #[.int .i64 ck, .int .i64 cn, .slice A cf.len C], .bool false] W fun e w' => e = .returned (.bool q3) ∧ Below W.heap.size W w') := fun W h => by rw [hq3]; exact isCondField_any t a ck cn cf hm hf false A C W (hA.sees h)
  have HS : Hid (spotB t a cnt 4 n ck cn cf tg el = (q0 && (q1 && (q2 && q3)))) := by show _ = _; rw [spot_end _ _ _ _ _ _ _ _ _ _ (Or.inr rfl), hq0, hq1, hq2, hq3]; rfl
  clear hq0 hq1 hq2 hq3 hm hf hA
  cases q0
  · have HD : Hid (spotB t a cnt 4 n ck cn cf tg el = false) := by show _ = _; rw [HS.out]; rfl
    clear HS
    go_enter Tryd.func30, Tryd.ntmps30
    go_wp2_with fail
    refine (K0.out _).mono ?_
    rintro e w' ⟨rfl, rfl⟩
    go_wp2_with fail
    go_ret
    exact ⟨ret_bool HD.out.symm, by go_grown⟩
  · cases q1
    · have HD : Hid (spotB t a cnt 4 n ck cn cf tg el = false) := by show _ = _; rw [HS.out]; rfl
      clear HS
      go_enter Tryd.func30, Tryd.ntmps30
      go_wp2_with fail
      refine (K0.out _).mono ?_
      rintro e w' ⟨rfl, rfl⟩
      go_wp2_with fail
      refine (K1.out _).mono ?_
      rintro e w' ⟨rfl, rfl⟩
      go_wp2_with fail
      go_ret
      exact ⟨ret_bool HD.out.symm, by go_grown⟩
    · cases q2
      · have HD : Hid (spotB t a cnt 4 n ck cn cf tg el = false) := by show _ = _; rw [HS.out]; rfl
        clear HS
        go_enter Tryd.func30, Tryd.ntmps30
        go_wp2_with fail
        refine (K0.out _).mono ?_
        rintro e w' ⟨rfl, rfl⟩
        go_wp2_with fail
        refine (K1.out _).mono ?_
        rintro e w' ⟨rfl, rfl⟩
        go_wp2_with fail
        refine (K2.out _).mono ?_
        rintro e w' ⟨rfl, rfl⟩
        go_wp2_with fail
        go_ret
        exact ⟨ret_bool HD.out.symm, by go_grown⟩
      · have HD : Hid (spotB t a cnt 4 n ck cn cf tg el = q3) := by show _ = _; rw [HS.out]; rfl
        clear HS
        go_enter Tryd.func30, Tryd.ntmps30
        go_wp2_with fail
        refine (K0.out _).mono ?_
        rintro e w' ⟨rfl, rfl⟩
        go_wp2_with fail
        refine (K1.out _).mono ?_
        rintro e w' ⟨rfl, rfl⟩
        go_wp2_with fail
        refine (K2.out _).mono ?_
        rintro e w' ⟨rfl, rfl⟩
        go_wp2_with fail
        refine (K3.out _ (by unfold Sees; go_grown)).mono ?_
        rintro e w1 ⟨rfl, hb⟩
        have B1 : Sees w w1 := Sees.below (by unfold Sees; go_grown) hb
        clear hb
        go_wp2_with fail
        go_ret
        exact ⟨ret_bool HD.out.symm, B1⟩

set_option maxHeartbeats 1000000 in
theorem hasForm_any (t a cnt : Int) (x : Sp) (hm : x.cf.nodes ≤ 1048576) (hf : x.cf.Fits) (A : Option Addr) (C : Nat) (w : World) (hA : x.cf.Lies w A) :
    Calls Tryd.prog 30 #[.agg #[.int .i64 x.k, .int .i64 x.n, .int .i64 x.ck, .int .i64 x.cn, .slice A x.cf.len C, .int .i64 x.tg, .int .i64 x.el], .agg #[.int .i64 t, .int .i64 a], .int .i64 cnt] w fun e w' => e = .returned (.bool (spB t a cnt x)) ∧ Below w.heap.size w w' := by
  obtain ⟨k, n, ck, cn, cf, tg, el⟩ := x
  by_cases h1 : k = 1
  · subst h1; exact hasForm_act t a cnt n ck cn cf tg el hm hf A C w hA
  by_cases h2 : k = 2
  · subst h2; exact hasForm_test t a cnt n ck cn cf tg el hm hf A C w hA
  by_cases h3 : k = 3
  · subst h3; exact hasForm_halt t a cnt n ck cn cf tg el hm hf A C w hA
  by_cases h4 : k = 4
  · subst h4; exact hasForm_fail t a cnt n ck cn cf tg el hm hf A C w hA
  have HD : Hid (spotB t a cnt k n ck cn cf tg el = false) := spot_other t a cnt k n ck cn cf tg el h1 h2 h3 h4
  show Calls _ _ _ _ (fun e w' => e = .returned (.bool (spotB t a cnt k n ck cn cf tg el)) ∧ Below w.heap.size w w')
  have tk1 : (k == 1) = false := by rw [beq_eq_false_iff_ne]; exact h1
  have tk2 : (k == 2) = false := by rw [beq_eq_false_iff_ne]; exact h2
  have tk3 : (k == 3) = false := by rw [beq_eq_false_iff_ne]; exact h3
  have tk4 : (k == 4) = false := by rw [beq_eq_false_iff_ne]; exact h4
  clear h1 h2 h3 h4 hm hf hA
  dsimp only
  go_enter Tryd.func30, Tryd.ntmps30
  go_wp2_with fail
  go_ret
  exact ⟨ret_bool HD.out.symm, by go_grown⟩
end Go.Proofs.YtmblgkpgfofceaaDoor

namespace Go.Proofs.YtmblgkpgfofceaaDoor
open Go.RowKit

set_option maxHeartbeats 400000 in
theorem every1S_any (q : Bool) (N : Nat) (caps : Array Value) (eg : ∀ args w, (callFunc N args).run Tryd.prog w = .ok (.enter N args) w) (bh : Nat) (x : Sp) (B : Option Addr) (D : Nat) (w : World) (hc : w.cell? ⟨bh, 0, none⟩ = some (.func (.func N) #[] caps))
    (KC : Hid (∀ W : World, Sees w W → Calls Tryd.prog N (#[.agg #[.int .i64 x.k, .int .i64 x.n, .int .i64 x.ck, .int .i64 x.cn, .slice B x.cf.len D, .int .i64 x.tg, .int .i64 x.el]] ++ caps) W fun e w' => e = .returned (.bool q) ∧ Below W.heap.size W w')) :
    Calls Tryd.prog 41 #[.agg #[.int .i64 x.k, .int .i64 x.n, .int .i64 x.ck, .int .i64 x.cn, .slice B x.cf.len D, .int .i64 x.tg, .int .i64 x.el], .pointer (some ⟨bh, 0, none⟩)] w fun e w' => e = .returned (.bool (!q)) ∧ Below w.heap.size w w' := by
  have hc2 := ka (.cells #[.int .i64 x.k, .int .i64 x.n, .int .i64 x.ck, .int .i64 x.cn, .slice B x.cf.len D, .int .i64 x.tg, .int .i64 x.el] 45) hc
  have KS := Lib.hid (KC.out _ ((Sees.refl w).alloc (.cells #[.int .i64 x.k, .int .i64 x.n, .int .i64 x.ck, .int .i64 x.cn, .slice B x.cf.len D, .int .i64 x.tg, .int .i64 x.el] 45)))
  clear hc KC
  cases q
  all_goals
    go_enter Tryd.func41, Tryd.ntmps41
    go_wp2_with (go_at_fn N; refine KS.out.mono ?_; rintro e w1 ⟨rfl, hb⟩)
    go_ret
    exact ⟨rfl, Sees.below ((Sees.refl w).alloc _) (by assumption)⟩

set_option maxHeartbeats 1000000 in
theorem indexS_any (G : Sp → Bool) (bh : Nat) (xs : List Sp) (hm : xs.length ≤ 9223372036854775807) (A : Option Addr) (C : Nat) (w : World) (hl : SpL w xs A)
    (KC : Hid (∀ (W : World) (x : Sp) (B : Option Addr) (D : Nat), Sees w W → x ∈ xs → x.cf.Lies W B → Calls Tryd.prog 41 #[.agg #[.int .i64 x.k, .int .i64 x.n, .int .i64 x.ck, .int .i64 x.cn, .slice B x.cf.len D, .int .i64 x.tg, .int .i64 x.el], .pointer (some ⟨bh, 0, none⟩)] W fun e w' => e = .returned (.bool (!G x)) ∧ Below W.heap.size W w')) :
    Calls Tryd.prog 55 #[.slice A xs.length C, .func (.func 41) #[] #[.pointer (some ⟨bh, 0, none⟩)]] w fun e w' => (∃ i : Int, e = .returned (.int .i64 i) ∧ decide (0 ≤ i) = !(xs.all G)) ∧ Below w.heap.size w w' := by
  have HD : Hid (xs.all G = allS G xs 0) := allS_zero G xs
  have HH := Lib.hid hl
  clear hl
  go_enter Tryd.func55, Tryd.ntmps55
  go_wp2_with fail
  go_loopw [8] (fun i wr => ∃ j : Nat, j ≤ xs.length ∧ i = .int .i64 j ∧ Hid (xs.all G = allS G xs j) ∧ Hid (Below w.heap.size w wr)) (fun i _ => xs.length - (intOf i).toNat)
  case atStart => exact ⟨0, Nat.zero_le _, rfl, HD, Below.refl _ _⟩
  case round =>
    obtain ⟨j, hj, rfl, hq, hw⟩ := hrel
    clear HD
    by_cases hjl : j < xs.length
    · obtain ⟨b, o, rfl, hat⟩ := HH.out (by rintro rfl; simp at hjl)
      obtain ⟨B, D, c', hQ⟩ := hat j xs[j] (List.getElem?_eq_getElem hjl)
      have hst0 := allS_step G xs hjl
      have hin := List.getElem_mem hjl
      obtain ⟨x, hx⟩ : ∃ x, x = xs[j] := ⟨_, rfl⟩
      rw [← hx] at c' hst0 hin hQ
      obtain ⟨c0, c1, c2, c3, c4, c5, c6⟩ := c'.below hw.out
      have KX := Lib.hid (KC.out wr x B D hw.out hin (hQ.below hw.out))
      have HA := Lib.hid hat
      have hst : Hid (xs.all G = (G x && allS G xs (j + 1))) := hq.out.trans hst0
      obtain ⟨q, hqe⟩ : ∃ q : Bool, q = G x := ⟨_, rfl⟩
      rw [← hqe] at KX hst
      clear hat hst0 c' hx hin hQ hqe hq
      have hj0 : (0 : Int) ≤ (j : Int) := Int.natCast_nonneg _
      have hj1 : (j : Int) < (xs.length : Int) := by omega
      cases q
      · have hq2 : Hid (decide ((0 : Int) ≤ (j : Int)) = !(xs.all G)) := by show _ = _; rw [hst.out, decide_eq_true hj0]; rfl
        go_wp2_with fail
        refine KX.out.mono ?_
        rintro e w1 ⟨rfl, hb1⟩
        have hw2 := Sees.below hw.out hb1
        clear hb1 c0 c1 c2 c3 c4 c5 c6
        go_wp2_with fail
        go_ret
        exact ⟨⟨_, rfl, hq2.out⟩, hw2⟩
      · have hq2 : Hid (xs.all G = allS G xs (j + 1)) := by show _ = _; rw [hst.out]; rfl
        go_wp2_with fail
        refine KX.out.mono ?_
        rintro e w1 ⟨rfl, hb1⟩
        have hw2 := Lib.hid (Sees.below hw.out hb1)
        clear hb1 c0 c1 c2 c3 c4 c5 c6
        go_wp2_with fail
        go_roundw
        case rel => exact ⟨j + 1, by omega, by go_num, hq2, hw2⟩
        case measure => simp [intOf]; omega
    · obtain rfl : j = xs.length := by omega
      have hq2 : Hid (decide ((0 : Int) ≤ -1) = !(xs.all G)) := by show _ = _; rw [hq.out, allS_end]; rfl
      clear hq
      go_wp2_with fail
      go_ret
      exact ⟨⟨_, rfl, hq2.out⟩, hw.out⟩

set_option maxHeartbeats 400000 in
theorem containsS_any (G : Sp → Bool) (bh : Nat) (xs : List Sp) (hm : xs.length ≤ 9223372036854775807) (A : Option Addr) (C : Nat) (w : World) (hl : SpL w xs A)
    (KC : Hid (∀ (W : World) (x : Sp) (B : Option Addr) (D : Nat), Sees w W → x ∈ xs → x.cf.Lies W B → Calls Tryd.prog 41 #[.agg #[.int .i64 x.k, .int .i64 x.n, .int .i64 x.ck, .int .i64 x.cn, .slice B x.cf.len D, .int .i64 x.tg, .int .i64 x.el], .pointer (some ⟨bh, 0, none⟩)] W fun e w' => e = .returned (.bool (!G x)) ∧ Below W.heap.size W w')) :
    Calls Tryd.prog 40 #[.slice A xs.length C, .func (.func 41) #[] #[.pointer (some ⟨bh, 0, none⟩)]] w fun e w' => e = .returned (.bool (!(xs.all G))) ∧ Below w.heap.size w w' := by
  have KI := Lib.hid (indexS_any G bh xs hm A C w hl KC)
  clear hl
  obtain ⟨q, hq⟩ : ∃ q : Bool, q = xs.all G := ⟨_, rfl⟩
  rw [← hq] at KI ⊢
  clear hq
  go_enter Tryd.func40, Tryd.ntmps40
  go_wp2_with fail
  refine KI.out.mono ?_
  rintro e w1 ⟨⟨i, rfl, hi⟩, hb⟩
  by_cases h0 : 0 ≤ i
  · have hi' : q = false := by rw [decide_eq_true h0] at hi; simpa using hi.symm
    subst hi'
    clear hi
    go_wp2_with fail
    go_ret
    exact ⟨rfl, hb⟩
  · have hi' : q = true := by rw [decide_eq_false h0] at hi; simpa using hi.symm
    subst hi'
    clear hi
    have hd : Hid (decide (0 ≤ i) = !true) := decide_eq_false h0
    go_wp2_with fail
    go_ret
    exact ⟨ret_bool hd.out, hb⟩

set_option maxHeartbeats 400000 in
theorem everyS_any (G : Sp → Bool) (N : Nat) (caps : Array Value) (eg : ∀ args w, (callFunc N args).run Tryd.prog w = .ok (.enter N args) w) (xs : List Sp) (hm : xs.length ≤ 9223372036854775807) (A : Option Addr) (C : Nat) (w : World) (hl : SpL w xs A)
    (KC : Hid (∀ (W : World) (x : Sp) (B : Option Addr) (D : Nat), Sees w W → x ∈ xs → x.cf.Lies W B → Calls Tryd.prog N (#[.agg #[.int .i64 x.k, .int .i64 x.n, .int .i64 x.ck, .int .i64 x.cn, .slice B x.cf.len D, .int .i64 x.tg, .int .i64 x.el]] ++ caps) W fun e w' => e = .returned (.bool (G x)) ∧ Below W.heap.size W w')) :
    Calls Tryd.prog 28 #[.slice A xs.length C, .func (.func N) #[] caps] w fun e w' => e = .returned (.bool (xs.all G)) ∧ Below w.heap.size w w' := by
  have KI : Hid (∀ W : World, Sees w W → W.cell? ⟨w.heap.size, 0, none⟩ = some (.func (.func N) #[] caps) → Calls Tryd.prog 40 #[.slice A xs.length C, .func (.func 41) #[] #[.pointer (some ⟨w.heap.size, 0, none⟩)]] W fun e w' => e = .returned (.bool (!(xs.all G))) ∧ Below W.heap.size W w') := fun W h hc =>
    containsS_any G w.heap.size xs hm A C W (hl.below h) (fun W' x B D h' hx hQ => every1S_any (G x) N caps eg w.heap.size x B D W' (kc h' hc) (fun W2 h2 => KC.out W2 x B D (Sees.below h (Sees.below h' h2)) hx (hQ.below h2)))
  clear hl
  obtain ⟨q, hq⟩ : ∃ q : Bool, q = xs.all G := ⟨_, rfl⟩
  rw [← hq] at KI ⊢
  clear hq
  cases q
  all_goals
    go_enter Tryd.func28, Tryd.ntmps28
    go_wp2_with fail
    refine (KI.out _ (by unfold Sees; go_grown) (by simp [go_sem])).mono ?_
    rintro e w1 ⟨rfl, hb⟩
    have B1 : Sees w w1 := Sees.below (by unfold Sees; go_grown) hb
    clear hb
    go_wp2_with fail
    go_ret
    exact ⟨rfl, B1⟩

set_option maxHeartbeats 1000000 in
set_option maxRecDepth 100000 in
theorem formOf_any (t a n : Int) (bg bn : Nat) (x : Sp) (hm : x.cf.nodes ≤ 1048576) (hf : x.cf.Fits) (B : Option Addr) (D : Nat) (w : World) (hg0 : w.cell? ⟨bg, 0, none⟩ = some (.int .i64 t)) (hg1 : w.cell? ⟨bg, 1, none⟩ = some (.int .i64 a)) (hn : w.cell? ⟨bn, 0, none⟩ = some (.int .i64 n)) (hA : x.cf.Lies w B) :
    Calls Tryd.prog 29 #[.agg #[.int .i64 x.k, .int .i64 x.n, .int .i64 x.ck, .int .i64 x.cn, .slice B x.cf.len D, .int .i64 x.tg, .int .i64 x.el], .pointer (some ⟨bg, 0, none⟩), .pointer (some ⟨bn, 0, none⟩)] w fun e w' => e = .returned (.bool (spB t a n x)) ∧ Below w.heap.size w w' := by
  obtain ⟨q, hq⟩ : ∃ q : Bool, q = spB t a n x := ⟨_, rfl⟩
  have K : Hid (∀ W : World, Sees w W → Calls Tryd.prog 30 #[.agg #[.int .i64 x.k, .int .i64 x.n, .int .i64 x.ck, .int .i64 x.cn, .slice B x.cf.len D, .int .i64 x.tg, .int .i64 x.el], .agg #[.int .i64 t, .int .i64 a], .int .i64 n] W fun e w' => e = .returned (.bool q) ∧ Below W.heap.size W w') := fun W h => by rw [hq]; exact hasForm_any t a n x hm hf B D W (hA.sees h)
  have y0 := ka (.cells #[.int .i64 x.k, .int .i64 x.n, .int .i64 x.ck, .int .i64 x.cn, .slice B x.cf.len D, .int .i64 x.tg, .int .i64 x.el] 45) hg0; have y1 := ka (.cells #[.int .i64 x.k, .int .i64 x.n, .int .i64 x.ck, .int .i64 x.cn, .slice B x.cf.len D, .int .i64 x.tg, .int .i64 x.el] 45) hg1; have y2 := ka (.cells #[.int .i64 x.k, .int .i64 x.n, .int .i64 x.ck, .int .i64 x.cn, .slice B x.cf.len D, .int .i64 x.tg, .int .i64 x.el] 45) hn
  rw [← hq]
  clear hq hm hf hA hg0 hg1 hn
  go_enter Tryd.func29, Tryd.ntmps29
  go_wp2_with fail
  refine (K.out _ ((Sees.refl w).alloc _)).mono ?_
  rintro e w1 ⟨rfl, hb⟩
  have B1 : Sees w w1 := Sees.below ((Sees.refl w).alloc _) hb
  clear hb
  go_wp2_with fail
  go_ret
  exact ⟨rfl, B1⟩

set_option maxHeartbeats 2000000 in
set_option maxRecDepth 100000 in
theorem implValidFlow_any (t a s : Int) (xs : List Sp) (hf : FitSp xs) (hm : tot Sp.cnt xs ≤ 1048576) (A : Option Addr) (C : Nat) (w : World) (hA : SpL w xs A) :
    Calls Tryd.prog 15 #[.agg #[.int .i64 t, .int .i64 a], .agg #[.int .i64 s, .slice A xs.length C]] w fun e w' => e = .returned (.bool (flowB t a s xs)) ∧ Below w.heap.size w w' := by
  have hlen := sp_len xs
  obtain ⟨q0, hq0⟩ : ∃ q : Bool, q = sigOk t a := ⟨_, rfl⟩
  have K0 : Hid (∀ W : World, Calls Tryd.prog 26 #[.agg #[.int .i64 t, .int .i64 a]] W fun e w' => e = .returned (.bool q0) ∧ Below W.heap.size W w') := fun W => by rw [hq0]; exact implValidSig_any t a W
  obtain ⟨q2, hq2⟩ : ∃ q : Bool, q = belowB s xs.length := ⟨_, rfl⟩
  have K2 : Hid (∀ W : World, Calls Tryd.prog 27 #[.int .i64 s, .int .i64 (xs.length : Int)] W fun e w' => e = .returned (.bool q2) ∧ Below W.heap.size W w') := fun W => (below_any s xs.length W).mono fun e w' h => ⟨by rw [hq2]; exact h.1, by rw [← h.2]; exact Below.refl _ _⟩
  obtain ⟨q3, hq3⟩ : ∃ q : Bool, q = xs.all (spB t a xs.length) := ⟨_, rfl⟩
  have K3 : Hid (∀ (W : World) (bg bn : Nat), Sees w W → W.cell? ⟨bg, 0, none⟩ = some (.int .i64 t) → W.cell? ⟨bg, 1, none⟩ = some (.int .i64 a) → W.cell? ⟨bn, 0, none⟩ = some (.int .i64 (xs.length : Int)) → Calls Tryd.prog 28 #[.slice A xs.length C, .func (.func 29) #[] #[.pointer (some ⟨bg, 0, none⟩), .pointer (some ⟨bn, 0, none⟩)]] W fun e w' => e = .returned (.bool q3) ∧ Below W.heap.size W w') := fun W bg bn h h0 h1 h2 => by
    rw [hq3]
    exact everyS_any (spB t a xs.length) 29 #[.pointer (some ⟨bg, 0, none⟩), .pointer (some ⟨bn, 0, none⟩)] (enters_of Tryd.func29 (by kernel_rfl) rfl) xs hf.1 A C W (hA.sees h) (fun W2 x B2 D2 h2' hx hQ => formOf_any t a xs.length bg bn x (Nat.le_trans (sp_ge hx) hm) (hf.2 x hx).2 B2 D2 W2 (kc h2' h0) (kc h2' h1) (kc h2' h2) hQ)
  have HS : Hid (flowB t a s xs = (q0 && (decide ((xs.length : Int) ≤ 60) && (q2 && q3)))) := by
    show _ = _
    unfold flowB
    rw [in_below, ← hq0, ← hq2, ← hq3]
    by_cases h1 : 1 ≤ xs.length
    · have : inB (xs.length : Int) 1 60 = decide ((xs.length : Int) ≤ 60) := by unfold inB; rw [Bool.eq_iff_iff]; simp; omega
      rw [this]
    · have h2 : q2 = false := by rw [hq2]; unfold belowB; simp; omega
      rw [h2]
      cases q0 <;> cases inB (xs.length : Int) 1 60 <;> cases decide ((xs.length : Int) ≤ 60) <;> rfl
  obtain ⟨w0, hw0⟩ : ∃ w0, w0 = ((w.alloc (.cells #[.int .i64 t, .int .i64 a] 29)).alloc (.cells #[.int .i64 s, .slice A xs.length C] 33)).alloc (.cells #[.int .i64 (xs.length : Int)] 2) := ⟨_, rfl⟩
  have B0 : Sees w w0 := by rw [hw0]; exact (((Sees.refl w).alloc _).alloc _).alloc _
  have s0 : w0.cell? ⟨w.heap.size, 0, none⟩ = some (.int .i64 t) := by rw [hw0]; simp [go_sem]
  have s1 : w0.cell? ⟨w.heap.size, 1, none⟩ = some (.int .i64 a) := by rw [hw0]; simp [go_sem]
  have g0 : w0.cell? ⟨w.heap.size + 1, 0, none⟩ = some (.int .i64 s) := by rw [hw0]; simp [go_sem]
  have g1 : w0.cell? ⟨w.heap.size + 1, 1, none⟩ = some (.slice A xs.length C) := by rw [hw0]; simp [go_sem]
  have gn : w0.cell? ⟨w.heap.size + 1 + 1, 0, none⟩ = some (.int .i64 (xs.length : Int)) := by rw [hw0]; simp [go_sem]
  clear hq0 hq2 hq3 hA hf hm
  cases q0
  · have HD : Hid (flowB t a s xs = false) := by show _ = _; rw [HS.out]; rfl
    clear HS K2 K3
    go_enter Tryd.func15, Tryd.ntmps15
    go_wp2_with fail
    rw [← hw0]
    refine (K0.out _).mono ?_
    rintro e w1 ⟨rfl, hb⟩
    have x0 := kc hb s0; have x1 := kc hb s1; have y0 := kc hb g0; have y1 := kc hb g1; have yn := kc hb gn
    have B1 : Sees w w1 := B0.below hb
    clear hw0 g0 g1 gn s0 s1 hb B0
    go_wp2_with fail
    go_ret
    exact ⟨ret_bool HD.out.symm, B1⟩
  by_cases hhi : (xs.length : Int) ≤ 60
  case neg =>
    have HD : Hid (flowB t a s xs = false) := by show _ = _; rw [HS.out, decide_eq_false hhi]; rfl
    have tl : decide ((xs.length : Int) ≤ 60) = false := decide_eq_false hhi
    clear HS K2 K3
    go_enter Tryd.func15, Tryd.ntmps15
    go_wp2_with fail
    rw [← hw0]
    refine (K0.out _).mono ?_
    rintro e w1 ⟨rfl, hb⟩
    have x0 := kc hb s0; have x1 := kc hb s1; have y0 := kc hb g0; have y1 := kc hb g1; have yn := kc hb gn
    have B1 : Sees w w1 := B0.below hb
    clear hw0 g0 g1 gn s0 s1 hb B0
    go_wp2_with fail
    go_ret
    exact ⟨ret_bool HD.out.symm, B1⟩
  have tl : decide ((xs.length : Int) ≤ 60) = true := decide_eq_true hhi
  rw [tl] at HS
  cases q2
  · have HD : Hid (flowB t a s xs = false) := by show _ = _; rw [HS.out]; rfl
    clear HS K3
    go_enter Tryd.func15, Tryd.ntmps15
    go_wp2_with fail
    rw [← hw0]
    refine (K0.out _).mono ?_
    rintro e w1 ⟨rfl, hb⟩
    have x0 := kc hb s0; have x1 := kc hb s1; have y0 := kc hb g0; have y1 := kc hb g1; have yn := kc hb gn
    have B1 : Sees w w1 := B0.below hb
    clear hw0 g0 g1 gn s0 s1 hb B0
    go_wp2_with fail
    refine (K2.out _).mono ?_
    rintro e w2 ⟨rfl, hb⟩
    have B2 := B1.below hb
    clear hb
    go_wp2_with fail
    go_ret
    exact ⟨ret_bool HD.out.symm, B2⟩
  · have HD : Hid (flowB t a s xs = q3) := by show _ = _; rw [HS.out]; rfl
    clear HS
    go_enter Tryd.func15, Tryd.ntmps15
    go_wp2_with fail
    rw [← hw0]
    refine (K0.out _).mono ?_
    rintro e w1 ⟨rfl, hb⟩
    have x0 := kc hb s0; have x1 := kc hb s1; have y0 := kc hb g0; have y1 := kc hb g1; have yn := kc hb gn
    have B1 : Sees w w1 := B0.below hb
    clear hw0 g0 g1 gn s0 s1 hb B0
    go_wp2_with fail
    refine (K2.out _).mono ?_
    rintro e w2 ⟨rfl, hb⟩
    have B2 := B1.below hb
    have v0 := kc hb x0; have v1 := kc hb x1; have v2 := kc hb y0; have v3 := kc hb y1; have v4 := kc hb yn
    clear hb x0 x1 y0 y1 yn B1
    go_wp2_with fail
    refine (K3.out _ w.heap.size (w.heap.size + 1 + 1) B2 v0 v1 v4).mono ?_
    rintro e w3 ⟨rfl, hb⟩
    have B3 := B2.below hb
    clear hb
    go_wp2_with fail
    go_ret
    exact ⟨ret_bool HD.out.symm, B3⟩
end Go.Proofs.YtmblgkpgfofceaaDoor

namespace Go.Proofs.YtmblgkpgfofceaaDoor
open Go.RowKit

/-- A builder in block B that holds these bytes. -/
def Bld (B : Nat) (l : List UInt8) (W : World) : Prop := Lib.IsBuilderF 53 5 B B (Lib.byteCells l) W
/-- What a call leaves that has written. -/
structure Wrote (B : Nat) (l : List UInt8) (w w' : World) : Prop where
  bld : Bld B l w'
  below : Below B w w'
  kept : Lib.OthersKept 5 (some B) w w'
theorem Bld.lt {B : Nat} {l : List UInt8} {W : World} (h : Bld B l W) : B < W.heap.size := by
  rcases h with h | h <;> exact h.lt
theorem Bld.drew {B : Nat} {l : List UInt8} {W : World} (h : Bld B l W) : Bld B l W.drew := by
  rcases h with h | h
  · exact Or.inl h.drew
  · exact Or.inr h.drew
theorem Bld.alloc {B : Nat} {l : List UInt8} {W : World} (h : Bld B l W) (o : Obj) : Bld B l (W.alloc o) := by
  rcases h with h | h
  · exact Or.inl (h.alloc o)
  · exact Or.inr (h.alloc o)
theorem Bld.fresh (w : World) : Bld w.heap.size [] (w.alloc (.cells #[.pointer none, .slice none 0 0] 53)) := Lib.IsBuilderF.of (Lib.fresh_isBuilder _ _ _)
theorem Wrote.trans {B : Nat} {l l' : List UInt8} {a b c : World} (h : Wrote B l a b) (k : Wrote B l' b c) : Wrote B l' a c := ⟨k.bld, h.below.trans k.below, h.kept.trans k.kept⟩
theorem Wrote.to {B : Nat} {l l' : List UInt8} {a b : World} (h : Wrote B l a b) (e : l = l') : Wrote B l' a b := e ▸ h
/-- .. behind a box that the caller has made. -/
theorem Wrote.behind {B : Nat} {l l0 : List UInt8} {a b : World} (h0 : Bld B l0 a) {o : Obj} (h : Wrote B l (a.alloc o) b) : Wrote B l a b :=
  ⟨h.bld, ((Below.refl B a).alloc (Nat.le_of_lt h0.lt) o).trans h.below, ((Lib.OthersKept.refl _ _ a).alloc o).trans h.kept⟩
theorem Wrote.one {B : Nat} {l : List UInt8} {a b : World} (h : Wrote B l a b) {k : Nat} {cs : Array Value} {T : TypeId} (hc : a.heap[k]? = some (.cells cs T (0, 0))) (hT : T ≠ 5) (hk : k ≠ B) : b.heap[k]? = some (.cells cs T (0, 0)) :=
  h.kept k _ hc (fun he => hk (Option.some.inj he)) (fun c fz he => by cases he; exact hT rfl)

theorem write_any {B : Nat} {l : List UInt8} (s : List UInt8) {w : World} (h : Bld B l w) (hl : l.length + s.length ≤ 140737488355328) :
    Calls Tryd.prog 17 #[.pointer (some ⟨B, 0, none⟩), str s] w fun e w' => (∃ z, e = .returned (.tuple #[.int .i64 z, .nilIface])) ∧ Wrote B (l ++ s) w w' := by
  refine (Tryd.Builder_WriteString_k B B (Lib.byteCells l) ⟨s.toArray⟩ w h (by rw [Lib.byteCells_length]; show l.length + s.toArray.size ≤ _; simpa using hl) (Nat.le_of_lt h.lt)).mono ?_
  rintro e w' ⟨rfl, hb, h1, h2⟩
  refine ⟨⟨_, rfl⟩, Or.inr ?_, h1, h2⟩
  rw [Lib.byteCells_append]
  exact hb
theorem string_any {B : Nat} {l : List UInt8} {w : World} (h : Bld B l w) :
    Calls Tryd.prog 19 #[.pointer (some ⟨B, 0, none⟩)] w fun e w' => e = .returned (str l) ∧ Below B w w' :=
  (Tryd.Builder_String_any_k B B l w h (Nat.le_of_lt h.lt)).mono fun _ _ ⟨h1, _, h2, _⟩ => ⟨h1, h2⟩
theorem formatInt_any (n : Int) (h0 : 0 ≤ n) (h1 : n < 100) (w : World) :
    Calls Tryd.prog 31 #[.int .i64 n, .int .i64 10] w fun e w' => e = .returned (str (Lib.decDigits n.toNat)) ∧ w' = w := by
  obtain ⟨m, rfl⟩ := Int.eq_ofNat_of_zero_le h0
  exact Tryd.strconv_FormatInt_10_small m (by omega) w

set_option maxHeartbeats 1000000 in
theorem writeNumber_any {B : Nat} {l : List UInt8} (s : List UInt8) (n : Int) (h0 : 0 ≤ n) (h1 : n < 100) {w : World} (h : Bld B l w) (hl : l.length + s.length + 2 ≤ 140737488355328) :
    Calls Tryd.prog 16 #[.pointer (some ⟨B, 0, none⟩), str s, .int .i64 n] w fun e w' => e = .returned (.tuple #[]) ∧ Wrote B (l ++ (s ++ Lib.decDigits n.toNat)) w w' := by
  have hd : (Lib.decDigits n.toNat).length ≤ 2 := by
    by_cases h10 : n.toNat < 10
    · rw [Lib.decDigits_one h10]; simp
    · rw [Lib.decDigits_two h10 (by omega)]; simp
  have K1 : Hid (Calls Tryd.prog 17 #[.pointer (some ⟨B, 0, none⟩), str s] w fun e w' => (∃ z, e = .returned (.tuple #[.int .i64 z, .nilIface])) ∧ Wrote B (l ++ s) w w') := write_any s h (by omega)
  have K2 : Hid (∀ W, Bld B (l ++ s) W → Calls Tryd.prog 17 #[.pointer (some ⟨B, 0, none⟩), str (Lib.decDigits n.toNat)] W fun e w' => (∃ z, e = .returned (.tuple #[.int .i64 z, .nilIface])) ∧ Wrote B (l ++ s ++ Lib.decDigits n.toNat) W w') := fun W hW => write_any _ hW (by simp only [List.length_append]; omega)
  have K3 : Hid (∀ W, Calls Tryd.prog 31 #[.int .i64 n, .int .i64 10] W fun e w' => e = .returned (str (Lib.decDigits n.toNat)) ∧ w' = W) := fun W => formatInt_any n h0 h1 W
  clear hl hd h0 h1
  generalize str (Lib.decDigits n.toNat) = v at K2 K3
  generalize str s = u at K1 ⊢
  go_enter Tryd.func16, Tryd.ntmps16
  go_wp2_with fail
  refine K1.out.mono ?_
  rintro e w1 ⟨⟨z, rfl⟩, hw1⟩
  go_wp2_with fail
  refine (K3.out _).mono ?_
  rintro e w2 ⟨rfl, rfl⟩
  go_wp2_with fail
  refine (K2.out _ hw1.bld).mono ?_
  rintro e w3 ⟨⟨z, rfl⟩, hw3⟩
  go_wp2_with fail
  go_end0
  exact ⟨rfl, (hw1.trans hw3).to (List.append_assoc ..)⟩
end Go.Proofs.YtmblgkpgfofceaaDoor

namespace Go.Proofs.YtmblgkpgfofceaaDoor
open Go.RowKit
theorem is_zero_act (v : Value) (w : World) : (Instr.typeAssert (.iface 92 v) 80 96 true).run Tryd.prog w = .ok (.tuple #[.agg #[.int .i64 0], .bool false]) w := by kernel_rfl
theorem is_one_act (v : Value) (w : World) : (Instr.typeAssert (.iface 93 v) 80 96 true).run Tryd.prog w = .ok (.tuple #[.agg #[.int .i64 0], .bool false]) w := by kernel_rfl
theorem is_test_act (v : Value) (w : World) : (Instr.typeAssert (.iface 95 v) 80 96 true).run Tryd.prog w = .ok (.tuple #[.agg #[.int .i64 0], .bool false]) w := by kernel_rfl
theorem is_act_act (v : Value) (w : World) : (Instr.typeAssert (.iface 96 v) 80 96 true).run Tryd.prog w = .ok (.tuple #[v, .bool true]) w := by kernel_rfl
theorem is_not_act (v : Value) (w : World) : (Instr.typeAssert (.iface 98 v) 80 96 true).run Tryd.prog w = .ok (.tuple #[.agg #[.int .i64 0], .bool false]) w := by kernel_rfl
theorem is_sum_act (v : Value) (w : World) : (Instr.typeAssert (.iface 100 v) 80 96 true).run Tryd.prog w = .ok (.tuple #[.agg #[.int .i64 0], .bool false]) w := by kernel_rfl
theorem is_dot_act (v : Value) (w : World) : (Instr.typeAssert (.iface 102 v) 80 96 true).run Tryd.prog w = .ok (.tuple #[.agg #[.int .i64 0], .bool false]) w := by kernel_rfl
theorem is_star_act (v : Value) (w : World) : (Instr.typeAssert (.iface 103 v) 80 96 true).run Tryd.prog w = .ok (.tuple #[.agg #[.int .i64 0], .bool false]) w := by kernel_rfl
theorem Nd.val_if (a : Nd) : ∃ (T : TypeId) (x : Value), a.val = .iface T x := by
  cases a <;> exact ⟨_, _, rfl⟩
end Go.Proofs.YtmblgkpgfofceaaDoor
