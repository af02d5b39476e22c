/- Contracts of spec.l06Spot, spec.l06Flow, spec.ValidFlow. -/
import Derived.Test.YtmblgkpgfofceaaDoorSpC
import Derived.Test.YtmblgkpgfofceaaDoorQuietC
import Derived.Test.YtmblgkpgfofceaaDoorSpV1
import Derived.Test.YtmblgkpgfofceaaDoorSpV2
import Derived.Deep.RegionHeld3
import Derived.Deep.DrawnRows
namespace Go.Proofs.YtmblgkpgfofceaaDoor
open Go.RowKit
attribute [local go_sem ↓] Go.wp_at_zero Go.wp_at_succ

set_option maxHeartbeats 40000000 in
set_option maxRecDepth 100000 in
theorem l06Spot_halt (t a cnt n ck cn : Int) (cf : Fo) (tg el : Int) (A : Option Addr) (C b o : Nat) (w : World) (g0 : w.cell? ⟨b, o, none⟩ = some (.int .i64 3)) (g1 : w.cell? ⟨b, o + 1, none⟩ = some (.int .i64 n)) (g2 : w.cell? ⟨b, o + 2, none⟩ = some (.int .i64 ck)) (g3 : w.cell? ⟨b, o + 3, none⟩ = some (.int .i64 cn)) (g4 : w.cell? ⟨b, o + 4, none⟩ = some (.slice A cf.len C)) (g5 : w.cell? ⟨b, o + 5, none⟩ = some (.int .i64 tg)) (g6 : w.cell? ⟨b, o + 6, none⟩ = some (.int .i64 el)) :
    Calls Tryd.prog 24 #[.agg #[.int .i64 t, .int .i64 a], .pointer (some ⟨b, o, none⟩), .int .i64 cnt] w fun e w' => e = .returned (.bool (spotB t a cnt 3 n ck cn cf tg el)) ∧ Below w.heap.size w w' := by
  obtain ⟨q1, hq1⟩ : ∃ q1 : Bool, q1 = noneC ck cn cf := ⟨_, rfl⟩
  have K1 : Hid (∀ W : World, Sees w W → Calls Tryd.prog 37 #[.pointer (some ⟨b, o + 2, none⟩)] W fun e w' => e = .returned (.bool q1) ∧ Below W.heap.size W w') := fun W h => by
    rw [hq1]
    exact l06None_any ck cn cf A C b (o + 2) W (kc h g2) (kc h g3) (kc h g4)
  have HS : Hid (spotB t a cnt 3 n ck cn cf tg el = (q1 && (decide (n = 0) && (decide (el = 0) && decide (tg = 0))))) := by show _ = _; unfold spotB; rw [if_neg (by decide), if_neg (by decide), if_pos (by decide), hq1]
  clear hq1 g2 g3 g4
  cases q1
  · have HD : Hid (spotB t a cnt 3 n ck cn cf tg el = false) := by show _ = _; rw [HS.out]; rfl
    clear HS
    go_enter Tryd.func24, Tryd.ntmps24
    go_wp2_with fail
    refine (K1.out _ (by unfold Sees; go_grown)).mono ?_
    rintro e w1 ⟨rfl, hb⟩
    have S1 : Sees w w1 := Sees.below (by unfold Sees; go_grown) hb
    have y0 := kc S1 g0; have y1 := kc S1 g1; have y5 := kc S1 g5; have y6 := kc S1 g6
    have s0 : w1.cell? ⟨w.heap.size, 0, none⟩ = some (.int .i64 t) := kc hb (by simp [go_sem])
    have s1 : w1.cell? ⟨w.heap.size, 1, none⟩ = some (.int .i64 a) := kc hb (by simp [go_sem])
    clear hb
    go_wp2_with fail
    go_ret
    exact ⟨ret_bool HD.out.symm, S1⟩

  · by_cases hn : n = 0
    case neg =>
      have tn : (n == 0) = false := by rw [beq_eq_false_iff_ne]; exact hn
      have HD : Hid (spotB t a cnt 3 n ck cn cf tg el = false) := by show _ = _; rw [HS.out, decide_eq_false hn]; rfl
      clear HS hn
      go_enter Tryd.func24, Tryd.ntmps24
      go_wp2_with fail
      refine (K1.out _ (by unfold Sees; go_grown)).mono ?_
      rintro e w1 ⟨rfl, hb⟩
      have S1 : Sees w w1 := Sees.below (by unfold Sees; go_grown) hb
      have y0 := kc S1 g0; have y1 := kc S1 g1; have y5 := kc S1 g5; have y6 := kc S1 g6
      have s0 : w1.cell? ⟨w.heap.size, 0, none⟩ = some (.int .i64 t) := kc hb (by simp [go_sem])
      have s1 : w1.cell? ⟨w.heap.size, 1, none⟩ = some (.int .i64 a) := kc hb (by simp [go_sem])
      clear hb
      go_wp2_with fail
      go_ret
      exact ⟨ret_bool HD.out.symm, S1⟩

    have tn : (n == 0) = true := by simp [hn]
    by_cases hel : el = 0
    case neg =>
      have te : (el == 0) = false := by rw [beq_eq_false_iff_ne]; exact hel
      have HD : Hid (spotB t a cnt 3 n ck cn cf tg el = false) := by show _ = _; rw [HS.out, decide_eq_true hn, decide_eq_false hel]; rfl
      clear HS hn hel
      go_enter Tryd.func24, Tryd.ntmps24
      go_wp2_with fail
      refine (K1.out _ (by unfold Sees; go_grown)).mono ?_
      rintro e w1 ⟨rfl, hb⟩
      have S1 : Sees w w1 := Sees.below (by unfold Sees; go_grown) hb
      have y0 := kc S1 g0; have y1 := kc S1 g1; have y5 := kc S1 g5; have y6 := kc S1 g6
      have s0 : w1.cell? ⟨w.heap.size, 0, none⟩ = some (.int .i64 t) := kc hb (by simp [go_sem])
      have s1 : w1.cell? ⟨w.heap.size, 1, none⟩ = some (.int .i64 a) := kc hb (by simp [go_sem])
      clear hb
      go_wp2_with fail
      go_ret
      exact ⟨ret_bool HD.out.symm, S1⟩

    have te : (el == 0) = true := by simp [hel]
    by_cases htg : tg = 0
    case neg =>
      have tt : (tg == 0) = false := by rw [beq_eq_false_iff_ne]; exact htg
      have HD : Hid (spotB t a cnt 3 n ck cn cf tg el = false) := by show _ = _; rw [HS.out, decide_eq_true hn, decide_eq_true hel, decide_eq_false htg]; rfl
      clear HS hn hel htg
      go_enter Tryd.func24, Tryd.ntmps24
      go_wp2_with fail
      refine (K1.out _ (by unfold Sees; go_grown)).mono ?_
      rintro e w1 ⟨rfl, hb⟩
      have S1 : Sees w w1 := Sees.below (by unfold Sees; go_grown) hb
      have y0 := kc S1 g0; have y1 := kc S1 g1; have y5 := kc S1 g5; have y6 := kc S1 g6
      have s0 : w1.cell? ⟨w.heap.size, 0, none⟩ = some (.int .i64 t) := kc hb (by simp [go_sem])
      have s1 : w1.cell? ⟨w.heap.size, 1, none⟩ = some (.int .i64 a) := kc hb (by simp [go_sem])
      clear hb
      go_wp2_with fail
      go_ret
      exact ⟨ret_bool HD.out.symm, S1⟩

    have tt : (tg == 0) = true := by simp [htg]
    have HD : Hid (spotB t a cnt 3 n ck cn cf tg el = true) := by show _ = _; rw [HS.out, decide_eq_true hn, decide_eq_true hel, decide_eq_true htg]; rfl
    clear HS hn hel htg
    go_enter Tryd.func24, Tryd.ntmps24
    go_wp2_with fail
    refine (K1.out _ (by unfold Sees; go_grown)).mono ?_
    rintro e w1 ⟨rfl, hb⟩
    have S1 : Sees w w1 := Sees.below (by unfold Sees; go_grown) hb
    have y0 := kc S1 g0; have y1 := kc S1 g1; have y5 := kc S1 g5; have y6 := kc S1 g6
    have s0 : w1.cell? ⟨w.heap.size, 0, none⟩ = some (.int .i64 t) := kc hb (by simp [go_sem])
    have s1 : w1.cell? ⟨w.heap.size, 1, none⟩ = some (.int .i64 a) := kc hb (by simp [go_sem])
    clear hb
    go_wp2_with fail
    go_ret
    exact ⟨ret_bool HD.out.symm, S1⟩


set_option maxHeartbeats 40000000 in
set_option maxRecDepth 100000 in
theorem l06Spot_fail (t a cnt n ck cn : Int) (cf : Fo) (tg el : Int) (A : Option Addr) (C b o : Nat) (w : World) (g0 : w.cell? ⟨b, o, none⟩ = some (.int .i64 4)) (g1 : w.cell? ⟨b, o + 1, none⟩ = some (.int .i64 n)) (g2 : w.cell? ⟨b, o + 2, none⟩ = some (.int .i64 ck)) (g3 : w.cell? ⟨b, o + 3, none⟩ = some (.int .i64 cn)) (g4 : w.cell? ⟨b, o + 4, none⟩ = some (.slice A cf.len C)) (g5 : w.cell? ⟨b, o + 5, none⟩ = some (.int .i64 tg)) (g6 : w.cell? ⟨b, o + 6, none⟩ = some (.int .i64 el)) :
    Calls Tryd.prog 24 #[.agg #[.int .i64 t, .int .i64 a], .pointer (some ⟨b, o, none⟩), .int .i64 cnt] w fun e w' => e = .returned (.bool (spotB t a cnt 4 n ck cn cf tg el)) ∧ Below w.heap.size w w' := by
  obtain ⟨q1, hq1⟩ : ∃ q1 : Bool, q1 = noneC ck cn cf := ⟨_, rfl⟩
  have K1 : Hid (∀ W : World, Sees w W → Calls Tryd.prog 37 #[.pointer (some ⟨b, o + 2, none⟩)] W fun e w' => e = .returned (.bool q1) ∧ Below W.heap.size W w') := fun W h => by
    rw [hq1]
    exact l06None_any ck cn cf A C b (o + 2) W (kc h g2) (kc h g3) (kc h g4)
  have HS : Hid (spotB t a cnt 4 n ck cn cf tg el = (q1 && (decide (n = 0) && (decide (el = 0) && decide (tg = 0))))) := by show _ = _; unfold spotB; rw [if_neg (by decide), if_neg (by decide), if_pos (by decide), hq1]
  clear hq1 g2 g3 g4
  cases q1
  · have HD : Hid (spotB t a cnt 4 n ck cn cf tg el = false) := by show _ = _; rw [HS.out]; rfl
    clear HS
    go_enter Tryd.func24, Tryd.ntmps24
    go_wp2_with fail
    refine (K1.out _ (by unfold Sees; go_grown)).mono ?_
    rintro e w1 ⟨rfl, hb⟩
    have S1 : Sees w w1 := Sees.below (by unfold Sees; go_grown) hb
    have y0 := kc S1 g0; have y1 := kc S1 g1; have y5 := kc S1 g5; have y6 := kc S1 g6
    have s0 : w1.cell? ⟨w.heap.size, 0, none⟩ = some (.int .i64 t) := kc hb (by simp [go_sem])
    have s1 : w1.cell? ⟨w.heap.size, 1, none⟩ = some (.int .i64 a) := kc hb (by simp [go_sem])
    clear hb
    go_wp2_with fail
    go_ret
    exact ⟨ret_bool HD.out.symm, S1⟩

  · by_cases hn : n = 0
    case neg =>
      have tn : (n == 0) = false := by rw [beq_eq_false_iff_ne]; exact hn
      have HD : Hid (spotB t a cnt 4 n ck cn cf tg el = false) := by show _ = _; rw [HS.out, decide_eq_false hn]; rfl
      clear HS hn
      go_enter Tryd.func24, Tryd.ntmps24
      go_wp2_with fail
      refine (K1.out _ (by unfold Sees; go_grown)).mono ?_
      rintro e w1 ⟨rfl, hb⟩
      have S1 : Sees w w1 := Sees.below (by unfold Sees; go_grown) hb
      have y0 := kc S1 g0; have y1 := kc S1 g1; have y5 := kc S1 g5; have y6 := kc S1 g6
      have s0 : w1.cell? ⟨w.heap.size, 0, none⟩ = some (.int .i64 t) := kc hb (by simp [go_sem])
      have s1 : w1.cell? ⟨w.heap.size, 1, none⟩ = some (.int .i64 a) := kc hb (by simp [go_sem])
      clear hb
      go_wp2_with fail
      go_ret
      exact ⟨ret_bool HD.out.symm, S1⟩

    have tn : (n == 0) = true := by simp [hn]
    by_cases hel : el = 0
    case neg =>
      have te : (el == 0) = false := by rw [beq_eq_false_iff_ne]; exact hel
      have HD : Hid (spotB t a cnt 4 n ck cn cf tg el = false) := by show _ = _; rw [HS.out, decide_eq_true hn, decide_eq_false hel]; rfl
      clear HS hn hel
      go_enter Tryd.func24, Tryd.ntmps24
      go_wp2_with fail
      refine (K1.out _ (by unfold Sees; go_grown)).mono ?_
      rintro e w1 ⟨rfl, hb⟩
      have S1 : Sees w w1 := Sees.below (by unfold Sees; go_grown) hb
      have y0 := kc S1 g0; have y1 := kc S1 g1; have y5 := kc S1 g5; have y6 := kc S1 g6
      have s0 : w1.cell? ⟨w.heap.size, 0, none⟩ = some (.int .i64 t) := kc hb (by simp [go_sem])
      have s1 : w1.cell? ⟨w.heap.size, 1, none⟩ = some (.int .i64 a) := kc hb (by simp [go_sem])
      clear hb
      go_wp2_with fail
      go_ret
      exact ⟨ret_bool HD.out.symm, S1⟩

    have te : (el == 0) = true := by simp [hel]
    by_cases htg : tg = 0
    case neg =>
      have tt : (tg == 0) = false := by rw [beq_eq_false_iff_ne]; exact htg
      have HD : Hid (spotB t a cnt 4 n ck cn cf tg el = false) := by show _ = _; rw [HS.out, decide_eq_true hn, decide_eq_true hel, decide_eq_false htg]; rfl
      clear HS hn hel htg
      go_enter Tryd.func24, Tryd.ntmps24
      go_wp2_with fail
      refine (K1.out _ (by unfold Sees; go_grown)).mono ?_
      rintro e w1 ⟨rfl, hb⟩
      have S1 : Sees w w1 := Sees.below (by unfold Sees; go_grown) hb
      have y0 := kc S1 g0; have y1 := kc S1 g1; have y5 := kc S1 g5; have y6 := kc S1 g6
      have s0 : w1.cell? ⟨w.heap.size, 0, none⟩ = some (.int .i64 t) := kc hb (by simp [go_sem])
      have s1 : w1.cell? ⟨w.heap.size, 1, none⟩ = some (.int .i64 a) := kc hb (by simp [go_sem])
      clear hb
      go_wp2_with fail
      go_ret
      exact ⟨ret_bool HD.out.symm, S1⟩

    have tt : (tg == 0) = true := by simp [htg]
    have HD : Hid (spotB t a cnt 4 n ck cn cf tg el = true) := by show _ = _; rw [HS.out, decide_eq_true hn, decide_eq_true hel, decide_eq_true htg]; rfl
    clear HS hn hel htg
    go_enter Tryd.func24, Tryd.ntmps24
    go_wp2_with fail
    refine (K1.out _ (by unfold Sees; go_grown)).mono ?_
    rintro e w1 ⟨rfl, hb⟩
    have S1 : Sees w w1 := Sees.below (by unfold Sees; go_grown) hb
    have y0 := kc S1 g0; have y1 := kc S1 g1; have y5 := kc S1 g5; have y6 := kc S1 g6
    have s0 : w1.cell? ⟨w.heap.size, 0, none⟩ = some (.int .i64 t) := kc hb (by simp [go_sem])
    have s1 : w1.cell? ⟨w.heap.size, 1, none⟩ = some (.int .i64 a) := kc hb (by simp [go_sem])
    clear hb
    go_wp2_with fail
    go_ret
    exact ⟨ret_bool HD.out.symm, S1⟩


set_option maxHeartbeats 40000000 in
set_option maxRecDepth 100000 in
theorem l06Spot_other (t a cnt k n ck cn : Int) (cf : Fo) (tg el : Int) (h1 : k ≠ 1) (h2 : k ≠ 2) (h3 : k ≠ 3) (h4 : k ≠ 4) (A : Option Addr) (C b o : Nat) (w : World) (g0 : w.cell? ⟨b, o, none⟩ = some (.int .i64 k)) (g1 : w.cell? ⟨b, o + 1, none⟩ = some (.int .i64 n)) (g2 : w.cell? ⟨b, o + 2, none⟩ = some (.int .i64 ck)) (g3 : w.cell? ⟨b, o + 3, none⟩ = some (.int .i64 cn)) (g4 : w.cell? ⟨b, o + 4, none⟩ = some (.slice A cf.len C)) (g5 : w.cell? ⟨b, o + 5, none⟩ = some (.int .i64 tg)) (g6 : w.cell? ⟨b, o + 6, none⟩ = some (.int .i64 el)) :
    Calls Tryd.prog 24 #[.agg #[.int .i64 t, .int .i64 a], .pointer (some ⟨b, o, none⟩), .int .i64 cnt] w fun e w' => e = .returned (.bool (spotB t a cnt k n ck cn cf tg el)) ∧ Below w.heap.size w w' := by
  obtain ⟨q1, hq1⟩ : ∃ q1 : Bool, q1 = noneC ck cn cf := ⟨_, rfl⟩
  have K1 : Hid (∀ W : World, Sees w W → Calls Tryd.prog 37 #[.pointer (some ⟨b, o + 2, none⟩)] W fun e w' => e = .returned (.bool q1) ∧ Below W.heap.size W w') := fun W h => by
    rw [hq1]
    exact l06None_any ck cn cf A C b (o + 2) W (kc h g2) (kc h g3) (kc h g4)
  have HS : Hid (spotB t a cnt k n ck cn cf tg el = false) := spot_other t a cnt k n ck cn cf tg el h1 h2 h3 h4
  have tk1 : (k == 1) = false := by rw [beq_eq_false_iff_ne]; exact h1
  have tk2 : (k == 2) = false := by rw [beq_eq_false_iff_ne]; exact h2
  have tk3 : (k == 3) = false := by rw [beq_eq_false_iff_ne]; exact h3
  have tk4 : (k == 4) = false := by rw [beq_eq_false_iff_ne]; exact h4
  clear hq1 g2 g3 g4 h1 h2 h3 h4
  cases q1
  · have HD : Hid (spotB t a cnt k n ck cn cf tg el = false) := HS.out
    clear HS
    go_enter Tryd.func24, Tryd.ntmps24
    go_wp2_with fail
    refine (K1.out _ (by unfold Sees; go_grown)).mono ?_
    rintro e w1 ⟨rfl, hb⟩
    have S1 : Sees w w1 := Sees.below (by unfold Sees; go_grown) hb
    have y0 := kc S1 g0; have y1 := kc S1 g1; have y5 := kc S1 g5; have y6 := kc S1 g6
    have s0 : w1.cell? ⟨w.heap.size, 0, none⟩ = some (.int .i64 t) := kc hb (by simp [go_sem])
    have s1 : w1.cell? ⟨w.heap.size, 1, none⟩ = some (.int .i64 a) := kc hb (by simp [go_sem])
    clear hb
    go_wp2_with fail
    go_ret
    exact ⟨ret_bool HD.out.symm, S1⟩

  · by_cases hn : n = 0
    case neg =>
      have tn : (n == 0) = false := by rw [beq_eq_false_iff_ne]; exact hn
      have HD : Hid (spotB t a cnt k n ck cn cf tg el = false) := HS.out
      clear HS hn
      go_enter Tryd.func24, Tryd.ntmps24
      go_wp2_with fail
      refine (K1.out _ (by unfold Sees; go_grown)).mono ?_
      rintro e w1 ⟨rfl, hb⟩
      have S1 : Sees w w1 := Sees.below (by unfold Sees; go_grown) hb
      have y0 := kc S1 g0; have y1 := kc S1 g1; have y5 := kc S1 g5; have y6 := kc S1 g6
      have s0 : w1.cell? ⟨w.heap.size, 0, none⟩ = some (.int .i64 t) := kc hb (by simp [go_sem])
      have s1 : w1.cell? ⟨w.heap.size, 1, none⟩ = some (.int .i64 a) := kc hb (by simp [go_sem])
      clear hb
      go_wp2_with fail
      go_ret
      exact ⟨ret_bool HD.out.symm, S1⟩

    have tn : (n == 0) = true := by simp [hn]
    by_cases hel : el = 0
    case neg =>
      have te : (el == 0) = false := by rw [beq_eq_false_iff_ne]; exact hel
      have HD : Hid (spotB t a cnt k n ck cn cf tg el = false) := HS.out
      clear HS hn hel
      go_enter Tryd.func24, Tryd.ntmps24
      go_wp2_with fail
      refine (K1.out _ (by unfold Sees; go_grown)).mono ?_
      rintro e w1 ⟨rfl, hb⟩
      have S1 : Sees w w1 := Sees.below (by unfold Sees; go_grown) hb
      have y0 := kc S1 g0; have y1 := kc S1 g1; have y5 := kc S1 g5; have y6 := kc S1 g6
      have s0 : w1.cell? ⟨w.heap.size, 0, none⟩ = some (.int .i64 t) := kc hb (by simp [go_sem])
      have s1 : w1.cell? ⟨w.heap.size, 1, none⟩ = some (.int .i64 a) := kc hb (by simp [go_sem])
      clear hb
      go_wp2_with fail
      go_ret
      exact ⟨ret_bool HD.out.symm, S1⟩

    have te : (el == 0) = true := by simp [hel]
    have HD : Hid (spotB t a cnt k n ck cn cf tg el = false) := HS.out
    clear HS hn hel
    go_enter Tryd.func24, Tryd.ntmps24
    go_wp2_with fail
    refine (K1.out _ (by unfold Sees; go_grown)).mono ?_
    rintro e w1 ⟨rfl, hb⟩
    have S1 : Sees w w1 := Sees.below (by unfold Sees; go_grown) hb
    have y0 := kc S1 g0; have y1 := kc S1 g1; have y5 := kc S1 g5; have y6 := kc S1 g6
    have s0 : w1.cell? ⟨w.heap.size, 0, none⟩ = some (.int .i64 t) := kc hb (by simp [go_sem])
    have s1 : w1.cell? ⟨w.heap.size, 1, none⟩ = some (.int .i64 a) := kc hb (by simp [go_sem])
    clear hb
    go_wp2_with fail
    go_ret
    exact ⟨ret_bool HD.out.symm, S1⟩


theorem l06Spot_any (t a cnt : Int) (x : Sp) (hm : x.cf.nodes ≤ 1048576) (hf : x.cf.Fits) (ha : 0 ≤ a ∧ a ≤ 4) (hc0 : 0 ≤ cnt ∧ cnt ≤ 60) (A : Option Addr) (C b o : Nat) (w : World) (hA : x.cf.Lies w A) (h : x.At w b o A C) :
    Calls Tryd.prog 24 #[.agg #[.int .i64 t, .int .i64 a], .pointer (some ⟨b, o, none⟩), .int .i64 cnt] w fun e w' => e = .returned (.bool (spB t a cnt x)) ∧ Below w.heap.size w w' := by
  obtain ⟨k, n, ck, cn, cf, tg, el⟩ := x
  obtain ⟨g0, g1, g2, g3, g4, g5, g6⟩ := h
  by_cases h1 : k = 1
  · subst h1; exact l06Spot_act t a cnt n ck cn cf tg el ha hc0 A C b o w g0 g1 g2 g3 g4 g5 g6
  by_cases h2 : k = 2
  · subst h2; exact l06Spot_test t a cnt n ck cn cf tg el hm hf ha hc0 A C b o w hA g0 g1 g2 g3 g4 g5 g6
  by_cases h3 : k = 3
  · subst h3; exact l06Spot_halt t a cnt n ck cn cf tg el A C b o w g0 g1 g2 g3 g4 g5 g6
  by_cases h4 : k = 4
  · subst h4; exact l06Spot_fail t a cnt n ck cn cf tg el A C b o w g0 g1 g2 g3 g4 g5 g6
  exact l06Spot_other t a cnt k n ck cn cf tg el h1 h2 h3 h4 A C b o w g0 g1 g2 g3 g4 g5 g6
end Go.Proofs.YtmblgkpgfofceaaDoor
