/- Contracts of spec.l06Spot, spec.l06Flow, spec.ValidFlow. -/
import Derived.Test.YtmblgkpgfofceaaDoorSpC
import Derived.Test.YtmblgkpgfofceaaDoorQuietC
import Derived.Deep.RegionHeld3
import Derived.Deep.DrawnRows
namespace Go.Proofs.YtmblgkpgfofceaaDoor
open Go.RowKit
attribute [local go_sem ↓] Go.wp_at_zero Go.wp_at_succ

set_option maxHeartbeats 40000000 in
set_option maxRecDepth 100000 in
theorem l06Spot_test (t a cnt n ck cn : Int) (cf : Fo) (tg el : Int) (hm : cf.nodes ≤ 1048576) (hf : cf.Fits) (ha : 0 ≤ a ∧ a ≤ 4) (hc0 : 0 ≤ cnt ∧ cnt ≤ 60) (A : Option Addr) (C b o : Nat) (w : World) (hA : cf.Lies w A) (g0 : w.cell? ⟨b, o, none⟩ = some (.int .i64 2)) (g1 : w.cell? ⟨b, o + 1, none⟩ = some (.int .i64 n)) (g2 : w.cell? ⟨b, o + 2, none⟩ = some (.int .i64 ck)) (g3 : w.cell? ⟨b, o + 3, none⟩ = some (.int .i64 cn)) (g4 : w.cell? ⟨b, o + 4, none⟩ = some (.slice A cf.len C)) (g5 : w.cell? ⟨b, o + 5, none⟩ = some (.int .i64 tg)) (g6 : w.cell? ⟨b, o + 6, none⟩ = some (.int .i64 el)) :
    Calls Tryd.prog 24 #[.agg #[.int .i64 t, .int .i64 a], .pointer (some ⟨b, o, none⟩), .int .i64 cnt] w fun e w' => e = .returned (.bool (spotB t a cnt 2 n ck cn cf tg el)) ∧ Below w.heap.size w w' := by
  obtain ⟨q1, hq1⟩ : ∃ q1 : Bool, q1 = noneC ck cn cf := ⟨_, rfl⟩
  have K1 : Hid (∀ W : World, Sees w W → Calls Tryd.prog 37 #[.pointer (some ⟨b, o + 2, none⟩)] W fun e w' => e = .returned (.bool q1) ∧ Below W.heap.size W w') := fun W h => by
    rw [hq1]
    exact l06None_any ck cn cf A C b (o + 2) W (kc h g2) (kc h g3) (kc h g4)
  obtain ⟨qc, hqc⟩ : ∃ qc : Bool, qc = condV t a ck cn cf := ⟨_, rfl⟩
  have KC : Hid (∀ W : World, Sees w W → Calls Tryd.prog 38 #[.agg #[.int .i64 t, .int .i64 a], .pointer (some ⟨b, o + 2, none⟩)] W fun e w' => e = .returned (.bool qc) ∧ Below W.heap.size W w') := fun W h => by
    rw [hqc]
    exact l06Cond_any t a ck cn cf hm hf A C b (o + 2) W (hA.sees h) (kc h g2) (kc h g3) (kc h g4)
  obtain ⟨da, hda⟩ : ∃ d : Int, d = a - 1 := ⟨_, rfl⟩
  obtain ⟨dcnt, hdcnt⟩ : ∃ d : Int, d = cnt - 1 := ⟨_, rfl⟩
  obtain ⟨q4, hq4⟩ : ∃ q4 : Bool, q4 = inB tg 0 (cnt - 1) := ⟨_, rfl⟩
  have K4 : Hid (∀ W : World, Calls Tryd.prog 23 #[.int .i64 tg, .int .i64 0, .int .i64 dcnt] W fun e w' => e = .returned (.bool q4) ∧ Below W.heap.size W w') := fun W => (in_any tg 0 dcnt W).mono fun e w' h => ⟨by rw [hq4, ← hdcnt]; exact h.1, by rw [← h.2]; exact Below.refl _ _⟩
  obtain ⟨q5, hq5⟩ : ∃ q5 : Bool, q5 = inB el 0 (cnt - 1) := ⟨_, rfl⟩
  have K5 : Hid (∀ W : World, Calls Tryd.prog 23 #[.int .i64 el, .int .i64 0, .int .i64 dcnt] W fun e w' => e = .returned (.bool q5) ∧ Below W.heap.size W w') := fun W => (in_any el 0 dcnt W).mono fun e w' h => ⟨by rw [hq5, ← hdcnt]; exact h.1, by rw [← h.2]; exact Below.refl _ _⟩
  have wa : IntKind.i64.wrap (a - 1) = da := by rw [hda]; exact IntWalk.i64_in _ (by omega)
  have wc : IntKind.i64.wrap (cnt - 1) = dcnt := by rw [hdcnt]; exact IntWalk.i64_in _ (by omega)
  clear hda hdcnt
  have HS : Hid (spotB t a cnt 2 n ck cn cf tg el = (decide (n = 0) && (qc && (q4 && q5)))) := by show _ = _; unfold spotB; rw [if_neg (by decide), if_pos rfl, hqc, hq4, hq5]
  clear hq1 hqc hq4 hq5 wa
  clear hm hf hA ha hc0 g2 g3 g4
  cases q1
  · by_cases hn : n = 0
    case neg =>
      have tn : (n == 0) = false := by rw [beq_eq_false_iff_ne]; exact hn
      have HD : Hid (spotB t a cnt 2 n ck cn cf tg el = false) := by show _ = _; rw [HS.out, decide_eq_false hn]; rfl
      clear HS hn
      go_enter Tryd.func24, Tryd.ntmps24
      go_wp2_with fail
      refine (K1.out _ (by unfold Sees; go_grown)).mono ?_
      rintro e w1 ⟨rfl, hb⟩
      have S1 : Sees w w1 := Sees.below (by unfold Sees; go_grown) hb
      have y0 := kc S1 g0; have y1 := kc S1 g1; have y5 := kc S1 g5; have y6 := kc S1 g6
      have s0 : w1.cell? ⟨w.heap.size, 0, none⟩ = some (.int .i64 t) := kc hb (by simp [go_sem])
      have s1 : w1.cell? ⟨w.heap.size, 1, none⟩ = some (.int .i64 a) := kc hb (by simp [go_sem])
      clear hb
      go_wp2_with fail
      refine wp_region_quietC w1 [(b, o + 1, .int .i64 n), (b, o + 5, .int .i64 tg), (b, o + 6, .int .i64 el), (w.heap.size, 0, .int .i64 t), (w.heap.size, 1, .int .i64 a)] (by kernel_rfl) (by kernel_rfl) ⟨Below.refl _ _, y1, y5, y6, s0, s1, trivial⟩ ?_
      repeat (first | go_big_quiet_skip | (go_big_quiet_want; apply Exists.intro; refine ⟨fun W hW => ?_, ?_⟩; focus (have hK := Lib.hid hW; obtain ⟨hs, hc⟩ := hW; simp only [Has, and_true] at hc; go_simp; (first | rfl | exact ⟨rfl, rfl⟩ | exact quietC_call hK.out (KC.out _ (Sees.below S1 hs)) | exact quietC_call hK.out (K4.out _) | exact quietC_call hK.out (K5.out _)))) | (go_simp; go_big_quiet_on))
      refine wpQuiet_nil ?_
      intro w2 H1
      have hb : Sees w w2 := Sees.below S1 H1.1
      clear H1
      go_wp2_with fail
      go_ret
      exact ⟨ret_bool HD.out.symm, hb⟩

    have tn : (n == 0) = true := by simp [hn]
    cases qc
    · have HD : Hid (spotB t a cnt 2 n ck cn cf tg el = false) := by show _ = _; rw [HS.out, decide_eq_true hn]; rfl
      clear HS hn
      go_enter Tryd.func24, Tryd.ntmps24
      go_wp2_with fail
      refine (K1.out _ (by unfold Sees; go_grown)).mono ?_
      rintro e w1 ⟨rfl, hb⟩
      have S1 : Sees w w1 := Sees.below (by unfold Sees; go_grown) hb
      have y0 := kc S1 g0; have y1 := kc S1 g1; have y5 := kc S1 g5; have y6 := kc S1 g6
      have s0 : w1.cell? ⟨w.heap.size, 0, none⟩ = some (.int .i64 t) := kc hb (by simp [go_sem])
      have s1 : w1.cell? ⟨w.heap.size, 1, none⟩ = some (.int .i64 a) := kc hb (by simp [go_sem])
      clear hb
      go_wp2_with fail
      refine wp_region_quietC w1 [(b, o + 1, .int .i64 n), (b, o + 5, .int .i64 tg), (b, o + 6, .int .i64 el), (w.heap.size, 0, .int .i64 t), (w.heap.size, 1, .int .i64 a)] (by kernel_rfl) (by kernel_rfl) ⟨Below.refl _ _, y1, y5, y6, s0, s1, trivial⟩ ?_
      repeat (first | go_big_quiet_skip | (go_big_quiet_want; apply Exists.intro; refine ⟨fun W hW => ?_, ?_⟩; focus (have hK := Lib.hid hW; obtain ⟨hs, hc⟩ := hW; simp only [Has, and_true] at hc; go_simp; (first | rfl | exact ⟨rfl, rfl⟩ | exact quietC_call hK.out (KC.out _ (Sees.below S1 hs)) | exact quietC_call hK.out (K4.out _) | exact quietC_call hK.out (K5.out _)))) | (go_simp; go_big_quiet_on))
      refine wpQuiet_nil ?_
      intro w2 H1
      have hb : Sees w w2 := Sees.below S1 H1.1
      clear H1
      go_wp2_with fail
      go_ret
      exact ⟨ret_bool HD.out.symm, hb⟩

    · cases q4
      · have HD : Hid (spotB t a cnt 2 n ck cn cf tg el = false) := by show _ = _; rw [HS.out, decide_eq_true hn]; rfl
        clear HS hn
        go_enter Tryd.func24, Tryd.ntmps24
        go_wp2_with fail
        refine (K1.out _ (by unfold Sees; go_grown)).mono ?_
        rintro e w1 ⟨rfl, hb⟩
        have S1 : Sees w w1 := Sees.below (by unfold Sees; go_grown) hb
        have y0 := kc S1 g0; have y1 := kc S1 g1; have y5 := kc S1 g5; have y6 := kc S1 g6
        have s0 : w1.cell? ⟨w.heap.size, 0, none⟩ = some (.int .i64 t) := kc hb (by simp [go_sem])
        have s1 : w1.cell? ⟨w.heap.size, 1, none⟩ = some (.int .i64 a) := kc hb (by simp [go_sem])
        clear hb
        go_wp2_with fail
        refine wp_region_quietC w1 [(b, o + 1, .int .i64 n), (b, o + 5, .int .i64 tg), (b, o + 6, .int .i64 el), (w.heap.size, 0, .int .i64 t), (w.heap.size, 1, .int .i64 a)] (by kernel_rfl) (by kernel_rfl) ⟨Below.refl _ _, y1, y5, y6, s0, s1, trivial⟩ ?_
        repeat (first | go_big_quiet_skip | (go_big_quiet_want; apply Exists.intro; refine ⟨fun W hW => ?_, ?_⟩; focus (have hK := Lib.hid hW; obtain ⟨hs, hc⟩ := hW; simp only [Has, and_true] at hc; go_simp; (first | rfl | exact ⟨rfl, rfl⟩ | exact quietC_call hK.out (KC.out _ (Sees.below S1 hs)) | exact quietC_call hK.out (K4.out _) | exact quietC_call hK.out (K5.out _)))) | (go_simp; go_big_quiet_on))
        refine wpQuiet_nil ?_
        intro w2 H1
        have hb : Sees w w2 := Sees.below S1 H1.1
        clear H1
        go_wp2_with fail
        go_ret
        exact ⟨ret_bool HD.out.symm, hb⟩

      · have HD : Hid (spotB t a cnt 2 n ck cn cf tg el = q5) := by show _ = _; rw [HS.out, decide_eq_true hn]; rfl
        clear HS hn
        go_enter Tryd.func24, Tryd.ntmps24
        go_wp2_with fail
        refine (K1.out _ (by unfold Sees; go_grown)).mono ?_
        rintro e w1 ⟨rfl, hb⟩
        have S1 : Sees w w1 := Sees.below (by unfold Sees; go_grown) hb
        have y0 := kc S1 g0; have y1 := kc S1 g1; have y5 := kc S1 g5; have y6 := kc S1 g6
        have s0 : w1.cell? ⟨w.heap.size, 0, none⟩ = some (.int .i64 t) := kc hb (by simp [go_sem])
        have s1 : w1.cell? ⟨w.heap.size, 1, none⟩ = some (.int .i64 a) := kc hb (by simp [go_sem])
        clear hb
        go_wp2_with fail
        have H : Hid (St w [(b, o + 1, .int .i64 n), (b, o + 5, .int .i64 tg), (b, o + 6, .int .i64 el), (w.heap.size, 0, .int .i64 t), (w.heap.size, 1, .int .i64 a)] w1) := ⟨S1, y1, y5, y6, s0, s1, trivial⟩
        go_region_held3 (fun w' => Sees w w' ∧ w'.cell? ⟨b, o + 1, none⟩ = some (.int .i64 n) ∧ w'.cell? ⟨b, o + 5, none⟩ = some (.int .i64 tg) ∧ w'.cell? ⟨b, o + 6, none⟩ = some (.int .i64 el) ∧ w'.cell? ⟨w.heap.size, 0, none⟩ = some (.int .i64 t) ∧ w'.cell? ⟨w.heap.size, 1, none⟩ = some (.int .i64 a) ∧ True)
          (first | exact H.out.drew | exact T3 | exact T2 | exact T1 | (go_keep; done))
          (first | (go_at_call 38; refine (KC.out _ (St.sees (l := [(b, o + 1, .int .i64 n), (b, o + 5, .int .i64 tg), (b, o + 6, .int .i64 el), (w.heap.size, 0, .int .i64 t), (w.heap.size, 1, .int .i64 a)]) (by assumption))).mono ?_; rintro e v1 ⟨rfl, hb1⟩; have T1 := St.below (l := [(b, o + 1, .int .i64 n), (b, o + 5, .int .i64 tg), (b, o + 6, .int .i64 el), (w.heap.size, 0, .int .i64 t), (w.heap.size, 1, .int .i64 a)]) (by assumption) hb1) | (go_at_call 23; (with_reducible refine (K4.out _).mono ?_); rintro e v2 ⟨rfl, hb2⟩; have T2 := St.below (l := [(b, o + 1, .int .i64 n), (b, o + 5, .int .i64 tg), (b, o + 6, .int .i64 el), (w.heap.size, 0, .int .i64 t), (w.heap.size, 1, .int .i64 a)]) (by assumption) hb2) | (go_at_call 23; (with_reducible refine (K5.out _).mono ?_); rintro e v3 ⟨rfl, hb3⟩; have T3 := St.below (l := [(b, o + 1, .int .i64 n), (b, o + 5, .int .i64 tg), (b, o + 6, .int .i64 el), (w.heap.size, 0, .int .i64 t), (w.heap.size, 1, .int .i64 a)]) (by assumption) hb3))
        go_wp2_with fail
        go_ret
        exact ⟨ret_bool HD.out.symm, T3.1⟩

  · by_cases hn : n = 0
    case neg =>
      have tn : (n == 0) = false := by rw [beq_eq_false_iff_ne]; exact hn
      have HD : Hid (spotB t a cnt 2 n ck cn cf tg el = false) := by show _ = _; rw [HS.out, decide_eq_false hn]; rfl
      clear HS hn
      go_enter Tryd.func24, Tryd.ntmps24
      go_wp2_with fail
      refine (K1.out _ (by unfold Sees; go_grown)).mono ?_
      rintro e w1 ⟨rfl, hb⟩
      have S1 : Sees w w1 := Sees.below (by unfold Sees; go_grown) hb
      have y0 := kc S1 g0; have y1 := kc S1 g1; have y5 := kc S1 g5; have y6 := kc S1 g6
      have s0 : w1.cell? ⟨w.heap.size, 0, none⟩ = some (.int .i64 t) := kc hb (by simp [go_sem])
      have s1 : w1.cell? ⟨w.heap.size, 1, none⟩ = some (.int .i64 a) := kc hb (by simp [go_sem])
      clear hb
      go_wp2_with fail
      refine wp_region_quietC w1 [(b, o + 1, .int .i64 n), (b, o + 5, .int .i64 tg), (b, o + 6, .int .i64 el), (w.heap.size, 0, .int .i64 t), (w.heap.size, 1, .int .i64 a)] (by kernel_rfl) (by kernel_rfl) ⟨Below.refl _ _, y1, y5, y6, s0, s1, trivial⟩ ?_
      repeat (first | go_big_quiet_skip | (go_big_quiet_want; apply Exists.intro; refine ⟨fun W hW => ?_, ?_⟩; focus (have hK := Lib.hid hW; obtain ⟨hs, hc⟩ := hW; simp only [Has, and_true] at hc; go_simp; (first | rfl | exact ⟨rfl, rfl⟩ | exact quietC_call hK.out (KC.out _ (Sees.below S1 hs)) | exact quietC_call hK.out (K4.out _) | exact quietC_call hK.out (K5.out _)))) | (go_simp; go_big_quiet_on))
      refine wpQuiet_nil ?_
      intro w2 H1
      have hb : Sees w w2 := Sees.below S1 H1.1
      clear H1
      go_wp2_with fail
      go_ret
      exact ⟨ret_bool HD.out.symm, hb⟩

    have tn : (n == 0) = true := by simp [hn]
    by_cases hel : el = 0
    case neg =>
      have te : (el == 0) = false := by rw [beq_eq_false_iff_ne]; exact hel
      cases qc
      · have HD : Hid (spotB t a cnt 2 n ck cn cf tg el = false) := by show _ = _; rw [HS.out, decide_eq_true hn]; rfl
        clear HS hn hel
        go_enter Tryd.func24, Tryd.ntmps24
        go_wp2_with fail
        refine (K1.out _ (by unfold Sees; go_grown)).mono ?_
        rintro e w1 ⟨rfl, hb⟩
        have S1 : Sees w w1 := Sees.below (by unfold Sees; go_grown) hb
        have y0 := kc S1 g0; have y1 := kc S1 g1; have y5 := kc S1 g5; have y6 := kc S1 g6
        have s0 : w1.cell? ⟨w.heap.size, 0, none⟩ = some (.int .i64 t) := kc hb (by simp [go_sem])
        have s1 : w1.cell? ⟨w.heap.size, 1, none⟩ = some (.int .i64 a) := kc hb (by simp [go_sem])
        clear hb
        go_wp2_with fail
        refine wp_region_quietC w1 [(b, o + 1, .int .i64 n), (b, o + 5, .int .i64 tg), (b, o + 6, .int .i64 el), (w.heap.size, 0, .int .i64 t), (w.heap.size, 1, .int .i64 a)] (by kernel_rfl) (by kernel_rfl) ⟨Below.refl _ _, y1, y5, y6, s0, s1, trivial⟩ ?_
        repeat (first | go_big_quiet_skip | (go_big_quiet_want; apply Exists.intro; refine ⟨fun W hW => ?_, ?_⟩; focus (have hK := Lib.hid hW; obtain ⟨hs, hc⟩ := hW; simp only [Has, and_true] at hc; go_simp; (first | rfl | exact ⟨rfl, rfl⟩ | exact quietC_call hK.out (KC.out _ (Sees.below S1 hs)) | exact quietC_call hK.out (K4.out _) | exact quietC_call hK.out (K5.out _)))) | (go_simp; go_big_quiet_on))
        refine wpQuiet_nil ?_
        intro w2 H1
        have hb : Sees w w2 := Sees.below S1 H1.1
        clear H1
        go_wp2_with fail
        go_ret
        exact ⟨ret_bool HD.out.symm, hb⟩

      · cases q4
        · have HD : Hid (spotB t a cnt 2 n ck cn cf tg el = false) := by show _ = _; rw [HS.out, decide_eq_true hn]; rfl
          clear HS hn hel
          go_enter Tryd.func24, Tryd.ntmps24
          go_wp2_with fail
          refine (K1.out _ (by unfold Sees; go_grown)).mono ?_
          rintro e w1 ⟨rfl, hb⟩
          have S1 : Sees w w1 := Sees.below (by unfold Sees; go_grown) hb
          have y0 := kc S1 g0; have y1 := kc S1 g1; have y5 := kc S1 g5; have y6 := kc S1 g6
          have s0 : w1.cell? ⟨w.heap.size, 0, none⟩ = some (.int .i64 t) := kc hb (by simp [go_sem])
          have s1 : w1.cell? ⟨w.heap.size, 1, none⟩ = some (.int .i64 a) := kc hb (by simp [go_sem])
          clear hb
          go_wp2_with fail
          refine wp_region_quietC w1 [(b, o + 1, .int .i64 n), (b, o + 5, .int .i64 tg), (b, o + 6, .int .i64 el), (w.heap.size, 0, .int .i64 t), (w.heap.size, 1, .int .i64 a)] (by kernel_rfl) (by kernel_rfl) ⟨Below.refl _ _, y1, y5, y6, s0, s1, trivial⟩ ?_
          repeat (first | go_big_quiet_skip | (go_big_quiet_want; apply Exists.intro; refine ⟨fun W hW => ?_, ?_⟩; focus (have hK := Lib.hid hW; obtain ⟨hs, hc⟩ := hW; simp only [Has, and_true] at hc; go_simp; (first | rfl | exact ⟨rfl, rfl⟩ | exact quietC_call hK.out (KC.out _ (Sees.below S1 hs)) | exact quietC_call hK.out (K4.out _) | exact quietC_call hK.out (K5.out _)))) | (go_simp; go_big_quiet_on))
          refine wpQuiet_nil ?_
          intro w2 H1
          have hb : Sees w w2 := Sees.below S1 H1.1
          clear H1
          go_wp2_with fail
          go_ret
          exact ⟨ret_bool HD.out.symm, hb⟩

        · have HD : Hid (spotB t a cnt 2 n ck cn cf tg el = q5) := by show _ = _; rw [HS.out, decide_eq_true hn]; rfl
          clear HS hn hel
          go_enter Tryd.func24, Tryd.ntmps24
          go_wp2_with fail
          refine (K1.out _ (by unfold Sees; go_grown)).mono ?_
          rintro e w1 ⟨rfl, hb⟩
          have S1 : Sees w w1 := Sees.below (by unfold Sees; go_grown) hb
          have y0 := kc S1 g0; have y1 := kc S1 g1; have y5 := kc S1 g5; have y6 := kc S1 g6
          have s0 : w1.cell? ⟨w.heap.size, 0, none⟩ = some (.int .i64 t) := kc hb (by simp [go_sem])
          have s1 : w1.cell? ⟨w.heap.size, 1, none⟩ = some (.int .i64 a) := kc hb (by simp [go_sem])
          clear hb
          go_wp2_with fail
          have H : Hid (St w [(b, o + 1, .int .i64 n), (b, o + 5, .int .i64 tg), (b, o + 6, .int .i64 el), (w.heap.size, 0, .int .i64 t), (w.heap.size, 1, .int .i64 a)] w1) := ⟨S1, y1, y5, y6, s0, s1, trivial⟩
          go_region_held3 (fun w' => Sees w w' ∧ w'.cell? ⟨b, o + 1, none⟩ = some (.int .i64 n) ∧ w'.cell? ⟨b, o + 5, none⟩ = some (.int .i64 tg) ∧ w'.cell? ⟨b, o + 6, none⟩ = some (.int .i64 el) ∧ w'.cell? ⟨w.heap.size, 0, none⟩ = some (.int .i64 t) ∧ w'.cell? ⟨w.heap.size, 1, none⟩ = some (.int .i64 a) ∧ True)
            (first | exact H.out.drew | exact T3 | exact T2 | exact T1 | (go_keep; done))
            (first | (go_at_call 38; refine (KC.out _ (St.sees (l := [(b, o + 1, .int .i64 n), (b, o + 5, .int .i64 tg), (b, o + 6, .int .i64 el), (w.heap.size, 0, .int .i64 t), (w.heap.size, 1, .int .i64 a)]) (by assumption))).mono ?_; rintro e v1 ⟨rfl, hb1⟩; have T1 := St.below (l := [(b, o + 1, .int .i64 n), (b, o + 5, .int .i64 tg), (b, o + 6, .int .i64 el), (w.heap.size, 0, .int .i64 t), (w.heap.size, 1, .int .i64 a)]) (by assumption) hb1) | (go_at_call 23; (with_reducible refine (K4.out _).mono ?_); rintro e v2 ⟨rfl, hb2⟩; have T2 := St.below (l := [(b, o + 1, .int .i64 n), (b, o + 5, .int .i64 tg), (b, o + 6, .int .i64 el), (w.heap.size, 0, .int .i64 t), (w.heap.size, 1, .int .i64 a)]) (by assumption) hb2) | (go_at_call 23; (with_reducible refine (K5.out _).mono ?_); rintro e v3 ⟨rfl, hb3⟩; have T3 := St.below (l := [(b, o + 1, .int .i64 n), (b, o + 5, .int .i64 tg), (b, o + 6, .int .i64 el), (w.heap.size, 0, .int .i64 t), (w.heap.size, 1, .int .i64 a)]) (by assumption) hb3))
          go_wp2_with fail
          go_ret
          exact ⟨ret_bool HD.out.symm, T3.1⟩

    have te : (el == 0) = true := by simp [hel]
    cases qc
    · have HD : Hid (spotB t a cnt 2 n ck cn cf tg el = false) := by show _ = _; rw [HS.out, decide_eq_true hn]; rfl
      clear HS hn hel
      go_enter Tryd.func24, Tryd.ntmps24
      go_wp2_with fail
      refine (K1.out _ (by unfold Sees; go_grown)).mono ?_
      rintro e w1 ⟨rfl, hb⟩
      have S1 : Sees w w1 := Sees.below (by unfold Sees; go_grown) hb
      have y0 := kc S1 g0; have y1 := kc S1 g1; have y5 := kc S1 g5; have y6 := kc S1 g6
      have s0 : w1.cell? ⟨w.heap.size, 0, none⟩ = some (.int .i64 t) := kc hb (by simp [go_sem])
      have s1 : w1.cell? ⟨w.heap.size, 1, none⟩ = some (.int .i64 a) := kc hb (by simp [go_sem])
      clear hb
      go_wp2_with fail
      refine wp_region_quietC w1 [(b, o + 1, .int .i64 n), (b, o + 5, .int .i64 tg), (b, o + 6, .int .i64 el), (w.heap.size, 0, .int .i64 t), (w.heap.size, 1, .int .i64 a)] (by kernel_rfl) (by kernel_rfl) ⟨Below.refl _ _, y1, y5, y6, s0, s1, trivial⟩ ?_
      repeat (first | go_big_quiet_skip | (go_big_quiet_want; apply Exists.intro; refine ⟨fun W hW => ?_, ?_⟩; focus (have hK := Lib.hid hW; obtain ⟨hs, hc⟩ := hW; simp only [Has, and_true] at hc; go_simp; (first | rfl | exact ⟨rfl, rfl⟩ | exact quietC_call hK.out (KC.out _ (Sees.below S1 hs)) | exact quietC_call hK.out (K4.out _) | exact quietC_call hK.out (K5.out _)))) | (go_simp; go_big_quiet_on))
      refine wpQuiet_nil ?_
      intro w2 H1
      have hb : Sees w w2 := Sees.below S1 H1.1
      clear H1
      go_wp2_with fail
      go_ret
      exact ⟨ret_bool HD.out.symm, hb⟩

    · cases q4
      · have HD : Hid (spotB t a cnt 2 n ck cn cf tg el = false) := by show _ = _; rw [HS.out, decide_eq_true hn]; rfl
        clear HS hn hel
        go_enter Tryd.func24, Tryd.ntmps24
        go_wp2_with fail
        refine (K1.out _ (by unfold Sees; go_grown)).mono ?_
        rintro e w1 ⟨rfl, hb⟩
        have S1 : Sees w w1 := Sees.below (by unfold Sees; go_grown) hb
        have y0 := kc S1 g0; have y1 := kc S1 g1; have y5 := kc S1 g5; have y6 := kc S1 g6
        have s0 : w1.cell? ⟨w.heap.size, 0, none⟩ = some (.int .i64 t) := kc hb (by simp [go_sem])
        have s1 : w1.cell? ⟨w.heap.size, 1, none⟩ = some (.int .i64 a) := kc hb (by simp [go_sem])
        clear hb
        go_wp2_with fail
        refine wp_region_quietC w1 [(b, o + 1, .int .i64 n), (b, o + 5, .int .i64 tg), (b, o + 6, .int .i64 el), (w.heap.size, 0, .int .i64 t), (w.heap.size, 1, .int .i64 a)] (by kernel_rfl) (by kernel_rfl) ⟨Below.refl _ _, y1, y5, y6, s0, s1, trivial⟩ ?_
        repeat (first | go_big_quiet_skip | (go_big_quiet_want; apply Exists.intro; refine ⟨fun W hW => ?_, ?_⟩; focus (have hK := Lib.hid hW; obtain ⟨hs, hc⟩ := hW; simp only [Has, and_true] at hc; go_simp; (first | rfl | exact ⟨rfl, rfl⟩ | exact quietC_call hK.out (KC.out _ (Sees.below S1 hs)) | exact quietC_call hK.out (K4.out _) | exact quietC_call hK.out (K5.out _)))) | (go_simp; go_big_quiet_on))
        refine wpQuiet_nil ?_
        intro w2 H1
        have hb : Sees w w2 := Sees.below S1 H1.1
        clear H1
        go_wp2_with fail
        go_ret
        exact ⟨ret_bool HD.out.symm, hb⟩

      · have HD : Hid (spotB t a cnt 2 n ck cn cf tg el = q5) := by show _ = _; rw [HS.out, decide_eq_true hn]; rfl
        clear HS hn hel
        go_enter Tryd.func24, Tryd.ntmps24
        go_wp2_with fail
        refine (K1.out _ (by unfold Sees; go_grown)).mono ?_
        rintro e w1 ⟨rfl, hb⟩
        have S1 : Sees w w1 := Sees.below (by unfold Sees; go_grown) hb
        have y0 := kc S1 g0; have y1 := kc S1 g1; have y5 := kc S1 g5; have y6 := kc S1 g6
        have s0 : w1.cell? ⟨w.heap.size, 0, none⟩ = some (.int .i64 t) := kc hb (by simp [go_sem])
        have s1 : w1.cell? ⟨w.heap.size, 1, none⟩ = some (.int .i64 a) := kc hb (by simp [go_sem])
        clear hb
        go_wp2_with fail
        have H : Hid (St w [(b, o + 1, .int .i64 n), (b, o + 5, .int .i64 tg), (b, o + 6, .int .i64 el), (w.heap.size, 0, .int .i64 t), (w.heap.size, 1, .int .i64 a)] w1) := ⟨S1, y1, y5, y6, s0, s1, trivial⟩
        go_region_held3 (fun w' => Sees w w' ∧ w'.cell? ⟨b, o + 1, none⟩ = some (.int .i64 n) ∧ w'.cell? ⟨b, o + 5, none⟩ = some (.int .i64 tg) ∧ w'.cell? ⟨b, o + 6, none⟩ = some (.int .i64 el) ∧ w'.cell? ⟨w.heap.size, 0, none⟩ = some (.int .i64 t) ∧ w'.cell? ⟨w.heap.size, 1, none⟩ = some (.int .i64 a) ∧ True)
          (first | exact H.out.drew | exact T3 | exact T2 | exact T1 | (go_keep; done))
          (first | (go_at_call 38; refine (KC.out _ (St.sees (l := [(b, o + 1, .int .i64 n), (b, o + 5, .int .i64 tg), (b, o + 6, .int .i64 el), (w.heap.size, 0, .int .i64 t), (w.heap.size, 1, .int .i64 a)]) (by assumption))).mono ?_; rintro e v1 ⟨rfl, hb1⟩; have T1 := St.below (l := [(b, o + 1, .int .i64 n), (b, o + 5, .int .i64 tg), (b, o + 6, .int .i64 el), (w.heap.size, 0, .int .i64 t), (w.heap.size, 1, .int .i64 a)]) (by assumption) hb1) | (go_at_call 23; (with_reducible refine (K4.out _).mono ?_); rintro e v2 ⟨rfl, hb2⟩; have T2 := St.below (l := [(b, o + 1, .int .i64 n), (b, o + 5, .int .i64 tg), (b, o + 6, .int .i64 el), (w.heap.size, 0, .int .i64 t), (w.heap.size, 1, .int .i64 a)]) (by assumption) hb2) | (go_at_call 23; (with_reducible refine (K5.out _).mono ?_); rintro e v3 ⟨rfl, hb3⟩; have T3 := St.below (l := [(b, o + 1, .int .i64 n), (b, o + 5, .int .i64 tg), (b, o + 6, .int .i64 el), (w.heap.size, 0, .int .i64 t), (w.heap.size, 1, .int .i64 a)]) (by assumption) hb3))
        go_wp2_with fail
        go_ret
        exact ⟨ret_bool HD.out.symm, T3.1⟩


end Go.Proofs.YtmblgkpgfofceaaDoor
