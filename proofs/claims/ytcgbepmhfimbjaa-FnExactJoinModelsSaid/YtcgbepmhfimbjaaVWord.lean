/- Contracts of spec.l01Atoms, l01Word, ValidWord; impl.atomCount, ValidWord. -/
import Derived.Test.YtcgbepmhfimbjaaWordC
import Derived.Deep.RegionHeld3
import Derived.Test.YtcgbepmhfimbjaaQuietC
namespace Go.Proofs.Ytcgbepmhfimbjaa
open Go.RowKit

/-- How many atoms there are. -/
def atomsN (t : Int) : Int := if t = 0 then 1 else if t = 1 then 2 else if t = 2 then 4 else 8
theorem atomsN_bd (t : Int) : 1 ≤ atomsN t ∧ atomsN t ≤ 8 := by
  unfold atomsN; split
  · omega
  · split
    · omega
    · split <;> omega
def atomB (t : Int) (x : Int) : Bool := inB x 0 (atomsN t - 1)
def actB (a : Int) (x : Int) : Bool := inB x 0 (a - 1)
theorem atomB_below (t x : Int) : atomB t x = belowB x (atomsN t) := by
  unfold atomB inB belowB; rw [Bool.eq_iff_iff]; simp; omega
theorem actB_below (a x : Int) : actB a x = belowB x a := by
  unfold actB inB belowB; rw [Bool.eq_iff_iff]; simp; omega
def validW (t a : Int) (p r : List Int) : Bool := sigOk t a && decide (r.length ≤ 10) && decide (p.length = r.length + 1) && p.all (atomB t) && r.all (actB a)

theorem all_step (f : Int → Bool) (xs : List Int) (j : Nat) (h : j < xs.length) : (xs.drop j).all f = (f (nth xs j) && (xs.drop (j + 1)).all f) := by
  rw [drop_getD xs j h]; rfl
theorem all_end (f : Int → Bool) (xs : List Int) : (xs.drop xs.length).all f = true := by simp

theorem atoms_any (t a : Int) (w : World) (h0 : 0 ≤ t) (h1 : t ≤ 3) : Calls Try.prog 149 #[.agg #[.int .i64 t, .int .i64 a]] w fun e w' => e = .returned (.int .i64 (atomsN t)) ∧ Below w.heap.size w w' := by
  have ht : t = 0 ∨ t = 1 ∨ t = 2 ∨ t = 3 := by omega
  rcases ht with rfl | rfl | rfl | rfl
  all_goals
    go_enter Try.func149, Try.ntmps149
    go_wp2
    go_ret
    exact ⟨by first | rfl | simp [atomsN], by go_grown⟩

theorem atomCount_any (t a : Int) (w : World) (h0 : 0 ≤ t) (h1 : t ≤ 3) : Calls Try.prog 155 #[.agg #[.int .i64 t, .int .i64 a]] w fun e w' => e = .returned (.int .i64 (atomsN t)) ∧ Below w.heap.size w w' := by
  have ht : t = 0 ∨ t = 1 ∨ t = 2 ∨ t = 3 := by omega
  rcases ht with rfl | rfl | rfl | rfl
  all_goals
    go_enter Try.func155, Try.ntmps155
    go_wp2
    go_ret
    exact ⟨by first | rfl | simp [atomsN], by go_grown⟩

set_option maxRecDepth 100000 in
set_option maxHeartbeats 2000000 in
theorem l01Word_any (p r : List Int) (h0 : p.length + r.length ≤ 1048576) (t a : Int) (A B : Option Addr) (C D b o : Nat) (w : World) (hl : Ints w p A) (hr : Ints w r B)
      (g0 : w.cell? ⟨b, o, none⟩ = some (.slice A p.length C)) (g1 : w.cell? ⟨b, o + 1, none⟩ = some (.slice B r.length D)) :
      Calls Try.prog 77 #[.agg #[.int .i64 t, .int .i64 a], .pointer (some ⟨b, o, none⟩)] w fun e w' => e = .returned (.bool (validW t a p r)) ∧ Below w.heap.size w w' := by
  have lb : b < w.heap.size := World.block_lt_of_cell? _ _ g0
  obtain ⟨q1, hq1⟩ : ∃ q1 : Bool, q1 = sigOk t a := ⟨_, rfl⟩
  have K1 : Hid (∀ W : World, Calls Try.prog 85 #[.agg #[.int .i64 t, .int .i64 a]] W fun e w' => e = .returned (.bool q1) ∧ Below W.heap.size W w') := fun W => by rw [hq1]; exact l01Sig_any t a W
  have X0 : (w.alloc (.cells #[.int .i64 t, .int .i64 a] 29)).cell? ⟨w.heap.size, 0, none⟩ = some (.int .i64 t) := by simp [go_sem]
  have X1 : (w.alloc (.cells #[.int .i64 t, .int .i64 a] 29)).cell? ⟨w.heap.size, 1, none⟩ = some (.int .i64 a) := by simp [go_sem]
  have y0 := ka (W := w) (.cells #[.int .i64 t, .int .i64 a] 29) g0
  have y1 := ka (W := w) (.cells #[.int .i64 t, .int .i64 a] 29) g1
  cases q1
  · have HD : Hid (validW t a p r = false) := by show _ = _; unfold validW; rw [← hq1]; rfl
    clear hq1
    go_enter Try.func77, Try.ntmps77
    go_wp2_with fail
    refine wp_region_quietC w [(w.heap.size, 0, .int .i64 t), (w.heap.size, 1, .int .i64 a), (b, o, .slice A p.length C), (b, o + 1, .slice B r.length D)] (by kernel_rfl) (by kernel_rfl) ⟨(by unfold Sees; go_grown), X0, X1, y0, y1, trivial⟩ ?_
    repeat (first | go_big_quiet_skip | (go_big_quiet_want; apply Exists.intro; refine ⟨fun W hW => ?_, ?_⟩; focus (have hK := Lib.hid hW; obtain ⟨hs, hc⟩ := hW; simp only [Has, and_true] at hc; go_simp; (first | rfl | exact ⟨rfl, rfl⟩ | exact quietC_call hK.out (K1.out _)))) | (go_simp; go_big_quiet_on))
    refine wpQuiet_nil ?_
    intro w1 H1
    go_wp2_with fail
    go_ret
    exact ⟨ret_bool HD.out.symm, H1.1⟩

  have hsg := sigOk_of hq1.symm
  by_cases hlen : 10 < r.length
  · have HD : Hid (validW t a p r = false) := by
      show _ = _
      unfold validW
      rw [decide_eq_false (p := r.length ≤ 10) (by omega)]; simp
    have z1 : decide ((10 : Int) < (r.length : Int)) = true := decide_eq_true (by omega)
    clear hq1
    go_enter Try.func77, Try.ntmps77
    go_wp2_with fail
    refine wp_region_quietC w [(w.heap.size, 0, .int .i64 t), (w.heap.size, 1, .int .i64 a), (b, o, .slice A p.length C), (b, o + 1, .slice B r.length D)] (by kernel_rfl) (by kernel_rfl) ⟨(by unfold Sees; go_grown), X0, X1, y0, y1, trivial⟩ ?_
    repeat (first | go_big_quiet_skip | (go_big_quiet_want; apply Exists.intro; refine ⟨fun W hW => ?_, ?_⟩; focus (have hK := Lib.hid hW; obtain ⟨hs, hc⟩ := hW; simp only [Has, and_true] at hc; go_simp; (first | rfl | exact ⟨rfl, rfl⟩ | exact quietC_call hK.out (K1.out _)))) | (go_simp; go_big_quiet_on))
    refine wpQuiet_nil ?_
    intro w1 H1
    go_wp2_with fail
    go_ret
    exact ⟨ret_bool HD.out.symm, H1.1⟩

  have z1 : decide ((10 : Int) < (r.length : Int)) = false := decide_eq_false (by omega)
  have ws : IntKind.i64.wrap ((r.length : Int) + 1) = (r.length : Int) + 1 := IntWalk.i64_in _ (by omega)
  by_cases hpl : p.length = r.length + 1
  case neg =>
    have HD : Hid (validW t a p r = false) := by
      show _ = _
      unfold validW
      rw [decide_eq_false hpl]; simp
    have z2 : ((p.length : Int) != (r.length : Int) + 1) = true := by rw [bne_iff_ne]; omega
    clear hq1
    go_enter Try.func77, Try.ntmps77
    go_wp2_with fail
    refine wp_region_quietC w [(w.heap.size, 0, .int .i64 t), (w.heap.size, 1, .int .i64 a), (b, o, .slice A p.length C), (b, o + 1, .slice B r.length D)] (by kernel_rfl) (by kernel_rfl) ⟨(by unfold Sees; go_grown), X0, X1, y0, y1, trivial⟩ ?_
    repeat (first | go_big_quiet_skip | (go_big_quiet_want; apply Exists.intro; refine ⟨fun W hW => ?_, ?_⟩; focus (have hK := Lib.hid hW; obtain ⟨hs, hc⟩ := hW; simp only [Has, and_true] at hc; go_simp; (first | rfl | exact ⟨rfl, rfl⟩ | exact quietC_call hK.out (K1.out _)))) | (go_simp; go_big_quiet_on))
    refine wpQuiet_nil ?_
    intro w1 H1
    go_wp2_with fail
    go_ret
    exact ⟨ret_bool HD.out.symm, H1.1⟩

  have z2 : ((p.length : Int) != (r.length : Int) + 1) = false := by
    rw [show (p.length : Int) = (r.length : Int) + 1 by omega]; simp
  have HD : Hid (validW t a p r = (p.all (atomB t) && r.all (actB a))) := by
    show _ = _
    unfold validW
    rw [← hq1, decide_eq_true hpl, decide_eq_true (p := r.length ≤ 10) (by omega)]; simp
  obtain ⟨na, hna, hn1, hn8⟩ : ∃ na : Int, na = atomsN t ∧ 1 ≤ na ∧ na ≤ 8 := ⟨_, rfl, (atomsN_bd t).1, (atomsN_bd t).2⟩
  have KA : Hid (∀ W : World, Calls Try.prog 149 #[.agg #[.int .i64 t, .int .i64 a]] W fun e w' => e = .returned (.int .i64 na) ∧ Below W.heap.size W w') := fun W => by rw [hna]; exact atoms_any t a W hsg.1 hsg.2.1
  have hab : ∀ x, atomB t x = inB x 0 (na - 1) := fun x => by rw [hna]; rfl
  have HAB := Lib.hid hab; clear hab
  have wn : IntKind.i64.wrap (na - 1) = na - 1 := IntWalk.i64_in _ (by omega)
  have wa : IntKind.i64.wrap (a - 1) = a - 1 := IntWalk.i64_in _ (by omega)
  clear hna hq1 hpl
  go_enter Try.func77, Try.ntmps77
  go_wp2_with fail
  refine wp_region_quietC w [(w.heap.size, 0, .int .i64 t), (w.heap.size, 1, .int .i64 a), (b, o, .slice A p.length C), (b, o + 1, .slice B r.length D)] (by kernel_rfl) (by kernel_rfl) ⟨(by unfold Sees; go_grown), X0, X1, y0, y1, trivial⟩ ?_
  repeat (first | go_big_quiet_skip | (go_big_quiet_want; apply Exists.intro; refine ⟨fun W hW => ?_, ?_⟩; focus (have hK := Lib.hid hW; obtain ⟨hs, hc⟩ := hW; simp only [Has, and_true] at hc; go_simp; (first | rfl | exact ⟨rfl, rfl⟩ | exact quietC_call hK.out (K1.out _)))) | (go_simp; go_big_quiet_on))
  refine wpQuiet_nil ?_
  intro w1 H1
  have HS := Lib.hid H1; clear H1 X0 X1 y0 y1
  go_wp2_with fail
  go_loopw [5] (fun i wr => ∃ j : Nat, j ≤ p.length ∧ i = .int .i64 j ∧ Hid (p.all (atomB t) = (p.drop j).all (atomB t)) ∧ Hid (St w [(w.heap.size, 0, .int .i64 t), (w.heap.size, 1, .int .i64 a), (b, o, .slice A p.length C), (b, o + 1, .slice B r.length D)] wr)) (fun i _ => p.length - (intOf i).toNat)
  case atStart => exact ⟨0, Nat.zero_le _, rfl, rfl, HS⟩
  case round =>
    obtain ⟨j, hj, rfl, hq, hS⟩ := hrel
    obtain ⟨sS, s0, s1, s2, s3, _⟩ := hS.out
    by_cases hjl : j < p.length
    · obtain ⟨b', o', hA, hat⟩ := hl (by rintro rfl; simp at hjl)
      have c0 := kc sS (hat j hjl)
      have hat2 := Lib.hid hat; clear hat
      subst hA
      have hj0 : (0 : Int) ≤ (j : Int) := Int.natCast_nonneg _
      have hj1 : (j : Int) < (p.length : Int) := by omega
      obtain ⟨q2, hqe⟩ : ∃ q2 : Bool, q2 = atomB t (nth p j) := ⟨_, rfl⟩
      have K2 : Hid (∀ W : World, Calls Try.prog 107 #[.int .i64 (nth p j), .int .i64 0, .int .i64 (na - 1)] W fun e w' => e = .returned (.bool q2) ∧ Below W.heap.size W w') := fun W => (in_any (nth p j) 0 (na - 1) W).mono fun e w' h => ⟨by rw [hqe, HAB.out]; exact h.1, by rw [← h.2]; exact Below.refl _ _⟩
      have hq1 : Hid (p.all (atomB t) = (q2 && (p.drop (j + 1)).all (atomB t))) := by show _ = _; rw [hq.out, all_step _ _ _ hjl, hqe]
      clear hqe hq
      go_wp2_with fail
      refine wp_region_quietC w ((b', o' + j, .int .i64 (nth p j)) :: [(w.heap.size, 0, .int .i64 t), (w.heap.size, 1, .int .i64 a), (b, o, .slice (some ⟨b', o', none⟩) p.length C), (b, o + 1, .slice B r.length D)]) (by kernel_rfl) (by kernel_rfl) ⟨sS, c0, s0, s1, s2, s3, trivial⟩ ?_
      repeat (first | go_big_quiet_skip | (go_big_quiet_want; apply Exists.intro; refine ⟨fun W hW => ?_, ?_⟩; focus (have hK := Lib.hid hW; obtain ⟨hs, hc⟩ := hW; simp only [Has, and_true] at hc; go_simp; (first | rfl | exact ⟨rfl, rfl⟩ | exact quietC_call hK.out (K2.out _) | exact quietC_call hK.out (KA.out _)))) | (go_simp; go_big_quiet_on))
      refine wpQuiet_nil ?_
      intro w1 H1
      have H2 : Hid (St w [(w.heap.size, 0, .int .i64 t), (w.heap.size, 1, .int .i64 a), (b, o, .slice (some ⟨b', o', none⟩) p.length C), (b, o + 1, .slice B r.length D)] w1) := ⟨H1.1, H1.2.2⟩
      clear H1 c0 s0 s1 s2 s3 sS hS K2
      cases q2
      · go_wp2_with fail
        go_ret
        exact ⟨ret_bool (by rw [HD.out, hq1.out]; simp), H2.out.1⟩
      · have hq2 : Hid (p.all (atomB t) = (p.drop (j + 1)).all (atomB t)) := hq1.out
        clear hq1
        go_wp2_with fail
        go_roundw
        case rel => exact ⟨j + 1, by omega, by go_num, hq2, H2⟩
        case measure => simp [intOf]; omega
    · obtain rfl : j = p.length := by omega
      have HE : Hid (p.all (atomB t) = true) := by show _ = _; rw [hq.out, all_end]
      clear hq
      go_wp2_with fail
      clear s0 s1 s2 s3 sS
      go_loopw [6] (fun i wr => ∃ j : Nat, j ≤ r.length ∧ i = .int .i64 j ∧ Hid (r.all (actB a) = (r.drop j).all (actB a)) ∧ Hid (St w [(w.heap.size, 0, .int .i64 t), (w.heap.size, 1, .int .i64 a), (b, o, .slice A p.length C), (b, o + 1, .slice B r.length D)] wr)) (fun i _ => r.length - (intOf i).toNat)
      case atStart => exact ⟨0, Nat.zero_le _, rfl, rfl, hS⟩
      case round =>
        obtain ⟨j, hj, rfl, hq, hS⟩ := hrel
        obtain ⟨sS, s0, s1, s2, s3, _⟩ := hS.out
        by_cases hjl : j < r.length
        · obtain ⟨b', o', hA, hat⟩ := hr (by rintro rfl; simp at hjl)
          have c0 := kc sS (hat j hjl)
          have hat2 := Lib.hid hat; clear hat
          subst hA
          have hj0 : (0 : Int) ≤ (j : Int) := Int.natCast_nonneg _
          have hj1 : (j : Int) < (r.length : Int) := by omega
          obtain ⟨q2, hqe⟩ : ∃ q2 : Bool, q2 = actB a (nth r j) := ⟨_, rfl⟩
          have K2 : Hid (∀ W : World, Calls Try.prog 107 #[.int .i64 (nth r j), .int .i64 0, .int .i64 (a - 1)] W fun e w' => e = .returned (.bool q2) ∧ Below W.heap.size W w') := fun W => (in_any (nth r j) 0 (a - 1) W).mono fun e w' h => ⟨by rw [hqe]; exact h.1, by rw [← h.2]; exact Below.refl _ _⟩
          have hq1 : Hid (r.all (actB a) = (q2 && (r.drop (j + 1)).all (actB a))) := by show _ = _; rw [hq.out, all_step _ _ _ hjl, hqe]
          clear hqe hq
          go_wp2_with fail
          refine wp_region_quietC w ((b', o' + j, .int .i64 (nth r j)) :: [(w.heap.size, 0, .int .i64 t), (w.heap.size, 1, .int .i64 a), (b, o, .slice A p.length C), (b, o + 1, .slice (some ⟨b', o', none⟩) r.length D)]) (by kernel_rfl) (by kernel_rfl) ⟨sS, c0, s0, s1, s2, s3, trivial⟩ ?_
          repeat (first | go_big_quiet_skip | (go_big_quiet_want; apply Exists.intro; refine ⟨fun W hW => ?_, ?_⟩; focus (have hK := Lib.hid hW; obtain ⟨hs, hc⟩ := hW; simp only [Has, and_true] at hc; go_simp; (first | rfl | exact ⟨rfl, rfl⟩ | exact quietC_call hK.out (K2.out _) | exact quietC_call hK.out (KA.out _)))) | (go_simp; go_big_quiet_on))
          refine wpQuiet_nil ?_
          intro w1 H1
          have H2 : Hid (St w [(w.heap.size, 0, .int .i64 t), (w.heap.size, 1, .int .i64 a), (b, o, .slice A p.length C), (b, o + 1, .slice (some ⟨b', o', none⟩) r.length D)] w1) := ⟨H1.1, H1.2.2⟩
          clear H1 c0 s0 s1 s2 s3 sS hS K2
          cases q2
          · go_wp2_with fail
            go_ret
            exact ⟨ret_bool (by rw [HD.out, HE.out, hq1.out]; simp), H2.out.1⟩
          · have hq2 : Hid (r.all (actB a) = (r.drop (j + 1)).all (actB a)) := hq1.out
            clear hq1
            go_wp2_with fail
            go_roundw
            case rel => exact ⟨j + 1, by omega, by go_num, hq2, H2⟩
            case measure => simp [intOf]; omega
        · obtain rfl : j = r.length := by omega
          have HR : Hid (r.all (actB a) = true) := by show _ = _; rw [hq.out, all_end]
          clear hq
          go_wp2_with fail
          go_ret
          exact ⟨ret_bool (by rw [HD.out, HE.out, HR.out]; rfl), hS.out.1⟩

end Go.Proofs.Ytcgbepmhfimbjaa
