/- Equality of proofs, on the program's side. -/
import Derived.Test.YtlpgkhdecccmlaaRUe
import Derived.Test.YtlpgkhdecccmlaaRSameI
import Derived.Test.YtlpgkhdecccmlaaRSmL
import Derived.Test.YtlpgkhdecccmlaaRQuietC
import Derived.Test.YtlpgkhdecccmlaaRCl
import Derived.Deep.RegionHeld3
import Derived.Lib.SmallJoins
namespace Go.Proofs.YtlpgkhdecccmlaaR
open Go.RowKit
set_option linter.unusedVariables false

theorem sameExpr_u (k0 : Int) (n0 : Int) (kf0 : Fo) (k1 : Int) (n1 : Int) (kf1 : Fo) (hf_kf0 : kf0.len ≤ 9223372036854775807 ∧ kf0.Fits) (Akf0 Akf1 : Option Addr) (Ckf0 Ckf1 : Nat) (w : World) (hl_kf0 : kf0.Lies w Akf0) (hl_kf1 : kf1.Lies w Akf1) :
    Calls Try.prog 192 #[.agg #[.int .i64 k0, .int .i64 n0, .slice Akf0 kf0.len Ckf0], .agg #[.int .i64 k1, .int .i64 n1, .slice Akf1 kf1.len Ckf1]] w fun e w' => e = .returned (.bool (decide (k0 = k1 ∧ n0 = n1 ∧ kf0 = kf1))) ∧ Below w.heap.size w w' := implSameExpr_aux (kf0.nodes + 1) kf0 kf1 (Nat.lt_succ_self _) hf_kf0.1 hf_kf0.2 k0 n0 k1 n1 Akf0 Akf1 Ckf0 Ckf1 w hl_kf0 hl_kf1
theorem Il.eq_l {x y : Il} : (x = y) = (x.l = y.l) := by cases x; cases y; simp

theorem Fo.rowF {w : World} {f : Fo} {b o : Nat} (h : f.At w b o) {i : Nat} (hi : i < f.len) :
    ∃ k n ks r A C, Hid (f.drop i = .cons k n ks r) ∧ Hid (f.drop (i + 1) = r) ∧ w.cell? ⟨b, o + i * 3, none⟩ = some (.int .i64 k) ∧ w.cell? ⟨b, o + i * 3 + 1, none⟩ = some (.int .i64 n) ∧ w.cell? ⟨b, o + i * 3 + 2, none⟩ = some (.slice A ks.len C) ∧ ks.Lies w A := Fo.Lies.row h hi

set_option maxHeartbeats 4000000 in
set_option maxRecDepth 100000 in
theorem equalExprs_u (f0 f1 : Fo) (hf' : f0.len ≤ 9223372036854775807 ∧ f0.Fits) (A A' : Option Addr) (C C' : Nat) (w : World) (hl : f0.Lies w A) (hl' : f1.Lies w A') :
    Calls Try.prog 194 #[.slice A f0.len C, .slice A' f1.len C', .func (.func 192) #[] #[]] w fun e w' => e = .returned (.bool (decide (f0 = f1))) ∧ Below w.heap.size w w' := by
  have hm := hf'.1
  by_cases hlen : f0.len = f1.len
  · have HL := Lib.hid hlen
    have tl : ((f0.len : Int) != (f1.len : Int)) = false := by simp [hlen]
    clear hlen
    have HH := Lib.hid hl; have HH' := Lib.hid hl'; have HF := Lib.hid hf'.2
    clear hl hl' hf'
    go_enter Try.func194, Try.ntmps194
    go_wp2_with fail
    go_loopw [17] (fun i wr => ∃ j : Nat, j ≤ f0.len ∧ i = .int .i64 j ∧ Hid ((f0 = f1) = (f0.drop j = f1.drop j)) ∧ Hid (Below w.heap.size w wr)) (fun i _ => f0.len - (intOf i).toNat)
    case atStart => exact ⟨0, Nat.zero_le _, rfl, (by show _ = _; cases f0 <;> cases f1 <;> rfl), Below.refl _ _⟩
    case round =>
      obtain ⟨j, hj, rfl, hq, hw⟩ := hrel
      clear tl
      by_cases hjl : j < f0.len
      · obtain ⟨c, p, rfl, hat⟩ := HH.out (by rintro rfl; simp [Fo.len] at hjl)
        obtain ⟨c', p', rfl, hat'⟩ := HH'.out (by rintro rfl; have := HL.out; simp [Fo.len] at this; omega)
        obtain ⟨k0, n0, kf0, r0, Akf0, Ckf0, e1, e2, c0, c1, c2, hl_kf0⟩ := Fo.Lies.row hat hjl
        obtain ⟨k1, n1, kf1, r1, Akf1, Ckf1, e3, e4, d0, d1, d2, hl_kf1⟩ := Fo.Lies.row hat' (by rw [← HL.out]; exact hjl)
        have hfd := Fo.fits_drop HF.out j
        rw [e1.out] at hfd
        have hq' : Hid ((f0 = f1) = ((k0 = k1 ∧ n0 = n1 ∧ kf0 = kf1) ∧ f0.drop (j + 1) = f1.drop (j + 1))) := by
          show _ = _
          rw [hq.out, e1.out, e3.out, ← e2.out, ← e4.out]
          simp [and_assoc]
        obtain ⟨q, hqe⟩ : ∃ q : Bool, q = decide (k0 = k1 ∧ n0 = n1 ∧ kf0 = kf1) := ⟨_, rfl⟩
        have KC : Hid (∀ W : World, Sees w W → Calls Try.prog 192 #[.agg #[.int .i64 k0, .int .i64 n0, .slice Akf0 kf0.len Ckf0], .agg #[.int .i64 k1, .int .i64 n1, .slice Akf1 kf1.len Ckf1]] W fun e w' => e = .returned (.bool q) ∧ Below W.heap.size W w') := fun W h => by
          rw [hqe]
          exact sameExpr_u k0 n0 kf0 k1 n1 kf1 ⟨hfd.1, hfd.2.1⟩ Akf0 Akf1 Ckf0 Ckf1 W (hl_kf0.sees h) (hl_kf1.sees h)
        have HQ := Lib.hid hqe
        have HAT := Lib.hid hat; have HAT' := Lib.hid hat'
        have hb := hw.out
        have a0 := kc hb c0; have a1 := kc hb c1; have a2 := kc hb c2
        have b0 := kc hb d0; have b1 := kc hb d1; have b2 := kc hb d2
        have hj0 : (0 : Int) ≤ (j : Int) := Int.natCast_nonneg _
        have hj1 : (j : Int) < (f0.len : Int) := by omega
        have hj2 : (j : Int) < (f1.len : Int) := by have := HL.out; omega
        have y0 := ka (.cells #[.int .i64 k0, .int .i64 n0, .slice Akf0 kf0.len Ckf0] 35) b0; have y1 := ka (.cells #[.int .i64 k0, .int .i64 n0, .slice Akf0 kf0.len Ckf0] 35) b1; have y2 := ka (.cells #[.int .i64 k0, .int .i64 n0, .slice Akf0 kf0.len Ckf0] 35) b2
        clear b0 c0 d0 b1 c1 d1 b2 c2 d2 hfd hq hqe hl_kf0 hl_kf1 e1 e2 e3 e4 hat hat'
        go_wp2_with fail
        refine (KC.out _ (((show Sees w wr from hw.out).alloc _).alloc _)).mono ?_
        rintro e w1 ⟨rfl, hb1⟩
        have hw2 : Hid (Below w.heap.size w w1) := Sees.below (((show Sees w wr from hw.out).alloc _).alloc _) hb1
        clear hb1 hb a0 y0 a1 y1 a2 y2 KC
        cases q
        · have hq2 : Hid (decide (f0 = f1) = false) := by
            show _ = _
            refine decide_eq_false (fun h4 => of_decide_eq_false HQ.out.symm ?_)
            rw [hq'.out] at h4
            exact h4.1
          clear HQ hq'
          go_wp2_with fail
          go_ret
          exact ⟨ret_bool hq2.out.symm, hw2.out⟩
        · have hq2 : Hid ((f0 = f1) = (f0.drop (j + 1) = f1.drop (j + 1))) := by
            show _ = _
            rw [hq'.out]
            have h2 := of_decide_eq_true HQ.out.symm
            simp [h2]
          clear HQ hq'
          go_wp2_with fail
          go_roundw
          case rel => exact ⟨j + 1, by omega, by go_num, hq2, hw2⟩
          case measure => simp [intOf]; omega
      · obtain rfl : j = f0.len := by omega
        have hq2 : Hid (decide (f0 = f1) = true) := by
          show _ = _
          have h1 := hq.out
          rw [Fo.drop_len, HL.out, Fo.drop_len] at h1
          exact decide_eq_true (by rw [h1])
        clear hq
        go_wp2_with fail
        go_ret
        exact ⟨ret_bool hq2.out.symm, hw.out⟩
  · have tl : ((f0.len : Int) != (f1.len : Int)) = true := by rw [bne_iff_ne]; omega
    have HD : Hid (decide (f0 = f1) = false) := decide_eq_false (fun h => hlen (by rw [h]))
    clear hlen
    go_enter Try.func194, Try.ntmps194
    go_wp2_with fail
    go_ret
    exact ⟨ret_bool HD.out.symm, Below.refl _ _⟩

set_option maxHeartbeats 4000000 in
set_option maxRecDepth 100000 in
theorem sameStep_any (us0 : Int) (bk0 : Bool) (pa0 : Il) (te0 : Fo) (ac0 : Fo) (us1 : Int) (bk1 : Bool) (pa1 : Il) (te1 : Fo) (ac1 : Fo) (hf_pa0 : pa0.len ≤ 9223372036854775807 ∧ pa0.Fits) (hf_te0 : te0.len ≤ 9223372036854775807 ∧ te0.Fits) (hf_ac0 : ac0.len ≤ 9223372036854775807 ∧ ac0.Fits) (Apa0 Ate0 Aac0 Apa1 Ate1 Aac1 : Option Addr) (Cpa0 Cte0 Cac0 Cpa1 Cte1 Cac1 : Nat) (w : World) (hl_pa0 : pa0.Lies w Apa0) (hl_te0 : te0.Lies w Ate0) (hl_ac0 : ac0.Lies w Aac0) (hl_pa1 : pa1.Lies w Apa1) (hl_te1 : te1.Lies w Ate1) (hl_ac1 : ac1.Lies w Aac1) :
    Calls Try.prog 152 #[.agg #[.int .i64 us0, .bool bk0, .slice Apa0 pa0.len Cpa0, .slice Ate0 te0.len Cte0, .slice Aac0 ac0.len Cac0], .agg #[.int .i64 us1, .bool bk1, .slice Apa1 pa1.len Cpa1, .slice Ate1 te1.len Cte1, .slice Aac1 ac1.len Cac1]] w fun e w' => e = .returned (.bool (decide (us0 = us1 ∧ bk0 = bk1 ∧ pa0 = pa1 ∧ te0 = te1 ∧ ac0 = ac1))) ∧ Below w.heap.size w w' := by
  obtain ⟨q2, hq_q2⟩ : ∃ q : Bool, q = decide (pa0 = pa1) := ⟨_, rfl⟩
  have K2 : Hid (∀ W : World, Sees w W → Calls Try.prog 193 #[.slice Apa0 pa0.len Cpa0, .slice Apa1 pa1.len Cpa1] W fun e w' => e = .returned (.bool q2) ∧ Below W.heap.size W w') := fun W h => by
    rw [hq_q2]
    exact (equalInts_any pa0.l pa1.l hf_pa0.1 Apa0 Apa1 Cpa0 Cpa1 W (IntsL.of (hl_pa0.sees h)) (IntsL.of (hl_pa1.sees h))).mono fun e w' ⟨he, hb⟩ => ⟨by rw [he]; simp only [Il.eq_l], hb⟩
  obtain ⟨q3, hq_q3⟩ : ∃ q : Bool, q = decide (te0 = te1) := ⟨_, rfl⟩
  have K3 : Hid (∀ W : World, Sees w W → Calls Try.prog 194 #[.slice Ate0 te0.len Cte0, .slice Ate1 te1.len Cte1, .func (.func 192) #[] #[]] W fun e w' => e = .returned (.bool q3) ∧ Below W.heap.size W w') := fun W h => by
    rw [hq_q3]
    exact equalExprs_u te0 te1 hf_te0 Ate0 Ate1 Cte0 Cte1 W (hl_te0.sees h) (hl_te1.sees h)
  obtain ⟨q4, hq_q4⟩ : ∃ q : Bool, q = decide (ac0 = ac1) := ⟨_, rfl⟩
  have K4 : Hid (∀ W : World, Sees w W → Calls Try.prog 194 #[.slice Aac0 ac0.len Cac0, .slice Aac1 ac1.len Cac1, .func (.func 192) #[] #[]] W fun e w' => e = .returned (.bool q4) ∧ Below W.heap.size W w') := fun W h => by
    rw [hq_q4]
    exact equalExprs_u ac0 ac1 hf_ac0 Aac0 Aac1 Cac0 Cac1 W (hl_ac0.sees h) (hl_ac1.sees h)
  clear hl_pa0 hl_pa1 hl_te0 hl_te1 hl_ac0 hl_ac1
  have HD : Hid (decide (us0 = us1 ∧ bk0 = bk1 ∧ pa0 = pa1 ∧ te0 = te1 ∧ ac0 = ac1) = (decide (us0 = us1) && (decide (bk0 = bk1) && (q2 && (q3 && q4))))) := by
    show _ = _
    rw [hq_q2, hq_q3, hq_q4, Bool.eq_iff_iff]
    first | (simp; done) | (simp [and_assoc]; done)
  clear hq_q2 hq_q3 hq_q4
  by_cases hk : us0 = us1
  case neg =>
    have tk : (us0 == us1) = false := by rw [beq_eq_false_iff_ne]; exact hk
    have HE : Hid (decide (us0 = us1 ∧ bk0 = bk1 ∧ pa0 = pa1 ∧ te0 = te1 ∧ ac0 = ac1) = false) := by show _ = _; rw [HD.out, decide_eq_false hk]; rfl
    clear hk HD
    go_enter Try.func152, Try.ntmps152
    go_wp2_with fail
    go_ret
    exact ⟨(by first | exact ret_bool HE.out.symm | rfl), by go_grown⟩
  have t_us0 : (us0 == us1) = true := by simp [hk]
  rw [decide_eq_true hk] at HD
  clear hk
  by_cases hk : bk0 = bk1
  case neg =>
    have HE : Hid (decide (us0 = us1 ∧ bk0 = bk1 ∧ pa0 = pa1 ∧ te0 = te1 ∧ ac0 = ac1) = false) := by show _ = _; rw [HD.out, decide_eq_false hk]; rfl
    have hy : bk1 = !bk0 := by revert hk; cases bk0 <;> cases bk1 <;> simp
    clear hk HD
    subst hy
    go_enter Try.func152, Try.ntmps152
    go_wp2_with fail
    go_ret
    exact ⟨(by first | exact ret_bool HE.out.symm | rfl), by go_grown⟩
  rw [decide_eq_true hk] at HD
  subst hk
  cases q2
  case false =>
    have HE : Hid (decide (us0 = us1 ∧ bk0 = bk0 ∧ pa0 = pa1 ∧ te0 = te1 ∧ ac0 = ac1) = false) := by show _ = _; rw [HD.out]; rfl
    clear HD
    go_enter Try.func152, Try.ntmps152
    go_wp2_with fail
    refine (K2.out _ (by unfold Sees; go_grown)).mono ?_
    rintro e y0 ⟨rfl, hb⟩
    have V0 : Hid (Sees w y0) := Sees.below (by unfold Sees; go_grown) hb
    have HB0 : Hid (y0.heap[w.heap.size]? = some (.cells #[.int .i64 us0, .bool bk0, .slice Apa0 pa0.len Cpa0, .slice Ate0 te0.len Cte0, .slice Aac0 ac0.len Cac0] 220 (0, 0))) := (hb.block _ (by simp <;> omega)).trans ((Below.heap_alloc _ _ _ (by simp <;> omega)).trans (heap_new _ _ _ rfl))
    have HB1 : Hid (y0.heap[w.heap.size + 1]? = some (.cells #[.int .i64 us1, .bool bk0, .slice Apa1 pa1.len Cpa1, .slice Ate1 te1.len Cte1, .slice Aac1 ac1.len Cac1] 220 (0, 0))) := (hb.block _ (by simp <;> omega)).trans (heap_new _ _ _ (by simp))
    clear hb
    obtain ⟨c0, c1, c2, c3, c4, _, _, _, _, _⟩ := fc5 HB0.out
    obtain ⟨d0, d1, d2, d3, d4, _, _, _, _, _⟩ := fc5 HB1.out
    go_wp2_with fail
    clear c0 d0 c1 d1 c2 d2 c3 d3 c4 d4
    go_ret
    exact ⟨(by first | exact ret_bool HE.out.symm | rfl), V0.out⟩
  cases q3
  case false =>
    have HE : Hid (decide (us0 = us1 ∧ bk0 = bk0 ∧ pa0 = pa1 ∧ te0 = te1 ∧ ac0 = ac1) = false) := by show _ = _; rw [HD.out]; rfl
    clear HD
    go_enter Try.func152, Try.ntmps152
    go_wp2_with fail
    refine (K2.out _ (by unfold Sees; go_grown)).mono ?_
    rintro e y0 ⟨rfl, hb⟩
    have V0 : Hid (Sees w y0) := Sees.below (by unfold Sees; go_grown) hb
    have HB0 : Hid (y0.heap[w.heap.size]? = some (.cells #[.int .i64 us0, .bool bk0, .slice Apa0 pa0.len Cpa0, .slice Ate0 te0.len Cte0, .slice Aac0 ac0.len Cac0] 220 (0, 0))) := (hb.block _ (by simp <;> omega)).trans ((Below.heap_alloc _ _ _ (by simp <;> omega)).trans (heap_new _ _ _ rfl))
    have HB1 : Hid (y0.heap[w.heap.size + 1]? = some (.cells #[.int .i64 us1, .bool bk0, .slice Apa1 pa1.len Cpa1, .slice Ate1 te1.len Cte1, .slice Aac1 ac1.len Cac1] 220 (0, 0))) := (hb.block _ (by simp <;> omega)).trans (heap_new _ _ _ (by simp))
    clear hb
    obtain ⟨c0, c1, c2, c3, c4, _, _, _, _, _⟩ := fc5 HB0.out
    obtain ⟨d0, d1, d2, d3, d4, _, _, _, _, _⟩ := fc5 HB1.out
    go_wp2_with fail
    clear c0 d0 c1 d1 c2 d2 c3 d3 c4 d4
    refine (K3.out _ V0.out).mono ?_
    rintro e y1 ⟨rfl, hb⟩
    have V1 := Lib.hid (Sees.below V0.out hb)
    have HB0' := Lib.hid ((hb.block _ (Array.getElem?_eq_some_iff.1 HB0.out).1).trans HB0.out)
    have HB1' := Lib.hid ((hb.block _ (Array.getElem?_eq_some_iff.1 HB1.out).1).trans HB1.out)
    clear HB0 HB1
    have HB0 := HB0'; have HB1 := HB1'
    clear HB0' HB1'
    clear hb
    obtain ⟨c0, c1, c2, c3, c4, _, _, _, _, _⟩ := fc5 HB0.out
    obtain ⟨d0, d1, d2, d3, d4, _, _, _, _, _⟩ := fc5 HB1.out
    go_wp2_with fail
    clear c0 d0 c1 d1 c2 d2 c3 d3 c4 d4
    go_ret
    exact ⟨(by first | exact ret_bool HE.out.symm | rfl), V1.out⟩
  cases q4
  case false =>
    have HE : Hid (decide (us0 = us1 ∧ bk0 = bk0 ∧ pa0 = pa1 ∧ te0 = te1 ∧ ac0 = ac1) = false) := by show _ = _; rw [HD.out]; rfl
    clear HD
    go_enter Try.func152, Try.ntmps152
    go_wp2_with fail
    refine (K2.out _ (by unfold Sees; go_grown)).mono ?_
    rintro e y0 ⟨rfl, hb⟩
    have V0 : Hid (Sees w y0) := Sees.below (by unfold Sees; go_grown) hb
    have HB0 : Hid (y0.heap[w.heap.size]? = some (.cells #[.int .i64 us0, .bool bk0, .slice Apa0 pa0.len Cpa0, .slice Ate0 te0.len Cte0, .slice Aac0 ac0.len Cac0] 220 (0, 0))) := (hb.block _ (by simp <;> omega)).trans ((Below.heap_alloc _ _ _ (by simp <;> omega)).trans (heap_new _ _ _ rfl))
    have HB1 : Hid (y0.heap[w.heap.size + 1]? = some (.cells #[.int .i64 us1, .bool bk0, .slice Apa1 pa1.len Cpa1, .slice Ate1 te1.len Cte1, .slice Aac1 ac1.len Cac1] 220 (0, 0))) := (hb.block _ (by simp <;> omega)).trans (heap_new _ _ _ (by simp))
    clear hb
    obtain ⟨c0, c1, c2, c3, c4, _, _, _, _, _⟩ := fc5 HB0.out
    obtain ⟨d0, d1, d2, d3, d4, _, _, _, _, _⟩ := fc5 HB1.out
    go_wp2_with fail
    clear c0 d0 c1 d1 c2 d2 c3 d3 c4 d4
    refine (K3.out _ V0.out).mono ?_
    rintro e y1 ⟨rfl, hb⟩
    have V1 := Lib.hid (Sees.below V0.out hb)
    have HB0' := Lib.hid ((hb.block _ (Array.getElem?_eq_some_iff.1 HB0.out).1).trans HB0.out)
    have HB1' := Lib.hid ((hb.block _ (Array.getElem?_eq_some_iff.1 HB1.out).1).trans HB1.out)
    clear HB0 HB1
    have HB0 := HB0'; have HB1 := HB1'
    clear HB0' HB1'
    clear hb
    obtain ⟨c0, c1, c2, c3, c4, _, _, _, _, _⟩ := fc5 HB0.out
    obtain ⟨d0, d1, d2, d3, d4, _, _, _, _, _⟩ := fc5 HB1.out
    go_wp2_with fail
    clear c0 d0 c1 d1 c2 d2 c3 d3 c4 d4
    refine (K4.out _ V1.out).mono ?_
    rintro e y2 ⟨rfl, hb⟩
    have V2 := Lib.hid (Sees.below V1.out hb)
    have HB0' := Lib.hid ((hb.block _ (Array.getElem?_eq_some_iff.1 HB0.out).1).trans HB0.out)
    have HB1' := Lib.hid ((hb.block _ (Array.getElem?_eq_some_iff.1 HB1.out).1).trans HB1.out)
    clear HB0 HB1
    have HB0 := HB0'; have HB1 := HB1'
    clear HB0' HB1'
    clear hb
    obtain ⟨c0, c1, c2, c3, c4, _, _, _, _, _⟩ := fc5 HB0.out
    obtain ⟨d0, d1, d2, d3, d4, _, _, _, _, _⟩ := fc5 HB1.out
    go_wp2_with fail
    clear c0 d0 c1 d1 c2 d2 c3 d3 c4 d4
    go_ret
    exact ⟨(by first | exact ret_bool HE.out.symm | rfl), V2.out⟩
  have HE : Hid (decide (us0 = us1 ∧ bk0 = bk0 ∧ pa0 = pa1 ∧ te0 = te1 ∧ ac0 = ac1) = true) := by show _ = _; rw [HD.out]; rfl
  clear HD
  go_enter Try.func152, Try.ntmps152
  go_wp2_with fail
  refine (K2.out _ (by unfold Sees; go_grown)).mono ?_
  rintro e y0 ⟨rfl, hb⟩
  have V0 : Hid (Sees w y0) := Sees.below (by unfold Sees; go_grown) hb
  have HB0 : Hid (y0.heap[w.heap.size]? = some (.cells #[.int .i64 us0, .bool bk0, .slice Apa0 pa0.len Cpa0, .slice Ate0 te0.len Cte0, .slice Aac0 ac0.len Cac0] 220 (0, 0))) := (hb.block _ (by simp <;> omega)).trans ((Below.heap_alloc _ _ _ (by simp <;> omega)).trans (heap_new _ _ _ rfl))
  have HB1 : Hid (y0.heap[w.heap.size + 1]? = some (.cells #[.int .i64 us1, .bool bk0, .slice Apa1 pa1.len Cpa1, .slice Ate1 te1.len Cte1, .slice Aac1 ac1.len Cac1] 220 (0, 0))) := (hb.block _ (by simp <;> omega)).trans (heap_new _ _ _ (by simp))
  clear hb
  obtain ⟨c0, c1, c2, c3, c4, _, _, _, _, _⟩ := fc5 HB0.out
  obtain ⟨d0, d1, d2, d3, d4, _, _, _, _, _⟩ := fc5 HB1.out
  go_wp2_with fail
  clear c0 d0 c1 d1 c2 d2 c3 d3 c4 d4
  refine (K3.out _ V0.out).mono ?_
  rintro e y1 ⟨rfl, hb⟩
  have V1 := Lib.hid (Sees.below V0.out hb)
  have HB0' := Lib.hid ((hb.block _ (Array.getElem?_eq_some_iff.1 HB0.out).1).trans HB0.out)
  have HB1' := Lib.hid ((hb.block _ (Array.getElem?_eq_some_iff.1 HB1.out).1).trans HB1.out)
  clear HB0 HB1
  have HB0 := HB0'; have HB1 := HB1'
  clear HB0' HB1'
  clear hb
  obtain ⟨c0, c1, c2, c3, c4, _, _, _, _, _⟩ := fc5 HB0.out
  obtain ⟨d0, d1, d2, d3, d4, _, _, _, _, _⟩ := fc5 HB1.out
  go_wp2_with fail
  clear c0 d0 c1 d1 c2 d2 c3 d3 c4 d4
  refine (K4.out _ V1.out).mono ?_
  rintro e y2 ⟨rfl, hb⟩
  have V2 := Lib.hid (Sees.below V1.out hb)
  have HB0' := Lib.hid ((hb.block _ (Array.getElem?_eq_some_iff.1 HB0.out).1).trans HB0.out)
  have HB1' := Lib.hid ((hb.block _ (Array.getElem?_eq_some_iff.1 HB1.out).1).trans HB1.out)
  clear HB0 HB1
  have HB0 := HB0'; have HB1 := HB1'
  clear HB0' HB1'
  clear hb
  obtain ⟨c0, c1, c2, c3, c4, _, _, _, _, _⟩ := fc5 HB0.out
  obtain ⟨d0, d1, d2, d3, d4, _, _, _, _, _⟩ := fc5 HB1.out
  go_wp2_with fail
  clear c0 d0 c1 d1 c2 d2 c3 d3 c4 d4
  go_ret
  exact ⟨(by first | exact ret_bool HE.out.symm | rfl), V2.out⟩

set_option maxHeartbeats 4000000 in
set_option maxRecDepth 100000 in
theorem equalSteps_u (f0 f1 : Ps) (hf' : f0.len ≤ 9223372036854775807 ∧ f0.Fits) (A A' : Option Addr) (C C' : Nat) (w : World) (hl : f0.Lies w A) (hl' : f1.Lies w A') :
    Calls Try.prog 151 #[.slice A f0.len C, .slice A' f1.len C', .func (.func 152) #[] #[]] w fun e w' => e = .returned (.bool (decide (f0 = f1))) ∧ Below w.heap.size w w' := by
  have hm := hf'.1
  by_cases hlen : f0.len = f1.len
  · have HL := Lib.hid hlen
    have tl : ((f0.len : Int) != (f1.len : Int)) = false := by simp [hlen]
    clear hlen
    have HH := Lib.hid hl; have HH' := Lib.hid hl'; have HF := Lib.hid hf'.2
    clear hl hl' hf'
    go_enter Try.func151, Try.ntmps151
    go_wp2_with fail
    go_loopw [17] (fun i wr => ∃ j : Nat, j ≤ f0.len ∧ i = .int .i64 j ∧ Hid ((f0 = f1) = (f0.drop j = f1.drop j)) ∧ Hid (Below w.heap.size w wr)) (fun i _ => f0.len - (intOf i).toNat)
    case atStart => exact ⟨0, Nat.zero_le _, rfl, (by show _ = _; cases f0 <;> cases f1 <;> rfl), Below.refl _ _⟩
    case round =>
      obtain ⟨j, hj, rfl, hq, hw⟩ := hrel
      clear tl
      by_cases hjl : j < f0.len
      · obtain ⟨c, p, rfl, hat⟩ := HH.out (by rintro rfl; simp [Ps.len] at hjl)
        obtain ⟨c', p', rfl, hat'⟩ := HH'.out (by rintro rfl; have := HL.out; simp [Ps.len] at this; omega)
        obtain ⟨us0, bk0, pa0, te0, ac0, r0, Apa0, Cpa0, Ate0, Cte0, Aac0, Cac0, e1, e2, c0, c1, c2, hl_pa0, c3, hl_te0, c4, hl_ac0⟩ := Ps.Lies.row hat hjl
        obtain ⟨us1, bk1, pa1, te1, ac1, r1, Apa1, Cpa1, Ate1, Cte1, Aac1, Cac1, e3, e4, d0, d1, d2, hl_pa1, d3, hl_te1, d4, hl_ac1⟩ := Ps.Lies.row hat' (by rw [← HL.out]; exact hjl)
        have hfd := Ps.fits_drop HF.out j
        rw [e1.out] at hfd
        have hq' : Hid ((f0 = f1) = ((us0 = us1 ∧ bk0 = bk1 ∧ pa0 = pa1 ∧ te0 = te1 ∧ ac0 = ac1) ∧ f0.drop (j + 1) = f1.drop (j + 1))) := by
          show _ = _
          rw [hq.out, e1.out, e3.out, ← e2.out, ← e4.out]
          simp [and_assoc]
        obtain ⟨q, hqe⟩ : ∃ q : Bool, q = decide (us0 = us1 ∧ bk0 = bk1 ∧ pa0 = pa1 ∧ te0 = te1 ∧ ac0 = ac1) := ⟨_, rfl⟩
        have KC : Hid (∀ W : World, Sees w W → Calls Try.prog 152 #[.agg #[.int .i64 us0, .bool bk0, .slice Apa0 pa0.len Cpa0, .slice Ate0 te0.len Cte0, .slice Aac0 ac0.len Cac0], .agg #[.int .i64 us1, .bool bk1, .slice Apa1 pa1.len Cpa1, .slice Ate1 te1.len Cte1, .slice Aac1 ac1.len Cac1]] W fun e w' => e = .returned (.bool q) ∧ Below W.heap.size W w') := fun W h => by
          rw [hqe]
          exact sameStep_any us0 bk0 pa0 te0 ac0 us1 bk1 pa1 te1 ac1 (hfd.1) (hfd.2.1) (hfd.2.2.1) Apa0 Ate0 Aac0 Apa1 Ate1 Aac1 Cpa0 Cte0 Cac0 Cpa1 Cte1 Cac1 W (hl_pa0.sees h) (hl_te0.sees h) (hl_ac0.sees h) (hl_pa1.sees h) (hl_te1.sees h) (hl_ac1.sees h)
        have HQ := Lib.hid hqe
        have HAT := Lib.hid hat; have HAT' := Lib.hid hat'
        have hb := hw.out
        have a0 := kc hb c0; have a1 := kc hb c1; have a2 := kc hb c2; have a3 := kc hb c3; have a4 := kc hb c4
        have b0 := kc hb d0; have b1 := kc hb d1; have b2 := kc hb d2; have b3 := kc hb d3; have b4 := kc hb d4
        have hj0 : (0 : Int) ≤ (j : Int) := Int.natCast_nonneg _
        have hj1 : (j : Int) < (f0.len : Int) := by omega
        have hj2 : (j : Int) < (f1.len : Int) := by have := HL.out; omega
        have y0 := ka (.cells #[.int .i64 us0, .bool bk0, .slice Apa0 pa0.len Cpa0, .slice Ate0 te0.len Cte0, .slice Aac0 ac0.len Cac0] 220) b0; have y1 := ka (.cells #[.int .i64 us0, .bool bk0, .slice Apa0 pa0.len Cpa0, .slice Ate0 te0.len Cte0, .slice Aac0 ac0.len Cac0] 220) b1; have y2 := ka (.cells #[.int .i64 us0, .bool bk0, .slice Apa0 pa0.len Cpa0, .slice Ate0 te0.len Cte0, .slice Aac0 ac0.len Cac0] 220) b2; have y3 := ka (.cells #[.int .i64 us0, .bool bk0, .slice Apa0 pa0.len Cpa0, .slice Ate0 te0.len Cte0, .slice Aac0 ac0.len Cac0] 220) b3; have y4 := ka (.cells #[.int .i64 us0, .bool bk0, .slice Apa0 pa0.len Cpa0, .slice Ate0 te0.len Cte0, .slice Aac0 ac0.len Cac0] 220) b4
        clear b0 c0 d0 b1 c1 d1 b2 c2 d2 b3 c3 d3 b4 c4 d4 hfd hq hqe hl_pa0 hl_pa1 hl_te0 hl_te1 hl_ac0 hl_ac1 e1 e2 e3 e4 hat hat'
        go_wp2_with fail
        refine (KC.out _ (((show Sees w wr from hw.out).alloc _).alloc _)).mono ?_
        rintro e w1 ⟨rfl, hb1⟩
        have hw2 : Hid (Below w.heap.size w w1) := Sees.below (((show Sees w wr from hw.out).alloc _).alloc _) hb1
        clear hb1 hb a0 y0 a1 y1 a2 y2 a3 y3 a4 y4 KC
        cases q
        · have hq2 : Hid (decide (f0 = f1) = false) := by
            show _ = _
            refine decide_eq_false (fun h4 => of_decide_eq_false HQ.out.symm ?_)
            rw [hq'.out] at h4
            exact h4.1
          clear HQ hq'
          go_wp2_with fail
          go_ret
          exact ⟨ret_bool hq2.out.symm, hw2.out⟩
        · have hq2 : Hid ((f0 = f1) = (f0.drop (j + 1) = f1.drop (j + 1))) := by
            show _ = _
            rw [hq'.out]
            have h2 := of_decide_eq_true HQ.out.symm
            simp [h2]
          clear HQ hq'
          go_wp2_with fail
          go_roundw
          case rel => exact ⟨j + 1, by omega, by go_num, hq2, hw2⟩
          case measure => simp [intOf]; omega
      · obtain rfl : j = f0.len := by omega
        have hq2 : Hid (decide (f0 = f1) = true) := by
          show _ = _
          have h1 := hq.out
          rw [Ps.drop_len, HL.out, Ps.drop_len] at h1
          exact decide_eq_true (by rw [h1])
        clear hq
        go_wp2_with fail
        go_ret
        exact ⟨ret_bool hq2.out.symm, hw.out⟩
  · have tl : ((f0.len : Int) != (f1.len : Int)) = true := by rw [bne_iff_ne]; omega
    have HD : Hid (decide (f0 = f1) = false) := decide_eq_false (fun h => hlen (by rw [h]))
    clear hlen
    go_enter Try.func151, Try.ntmps151
    go_wp2_with fail
    go_ret
    exact ⟨ret_bool HD.out.symm, Below.refl _ _⟩

end Go.Proofs.YtlpgkhdecccmlaaR
