/- The law FnExactJoinModels, walked, out of the contracts of both sides. -/
import Derived.Test.YtcgbepmhfimbjaaGenM
import Derived.Deep.RegionHeld3
import Derived.Deep.DrawnRows
import Derived.Deep.DeepCutAuto
namespace Go.Proofs.Ytcgbepmhfimbjaa
open Go.RowKit
attribute [local go_sem ↓] Go.wp_at_zero Go.wp_at_succ

set_option maxHeartbeats 40000000 in
set_option maxRecDepth 100000 in
theorem lawJoinModels (t0 a0 u0 : Int) (ac0 : List (List Bool)) (nx0 : List (List (List Bool))) (A0 B0 : Option Addr) (C0 D0 : Nat) (t1 a1 u1 : Int) (ac1 : List (List Bool)) (nx1 : List (List (List Bool))) (A1 B1 : Option Addr) (C1 D1 : Nat) {tR aR uR : Int} {acR : List (List Bool)} {nxR : List (List (List Bool))} {q : Int}
    (HU : Hid ((modN ac0 nx0) + (modN ac1 nx1) ≤ 1048576 → modN acR nxR ≤ 1048576))
    (KW : Hid ((modN ac0 nx0) + (modN ac1 nx1) ≤ 1048576 → ∀ (W : World) (Z0 Y0 : Option Addr) (Z1 Y1 : Option Addr), BB 0 W ac0 Z0 → BBB 0 W nx0 Y0 → BB 0 W ac1 Z1 → BBB 0 W nx1 Y1 → Calls Try.prog 11 #[.agg #[.int .i64 t0, .int .i64 a0, .int .i64 u0, .slice Z0 ac0.length ac0.length, .slice Y0 nx0.length nx0.length], .agg #[.int .i64 t1, .int .i64 a1, .int .i64 u1, .slice Z1 ac1.length ac1.length, .slice Y1 nx1.length nx1.length]] W (MEnd tR aR uR acR nxR q W)))
    (KG : Hid ((modN ac0 nx0) + (modN ac1 nx1) ≤ 1048576 → ∀ (W : World) (Z0 Y0 : Option Addr) (Z1 Y1 : Option Addr), BB 0 W ac0 Z0 → BBB 0 W nx0 Y0 → BB 0 W ac1 Z1 → BBB 0 W nx1 Y1 → Calls Try.prog 13 #[.agg #[.int .i64 t0, .int .i64 a0, .int .i64 u0, .slice Z0 ac0.length ac0.length, .slice Y0 nx0.length nx0.length], .agg #[.int .i64 t1, .int .i64 a1, .int .i64 u1, .slice Z1 ac1.length ac1.length, .slice Y1 nx1.length nx1.length]] W (MEnd tR aR uR acR nxR q W)))
    (w : World) (hm0 : Hid (FitM ac0 nx0)) (hl0 : BB 0 w ac0 A0) (hr0 : BBB 0 w nx0 B0) (hm1 : Hid (FitM ac1 nx1)) (hl1 : BB 0 w ac1 A1) (hr1 : BBB 0 w nx1 B1) :
    Calls Try.prog 3 #[.agg #[.int .i64 t0, .int .i64 a0, .int .i64 u0, .slice A0 ac0.length C0, .slice B0 nx0.length D0], .agg #[.int .i64 t1, .int .i64 a1, .int .i64 u1, .slice A1 ac1.length C1, .slice B1 nx1.length D1]] w fun e w' => e = .returned (.bool true) ∧ Below w.heap.size w w' := by
  by_cases hbig0 : 1048576 < ((modN ac0 nx0) : Nat)
  · have hs : szR (modN ac0 nx0) 1048576 = -1 := szR_neg (by omega)
    have KS0 : Hid (∀ W : World, Sees w W → Calls Try.prog 10 #[.agg #[.int .i64 t0, .int .i64 a0, .int .i64 u0, .slice A0 ac0.length C0, .slice B0 nx0.length D0], .int .i64 1048576] W fun e w' => e = .returned (.int .i64 (-1)) ∧ Below W.heap.size W w') := fun W h => by rw [← hs]; exact szModel_any t0 a0 u0 ac0 nx0 hm0.out 1048576 A0 B0 C0 D0 W (hl0.sees h) (hr0.sees h) (by omega) (by omega)
    clear hs
    go_enter Try.func3, Try.ntmps3
    go_wp2_with fail
    refine (KS0.out _ ?_).mono ?_
    · unfold Sees; go_grown
    rintro e wz0 ⟨rfl, hb⟩
    have T := St.below (w := w) (l := [(w.heap.size, 0, .int .i64 t0), (w.heap.size, 1, .int .i64 a0), (w.heap.size, 2, .int .i64 u0), (w.heap.size, 3, .slice A0 ac0.length C0), (w.heap.size, 4, .slice B0 nx0.length D0), (w.heap.size + 1, 0, .int .i64 t1), (w.heap.size + 1, 1, .int .i64 a1), (w.heap.size + 1, 2, .int .i64 u1), (w.heap.size + 1, 3, .slice A1 ac1.length C1), (w.heap.size + 1, 4, .slice B1 nx1.length D1)]) ⟨(by unfold Sees; go_grown), (by simp [go_sem]), (by simp [go_sem]), (by simp [go_sem]), (by simp [go_sem]), (by simp [go_sem]), (by simp [go_sem]), (by simp [go_sem]), (by simp [go_sem]), (by simp [go_sem]), (by simp [go_sem]), trivial⟩ hb
    have H := Lib.hid T; clear T hb
    obtain ⟨x0, x1, x2, x3, x4, x5, x6, x7, x8, x9, x10, _⟩ := H.out
    go_wp2_with fail
    clear x0 x1 x2 x3 x4 x5 x6 x7 x8 x9 x10
    go_ret
    exact ⟨rfl, H.out.1⟩
  obtain ⟨s0, hs, hz0, hy0, he0⟩ : ∃ s : Int, s = szR (modN ac0 nx0) 1048576 ∧ 0 ≤ s ∧ s ≤ 1048576 ∧ Hid (s = 1048576 - ((modN ac0 nx0) : Nat)) := ⟨_, rfl, by rw [szR_pos (by omega)]; omega, by rw [szR_pos (by omega)]; omega, by show _ = _; rw [szR_pos (by omega)]; try omega⟩
  have KS0 : Hid (∀ W : World, Sees w W → Calls Try.prog 10 #[.agg #[.int .i64 t0, .int .i64 a0, .int .i64 u0, .slice A0 ac0.length C0, .slice B0 nx0.length D0], .int .i64 1048576] W fun e w' => e = .returned (.int .i64 s0) ∧ Below W.heap.size W w') := fun W h => by rw [hs]; exact szModel_any t0 a0 u0 ac0 nx0 hm0.out 1048576 A0 B0 C0 D0 W (hl0.sees h) (hr0.sees h) (by omega) (by omega)
  clear hs
  by_cases hbig1 : s0 < (((modN ac1 nx1) : Nat) : Int)
  · have hs : szR (modN ac1 nx1) s0 = -1 := szR_neg (by omega)
    have KS1 : Hid (∀ W : World, Sees w W → Calls Try.prog 10 #[.agg #[.int .i64 t1, .int .i64 a1, .int .i64 u1, .slice A1 ac1.length C1, .slice B1 nx1.length D1], .int .i64 s0] W fun e w' => e = .returned (.int .i64 (-1)) ∧ Below W.heap.size W w') := fun W h => by rw [← hs]; exact szModel_any t1 a1 u1 ac1 nx1 hm1.out s0 A1 B1 C1 D1 W (hl1.sees h) (hr1.sees h) (by omega) (by omega)
    clear hs
    go_enter Try.func3, Try.ntmps3
    go_wp2_with fail
    refine (KS0.out _ ?_).mono ?_
    · unfold Sees; go_grown
    rintro e wz0 ⟨rfl, hb⟩
    have T := St.below (w := w) (l := [(w.heap.size, 0, .int .i64 t0), (w.heap.size, 1, .int .i64 a0), (w.heap.size, 2, .int .i64 u0), (w.heap.size, 3, .slice A0 ac0.length C0), (w.heap.size, 4, .slice B0 nx0.length D0), (w.heap.size + 1, 0, .int .i64 t1), (w.heap.size + 1, 1, .int .i64 a1), (w.heap.size + 1, 2, .int .i64 u1), (w.heap.size + 1, 3, .slice A1 ac1.length C1), (w.heap.size + 1, 4, .slice B1 nx1.length D1)]) ⟨(by unfold Sees; go_grown), (by simp [go_sem]), (by simp [go_sem]), (by simp [go_sem]), (by simp [go_sem]), (by simp [go_sem]), (by simp [go_sem]), (by simp [go_sem]), (by simp [go_sem]), (by simp [go_sem]), (by simp [go_sem]), trivial⟩ hb
    have H := Lib.hid T; clear T hb
    obtain ⟨x0, x1, x2, x3, x4, x5, x6, x7, x8, x9, x10, _⟩ := H.out
    go_wp2_with fail
    clear x0 x1 x2 x3 x4 x5 x6 x7 x8 x9 x10
    refine (KS1.out _ ?_).mono ?_
    · exact H.out.1
    rintro e wz1 ⟨rfl, hb⟩
    have T := H.out.below hb
    clear H
    have H := Lib.hid T; clear T hb
    obtain ⟨x0, x1, x2, x3, x4, x5, x6, x7, x8, x9, x10, _⟩ := H.out
    go_wp2_with fail
    clear x0 x1 x2 x3 x4 x5 x6 x7 x8 x9 x10
    go_ret
    exact ⟨rfl, H.out.1⟩
  obtain ⟨s1, hs, hz1, hy1, he1⟩ : ∃ s : Int, s = szR (modN ac1 nx1) s0 ∧ 0 ≤ s ∧ s ≤ 1048576 ∧ Hid (s = s0 - ((modN ac1 nx1) : Nat)) := ⟨_, rfl, by rw [szR_pos (by omega)]; omega, by rw [szR_pos (by omega)]; omega, by show _ = _; rw [szR_pos (by omega)]; try omega⟩
  have KS1 : Hid (∀ W : World, Sees w W → Calls Try.prog 10 #[.agg #[.int .i64 t1, .int .i64 a1, .int .i64 u1, .slice A1 ac1.length C1, .slice B1 nx1.length D1], .int .i64 s0] W fun e w' => e = .returned (.int .i64 s1) ∧ Below W.heap.size W w') := fun W h => by rw [hs]; exact szModel_any t1 a1 u1 ac1 nx1 hm1.out s0 A1 B1 C1 D1 W (hl1.sees h) (hr1.sees h) (by omega) (by omega)
  clear hs
  have hsmall : (modN ac0 nx0) + (modN ac1 nx1) ≤ 1048576 := by have := he0.out; have := he1.out; omega
  have hu : Hid (modN acR nxR ≤ 1048576) := HU.out hsmall
  clear HU
  have KT0 : Hid (∀ W : World, Sees w W → Calls Try.prog 12 #[.agg #[.int .i64 t0, .int .i64 a0, .int .i64 u0, .slice A0 ac0.length C0, .slice B0 nx0.length D0]] W fun e w' => ∃ Z Y, e = .returned (.agg #[.int .i64 t0, .int .i64 a0, .int .i64 u0, .slice Z ac0.length ac0.length, .slice Y nx0.length nx0.length]) ∧ ModF w' ac0 nx0 W.heap.size w'.heap.size Z Y ∧ Below W.heap.size W w') :=
    fun W h => toModelF t0 a0 u0 ac0 nx0 (modN_small (by omega)) A0 B0 C0 D0 W (hl0.sees h) (hr0.sees h)
  have KE0 : Hid (∀ (W : World) (Z Y Z' Y' : Option Addr), BB 0 W ac0 Z → BBB 0 W nx0 Y → BB 0 W ac0 Z' → BBB 0 W nx0 Y' → Calls Try.prog 14 #[.agg #[.int .i64 t0, .int .i64 a0, .int .i64 u0, .slice Z ac0.length ac0.length, .slice Y nx0.length nx0.length], .agg #[.int .i64 t0, .int .i64 a0, .int .i64 u0, .slice Z' ac0.length ac0.length, .slice Y' nx0.length nx0.length]] W fun e w' => e = .returned (.bool true) ∧ Below W.heap.size W w') :=
    fun W Z Y Z' Y' h1 h2 h3 h4 => eqModel_same t0 a0 u0 ac0 nx0 hm0.out _ _ _ _ _ _ _ _ W h1 h2 h3 h4
  have KT1 : Hid (∀ W : World, Sees w W → Calls Try.prog 12 #[.agg #[.int .i64 t1, .int .i64 a1, .int .i64 u1, .slice A1 ac1.length C1, .slice B1 nx1.length D1]] W fun e w' => ∃ Z Y, e = .returned (.agg #[.int .i64 t1, .int .i64 a1, .int .i64 u1, .slice Z ac1.length ac1.length, .slice Y nx1.length nx1.length]) ∧ ModF w' ac1 nx1 W.heap.size w'.heap.size Z Y ∧ Below W.heap.size W w') :=
    fun W h => toModelF t1 a1 u1 ac1 nx1 (modN_small (by omega)) A1 B1 C1 D1 W (hl1.sees h) (hr1.sees h)
  have KE1 : Hid (∀ (W : World) (Z Y Z' Y' : Option Addr), BB 0 W ac1 Z → BBB 0 W nx1 Y → BB 0 W ac1 Z' → BBB 0 W nx1 Y' → Calls Try.prog 14 #[.agg #[.int .i64 t1, .int .i64 a1, .int .i64 u1, .slice Z ac1.length ac1.length, .slice Y nx1.length nx1.length], .agg #[.int .i64 t1, .int .i64 a1, .int .i64 u1, .slice Z' ac1.length ac1.length, .slice Y' nx1.length nx1.length]] W fun e w' => e = .returned (.bool true) ∧ Below W.heap.size W w') :=
    fun W Z Y Z' Y' h1 h2 h3 h4 => eqModel_same t1 a1 u1 ac1 nx1 hm1.out _ _ _ _ _ _ _ _ W h1 h2 h3 h4
  have zl0 : szL List.length ac0 + szL (szL List.length) nx0 ≤ 1048576 := modZ_le (by omega)
  obtain ⟨y0, hk, kl0, ku0, kn0⟩ : ∃ y : Int, y = 1 + ((szL List.length ac0 : Nat) : Int) + (szL (szL List.length) nx0 : Nat) ∧ 0 ≤ y ∧ y ≤ 4194304 ∧ Hid (y = 1 + ((szL List.length ac0 : Nat) : Int) + (szL (szL List.length) nx0 : Nat)) := ⟨_, rfl, by omega, by omega, rfl⟩
  have KM0 : Hid (∀ (W : World) (lo hi : Nat) (Z Y : Option Addr) (C D : Nat), ModF W ac0 nx0 lo hi Z Y → hi ≤ W.heap.size → Calls Try.prog 15 #[.agg #[.int .i64 t0, .int .i64 a0, .int .i64 u0, .slice Z ac0.length C, .slice Y nx0.length D], .int .i64 1] W fun e w' => e = .returned (.int .i64 y0) ∧ ButIn lo hi W w') :=
    fun W lo hi Z Y C D h hz => (markModelF t0 a0 u0 ac0 nx0 (modN_small (by omega)) 1 (by omega) (by omega) lo hi Z Y C D W h hz).mono fun e w' ⟨he, _, hb⟩ => ⟨by rw [hk]; exact he, hb⟩
  clear hk
  have zl1 : szL List.length ac1 + szL (szL List.length) nx1 ≤ 1048576 := modZ_le (by omega)
  obtain ⟨y1, hk, kl1, ku1, kn1⟩ : ∃ y : Int, y = y0 + ((szL List.length ac1 : Nat) : Int) + (szL (szL List.length) nx1 : Nat) ∧ 0 ≤ y ∧ y ≤ 4194304 ∧ Hid (y = y0 + ((szL List.length ac1 : Nat) : Int) + (szL (szL List.length) nx1 : Nat)) := ⟨_, rfl, by omega, by have := kn0.out; omega, rfl⟩
  have KM1 : Hid (∀ (W : World) (lo hi : Nat) (Z Y : Option Addr) (C D : Nat), ModF W ac1 nx1 lo hi Z Y → hi ≤ W.heap.size → Calls Try.prog 15 #[.agg #[.int .i64 t1, .int .i64 a1, .int .i64 u1, .slice Z ac1.length C, .slice Y nx1.length D], .int .i64 y0] W fun e w' => e = .returned (.int .i64 y1) ∧ ButIn lo hi W w') :=
    fun W lo hi Z Y C D h hz => (markModelF t1 a1 u1 ac1 nx1 (modN_small (by omega)) y0 (by omega) (by omega) lo hi Z Y C D W h hz).mono fun e w' ⟨he, _, hb⟩ => ⟨by rw [hk]; exact he, hb⟩
  clear hk
  have tk : decide (y1 < 0) = false := decide_eq_false (by omega)
  have hsr := modN_small hu.out; have hzr := modZ_le hu.out; have hfit := fitM_small hsr
  obtain ⟨mm, hmm, ml⟩ : ∃ m : Int, m = 1 + (szL List.length acR : Nat) + (szL (szL List.length) nxR : Nat) ∧ 0 ≤ m := ⟨_, rfl, by omega⟩
  have KU : Hid (∀ (W : World) (lo hi : Nat) (Z Y : Option Addr) (C D : Nat), ModF W acR nxR lo hi Z Y → hi ≤ W.heap.size → Calls Try.prog 15 #[.agg #[.int .i64 tR, .int .i64 aR, .int .i64 uR, .slice Z acR.length C, .slice Y nxR.length D], .int .i64 1] W fun e w' => e = .returned (.int .i64 mm) ∧ ModF w' (mkL (mkE mb) List.length 1 acR) (mkL (mkL (mkE mb) List.length) (szL List.length) (1 + (szL List.length acR : Nat)) nxR) lo hi Z Y ∧ ButIn lo hi W w') :=
    fun W lo hi Z Y C D h hz => (markModelF tR aR uR acR nxR hsr 1 (by omega) (by omega) lo hi Z Y C D W h hz).mono fun e w' ⟨he, hi, hb⟩ => ⟨by rw [hmm]; exact he, hi, hb⟩
  have KH : Hid (∀ (W : World) (Z Y : Option Addr) (C D : Nat), BB 0 W (mkL (mkE mb) List.length 1 acR) Z → BBB 0 W (mkL (mkL (mkE mb) List.length) (szL List.length) (1 + (szL List.length acR : Nat)) nxR) Y → Calls Try.prog 16 #[.agg #[.int .i64 tR, .int .i64 aR, .int .i64 uR, .slice Z acR.length C, .slice Y nxR.length D], .int .i64 1] W fun e w' => e = .returned (.int .i64 mm) ∧ Below W.heap.size W w') :=
    fun W Z Y C D h1 h2 => (heldModelF tR aR uR acR nxR hsr 1 (by omega) (by omega) Z Y C D W h1 h2).mono fun e w' ⟨he, hb⟩ => ⟨by rw [hmm]; exact he, hb⟩
  have KQ : Hid (∀ (W : World) (Z Y Z' Y' : Option Addr) (C D C' D' : Nat), BB 0 W acR Z → BBB 0 W nxR Y → BB 0 W acR Z' → BBB 0 W nxR Y' → Calls Try.prog 14 #[.agg #[.int .i64 tR, .int .i64 aR, .int .i64 uR, .slice Z acR.length C, .slice Y nxR.length D], .agg #[.int .i64 tR, .int .i64 aR, .int .i64 uR, .slice Z' acR.length C', .slice Y' nxR.length D']] W fun e w' => e = .returned (.bool true) ∧ Below W.heap.size W w') :=
    fun W Z Y Z' Y' C D C' D' h1 h2 h3 h4 => eqModel_same tR aR uR acR nxR hfit _ _ _ _ _ _ _ _ W h1 h2 h3 h4
  have tm : decide (mm < 0) = false := decide_eq_false (by omega)
  have nq : (q != q) = false := by simp
  have nm : (mm != mm) = false := by simp
  have KW2 := Lib.hid (KW.out hsmall); clear KW
  have KG2 := Lib.hid (KG.out hsmall); clear KG hsmall hmm hfit hsr hzr zl0 zl1
  go_enter Try.func3, Try.ntmps3
  go_wp2_with fail
  refine (KS0.out _ ?_).mono ?_
  · unfold Sees; go_grown
  rintro e wz0 ⟨rfl, hb⟩
  have T := St.below (w := w) (l := [(w.heap.size, 0, .int .i64 t0), (w.heap.size, 1, .int .i64 a0), (w.heap.size, 2, .int .i64 u0), (w.heap.size, 3, .slice A0 ac0.length C0), (w.heap.size, 4, .slice B0 nx0.length D0), (w.heap.size + 1, 0, .int .i64 t1), (w.heap.size + 1, 1, .int .i64 a1), (w.heap.size + 1, 2, .int .i64 u1), (w.heap.size + 1, 3, .slice A1 ac1.length C1), (w.heap.size + 1, 4, .slice B1 nx1.length D1)]) ⟨(by unfold Sees; go_grown), (by simp [go_sem]), (by simp [go_sem]), (by simp [go_sem]), (by simp [go_sem]), (by simp [go_sem]), (by simp [go_sem]), (by simp [go_sem]), (by simp [go_sem]), (by simp [go_sem]), (by simp [go_sem]), trivial⟩ hb
  have H := Lib.hid T; clear T hb
  obtain ⟨x0, x1, x2, x3, x4, x5, x6, x7, x8, x9, x10, _⟩ := H.out
  go_wp2_with fail
  clear x0 x1 x2 x3 x4 x5 x6 x7 x8 x9 x10
  refine (KS1.out _ ?_).mono ?_
  · exact H.out.1
  rintro e wz1 ⟨rfl, hb⟩
  have T := H.out.below hb
  clear H
  have H := Lib.hid T; clear T hb
  obtain ⟨x0, x1, x2, x3, x4, x5, x6, x7, x8, x9, x10, _⟩ := H.out
  go_wp2_with fail
  clear x0 x1 x2 x3 x4 x5 x6 x7 x8 x9 x10
  have HR := Lib.hid (Gs.start H.out); clear H
  obtain ⟨x0, x1, x2, x3, x4, x5, x6, x7, x8, x9, x10, _⟩ := HR.out.st
  go_wp2_with fail
  go_cut [6, 7] (fun sp sc wx => ∃ (bq1 loq1 hiq1 : Nat) (Zq1 Yq1 : Option Addr) (Cq1 Dq1 : Nat), sp = .pointer (some ⟨bq1, 0, none⟩) ∧ sc = .int .i64 q ∧ Gs w [(bq1, 0, .int .i64 tR), (bq1, 1, .int .i64 aR), (bq1, 2, .int .i64 uR), (bq1, 3, .slice Zq1 acR.length Cq1), (bq1, 4, .slice Yq1 nxR.length Dq1), (w.heap.size, 0, .int .i64 t0), (w.heap.size, 1, .int .i64 a0), (w.heap.size, 2, .int .i64 u0), (w.heap.size, 3, .slice A0 ac0.length C0), (w.heap.size, 4, .slice B0 nx0.length D0), (w.heap.size + 1, 0, .int .i64 t1), (w.heap.size + 1, 1, .int .i64 a1), (w.heap.size + 1, 2, .int .i64 u1), (w.heap.size + 1, 3, .slice A1 ac1.length C1), (w.heap.size + 1, 4, .slice B1 nx1.length D1)] (ownM acR nxR loq1 hiq1 Zq1 Yq1 :: []) wx)
  case first =>
    clear x0 x1 x2 x3 x4 x5 x6 x7 x8 x9 x10
    refine wp_region_held_drew (S := fun w' => St w [(w.heap.size, 0, .int .i64 t0), (w.heap.size, 1, .int .i64 a0), (w.heap.size, 2, .int .i64 u0), (w.heap.size, 3, .slice A0 ac0.length C0), (w.heap.size, 4, .slice B0 nx0.length D0), (w.heap.size + 1, 0, .int .i64 t1), (w.heap.size + 1, 1, .int .i64 a1), (w.heap.size + 1, 2, .int .i64 u1), (w.heap.size + 1, 3, .slice A1 ac1.length C1), (w.heap.size + 1, 4, .slice B1 nx1.length D1)] w') (by kernel_rfl) HR.out.drew.st (fun HS => ?_)
    obtain ⟨w20, ew20⟩ : ∃ wn, wn = _ := ⟨_, rfl⟩
    have G0 : Hid (Gs w [(w.heap.size, 0, .int .i64 t0), (w.heap.size, 1, .int .i64 a0), (w.heap.size, 2, .int .i64 u0), (w.heap.size, 3, .slice A0 ac0.length C0), (w.heap.size, 4, .slice B0 nx0.length D0), (w.heap.size + 1, 0, .int .i64 t1), (w.heap.size + 1, 1, .int .i64 a1), (w.heap.size + 1, 2, .int .i64 u1), (w.heap.size + 1, 3, .slice A1 ac1.length C1), (w.heap.size + 1, 4, .slice B1 nx1.length D1)] [] w20) := by rw [ew20]; exact HR.out.drew
    rw [← ew20] at HS ⊢
    clear ew20 HR
    have HR := G0; clear G0
    refine wpAnyH_take (i := 0) (oi := { dst := some 28, op := Op.load 27 (Operand.tmp 2), type := 27, pos := "exact.go:6229", after := #[], guard := none }) (v := .agg #[.int .i64 t0, .int .i64 a0, .int .i64 u0, .slice A0 ac0.length C0, .slice B0 nx0.length D0]) rfl (by kernel_rfl) (by kernel_rfl) (by kernel_rfl) (fun _ _ _ h => h) (Or.inl ⟨rfl, fun W hW => by (obtain ⟨_, y0_, y1_, y2_, y3_, y4_, y5_, y6_, y7_, y8_, y9_, _⟩ := hW; go_simp; try rfl)⟩) HS ?_
    try simp only [Act.put, List.setIfInBounds_toArray, List.set_cons_zero, List.set_cons_succ]
    refine wpAnyH_take (i := 2) (oi := { dst := some 30, op := Op.load 27 (Operand.tmp 3), type := 27, pos := "exact.go:6229", after := #[], guard := none }) (v := .agg #[.int .i64 t1, .int .i64 a1, .int .i64 u1, .slice A1 ac1.length C1, .slice B1 nx1.length D1]) rfl (by kernel_rfl) (by kernel_rfl) (by kernel_rfl) (fun _ _ _ h => h) (Or.inl ⟨rfl, fun W hW => by (obtain ⟨_, y0_, y1_, y2_, y3_, y4_, y5_, y6_, y7_, y8_, y9_, _⟩ := hW; go_simp; try rfl)⟩) HS ?_
    try simp only [Act.put, List.setIfInBounds_toArray, List.set_cons_zero, List.set_cons_succ]
    refine wpAnyH_ready (rs := [1, 8]) (by kernel_rfl) (by simp) ?_
    refine (AllReadyH.cons (o := { dst := some 29, op := Op.call { callee := Callee.value (Operand.func 12), args := #[Operand.tmp 28], argTypes := #[27] }, type := 31, pos := "exact.go:6229", after := #[{ on := 0, ground := Ground.data }], guard := none }) rfl (fun K hK => ?_) (AllReadyH.cons (o := { dst := some 6, op := Op.alloc 31, type := 0, pos := "exact.go:6229", after := #[], guard := none }) rfl (fun K hK => ?_) AllReadyH.nil))
    · go_simp
      refine (KT0.out _ HR.out.st.1).mono ?_
      rintro e wn1 ⟨Zc0, Yc0, rfl, Ic, hb⟩
      have H2 := Lib.hid (HR.out.resM Ic hb)
      clear HR; have HR := H2; clear H2 hb
      clear HS; have HS := HR.out.st
      refine hK.out _ _ HS (fun _ => ?_)
      clear hK K
      try simp only [Act.put, List.setIfInBounds_toArray, List.set_cons_zero, List.set_cons_succ]
      refine wpAnyH_ready (rs := [3, 8]) (by kernel_rfl) (by simp) ?_
      refine (AllReadyH.cons (o := { dst := some 31, op := Op.call { callee := Callee.value (Operand.func 12), args := #[Operand.tmp 30], argTypes := #[27] }, type := 31, pos := "exact.go:6229", after := #[{ on := 2, ground := Ground.data }, { on := 1, ground := Ground.chain }], guard := none }) rfl (fun K hK => ?_) (AllReadyH.cons (o := { dst := some 6, op := Op.alloc 31, type := 0, pos := "exact.go:6229", after := #[], guard := none }) rfl (fun K hK => ?_) AllReadyH.nil))
      · go_simp
        refine (KT1.out _ HR.out.st.1).mono ?_
        rintro e wn2 ⟨Zc1, Yc1, rfl, Ic, hb⟩
        have H2 := Lib.hid (HR.out.resM Ic hb)
        clear HR; have HR := H2; clear H2 hb
        clear HS; have HS := HR.out.st
        refine hK.out _ _ HS (fun _ => ?_)
        clear hK K
        try simp only [Act.put, List.setIfInBounds_toArray, List.set_cons_zero, List.set_cons_succ]
        refine wpAnyH_ready (rs := [4, 8]) (by kernel_rfl) (by simp) ?_
        refine (AllReadyH.cons (o := { dst := some 32, op := Op.call { callee := Callee.value (Operand.func 11), args := #[Operand.tmp 29, Operand.tmp 31], argTypes := #[31, 31] }, type := 32, pos := "exact.go:6229", after := #[{ on := 1, ground := Ground.data }, { on := 3, ground := Ground.data }, { on := 3, ground := Ground.chain }], guard := none }) rfl (fun K hK => ?_) (AllReadyH.cons (o := { dst := some 6, op := Op.alloc 31, type := 0, pos := "exact.go:6229", after := #[], guard := none }) rfl (fun K hK => ?_) AllReadyH.nil))
        · go_simp
          refine (KW2.out _ _ _ _ _ (HR.out.tl.m1) (HR.out.tl.m2) (HR.out.m1) (HR.out.m2)).mono ?_
          rintro e wn3 ⟨Zr, Yr, Cr, Dr, rfl, Ir, hb⟩
          have H2 := Lib.hid ((HR.out.resM Ir hb).skip.skip)
          clear HR; have HR := H2; clear H2 hb
          clear HS; have HS := HR.out.st
          refine hK.out _ _ HS (fun _ => ?_)
          clear hK K
          try simp only [Act.put, List.setIfInBounds_toArray, List.set_cons_zero, List.set_cons_succ]
          refine wpAnyH_take (i := 5) (oi := { dst := some 27, op := Op.move (Operand.tmp 32), type := 32, pos := "exact.go:6229", after := #[{ on := 4, ground := Ground.data }], guard := none }) (v := .tuple #[.agg #[.int .i64 tR, .int .i64 aR, .int .i64 uR, .slice Zr acR.length Cr, .slice Yr nxR.length Dr], .int .i64 q]) rfl (by kernel_rfl) (by kernel_rfl) (by kernel_rfl) (fun _ _ _ h => h) (Or.inl ⟨rfl, fun W hW => by (obtain ⟨_, y0_, y1_, y2_, y3_, y4_, y5_, y6_, y7_, y8_, y9_, _⟩ := hW; go_simp; try rfl)⟩) HS ?_
          try simp only [Act.put, List.setIfInBounds_toArray, List.set_cons_zero, List.set_cons_succ]
          refine wpAnyH_take (i := 6) (oi := { dst := some 33, op := Op.extract (Operand.tmp 27) 0, type := 31, pos := "exact.go:6229", after := #[{ on := 5, ground := Ground.data }], guard := none }) (v := .agg #[.int .i64 tR, .int .i64 aR, .int .i64 uR, .slice Zr acR.length Cr, .slice Yr nxR.length Dr]) rfl (by kernel_rfl) (by kernel_rfl) (by kernel_rfl) (fun _ _ _ h => h) (Or.inl ⟨rfl, fun W hW => by (obtain ⟨_, y0_, y1_, y2_, y3_, y4_, y5_, y6_, y7_, y8_, y9_, _⟩ := hW; go_simp; try rfl)⟩) HS ?_
          try simp only [Act.put, List.setIfInBounds_toArray, List.set_cons_zero, List.set_cons_succ]
          refine wpAnyH_take (i := 7) (oi := { dst := some 34, op := Op.extract (Operand.tmp 27) 1, type := 2, pos := "exact.go:6229", after := #[{ on := 5, ground := Ground.data }, { on := 9, ground := Ground.gcOnly Departure.lateStores }], guard := none }) (v := .int .i64 q) rfl (by kernel_rfl) (by kernel_rfl) (by kernel_rfl) (fun _ _ _ h => h) (Or.inl ⟨rfl, fun W hW => by (obtain ⟨_, y0_, y1_, y2_, y3_, y4_, y5_, y6_, y7_, y8_, y9_, _⟩ := hW; go_simp; try rfl)⟩) HS ?_
          try simp only [Act.put, List.setIfInBounds_toArray, List.set_cons_zero, List.set_cons_succ]
          refine wpAnyH_ready (rs := [8]) (by kernel_rfl) (by simp) ?_
          refine (AllReadyH.cons (o := { dst := some 6, op := Op.alloc 31, type := 0, pos := "exact.go:6229", after := #[], guard := none }) rfl (fun K hK => ?_) AllReadyH.nil)
          · go_simp
            have H2 := HR.out.boxed #[.int .i64 0, .int .i64 0, .int .i64 0, .slice none 0 0, .slice none 0 0] 31
            obtain ⟨wn4, ewn⟩ : ∃ W, W = World.alloc wn3 (.cells #[.int .i64 0, .int .i64 0, .int .i64 0, .slice none 0 0, .slice none 0 0] 31 (0, 0)) := ⟨_, rfl⟩
            obtain ⟨wn4b, ebn⟩ : ∃ n, n = wn3.heap.size := ⟨_, rfl⟩
            rw [← ewn, ← ebn] at H2 ⊢
            clear HR ewn ebn; have HR := Lib.hid H2; clear H2
            clear HS; have HS := HR.out.st
            refine hK.out _ _ HS (fun _ => ?_)
            clear hK K
            try simp only [Act.put, List.setIfInBounds_toArray, List.set_cons_zero, List.set_cons_succ]
            obtain ⟨c0, c1, c2, c3, c4, g0, g1, g2, g3, g4⟩ := HR.out.facts5
            refine wpAnyH_ready (rs := [9]) (by kernel_rfl) (by simp) ?_
            refine AllReadyH.cons (o := { dst := none, op := Op.store 31 (Operand.tmp 6) (Operand.tmp 33), type := 0, pos := "exact.go:6229", after := #[{ on := 8, ground := Ground.data }, { on := 6, ground := Ground.data }, { on := 4, ground := Ground.chain }, { on := 0, ground := Ground.phase }, { on := 1, ground := Ground.phase }, { on := 2, ground := Ground.phase }, { on := 3, ground := Ground.phase }, { on := 4, ground := Ground.phase }, { on := 5, ground := Ground.phase }, { on := 6, ground := Ground.phase }, { on := 7, ground := Ground.textOnly Departure.lateStores }, { on := 8, ground := Ground.phase }], guard := none }) rfl (fun K hK => ?_) AllReadyH.nil
            go_simp
            have HS' : St w [(w.heap.size, 0, .int .i64 t0), (w.heap.size, 1, .int .i64 a0), (w.heap.size, 2, .int .i64 u0), (w.heap.size, 3, .slice A0 ac0.length C0), (w.heap.size, 4, .slice B0 nx0.length D0), (w.heap.size + 1, 0, .int .i64 t1), (w.heap.size + 1, 1, .int .i64 a1), (w.heap.size + 1, 2, .int .i64 u1), (w.heap.size + 1, 3, .slice A1 ac1.length C1), (w.heap.size + 1, 4, .slice B1 nx1.length D1)] _ := (HR.out.fill5 (.int .i64 tR) (.int .i64 aR) (.int .i64 uR) (.slice Zr acR.length Cr) (.slice Yr nxR.length Dr)).st
            refine hK.out _ _ HS' (fun _ => ?_)
            clear hK K HS
            have HS := HS'; clear HS'
            try simp only [Act.put, List.setIfInBounds_toArray, List.set_cons_zero, List.set_cons_succ]
            refine wpAnyH_take (i := 10) (oi := { dst := some 7, op := Op.assign (Operand.tmp 34), type := 2, pos := "exact.go:6229", after := #[{ on := 7, ground := Ground.data }, { on := 9, ground := Ground.chain }, { on := 0, ground := Ground.phase }, { on := 1, ground := Ground.phase }, { on := 2, ground := Ground.phase }, { on := 3, ground := Ground.phase }, { on := 4, ground := Ground.phase }, { on := 5, ground := Ground.phase }, { on := 6, ground := Ground.phase }, { on := 7, ground := Ground.phase }, { on := 8, ground := Ground.phase }, { on := 9, ground := Ground.phase }], guard := none }) (v := .int .i64 q) rfl (by kernel_rfl) (by kernel_rfl) (by kernel_rfl) (fun _ _ _ h => h) (Or.inl ⟨rfl, fun W hW => by (obtain ⟨_, y0_, y1_, y2_, y3_, y4_, y5_, y6_, y7_, y8_, y9_, _⟩ := hW; go_simp; try rfl)⟩) HS ?_
            try simp only [Act.put, List.setIfInBounds_toArray, List.set_cons_zero, List.set_cons_succ]
            refine wpAnyH_done (by kernel_rfl) ?_ _
            clear HS
            go_wp2_with fail
            go_meet
            exact ⟨_, _, _, _, _, _, _, rfl, rfl, HR.out.done5 _ _ _ _ _⟩
        · go_simp
          have H2 := HR.out.boxed #[.int .i64 0, .int .i64 0, .int .i64 0, .slice none 0 0, .slice none 0 0] 31
          obtain ⟨wn5, ewn⟩ : ∃ W, W = World.alloc wn2 (.cells #[.int .i64 0, .int .i64 0, .int .i64 0, .slice none 0 0, .slice none 0 0] 31 (0, 0)) := ⟨_, rfl⟩
          obtain ⟨wn5b, ebn⟩ : ∃ n, n = wn2.heap.size := ⟨_, rfl⟩
          rw [← ewn, ← ebn] at H2 ⊢
          clear HR ewn ebn; have HR := Lib.hid H2; clear H2
          clear HS; have HS := HR.out.st
          refine hK.out _ _ HS (fun _ => ?_)
          clear hK K
          try simp only [Act.put, List.setIfInBounds_toArray, List.set_cons_zero, List.set_cons_succ]
          refine wpAnyH_ready (rs := [4]) (by kernel_rfl) (by simp) ?_
          refine (AllReadyH.cons (o := { dst := some 32, op := Op.call { callee := Callee.value (Operand.func 11), args := #[Operand.tmp 29, Operand.tmp 31], argTypes := #[31, 31] }, type := 32, pos := "exact.go:6229", after := #[{ on := 1, ground := Ground.data }, { on := 3, ground := Ground.data }, { on := 3, ground := Ground.chain }], guard := none }) rfl (fun K hK => ?_) AllReadyH.nil)
          · go_simp
            refine (KW2.out _ _ _ _ _ (HR.out.tl.m1) (HR.out.tl.m2) (HR.out.m1) (HR.out.m2)).mono ?_
            rintro e wn6 ⟨Zr, Yr, Cr, Dr, rfl, Ir, hb⟩
            have H2 := Lib.hid ((HR.out.resM Ir hb).skip.skip)
            clear HR; have HR := H2; clear H2 hb
            clear HS; have HS := HR.out.st
            refine hK.out _ _ HS (fun _ => ?_)
            clear hK K
            try simp only [Act.put, List.setIfInBounds_toArray, List.set_cons_zero, List.set_cons_succ]
            refine wpAnyH_take (i := 5) (oi := { dst := some 27, op := Op.move (Operand.tmp 32), type := 32, pos := "exact.go:6229", after := #[{ on := 4, ground := Ground.data }], guard := none }) (v := .tuple #[.agg #[.int .i64 tR, .int .i64 aR, .int .i64 uR, .slice Zr acR.length Cr, .slice Yr nxR.length Dr], .int .i64 q]) rfl (by kernel_rfl) (by kernel_rfl) (by kernel_rfl) (fun _ _ _ h => h) (Or.inl ⟨rfl, fun W hW => by (obtain ⟨_, y0_, y1_, y2_, y3_, y4_, y5_, y6_, y7_, y8_, y9_, _⟩ := hW; go_simp; try rfl)⟩) HS ?_
            try simp only [Act.put, List.setIfInBounds_toArray, List.set_cons_zero, List.set_cons_succ]
            refine wpAnyH_take (i := 6) (oi := { dst := some 33, op := Op.extract (Operand.tmp 27) 0, type := 31, pos := "exact.go:6229", after := #[{ on := 5, ground := Ground.data }], guard := none }) (v := .agg #[.int .i64 tR, .int .i64 aR, .int .i64 uR, .slice Zr acR.length Cr, .slice Yr nxR.length Dr]) rfl (by kernel_rfl) (by kernel_rfl) (by kernel_rfl) (fun _ _ _ h => h) (Or.inl ⟨rfl, fun W hW => by (obtain ⟨_, y0_, y1_, y2_, y3_, y4_, y5_, y6_, y7_, y8_, y9_, _⟩ := hW; go_simp; try rfl)⟩) HS ?_
            try simp only [Act.put, List.setIfInBounds_toArray, List.set_cons_zero, List.set_cons_succ]
            refine wpAnyH_take (i := 7) (oi := { dst := some 34, op := Op.extract (Operand.tmp 27) 1, type := 2, pos := "exact.go:6229", after := #[{ on := 5, ground := Ground.data }, { on := 9, ground := Ground.gcOnly Departure.lateStores }], guard := none }) (v := .int .i64 q) rfl (by kernel_rfl) (by kernel_rfl) (by kernel_rfl) (fun _ _ _ h => h) (Or.inl ⟨rfl, fun W hW => by (obtain ⟨_, y0_, y1_, y2_, y3_, y4_, y5_, y6_, y7_, y8_, y9_, _⟩ := hW; go_simp; try rfl)⟩) HS ?_
            try simp only [Act.put, List.setIfInBounds_toArray, List.set_cons_zero, List.set_cons_succ]
            obtain ⟨c0, c1, c2, c3, c4, g0, g1, g2, g3, g4⟩ := HR.out.facts5
            refine wpAnyH_ready (rs := [9]) (by kernel_rfl) (by simp) ?_
            refine AllReadyH.cons (o := { dst := none, op := Op.store 31 (Operand.tmp 6) (Operand.tmp 33), type := 0, pos := "exact.go:6229", after := #[{ on := 8, ground := Ground.data }, { on := 6, ground := Ground.data }, { on := 4, ground := Ground.chain }, { on := 0, ground := Ground.phase }, { on := 1, ground := Ground.phase }, { on := 2, ground := Ground.phase }, { on := 3, ground := Ground.phase }, { on := 4, ground := Ground.phase }, { on := 5, ground := Ground.phase }, { on := 6, ground := Ground.phase }, { on := 7, ground := Ground.textOnly Departure.lateStores }, { on := 8, ground := Ground.phase }], guard := none }) rfl (fun K hK => ?_) AllReadyH.nil
            go_simp
            have HS' : St w [(w.heap.size, 0, .int .i64 t0), (w.heap.size, 1, .int .i64 a0), (w.heap.size, 2, .int .i64 u0), (w.heap.size, 3, .slice A0 ac0.length C0), (w.heap.size, 4, .slice B0 nx0.length D0), (w.heap.size + 1, 0, .int .i64 t1), (w.heap.size + 1, 1, .int .i64 a1), (w.heap.size + 1, 2, .int .i64 u1), (w.heap.size + 1, 3, .slice A1 ac1.length C1), (w.heap.size + 1, 4, .slice B1 nx1.length D1)] _ := (HR.out.fill5 (.int .i64 tR) (.int .i64 aR) (.int .i64 uR) (.slice Zr acR.length Cr) (.slice Yr nxR.length Dr)).st
            refine hK.out _ _ HS' (fun _ => ?_)
            clear hK K HS
            have HS := HS'; clear HS'
            try simp only [Act.put, List.setIfInBounds_toArray, List.set_cons_zero, List.set_cons_succ]
            refine wpAnyH_take (i := 10) (oi := { dst := some 7, op := Op.assign (Operand.tmp 34), type := 2, pos := "exact.go:6229", after := #[{ on := 7, ground := Ground.data }, { on := 9, ground := Ground.chain }, { on := 0, ground := Ground.phase }, { on := 1, ground := Ground.phase }, { on := 2, ground := Ground.phase }, { on := 3, ground := Ground.phase }, { on := 4, ground := Ground.phase }, { on := 5, ground := Ground.phase }, { on := 6, ground := Ground.phase }, { on := 7, ground := Ground.phase }, { on := 8, ground := Ground.phase }, { on := 9, ground := Ground.phase }], guard := none }) (v := .int .i64 q) rfl (by kernel_rfl) (by kernel_rfl) (by kernel_rfl) (fun _ _ _ h => h) (Or.inl ⟨rfl, fun W hW => by (obtain ⟨_, y0_, y1_, y2_, y3_, y4_, y5_, y6_, y7_, y8_, y9_, _⟩ := hW; go_simp; try rfl)⟩) HS ?_
            try simp only [Act.put, List.setIfInBounds_toArray, List.set_cons_zero, List.set_cons_succ]
            refine wpAnyH_done (by kernel_rfl) ?_ _
            clear HS
            go_wp2_with fail
            go_meet
            exact ⟨_, _, _, _, _, _, _, rfl, rfl, HR.out.done5 _ _ _ _ _⟩
      · go_simp
        have H2 := HR.out.boxed #[.int .i64 0, .int .i64 0, .int .i64 0, .slice none 0 0, .slice none 0 0] 31
        obtain ⟨wn7, ewn⟩ : ∃ W, W = World.alloc wn1 (.cells #[.int .i64 0, .int .i64 0, .int .i64 0, .slice none 0 0, .slice none 0 0] 31 (0, 0)) := ⟨_, rfl⟩
        obtain ⟨wn7b, ebn⟩ : ∃ n, n = wn1.heap.size := ⟨_, rfl⟩
        rw [← ewn, ← ebn] at H2 ⊢
        clear HR ewn ebn; have HR := Lib.hid H2; clear H2
        clear HS; have HS := HR.out.st
        refine hK.out _ _ HS (fun _ => ?_)
        clear hK K
        try simp only [Act.put, List.setIfInBounds_toArray, List.set_cons_zero, List.set_cons_succ]
        refine wpAnyH_ready (rs := [3]) (by kernel_rfl) (by simp) ?_
        refine (AllReadyH.cons (o := { dst := some 31, op := Op.call { callee := Callee.value (Operand.func 12), args := #[Operand.tmp 30], argTypes := #[27] }, type := 31, pos := "exact.go:6229", after := #[{ on := 2, ground := Ground.data }, { on := 1, ground := Ground.chain }], guard := none }) rfl (fun K hK => ?_) AllReadyH.nil)
        · go_simp
          refine (KT1.out _ HR.out.st.1).mono ?_
          rintro e wn8 ⟨Zc1, Yc1, rfl, Ic, hb⟩
          have H2 := Lib.hid (HR.out.resM Ic hb)
          clear HR; have HR := H2; clear H2 hb
          clear HS; have HS := HR.out.st
          refine hK.out _ _ HS (fun _ => ?_)
          clear hK K
          try simp only [Act.put, List.setIfInBounds_toArray, List.set_cons_zero, List.set_cons_succ]
          refine wpAnyH_ready (rs := [4]) (by kernel_rfl) (by simp) ?_
          refine (AllReadyH.cons (o := { dst := some 32, op := Op.call { callee := Callee.value (Operand.func 11), args := #[Operand.tmp 29, Operand.tmp 31], argTypes := #[31, 31] }, type := 32, pos := "exact.go:6229", after := #[{ on := 1, ground := Ground.data }, { on := 3, ground := Ground.data }, { on := 3, ground := Ground.chain }], guard := none }) rfl (fun K hK => ?_) AllReadyH.nil)
          · go_simp
            refine (KW2.out _ _ _ _ _ (HR.out.tl.m1) (HR.out.tl.m2) (HR.out.m1) (HR.out.m2)).mono ?_
            rintro e wn9 ⟨Zr, Yr, Cr, Dr, rfl, Ir, hb⟩
            have H2 := Lib.hid ((HR.out.resM Ir hb).skip.skip)
            clear HR; have HR := H2; clear H2 hb
            clear HS; have HS := HR.out.st
            refine hK.out _ _ HS (fun _ => ?_)
            clear hK K
            try simp only [Act.put, List.setIfInBounds_toArray, List.set_cons_zero, List.set_cons_succ]
            refine wpAnyH_take (i := 5) (oi := { dst := some 27, op := Op.move (Operand.tmp 32), type := 32, pos := "exact.go:6229", after := #[{ on := 4, ground := Ground.data }], guard := none }) (v := .tuple #[.agg #[.int .i64 tR, .int .i64 aR, .int .i64 uR, .slice Zr acR.length Cr, .slice Yr nxR.length Dr], .int .i64 q]) rfl (by kernel_rfl) (by kernel_rfl) (by kernel_rfl) (fun _ _ _ h => h) (Or.inl ⟨rfl, fun W hW => by (obtain ⟨_, y0_, y1_, y2_, y3_, y4_, y5_, y6_, y7_, y8_, y9_, _⟩ := hW; go_simp; try rfl)⟩) HS ?_
            try simp only [Act.put, List.setIfInBounds_toArray, List.set_cons_zero, List.set_cons_succ]
            refine wpAnyH_take (i := 6) (oi := { dst := some 33, op := Op.extract (Operand.tmp 27) 0, type := 31, pos := "exact.go:6229", after := #[{ on := 5, ground := Ground.data }], guard := none }) (v := .agg #[.int .i64 tR, .int .i64 aR, .int .i64 uR, .slice Zr acR.length Cr, .slice Yr nxR.length Dr]) rfl (by kernel_rfl) (by kernel_rfl) (by kernel_rfl) (fun _ _ _ h => h) (Or.inl ⟨rfl, fun W hW => by (obtain ⟨_, y0_, y1_, y2_, y3_, y4_, y5_, y6_, y7_, y8_, y9_, _⟩ := hW; go_simp; try rfl)⟩) HS ?_
            try simp only [Act.put, List.setIfInBounds_toArray, List.set_cons_zero, List.set_cons_succ]
            refine wpAnyH_take (i := 7) (oi := { dst := some 34, op := Op.extract (Operand.tmp 27) 1, type := 2, pos := "exact.go:6229", after := #[{ on := 5, ground := Ground.data }, { on := 9, ground := Ground.gcOnly Departure.lateStores }], guard := none }) (v := .int .i64 q) rfl (by kernel_rfl) (by kernel_rfl) (by kernel_rfl) (fun _ _ _ h => h) (Or.inl ⟨rfl, fun W hW => by (obtain ⟨_, y0_, y1_, y2_, y3_, y4_, y5_, y6_, y7_, y8_, y9_, _⟩ := hW; go_simp; try rfl)⟩) HS ?_
            try simp only [Act.put, List.setIfInBounds_toArray, List.set_cons_zero, List.set_cons_succ]
            obtain ⟨c0, c1, c2, c3, c4, g0, g1, g2, g3, g4⟩ := HR.out.facts5
            refine wpAnyH_ready (rs := [9]) (by kernel_rfl) (by simp) ?_
            refine AllReadyH.cons (o := { dst := none, op := Op.store 31 (Operand.tmp 6) (Operand.tmp 33), type := 0, pos := "exact.go:6229", after := #[{ on := 8, ground := Ground.data }, { on := 6, ground := Ground.data }, { on := 4, ground := Ground.chain }, { on := 0, ground := Ground.phase }, { on := 1, ground := Ground.phase }, { on := 2, ground := Ground.phase }, { on := 3, ground := Ground.phase }, { on := 4, ground := Ground.phase }, { on := 5, ground := Ground.phase }, { on := 6, ground := Ground.phase }, { on := 7, ground := Ground.textOnly Departure.lateStores }, { on := 8, ground := Ground.phase }], guard := none }) rfl (fun K hK => ?_) AllReadyH.nil
            go_simp
            have HS' : St w [(w.heap.size, 0, .int .i64 t0), (w.heap.size, 1, .int .i64 a0), (w.heap.size, 2, .int .i64 u0), (w.heap.size, 3, .slice A0 ac0.length C0), (w.heap.size, 4, .slice B0 nx0.length D0), (w.heap.size + 1, 0, .int .i64 t1), (w.heap.size + 1, 1, .int .i64 a1), (w.heap.size + 1, 2, .int .i64 u1), (w.heap.size + 1, 3, .slice A1 ac1.length C1), (w.heap.size + 1, 4, .slice B1 nx1.length D1)] _ := (HR.out.fill5 (.int .i64 tR) (.int .i64 aR) (.int .i64 uR) (.slice Zr acR.length Cr) (.slice Yr nxR.length Dr)).st
            refine hK.out _ _ HS' (fun _ => ?_)
            clear hK K HS
            have HS := HS'; clear HS'
            try simp only [Act.put, List.setIfInBounds_toArray, List.set_cons_zero, List.set_cons_succ]
            refine wpAnyH_take (i := 10) (oi := { dst := some 7, op := Op.assign (Operand.tmp 34), type := 2, pos := "exact.go:6229", after := #[{ on := 7, ground := Ground.data }, { on := 9, ground := Ground.chain }, { on := 0, ground := Ground.phase }, { on := 1, ground := Ground.phase }, { on := 2, ground := Ground.phase }, { on := 3, ground := Ground.phase }, { on := 4, ground := Ground.phase }, { on := 5, ground := Ground.phase }, { on := 6, ground := Ground.phase }, { on := 7, ground := Ground.phase }, { on := 8, ground := Ground.phase }, { on := 9, ground := Ground.phase }], guard := none }) (v := .int .i64 q) rfl (by kernel_rfl) (by kernel_rfl) (by kernel_rfl) (fun _ _ _ h => h) (Or.inl ⟨rfl, fun W hW => by (obtain ⟨_, y0_, y1_, y2_, y3_, y4_, y5_, y6_, y7_, y8_, y9_, _⟩ := hW; go_simp; try rfl)⟩) HS ?_
            try simp only [Act.put, List.setIfInBounds_toArray, List.set_cons_zero, List.set_cons_succ]
            refine wpAnyH_done (by kernel_rfl) ?_ _
            clear HS
            go_wp2_with fail
            go_meet
            exact ⟨_, _, _, _, _, _, _, rfl, rfl, HR.out.done5 _ _ _ _ _⟩
    · go_simp
      have H2 := HR.out.boxed #[.int .i64 0, .int .i64 0, .int .i64 0, .slice none 0 0, .slice none 0 0] 31
      obtain ⟨wn10, ewn⟩ : ∃ W, W = World.alloc w20 (.cells #[.int .i64 0, .int .i64 0, .int .i64 0, .slice none 0 0, .slice none 0 0] 31 (0, 0)) := ⟨_, rfl⟩
      obtain ⟨wn10b, ebn⟩ : ∃ n, n = w20.heap.size := ⟨_, rfl⟩
      rw [← ewn, ← ebn] at H2 ⊢
      clear HR ewn ebn; have HR := Lib.hid H2; clear H2
      clear HS; have HS := HR.out.st
      refine hK.out _ _ HS (fun _ => ?_)
      clear hK K
      try simp only [Act.put, List.setIfInBounds_toArray, List.set_cons_zero, List.set_cons_succ]
      refine wpAnyH_ready (rs := [1]) (by kernel_rfl) (by simp) ?_
      refine (AllReadyH.cons (o := { dst := some 29, op := Op.call { callee := Callee.value (Operand.func 12), args := #[Operand.tmp 28], argTypes := #[27] }, type := 31, pos := "exact.go:6229", after := #[{ on := 0, ground := Ground.data }], guard := none }) rfl (fun K hK => ?_) AllReadyH.nil)
      · go_simp
        refine (KT0.out _ HR.out.st.1).mono ?_
        rintro e wn11 ⟨Zc0, Yc0, rfl, Ic, hb⟩
        have H2 := Lib.hid (HR.out.resM Ic hb)
        clear HR; have HR := H2; clear H2 hb
        clear HS; have HS := HR.out.st
        refine hK.out _ _ HS (fun _ => ?_)
        clear hK K
        try simp only [Act.put, List.setIfInBounds_toArray, List.set_cons_zero, List.set_cons_succ]
        refine wpAnyH_ready (rs := [3]) (by kernel_rfl) (by simp) ?_
        refine (AllReadyH.cons (o := { dst := some 31, op := Op.call { callee := Callee.value (Operand.func 12), args := #[Operand.tmp 30], argTypes := #[27] }, type := 31, pos := "exact.go:6229", after := #[{ on := 2, ground := Ground.data }, { on := 1, ground := Ground.chain }], guard := none }) rfl (fun K hK => ?_) AllReadyH.nil)
        · go_simp
          refine (KT1.out _ HR.out.st.1).mono ?_
          rintro e wn12 ⟨Zc1, Yc1, rfl, Ic, hb⟩
          have H2 := Lib.hid (HR.out.resM Ic hb)
          clear HR; have HR := H2; clear H2 hb
          clear HS; have HS := HR.out.st
          refine hK.out _ _ HS (fun _ => ?_)
          clear hK K
          try simp only [Act.put, List.setIfInBounds_toArray, List.set_cons_zero, List.set_cons_succ]
          refine wpAnyH_ready (rs := [4]) (by kernel_rfl) (by simp) ?_
          refine (AllReadyH.cons (o := { dst := some 32, op := Op.call { callee := Callee.value (Operand.func 11), args := #[Operand.tmp 29, Operand.tmp 31], argTypes := #[31, 31] }, type := 32, pos := "exact.go:6229", after := #[{ on := 1, ground := Ground.data }, { on := 3, ground := Ground.data }, { on := 3, ground := Ground.chain }], guard := none }) rfl (fun K hK => ?_) AllReadyH.nil)
          · go_simp
            refine (KW2.out _ _ _ _ _ (HR.out.tl.m1) (HR.out.tl.m2) (HR.out.m1) (HR.out.m2)).mono ?_
            rintro e wn13 ⟨Zr, Yr, Cr, Dr, rfl, Ir, hb⟩
            have H2 := Lib.hid ((HR.out.resM Ir hb).skip.skip)
            clear HR; have HR := H2; clear H2 hb
            clear HS; have HS := HR.out.st
            refine hK.out _ _ HS (fun _ => ?_)
            clear hK K
            try simp only [Act.put, List.setIfInBounds_toArray, List.set_cons_zero, List.set_cons_succ]
            refine wpAnyH_take (i := 5) (oi := { dst := some 27, op := Op.move (Operand.tmp 32), type := 32, pos := "exact.go:6229", after := #[{ on := 4, ground := Ground.data }], guard := none }) (v := .tuple #[.agg #[.int .i64 tR, .int .i64 aR, .int .i64 uR, .slice Zr acR.length Cr, .slice Yr nxR.length Dr], .int .i64 q]) rfl (by kernel_rfl) (by kernel_rfl) (by kernel_rfl) (fun _ _ _ h => h) (Or.inl ⟨rfl, fun W hW => by (obtain ⟨_, y0_, y1_, y2_, y3_, y4_, y5_, y6_, y7_, y8_, y9_, _⟩ := hW; go_simp; try rfl)⟩) HS ?_
            try simp only [Act.put, List.setIfInBounds_toArray, List.set_cons_zero, List.set_cons_succ]
            refine wpAnyH_take (i := 6) (oi := { dst := some 33, op := Op.extract (Operand.tmp 27) 0, type := 31, pos := "exact.go:6229", after := #[{ on := 5, ground := Ground.data }], guard := none }) (v := .agg #[.int .i64 tR, .int .i64 aR, .int .i64 uR, .slice Zr acR.length Cr, .slice Yr nxR.length Dr]) rfl (by kernel_rfl) (by kernel_rfl) (by kernel_rfl) (fun _ _ _ h => h) (Or.inl ⟨rfl, fun W hW => by (obtain ⟨_, y0_, y1_, y2_, y3_, y4_, y5_, y6_, y7_, y8_, y9_, _⟩ := hW; go_simp; try rfl)⟩) HS ?_
            try simp only [Act.put, List.setIfInBounds_toArray, List.set_cons_zero, List.set_cons_succ]
            refine wpAnyH_take (i := 7) (oi := { dst := some 34, op := Op.extract (Operand.tmp 27) 1, type := 2, pos := "exact.go:6229", after := #[{ on := 5, ground := Ground.data }, { on := 9, ground := Ground.gcOnly Departure.lateStores }], guard := none }) (v := .int .i64 q) rfl (by kernel_rfl) (by kernel_rfl) (by kernel_rfl) (fun _ _ _ h => h) (Or.inl ⟨rfl, fun W hW => by (obtain ⟨_, y0_, y1_, y2_, y3_, y4_, y5_, y6_, y7_, y8_, y9_, _⟩ := hW; go_simp; try rfl)⟩) HS ?_
            try simp only [Act.put, List.setIfInBounds_toArray, List.set_cons_zero, List.set_cons_succ]
            obtain ⟨c0, c1, c2, c3, c4, g0, g1, g2, g3, g4⟩ := HR.out.facts5
            refine wpAnyH_ready (rs := [9]) (by kernel_rfl) (by simp) ?_
            refine AllReadyH.cons (o := { dst := none, op := Op.store 31 (Operand.tmp 6) (Operand.tmp 33), type := 0, pos := "exact.go:6229", after := #[{ on := 8, ground := Ground.data }, { on := 6, ground := Ground.data }, { on := 4, ground := Ground.chain }, { on := 0, ground := Ground.phase }, { on := 1, ground := Ground.phase }, { on := 2, ground := Ground.phase }, { on := 3, ground := Ground.phase }, { on := 4, ground := Ground.phase }, { on := 5, ground := Ground.phase }, { on := 6, ground := Ground.phase }, { on := 7, ground := Ground.textOnly Departure.lateStores }, { on := 8, ground := Ground.phase }], guard := none }) rfl (fun K hK => ?_) AllReadyH.nil
            go_simp
            have HS' : St w [(w.heap.size, 0, .int .i64 t0), (w.heap.size, 1, .int .i64 a0), (w.heap.size, 2, .int .i64 u0), (w.heap.size, 3, .slice A0 ac0.length C0), (w.heap.size, 4, .slice B0 nx0.length D0), (w.heap.size + 1, 0, .int .i64 t1), (w.heap.size + 1, 1, .int .i64 a1), (w.heap.size + 1, 2, .int .i64 u1), (w.heap.size + 1, 3, .slice A1 ac1.length C1), (w.heap.size + 1, 4, .slice B1 nx1.length D1)] _ := (HR.out.fill5 (.int .i64 tR) (.int .i64 aR) (.int .i64 uR) (.slice Zr acR.length Cr) (.slice Yr nxR.length Dr)).st
            refine hK.out _ _ HS' (fun _ => ?_)
            clear hK K HS
            have HS := HS'; clear HS'
            try simp only [Act.put, List.setIfInBounds_toArray, List.set_cons_zero, List.set_cons_succ]
            refine wpAnyH_take (i := 10) (oi := { dst := some 7, op := Op.assign (Operand.tmp 34), type := 2, pos := "exact.go:6229", after := #[{ on := 7, ground := Ground.data }, { on := 9, ground := Ground.chain }, { on := 0, ground := Ground.phase }, { on := 1, ground := Ground.phase }, { on := 2, ground := Ground.phase }, { on := 3, ground := Ground.phase }, { on := 4, ground := Ground.phase }, { on := 5, ground := Ground.phase }, { on := 6, ground := Ground.phase }, { on := 7, ground := Ground.phase }, { on := 8, ground := Ground.phase }, { on := 9, ground := Ground.phase }], guard := none }) (v := .int .i64 q) rfl (by kernel_rfl) (by kernel_rfl) (by kernel_rfl) (fun _ _ _ h => h) (Or.inl ⟨rfl, fun W hW => by (obtain ⟨_, y0_, y1_, y2_, y3_, y4_, y5_, y6_, y7_, y8_, y9_, _⟩ := hW; go_simp; try rfl)⟩) HS ?_
            try simp only [Act.put, List.setIfInBounds_toArray, List.set_cons_zero, List.set_cons_succ]
            refine wpAnyH_done (by kernel_rfl) ?_ _
            clear HS
            go_wp2_with fail
            go_meet
            exact ⟨_, _, _, _, _, _, _, rfl, rfl, HR.out.done5 _ _ _ _ _⟩
  case rest =>
  obtain ⟨bq1, loq1, hiq1, Zq1, Yq1, Cq1, Dq1, rfl, rfl, T⟩ := hcut
  clear x0 x1 x2 x3 x4 x5 x6 x7 x8 x9 x10
  clear HR; have HR := Lib.hid T; clear T
  obtain ⟨x0, x1, x2, x3, x4, x5, x6, x7, x8, x9, x10, x11, x12, x13, x14, x15, _⟩ := HR.out.st
  go_wp2_with fail
  refine (KT0.out _ x0).mono ?_
  rintro e wd0 ⟨Zd0, Yd0, rfl, Id0, hbd⟩
  have T := ((HR.out.resM Id0 hbd).boxed #[.int .i64 t0, .int .i64 a0, .int .i64 u0, .slice Zd0 ac0.length ac0.length, .slice Yd0 nx0.length nx0.length] 31).open5
  clear x0 x1 x2 x3 x4 x5 x6 x7 x8 x9 x10 x11 x12 x13 x14 x15
  have HR' : Hid (∃ lo hi, Gs w [(wd0.heap.size, 0, .int .i64 t0), (wd0.heap.size, 1, .int .i64 a0), (wd0.heap.size, 2, .int .i64 u0), (wd0.heap.size, 3, .slice Zd0 ac0.length ac0.length), (wd0.heap.size, 4, .slice Yd0 nx0.length nx0.length), (bq1, 0, .int .i64 tR), (bq1, 1, .int .i64 aR), (bq1, 2, .int .i64 uR), (bq1, 3, .slice Zq1 acR.length Cq1), (bq1, 4, .slice Yq1 nxR.length Dq1), (w.heap.size, 0, .int .i64 t0), (w.heap.size, 1, .int .i64 a0), (w.heap.size, 2, .int .i64 u0), (w.heap.size, 3, .slice A0 ac0.length C0), (w.heap.size, 4, .slice B0 nx0.length D0), (w.heap.size + 1, 0, .int .i64 t1), (w.heap.size + 1, 1, .int .i64 a1), (w.heap.size + 1, 2, .int .i64 u1), (w.heap.size + 1, 3, .slice A1 ac1.length C1), (w.heap.size + 1, 4, .slice B1 nx1.length D1)] (ownM ac0 nx0 lo hi Zd0 Yd0 :: [ownM acR nxR loq1 hiq1 Zq1 Yq1]) _) := ⟨_, _, T⟩
  obtain ⟨lod0, hid0, T2⟩ := HR'.out
  clear HR HR' T Id0 hbd; have HR := Lib.hid T2; clear T2
  obtain ⟨x0, x1, x2, x3, x4, x5, x6, x7, x8, x9, x10, x11, x12, x13, x14, x15, x16, x17, x18, x19, x20, _⟩ := HR.out.st
  go_wp2_with fail
  refine (KT1.out _ x0).mono ?_
  rintro e wd1 ⟨Zd1, Yd1, rfl, Id1, hbd⟩
  have T := ((HR.out.resM Id1 hbd).boxed #[.int .i64 t1, .int .i64 a1, .int .i64 u1, .slice Zd1 ac1.length ac1.length, .slice Yd1 nx1.length nx1.length] 31).open5
  clear x0 x1 x2 x3 x4 x5 x6 x7 x8 x9 x10 x11 x12 x13 x14 x15 x16 x17 x18 x19 x20
  have HR' : Hid (∃ lo hi, Gs w [(wd1.heap.size, 0, .int .i64 t1), (wd1.heap.size, 1, .int .i64 a1), (wd1.heap.size, 2, .int .i64 u1), (wd1.heap.size, 3, .slice Zd1 ac1.length ac1.length), (wd1.heap.size, 4, .slice Yd1 nx1.length nx1.length), (wd0.heap.size, 0, .int .i64 t0), (wd0.heap.size, 1, .int .i64 a0), (wd0.heap.size, 2, .int .i64 u0), (wd0.heap.size, 3, .slice Zd0 ac0.length ac0.length), (wd0.heap.size, 4, .slice Yd0 nx0.length nx0.length), (bq1, 0, .int .i64 tR), (bq1, 1, .int .i64 aR), (bq1, 2, .int .i64 uR), (bq1, 3, .slice Zq1 acR.length Cq1), (bq1, 4, .slice Yq1 nxR.length Dq1), (w.heap.size, 0, .int .i64 t0), (w.heap.size, 1, .int .i64 a0), (w.heap.size, 2, .int .i64 u0), (w.heap.size, 3, .slice A0 ac0.length C0), (w.heap.size, 4, .slice B0 nx0.length D0), (w.heap.size + 1, 0, .int .i64 t1), (w.heap.size + 1, 1, .int .i64 a1), (w.heap.size + 1, 2, .int .i64 u1), (w.heap.size + 1, 3, .slice A1 ac1.length C1), (w.heap.size + 1, 4, .slice B1 nx1.length D1)] (ownM ac1 nx1 lo hi Zd1 Yd1 :: [ownM ac0 nx0 lod0 hid0 Zd0 Yd0, ownM acR nxR loq1 hiq1 Zq1 Yq1]) _) := ⟨_, _, T⟩
  obtain ⟨lod1, hid1, T2⟩ := HR'.out
  clear HR HR' T Id1 hbd; have HR := Lib.hid T2; clear T2
  obtain ⟨x0, x1, x2, x3, x4, x5, x6, x7, x8, x9, x10, x11, x12, x13, x14, x15, x16, x17, x18, x19, x20, x21, x22, x23, x24, x25, _⟩ := HR.out.st
  go_wp2_with fail
  refine (KG2.out _ _ _ _ _ (HR.out.tl.m1) (HR.out.tl.m2) (HR.out.m1) (HR.out.m2)).mono ?_
  rintro e wr4 ⟨Zq4, Yq4, Cq4, Dq4, rfl, Ir4, hbr4⟩
  have T := ((HR.out.resM Ir4 hbr4).boxed #[.int .i64 tR, .int .i64 aR, .int .i64 uR, .slice Zq4 acR.length Cq4, .slice Yq4 nxR.length Dq4] 31).open5
  clear x0 x1 x2 x3 x4 x5 x6 x7 x8 x9 x10 x11 x12 x13 x14 x15 x16 x17 x18 x19 x20 x21 x22 x23 x24 x25
  have HR' : Hid (∃ lo hi, Gs w [(wr4.heap.size, 0, .int .i64 tR), (wr4.heap.size, 1, .int .i64 aR), (wr4.heap.size, 2, .int .i64 uR), (wr4.heap.size, 3, .slice Zq4 acR.length Cq4), (wr4.heap.size, 4, .slice Yq4 nxR.length Dq4), (wd1.heap.size, 0, .int .i64 t1), (wd1.heap.size, 1, .int .i64 a1), (wd1.heap.size, 2, .int .i64 u1), (wd1.heap.size, 3, .slice Zd1 ac1.length ac1.length), (wd1.heap.size, 4, .slice Yd1 nx1.length nx1.length), (wd0.heap.size, 0, .int .i64 t0), (wd0.heap.size, 1, .int .i64 a0), (wd0.heap.size, 2, .int .i64 u0), (wd0.heap.size, 3, .slice Zd0 ac0.length ac0.length), (wd0.heap.size, 4, .slice Yd0 nx0.length nx0.length), (bq1, 0, .int .i64 tR), (bq1, 1, .int .i64 aR), (bq1, 2, .int .i64 uR), (bq1, 3, .slice Zq1 acR.length Cq1), (bq1, 4, .slice Yq1 nxR.length Dq1), (w.heap.size, 0, .int .i64 t0), (w.heap.size, 1, .int .i64 a0), (w.heap.size, 2, .int .i64 u0), (w.heap.size, 3, .slice A0 ac0.length C0), (w.heap.size, 4, .slice B0 nx0.length D0), (w.heap.size + 1, 0, .int .i64 t1), (w.heap.size + 1, 1, .int .i64 a1), (w.heap.size + 1, 2, .int .i64 u1), (w.heap.size + 1, 3, .slice A1 ac1.length C1), (w.heap.size + 1, 4, .slice B1 nx1.length D1)] (ownM acR nxR lo hi Zq4 Yq4 :: [ownM ac1 nx1 lod1 hid1 Zd1 Yd1, ownM ac0 nx0 lod0 hid0 Zd0 Yd0, ownM acR nxR loq1 hiq1 Zq1 Yq1]) _) := ⟨_, _, T⟩
  obtain ⟨loq4, hiq4, T2⟩ := HR'.out
  clear HR HR' T Ir4 hbr4; have HR := Lib.hid T2; clear T2
  obtain ⟨x0, x1, x2, x3, x4, x5, x6, x7, x8, x9, x10, x11, x12, x13, x14, x15, x16, x17, x18, x19, x20, x21, x22, x23, x24, x25, x26, x27, x28, x29, x30, _⟩ := HR.out.st
  go_wp2_with fail
  refine (KQ.out _ _ _ _ _ _ _ _ _ (HR.out.m1) (HR.out.m2) (HR.out.tl.tl.tl.m1) (HR.out.tl.tl.tl.m2)).mono ?_
  rintro e wq5 ⟨rfl, hb⟩
  have T := HR.out.below hb
  clear x0 x1 x2 x3 x4 x5 x6 x7 x8 x9 x10 x11 x12 x13 x14 x15 x16 x17 x18 x19 x20 x21 x22 x23 x24 x25 x26 x27 x28 x29 x30
  clear HR hb; have HR := Lib.hid T; clear T
  obtain ⟨x0, x1, x2, x3, x4, x5, x6, x7, x8, x9, x10, x11, x12, x13, x14, x15, x16, x17, x18, x19, x20, x21, x22, x23, x24, x25, x26, x27, x28, x29, x30, _⟩ := HR.out.st
  go_wp2_with fail
  go_region_held3 (fun w' => Sees w w' ∧ w'.cell? ⟨wr4.heap.size, 0, none⟩ = some (.int .i64 tR) ∧ w'.cell? ⟨wr4.heap.size, 1, none⟩ = some (.int .i64 aR) ∧ w'.cell? ⟨wr4.heap.size, 2, none⟩ = some (.int .i64 uR) ∧ w'.cell? ⟨wr4.heap.size, 3, none⟩ = some (.slice Zq4 acR.length Cq4) ∧ w'.cell? ⟨wr4.heap.size, 4, none⟩ = some (.slice Yq4 nxR.length Dq4) ∧ w'.cell? ⟨wd1.heap.size, 0, none⟩ = some (.int .i64 t1) ∧ w'.cell? ⟨wd1.heap.size, 1, none⟩ = some (.int .i64 a1) ∧ w'.cell? ⟨wd1.heap.size, 2, none⟩ = some (.int .i64 u1) ∧ w'.cell? ⟨wd1.heap.size, 3, none⟩ = some (.slice Zd1 ac1.length ac1.length) ∧ w'.cell? ⟨wd1.heap.size, 4, none⟩ = some (.slice Yd1 nx1.length nx1.length) ∧ w'.cell? ⟨wd0.heap.size, 0, none⟩ = some (.int .i64 t0) ∧ w'.cell? ⟨wd0.heap.size, 1, none⟩ = some (.int .i64 a0) ∧ w'.cell? ⟨wd0.heap.size, 2, none⟩ = some (.int .i64 u0) ∧ w'.cell? ⟨wd0.heap.size, 3, none⟩ = some (.slice Zd0 ac0.length ac0.length) ∧ w'.cell? ⟨wd0.heap.size, 4, none⟩ = some (.slice Yd0 nx0.length nx0.length) ∧ w'.cell? ⟨bq1, 0, none⟩ = some (.int .i64 tR) ∧ w'.cell? ⟨bq1, 1, none⟩ = some (.int .i64 aR) ∧ w'.cell? ⟨bq1, 2, none⟩ = some (.int .i64 uR) ∧ w'.cell? ⟨bq1, 3, none⟩ = some (.slice Zq1 acR.length Cq1) ∧ w'.cell? ⟨bq1, 4, none⟩ = some (.slice Yq1 nxR.length Dq1) ∧ w'.cell? ⟨w.heap.size, 0, none⟩ = some (.int .i64 t0) ∧ w'.cell? ⟨w.heap.size, 1, none⟩ = some (.int .i64 a0) ∧ w'.cell? ⟨w.heap.size, 2, none⟩ = some (.int .i64 u0) ∧ w'.cell? ⟨w.heap.size, 3, none⟩ = some (.slice A0 ac0.length C0) ∧ w'.cell? ⟨w.heap.size, 4, none⟩ = some (.slice B0 nx0.length D0) ∧ w'.cell? ⟨w.heap.size + 1, 0, none⟩ = some (.int .i64 t1) ∧ w'.cell? ⟨w.heap.size + 1, 1, none⟩ = some (.int .i64 a1) ∧ w'.cell? ⟨w.heap.size + 1, 2, none⟩ = some (.int .i64 u1) ∧ w'.cell? ⟨w.heap.size + 1, 3, none⟩ = some (.slice A1 ac1.length C1) ∧ w'.cell? ⟨w.heap.size + 1, 4, none⟩ = some (.slice B1 nx1.length D1) ∧ True)
    (first | exact HR.out.drew.st | exact UE6.st | exact UT6.st | (go_keep; done))
    (first | (go_at_call 12; (with_reducible refine (KT0.out _ ?_).mono ?_); exact St.sees (l := [(wr4.heap.size, 0, .int .i64 tR), (wr4.heap.size, 1, .int .i64 aR), (wr4.heap.size, 2, .int .i64 uR), (wr4.heap.size, 3, .slice Zq4 acR.length Cq4), (wr4.heap.size, 4, .slice Yq4 nxR.length Dq4), (wd1.heap.size, 0, .int .i64 t1), (wd1.heap.size, 1, .int .i64 a1), (wd1.heap.size, 2, .int .i64 u1), (wd1.heap.size, 3, .slice Zd1 ac1.length ac1.length), (wd1.heap.size, 4, .slice Yd1 nx1.length nx1.length), (wd0.heap.size, 0, .int .i64 t0), (wd0.heap.size, 1, .int .i64 a0), (wd0.heap.size, 2, .int .i64 u0), (wd0.heap.size, 3, .slice Zd0 ac0.length ac0.length), (wd0.heap.size, 4, .slice Yd0 nx0.length nx0.length), (bq1, 0, .int .i64 tR), (bq1, 1, .int .i64 aR), (bq1, 2, .int .i64 uR), (bq1, 3, .slice Zq1 acR.length Cq1), (bq1, 4, .slice Yq1 nxR.length Dq1), (w.heap.size, 0, .int .i64 t0), (w.heap.size, 1, .int .i64 a0), (w.heap.size, 2, .int .i64 u0), (w.heap.size, 3, .slice A0 ac0.length C0), (w.heap.size, 4, .slice B0 nx0.length D0), (w.heap.size + 1, 0, .int .i64 t1), (w.heap.size + 1, 1, .int .i64 a1), (w.heap.size + 1, 2, .int .i64 u1), (w.heap.size + 1, 3, .slice A1 ac1.length C1), (w.heap.size + 1, 4, .slice B1 nx1.length D1)]) (by assumption); rintro e wt6 ⟨Zt6, Yt6, rfl, It6, hbt6⟩; have UT6 := HR.out.drew.resM It6 hbt6) | (go_at_call 14; refine (KE0.out _ _ _ _ _ UT6.tl.tl.tl.m1 UT6.tl.tl.tl.m2 UT6.m1 UT6.m2).mono ?_; rintro e we6 ⟨rfl, hbe6⟩; have UE6 := (UT6.below hbe6).tl))
  clear x0 x1 x2 x3 x4 x5 x6 x7 x8 x9 x10 x11 x12 x13 x14 x15 x16 x17 x18 x19 x20 x21 x22 x23 x24 x25 x26 x27 x28 x29 x30
  clear HR; have HR := Lib.hid UE6; clear UE6 UT6 It6 hbt6 hbe6
  obtain ⟨x0, x1, x2, x3, x4, x5, x6, x7, x8, x9, x10, x11, x12, x13, x14, x15, x16, x17, x18, x19, x20, x21, x22, x23, x24, x25, x26, x27, x28, x29, x30, _⟩ := HR.out.st
  go_wp2_with fail
  go_region_held3 (fun w' => Sees w w' ∧ w'.cell? ⟨wr4.heap.size, 0, none⟩ = some (.int .i64 tR) ∧ w'.cell? ⟨wr4.heap.size, 1, none⟩ = some (.int .i64 aR) ∧ w'.cell? ⟨wr4.heap.size, 2, none⟩ = some (.int .i64 uR) ∧ w'.cell? ⟨wr4.heap.size, 3, none⟩ = some (.slice Zq4 acR.length Cq4) ∧ w'.cell? ⟨wr4.heap.size, 4, none⟩ = some (.slice Yq4 nxR.length Dq4) ∧ w'.cell? ⟨wd1.heap.size, 0, none⟩ = some (.int .i64 t1) ∧ w'.cell? ⟨wd1.heap.size, 1, none⟩ = some (.int .i64 a1) ∧ w'.cell? ⟨wd1.heap.size, 2, none⟩ = some (.int .i64 u1) ∧ w'.cell? ⟨wd1.heap.size, 3, none⟩ = some (.slice Zd1 ac1.length ac1.length) ∧ w'.cell? ⟨wd1.heap.size, 4, none⟩ = some (.slice Yd1 nx1.length nx1.length) ∧ w'.cell? ⟨wd0.heap.size, 0, none⟩ = some (.int .i64 t0) ∧ w'.cell? ⟨wd0.heap.size, 1, none⟩ = some (.int .i64 a0) ∧ w'.cell? ⟨wd0.heap.size, 2, none⟩ = some (.int .i64 u0) ∧ w'.cell? ⟨wd0.heap.size, 3, none⟩ = some (.slice Zd0 ac0.length ac0.length) ∧ w'.cell? ⟨wd0.heap.size, 4, none⟩ = some (.slice Yd0 nx0.length nx0.length) ∧ w'.cell? ⟨bq1, 0, none⟩ = some (.int .i64 tR) ∧ w'.cell? ⟨bq1, 1, none⟩ = some (.int .i64 aR) ∧ w'.cell? ⟨bq1, 2, none⟩ = some (.int .i64 uR) ∧ w'.cell? ⟨bq1, 3, none⟩ = some (.slice Zq1 acR.length Cq1) ∧ w'.cell? ⟨bq1, 4, none⟩ = some (.slice Yq1 nxR.length Dq1) ∧ w'.cell? ⟨w.heap.size, 0, none⟩ = some (.int .i64 t0) ∧ w'.cell? ⟨w.heap.size, 1, none⟩ = some (.int .i64 a0) ∧ w'.cell? ⟨w.heap.size, 2, none⟩ = some (.int .i64 u0) ∧ w'.cell? ⟨w.heap.size, 3, none⟩ = some (.slice A0 ac0.length C0) ∧ w'.cell? ⟨w.heap.size, 4, none⟩ = some (.slice B0 nx0.length D0) ∧ w'.cell? ⟨w.heap.size + 1, 0, none⟩ = some (.int .i64 t1) ∧ w'.cell? ⟨w.heap.size + 1, 1, none⟩ = some (.int .i64 a1) ∧ w'.cell? ⟨w.heap.size + 1, 2, none⟩ = some (.int .i64 u1) ∧ w'.cell? ⟨w.heap.size + 1, 3, none⟩ = some (.slice A1 ac1.length C1) ∧ w'.cell? ⟨w.heap.size + 1, 4, none⟩ = some (.slice B1 nx1.length D1) ∧ True)
    (first | exact HR.out.drew.st | exact UE7.st | exact UT7.st | (go_keep; done))
    (first | (go_at_call 12; (with_reducible refine (KT1.out _ ?_).mono ?_); exact St.sees (l := [(wr4.heap.size, 0, .int .i64 tR), (wr4.heap.size, 1, .int .i64 aR), (wr4.heap.size, 2, .int .i64 uR), (wr4.heap.size, 3, .slice Zq4 acR.length Cq4), (wr4.heap.size, 4, .slice Yq4 nxR.length Dq4), (wd1.heap.size, 0, .int .i64 t1), (wd1.heap.size, 1, .int .i64 a1), (wd1.heap.size, 2, .int .i64 u1), (wd1.heap.size, 3, .slice Zd1 ac1.length ac1.length), (wd1.heap.size, 4, .slice Yd1 nx1.length nx1.length), (wd0.heap.size, 0, .int .i64 t0), (wd0.heap.size, 1, .int .i64 a0), (wd0.heap.size, 2, .int .i64 u0), (wd0.heap.size, 3, .slice Zd0 ac0.length ac0.length), (wd0.heap.size, 4, .slice Yd0 nx0.length nx0.length), (bq1, 0, .int .i64 tR), (bq1, 1, .int .i64 aR), (bq1, 2, .int .i64 uR), (bq1, 3, .slice Zq1 acR.length Cq1), (bq1, 4, .slice Yq1 nxR.length Dq1), (w.heap.size, 0, .int .i64 t0), (w.heap.size, 1, .int .i64 a0), (w.heap.size, 2, .int .i64 u0), (w.heap.size, 3, .slice A0 ac0.length C0), (w.heap.size, 4, .slice B0 nx0.length D0), (w.heap.size + 1, 0, .int .i64 t1), (w.heap.size + 1, 1, .int .i64 a1), (w.heap.size + 1, 2, .int .i64 u1), (w.heap.size + 1, 3, .slice A1 ac1.length C1), (w.heap.size + 1, 4, .slice B1 nx1.length D1)]) (by assumption); rintro e wt7 ⟨Zt7, Yt7, rfl, It7, hbt7⟩; have UT7 := HR.out.drew.resM It7 hbt7) | (go_at_call 14; refine (KE1.out _ _ _ _ _ UT7.tl.tl.m1 UT7.tl.tl.m2 UT7.m1 UT7.m2).mono ?_; rintro e we7 ⟨rfl, hbe7⟩; have UE7 := (UT7.below hbe7).tl))
  clear x0 x1 x2 x3 x4 x5 x6 x7 x8 x9 x10 x11 x12 x13 x14 x15 x16 x17 x18 x19 x20 x21 x22 x23 x24 x25 x26 x27 x28 x29 x30
  clear HR; have HR := Lib.hid UE7; clear UE7 UT7 It7 hbt7 hbe7
  obtain ⟨x0, x1, x2, x3, x4, x5, x6, x7, x8, x9, x10, x11, x12, x13, x14, x15, x16, x17, x18, x19, x20, x21, x22, x23, x24, x25, x26, x27, x28, x29, x30, _⟩ := HR.out.st
  go_wp2_with fail
  refine (KM0.out _ _ _ _ _ _ _ HR.out.tl.tl.hd HR.out.tl.tl.top).mono ?_
  rintro e wm8 ⟨rfl, hb⟩
  have T := Gs.mark (O1 := [ownM acR nxR loq4 hiq4 Zq4 Yq4, ownM ac1 nx1 lod1 hid1 Zd1 Yd1]) (O2 := [ownM acR nxR loq1 hiq1 Zq1 Yq1]) HR.out hb
  clear x0 x1 x2 x3 x4 x5 x6 x7 x8 x9 x10 x11 x12 x13 x14 x15 x16 x17 x18 x19 x20 x21 x22 x23 x24 x25 x26 x27 x28 x29 x30
  clear HR hb; have HR := Lib.hid T; clear T
  have HR2 : Hid (Gs w [(wr4.heap.size, 0, .int .i64 tR), (wr4.heap.size, 1, .int .i64 aR), (wr4.heap.size, 2, .int .i64 uR), (wr4.heap.size, 3, .slice Zq4 acR.length Cq4), (wr4.heap.size, 4, .slice Yq4 nxR.length Dq4), (wd1.heap.size, 0, .int .i64 t1), (wd1.heap.size, 1, .int .i64 a1), (wd1.heap.size, 2, .int .i64 u1), (wd1.heap.size, 3, .slice Zd1 ac1.length ac1.length), (wd1.heap.size, 4, .slice Yd1 nx1.length nx1.length), (wd0.heap.size, 0, .int .i64 t0), (wd0.heap.size, 1, .int .i64 a0), (wd0.heap.size, 2, .int .i64 u0), (wd0.heap.size, 3, .slice Zd0 ac0.length ac0.length), (wd0.heap.size, 4, .slice Yd0 nx0.length nx0.length), (bq1, 0, .int .i64 tR), (bq1, 1, .int .i64 aR), (bq1, 2, .int .i64 uR), (bq1, 3, .slice Zq1 acR.length Cq1), (bq1, 4, .slice Yq1 nxR.length Dq1), (w.heap.size, 0, .int .i64 t0), (w.heap.size, 1, .int .i64 a0), (w.heap.size, 2, .int .i64 u0), (w.heap.size, 3, .slice A0 ac0.length C0), (w.heap.size, 4, .slice B0 nx0.length D0), (w.heap.size + 1, 0, .int .i64 t1), (w.heap.size + 1, 1, .int .i64 a1), (w.heap.size + 1, 2, .int .i64 u1), (w.heap.size + 1, 3, .slice A1 ac1.length C1), (w.heap.size + 1, 4, .slice B1 nx1.length D1)] [ownM acR nxR loq4 hiq4 Zq4 Yq4, ownM ac1 nx1 lod1 hid1 Zd1 Yd1, ownM acR nxR loq1 hiq1 Zq1 Yq1] wm8) := HR.out
  clear HR; have HR := HR2; clear HR2
  obtain ⟨x0, x1, x2, x3, x4, x5, x6, x7, x8, x9, x10, x11, x12, x13, x14, x15, x16, x17, x18, x19, x20, x21, x22, x23, x24, x25, x26, x27, x28, x29, x30, _⟩ := HR.out.st
  go_wp2_with fail
  refine (KM1.out _ _ _ _ _ _ _ HR.out.tl.hd HR.out.tl.top).mono ?_
  rintro e wm9 ⟨rfl, hb⟩
  have T := Gs.mark (O1 := [ownM acR nxR loq4 hiq4 Zq4 Yq4]) (O2 := [ownM acR nxR loq1 hiq1 Zq1 Yq1]) HR.out hb
  clear x0 x1 x2 x3 x4 x5 x6 x7 x8 x9 x10 x11 x12 x13 x14 x15 x16 x17 x18 x19 x20 x21 x22 x23 x24 x25 x26 x27 x28 x29 x30
  clear HR hb; have HR := Lib.hid T; clear T
  have HR2 : Hid (Gs w [(wr4.heap.size, 0, .int .i64 tR), (wr4.heap.size, 1, .int .i64 aR), (wr4.heap.size, 2, .int .i64 uR), (wr4.heap.size, 3, .slice Zq4 acR.length Cq4), (wr4.heap.size, 4, .slice Yq4 nxR.length Dq4), (wd1.heap.size, 0, .int .i64 t1), (wd1.heap.size, 1, .int .i64 a1), (wd1.heap.size, 2, .int .i64 u1), (wd1.heap.size, 3, .slice Zd1 ac1.length ac1.length), (wd1.heap.size, 4, .slice Yd1 nx1.length nx1.length), (wd0.heap.size, 0, .int .i64 t0), (wd0.heap.size, 1, .int .i64 a0), (wd0.heap.size, 2, .int .i64 u0), (wd0.heap.size, 3, .slice Zd0 ac0.length ac0.length), (wd0.heap.size, 4, .slice Yd0 nx0.length nx0.length), (bq1, 0, .int .i64 tR), (bq1, 1, .int .i64 aR), (bq1, 2, .int .i64 uR), (bq1, 3, .slice Zq1 acR.length Cq1), (bq1, 4, .slice Yq1 nxR.length Dq1), (w.heap.size, 0, .int .i64 t0), (w.heap.size, 1, .int .i64 a0), (w.heap.size, 2, .int .i64 u0), (w.heap.size, 3, .slice A0 ac0.length C0), (w.heap.size, 4, .slice B0 nx0.length D0), (w.heap.size + 1, 0, .int .i64 t1), (w.heap.size + 1, 1, .int .i64 a1), (w.heap.size + 1, 2, .int .i64 u1), (w.heap.size + 1, 3, .slice A1 ac1.length C1), (w.heap.size + 1, 4, .slice B1 nx1.length D1)] [ownM acR nxR loq4 hiq4 Zq4 Yq4, ownM acR nxR loq1 hiq1 Zq1 Yq1] wm9) := HR.out
  clear HR; have HR := HR2; clear HR2
  obtain ⟨x0, x1, x2, x3, x4, x5, x6, x7, x8, x9, x10, x11, x12, x13, x14, x15, x16, x17, x18, x19, x20, x21, x22, x23, x24, x25, x26, x27, x28, x29, x30, _⟩ := HR.out.st
  go_wp2_with fail
  refine (KQ.out _ _ _ _ _ _ _ _ _ (HR.out.m1) (HR.out.m2) (HR.out.tl.m1) (HR.out.tl.m2)).mono ?_
  rintro e wq10 ⟨rfl, hb⟩
  have T := HR.out.below hb
  clear x0 x1 x2 x3 x4 x5 x6 x7 x8 x9 x10 x11 x12 x13 x14 x15 x16 x17 x18 x19 x20 x21 x22 x23 x24 x25 x26 x27 x28 x29 x30
  clear HR hb; have HR := Lib.hid T; clear T
  obtain ⟨x0, x1, x2, x3, x4, x5, x6, x7, x8, x9, x10, x11, x12, x13, x14, x15, x16, x17, x18, x19, x20, x21, x22, x23, x24, x25, x26, x27, x28, x29, x30, _⟩ := HR.out.st
  go_wp2_with fail
  refine (KU.out _ _ _ _ _ _ _ HR.out.hd HR.out.top).mono ?_
  rintro e wm11 ⟨rfl, hw, hb⟩
  have T := HR.out.markedM hb hw
  clear x0 x1 x2 x3 x4 x5 x6 x7 x8 x9 x10 x11 x12 x13 x14 x15 x16 x17 x18 x19 x20 x21 x22 x23 x24 x25 x26 x27 x28 x29 x30
  clear HR hb hw; have HR := Lib.hid T; clear T
  obtain ⟨x0, x1, x2, x3, x4, x5, x6, x7, x8, x9, x10, x11, x12, x13, x14, x15, x16, x17, x18, x19, x20, x21, x22, x23, x24, x25, x26, x27, x28, x29, x30, _⟩ := HR.out.st
  go_wp2_with fail
  refine (KH.out _ _ _ _ _ (HR.out.m1) (HR.out.m2)).mono ?_
  rintro e wh12 ⟨rfl, hb⟩
  have T := HR.out.below hb
  clear x0 x1 x2 x3 x4 x5 x6 x7 x8 x9 x10 x11 x12 x13 x14 x15 x16 x17 x18 x19 x20 x21 x22 x23 x24 x25 x26 x27 x28 x29 x30
  clear HR hb; have HR := Lib.hid T; clear T
  obtain ⟨x0, x1, x2, x3, x4, x5, x6, x7, x8, x9, x10, x11, x12, x13, x14, x15, x16, x17, x18, x19, x20, x21, x22, x23, x24, x25, x26, x27, x28, x29, x30, _⟩ := HR.out.st
  go_wp2_with fail
  go_cut [15, 16] (fun sp sc wx => ∃ (bq13 loq13 hiq13 : Nat) (Zq13 Yq13 : Option Addr) (Cq13 Dq13 : Nat), sp = .pointer (some ⟨bq13, 0, none⟩) ∧ sc = .int .i64 q ∧ Gs w [(bq13, 0, .int .i64 tR), (bq13, 1, .int .i64 aR), (bq13, 2, .int .i64 uR), (bq13, 3, .slice Zq13 acR.length Cq13), (bq13, 4, .slice Yq13 nxR.length Dq13), (wr4.heap.size, 0, .int .i64 tR), (wr4.heap.size, 1, .int .i64 aR), (wr4.heap.size, 2, .int .i64 uR), (wr4.heap.size, 3, .slice Zq4 acR.length Cq4), (wr4.heap.size, 4, .slice Yq4 nxR.length Dq4), (wd1.heap.size, 0, .int .i64 t1), (wd1.heap.size, 1, .int .i64 a1), (wd1.heap.size, 2, .int .i64 u1), (wd1.heap.size, 3, .slice Zd1 ac1.length ac1.length), (wd1.heap.size, 4, .slice Yd1 nx1.length nx1.length), (wd0.heap.size, 0, .int .i64 t0), (wd0.heap.size, 1, .int .i64 a0), (wd0.heap.size, 2, .int .i64 u0), (wd0.heap.size, 3, .slice Zd0 ac0.length ac0.length), (wd0.heap.size, 4, .slice Yd0 nx0.length nx0.length), (bq1, 0, .int .i64 tR), (bq1, 1, .int .i64 aR), (bq1, 2, .int .i64 uR), (bq1, 3, .slice Zq1 acR.length Cq1), (bq1, 4, .slice Yq1 nxR.length Dq1), (w.heap.size, 0, .int .i64 t0), (w.heap.size, 1, .int .i64 a0), (w.heap.size, 2, .int .i64 u0), (w.heap.size, 3, .slice A0 ac0.length C0), (w.heap.size, 4, .slice B0 nx0.length D0), (w.heap.size + 1, 0, .int .i64 t1), (w.heap.size + 1, 1, .int .i64 a1), (w.heap.size + 1, 2, .int .i64 u1), (w.heap.size + 1, 3, .slice A1 ac1.length C1), (w.heap.size + 1, 4, .slice B1 nx1.length D1)] (ownM acR nxR loq13 hiq13 Zq13 Yq13 :: [ownM (mkL (mkE mb) List.length 1 acR) (mkL (mkL (mkE mb) List.length) (szL List.length) (1 + (szL List.length acR : Nat)) nxR) loq4 hiq4 Zq4 Yq4, ownM acR nxR loq1 hiq1 Zq1 Yq1]) wx)
  case first =>
    clear x0 x1 x2 x3 x4 x5 x6 x7 x8 x9 x10 x11 x12 x13 x14 x15 x16 x17 x18 x19 x20 x21 x22 x23 x24 x25 x26 x27 x28 x29 x30
    refine wp_region_held_drew (S := fun w' => St w [(wr4.heap.size, 0, .int .i64 tR), (wr4.heap.size, 1, .int .i64 aR), (wr4.heap.size, 2, .int .i64 uR), (wr4.heap.size, 3, .slice Zq4 acR.length Cq4), (wr4.heap.size, 4, .slice Yq4 nxR.length Dq4), (wd1.heap.size, 0, .int .i64 t1), (wd1.heap.size, 1, .int .i64 a1), (wd1.heap.size, 2, .int .i64 u1), (wd1.heap.size, 3, .slice Zd1 ac1.length ac1.length), (wd1.heap.size, 4, .slice Yd1 nx1.length nx1.length), (wd0.heap.size, 0, .int .i64 t0), (wd0.heap.size, 1, .int .i64 a0), (wd0.heap.size, 2, .int .i64 u0), (wd0.heap.size, 3, .slice Zd0 ac0.length ac0.length), (wd0.heap.size, 4, .slice Yd0 nx0.length nx0.length), (bq1, 0, .int .i64 tR), (bq1, 1, .int .i64 aR), (bq1, 2, .int .i64 uR), (bq1, 3, .slice Zq1 acR.length Cq1), (bq1, 4, .slice Yq1 nxR.length Dq1), (w.heap.size, 0, .int .i64 t0), (w.heap.size, 1, .int .i64 a0), (w.heap.size, 2, .int .i64 u0), (w.heap.size, 3, .slice A0 ac0.length C0), (w.heap.size, 4, .slice B0 nx0.length D0), (w.heap.size + 1, 0, .int .i64 t1), (w.heap.size + 1, 1, .int .i64 a1), (w.heap.size + 1, 2, .int .i64 u1), (w.heap.size + 1, 3, .slice A1 ac1.length C1), (w.heap.size + 1, 4, .slice B1 nx1.length D1)] w') (by kernel_rfl) HR.out.drew.st (fun HS => ?_)
    obtain ⟨w20, ew20⟩ : ∃ wn, wn = _ := ⟨_, rfl⟩
    have G0 : Hid (Gs w [(wr4.heap.size, 0, .int .i64 tR), (wr4.heap.size, 1, .int .i64 aR), (wr4.heap.size, 2, .int .i64 uR), (wr4.heap.size, 3, .slice Zq4 acR.length Cq4), (wr4.heap.size, 4, .slice Yq4 nxR.length Dq4), (wd1.heap.size, 0, .int .i64 t1), (wd1.heap.size, 1, .int .i64 a1), (wd1.heap.size, 2, .int .i64 u1), (wd1.heap.size, 3, .slice Zd1 ac1.length ac1.length), (wd1.heap.size, 4, .slice Yd1 nx1.length nx1.length), (wd0.heap.size, 0, .int .i64 t0), (wd0.heap.size, 1, .int .i64 a0), (wd0.heap.size, 2, .int .i64 u0), (wd0.heap.size, 3, .slice Zd0 ac0.length ac0.length), (wd0.heap.size, 4, .slice Yd0 nx0.length nx0.length), (bq1, 0, .int .i64 tR), (bq1, 1, .int .i64 aR), (bq1, 2, .int .i64 uR), (bq1, 3, .slice Zq1 acR.length Cq1), (bq1, 4, .slice Yq1 nxR.length Dq1), (w.heap.size, 0, .int .i64 t0), (w.heap.size, 1, .int .i64 a0), (w.heap.size, 2, .int .i64 u0), (w.heap.size, 3, .slice A0 ac0.length C0), (w.heap.size, 4, .slice B0 nx0.length D0), (w.heap.size + 1, 0, .int .i64 t1), (w.heap.size + 1, 1, .int .i64 a1), (w.heap.size + 1, 2, .int .i64 u1), (w.heap.size + 1, 3, .slice A1 ac1.length C1), (w.heap.size + 1, 4, .slice B1 nx1.length D1)] [ownM (mkL (mkE mb) List.length 1 acR) (mkL (mkL (mkE mb) List.length) (szL List.length) (1 + (szL List.length acR : Nat)) nxR) loq4 hiq4 Zq4 Yq4, ownM acR nxR loq1 hiq1 Zq1 Yq1] w20) := by rw [ew20]; exact HR.out.drew
    rw [← ew20] at HS ⊢
    clear ew20 HR
    have HR := G0; clear G0
    refine wpAnyH_take (i := 0) (oi := { dst := some 95, op := Op.load 27 (Operand.tmp 2), type := 27, pos := "exact.go:6258", after := #[], guard := none }) (v := .agg #[.int .i64 t0, .int .i64 a0, .int .i64 u0, .slice A0 ac0.length C0, .slice B0 nx0.length D0]) rfl (by kernel_rfl) (by kernel_rfl) (by kernel_rfl) (fun _ _ _ h => h) (Or.inl ⟨rfl, fun W hW => by (obtain ⟨_, y0_, y1_, y2_, y3_, y4_, y5_, y6_, y7_, y8_, y9_, y10_, y11_, y12_, y13_, y14_, y15_, y16_, y17_, y18_, y19_, y20_, y21_, y22_, y23_, y24_, y25_, y26_, y27_, y28_, y29_, _⟩ := hW; go_simp; try rfl)⟩) HS ?_
    try simp only [Act.put, List.setIfInBounds_toArray, List.set_cons_zero, List.set_cons_succ]
    refine wpAnyH_take (i := 2) (oi := { dst := some 97, op := Op.load 27 (Operand.tmp 3), type := 27, pos := "exact.go:6258", after := #[], guard := none }) (v := .agg #[.int .i64 t1, .int .i64 a1, .int .i64 u1, .slice A1 ac1.length C1, .slice B1 nx1.length D1]) rfl (by kernel_rfl) (by kernel_rfl) (by kernel_rfl) (fun _ _ _ h => h) (Or.inl ⟨rfl, fun W hW => by (obtain ⟨_, y0_, y1_, y2_, y3_, y4_, y5_, y6_, y7_, y8_, y9_, y10_, y11_, y12_, y13_, y14_, y15_, y16_, y17_, y18_, y19_, y20_, y21_, y22_, y23_, y24_, y25_, y26_, y27_, y28_, y29_, _⟩ := hW; go_simp; try rfl)⟩) HS ?_
    try simp only [Act.put, List.setIfInBounds_toArray, List.set_cons_zero, List.set_cons_succ]
    refine wpAnyH_ready (rs := [1, 8]) (by kernel_rfl) (by simp) ?_
    refine (AllReadyH.cons (o := { dst := some 96, op := Op.call { callee := Callee.value (Operand.func 12), args := #[Operand.tmp 95], argTypes := #[27] }, type := 31, pos := "exact.go:6258", after := #[{ on := 0, ground := Ground.data }], guard := none }) rfl (fun K hK => ?_) (AllReadyH.cons (o := { dst := some 15, op := Op.alloc 31, type := 0, pos := "exact.go:6258", after := #[], guard := none }) rfl (fun K hK => ?_) AllReadyH.nil))
    · go_simp
      refine (KT0.out _ HR.out.st.1).mono ?_
      rintro e wn1 ⟨Zc0, Yc0, rfl, Ic, hb⟩
      have H2 := Lib.hid (HR.out.resM Ic hb)
      clear HR; have HR := H2; clear H2 hb
      clear HS; have HS := HR.out.st
      refine hK.out _ _ HS (fun _ => ?_)
      clear hK K
      try simp only [Act.put, List.setIfInBounds_toArray, List.set_cons_zero, List.set_cons_succ]
      refine wpAnyH_ready (rs := [3, 8]) (by kernel_rfl) (by simp) ?_
      refine (AllReadyH.cons (o := { dst := some 98, op := Op.call { callee := Callee.value (Operand.func 12), args := #[Operand.tmp 97], argTypes := #[27] }, type := 31, pos := "exact.go:6258", after := #[{ on := 2, ground := Ground.data }, { on := 1, ground := Ground.chain }], guard := none }) rfl (fun K hK => ?_) (AllReadyH.cons (o := { dst := some 15, op := Op.alloc 31, type := 0, pos := "exact.go:6258", after := #[], guard := none }) rfl (fun K hK => ?_) AllReadyH.nil))
      · go_simp
        refine (KT1.out _ HR.out.st.1).mono ?_
        rintro e wn2 ⟨Zc1, Yc1, rfl, Ic, hb⟩
        have H2 := Lib.hid (HR.out.resM Ic hb)
        clear HR; have HR := H2; clear H2 hb
        clear HS; have HS := HR.out.st
        refine hK.out _ _ HS (fun _ => ?_)
        clear hK K
        try simp only [Act.put, List.setIfInBounds_toArray, List.set_cons_zero, List.set_cons_succ]
        refine wpAnyH_ready (rs := [4, 8]) (by kernel_rfl) (by simp) ?_
        refine (AllReadyH.cons (o := { dst := some 99, op := Op.call { callee := Callee.value (Operand.func 13), args := #[Operand.tmp 96, Operand.tmp 98], argTypes := #[31, 31] }, type := 32, pos := "exact.go:6258", after := #[{ on := 1, ground := Ground.data }, { on := 3, ground := Ground.data }, { on := 3, ground := Ground.chain }], guard := none }) rfl (fun K hK => ?_) (AllReadyH.cons (o := { dst := some 15, op := Op.alloc 31, type := 0, pos := "exact.go:6258", after := #[], guard := none }) rfl (fun K hK => ?_) AllReadyH.nil))
        · go_simp
          refine (KG2.out _ _ _ _ _ (HR.out.tl.m1) (HR.out.tl.m2) (HR.out.m1) (HR.out.m2)).mono ?_
          rintro e wn3 ⟨Zr, Yr, Cr, Dr, rfl, Ir, hb⟩
          have H2 := Lib.hid ((HR.out.resM Ir hb).skip.skip)
          clear HR; have HR := H2; clear H2 hb
          clear HS; have HS := HR.out.st
          refine hK.out _ _ HS (fun _ => ?_)
          clear hK K
          try simp only [Act.put, List.setIfInBounds_toArray, List.set_cons_zero, List.set_cons_succ]
          refine wpAnyH_take (i := 5) (oi := { dst := some 94, op := Op.move (Operand.tmp 99), type := 32, pos := "exact.go:6258", after := #[{ on := 4, ground := Ground.data }], guard := none }) (v := .tuple #[.agg #[.int .i64 tR, .int .i64 aR, .int .i64 uR, .slice Zr acR.length Cr, .slice Yr nxR.length Dr], .int .i64 q]) rfl (by kernel_rfl) (by kernel_rfl) (by kernel_rfl) (fun _ _ _ h => h) (Or.inl ⟨rfl, fun W hW => by (obtain ⟨_, y0_, y1_, y2_, y3_, y4_, y5_, y6_, y7_, y8_, y9_, y10_, y11_, y12_, y13_, y14_, y15_, y16_, y17_, y18_, y19_, y20_, y21_, y22_, y23_, y24_, y25_, y26_, y27_, y28_, y29_, _⟩ := hW; go_simp; try rfl)⟩) HS ?_
          try simp only [Act.put, List.setIfInBounds_toArray, List.set_cons_zero, List.set_cons_succ]
          refine wpAnyH_take (i := 6) (oi := { dst := some 100, op := Op.extract (Operand.tmp 94) 0, type := 31, pos := "exact.go:6258", after := #[{ on := 5, ground := Ground.data }], guard := none }) (v := .agg #[.int .i64 tR, .int .i64 aR, .int .i64 uR, .slice Zr acR.length Cr, .slice Yr nxR.length Dr]) rfl (by kernel_rfl) (by kernel_rfl) (by kernel_rfl) (fun _ _ _ h => h) (Or.inl ⟨rfl, fun W hW => by (obtain ⟨_, y0_, y1_, y2_, y3_, y4_, y5_, y6_, y7_, y8_, y9_, y10_, y11_, y12_, y13_, y14_, y15_, y16_, y17_, y18_, y19_, y20_, y21_, y22_, y23_, y24_, y25_, y26_, y27_, y28_, y29_, _⟩ := hW; go_simp; try rfl)⟩) HS ?_
          try simp only [Act.put, List.setIfInBounds_toArray, List.set_cons_zero, List.set_cons_succ]
          refine wpAnyH_take (i := 7) (oi := { dst := some 101, op := Op.extract (Operand.tmp 94) 1, type := 2, pos := "exact.go:6258", after := #[{ on := 5, ground := Ground.data }, { on := 9, ground := Ground.gcOnly Departure.lateStores }], guard := none }) (v := .int .i64 q) rfl (by kernel_rfl) (by kernel_rfl) (by kernel_rfl) (fun _ _ _ h => h) (Or.inl ⟨rfl, fun W hW => by (obtain ⟨_, y0_, y1_, y2_, y3_, y4_, y5_, y6_, y7_, y8_, y9_, y10_, y11_, y12_, y13_, y14_, y15_, y16_, y17_, y18_, y19_, y20_, y21_, y22_, y23_, y24_, y25_, y26_, y27_, y28_, y29_, _⟩ := hW; go_simp; try rfl)⟩) HS ?_
          try simp only [Act.put, List.setIfInBounds_toArray, List.set_cons_zero, List.set_cons_succ]
          refine wpAnyH_ready (rs := [8]) (by kernel_rfl) (by simp) ?_
          refine (AllReadyH.cons (o := { dst := some 15, op := Op.alloc 31, type := 0, pos := "exact.go:6258", after := #[], guard := none }) rfl (fun K hK => ?_) AllReadyH.nil)
          · go_simp
            have H2 := HR.out.boxed #[.int .i64 0, .int .i64 0, .int .i64 0, .slice none 0 0, .slice none 0 0] 31
            obtain ⟨wn4, ewn⟩ : ∃ W, W = World.alloc wn3 (.cells #[.int .i64 0, .int .i64 0, .int .i64 0, .slice none 0 0, .slice none 0 0] 31 (0, 0)) := ⟨_, rfl⟩
            obtain ⟨wn4b, ebn⟩ : ∃ n, n = wn3.heap.size := ⟨_, rfl⟩
            rw [← ewn, ← ebn] at H2 ⊢
            clear HR ewn ebn; have HR := Lib.hid H2; clear H2
            clear HS; have HS := HR.out.st
            refine hK.out _ _ HS (fun _ => ?_)
            clear hK K
            try simp only [Act.put, List.setIfInBounds_toArray, List.set_cons_zero, List.set_cons_succ]
            obtain ⟨c0, c1, c2, c3, c4, g0, g1, g2, g3, g4⟩ := HR.out.facts5
            refine wpAnyH_ready (rs := [9]) (by kernel_rfl) (by simp) ?_
            refine AllReadyH.cons (o := { dst := none, op := Op.store 31 (Operand.tmp 15) (Operand.tmp 100), type := 0, pos := "exact.go:6258", after := #[{ on := 8, ground := Ground.data }, { on := 6, ground := Ground.data }, { on := 4, ground := Ground.chain }, { on := 0, ground := Ground.phase }, { on := 1, ground := Ground.phase }, { on := 2, ground := Ground.phase }, { on := 3, ground := Ground.phase }, { on := 4, ground := Ground.phase }, { on := 5, ground := Ground.phase }, { on := 6, ground := Ground.phase }, { on := 7, ground := Ground.textOnly Departure.lateStores }, { on := 8, ground := Ground.phase }], guard := none }) rfl (fun K hK => ?_) AllReadyH.nil
            go_simp
            have HS' : St w [(wr4.heap.size, 0, .int .i64 tR), (wr4.heap.size, 1, .int .i64 aR), (wr4.heap.size, 2, .int .i64 uR), (wr4.heap.size, 3, .slice Zq4 acR.length Cq4), (wr4.heap.size, 4, .slice Yq4 nxR.length Dq4), (wd1.heap.size, 0, .int .i64 t1), (wd1.heap.size, 1, .int .i64 a1), (wd1.heap.size, 2, .int .i64 u1), (wd1.heap.size, 3, .slice Zd1 ac1.length ac1.length), (wd1.heap.size, 4, .slice Yd1 nx1.length nx1.length), (wd0.heap.size, 0, .int .i64 t0), (wd0.heap.size, 1, .int .i64 a0), (wd0.heap.size, 2, .int .i64 u0), (wd0.heap.size, 3, .slice Zd0 ac0.length ac0.length), (wd0.heap.size, 4, .slice Yd0 nx0.length nx0.length), (bq1, 0, .int .i64 tR), (bq1, 1, .int .i64 aR), (bq1, 2, .int .i64 uR), (bq1, 3, .slice Zq1 acR.length Cq1), (bq1, 4, .slice Yq1 nxR.length Dq1), (w.heap.size, 0, .int .i64 t0), (w.heap.size, 1, .int .i64 a0), (w.heap.size, 2, .int .i64 u0), (w.heap.size, 3, .slice A0 ac0.length C0), (w.heap.size, 4, .slice B0 nx0.length D0), (w.heap.size + 1, 0, .int .i64 t1), (w.heap.size + 1, 1, .int .i64 a1), (w.heap.size + 1, 2, .int .i64 u1), (w.heap.size + 1, 3, .slice A1 ac1.length C1), (w.heap.size + 1, 4, .slice B1 nx1.length D1)] _ := (HR.out.fill5 (.int .i64 tR) (.int .i64 aR) (.int .i64 uR) (.slice Zr acR.length Cr) (.slice Yr nxR.length Dr)).st
            refine hK.out _ _ HS' (fun _ => ?_)
            clear hK K HS
            have HS := HS'; clear HS'
            try simp only [Act.put, List.setIfInBounds_toArray, List.set_cons_zero, List.set_cons_succ]
            refine wpAnyH_take (i := 10) (oi := { dst := some 16, op := Op.assign (Operand.tmp 101), type := 2, pos := "exact.go:6258", after := #[{ on := 7, ground := Ground.data }, { on := 9, ground := Ground.chain }, { on := 0, ground := Ground.phase }, { on := 1, ground := Ground.phase }, { on := 2, ground := Ground.phase }, { on := 3, ground := Ground.phase }, { on := 4, ground := Ground.phase }, { on := 5, ground := Ground.phase }, { on := 6, ground := Ground.phase }, { on := 7, ground := Ground.phase }, { on := 8, ground := Ground.phase }, { on := 9, ground := Ground.phase }], guard := none }) (v := .int .i64 q) rfl (by kernel_rfl) (by kernel_rfl) (by kernel_rfl) (fun _ _ _ h => h) (Or.inl ⟨rfl, fun W hW => by (obtain ⟨_, y0_, y1_, y2_, y3_, y4_, y5_, y6_, y7_, y8_, y9_, y10_, y11_, y12_, y13_, y14_, y15_, y16_, y17_, y18_, y19_, y20_, y21_, y22_, y23_, y24_, y25_, y26_, y27_, y28_, y29_, _⟩ := hW; go_simp; try rfl)⟩) HS ?_
            try simp only [Act.put, List.setIfInBounds_toArray, List.set_cons_zero, List.set_cons_succ]
            refine wpAnyH_done (by kernel_rfl) ?_ _
            clear HS
            go_wp2_with fail
            go_meet
            exact ⟨_, _, _, _, _, _, _, rfl, rfl, HR.out.done5 _ _ _ _ _⟩
        · go_simp
          have H2 := HR.out.boxed #[.int .i64 0, .int .i64 0, .int .i64 0, .slice none 0 0, .slice none 0 0] 31
          obtain ⟨wn5, ewn⟩ : ∃ W, W = World.alloc wn2 (.cells #[.int .i64 0, .int .i64 0, .int .i64 0, .slice none 0 0, .slice none 0 0] 31 (0, 0)) := ⟨_, rfl⟩
          obtain ⟨wn5b, ebn⟩ : ∃ n, n = wn2.heap.size := ⟨_, rfl⟩
          rw [← ewn, ← ebn] at H2 ⊢
          clear HR ewn ebn; have HR := Lib.hid H2; clear H2
          clear HS; have HS := HR.out.st
          refine hK.out _ _ HS (fun _ => ?_)
          clear hK K
          try simp only [Act.put, List.setIfInBounds_toArray, List.set_cons_zero, List.set_cons_succ]
          refine wpAnyH_ready (rs := [4]) (by kernel_rfl) (by simp) ?_
          refine (AllReadyH.cons (o := { dst := some 99, op := Op.call { callee := Callee.value (Operand.func 13), args := #[Operand.tmp 96, Operand.tmp 98], argTypes := #[31, 31] }, type := 32, pos := "exact.go:6258", after := #[{ on := 1, ground := Ground.data }, { on := 3, ground := Ground.data }, { on := 3, ground := Ground.chain }], guard := none }) rfl (fun K hK => ?_) AllReadyH.nil)
          · go_simp
            refine (KG2.out _ _ _ _ _ (HR.out.tl.m1) (HR.out.tl.m2) (HR.out.m1) (HR.out.m2)).mono ?_
            rintro e wn6 ⟨Zr, Yr, Cr, Dr, rfl, Ir, hb⟩
            have H2 := Lib.hid ((HR.out.resM Ir hb).skip.skip)
            clear HR; have HR := H2; clear H2 hb
            clear HS; have HS := HR.out.st
            refine hK.out _ _ HS (fun _ => ?_)
            clear hK K
            try simp only [Act.put, List.setIfInBounds_toArray, List.set_cons_zero, List.set_cons_succ]
            refine wpAnyH_take (i := 5) (oi := { dst := some 94, op := Op.move (Operand.tmp 99), type := 32, pos := "exact.go:6258", after := #[{ on := 4, ground := Ground.data }], guard := none }) (v := .tuple #[.agg #[.int .i64 tR, .int .i64 aR, .int .i64 uR, .slice Zr acR.length Cr, .slice Yr nxR.length Dr], .int .i64 q]) rfl (by kernel_rfl) (by kernel_rfl) (by kernel_rfl) (fun _ _ _ h => h) (Or.inl ⟨rfl, fun W hW => by (obtain ⟨_, y0_, y1_, y2_, y3_, y4_, y5_, y6_, y7_, y8_, y9_, y10_, y11_, y12_, y13_, y14_, y15_, y16_, y17_, y18_, y19_, y20_, y21_, y22_, y23_, y24_, y25_, y26_, y27_, y28_, y29_, _⟩ := hW; go_simp; try rfl)⟩) HS ?_
            try simp only [Act.put, List.setIfInBounds_toArray, List.set_cons_zero, List.set_cons_succ]
            refine wpAnyH_take (i := 6) (oi := { dst := some 100, op := Op.extract (Operand.tmp 94) 0, type := 31, pos := "exact.go:6258", after := #[{ on := 5, ground := Ground.data }], guard := none }) (v := .agg #[.int .i64 tR, .int .i64 aR, .int .i64 uR, .slice Zr acR.length Cr, .slice Yr nxR.length Dr]) rfl (by kernel_rfl) (by kernel_rfl) (by kernel_rfl) (fun _ _ _ h => h) (Or.inl ⟨rfl, fun W hW => by (obtain ⟨_, y0_, y1_, y2_, y3_, y4_, y5_, y6_, y7_, y8_, y9_, y10_, y11_, y12_, y13_, y14_, y15_, y16_, y17_, y18_, y19_, y20_, y21_, y22_, y23_, y24_, y25_, y26_, y27_, y28_, y29_, _⟩ := hW; go_simp; try rfl)⟩) HS ?_
            try simp only [Act.put, List.setIfInBounds_toArray, List.set_cons_zero, List.set_cons_succ]
            refine wpAnyH_take (i := 7) (oi := { dst := some 101, op := Op.extract (Operand.tmp 94) 1, type := 2, pos := "exact.go:6258", after := #[{ on := 5, ground := Ground.data }, { on := 9, ground := Ground.gcOnly Departure.lateStores }], guard := none }) (v := .int .i64 q) rfl (by kernel_rfl) (by kernel_rfl) (by kernel_rfl) (fun _ _ _ h => h) (Or.inl ⟨rfl, fun W hW => by (obtain ⟨_, y0_, y1_, y2_, y3_, y4_, y5_, y6_, y7_, y8_, y9_, y10_, y11_, y12_, y13_, y14_, y15_, y16_, y17_, y18_, y19_, y20_, y21_, y22_, y23_, y24_, y25_, y26_, y27_, y28_, y29_, _⟩ := hW; go_simp; try rfl)⟩) HS ?_
            try simp only [Act.put, List.setIfInBounds_toArray, List.set_cons_zero, List.set_cons_succ]
            obtain ⟨c0, c1, c2, c3, c4, g0, g1, g2, g3, g4⟩ := HR.out.facts5
            refine wpAnyH_ready (rs := [9]) (by kernel_rfl) (by simp) ?_
            refine AllReadyH.cons (o := { dst := none, op := Op.store 31 (Operand.tmp 15) (Operand.tmp 100), type := 0, pos := "exact.go:6258", after := #[{ on := 8, ground := Ground.data }, { on := 6, ground := Ground.data }, { on := 4, ground := Ground.chain }, { on := 0, ground := Ground.phase }, { on := 1, ground := Ground.phase }, { on := 2, ground := Ground.phase }, { on := 3, ground := Ground.phase }, { on := 4, ground := Ground.phase }, { on := 5, ground := Ground.phase }, { on := 6, ground := Ground.phase }, { on := 7, ground := Ground.textOnly Departure.lateStores }, { on := 8, ground := Ground.phase }], guard := none }) rfl (fun K hK => ?_) AllReadyH.nil
            go_simp
            have HS' : St w [(wr4.heap.size, 0, .int .i64 tR), (wr4.heap.size, 1, .int .i64 aR), (wr4.heap.size, 2, .int .i64 uR), (wr4.heap.size, 3, .slice Zq4 acR.length Cq4), (wr4.heap.size, 4, .slice Yq4 nxR.length Dq4), (wd1.heap.size, 0, .int .i64 t1), (wd1.heap.size, 1, .int .i64 a1), (wd1.heap.size, 2, .int .i64 u1), (wd1.heap.size, 3, .slice Zd1 ac1.length ac1.length), (wd1.heap.size, 4, .slice Yd1 nx1.length nx1.length), (wd0.heap.size, 0, .int .i64 t0), (wd0.heap.size, 1, .int .i64 a0), (wd0.heap.size, 2, .int .i64 u0), (wd0.heap.size, 3, .slice Zd0 ac0.length ac0.length), (wd0.heap.size, 4, .slice Yd0 nx0.length nx0.length), (bq1, 0, .int .i64 tR), (bq1, 1, .int .i64 aR), (bq1, 2, .int .i64 uR), (bq1, 3, .slice Zq1 acR.length Cq1), (bq1, 4, .slice Yq1 nxR.length Dq1), (w.heap.size, 0, .int .i64 t0), (w.heap.size, 1, .int .i64 a0), (w.heap.size, 2, .int .i64 u0), (w.heap.size, 3, .slice A0 ac0.length C0), (w.heap.size, 4, .slice B0 nx0.length D0), (w.heap.size + 1, 0, .int .i64 t1), (w.heap.size + 1, 1, .int .i64 a1), (w.heap.size + 1, 2, .int .i64 u1), (w.heap.size + 1, 3, .slice A1 ac1.length C1), (w.heap.size + 1, 4, .slice B1 nx1.length D1)] _ := (HR.out.fill5 (.int .i64 tR) (.int .i64 aR) (.int .i64 uR) (.slice Zr acR.length Cr) (.slice Yr nxR.length Dr)).st
            refine hK.out _ _ HS' (fun _ => ?_)
            clear hK K HS
            have HS := HS'; clear HS'
            try simp only [Act.put, List.setIfInBounds_toArray, List.set_cons_zero, List.set_cons_succ]
            refine wpAnyH_take (i := 10) (oi := { dst := some 16, op := Op.assign (Operand.tmp 101), type := 2, pos := "exact.go:6258", after := #[{ on := 7, ground := Ground.data }, { on := 9, ground := Ground.chain }, { on := 0, ground := Ground.phase }, { on := 1, ground := Ground.phase }, { on := 2, ground := Ground.phase }, { on := 3, ground := Ground.phase }, { on := 4, ground := Ground.phase }, { on := 5, ground := Ground.phase }, { on := 6, ground := Ground.phase }, { on := 7, ground := Ground.phase }, { on := 8, ground := Ground.phase }, { on := 9, ground := Ground.phase }], guard := none }) (v := .int .i64 q) rfl (by kernel_rfl) (by kernel_rfl) (by kernel_rfl) (fun _ _ _ h => h) (Or.inl ⟨rfl, fun W hW => by (obtain ⟨_, y0_, y1_, y2_, y3_, y4_, y5_, y6_, y7_, y8_, y9_, y10_, y11_, y12_, y13_, y14_, y15_, y16_, y17_, y18_, y19_, y20_, y21_, y22_, y23_, y24_, y25_, y26_, y27_, y28_, y29_, _⟩ := hW; go_simp; try rfl)⟩) HS ?_
            try simp only [Act.put, List.setIfInBounds_toArray, List.set_cons_zero, List.set_cons_succ]
            refine wpAnyH_done (by kernel_rfl) ?_ _
            clear HS
            go_wp2_with fail
            go_meet
            exact ⟨_, _, _, _, _, _, _, rfl, rfl, HR.out.done5 _ _ _ _ _⟩
      · go_simp
        have H2 := HR.out.boxed #[.int .i64 0, .int .i64 0, .int .i64 0, .slice none 0 0, .slice none 0 0] 31
        obtain ⟨wn7, ewn⟩ : ∃ W, W = World.alloc wn1 (.cells #[.int .i64 0, .int .i64 0, .int .i64 0, .slice none 0 0, .slice none 0 0] 31 (0, 0)) := ⟨_, rfl⟩
        obtain ⟨wn7b, ebn⟩ : ∃ n, n = wn1.heap.size := ⟨_, rfl⟩
        rw [← ewn, ← ebn] at H2 ⊢
        clear HR ewn ebn; have HR := Lib.hid H2; clear H2
        clear HS; have HS := HR.out.st
        refine hK.out _ _ HS (fun _ => ?_)
        clear hK K
        try simp only [Act.put, List.setIfInBounds_toArray, List.set_cons_zero, List.set_cons_succ]
        refine wpAnyH_ready (rs := [3]) (by kernel_rfl) (by simp) ?_
        refine (AllReadyH.cons (o := { dst := some 98, op := Op.call { callee := Callee.value (Operand.func 12), args := #[Operand.tmp 97], argTypes := #[27] }, type := 31, pos := "exact.go:6258", after := #[{ on := 2, ground := Ground.data }, { on := 1, ground := Ground.chain }], guard := none }) rfl (fun K hK => ?_) AllReadyH.nil)
        · go_simp
          refine (KT1.out _ HR.out.st.1).mono ?_
          rintro e wn8 ⟨Zc1, Yc1, rfl, Ic, hb⟩
          have H2 := Lib.hid (HR.out.resM Ic hb)
          clear HR; have HR := H2; clear H2 hb
          clear HS; have HS := HR.out.st
          refine hK.out _ _ HS (fun _ => ?_)
          clear hK K
          try simp only [Act.put, List.setIfInBounds_toArray, List.set_cons_zero, List.set_cons_succ]
          refine wpAnyH_ready (rs := [4]) (by kernel_rfl) (by simp) ?_
          refine (AllReadyH.cons (o := { dst := some 99, op := Op.call { callee := Callee.value (Operand.func 13), args := #[Operand.tmp 96, Operand.tmp 98], argTypes := #[31, 31] }, type := 32, pos := "exact.go:6258", after := #[{ on := 1, ground := Ground.data }, { on := 3, ground := Ground.data }, { on := 3, ground := Ground.chain }], guard := none }) rfl (fun K hK => ?_) AllReadyH.nil)
          · go_simp
            refine (KG2.out _ _ _ _ _ (HR.out.tl.m1) (HR.out.tl.m2) (HR.out.m1) (HR.out.m2)).mono ?_
            rintro e wn9 ⟨Zr, Yr, Cr, Dr, rfl, Ir, hb⟩
            have H2 := Lib.hid ((HR.out.resM Ir hb).skip.skip)
            clear HR; have HR := H2; clear H2 hb
            clear HS; have HS := HR.out.st
            refine hK.out _ _ HS (fun _ => ?_)
            clear hK K
            try simp only [Act.put, List.setIfInBounds_toArray, List.set_cons_zero, List.set_cons_succ]
            refine wpAnyH_take (i := 5) (oi := { dst := some 94, op := Op.move (Operand.tmp 99), type := 32, pos := "exact.go:6258", after := #[{ on := 4, ground := Ground.data }], guard := none }) (v := .tuple #[.agg #[.int .i64 tR, .int .i64 aR, .int .i64 uR, .slice Zr acR.length Cr, .slice Yr nxR.length Dr], .int .i64 q]) rfl (by kernel_rfl) (by kernel_rfl) (by kernel_rfl) (fun _ _ _ h => h) (Or.inl ⟨rfl, fun W hW => by (obtain ⟨_, y0_, y1_, y2_, y3_, y4_, y5_, y6_, y7_, y8_, y9_, y10_, y11_, y12_, y13_, y14_, y15_, y16_, y17_, y18_, y19_, y20_, y21_, y22_, y23_, y24_, y25_, y26_, y27_, y28_, y29_, _⟩ := hW; go_simp; try rfl)⟩) HS ?_
            try simp only [Act.put, List.setIfInBounds_toArray, List.set_cons_zero, List.set_cons_succ]
            refine wpAnyH_take (i := 6) (oi := { dst := some 100, op := Op.extract (Operand.tmp 94) 0, type := 31, pos := "exact.go:6258", after := #[{ on := 5, ground := Ground.data }], guard := none }) (v := .agg #[.int .i64 tR, .int .i64 aR, .int .i64 uR, .slice Zr acR.length Cr, .slice Yr nxR.length Dr]) rfl (by kernel_rfl) (by kernel_rfl) (by kernel_rfl) (fun _ _ _ h => h) (Or.inl ⟨rfl, fun W hW => by (obtain ⟨_, y0_, y1_, y2_, y3_, y4_, y5_, y6_, y7_, y8_, y9_, y10_, y11_, y12_, y13_, y14_, y15_, y16_, y17_, y18_, y19_, y20_, y21_, y22_, y23_, y24_, y25_, y26_, y27_, y28_, y29_, _⟩ := hW; go_simp; try rfl)⟩) HS ?_
            try simp only [Act.put, List.setIfInBounds_toArray, List.set_cons_zero, List.set_cons_succ]
            refine wpAnyH_take (i := 7) (oi := { dst := some 101, op := Op.extract (Operand.tmp 94) 1, type := 2, pos := "exact.go:6258", after := #[{ on := 5, ground := Ground.data }, { on := 9, ground := Ground.gcOnly Departure.lateStores }], guard := none }) (v := .int .i64 q) rfl (by kernel_rfl) (by kernel_rfl) (by kernel_rfl) (fun _ _ _ h => h) (Or.inl ⟨rfl, fun W hW => by (obtain ⟨_, y0_, y1_, y2_, y3_, y4_, y5_, y6_, y7_, y8_, y9_, y10_, y11_, y12_, y13_, y14_, y15_, y16_, y17_, y18_, y19_, y20_, y21_, y22_, y23_, y24_, y25_, y26_, y27_, y28_, y29_, _⟩ := hW; go_simp; try rfl)⟩) HS ?_
            try simp only [Act.put, List.setIfInBounds_toArray, List.set_cons_zero, List.set_cons_succ]
            obtain ⟨c0, c1, c2, c3, c4, g0, g1, g2, g3, g4⟩ := HR.out.facts5
            refine wpAnyH_ready (rs := [9]) (by kernel_rfl) (by simp) ?_
            refine AllReadyH.cons (o := { dst := none, op := Op.store 31 (Operand.tmp 15) (Operand.tmp 100), type := 0, pos := "exact.go:6258", after := #[{ on := 8, ground := Ground.data }, { on := 6, ground := Ground.data }, { on := 4, ground := Ground.chain }, { on := 0, ground := Ground.phase }, { on := 1, ground := Ground.phase }, { on := 2, ground := Ground.phase }, { on := 3, ground := Ground.phase }, { on := 4, ground := Ground.phase }, { on := 5, ground := Ground.phase }, { on := 6, ground := Ground.phase }, { on := 7, ground := Ground.textOnly Departure.lateStores }, { on := 8, ground := Ground.phase }], guard := none }) rfl (fun K hK => ?_) AllReadyH.nil
            go_simp
            have HS' : St w [(wr4.heap.size, 0, .int .i64 tR), (wr4.heap.size, 1, .int .i64 aR), (wr4.heap.size, 2, .int .i64 uR), (wr4.heap.size, 3, .slice Zq4 acR.length Cq4), (wr4.heap.size, 4, .slice Yq4 nxR.length Dq4), (wd1.heap.size, 0, .int .i64 t1), (wd1.heap.size, 1, .int .i64 a1), (wd1.heap.size, 2, .int .i64 u1), (wd1.heap.size, 3, .slice Zd1 ac1.length ac1.length), (wd1.heap.size, 4, .slice Yd1 nx1.length nx1.length), (wd0.heap.size, 0, .int .i64 t0), (wd0.heap.size, 1, .int .i64 a0), (wd0.heap.size, 2, .int .i64 u0), (wd0.heap.size, 3, .slice Zd0 ac0.length ac0.length), (wd0.heap.size, 4, .slice Yd0 nx0.length nx0.length), (bq1, 0, .int .i64 tR), (bq1, 1, .int .i64 aR), (bq1, 2, .int .i64 uR), (bq1, 3, .slice Zq1 acR.length Cq1), (bq1, 4, .slice Yq1 nxR.length Dq1), (w.heap.size, 0, .int .i64 t0), (w.heap.size, 1, .int .i64 a0), (w.heap.size, 2, .int .i64 u0), (w.heap.size, 3, .slice A0 ac0.length C0), (w.heap.size, 4, .slice B0 nx0.length D0), (w.heap.size + 1, 0, .int .i64 t1), (w.heap.size + 1, 1, .int .i64 a1), (w.heap.size + 1, 2, .int .i64 u1), (w.heap.size + 1, 3, .slice A1 ac1.length C1), (w.heap.size + 1, 4, .slice B1 nx1.length D1)] _ := (HR.out.fill5 (.int .i64 tR) (.int .i64 aR) (.int .i64 uR) (.slice Zr acR.length Cr) (.slice Yr nxR.length Dr)).st
            refine hK.out _ _ HS' (fun _ => ?_)
            clear hK K HS
            have HS := HS'; clear HS'
            try simp only [Act.put, List.setIfInBounds_toArray, List.set_cons_zero, List.set_cons_succ]
            refine wpAnyH_take (i := 10) (oi := { dst := some 16, op := Op.assign (Operand.tmp 101), type := 2, pos := "exact.go:6258", after := #[{ on := 7, ground := Ground.data }, { on := 9, ground := Ground.chain }, { on := 0, ground := Ground.phase }, { on := 1, ground := Ground.phase }, { on := 2, ground := Ground.phase }, { on := 3, ground := Ground.phase }, { on := 4, ground := Ground.phase }, { on := 5, ground := Ground.phase }, { on := 6, ground := Ground.phase }, { on := 7, ground := Ground.phase }, { on := 8, ground := Ground.phase }, { on := 9, ground := Ground.phase }], guard := none }) (v := .int .i64 q) rfl (by kernel_rfl) (by kernel_rfl) (by kernel_rfl) (fun _ _ _ h => h) (Or.inl ⟨rfl, fun W hW => by (obtain ⟨_, y0_, y1_, y2_, y3_, y4_, y5_, y6_, y7_, y8_, y9_, y10_, y11_, y12_, y13_, y14_, y15_, y16_, y17_, y18_, y19_, y20_, y21_, y22_, y23_, y24_, y25_, y26_, y27_, y28_, y29_, _⟩ := hW; go_simp; try rfl)⟩) HS ?_
            try simp only [Act.put, List.setIfInBounds_toArray, List.set_cons_zero, List.set_cons_succ]
            refine wpAnyH_done (by kernel_rfl) ?_ _
            clear HS
            go_wp2_with fail
            go_meet
            exact ⟨_, _, _, _, _, _, _, rfl, rfl, HR.out.done5 _ _ _ _ _⟩
    · go_simp
      have H2 := HR.out.boxed #[.int .i64 0, .int .i64 0, .int .i64 0, .slice none 0 0, .slice none 0 0] 31
      obtain ⟨wn10, ewn⟩ : ∃ W, W = World.alloc w20 (.cells #[.int .i64 0, .int .i64 0, .int .i64 0, .slice none 0 0, .slice none 0 0] 31 (0, 0)) := ⟨_, rfl⟩
      obtain ⟨wn10b, ebn⟩ : ∃ n, n = w20.heap.size := ⟨_, rfl⟩
      rw [← ewn, ← ebn] at H2 ⊢
      clear HR ewn ebn; have HR := Lib.hid H2; clear H2
      clear HS; have HS := HR.out.st
      refine hK.out _ _ HS (fun _ => ?_)
      clear hK K
      try simp only [Act.put, List.setIfInBounds_toArray, List.set_cons_zero, List.set_cons_succ]
      refine wpAnyH_ready (rs := [1]) (by kernel_rfl) (by simp) ?_
      refine (AllReadyH.cons (o := { dst := some 96, op := Op.call { callee := Callee.value (Operand.func 12), args := #[Operand.tmp 95], argTypes := #[27] }, type := 31, pos := "exact.go:6258", after := #[{ on := 0, ground := Ground.data }], guard := none }) rfl (fun K hK => ?_) AllReadyH.nil)
      · go_simp
        refine (KT0.out _ HR.out.st.1).mono ?_
        rintro e wn11 ⟨Zc0, Yc0, rfl, Ic, hb⟩
        have H2 := Lib.hid (HR.out.resM Ic hb)
        clear HR; have HR := H2; clear H2 hb
        clear HS; have HS := HR.out.st
        refine hK.out _ _ HS (fun _ => ?_)
        clear hK K
        try simp only [Act.put, List.setIfInBounds_toArray, List.set_cons_zero, List.set_cons_succ]
        refine wpAnyH_ready (rs := [3]) (by kernel_rfl) (by simp) ?_
        refine (AllReadyH.cons (o := { dst := some 98, op := Op.call { callee := Callee.value (Operand.func 12), args := #[Operand.tmp 97], argTypes := #[27] }, type := 31, pos := "exact.go:6258", after := #[{ on := 2, ground := Ground.data }, { on := 1, ground := Ground.chain }], guard := none }) rfl (fun K hK => ?_) AllReadyH.nil)
        · go_simp
          refine (KT1.out _ HR.out.st.1).mono ?_
          rintro e wn12 ⟨Zc1, Yc1, rfl, Ic, hb⟩
          have H2 := Lib.hid (HR.out.resM Ic hb)
          clear HR; have HR := H2; clear H2 hb
          clear HS; have HS := HR.out.st
          refine hK.out _ _ HS (fun _ => ?_)
          clear hK K
          try simp only [Act.put, List.setIfInBounds_toArray, List.set_cons_zero, List.set_cons_succ]
          refine wpAnyH_ready (rs := [4]) (by kernel_rfl) (by simp) ?_
          refine (AllReadyH.cons (o := { dst := some 99, op := Op.call { callee := Callee.value (Operand.func 13), args := #[Operand.tmp 96, Operand.tmp 98], argTypes := #[31, 31] }, type := 32, pos := "exact.go:6258", after := #[{ on := 1, ground := Ground.data }, { on := 3, ground := Ground.data }, { on := 3, ground := Ground.chain }], guard := none }) rfl (fun K hK => ?_) AllReadyH.nil)
          · go_simp
            refine (KG2.out _ _ _ _ _ (HR.out.tl.m1) (HR.out.tl.m2) (HR.out.m1) (HR.out.m2)).mono ?_
            rintro e wn13 ⟨Zr, Yr, Cr, Dr, rfl, Ir, hb⟩
            have H2 := Lib.hid ((HR.out.resM Ir hb).skip.skip)
            clear HR; have HR := H2; clear H2 hb
            clear HS; have HS := HR.out.st
            refine hK.out _ _ HS (fun _ => ?_)
            clear hK K
            try simp only [Act.put, List.setIfInBounds_toArray, List.set_cons_zero, List.set_cons_succ]
            refine wpAnyH_take (i := 5) (oi := { dst := some 94, op := Op.move (Operand.tmp 99), type := 32, pos := "exact.go:6258", after := #[{ on := 4, ground := Ground.data }], guard := none }) (v := .tuple #[.agg #[.int .i64 tR, .int .i64 aR, .int .i64 uR, .slice Zr acR.length Cr, .slice Yr nxR.length Dr], .int .i64 q]) rfl (by kernel_rfl) (by kernel_rfl) (by kernel_rfl) (fun _ _ _ h => h) (Or.inl ⟨rfl, fun W hW => by (obtain ⟨_, y0_, y1_, y2_, y3_, y4_, y5_, y6_, y7_, y8_, y9_, y10_, y11_, y12_, y13_, y14_, y15_, y16_, y17_, y18_, y19_, y20_, y21_, y22_, y23_, y24_, y25_, y26_, y27_, y28_, y29_, _⟩ := hW; go_simp; try rfl)⟩) HS ?_
            try simp only [Act.put, List.setIfInBounds_toArray, List.set_cons_zero, List.set_cons_succ]
            refine wpAnyH_take (i := 6) (oi := { dst := some 100, op := Op.extract (Operand.tmp 94) 0, type := 31, pos := "exact.go:6258", after := #[{ on := 5, ground := Ground.data }], guard := none }) (v := .agg #[.int .i64 tR, .int .i64 aR, .int .i64 uR, .slice Zr acR.length Cr, .slice Yr nxR.length Dr]) rfl (by kernel_rfl) (by kernel_rfl) (by kernel_rfl) (fun _ _ _ h => h) (Or.inl ⟨rfl, fun W hW => by (obtain ⟨_, y0_, y1_, y2_, y3_, y4_, y5_, y6_, y7_, y8_, y9_, y10_, y11_, y12_, y13_, y14_, y15_, y16_, y17_, y18_, y19_, y20_, y21_, y22_, y23_, y24_, y25_, y26_, y27_, y28_, y29_, _⟩ := hW; go_simp; try rfl)⟩) HS ?_
            try simp only [Act.put, List.setIfInBounds_toArray, List.set_cons_zero, List.set_cons_succ]
            refine wpAnyH_take (i := 7) (oi := { dst := some 101, op := Op.extract (Operand.tmp 94) 1, type := 2, pos := "exact.go:6258", after := #[{ on := 5, ground := Ground.data }, { on := 9, ground := Ground.gcOnly Departure.lateStores }], guard := none }) (v := .int .i64 q) rfl (by kernel_rfl) (by kernel_rfl) (by kernel_rfl) (fun _ _ _ h => h) (Or.inl ⟨rfl, fun W hW => by (obtain ⟨_, y0_, y1_, y2_, y3_, y4_, y5_, y6_, y7_, y8_, y9_, y10_, y11_, y12_, y13_, y14_, y15_, y16_, y17_, y18_, y19_, y20_, y21_, y22_, y23_, y24_, y25_, y26_, y27_, y28_, y29_, _⟩ := hW; go_simp; try rfl)⟩) HS ?_
            try simp only [Act.put, List.setIfInBounds_toArray, List.set_cons_zero, List.set_cons_succ]
            obtain ⟨c0, c1, c2, c3, c4, g0, g1, g2, g3, g4⟩ := HR.out.facts5
            refine wpAnyH_ready (rs := [9]) (by kernel_rfl) (by simp) ?_
            refine AllReadyH.cons (o := { dst := none, op := Op.store 31 (Operand.tmp 15) (Operand.tmp 100), type := 0, pos := "exact.go:6258", after := #[{ on := 8, ground := Ground.data }, { on := 6, ground := Ground.data }, { on := 4, ground := Ground.chain }, { on := 0, ground := Ground.phase }, { on := 1, ground := Ground.phase }, { on := 2, ground := Ground.phase }, { on := 3, ground := Ground.phase }, { on := 4, ground := Ground.phase }, { on := 5, ground := Ground.phase }, { on := 6, ground := Ground.phase }, { on := 7, ground := Ground.textOnly Departure.lateStores }, { on := 8, ground := Ground.phase }], guard := none }) rfl (fun K hK => ?_) AllReadyH.nil
            go_simp
            have HS' : St w [(wr4.heap.size, 0, .int .i64 tR), (wr4.heap.size, 1, .int .i64 aR), (wr4.heap.size, 2, .int .i64 uR), (wr4.heap.size, 3, .slice Zq4 acR.length Cq4), (wr4.heap.size, 4, .slice Yq4 nxR.length Dq4), (wd1.heap.size, 0, .int .i64 t1), (wd1.heap.size, 1, .int .i64 a1), (wd1.heap.size, 2, .int .i64 u1), (wd1.heap.size, 3, .slice Zd1 ac1.length ac1.length), (wd1.heap.size, 4, .slice Yd1 nx1.length nx1.length), (wd0.heap.size, 0, .int .i64 t0), (wd0.heap.size, 1, .int .i64 a0), (wd0.heap.size, 2, .int .i64 u0), (wd0.heap.size, 3, .slice Zd0 ac0.length ac0.length), (wd0.heap.size, 4, .slice Yd0 nx0.length nx0.length), (bq1, 0, .int .i64 tR), (bq1, 1, .int .i64 aR), (bq1, 2, .int .i64 uR), (bq1, 3, .slice Zq1 acR.length Cq1), (bq1, 4, .slice Yq1 nxR.length Dq1), (w.heap.size, 0, .int .i64 t0), (w.heap.size, 1, .int .i64 a0), (w.heap.size, 2, .int .i64 u0), (w.heap.size, 3, .slice A0 ac0.length C0), (w.heap.size, 4, .slice B0 nx0.length D0), (w.heap.size + 1, 0, .int .i64 t1), (w.heap.size + 1, 1, .int .i64 a1), (w.heap.size + 1, 2, .int .i64 u1), (w.heap.size + 1, 3, .slice A1 ac1.length C1), (w.heap.size + 1, 4, .slice B1 nx1.length D1)] _ := (HR.out.fill5 (.int .i64 tR) (.int .i64 aR) (.int .i64 uR) (.slice Zr acR.length Cr) (.slice Yr nxR.length Dr)).st
            refine hK.out _ _ HS' (fun _ => ?_)
            clear hK K HS
            have HS := HS'; clear HS'
            try simp only [Act.put, List.setIfInBounds_toArray, List.set_cons_zero, List.set_cons_succ]
            refine wpAnyH_take (i := 10) (oi := { dst := some 16, op := Op.assign (Operand.tmp 101), type := 2, pos := "exact.go:6258", after := #[{ on := 7, ground := Ground.data }, { on := 9, ground := Ground.chain }, { on := 0, ground := Ground.phase }, { on := 1, ground := Ground.phase }, { on := 2, ground := Ground.phase }, { on := 3, ground := Ground.phase }, { on := 4, ground := Ground.phase }, { on := 5, ground := Ground.phase }, { on := 6, ground := Ground.phase }, { on := 7, ground := Ground.phase }, { on := 8, ground := Ground.phase }, { on := 9, ground := Ground.phase }], guard := none }) (v := .int .i64 q) rfl (by kernel_rfl) (by kernel_rfl) (by kernel_rfl) (fun _ _ _ h => h) (Or.inl ⟨rfl, fun W hW => by (obtain ⟨_, y0_, y1_, y2_, y3_, y4_, y5_, y6_, y7_, y8_, y9_, y10_, y11_, y12_, y13_, y14_, y15_, y16_, y17_, y18_, y19_, y20_, y21_, y22_, y23_, y24_, y25_, y26_, y27_, y28_, y29_, _⟩ := hW; go_simp; try rfl)⟩) HS ?_
            try simp only [Act.put, List.setIfInBounds_toArray, List.set_cons_zero, List.set_cons_succ]
            refine wpAnyH_done (by kernel_rfl) ?_ _
            clear HS
            go_wp2_with fail
            go_meet
            exact ⟨_, _, _, _, _, _, _, rfl, rfl, HR.out.done5 _ _ _ _ _⟩
  case rest =>
  obtain ⟨bq13, loq13, hiq13, Zq13, Yq13, Cq13, Dq13, rfl, rfl, T⟩ := hcut
  clear x0 x1 x2 x3 x4 x5 x6 x7 x8 x9 x10 x11 x12 x13 x14 x15 x16 x17 x18 x19 x20 x21 x22 x23 x24 x25 x26 x27 x28 x29 x30
  clear HR; have HR := Lib.hid T; clear T
  obtain ⟨x0, x1, x2, x3, x4, x5, x6, x7, x8, x9, x10, x11, x12, x13, x14, x15, x16, x17, x18, x19, x20, x21, x22, x23, x24, x25, x26, x27, x28, x29, x30, x31, x32, x33, x34, x35, _⟩ := HR.out.st
  go_wp2_with fail
  refine (KQ.out _ _ _ _ _ _ _ _ _ (HR.out.m1) (HR.out.m2) (HR.out.tl.tl.m1) (HR.out.tl.tl.m2)).mono ?_
  rintro e wq14 ⟨rfl, hb⟩
  have T := HR.out.below hb
  clear x0 x1 x2 x3 x4 x5 x6 x7 x8 x9 x10 x11 x12 x13 x14 x15 x16 x17 x18 x19 x20 x21 x22 x23 x24 x25 x26 x27 x28 x29 x30 x31 x32 x33 x34 x35
  clear HR hb; have HR := Lib.hid T; clear T
  obtain ⟨x0, x1, x2, x3, x4, x5, x6, x7, x8, x9, x10, x11, x12, x13, x14, x15, x16, x17, x18, x19, x20, x21, x22, x23, x24, x25, x26, x27, x28, x29, x30, x31, x32, x33, x34, x35, _⟩ := HR.out.st
  go_wp2_with fail
  refine (KH.out _ _ _ _ _ (HR.out.tl.m1) (HR.out.tl.m2)).mono ?_
  rintro e wh15 ⟨rfl, hb⟩
  have T := HR.out.below hb
  clear x0 x1 x2 x3 x4 x5 x6 x7 x8 x9 x10 x11 x12 x13 x14 x15 x16 x17 x18 x19 x20 x21 x22 x23 x24 x25 x26 x27 x28 x29 x30 x31 x32 x33 x34 x35
  clear HR hb; have HR := Lib.hid T; clear T
  obtain ⟨x0, x1, x2, x3, x4, x5, x6, x7, x8, x9, x10, x11, x12, x13, x14, x15, x16, x17, x18, x19, x20, x21, x22, x23, x24, x25, x26, x27, x28, x29, x30, x31, x32, x33, x34, x35, _⟩ := HR.out.st
  go_wp2_with fail
  go_ret
  exact ⟨rfl, HR.out.st.1⟩

end Go.Proofs.Ytcgbepmhfimbjaa
