/- The law FnExactRenumberModel, walked, out of the contracts of both sides. -/
import Derived.Test.YtmblgkpgfofceaaGenM
import Derived.Deep.RegionHeld3
import Derived.Deep.DrawnRows
import Derived.Deep.DeepCutAuto
namespace Go.Proofs.Ytmblgkpgfofceaa
open Go.RowKit
attribute [local go_sem ↓] Go.wp_at_zero Go.wp_at_succ

set_option maxHeartbeats 40000000 in
set_option maxRecDepth 100000 in
theorem lawRenumberModel (t0 a0 u0 : Int) (ac0 : List (List Bool)) (nx0 : List (List (List Bool))) (A0 B0 : Option Addr) (C0 D0 : Nat) (p1 : List Int) (A1 : Option Addr) (C1 : Nat) {tR aR uR : Int} {acR : List (List Bool)} {nxR : List (List (List Bool))} {q : Int}
    (HU : Hid ((modN ac0 nx0) ≤ 1048576 → p1.length ≤ 1048576 → modN acR nxR ≤ 1048576))
    (KW : Hid ((modN ac0 nx0) ≤ 1048576 → p1.length ≤ 1048576 → ∀ (W : World) (Z0 Y0 : Option Addr) (Z1 : Option Addr), BB 0 W ac0 Z0 → BBB 0 W nx0 Y0 → Ints W p1 Z1 → Calls Try.prog 44 #[.agg #[.int .i64 t0, .int .i64 a0, .int .i64 u0, .slice Z0 ac0.length ac0.length, .slice Y0 nx0.length nx0.length], .slice Z1 p1.length p1.length] W (MEnd tR aR uR acR nxR q W)))
    (KG : Hid ((modN ac0 nx0) ≤ 1048576 → p1.length ≤ 1048576 → ∀ (W : World) (Z0 Y0 : Option Addr) (Z1 : Option Addr), BB 0 W ac0 Z0 → BBB 0 W nx0 Y0 → Ints W p1 Z1 → Calls Try.prog 45 #[.agg #[.int .i64 t0, .int .i64 a0, .int .i64 u0, .slice Z0 ac0.length ac0.length, .slice Y0 nx0.length nx0.length], .slice Z1 p1.length p1.length] W (MEnd tR aR uR acR nxR q W)))
    (w : World) (hm0 : Hid (FitM ac0 nx0)) (hl0 : BB 0 w ac0 A0) (hr0 : BBB 0 w nx0 B0) (hm1 : Hid (p1.length ≤ 9223372036854775807)) (hl1 : Ints w p1 A1) :
    Calls Try.prog 8 #[.agg #[.int .i64 t0, .int .i64 a0, .int .i64 u0, .slice A0 ac0.length C0, .slice B0 nx0.length D0], .slice A1 p1.length C1] w fun e w' => e = .returned (.bool true) ∧ Below w.heap.size w w' := by
  by_cases hp1 : 1048576 < p1.length
  · have hmo := hm1.out
    go_enter Try.func8, Try.ntmps8
    go_wp2_with fail
    go_ret
    exact ⟨rfl, by go_grown⟩
  have tp1 : decide ((1048576 : Int) < ((p1.length : Nat) : Int)) = false := decide_eq_false (by omega)
  by_cases hbig0 : 1048576 < ((modN ac0 nx0) : Nat)
  · have hs : szR (modN ac0 nx0) 1048576 = -1 := szR_neg (by omega)
    have KS0 : Hid (∀ W : World, Sees w W → Calls Try.prog 28 #[.agg #[.int .i64 t0, .int .i64 a0, .int .i64 u0, .slice A0 ac0.length C0, .slice B0 nx0.length D0], .int .i64 1048576] W fun e w' => e = .returned (.int .i64 (-1)) ∧ Below W.heap.size W w') := fun W h => by rw [← hs]; exact szModel_any t0 a0 u0 ac0 nx0 hm0.out 1048576 A0 B0 C0 D0 W (hl0.sees h) (hr0.sees h) (by omega) (by omega)
    clear hs
    go_enter Try.func8, Try.ntmps8
    go_wp2_with fail
    refine (KS0.out _ ?_).mono ?_
    · unfold Sees; go_grown
    rintro e wz0 ⟨rfl, hb⟩
    have T := St.below (w := w) (l := [(w.heap.size, 0, .int .i64 t0), (w.heap.size, 1, .int .i64 a0), (w.heap.size, 2, .int .i64 u0), (w.heap.size, 3, .slice A0 ac0.length C0), (w.heap.size, 4, .slice B0 nx0.length D0)]) ⟨(by unfold Sees; go_grown), (by simp [go_sem]), (by simp [go_sem]), (by simp [go_sem]), (by simp [go_sem]), (by simp [go_sem]), trivial⟩ hb
    have H := Lib.hid T; clear T hb
    obtain ⟨x0, x1, x2, x3, x4, x5, _⟩ := H.out
    go_wp2_with fail
    clear x0 x1 x2 x3 x4 x5
    go_ret
    exact ⟨rfl, H.out.1⟩
  obtain ⟨s0, hs, hz0, hy0, he0⟩ : ∃ s : Int, s = szR (modN ac0 nx0) 1048576 ∧ 0 ≤ s ∧ s ≤ 1048576 ∧ Hid (s = 1048576 - ((modN ac0 nx0) : Nat)) := ⟨_, rfl, by rw [szR_pos (by omega)]; omega, by rw [szR_pos (by omega)]; omega, by show _ = _; rw [szR_pos (by omega)]; try omega⟩
  have KS0 : Hid (∀ W : World, Sees w W → Calls Try.prog 28 #[.agg #[.int .i64 t0, .int .i64 a0, .int .i64 u0, .slice A0 ac0.length C0, .slice B0 nx0.length D0], .int .i64 1048576] W fun e w' => e = .returned (.int .i64 s0) ∧ Below W.heap.size W w') := fun W h => by rw [hs]; exact szModel_any t0 a0 u0 ac0 nx0 hm0.out 1048576 A0 B0 C0 D0 W (hl0.sees h) (hr0.sees h) (by omega) (by omega)
  clear hs
  have hsmall : (modN ac0 nx0) ≤ 1048576 := by have := he0.out; omega
  have hu : Hid (modN acR nxR ≤ 1048576) := HU.out hsmall (by omega)
  clear HU
  have KT0 : Hid (∀ W : World, Sees w W → Calls Try.prog 30 #[.agg #[.int .i64 t0, .int .i64 a0, .int .i64 u0, .slice A0 ac0.length C0, .slice B0 nx0.length D0]] W fun e w' => ∃ Z Y, e = .returned (.agg #[.int .i64 t0, .int .i64 a0, .int .i64 u0, .slice Z ac0.length ac0.length, .slice Y nx0.length nx0.length]) ∧ ModF w' ac0 nx0 W.heap.size w'.heap.size Z Y ∧ Below W.heap.size W w') :=
    fun W h => toModelF t0 a0 u0 ac0 nx0 (modN_small (by omega)) A0 B0 C0 D0 W (hl0.sees h) (hr0.sees h)
  have KE0 : Hid (∀ (W : World) (Z Y Z' Y' : Option Addr), BB 0 W ac0 Z → BBB 0 W nx0 Y → BB 0 W ac0 Z' → BBB 0 W nx0 Y' → Calls Try.prog 33 #[.agg #[.int .i64 t0, .int .i64 a0, .int .i64 u0, .slice Z ac0.length ac0.length, .slice Y nx0.length nx0.length], .agg #[.int .i64 t0, .int .i64 a0, .int .i64 u0, .slice Z' ac0.length ac0.length, .slice Y' nx0.length nx0.length]] W fun e w' => e = .returned (.bool true) ∧ Below W.heap.size W w') :=
    fun W Z Y Z' Y' h1 h2 h3 h4 => eqModel_same t0 a0 u0 ac0 nx0 hm0.out _ _ _ _ _ _ _ _ W h1 h2 h3 h4
  have KT1 : Hid (∀ W : World, Sees w W → Calls Try.prog 31 #[.slice A1 p1.length C1] W fun e w' => ∃ Z, e = .returned (.slice Z p1.length p1.length) ∧ IntsIn w' p1 W.heap.size w'.heap.size Z ∧ Below W.heap.size W w') :=
    fun W h => toInt64S_any p1 (by omega) A1 C1 W (hl1.sees h)
  have KE1 : Hid (∀ (W : World) (Z Z' : Option Addr), Ints W p1 Z → Ints W p1 Z' → Calls Try.prog 14 #[.slice Z p1.length p1.length, .slice Z' p1.length p1.length] W fun e w' => e = .returned (.bool true) ∧ Below W.heap.size W w') :=
    fun W Z Z' h h' => (eqInt64S_any p1 p1 hm1.out _ _ _ _ W h h').mono fun e w' ⟨he, m, hm⟩ => ⟨by rw [he]; simp, by rw [hm]; exact below_drewN _ _ _⟩
  have zl0 : szL List.length ac0 + szL (szL List.length) nx0 ≤ 1048576 := modZ_le (by omega)
  obtain ⟨y0, hk, kl0, ku0, kn0⟩ : ∃ y : Int, y = 1 + ((szL List.length ac0 : Nat) : Int) + (szL (szL List.length) nx0 : Nat) ∧ 0 ≤ y ∧ y ≤ 4194304 ∧ Hid (y = 1 + ((szL List.length ac0 : Nat) : Int) + (szL (szL List.length) nx0 : Nat)) := ⟨_, rfl, by omega, by omega, rfl⟩
  have KM0 : Hid (∀ (W : World) (lo hi : Nat) (Z Y : Option Addr) (C D : Nat), ModF W ac0 nx0 lo hi Z Y → hi ≤ W.heap.size → Calls Try.prog 34 #[.agg #[.int .i64 t0, .int .i64 a0, .int .i64 u0, .slice Z ac0.length C, .slice Y nx0.length D], .int .i64 1] W fun e w' => e = .returned (.int .i64 y0) ∧ ButIn lo hi W w') :=
    fun W lo hi Z Y C D h hz => (markModelF t0 a0 u0 ac0 nx0 (modN_small (by omega)) 1 (by omega) (by omega) lo hi Z Y C D W h hz).mono fun e w' ⟨he, _, hb⟩ => ⟨by rw [hk]; exact he, hb⟩
  clear hk
  obtain ⟨y1, hk, kl1, ku1, kn1⟩ : ∃ y : Int, y = y0 + (p1.length : Int) ∧ 0 ≤ y ∧ y ≤ 4194304 ∧ Hid (y = y0 + (p1.length : Int)) := ⟨_, rfl, by omega, by have := kn0.out; omega, rfl⟩
  have KM1 : Hid (∀ (W : World) (lo hi : Nat) (Z : Option Addr) (C : Nat), IntsIn W p1 lo hi Z → hi ≤ W.heap.size → Calls Try.prog 17 #[.slice Z p1.length C, .int .i64 y0] W fun e w' => e = .returned (.int .i64 y1) ∧ ButIn lo hi W w') :=
    fun W lo hi Z C h hz => (markInts_any p1 (by omega) y0 (by omega) (by omega) lo hi Z C W h).mono fun e w' ⟨he, _, hb⟩ => ⟨by rw [hk]; exact he, hb⟩
  clear hk
  have tk : decide (y1 < 0) = false := decide_eq_false (by omega)
  have hsr := modN_small hu.out; have hzr := modZ_le hu.out; have hfit := fitM_small hsr
  obtain ⟨mm, hmm, ml⟩ : ∃ m : Int, m = 1 + (szL List.length acR : Nat) + (szL (szL List.length) nxR : Nat) ∧ 0 ≤ m := ⟨_, rfl, by omega⟩
  have KU : Hid (∀ (W : World) (lo hi : Nat) (Z Y : Option Addr) (C D : Nat), ModF W acR nxR lo hi Z Y → hi ≤ W.heap.size → Calls Try.prog 34 #[.agg #[.int .i64 tR, .int .i64 aR, .int .i64 uR, .slice Z acR.length C, .slice Y nxR.length D], .int .i64 1] W fun e w' => e = .returned (.int .i64 mm) ∧ ModF w' (mkL (mkE mb) List.length 1 acR) (mkL (mkL (mkE mb) List.length) (szL List.length) (1 + (szL List.length acR : Nat)) nxR) lo hi Z Y ∧ ButIn lo hi W w') :=
    fun W lo hi Z Y C D h hz => (markModelF tR aR uR acR nxR hsr 1 (by omega) (by omega) lo hi Z Y C D W h hz).mono fun e w' ⟨he, hi, hb⟩ => ⟨by rw [hmm]; exact he, hi, hb⟩
  have KH : Hid (∀ (W : World) (Z Y : Option Addr) (C D : Nat), BB 0 W (mkL (mkE mb) List.length 1 acR) Z → BBB 0 W (mkL (mkL (mkE mb) List.length) (szL List.length) (1 + (szL List.length acR : Nat)) nxR) Y → Calls Try.prog 35 #[.agg #[.int .i64 tR, .int .i64 aR, .int .i64 uR, .slice Z acR.length C, .slice Y nxR.length D], .int .i64 1] W fun e w' => e = .returned (.int .i64 mm) ∧ Below W.heap.size W w') :=
    fun W Z Y C D h1 h2 => (heldModelF tR aR uR acR nxR hsr 1 (by omega) (by omega) Z Y C D W h1 h2).mono fun e w' ⟨he, hb⟩ => ⟨by rw [hmm]; exact he, hb⟩
  have KQ : Hid (∀ (W : World) (Z Y Z' Y' : Option Addr) (C D C' D' : Nat), BB 0 W acR Z → BBB 0 W nxR Y → BB 0 W acR Z' → BBB 0 W nxR Y' → Calls Try.prog 33 #[.agg #[.int .i64 tR, .int .i64 aR, .int .i64 uR, .slice Z acR.length C, .slice Y nxR.length D], .agg #[.int .i64 tR, .int .i64 aR, .int .i64 uR, .slice Z' acR.length C', .slice Y' nxR.length D']] W fun e w' => e = .returned (.bool true) ∧ Below W.heap.size W w') :=
    fun W Z Y Z' Y' C D C' D' h1 h2 h3 h4 => eqModel_same tR aR uR acR nxR hfit _ _ _ _ _ _ _ _ W h1 h2 h3 h4
  have tm : decide (mm < 0) = false := decide_eq_false (by omega)
  have nq : (q != q) = false := by simp
  have nm : (mm != mm) = false := by simp
  have KW2 := Lib.hid (KW.out hsmall (by omega)); clear KW
  have KG2 := Lib.hid (KG.out hsmall (by omega)); clear KG hsmall hmm hfit hsr hzr zl0
  have hq1 := Lib.hid hp1; clear hp1
  go_enter Try.func8, Try.ntmps8
  go_wp2_with fail
  refine (KS0.out _ ?_).mono ?_
  · unfold Sees; go_grown
  rintro e wz0 ⟨rfl, hb⟩
  have T := St.below (w := w) (l := [(w.heap.size, 0, .int .i64 t0), (w.heap.size, 1, .int .i64 a0), (w.heap.size, 2, .int .i64 u0), (w.heap.size, 3, .slice A0 ac0.length C0), (w.heap.size, 4, .slice B0 nx0.length D0)]) ⟨(by unfold Sees; go_grown), (by simp [go_sem]), (by simp [go_sem]), (by simp [go_sem]), (by simp [go_sem]), (by simp [go_sem]), trivial⟩ hb
  have H := Lib.hid T; clear T hb
  obtain ⟨x0, x1, x2, x3, x4, x5, _⟩ := H.out
  go_wp2_with fail
  clear x0 x1 x2 x3 x4 x5
  have HR := Lib.hid (Gs.start H.out); clear H
  obtain ⟨x0, x1, x2, x3, x4, x5, _⟩ := HR.out.st
  go_wp2_with fail
  refine (KT0.out _ x0).mono ?_
  rintro e wc1 ⟨Zc1, Yc1, rfl, Ic1, hb1⟩
  have T := HR.out.resM Ic1 hb1
  clear x0 x1 x2 x3 x4 x5
  clear HR Ic1 hb1; have HR := Lib.hid T; clear T
  obtain ⟨x0, x1, x2, x3, x4, x5, _⟩ := HR.out.st
  go_wp2_with fail
  refine (KT1.out _ x0).mono ?_
  rintro e wc1 ⟨Zc1, rfl, Ic1, hb1⟩
  have T := HR.out.resI Ic1 hb1
  clear x0 x1 x2 x3 x4 x5
  clear HR Ic1 hb1; have HR := Lib.hid T; clear T
  obtain ⟨x0, x1, x2, x3, x4, x5, _⟩ := HR.out.st
  go_wp2_with fail
  refine (KW2.out _ _ _ _ (HR.out.tl.m1) (HR.out.tl.m2) (HR.out.i1)).mono ?_
  rintro e wr1 ⟨Zq1, Yq1, Cq1, Dq1, rfl, Ir1, hbr1⟩
  have T := ((HR.out.resM Ir1 hbr1).skip.skip.boxed #[.int .i64 tR, .int .i64 aR, .int .i64 uR, .slice Zq1 acR.length Cq1, .slice Yq1 nxR.length Dq1] 63).open5
  clear x0 x1 x2 x3 x4 x5
  have HR' : Hid (∃ lo hi, Gs w [(wr1.heap.size, 0, .int .i64 tR), (wr1.heap.size, 1, .int .i64 aR), (wr1.heap.size, 2, .int .i64 uR), (wr1.heap.size, 3, .slice Zq1 acR.length Cq1), (wr1.heap.size, 4, .slice Yq1 nxR.length Dq1), (w.heap.size, 0, .int .i64 t0), (w.heap.size, 1, .int .i64 a0), (w.heap.size, 2, .int .i64 u0), (w.heap.size, 3, .slice A0 ac0.length C0), (w.heap.size, 4, .slice B0 nx0.length D0)] (ownM acR nxR lo hi Zq1 Yq1 :: []) _) := ⟨_, _, T⟩
  obtain ⟨loq1, hiq1, T2⟩ := HR'.out
  clear HR HR' T Ir1 hbr1; have HR := Lib.hid T2; clear T2
  obtain ⟨x0, x1, x2, x3, x4, x5, x6, x7, x8, x9, x10, _⟩ := HR.out.st
  go_wp2_with fail
  refine (KT0.out _ x0).mono ?_
  rintro e wd0 ⟨Zd0, Yd0, rfl, Id0, hbd⟩
  have T := ((HR.out.resM Id0 hbd).boxed #[.int .i64 t0, .int .i64 a0, .int .i64 u0, .slice Zd0 ac0.length ac0.length, .slice Yd0 nx0.length nx0.length] 63).open5
  clear x0 x1 x2 x3 x4 x5 x6 x7 x8 x9 x10
  have HR' : Hid (∃ lo hi, Gs w [(wd0.heap.size, 0, .int .i64 t0), (wd0.heap.size, 1, .int .i64 a0), (wd0.heap.size, 2, .int .i64 u0), (wd0.heap.size, 3, .slice Zd0 ac0.length ac0.length), (wd0.heap.size, 4, .slice Yd0 nx0.length nx0.length), (wr1.heap.size, 0, .int .i64 tR), (wr1.heap.size, 1, .int .i64 aR), (wr1.heap.size, 2, .int .i64 uR), (wr1.heap.size, 3, .slice Zq1 acR.length Cq1), (wr1.heap.size, 4, .slice Yq1 nxR.length Dq1), (w.heap.size, 0, .int .i64 t0), (w.heap.size, 1, .int .i64 a0), (w.heap.size, 2, .int .i64 u0), (w.heap.size, 3, .slice A0 ac0.length C0), (w.heap.size, 4, .slice B0 nx0.length D0)] (ownM ac0 nx0 lo hi Zd0 Yd0 :: [ownM acR nxR loq1 hiq1 Zq1 Yq1]) _) := ⟨_, _, T⟩
  obtain ⟨lod0, hid0, T2⟩ := HR'.out
  clear HR HR' T Id0 hbd; have HR := Lib.hid T2; clear T2
  obtain ⟨x0, x1, x2, x3, x4, x5, x6, x7, x8, x9, x10, x11, x12, x13, x14, x15, _⟩ := HR.out.st
  go_wp2_with fail
  refine (KT1.out _ x0).mono ?_
  rintro e wd1 ⟨Zd1, rfl, Id1, hbd⟩
  have T := HR.out.resI Id1 hbd
  clear x0 x1 x2 x3 x4 x5 x6 x7 x8 x9 x10 x11 x12 x13 x14 x15
  have HR' : Hid (∃ lo hi, Gs w [(wd0.heap.size, 0, .int .i64 t0), (wd0.heap.size, 1, .int .i64 a0), (wd0.heap.size, 2, .int .i64 u0), (wd0.heap.size, 3, .slice Zd0 ac0.length ac0.length), (wd0.heap.size, 4, .slice Yd0 nx0.length nx0.length), (wr1.heap.size, 0, .int .i64 tR), (wr1.heap.size, 1, .int .i64 aR), (wr1.heap.size, 2, .int .i64 uR), (wr1.heap.size, 3, .slice Zq1 acR.length Cq1), (wr1.heap.size, 4, .slice Yq1 nxR.length Dq1), (w.heap.size, 0, .int .i64 t0), (w.heap.size, 1, .int .i64 a0), (w.heap.size, 2, .int .i64 u0), (w.heap.size, 3, .slice A0 ac0.length C0), (w.heap.size, 4, .slice B0 nx0.length D0)] (ownI p1 lo hi Zd1 :: [ownM ac0 nx0 lod0 hid0 Zd0 Yd0, ownM acR nxR loq1 hiq1 Zq1 Yq1]) _) := ⟨_, _, T⟩
  obtain ⟨lod1, hid1, T2⟩ := HR'.out
  clear HR HR' T Id1 hbd; have HR := Lib.hid T2; clear T2
  obtain ⟨x0, x1, x2, x3, x4, x5, x6, x7, x8, x9, x10, x11, x12, x13, x14, x15, _⟩ := HR.out.st
  go_wp2_with fail
  refine (KG2.out _ _ _ _ (HR.out.tl.m1) (HR.out.tl.m2) (HR.out.i1)).mono ?_
  rintro e wr4 ⟨Zq4, Yq4, Cq4, Dq4, rfl, Ir4, hbr4⟩
  have T := ((HR.out.resM Ir4 hbr4).boxed #[.int .i64 tR, .int .i64 aR, .int .i64 uR, .slice Zq4 acR.length Cq4, .slice Yq4 nxR.length Dq4] 63).open5
  clear x0 x1 x2 x3 x4 x5 x6 x7 x8 x9 x10 x11 x12 x13 x14 x15
  have HR' : Hid (∃ lo hi, Gs w [(wr4.heap.size, 0, .int .i64 tR), (wr4.heap.size, 1, .int .i64 aR), (wr4.heap.size, 2, .int .i64 uR), (wr4.heap.size, 3, .slice Zq4 acR.length Cq4), (wr4.heap.size, 4, .slice Yq4 nxR.length Dq4), (wd0.heap.size, 0, .int .i64 t0), (wd0.heap.size, 1, .int .i64 a0), (wd0.heap.size, 2, .int .i64 u0), (wd0.heap.size, 3, .slice Zd0 ac0.length ac0.length), (wd0.heap.size, 4, .slice Yd0 nx0.length nx0.length), (wr1.heap.size, 0, .int .i64 tR), (wr1.heap.size, 1, .int .i64 aR), (wr1.heap.size, 2, .int .i64 uR), (wr1.heap.size, 3, .slice Zq1 acR.length Cq1), (wr1.heap.size, 4, .slice Yq1 nxR.length Dq1), (w.heap.size, 0, .int .i64 t0), (w.heap.size, 1, .int .i64 a0), (w.heap.size, 2, .int .i64 u0), (w.heap.size, 3, .slice A0 ac0.length C0), (w.heap.size, 4, .slice B0 nx0.length D0)] (ownM acR nxR lo hi Zq4 Yq4 :: [ownI p1 lod1 hid1 Zd1, ownM ac0 nx0 lod0 hid0 Zd0 Yd0, ownM acR nxR loq1 hiq1 Zq1 Yq1]) _) := ⟨_, _, T⟩
  obtain ⟨loq4, hiq4, T2⟩ := HR'.out
  clear HR HR' T Ir4 hbr4; have HR := Lib.hid T2; clear T2
  obtain ⟨x0, x1, x2, x3, x4, x5, x6, x7, x8, x9, x10, x11, x12, x13, x14, x15, x16, x17, x18, x19, x20, _⟩ := HR.out.st
  go_wp2_with fail
  refine (KQ.out _ _ _ _ _ _ _ _ _ (HR.out.m1) (HR.out.m2) (HR.out.tl.tl.tl.m1) (HR.out.tl.tl.tl.m2)).mono ?_
  rintro e wq5 ⟨rfl, hb⟩
  have T := HR.out.below hb
  clear x0 x1 x2 x3 x4 x5 x6 x7 x8 x9 x10 x11 x12 x13 x14 x15 x16 x17 x18 x19 x20
  clear HR hb; have HR := Lib.hid T; clear T
  obtain ⟨x0, x1, x2, x3, x4, x5, x6, x7, x8, x9, x10, x11, x12, x13, x14, x15, x16, x17, x18, x19, x20, _⟩ := HR.out.st
  go_wp2_with fail
  go_region_held3 (fun w' => Sees w w' ∧ w'.cell? ⟨wr4.heap.size, 0, none⟩ = some (.int .i64 tR) ∧ w'.cell? ⟨wr4.heap.size, 1, none⟩ = some (.int .i64 aR) ∧ w'.cell? ⟨wr4.heap.size, 2, none⟩ = some (.int .i64 uR) ∧ w'.cell? ⟨wr4.heap.size, 3, none⟩ = some (.slice Zq4 acR.length Cq4) ∧ w'.cell? ⟨wr4.heap.size, 4, none⟩ = some (.slice Yq4 nxR.length Dq4) ∧ w'.cell? ⟨wd0.heap.size, 0, none⟩ = some (.int .i64 t0) ∧ w'.cell? ⟨wd0.heap.size, 1, none⟩ = some (.int .i64 a0) ∧ w'.cell? ⟨wd0.heap.size, 2, none⟩ = some (.int .i64 u0) ∧ w'.cell? ⟨wd0.heap.size, 3, none⟩ = some (.slice Zd0 ac0.length ac0.length) ∧ w'.cell? ⟨wd0.heap.size, 4, none⟩ = some (.slice Yd0 nx0.length nx0.length) ∧ w'.cell? ⟨wr1.heap.size, 0, none⟩ = some (.int .i64 tR) ∧ w'.cell? ⟨wr1.heap.size, 1, none⟩ = some (.int .i64 aR) ∧ w'.cell? ⟨wr1.heap.size, 2, none⟩ = some (.int .i64 uR) ∧ w'.cell? ⟨wr1.heap.size, 3, none⟩ = some (.slice Zq1 acR.length Cq1) ∧ w'.cell? ⟨wr1.heap.size, 4, none⟩ = some (.slice Yq1 nxR.length Dq1) ∧ w'.cell? ⟨w.heap.size, 0, none⟩ = some (.int .i64 t0) ∧ w'.cell? ⟨w.heap.size, 1, none⟩ = some (.int .i64 a0) ∧ w'.cell? ⟨w.heap.size, 2, none⟩ = some (.int .i64 u0) ∧ w'.cell? ⟨w.heap.size, 3, none⟩ = some (.slice A0 ac0.length C0) ∧ w'.cell? ⟨w.heap.size, 4, none⟩ = some (.slice B0 nx0.length D0) ∧ True)
    (first | exact HR.out.drew.st | exact UE6.st | exact UT6.st | (go_keep; done))
    (first | (go_at_call 30; (with_reducible refine (KT0.out _ ?_).mono ?_); exact St.sees (l := [(wr4.heap.size, 0, .int .i64 tR), (wr4.heap.size, 1, .int .i64 aR), (wr4.heap.size, 2, .int .i64 uR), (wr4.heap.size, 3, .slice Zq4 acR.length Cq4), (wr4.heap.size, 4, .slice Yq4 nxR.length Dq4), (wd0.heap.size, 0, .int .i64 t0), (wd0.heap.size, 1, .int .i64 a0), (wd0.heap.size, 2, .int .i64 u0), (wd0.heap.size, 3, .slice Zd0 ac0.length ac0.length), (wd0.heap.size, 4, .slice Yd0 nx0.length nx0.length), (wr1.heap.size, 0, .int .i64 tR), (wr1.heap.size, 1, .int .i64 aR), (wr1.heap.size, 2, .int .i64 uR), (wr1.heap.size, 3, .slice Zq1 acR.length Cq1), (wr1.heap.size, 4, .slice Yq1 nxR.length Dq1), (w.heap.size, 0, .int .i64 t0), (w.heap.size, 1, .int .i64 a0), (w.heap.size, 2, .int .i64 u0), (w.heap.size, 3, .slice A0 ac0.length C0), (w.heap.size, 4, .slice B0 nx0.length D0)]) (by assumption); rintro e wt6 ⟨Zt6, Yt6, rfl, It6, hbt6⟩; have UT6 := HR.out.drew.resM It6 hbt6) | (go_at_call 33; refine (KE0.out _ _ _ _ _ UT6.tl.tl.tl.m1 UT6.tl.tl.tl.m2 UT6.m1 UT6.m2).mono ?_; rintro e we6 ⟨rfl, hbe6⟩; have UE6 := (UT6.below hbe6).tl))
  clear x0 x1 x2 x3 x4 x5 x6 x7 x8 x9 x10 x11 x12 x13 x14 x15 x16 x17 x18 x19 x20
  clear HR; have HR := Lib.hid UE6; clear UE6 UT6 It6 hbt6 hbe6
  obtain ⟨x0, x1, x2, x3, x4, x5, x6, x7, x8, x9, x10, x11, x12, x13, x14, x15, x16, x17, x18, x19, x20, _⟩ := HR.out.st
  go_wp2_with fail
  refine (KT1.out _ x0).mono ?_
  rintro e wt7 ⟨Zt7, rfl, It7, hbt7⟩
  have UT7 := HR.out.resI It7 hbt7
  clear x0 x1 x2 x3 x4 x5 x6 x7 x8 x9 x10 x11 x12 x13 x14 x15 x16 x17 x18 x19 x20
  clear HR
  have HR := Lib.hid UT7; clear UT7 It7 hbt7
  obtain ⟨x0, x1, x2, x3, x4, x5, x6, x7, x8, x9, x10, x11, x12, x13, x14, x15, x16, x17, x18, x19, x20, _⟩ := HR.out.st
  go_wp2_with fail
  refine (KE1.out _ _ _ HR.out.tl.tl.i1 HR.out.i1).mono ?_
  rintro e we7 ⟨rfl, hb⟩
  have T := (HR.out.below hb).tl
  clear x0 x1 x2 x3 x4 x5 x6 x7 x8 x9 x10 x11 x12 x13 x14 x15 x16 x17 x18 x19 x20
  clear HR hb; have HR := Lib.hid T; clear T
  obtain ⟨x0, x1, x2, x3, x4, x5, x6, x7, x8, x9, x10, x11, x12, x13, x14, x15, x16, x17, x18, x19, x20, _⟩ := HR.out.st
  go_wp2_with fail
  refine (KM0.out _ _ _ _ _ _ _ HR.out.tl.tl.hd HR.out.tl.tl.top).mono ?_
  rintro e wm8 ⟨rfl, hb⟩
  have T := Gs.mark (O1 := [ownM acR nxR loq4 hiq4 Zq4 Yq4, ownI p1 lod1 hid1 Zd1]) (O2 := [ownM acR nxR loq1 hiq1 Zq1 Yq1]) HR.out hb
  clear x0 x1 x2 x3 x4 x5 x6 x7 x8 x9 x10 x11 x12 x13 x14 x15 x16 x17 x18 x19 x20
  clear HR hb; have HR := Lib.hid T; clear T
  have HR2 : Hid (Gs w [(wr4.heap.size, 0, .int .i64 tR), (wr4.heap.size, 1, .int .i64 aR), (wr4.heap.size, 2, .int .i64 uR), (wr4.heap.size, 3, .slice Zq4 acR.length Cq4), (wr4.heap.size, 4, .slice Yq4 nxR.length Dq4), (wd0.heap.size, 0, .int .i64 t0), (wd0.heap.size, 1, .int .i64 a0), (wd0.heap.size, 2, .int .i64 u0), (wd0.heap.size, 3, .slice Zd0 ac0.length ac0.length), (wd0.heap.size, 4, .slice Yd0 nx0.length nx0.length), (wr1.heap.size, 0, .int .i64 tR), (wr1.heap.size, 1, .int .i64 aR), (wr1.heap.size, 2, .int .i64 uR), (wr1.heap.size, 3, .slice Zq1 acR.length Cq1), (wr1.heap.size, 4, .slice Yq1 nxR.length Dq1), (w.heap.size, 0, .int .i64 t0), (w.heap.size, 1, .int .i64 a0), (w.heap.size, 2, .int .i64 u0), (w.heap.size, 3, .slice A0 ac0.length C0), (w.heap.size, 4, .slice B0 nx0.length D0)] [ownM acR nxR loq4 hiq4 Zq4 Yq4, ownI p1 lod1 hid1 Zd1, ownM acR nxR loq1 hiq1 Zq1 Yq1] wm8) := HR.out
  clear HR; have HR := HR2; clear HR2
  obtain ⟨x0, x1, x2, x3, x4, x5, x6, x7, x8, x9, x10, x11, x12, x13, x14, x15, x16, x17, x18, x19, x20, _⟩ := HR.out.st
  go_wp2_with fail
  refine (KM1.out _ _ _ _ _ HR.out.tl.hd HR.out.tl.top).mono ?_
  rintro e wm9 ⟨rfl, hb⟩
  have T := Gs.mark (O1 := [ownM acR nxR loq4 hiq4 Zq4 Yq4]) (O2 := [ownM acR nxR loq1 hiq1 Zq1 Yq1]) HR.out hb
  clear x0 x1 x2 x3 x4 x5 x6 x7 x8 x9 x10 x11 x12 x13 x14 x15 x16 x17 x18 x19 x20
  clear HR hb; have HR := Lib.hid T; clear T
  have HR2 : Hid (Gs w [(wr4.heap.size, 0, .int .i64 tR), (wr4.heap.size, 1, .int .i64 aR), (wr4.heap.size, 2, .int .i64 uR), (wr4.heap.size, 3, .slice Zq4 acR.length Cq4), (wr4.heap.size, 4, .slice Yq4 nxR.length Dq4), (wd0.heap.size, 0, .int .i64 t0), (wd0.heap.size, 1, .int .i64 a0), (wd0.heap.size, 2, .int .i64 u0), (wd0.heap.size, 3, .slice Zd0 ac0.length ac0.length), (wd0.heap.size, 4, .slice Yd0 nx0.length nx0.length), (wr1.heap.size, 0, .int .i64 tR), (wr1.heap.size, 1, .int .i64 aR), (wr1.heap.size, 2, .int .i64 uR), (wr1.heap.size, 3, .slice Zq1 acR.length Cq1), (wr1.heap.size, 4, .slice Yq1 nxR.length Dq1), (w.heap.size, 0, .int .i64 t0), (w.heap.size, 1, .int .i64 a0), (w.heap.size, 2, .int .i64 u0), (w.heap.size, 3, .slice A0 ac0.length C0), (w.heap.size, 4, .slice B0 nx0.length D0)] [ownM acR nxR loq4 hiq4 Zq4 Yq4, ownM acR nxR loq1 hiq1 Zq1 Yq1] wm9) := HR.out
  clear HR; have HR := HR2; clear HR2
  obtain ⟨x0, x1, x2, x3, x4, x5, x6, x7, x8, x9, x10, x11, x12, x13, x14, x15, x16, x17, x18, x19, x20, _⟩ := HR.out.st
  go_wp2_with fail
  refine (KQ.out _ _ _ _ _ _ _ _ _ (HR.out.m1) (HR.out.m2) (HR.out.tl.m1) (HR.out.tl.m2)).mono ?_
  rintro e wq10 ⟨rfl, hb⟩
  have T := HR.out.below hb
  clear x0 x1 x2 x3 x4 x5 x6 x7 x8 x9 x10 x11 x12 x13 x14 x15 x16 x17 x18 x19 x20
  clear HR hb; have HR := Lib.hid T; clear T
  obtain ⟨x0, x1, x2, x3, x4, x5, x6, x7, x8, x9, x10, x11, x12, x13, x14, x15, x16, x17, x18, x19, x20, _⟩ := HR.out.st
  go_wp2_with fail
  refine (KU.out _ _ _ _ _ _ _ HR.out.hd HR.out.top).mono ?_
  rintro e wm11 ⟨rfl, hw, hb⟩
  have T := HR.out.markedM hb hw
  clear x0 x1 x2 x3 x4 x5 x6 x7 x8 x9 x10 x11 x12 x13 x14 x15 x16 x17 x18 x19 x20
  clear HR hb hw; have HR := Lib.hid T; clear T
  obtain ⟨x0, x1, x2, x3, x4, x5, x6, x7, x8, x9, x10, x11, x12, x13, x14, x15, x16, x17, x18, x19, x20, _⟩ := HR.out.st
  go_wp2_with fail
  refine (KH.out _ _ _ _ _ (HR.out.m1) (HR.out.m2)).mono ?_
  rintro e wh12 ⟨rfl, hb⟩
  have T := HR.out.below hb
  clear x0 x1 x2 x3 x4 x5 x6 x7 x8 x9 x10 x11 x12 x13 x14 x15 x16 x17 x18 x19 x20
  clear HR hb; have HR := Lib.hid T; clear T
  obtain ⟨x0, x1, x2, x3, x4, x5, x6, x7, x8, x9, x10, x11, x12, x13, x14, x15, x16, x17, x18, x19, x20, _⟩ := HR.out.st
  go_wp2_with fail
  refine (KT0.out _ x0).mono ?_
  rintro e wc13 ⟨Zc13, Yc13, rfl, Ic13, hb13⟩
  have T := HR.out.resM Ic13 hb13
  clear x0 x1 x2 x3 x4 x5 x6 x7 x8 x9 x10 x11 x12 x13 x14 x15 x16 x17 x18 x19 x20
  clear HR Ic13 hb13; have HR := Lib.hid T; clear T
  obtain ⟨x0, x1, x2, x3, x4, x5, x6, x7, x8, x9, x10, x11, x12, x13, x14, x15, x16, x17, x18, x19, x20, _⟩ := HR.out.st
  go_wp2_with fail
  refine (KT1.out _ x0).mono ?_
  rintro e wc13 ⟨Zc13, rfl, Ic13, hb13⟩
  have T := HR.out.resI Ic13 hb13
  clear x0 x1 x2 x3 x4 x5 x6 x7 x8 x9 x10 x11 x12 x13 x14 x15 x16 x17 x18 x19 x20
  clear HR Ic13 hb13; have HR := Lib.hid T; clear T
  obtain ⟨x0, x1, x2, x3, x4, x5, x6, x7, x8, x9, x10, x11, x12, x13, x14, x15, x16, x17, x18, x19, x20, _⟩ := HR.out.st
  go_wp2_with fail
  refine (KG2.out _ _ _ _ (HR.out.tl.m1) (HR.out.tl.m2) (HR.out.i1)).mono ?_
  rintro e wr13 ⟨Zq13, Yq13, Cq13, Dq13, rfl, Ir13, hbr13⟩
  have T := ((HR.out.resM Ir13 hbr13).skip.skip.boxed #[.int .i64 tR, .int .i64 aR, .int .i64 uR, .slice Zq13 acR.length Cq13, .slice Yq13 nxR.length Dq13] 63).open5
  clear x0 x1 x2 x3 x4 x5 x6 x7 x8 x9 x10 x11 x12 x13 x14 x15 x16 x17 x18 x19 x20
  have HR' : Hid (∃ lo hi, Gs w [(wr13.heap.size, 0, .int .i64 tR), (wr13.heap.size, 1, .int .i64 aR), (wr13.heap.size, 2, .int .i64 uR), (wr13.heap.size, 3, .slice Zq13 acR.length Cq13), (wr13.heap.size, 4, .slice Yq13 nxR.length Dq13), (wr4.heap.size, 0, .int .i64 tR), (wr4.heap.size, 1, .int .i64 aR), (wr4.heap.size, 2, .int .i64 uR), (wr4.heap.size, 3, .slice Zq4 acR.length Cq4), (wr4.heap.size, 4, .slice Yq4 nxR.length Dq4), (wd0.heap.size, 0, .int .i64 t0), (wd0.heap.size, 1, .int .i64 a0), (wd0.heap.size, 2, .int .i64 u0), (wd0.heap.size, 3, .slice Zd0 ac0.length ac0.length), (wd0.heap.size, 4, .slice Yd0 nx0.length nx0.length), (wr1.heap.size, 0, .int .i64 tR), (wr1.heap.size, 1, .int .i64 aR), (wr1.heap.size, 2, .int .i64 uR), (wr1.heap.size, 3, .slice Zq1 acR.length Cq1), (wr1.heap.size, 4, .slice Yq1 nxR.length Dq1), (w.heap.size, 0, .int .i64 t0), (w.heap.size, 1, .int .i64 a0), (w.heap.size, 2, .int .i64 u0), (w.heap.size, 3, .slice A0 ac0.length C0), (w.heap.size, 4, .slice B0 nx0.length D0)] (ownM acR nxR lo hi Zq13 Yq13 :: [ownM (mkL (mkE mb) List.length 1 acR) (mkL (mkL (mkE mb) List.length) (szL List.length) (1 + (szL List.length acR : Nat)) nxR) loq4 hiq4 Zq4 Yq4, ownM acR nxR loq1 hiq1 Zq1 Yq1]) _) := ⟨_, _, T⟩
  obtain ⟨loq13, hiq13, T2⟩ := HR'.out
  clear HR HR' T Ir13 hbr13; have HR := Lib.hid T2; clear T2
  obtain ⟨x0, x1, x2, x3, x4, x5, x6, x7, x8, x9, x10, x11, x12, x13, x14, x15, x16, x17, x18, x19, x20, x21, x22, x23, x24, x25, _⟩ := HR.out.st
  go_wp2_with fail
  refine (KQ.out _ _ _ _ _ _ _ _ _ (HR.out.m1) (HR.out.m2) (HR.out.tl.tl.m1) (HR.out.tl.tl.m2)).mono ?_
  rintro e wq14 ⟨rfl, hb⟩
  have T := HR.out.below hb
  clear x0 x1 x2 x3 x4 x5 x6 x7 x8 x9 x10 x11 x12 x13 x14 x15 x16 x17 x18 x19 x20 x21 x22 x23 x24 x25
  clear HR hb; have HR := Lib.hid T; clear T
  obtain ⟨x0, x1, x2, x3, x4, x5, x6, x7, x8, x9, x10, x11, x12, x13, x14, x15, x16, x17, x18, x19, x20, x21, x22, x23, x24, x25, _⟩ := HR.out.st
  go_wp2_with fail
  refine (KH.out _ _ _ _ _ (HR.out.tl.m1) (HR.out.tl.m2)).mono ?_
  rintro e wh15 ⟨rfl, hb⟩
  have T := HR.out.below hb
  clear x0 x1 x2 x3 x4 x5 x6 x7 x8 x9 x10 x11 x12 x13 x14 x15 x16 x17 x18 x19 x20 x21 x22 x23 x24 x25
  clear HR hb; have HR := Lib.hid T; clear T
  obtain ⟨x0, x1, x2, x3, x4, x5, x6, x7, x8, x9, x10, x11, x12, x13, x14, x15, x16, x17, x18, x19, x20, x21, x22, x23, x24, x25, _⟩ := HR.out.st
  go_wp2_with fail
  go_ret
  exact ⟨rfl, HR.out.st.1⟩

end Go.Proofs.Ytmblgkpgfofceaa
