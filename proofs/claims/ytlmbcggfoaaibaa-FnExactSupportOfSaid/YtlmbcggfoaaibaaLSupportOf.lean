/- The law FnExactSupportOf, walked, out of the contracts of both sides. -/
import Derived.Test.YtlmbcggfoaaibaaGenM
import Derived.Deep.RegionHeld3
import Derived.Deep.DrawnRows
import Derived.Deep.DeepCutAuto
namespace Go.Proofs.Ytlmbcggfoaaibaa
open Go.RowKit
attribute [local go_sem ↓] Go.wp_at_zero Go.wp_at_succ

set_option maxHeartbeats 40000000 in
set_option maxRecDepth 100000 in
theorem lawSupportOf (t0 a0 u0 : Int) (ac0 : List (List Bool)) (nx0 : List (List (List Int))) (A0 B0 : Option Addr) (C0 D0 : Nat) {tR aR uR : Int} {acR : List (List Bool)} {nxR : List (List (List Bool))} {q : Int}
    (HU : Hid ((autN ac0 nx0) ≤ 1048576 → modN acR nxR ≤ 1048576))
    (KW : Hid ((autN ac0 nx0) ≤ 1048576 → ∀ (W : World) (Z0 Y0 : Option Addr), BB 0 W ac0 Z0 → III 0 W nx0 Y0 → Calls Try.prog 32 #[.agg #[.int .i64 t0, .int .i64 a0, .int .i64 u0, .slice Z0 ac0.length ac0.length, .slice Y0 nx0.length nx0.length]] W (MEnd tR aR uR acR nxR q W)))
    (KG : Hid ((autN ac0 nx0) ≤ 1048576 → ∀ (W : World) (Z0 Y0 : Option Addr), BB 0 W ac0 Z0 → III 0 W nx0 Y0 → Calls Try.prog 33 #[.agg #[.int .i64 t0, .int .i64 a0, .int .i64 u0, .slice Z0 ac0.length ac0.length, .slice Y0 nx0.length nx0.length]] W (MEnd tR aR uR acR nxR q W)))
    (w : World) (hm0 : Hid (FitA ac0 nx0)) (hl0 : BB 0 w ac0 A0) (hr0 : III 0 w nx0 B0) :
    Calls Try.prog 8 #[.agg #[.int .i64 t0, .int .i64 a0, .int .i64 u0, .slice A0 ac0.length C0, .slice B0 nx0.length D0]] w fun e w' => e = .returned (.bool true) ∧ Below w.heap.size w w' := by
  by_cases hbig0 : 1048576 < ((autN ac0 nx0) : Nat)
  · have hs : szR (autN ac0 nx0) 1048576 = -1 := szR_neg (by omega)
    have KS0 : Hid (∀ W : World, Sees w W → Calls Try.prog 20 #[.agg #[.int .i64 t0, .int .i64 a0, .int .i64 u0, .slice A0 ac0.length C0, .slice B0 nx0.length D0], .int .i64 1048576] W fun e w' => e = .returned (.int .i64 (-1)) ∧ Below W.heap.size W w') := fun W h => by rw [← hs]; exact szCosts_any t0 a0 u0 ac0 nx0 hm0.out 1048576 A0 B0 C0 D0 W (hl0.sees h) (hr0.sees h) (by omega) (by omega)
    clear hs
    go_enter Try.func8, Try.ntmps8
    go_wp2_with fail
    refine (KS0.out _ ?_).mono ?_
    · unfold Sees; go_grown
    rintro e wz0 ⟨rfl, hb⟩
    have T := St.below (w := w) (l := [(w.heap.size, 0, .int .i64 t0), (w.heap.size, 1, .int .i64 a0), (w.heap.size, 2, .int .i64 u0), (w.heap.size, 3, .slice A0 ac0.length C0), (w.heap.size, 4, .slice B0 nx0.length D0)]) ⟨(by unfold Sees; go_grown), (by simp [go_sem]), (by simp [go_sem]), (by simp [go_sem]), (by simp [go_sem]), (by simp [go_sem]), trivial⟩ hb
    have H := Lib.hid T; clear T hb
    obtain ⟨x0, x1, x2, x3, x4, x5, _⟩ := H.out
    go_wp2_with fail
    clear x0 x1 x2 x3 x4 x5
    go_ret
    exact ⟨rfl, H.out.1⟩
  obtain ⟨s0, hs, hz0, hy0, he0⟩ : ∃ s : Int, s = szR (autN ac0 nx0) 1048576 ∧ 0 ≤ s ∧ s ≤ 1048576 ∧ Hid (s = 1048576 - ((autN ac0 nx0) : Nat)) := ⟨_, rfl, by rw [szR_pos (by omega)]; omega, by rw [szR_pos (by omega)]; omega, by show _ = _; rw [szR_pos (by omega)]; try omega⟩
  have KS0 : Hid (∀ W : World, Sees w W → Calls Try.prog 20 #[.agg #[.int .i64 t0, .int .i64 a0, .int .i64 u0, .slice A0 ac0.length C0, .slice B0 nx0.length D0], .int .i64 1048576] W fun e w' => e = .returned (.int .i64 s0) ∧ Below W.heap.size W w') := fun W h => by rw [hs]; exact szCosts_any t0 a0 u0 ac0 nx0 hm0.out 1048576 A0 B0 C0 D0 W (hl0.sees h) (hr0.sees h) (by omega) (by omega)
  clear hs
  have hsmall : (autN ac0 nx0) ≤ 1048576 := by have := he0.out; omega
  have hu : Hid (modN acR nxR ≤ 1048576) := HU.out hsmall
  clear HU
  have KT0 : Hid (∀ W : World, Sees w W → Calls Try.prog 22 #[.agg #[.int .i64 t0, .int .i64 a0, .int .i64 u0, .slice A0 ac0.length C0, .slice B0 nx0.length D0]] W fun e w' => ∃ Z Y, e = .returned (.agg #[.int .i64 t0, .int .i64 a0, .int .i64 u0, .slice Z ac0.length ac0.length, .slice Y nx0.length nx0.length]) ∧ CosF w' ac0 nx0 W.heap.size w'.heap.size Z Y ∧ Below W.heap.size W w') :=
    fun W h => toCostsF t0 a0 u0 ac0 nx0 (autN_small (by omega)) A0 B0 C0 D0 W (hl0.sees h) (hr0.sees h)
  have KE0 : Hid (∀ (W : World) (Z Y Z' Y' : Option Addr), BB 0 W ac0 Z → III 0 W nx0 Y → BB 0 W ac0 Z' → III 0 W nx0 Y' → Calls Try.prog 24 #[.agg #[.int .i64 t0, .int .i64 a0, .int .i64 u0, .slice Z ac0.length ac0.length, .slice Y nx0.length nx0.length], .agg #[.int .i64 t0, .int .i64 a0, .int .i64 u0, .slice Z' ac0.length ac0.length, .slice Y' nx0.length nx0.length]] W fun e w' => e = .returned (.bool true) ∧ Below W.heap.size W w') :=
    fun W Z Y Z' Y' h1 h2 h3 h4 => eqCosts_same t0 a0 u0 ac0 nx0 hm0.out _ _ _ _ _ _ _ _ W h1 h2 h3 h4
  have zl0 : szL List.length ac0 + szL (szL List.length) nx0 ≤ 1048576 := autZ_le (by omega)
  obtain ⟨y0, hk, kl0, ku0, kn0⟩ : ∃ y : Int, y = 1 + ((szL List.length ac0 : Nat) : Int) + (szL (szL List.length) nx0 : Nat) ∧ 0 ≤ y ∧ y ≤ 4194304 ∧ Hid (y = 1 + ((szL List.length ac0 : Nat) : Int) + (szL (szL List.length) nx0 : Nat)) := ⟨_, rfl, by omega, by omega, rfl⟩
  have KM0 : Hid (∀ (W : World) (lo hi : Nat) (Z Y : Option Addr) (C D : Nat), CosF W ac0 nx0 lo hi Z Y → hi ≤ W.heap.size → Calls Try.prog 34 #[.agg #[.int .i64 t0, .int .i64 a0, .int .i64 u0, .slice Z ac0.length C, .slice Y nx0.length D], .int .i64 1] W fun e w' => e = .returned (.int .i64 y0) ∧ ButIn lo hi W w') :=
    fun W lo hi Z Y C D h hz => (markCostsF t0 a0 u0 ac0 nx0 (autN_small (by omega)) 1 (by omega) (by omega) lo hi Z Y C D W h hz).mono fun e w' ⟨he, _, hb⟩ => ⟨by rw [hk]; exact he, hb⟩
  clear hk
  have tk : decide (y0 < 0) = false := decide_eq_false (by omega)
  have hsr := modN_small hu.out; have hzr := modZ_le hu.out; have hfit := fitM_small hsr
  obtain ⟨mm, hmm, ml⟩ : ∃ m : Int, m = 1 + (szL List.length acR : Nat) + (szL (szL List.length) nxR : Nat) ∧ 0 ≤ m := ⟨_, rfl, by omega⟩
  have KU : Hid (∀ (W : World) (lo hi : Nat) (Z Y : Option Addr) (C D : Nat), ModF W acR nxR lo hi Z Y → hi ≤ W.heap.size → Calls Try.prog 35 #[.agg #[.int .i64 tR, .int .i64 aR, .int .i64 uR, .slice Z acR.length C, .slice Y nxR.length D], .int .i64 1] W fun e w' => e = .returned (.int .i64 mm) ∧ ModF w' (mkL (mkE mb) List.length 1 acR) (mkL (mkL (mkE mb) List.length) (szL List.length) (1 + (szL List.length acR : Nat)) nxR) lo hi Z Y ∧ ButIn lo hi W w') :=
    fun W lo hi Z Y C D h hz => (markModelF tR aR uR acR nxR hsr 1 (by omega) (by omega) lo hi Z Y C D W h hz).mono fun e w' ⟨he, hi, hb⟩ => ⟨by rw [hmm]; exact he, hi, hb⟩
  have KH : Hid (∀ (W : World) (Z Y : Option Addr) (C D : Nat), BB 0 W (mkL (mkE mb) List.length 1 acR) Z → BBB 0 W (mkL (mkL (mkE mb) List.length) (szL List.length) (1 + (szL List.length acR : Nat)) nxR) Y → Calls Try.prog 36 #[.agg #[.int .i64 tR, .int .i64 aR, .int .i64 uR, .slice Z acR.length C, .slice Y nxR.length D], .int .i64 1] W fun e w' => e = .returned (.int .i64 mm) ∧ Below W.heap.size W w') :=
    fun W Z Y C D h1 h2 => (heldModelF tR aR uR acR nxR hsr 1 (by omega) (by omega) Z Y C D W h1 h2).mono fun e w' ⟨he, hb⟩ => ⟨by rw [hmm]; exact he, hb⟩
  have KQ : Hid (∀ (W : World) (Z Y Z' Y' : Option Addr) (C D C' D' : Nat), BB 0 W acR Z → BBB 0 W nxR Y → BB 0 W acR Z' → BBB 0 W nxR Y' → Calls Try.prog 17 #[.agg #[.int .i64 tR, .int .i64 aR, .int .i64 uR, .slice Z acR.length C, .slice Y nxR.length D], .agg #[.int .i64 tR, .int .i64 aR, .int .i64 uR, .slice Z' acR.length C', .slice Y' nxR.length D']] W fun e w' => e = .returned (.bool true) ∧ Below W.heap.size W w') :=
    fun W Z Y Z' Y' C D C' D' h1 h2 h3 h4 => eqModel_same tR aR uR acR nxR hfit _ _ _ _ _ _ _ _ W h1 h2 h3 h4
  have tm : decide (mm < 0) = false := decide_eq_false (by omega)
  have nq : (q != q) = false := by simp
  have nm : (mm != mm) = false := by simp
  have KW2 := Lib.hid (KW.out hsmall); clear KW
  have KG2 := Lib.hid (KG.out hsmall); clear KG hsmall hmm hfit hsr hzr zl0
  go_enter Try.func8, Try.ntmps8
  go_wp2_with fail
  refine (KS0.out _ ?_).mono ?_
  · unfold Sees; go_grown
  rintro e wz0 ⟨rfl, hb⟩
  have T := St.below (w := w) (l := [(w.heap.size, 0, .int .i64 t0), (w.heap.size, 1, .int .i64 a0), (w.heap.size, 2, .int .i64 u0), (w.heap.size, 3, .slice A0 ac0.length C0), (w.heap.size, 4, .slice B0 nx0.length D0)]) ⟨(by unfold Sees; go_grown), (by simp [go_sem]), (by simp [go_sem]), (by simp [go_sem]), (by simp [go_sem]), (by simp [go_sem]), trivial⟩ hb
  have H := Lib.hid T; clear T hb
  obtain ⟨x0, x1, x2, x3, x4, x5, _⟩ := H.out
  go_wp2_with fail
  clear x0 x1 x2 x3 x4 x5
  have HR := Lib.hid (Gs.start H.out); clear H
  obtain ⟨x0, x1, x2, x3, x4, x5, _⟩ := HR.out.st
  go_wp2_with fail
  refine (KT0.out _ x0).mono ?_
  rintro e wc1 ⟨Zc1, Yc1, rfl, Ic1, hb1⟩
  have T := HR.out.resC Ic1 hb1
  clear x0 x1 x2 x3 x4 x5
  clear HR Ic1 hb1; have HR := Lib.hid T; clear T
  obtain ⟨x0, x1, x2, x3, x4, x5, _⟩ := HR.out.st
  go_wp2_with fail
  refine (KW2.out _ _ _ (HR.out.n1) (HR.out.n2)).mono ?_
  rintro e wr1 ⟨Zq1, Yq1, Cq1, Dq1, rfl, Ir1, hbr1⟩
  have T := ((HR.out.resM Ir1 hbr1).skip.boxed #[.int .i64 tR, .int .i64 aR, .int .i64 uR, .slice Zq1 acR.length Cq1, .slice Yq1 nxR.length Dq1] 32).open5
  clear x0 x1 x2 x3 x4 x5
  have HR' : Hid (∃ lo hi, Gs w [(wr1.heap.size, 0, .int .i64 tR), (wr1.heap.size, 1, .int .i64 aR), (wr1.heap.size, 2, .int .i64 uR), (wr1.heap.size, 3, .slice Zq1 acR.length Cq1), (wr1.heap.size, 4, .slice Yq1 nxR.length Dq1), (w.heap.size, 0, .int .i64 t0), (w.heap.size, 1, .int .i64 a0), (w.heap.size, 2, .int .i64 u0), (w.heap.size, 3, .slice A0 ac0.length C0), (w.heap.size, 4, .slice B0 nx0.length D0)] (ownM acR nxR lo hi Zq1 Yq1 :: []) _) := ⟨_, _, T⟩
  obtain ⟨loq1, hiq1, T2⟩ := HR'.out
  clear HR HR' T Ir1 hbr1; have HR := Lib.hid T2; clear T2
  obtain ⟨x0, x1, x2, x3, x4, x5, x6, x7, x8, x9, x10, _⟩ := HR.out.st
  go_wp2_with fail
  refine (KT0.out _ x0).mono ?_
  rintro e wd0 ⟨Zd0, Yd0, rfl, Id0, hbd⟩
  have T := ((HR.out.resC Id0 hbd).boxed #[.int .i64 t0, .int .i64 a0, .int .i64 u0, .slice Zd0 ac0.length ac0.length, .slice Yd0 nx0.length nx0.length] 43).open5
  clear x0 x1 x2 x3 x4 x5 x6 x7 x8 x9 x10
  have HR' : Hid (∃ lo hi, Gs w [(wd0.heap.size, 0, .int .i64 t0), (wd0.heap.size, 1, .int .i64 a0), (wd0.heap.size, 2, .int .i64 u0), (wd0.heap.size, 3, .slice Zd0 ac0.length ac0.length), (wd0.heap.size, 4, .slice Yd0 nx0.length nx0.length), (wr1.heap.size, 0, .int .i64 tR), (wr1.heap.size, 1, .int .i64 aR), (wr1.heap.size, 2, .int .i64 uR), (wr1.heap.size, 3, .slice Zq1 acR.length Cq1), (wr1.heap.size, 4, .slice Yq1 nxR.length Dq1), (w.heap.size, 0, .int .i64 t0), (w.heap.size, 1, .int .i64 a0), (w.heap.size, 2, .int .i64 u0), (w.heap.size, 3, .slice A0 ac0.length C0), (w.heap.size, 4, .slice B0 nx0.length D0)] (ownC ac0 nx0 lo hi Zd0 Yd0 :: [ownM acR nxR loq1 hiq1 Zq1 Yq1]) _) := ⟨_, _, T⟩
  obtain ⟨lod0, hid0, T2⟩ := HR'.out
  clear HR HR' T Id0 hbd; have HR := Lib.hid T2; clear T2
  obtain ⟨x0, x1, x2, x3, x4, x5, x6, x7, x8, x9, x10, x11, x12, x13, x14, x15, _⟩ := HR.out.st
  go_wp2_with fail
  refine (KG2.out _ _ _ (HR.out.n1) (HR.out.n2)).mono ?_
  rintro e wr3 ⟨Zq3, Yq3, Cq3, Dq3, rfl, Ir3, hbr3⟩
  have T := ((HR.out.resM Ir3 hbr3).boxed #[.int .i64 tR, .int .i64 aR, .int .i64 uR, .slice Zq3 acR.length Cq3, .slice Yq3 nxR.length Dq3] 32).open5
  clear x0 x1 x2 x3 x4 x5 x6 x7 x8 x9 x10 x11 x12 x13 x14 x15
  have HR' : Hid (∃ lo hi, Gs w [(wr3.heap.size, 0, .int .i64 tR), (wr3.heap.size, 1, .int .i64 aR), (wr3.heap.size, 2, .int .i64 uR), (wr3.heap.size, 3, .slice Zq3 acR.length Cq3), (wr3.heap.size, 4, .slice Yq3 nxR.length Dq3), (wd0.heap.size, 0, .int .i64 t0), (wd0.heap.size, 1, .int .i64 a0), (wd0.heap.size, 2, .int .i64 u0), (wd0.heap.size, 3, .slice Zd0 ac0.length ac0.length), (wd0.heap.size, 4, .slice Yd0 nx0.length nx0.length), (wr1.heap.size, 0, .int .i64 tR), (wr1.heap.size, 1, .int .i64 aR), (wr1.heap.size, 2, .int .i64 uR), (wr1.heap.size, 3, .slice Zq1 acR.length Cq1), (wr1.heap.size, 4, .slice Yq1 nxR.length Dq1), (w.heap.size, 0, .int .i64 t0), (w.heap.size, 1, .int .i64 a0), (w.heap.size, 2, .int .i64 u0), (w.heap.size, 3, .slice A0 ac0.length C0), (w.heap.size, 4, .slice B0 nx0.length D0)] (ownM acR nxR lo hi Zq3 Yq3 :: [ownC ac0 nx0 lod0 hid0 Zd0 Yd0, ownM acR nxR loq1 hiq1 Zq1 Yq1]) _) := ⟨_, _, T⟩
  obtain ⟨loq3, hiq3, T2⟩ := HR'.out
  clear HR HR' T Ir3 hbr3; have HR := Lib.hid T2; clear T2
  obtain ⟨x0, x1, x2, x3, x4, x5, x6, x7, x8, x9, x10, x11, x12, x13, x14, x15, x16, x17, x18, x19, x20, _⟩ := HR.out.st
  go_wp2_with fail
  refine (KQ.out _ _ _ _ _ _ _ _ _ (HR.out.m1) (HR.out.m2) (HR.out.tl.tl.m1) (HR.out.tl.tl.m2)).mono ?_
  rintro e wq4 ⟨rfl, hb⟩
  have T := HR.out.below hb
  clear x0 x1 x2 x3 x4 x5 x6 x7 x8 x9 x10 x11 x12 x13 x14 x15 x16 x17 x18 x19 x20
  clear HR hb; have HR := Lib.hid T; clear T
  obtain ⟨x0, x1, x2, x3, x4, x5, x6, x7, x8, x9, x10, x11, x12, x13, x14, x15, x16, x17, x18, x19, x20, _⟩ := HR.out.st
  go_wp2_with fail
  go_region_held3 (fun w' => Sees w w' ∧ w'.cell? ⟨wr3.heap.size, 0, none⟩ = some (.int .i64 tR) ∧ w'.cell? ⟨wr3.heap.size, 1, none⟩ = some (.int .i64 aR) ∧ w'.cell? ⟨wr3.heap.size, 2, none⟩ = some (.int .i64 uR) ∧ w'.cell? ⟨wr3.heap.size, 3, none⟩ = some (.slice Zq3 acR.length Cq3) ∧ w'.cell? ⟨wr3.heap.size, 4, none⟩ = some (.slice Yq3 nxR.length Dq3) ∧ w'.cell? ⟨wd0.heap.size, 0, none⟩ = some (.int .i64 t0) ∧ w'.cell? ⟨wd0.heap.size, 1, none⟩ = some (.int .i64 a0) ∧ w'.cell? ⟨wd0.heap.size, 2, none⟩ = some (.int .i64 u0) ∧ w'.cell? ⟨wd0.heap.size, 3, none⟩ = some (.slice Zd0 ac0.length ac0.length) ∧ w'.cell? ⟨wd0.heap.size, 4, none⟩ = some (.slice Yd0 nx0.length nx0.length) ∧ w'.cell? ⟨wr1.heap.size, 0, none⟩ = some (.int .i64 tR) ∧ w'.cell? ⟨wr1.heap.size, 1, none⟩ = some (.int .i64 aR) ∧ w'.cell? ⟨wr1.heap.size, 2, none⟩ = some (.int .i64 uR) ∧ w'.cell? ⟨wr1.heap.size, 3, none⟩ = some (.slice Zq1 acR.length Cq1) ∧ w'.cell? ⟨wr1.heap.size, 4, none⟩ = some (.slice Yq1 nxR.length Dq1) ∧ w'.cell? ⟨w.heap.size, 0, none⟩ = some (.int .i64 t0) ∧ w'.cell? ⟨w.heap.size, 1, none⟩ = some (.int .i64 a0) ∧ w'.cell? ⟨w.heap.size, 2, none⟩ = some (.int .i64 u0) ∧ w'.cell? ⟨w.heap.size, 3, none⟩ = some (.slice A0 ac0.length C0) ∧ w'.cell? ⟨w.heap.size, 4, none⟩ = some (.slice B0 nx0.length D0) ∧ True)
    (first | exact HR.out.drew.st | exact UE5.st | exact UT5.st | (go_keep; done))
    (first | (go_at_call 22; (with_reducible refine (KT0.out _ ?_).mono ?_); exact St.sees (l := [(wr3.heap.size, 0, .int .i64 tR), (wr3.heap.size, 1, .int .i64 aR), (wr3.heap.size, 2, .int .i64 uR), (wr3.heap.size, 3, .slice Zq3 acR.length Cq3), (wr3.heap.size, 4, .slice Yq3 nxR.length Dq3), (wd0.heap.size, 0, .int .i64 t0), (wd0.heap.size, 1, .int .i64 a0), (wd0.heap.size, 2, .int .i64 u0), (wd0.heap.size, 3, .slice Zd0 ac0.length ac0.length), (wd0.heap.size, 4, .slice Yd0 nx0.length nx0.length), (wr1.heap.size, 0, .int .i64 tR), (wr1.heap.size, 1, .int .i64 aR), (wr1.heap.size, 2, .int .i64 uR), (wr1.heap.size, 3, .slice Zq1 acR.length Cq1), (wr1.heap.size, 4, .slice Yq1 nxR.length Dq1), (w.heap.size, 0, .int .i64 t0), (w.heap.size, 1, .int .i64 a0), (w.heap.size, 2, .int .i64 u0), (w.heap.size, 3, .slice A0 ac0.length C0), (w.heap.size, 4, .slice B0 nx0.length D0)]) (by assumption); rintro e wt5 ⟨Zt5, Yt5, rfl, It5, hbt5⟩; have UT5 := HR.out.drew.resC It5 hbt5) | (go_at_call 24; refine (KE0.out _ _ _ _ _ UT5.tl.tl.n1 UT5.tl.tl.n2 UT5.n1 UT5.n2).mono ?_; rintro e we5 ⟨rfl, hbe5⟩; have UE5 := (UT5.below hbe5).tl))
  clear x0 x1 x2 x3 x4 x5 x6 x7 x8 x9 x10 x11 x12 x13 x14 x15 x16 x17 x18 x19 x20
  clear HR; have HR := Lib.hid UE5; clear UE5 UT5 It5 hbt5 hbe5
  obtain ⟨x0, x1, x2, x3, x4, x5, x6, x7, x8, x9, x10, x11, x12, x13, x14, x15, x16, x17, x18, x19, x20, _⟩ := HR.out.st
  go_wp2_with fail
  refine (KM0.out _ _ _ _ _ _ _ HR.out.tl.hd HR.out.tl.top).mono ?_
  rintro e wm6 ⟨rfl, hb⟩
  have T := Gs.mark (O1 := [ownM acR nxR loq3 hiq3 Zq3 Yq3]) (O2 := [ownM acR nxR loq1 hiq1 Zq1 Yq1]) HR.out hb
  clear x0 x1 x2 x3 x4 x5 x6 x7 x8 x9 x10 x11 x12 x13 x14 x15 x16 x17 x18 x19 x20
  clear HR hb; have HR := Lib.hid T; clear T
  have HR2 : Hid (Gs w [(wr3.heap.size, 0, .int .i64 tR), (wr3.heap.size, 1, .int .i64 aR), (wr3.heap.size, 2, .int .i64 uR), (wr3.heap.size, 3, .slice Zq3 acR.length Cq3), (wr3.heap.size, 4, .slice Yq3 nxR.length Dq3), (wd0.heap.size, 0, .int .i64 t0), (wd0.heap.size, 1, .int .i64 a0), (wd0.heap.size, 2, .int .i64 u0), (wd0.heap.size, 3, .slice Zd0 ac0.length ac0.length), (wd0.heap.size, 4, .slice Yd0 nx0.length nx0.length), (wr1.heap.size, 0, .int .i64 tR), (wr1.heap.size, 1, .int .i64 aR), (wr1.heap.size, 2, .int .i64 uR), (wr1.heap.size, 3, .slice Zq1 acR.length Cq1), (wr1.heap.size, 4, .slice Yq1 nxR.length Dq1), (w.heap.size, 0, .int .i64 t0), (w.heap.size, 1, .int .i64 a0), (w.heap.size, 2, .int .i64 u0), (w.heap.size, 3, .slice A0 ac0.length C0), (w.heap.size, 4, .slice B0 nx0.length D0)] [ownM acR nxR loq3 hiq3 Zq3 Yq3, ownM acR nxR loq1 hiq1 Zq1 Yq1] wm6) := HR.out
  clear HR; have HR := HR2; clear HR2
  obtain ⟨x0, x1, x2, x3, x4, x5, x6, x7, x8, x9, x10, x11, x12, x13, x14, x15, x16, x17, x18, x19, x20, _⟩ := HR.out.st
  go_wp2_with fail
  refine (KQ.out _ _ _ _ _ _ _ _ _ (HR.out.m1) (HR.out.m2) (HR.out.tl.m1) (HR.out.tl.m2)).mono ?_
  rintro e wq7 ⟨rfl, hb⟩
  have T := HR.out.below hb
  clear x0 x1 x2 x3 x4 x5 x6 x7 x8 x9 x10 x11 x12 x13 x14 x15 x16 x17 x18 x19 x20
  clear HR hb; have HR := Lib.hid T; clear T
  obtain ⟨x0, x1, x2, x3, x4, x5, x6, x7, x8, x9, x10, x11, x12, x13, x14, x15, x16, x17, x18, x19, x20, _⟩ := HR.out.st
  go_wp2_with fail
  refine (KU.out _ _ _ _ _ _ _ HR.out.hd HR.out.top).mono ?_
  rintro e wm8 ⟨rfl, hw, hb⟩
  have T := HR.out.markedM hb hw
  clear x0 x1 x2 x3 x4 x5 x6 x7 x8 x9 x10 x11 x12 x13 x14 x15 x16 x17 x18 x19 x20
  clear HR hb hw; have HR := Lib.hid T; clear T
  obtain ⟨x0, x1, x2, x3, x4, x5, x6, x7, x8, x9, x10, x11, x12, x13, x14, x15, x16, x17, x18, x19, x20, _⟩ := HR.out.st
  go_wp2_with fail
  refine (KH.out _ _ _ _ _ (HR.out.m1) (HR.out.m2)).mono ?_
  rintro e wh9 ⟨rfl, hb⟩
  have T := HR.out.below hb
  clear x0 x1 x2 x3 x4 x5 x6 x7 x8 x9 x10 x11 x12 x13 x14 x15 x16 x17 x18 x19 x20
  clear HR hb; have HR := Lib.hid T; clear T
  obtain ⟨x0, x1, x2, x3, x4, x5, x6, x7, x8, x9, x10, x11, x12, x13, x14, x15, x16, x17, x18, x19, x20, _⟩ := HR.out.st
  go_wp2_with fail
  refine (KT0.out _ x0).mono ?_
  rintro e wc10 ⟨Zc10, Yc10, rfl, Ic10, hb10⟩
  have T := HR.out.resC Ic10 hb10
  clear x0 x1 x2 x3 x4 x5 x6 x7 x8 x9 x10 x11 x12 x13 x14 x15 x16 x17 x18 x19 x20
  clear HR Ic10 hb10; have HR := Lib.hid T; clear T
  obtain ⟨x0, x1, x2, x3, x4, x5, x6, x7, x8, x9, x10, x11, x12, x13, x14, x15, x16, x17, x18, x19, x20, _⟩ := HR.out.st
  go_wp2_with fail
  refine (KG2.out _ _ _ (HR.out.n1) (HR.out.n2)).mono ?_
  rintro e wr10 ⟨Zq10, Yq10, Cq10, Dq10, rfl, Ir10, hbr10⟩
  have T := ((HR.out.resM Ir10 hbr10).skip.boxed #[.int .i64 tR, .int .i64 aR, .int .i64 uR, .slice Zq10 acR.length Cq10, .slice Yq10 nxR.length Dq10] 32).open5
  clear x0 x1 x2 x3 x4 x5 x6 x7 x8 x9 x10 x11 x12 x13 x14 x15 x16 x17 x18 x19 x20
  have HR' : Hid (∃ lo hi, Gs w [(wr10.heap.size, 0, .int .i64 tR), (wr10.heap.size, 1, .int .i64 aR), (wr10.heap.size, 2, .int .i64 uR), (wr10.heap.size, 3, .slice Zq10 acR.length Cq10), (wr10.heap.size, 4, .slice Yq10 nxR.length Dq10), (wr3.heap.size, 0, .int .i64 tR), (wr3.heap.size, 1, .int .i64 aR), (wr3.heap.size, 2, .int .i64 uR), (wr3.heap.size, 3, .slice Zq3 acR.length Cq3), (wr3.heap.size, 4, .slice Yq3 nxR.length Dq3), (wd0.heap.size, 0, .int .i64 t0), (wd0.heap.size, 1, .int .i64 a0), (wd0.heap.size, 2, .int .i64 u0), (wd0.heap.size, 3, .slice Zd0 ac0.length ac0.length), (wd0.heap.size, 4, .slice Yd0 nx0.length nx0.length), (wr1.heap.size, 0, .int .i64 tR), (wr1.heap.size, 1, .int .i64 aR), (wr1.heap.size, 2, .int .i64 uR), (wr1.heap.size, 3, .slice Zq1 acR.length Cq1), (wr1.heap.size, 4, .slice Yq1 nxR.length Dq1), (w.heap.size, 0, .int .i64 t0), (w.heap.size, 1, .int .i64 a0), (w.heap.size, 2, .int .i64 u0), (w.heap.size, 3, .slice A0 ac0.length C0), (w.heap.size, 4, .slice B0 nx0.length D0)] (ownM acR nxR lo hi Zq10 Yq10 :: [ownM (mkL (mkE mb) List.length 1 acR) (mkL (mkL (mkE mb) List.length) (szL List.length) (1 + (szL List.length acR : Nat)) nxR) loq3 hiq3 Zq3 Yq3, ownM acR nxR loq1 hiq1 Zq1 Yq1]) _) := ⟨_, _, T⟩
  obtain ⟨loq10, hiq10, T2⟩ := HR'.out
  clear HR HR' T Ir10 hbr10; have HR := Lib.hid T2; clear T2
  obtain ⟨x0, x1, x2, x3, x4, x5, x6, x7, x8, x9, x10, x11, x12, x13, x14, x15, x16, x17, x18, x19, x20, x21, x22, x23, x24, x25, _⟩ := HR.out.st
  go_wp2_with fail
  refine (KQ.out _ _ _ _ _ _ _ _ _ (HR.out.m1) (HR.out.m2) (HR.out.tl.tl.m1) (HR.out.tl.tl.m2)).mono ?_
  rintro e wq11 ⟨rfl, hb⟩
  have T := HR.out.below hb
  clear x0 x1 x2 x3 x4 x5 x6 x7 x8 x9 x10 x11 x12 x13 x14 x15 x16 x17 x18 x19 x20 x21 x22 x23 x24 x25
  clear HR hb; have HR := Lib.hid T; clear T
  obtain ⟨x0, x1, x2, x3, x4, x5, x6, x7, x8, x9, x10, x11, x12, x13, x14, x15, x16, x17, x18, x19, x20, x21, x22, x23, x24, x25, _⟩ := HR.out.st
  go_wp2_with fail
  refine (KH.out _ _ _ _ _ (HR.out.tl.m1) (HR.out.tl.m2)).mono ?_
  rintro e wh12 ⟨rfl, hb⟩
  have T := HR.out.below hb
  clear x0 x1 x2 x3 x4 x5 x6 x7 x8 x9 x10 x11 x12 x13 x14 x15 x16 x17 x18 x19 x20 x21 x22 x23 x24 x25
  clear HR hb; have HR := Lib.hid T; clear T
  obtain ⟨x0, x1, x2, x3, x4, x5, x6, x7, x8, x9, x10, x11, x12, x13, x14, x15, x16, x17, x18, x19, x20, x21, x22, x23, x24, x25, _⟩ := HR.out.st
  go_wp2_with fail
  go_ret
  exact ⟨rfl, HR.out.st.1⟩

end Go.Proofs.Ytlmbcggfoaaibaa
