/- The law FnExactAtomsOf, walked, out of the contracts of both sides. -/
import Derived.Test.YtlpgkhdecccmlaaRGenI
import Derived.Test.YtlpgkhdecccmlaaREndI
import Derived.Test.YtlpgkhdecccmlaaRMarkH
import Derived.Test.YtlpgkhdecccmlaaRSz
import Derived.Test.YtlpgkhdecccmlaaRTo
import Derived.Test.YtlpgkhdecccmlaaREq
import Derived.Test.YtlpgkhdecccmlaaRMarkE
import Derived.Deep.RegionHeld3
import Derived.Deep.DrawnRows
namespace Go.Proofs.YtlpgkhdecccmlaaR
open Go.RowKit
attribute [local go_sem ↓] Go.wp_at_zero Go.wp_at_succ

set_option maxHeartbeats 40000000 in
set_option maxRecDepth 100000 in
theorem lawAtomsOf (t0 a0 : Int) (f1 : Fo) (k1 n1 : Int) (A1 : Option Addr) (C1 : Nat) {R : List Int} {q : Int}
    (HU : Hid (f1.nodes ≤ 1048576 → R.length ≤ 1048576))
    (KW : Hid (f1.nodes ≤ 1048576 → ∀ (W : World) (Z1 : Option Addr), f1.Lies W Z1 → Calls Try.prog 13 #[.agg #[.int .i64 t0, .int .i64 a0], .agg #[.int .i64 k1, .int .i64 n1, .slice Z1 f1.len f1.len]] W (IEnd R q W)))
    (KG : Hid (f1.nodes ≤ 1048576 → ∀ (W : World) (Z1 : Option Addr), f1.Lies W Z1 → Calls Try.prog 16 #[.agg #[.int .i64 t0, .int .i64 a0], .agg #[.int .i64 k1, .int .i64 n1, .slice Z1 f1.len f1.len]] W (IEnd R q W)))
    (w : World) (hm1 : Hid (f1.len ≤ 9223372036854775807)) (hf1 : f1.Fits) (hl1 : f1.Lies w A1) :
    Calls Try.prog 3 #[.agg #[.int .i64 t0, .int .i64 a0], .agg #[.int .i64 k1, .int .i64 n1, .slice A1 f1.len C1]] w fun e w' => e = .returned (.bool true) ∧ Below w.heap.size w w' := by
  by_cases hbig1 : 1048576 < (f1.nodes : Nat)
  · have hs : szR f1.nodes 1048576 = -1 := szR_neg (by omega)
    have KS1 : Hid (∀ W : World, Sees w W → Calls Try.prog 12 #[.agg #[.int .i64 k1, .int .i64 n1, .slice A1 f1.len C1], .int .i64 1048576] W fun e w' => e = .returned (.int .i64 (-1)) ∧ Below W.heap.size W w') := fun W h => by rw [← hs]; exact szExpr_any f1 hm1.out hf1 k1 n1 1048576 A1 C1 W (hl1.sees h) (by omega) (by omega)
    clear hs
    go_enter Try.func3, Try.ntmps3
    go_wp2_with fail
    refine (KS1.out _ ?_).mono ?_
    · unfold Sees; go_grown
    rintro e wz0 ⟨rfl, hb⟩
    have T := St.below (w := w) (l := [(w.heap.size, 0, .int .i64 t0), (w.heap.size, 1, .int .i64 a0), (w.heap.size + 1, 0, .int .i64 k1), (w.heap.size + 1, 1, .int .i64 n1), (w.heap.size + 1, 2, .slice A1 f1.len C1)]) ⟨(by unfold Sees; go_grown), (by simp [go_sem]), (by simp [go_sem]), (by simp [go_sem]), (by simp [go_sem]), (by simp [go_sem]), trivial⟩ hb
    have H := Lib.hid T; clear T hb
    obtain ⟨x0, x1, x2, x3, x4, x5, _⟩ := H.out
    go_wp2_with fail
    clear x0 x1 x2 x3 x4 x5
    go_ret
    exact ⟨rfl, H.out.1⟩
  obtain ⟨s1, hs, hz1, hy1, he1⟩ : ∃ s : Int, s = szR f1.nodes 1048576 ∧ 0 ≤ s ∧ s ≤ 1048576 ∧ Hid (s = 1048576 - (f1.nodes : Nat)) := ⟨_, rfl, by rw [szR_pos (by omega)]; omega, by rw [szR_pos (by omega)]; omega, by show _ = _; rw [szR_pos (by omega)]; try omega⟩
  have KS1 : Hid (∀ W : World, Sees w W → Calls Try.prog 12 #[.agg #[.int .i64 k1, .int .i64 n1, .slice A1 f1.len C1], .int .i64 1048576] W fun e w' => e = .returned (.int .i64 s1) ∧ Below W.heap.size W w') := fun W h => by rw [hs]; exact szExpr_any f1 hm1.out hf1 k1 n1 1048576 A1 C1 W (hl1.sees h) (by omega) (by omega)
  clear hs
  have hsmall : f1.nodes ≤ 1048576 := by have := he1.out; omega
  have hu : Hid (R.length ≤ 1048576) := HU.out hsmall
  clear HU
  have KT0 : Hid (∀ W : World, Sees w W → Calls Try.prog 14 #[.agg #[.int .i64 t0, .int .i64 a0]] W fun e w' => e = .returned (.agg #[.int .i64 t0, .int .i64 a0]) ∧ Below W.heap.size W w') := fun W h => toSig_any t0 a0 W
  have KT1 : Hid (∀ W : World, Sees w W → Calls Try.prog 15 #[.agg #[.int .i64 k1, .int .i64 n1, .slice A1 f1.len C1]] W fun e w' => ∃ Z, e = .returned (.agg #[.int .i64 k1, .int .i64 n1, .slice Z f1.len f1.len]) ∧ f1.XIn w' W.heap.size w'.heap.size Z ∧ Below W.heap.size W w') :=
    fun W h => (toExpr_any f1 (by omega) k1 n1 A1 C1 W (hl1.sees h)).mono fun e w' ⟨Z, he, hs, hb⟩ => ⟨Z, he, hs.xin, hb⟩
  have KE1 : Hid (∀ (W : World) (Z Z' : Option Addr), f1.Lies W Z → f1.Lies W Z' → Calls Try.prog 18 #[.agg #[.int .i64 k1, .int .i64 n1, .slice Z f1.len f1.len], .agg #[.int .i64 k1, .int .i64 n1, .slice Z' f1.len f1.len]] W fun e w' => e = .returned (.bool true) ∧ Below W.heap.size W w') :=
    fun W Z Z' h h' => eqExpr_same f1 hm1.out hf1 k1 n1 _ _ _ _ W h h'
  obtain ⟨y1, hk, kl1, ku1, kn1⟩ : ∃ y : Int, y = 1 + 2 * (f1.nodes : Int) ∧ 0 ≤ y ∧ y ≤ 8388608 ∧ Hid (y = 1 + 2 * (f1.nodes : Int)) := ⟨_, rfl, by omega, by omega, rfl⟩
  have KM1 : Hid (∀ (W : World) (lo hi : Nat) (Z : Option Addr) (C : Nat), f1.XIn W lo hi Z → hi ≤ W.heap.size → Calls Try.prog 19 #[.agg #[.int .i64 k1, .int .i64 n1, .slice Z f1.len C], .int .i64 1] W fun e w' => e = .returned (.int .i64 y1) ∧ ButIn lo hi W w') :=
    fun W lo hi Z C h hz => (markExpr_any f1 (by omega) 1 (by omega) (by omega) k1 n1 lo hi Z C W h hz).mono fun e w' ⟨he, _, hb⟩ => ⟨by rw [hk]; exact he, hb⟩
  clear hk
  have tk : decide (y1 < 0) = false := decide_eq_false (by omega)
  obtain ⟨mm, hmm, ml⟩ : ∃ m : Int, m = 1 + (R.length : Int) ∧ 0 ≤ m := ⟨_, rfl, by omega⟩
  have hul := hu.out
  have KU : Hid (∀ (W : World) (lo hi : Nat) (Z : Option Addr) (C : Nat), IntsIn W R lo hi Z → hi ≤ W.heap.size → Calls Try.prog 20 #[.slice Z R.length C, .int .i64 1] W fun e w' => e = .returned (.int .i64 mm) ∧ IntsIn w' (ramp 1 R.length) lo hi Z ∧ ButIn lo hi W w') :=
    fun W lo hi Z C h hz => (markInts_any R hul 1 (by omega) (by omega) lo hi Z C W h).mono fun e w' ⟨he, hi, hb⟩ => ⟨by rw [hmm]; exact he, hi, hb⟩
  have KH : Hid (∀ (W : World) (lo hi : Nat) (Z : Option Addr) (C : Nat), IntsIn W (ramp 1 R.length) lo hi Z → Calls Try.prog 21 #[.slice Z R.length C, .int .i64 1] W fun e w' => e = .returned (.int .i64 mm) ∧ Below W.heap.size W w') :=
    fun W lo hi Z C h => (heldInts_any R.length hul 1 (by omega) (by omega) lo hi Z C W h).mono fun e w' ⟨he, m, hw⟩ => ⟨by rw [hmm]; exact he, by rw [hw]; exact below_drewN _ _ _⟩
  have KQ : Hid (∀ (W : World) (Z Z' : Option Addr) (C C' : Nat), Ints W R Z → Ints W R Z' → Calls Try.prog 17 #[.slice Z R.length C, .slice Z' R.length C'] W fun e w' => e = .returned (.bool true) ∧ Below W.heap.size W w') :=
    fun W Z Z' C C' h1 h2 => (eqInt64S_any R R (by omega) _ _ _ _ W h1 h2).mono fun e w' ⟨he, m, hm⟩ => ⟨by rw [he]; simp, by rw [hm]; exact below_drewN _ _ _⟩
  have tm : decide (mm < 0) = false := decide_eq_false (by omega)
  have nq : (q != q) = false := by simp
  have nm : (mm != mm) = false := by simp
  have KW2 := Lib.hid (KW.out hsmall); clear KW
  have KG2 := Lib.hid (KG.out hsmall); clear KG hsmall hmm hul
  go_enter Try.func3, Try.ntmps3
  go_wp2_with fail
  refine (KS1.out _ ?_).mono ?_
  · unfold Sees; go_grown
  rintro e wz0 ⟨rfl, hb⟩
  have T := St.below (w := w) (l := [(w.heap.size, 0, .int .i64 t0), (w.heap.size, 1, .int .i64 a0), (w.heap.size + 1, 0, .int .i64 k1), (w.heap.size + 1, 1, .int .i64 n1), (w.heap.size + 1, 2, .slice A1 f1.len C1)]) ⟨(by unfold Sees; go_grown), (by simp [go_sem]), (by simp [go_sem]), (by simp [go_sem]), (by simp [go_sem]), (by simp [go_sem]), trivial⟩ hb
  have H := Lib.hid T; clear T hb
  obtain ⟨x0, x1, x2, x3, x4, x5, _⟩ := H.out
  go_wp2_with fail
  clear x0 x1 x2 x3 x4 x5
  have HR := Lib.hid (Gs.start H.out); clear H
  obtain ⟨x0, x1, x2, x3, x4, x5, _⟩ := HR.out.st
  go_wp2_with fail
  go_region_held3 (fun w' => Sees w w' ∧ w'.cell? ⟨w.heap.size, 0, none⟩ = some (.int .i64 t0) ∧ w'.cell? ⟨w.heap.size, 1, none⟩ = some (.int .i64 a0) ∧ w'.cell? ⟨w.heap.size + 1, 0, none⟩ = some (.int .i64 k1) ∧ w'.cell? ⟨w.heap.size + 1, 1, none⟩ = some (.int .i64 n1) ∧ w'.cell? ⟨w.heap.size + 1, 2, none⟩ = some (.slice A1 f1.len C1) ∧ True)
    (first | exact HR.out.drew.st | exact UR1.st | exact U1_1.st | exact U1_0.st | (go_keep; done))
    (first | (go_at_call 14; (with_reducible refine (KT0.out _ ?_).mono ?_); exact St.sees (l := [(w.heap.size, 0, .int .i64 t0), (w.heap.size, 1, .int .i64 a0), (w.heap.size + 1, 0, .int .i64 k1), (w.heap.size + 1, 1, .int .i64 n1), (w.heap.size + 1, 2, .slice A1 f1.len C1)]) (by assumption); rintro e wc1_0 ⟨rfl, hb1_0⟩; have U1_0 := HR.out.drew.below hb1_0) | (go_at_call 15; (with_reducible refine (KT1.out _ ?_).mono ?_); exact St.sees (l := [(w.heap.size, 0, .int .i64 t0), (w.heap.size, 1, .int .i64 a0), (w.heap.size + 1, 0, .int .i64 k1), (w.heap.size + 1, 1, .int .i64 n1), (w.heap.size + 1, 2, .slice A1 f1.len C1)]) (by assumption); rintro e wc1_1 ⟨Zc1_1, rfl, Ic1_1, hb1_1⟩; have U1_1 := U1_0.resS Ic1_1 hb1_1) | (go_at_call 13; refine (KW2.out _ _ ?_ ).mono ?_; exact U1_1.lieS; rintro e wr1 ⟨Zr1, Cr1, rfl, Ir1, hbr1⟩; have UR1 := (U1_1.resI Ir1 hbr1).skip))
  clear x0 x1 x2 x3 x4 x5
  have HR' : Hid (∃ lo hi, Gs w [(w.heap.size, 0, .int .i64 t0), (w.heap.size, 1, .int .i64 a0), (w.heap.size + 1, 0, .int .i64 k1), (w.heap.size + 1, 1, .int .i64 n1), (w.heap.size + 1, 2, .slice A1 f1.len C1)] (ownI R lo hi Zr1 :: []) wr1) := ⟨_, _, UR1⟩
  obtain ⟨lo1, hi1, T2⟩ := HR'.out
  clear HR HR' UR1 Ir1 hbr1 U1_0 hb1_0 U1_1 hb1_1 Ic1_1; have HR := Lib.hid T2; clear T2
  obtain ⟨x0, x1, x2, x3, x4, x5, _⟩ := HR.out.st
  go_wp2_with fail
  refine (KT1.out _ x0).mono ?_
  rintro e wd1 ⟨Zd1, rfl, Id1, hbd⟩
  have T := ((HR.out.resS Id1 hbd).boxed #[.int .i64 k1, .int .i64 n1, .slice Zd1 f1.len f1.len] 35).open3
  clear x0 x1 x2 x3 x4 x5
  have HR' : Hid (∃ lo hi, Gs w [(wd1.heap.size, 0, .int .i64 k1), (wd1.heap.size, 1, .int .i64 n1), (wd1.heap.size, 2, .slice Zd1 f1.len f1.len), (w.heap.size, 0, .int .i64 t0), (w.heap.size, 1, .int .i64 a0), (w.heap.size + 1, 0, .int .i64 k1), (w.heap.size + 1, 1, .int .i64 n1), (w.heap.size + 1, 2, .slice A1 f1.len C1)] (ownS f1 lo hi Zd1 :: [ownI R lo1 hi1 Zr1]) _) := ⟨_, _, T⟩
  obtain ⟨lod1, hid1, T2⟩ := HR'.out
  clear HR HR' T Id1 hbd; have HR := Lib.hid T2; clear T2
  obtain ⟨x0, x1, x2, x3, x4, x5, x6, x7, x8, _⟩ := HR.out.st
  go_wp2_with fail
  go_region_held3 (fun w' => Sees w w' ∧ w'.cell? ⟨wd1.heap.size, 0, none⟩ = some (.int .i64 k1) ∧ w'.cell? ⟨wd1.heap.size, 1, none⟩ = some (.int .i64 n1) ∧ w'.cell? ⟨wd1.heap.size, 2, none⟩ = some (.slice Zd1 f1.len f1.len) ∧ w'.cell? ⟨w.heap.size, 0, none⟩ = some (.int .i64 t0) ∧ w'.cell? ⟨w.heap.size, 1, none⟩ = some (.int .i64 a0) ∧ w'.cell? ⟨w.heap.size + 1, 0, none⟩ = some (.int .i64 k1) ∧ w'.cell? ⟨w.heap.size + 1, 1, none⟩ = some (.int .i64 n1) ∧ w'.cell? ⟨w.heap.size + 1, 2, none⟩ = some (.slice A1 f1.len C1) ∧ True)
    (first | exact HR.out.drew.st | exact UR3.st | exact U3_0.st | (go_keep; done))
    (first | (go_at_call 14; (with_reducible refine (KT0.out _ ?_).mono ?_); exact St.sees (l := [(wd1.heap.size, 0, .int .i64 k1), (wd1.heap.size, 1, .int .i64 n1), (wd1.heap.size, 2, .slice Zd1 f1.len f1.len), (w.heap.size, 0, .int .i64 t0), (w.heap.size, 1, .int .i64 a0), (w.heap.size + 1, 0, .int .i64 k1), (w.heap.size + 1, 1, .int .i64 n1), (w.heap.size + 1, 2, .slice A1 f1.len C1)]) (by assumption); rintro e wc3_0 ⟨rfl, hb3_0⟩; have U3_0 := HR.out.drew.below hb3_0) | (go_at_call 16; refine (KG2.out _ _ ?_ ).mono ?_; exact U3_0.lieS; rintro e wr3 ⟨Zr3, Cr3, rfl, Ir3, hbr3⟩; have UR3 := (U3_0.resI Ir3 hbr3)))
  clear x0 x1 x2 x3 x4 x5 x6 x7 x8
  have HR' : Hid (∃ lo hi, Gs w [(wd1.heap.size, 0, .int .i64 k1), (wd1.heap.size, 1, .int .i64 n1), (wd1.heap.size, 2, .slice Zd1 f1.len f1.len), (w.heap.size, 0, .int .i64 t0), (w.heap.size, 1, .int .i64 a0), (w.heap.size + 1, 0, .int .i64 k1), (w.heap.size + 1, 1, .int .i64 n1), (w.heap.size + 1, 2, .slice A1 f1.len C1)] (ownI R lo hi Zr3 :: [ownS f1 lod1 hid1 Zd1, ownI R lo1 hi1 Zr1]) wr3) := ⟨_, _, UR3⟩
  obtain ⟨lo3, hi3, T2⟩ := HR'.out
  clear HR HR' UR3 Ir3 hbr3 U3_0 hb3_0; have HR := Lib.hid T2; clear T2
  obtain ⟨x0, x1, x2, x3, x4, x5, x6, x7, x8, _⟩ := HR.out.st
  go_wp2_with fail
  refine (KQ.out _ _ _ _ _ (HR.out.i1) (HR.out.tl.tl.i1)).mono ?_
  rintro e wq4 ⟨rfl, hb⟩
  have T := HR.out.below hb
  clear x0 x1 x2 x3 x4 x5 x6 x7 x8
  clear HR hb; have HR := Lib.hid T; clear T
  obtain ⟨x0, x1, x2, x3, x4, x5, x6, x7, x8, _⟩ := HR.out.st
  go_wp2_with fail
  go_region_held3 (fun w' => Sees w w' ∧ w'.cell? ⟨wd1.heap.size, 0, none⟩ = some (.int .i64 k1) ∧ w'.cell? ⟨wd1.heap.size, 1, none⟩ = some (.int .i64 n1) ∧ w'.cell? ⟨wd1.heap.size, 2, none⟩ = some (.slice Zd1 f1.len f1.len) ∧ w'.cell? ⟨w.heap.size, 0, none⟩ = some (.int .i64 t0) ∧ w'.cell? ⟨w.heap.size, 1, none⟩ = some (.int .i64 a0) ∧ w'.cell? ⟨w.heap.size + 1, 0, none⟩ = some (.int .i64 k1) ∧ w'.cell? ⟨w.heap.size + 1, 1, none⟩ = some (.int .i64 n1) ∧ w'.cell? ⟨w.heap.size + 1, 2, none⟩ = some (.slice A1 f1.len C1) ∧ True)
    (first | exact HR.out.drew.st | exact UE5.st | exact UT5.st | (go_keep; done))
    (first | (go_at_call 15; (with_reducible refine (KT1.out _ ?_).mono ?_); exact St.sees (l := [(wd1.heap.size, 0, .int .i64 k1), (wd1.heap.size, 1, .int .i64 n1), (wd1.heap.size, 2, .slice Zd1 f1.len f1.len), (w.heap.size, 0, .int .i64 t0), (w.heap.size, 1, .int .i64 a0), (w.heap.size + 1, 0, .int .i64 k1), (w.heap.size + 1, 1, .int .i64 n1), (w.heap.size + 1, 2, .slice A1 f1.len C1)]) (by assumption); rintro e wt5 ⟨Zt5, rfl, It5, hbt5⟩; have UT5 := HR.out.drew.resS It5 hbt5) | (go_at_call 18; refine (KE1.out _ _ _ UT5.tl.tl.lieS UT5.lieS).mono ?_; rintro e we5 ⟨rfl, hbe5⟩; have UE5 := (UT5.below hbe5).tl))
  clear x0 x1 x2 x3 x4 x5 x6 x7 x8
  clear HR; have HR := Lib.hid UE5; clear UE5 UT5 It5 hbt5 hbe5
  obtain ⟨x0, x1, x2, x3, x4, x5, x6, x7, x8, _⟩ := HR.out.st
  go_wp2_with fail
  refine (KM1.out _ _ _ _ _ HR.out.tl.hd HR.out.tl.top).mono ?_
  rintro e wm6 ⟨rfl, hb⟩
  have T := Gs.mark (O1 := [ownI R lo3 hi3 Zr3]) (O2 := [ownI R lo1 hi1 Zr1]) HR.out hb
  clear x0 x1 x2 x3 x4 x5 x6 x7 x8
  clear HR hb; have HR := Lib.hid T; clear T
  have HR2 : Hid (Gs w [(wd1.heap.size, 0, .int .i64 k1), (wd1.heap.size, 1, .int .i64 n1), (wd1.heap.size, 2, .slice Zd1 f1.len f1.len), (w.heap.size, 0, .int .i64 t0), (w.heap.size, 1, .int .i64 a0), (w.heap.size + 1, 0, .int .i64 k1), (w.heap.size + 1, 1, .int .i64 n1), (w.heap.size + 1, 2, .slice A1 f1.len C1)] [ownI R lo3 hi3 Zr3, ownI R lo1 hi1 Zr1] wm6) := HR.out
  clear HR; have HR := HR2; clear HR2
  obtain ⟨x0, x1, x2, x3, x4, x5, x6, x7, x8, _⟩ := HR.out.st
  go_wp2_with fail
  refine (KQ.out _ _ _ _ _ (HR.out.i1) (HR.out.tl.i1)).mono ?_
  rintro e wq7 ⟨rfl, hb⟩
  have T := HR.out.below hb
  clear x0 x1 x2 x3 x4 x5 x6 x7 x8
  clear HR hb; have HR := Lib.hid T; clear T
  obtain ⟨x0, x1, x2, x3, x4, x5, x6, x7, x8, _⟩ := HR.out.st
  go_wp2_with fail
  refine (KU.out _ _ _ _ _ HR.out.hd HR.out.top).mono ?_
  rintro e wm8 ⟨rfl, hw, hb⟩
  have T := HR.out.marked (ownI (ramp 1 R.length) lo3 hi3 Zr3) hb hw rfl rfl
  clear x0 x1 x2 x3 x4 x5 x6 x7 x8
  clear HR hb hw; have HR := Lib.hid T; clear T
  obtain ⟨x0, x1, x2, x3, x4, x5, x6, x7, x8, _⟩ := HR.out.st
  go_wp2_with fail
  refine (KH.out _ _ _ _ _ HR.out.hd).mono ?_
  rintro e wh9 ⟨rfl, hb⟩
  have T := HR.out.below hb
  clear x0 x1 x2 x3 x4 x5 x6 x7 x8
  clear HR hb; have HR := Lib.hid T; clear T
  obtain ⟨x0, x1, x2, x3, x4, x5, x6, x7, x8, _⟩ := HR.out.st
  go_wp2_with fail
  go_region_held3 (fun w' => Sees w w' ∧ w'.cell? ⟨wd1.heap.size, 0, none⟩ = some (.int .i64 k1) ∧ w'.cell? ⟨wd1.heap.size, 1, none⟩ = some (.int .i64 n1) ∧ w'.cell? ⟨wd1.heap.size, 2, none⟩ = some (.slice Zd1 f1.len f1.len) ∧ w'.cell? ⟨w.heap.size, 0, none⟩ = some (.int .i64 t0) ∧ w'.cell? ⟨w.heap.size, 1, none⟩ = some (.int .i64 a0) ∧ w'.cell? ⟨w.heap.size + 1, 0, none⟩ = some (.int .i64 k1) ∧ w'.cell? ⟨w.heap.size + 1, 1, none⟩ = some (.int .i64 n1) ∧ w'.cell? ⟨w.heap.size + 1, 2, none⟩ = some (.slice A1 f1.len C1) ∧ True)
    (first | exact HR.out.drew.st | exact UR10.st | exact U10_1.st | exact U10_0.st | (go_keep; done))
    (first | (go_at_call 14; (with_reducible refine (KT0.out _ ?_).mono ?_); exact St.sees (l := [(wd1.heap.size, 0, .int .i64 k1), (wd1.heap.size, 1, .int .i64 n1), (wd1.heap.size, 2, .slice Zd1 f1.len f1.len), (w.heap.size, 0, .int .i64 t0), (w.heap.size, 1, .int .i64 a0), (w.heap.size + 1, 0, .int .i64 k1), (w.heap.size + 1, 1, .int .i64 n1), (w.heap.size + 1, 2, .slice A1 f1.len C1)]) (by assumption); rintro e wc10_0 ⟨rfl, hb10_0⟩; have U10_0 := HR.out.drew.below hb10_0) | (go_at_call 15; (with_reducible refine (KT1.out _ ?_).mono ?_); exact St.sees (l := [(wd1.heap.size, 0, .int .i64 k1), (wd1.heap.size, 1, .int .i64 n1), (wd1.heap.size, 2, .slice Zd1 f1.len f1.len), (w.heap.size, 0, .int .i64 t0), (w.heap.size, 1, .int .i64 a0), (w.heap.size + 1, 0, .int .i64 k1), (w.heap.size + 1, 1, .int .i64 n1), (w.heap.size + 1, 2, .slice A1 f1.len C1)]) (by assumption); rintro e wc10_1 ⟨Zc10_1, rfl, Ic10_1, hb10_1⟩; have U10_1 := U10_0.resS Ic10_1 hb10_1) | (go_at_call 16; refine (KG2.out _ _ ?_ ).mono ?_; exact U10_1.lieS; rintro e wr10 ⟨Zr10, Cr10, rfl, Ir10, hbr10⟩; have UR10 := (U10_1.resI Ir10 hbr10).skip))
  clear x0 x1 x2 x3 x4 x5 x6 x7 x8
  have HR' : Hid (∃ lo hi, Gs w [(wd1.heap.size, 0, .int .i64 k1), (wd1.heap.size, 1, .int .i64 n1), (wd1.heap.size, 2, .slice Zd1 f1.len f1.len), (w.heap.size, 0, .int .i64 t0), (w.heap.size, 1, .int .i64 a0), (w.heap.size + 1, 0, .int .i64 k1), (w.heap.size + 1, 1, .int .i64 n1), (w.heap.size + 1, 2, .slice A1 f1.len C1)] (ownI R lo hi Zr10 :: [ownI (ramp 1 R.length) lo3 hi3 Zr3, ownI R lo1 hi1 Zr1]) wr10) := ⟨_, _, UR10⟩
  obtain ⟨lo10, hi10, T2⟩ := HR'.out
  clear HR HR' UR10 Ir10 hbr10 U10_0 hb10_0 U10_1 hb10_1 Ic10_1; have HR := Lib.hid T2; clear T2
  obtain ⟨x0, x1, x2, x3, x4, x5, x6, x7, x8, _⟩ := HR.out.st
  go_wp2_with fail
  refine (KQ.out _ _ _ _ _ (HR.out.i1) (HR.out.tl.tl.i1)).mono ?_
  rintro e wq11 ⟨rfl, hb⟩
  have T := HR.out.below hb
  clear x0 x1 x2 x3 x4 x5 x6 x7 x8
  clear HR hb; have HR := Lib.hid T; clear T
  obtain ⟨x0, x1, x2, x3, x4, x5, x6, x7, x8, _⟩ := HR.out.st
  go_wp2_with fail
  refine (KH.out _ _ _ _ _ HR.out.tl.hd).mono ?_
  rintro e wh12 ⟨rfl, hb⟩
  have T := HR.out.below hb
  clear x0 x1 x2 x3 x4 x5 x6 x7 x8
  clear HR hb; have HR := Lib.hid T; clear T
  obtain ⟨x0, x1, x2, x3, x4, x5, x6, x7, x8, _⟩ := HR.out.st
  go_wp2_with fail
  go_ret
  exact ⟨rfl, HR.out.st.1⟩

end Go.Proofs.YtlpgkhdecccmlaaR
