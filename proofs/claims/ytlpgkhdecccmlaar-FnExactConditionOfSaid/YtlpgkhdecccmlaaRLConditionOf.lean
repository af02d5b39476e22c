/- The law FnExactConditionOf, walked, out of the contracts of both sides. -/
import Derived.Test.YtlpgkhdecccmlaaREndE
import Derived.Test.YtlpgkhdecccmlaaRMarkE
import Derived.Test.YtlpgkhdecccmlaaRGenX
import Derived.Test.YtlpgkhdecccmlaaRSz
import Derived.Test.YtlpgkhdecccmlaaRTo
import Derived.Test.YtlpgkhdecccmlaaREq
import Derived.Test.YtlpgkhdecccmlaaRGenI
import Derived.Deep.RegionHeld3
import Derived.Deep.DrawnRows
import Derived.Deep.DeepCutAuto
namespace Go.Proofs.YtlpgkhdecccmlaaR
open Go.RowKit
attribute [local go_sem ↓] Go.wp_at_zero Go.wp_at_succ

set_option maxHeartbeats 40000000 in
set_option maxRecDepth 100000 in
theorem lawConditionOf (t0 a0 : Int) (p1 : List Int) (A1 : Option Addr) (C1 : Nat) {kR nR : Int} {fR : Fo} {q : Int}
    (HU : Hid (0 ≤ 1048576 → p1.length ≤ 1048576 → fR.nodes ≤ 1048576))
    (KW : Hid (0 ≤ 1048576 → p1.length ≤ 1048576 → ∀ (W : World) (Z1 : Option Addr), Ints W p1 Z1 → Calls Try.prog 22 #[.agg #[.int .i64 t0, .int .i64 a0], .slice Z1 p1.length p1.length] W (LEnd kR nR fR q W)))
    (KG : Hid (0 ≤ 1048576 → p1.length ≤ 1048576 → ∀ (W : World) (Z1 : Option Addr), Ints W p1 Z1 → Calls Try.prog 24 #[.agg #[.int .i64 t0, .int .i64 a0], .slice Z1 p1.length p1.length] W (XEnd kR nR fR q W)))
    (w : World) (hm1 : Hid (p1.length ≤ 9223372036854775807)) (hl1 : Ints w p1 A1) :
    Calls Try.prog 4 #[.agg #[.int .i64 t0, .int .i64 a0], .slice A1 p1.length C1] w fun e w' => e = .returned (.bool true) ∧ Below w.heap.size w w' := by
  by_cases hp1 : 1048576 < p1.length
  · have hmo := hm1.out
    go_enter Try.func4, Try.ntmps4
    go_wp2_with fail
    go_ret
    exact ⟨rfl, by go_grown⟩
  have tp1 : decide ((1048576 : Int) < ((p1.length : Nat) : Int)) = false := decide_eq_false (by omega)
  have hsmall : 0 ≤ 1048576 := by omega
  have hu : Hid (fR.nodes ≤ 1048576) := HU.out hsmall (by omega)
  clear HU
  have KT0 : Hid (∀ W : World, Sees w W → Calls Try.prog 14 #[.agg #[.int .i64 t0, .int .i64 a0]] W fun e w' => e = .returned (.agg #[.int .i64 t0, .int .i64 a0]) ∧ Below W.heap.size W w') := fun W h => toSig_any t0 a0 W
  have KT1 : Hid (∀ W : World, Sees w W → Calls Try.prog 23 #[.slice A1 p1.length C1] W fun e w' => ∃ Z, e = .returned (.slice Z p1.length p1.length) ∧ IntsIn w' p1 W.heap.size w'.heap.size Z ∧ Below W.heap.size W w') :=
    fun W h => toInt64S_any p1 (by omega) A1 C1 W (hl1.sees h)
  have KE1 : Hid (∀ (W : World) (Z Z' : Option Addr), Ints W p1 Z → Ints W p1 Z' → Calls Try.prog 17 #[.slice Z p1.length p1.length, .slice Z' p1.length p1.length] W fun e w' => e = .returned (.bool true) ∧ Below W.heap.size W w') :=
    fun W Z Z' h h' => (eqInt64S_any p1 p1 hm1.out _ _ _ _ W h h').mono fun e w' ⟨he, m, hm⟩ => ⟨by rw [he]; simp, by rw [hm]; exact below_drewN _ _ _⟩
  obtain ⟨y1, hk, kl1, ku1, kn1⟩ : ∃ y : Int, y = 1 + (p1.length : Int) ∧ 0 ≤ y ∧ y ≤ 4194304 ∧ Hid (y = 1 + (p1.length : Int)) := ⟨_, rfl, by omega, by omega, rfl⟩
  have KM1 : Hid (∀ (W : World) (lo hi : Nat) (Z : Option Addr) (C : Nat), IntsIn W p1 lo hi Z → hi ≤ W.heap.size → Calls Try.prog 20 #[.slice Z p1.length C, .int .i64 1] W fun e w' => e = .returned (.int .i64 y1) ∧ ButIn lo hi W w') :=
    fun W lo hi Z C h hz => (markInts_any p1 (by omega) 1 (by omega) (by omega) lo hi Z C W h).mono fun e w' ⟨he, _, hb⟩ => ⟨by rw [hk]; exact he, hb⟩
  clear hk
  have tk : decide (y1 < 0) = false := decide_eq_false (by omega)
  have hfit := Fo.fits_small hu.out
  obtain ⟨mm, hmm, ml⟩ : ∃ m : Int, m = 1 + 2 * (fR.nodes : Int) ∧ 0 ≤ m := ⟨_, rfl, by omega⟩
  have KU : Hid (∀ (W : World) (lo hi : Nat) (Z : Option Addr) (C : Nat), fR.XIn W lo hi Z → hi ≤ W.heap.size → Calls Try.prog 19 #[.agg #[.int .i64 kR, .int .i64 nR, .slice Z fR.len C], .int .i64 1] W fun e w' => e = .returned (.int .i64 mm) ∧ (fR.mark 1).XIn w' lo hi Z ∧ ButIn lo hi W w') :=
    fun W lo hi Z C h hz => (markExpr_any fR hu.out 1 (by omega) (by omega) kR nR lo hi Z C W h hz).mono fun e w' ⟨he, hi, hb⟩ => ⟨by rw [hmm]; exact he, hi, hb⟩
  have KH : Hid (∀ (W : World) (Z : Option Addr) (C : Nat), (fR.mark 1).Lies W Z → Calls Try.prog 25 #[.agg #[.int .i64 kR, .int .i64 nR, .slice Z fR.len C], .int .i64 1] W fun e w' => e = .returned (.int .i64 mm) ∧ Below W.heap.size W w') :=
    fun W Z C h => (heldExpr_any fR hu.out 1 (by omega) (by omega) kR nR Z C W h).mono fun e w' ⟨he, hb⟩ => ⟨by rw [hmm]; exact he, hb⟩
  have KQ : Hid (∀ (W : World) (Z Z' : Option Addr) (C C' : Nat), fR.Lies W Z → fR.Lies W Z' → Calls Try.prog 18 #[.agg #[.int .i64 kR, .int .i64 nR, .slice Z fR.len C], .agg #[.int .i64 kR, .int .i64 nR, .slice Z' fR.len C']] W fun e w' => e = .returned (.bool true) ∧ Below W.heap.size W w') :=
    fun W Z Z' C C' h1 h2 => eqExpr_same fR hfit.1 hfit.2 kR nR _ _ _ _ W h1 h2
  have tm : decide (mm < 0) = false := decide_eq_false (by omega)
  have nq : (q != q) = false := by simp
  have nm : (mm != mm) = false := by simp
  have KW2 := Lib.hid (KW.out hsmall (by omega)); clear KW
  have KG2 := Lib.hid (KG.out hsmall (by omega)); clear KG hsmall hmm hfit
  have hq1 := Lib.hid hp1; clear hp1
  go_enter Try.func4, Try.ntmps4
  go_wp2_with fail
  have H := Lib.hid (show St w [(w.heap.size, 0, .int .i64 t0), (w.heap.size, 1, .int .i64 a0)] (w.alloc (.cells #[.int .i64 t0, .int .i64 a0] 23)) from ⟨(by unfold Sees; go_grown), (by simp [go_sem]), (by simp [go_sem]), trivial⟩)
  have HR := Lib.hid (Gs.start H.out); clear H
  obtain ⟨x0, x1, x2, _⟩ := HR.out.st
  refine (KT0.out _ HR.out.st.1).mono ?_
  rintro e wc1_0 ⟨rfl, hb1_0⟩
  have U1_0 := HR.out.below hb1_0
  clear x0 x1 x2
  obtain ⟨x0, x1, x2, _⟩ := U1_0.st
  go_wp2_with fail
  refine (KT1.out _ U1_0.st.1).mono ?_
  rintro e wc1_1 ⟨Zc1_1, rfl, Ic1_1, hb1_1⟩
  have U1_1 := U1_0.resI Ic1_1 hb1_1
  clear x0 x1 x2
  obtain ⟨x0, x1, x2, _⟩ := U1_1.st
  go_wp2_with fail
  refine (KW2.out _ _ ?_ ).mono ?_
  · exact U1_1.i1
  rintro e wr1 ⟨Zq1, Cq1, rfl, Ir1, hbr1⟩
  have UR1 := (U1_1.resL Ir1 hbr1).skip
  have T1 := (UR1.boxed #[.int .i64 kR, .int .i64 nR, .slice Zq1 fR.len Cq1] 35).open3
  clear x0 x1 x2
  have HR' : Hid (∃ lo hi, Gs w [(wr1.heap.size, 0, .int .i64 kR), (wr1.heap.size, 1, .int .i64 nR), (wr1.heap.size, 2, .slice Zq1 fR.len Cq1), (w.heap.size, 0, .int .i64 t0), (w.heap.size, 1, .int .i64 a0)] (ownL fR lo hi Zq1 :: []) _) := ⟨_, _, T1⟩
  obtain ⟨loq1, hiq1, T2⟩ := HR'.out
  clear HR HR' T1 UR1 Ir1 hbr1 U1_0 hb1_0 U1_1 hb1_1 Ic1_1; have HR := Lib.hid T2; clear T2
  obtain ⟨x0, x1, x2, x3, x4, x5, _⟩ := HR.out.st
  go_wp2_with fail
  refine (KT1.out _ x0).mono ?_
  rintro e wd1 ⟨Zd1, rfl, Id1, hbd⟩
  have T := HR.out.resI Id1 hbd
  clear x0 x1 x2 x3 x4 x5
  have HR' : Hid (∃ lo hi, Gs w [(wr1.heap.size, 0, .int .i64 kR), (wr1.heap.size, 1, .int .i64 nR), (wr1.heap.size, 2, .slice Zq1 fR.len Cq1), (w.heap.size, 0, .int .i64 t0), (w.heap.size, 1, .int .i64 a0)] (ownI p1 lo hi Zd1 :: [ownL fR loq1 hiq1 Zq1]) _) := ⟨_, _, T⟩
  obtain ⟨lod1, hid1, T2⟩ := HR'.out
  clear HR HR' T Id1 hbd; have HR := Lib.hid T2; clear T2
  obtain ⟨x0, x1, x2, x3, x4, x5, _⟩ := HR.out.st
  go_wp2_with fail
  refine (KT0.out _ HR.out.st.1).mono ?_
  rintro e wc3_0 ⟨rfl, hb3_0⟩
  have U3_0 := HR.out.below hb3_0
  clear x0 x1 x2 x3 x4 x5
  obtain ⟨x0, x1, x2, x3, x4, x5, _⟩ := U3_0.st
  go_wp2_with fail
  refine (KG2.out _ _ ?_ ).mono ?_
  · exact U3_0.i1
  rintro e wr3 ⟨Zq3, Cq3, rfl, Ir3, hbr3⟩
  have UR3 := (U3_0.resS Ir3 hbr3)
  have T3 := (UR3.boxed #[.int .i64 kR, .int .i64 nR, .slice Zq3 fR.len Cq3] 35).open3
  clear x0 x1 x2 x3 x4 x5
  have HR' : Hid (∃ lo hi, Gs w [(wr3.heap.size, 0, .int .i64 kR), (wr3.heap.size, 1, .int .i64 nR), (wr3.heap.size, 2, .slice Zq3 fR.len Cq3), (wr1.heap.size, 0, .int .i64 kR), (wr1.heap.size, 1, .int .i64 nR), (wr1.heap.size, 2, .slice Zq1 fR.len Cq1), (w.heap.size, 0, .int .i64 t0), (w.heap.size, 1, .int .i64 a0)] (ownS fR lo hi Zq3 :: [ownI p1 lod1 hid1 Zd1, ownL fR loq1 hiq1 Zq1]) _) := ⟨_, _, T3⟩
  obtain ⟨loq3, hiq3, T2⟩ := HR'.out
  clear HR HR' T3 UR3 Ir3 hbr3 U3_0 hb3_0; have HR := Lib.hid T2; clear T2
  obtain ⟨x0, x1, x2, x3, x4, x5, x6, x7, x8, _⟩ := HR.out.st
  go_wp2_with fail
  refine (KQ.out _ _ _ _ _ (HR.out.lieS) (HR.out.tl.tl.lieL)).mono ?_
  rintro e wq4 ⟨rfl, hb⟩
  have T := HR.out.below hb
  clear x0 x1 x2 x3 x4 x5 x6 x7 x8
  clear HR hb; have HR := Lib.hid T; clear T
  obtain ⟨x0, x1, x2, x3, x4, x5, x6, x7, x8, _⟩ := HR.out.st
  go_wp2_with fail
  refine (KT1.out _ x0).mono ?_
  rintro e wt5 ⟨Zt5, rfl, It5, hbt5⟩
  have UT5 := HR.out.resI It5 hbt5
  clear x0 x1 x2 x3 x4 x5 x6 x7 x8
  clear HR
  have HR := Lib.hid UT5; clear UT5 It5 hbt5
  obtain ⟨x0, x1, x2, x3, x4, x5, x6, x7, x8, _⟩ := HR.out.st
  go_wp2_with fail
  refine (KE1.out _ _ _ HR.out.tl.tl.i1 HR.out.i1).mono ?_
  rintro e we5 ⟨rfl, hb⟩
  have T := (HR.out.below hb).tl
  clear x0 x1 x2 x3 x4 x5 x6 x7 x8
  clear HR hb; have HR := Lib.hid T; clear T
  obtain ⟨x0, x1, x2, x3, x4, x5, x6, x7, x8, _⟩ := HR.out.st
  go_wp2_with fail
  refine (KM1.out _ _ _ _ _ HR.out.tl.hd HR.out.tl.top).mono ?_
  rintro e wm6 ⟨rfl, hb⟩
  have T := Gs.mark (O1 := [ownS fR loq3 hiq3 Zq3]) (O2 := [ownL fR loq1 hiq1 Zq1]) HR.out hb
  clear x0 x1 x2 x3 x4 x5 x6 x7 x8
  clear HR hb; have HR := Lib.hid T; clear T
  have HR2 : Hid (Gs w [(wr3.heap.size, 0, .int .i64 kR), (wr3.heap.size, 1, .int .i64 nR), (wr3.heap.size, 2, .slice Zq3 fR.len Cq3), (wr1.heap.size, 0, .int .i64 kR), (wr1.heap.size, 1, .int .i64 nR), (wr1.heap.size, 2, .slice Zq1 fR.len Cq1), (w.heap.size, 0, .int .i64 t0), (w.heap.size, 1, .int .i64 a0)] [ownS fR loq3 hiq3 Zq3, ownL fR loq1 hiq1 Zq1] wm6) := HR.out
  clear HR; have HR := HR2; clear HR2
  obtain ⟨x0, x1, x2, x3, x4, x5, x6, x7, x8, _⟩ := HR.out.st
  go_wp2_with fail
  refine (KQ.out _ _ _ _ _ (HR.out.lieS) (HR.out.tl.lieL)).mono ?_
  rintro e wq7 ⟨rfl, hb⟩
  have T := HR.out.below hb
  clear x0 x1 x2 x3 x4 x5 x6 x7 x8
  clear HR hb; have HR := Lib.hid T; clear T
  obtain ⟨x0, x1, x2, x3, x4, x5, x6, x7, x8, _⟩ := HR.out.st
  go_wp2_with fail
  refine (KU.out _ _ _ _ _ HR.out.hd HR.out.top).mono ?_
  rintro e wm8 ⟨rfl, hw, hb⟩
  have T := HR.out.markedS hb hw
  clear x0 x1 x2 x3 x4 x5 x6 x7 x8
  clear HR hb hw; have HR := Lib.hid T; clear T
  obtain ⟨x0, x1, x2, x3, x4, x5, x6, x7, x8, _⟩ := HR.out.st
  go_wp2_with fail
  refine (KH.out _ _ _ (HR.out.lieS)).mono ?_
  rintro e wh9 ⟨rfl, hb⟩
  have T := HR.out.below hb
  clear x0 x1 x2 x3 x4 x5 x6 x7 x8
  clear HR hb; have HR := Lib.hid T; clear T
  obtain ⟨x0, x1, x2, x3, x4, x5, x6, x7, x8, _⟩ := HR.out.st
  go_wp2_with fail
  refine (KT0.out _ HR.out.st.1).mono ?_
  rintro e wc10_0 ⟨rfl, hb10_0⟩
  have U10_0 := HR.out.below hb10_0
  clear x0 x1 x2 x3 x4 x5 x6 x7 x8
  obtain ⟨x0, x1, x2, x3, x4, x5, x6, x7, x8, _⟩ := U10_0.st
  go_wp2_with fail
  refine (KT1.out _ U10_0.st.1).mono ?_
  rintro e wc10_1 ⟨Zc10_1, rfl, Ic10_1, hb10_1⟩
  have U10_1 := U10_0.resI Ic10_1 hb10_1
  clear x0 x1 x2 x3 x4 x5 x6 x7 x8
  obtain ⟨x0, x1, x2, x3, x4, x5, x6, x7, x8, _⟩ := U10_1.st
  go_wp2_with fail
  refine (KG2.out _ _ ?_ ).mono ?_
  · exact U10_1.i1
  rintro e wr10 ⟨Zq10, Cq10, rfl, Ir10, hbr10⟩
  have UR10 := (U10_1.resS Ir10 hbr10).skip
  have T10 := (UR10.boxed #[.int .i64 kR, .int .i64 nR, .slice Zq10 fR.len Cq10] 35).open3
  clear x0 x1 x2 x3 x4 x5 x6 x7 x8
  have HR' : Hid (∃ lo hi, Gs w [(wr10.heap.size, 0, .int .i64 kR), (wr10.heap.size, 1, .int .i64 nR), (wr10.heap.size, 2, .slice Zq10 fR.len Cq10), (wr3.heap.size, 0, .int .i64 kR), (wr3.heap.size, 1, .int .i64 nR), (wr3.heap.size, 2, .slice Zq3 fR.len Cq3), (wr1.heap.size, 0, .int .i64 kR), (wr1.heap.size, 1, .int .i64 nR), (wr1.heap.size, 2, .slice Zq1 fR.len Cq1), (w.heap.size, 0, .int .i64 t0), (w.heap.size, 1, .int .i64 a0)] (ownS fR lo hi Zq10 :: [ownS (fR.mark 1) loq3 hiq3 Zq3, ownL fR loq1 hiq1 Zq1]) _) := ⟨_, _, T10⟩
  obtain ⟨loq10, hiq10, T2⟩ := HR'.out
  clear HR HR' T10 UR10 Ir10 hbr10 U10_0 hb10_0 U10_1 hb10_1 Ic10_1; have HR := Lib.hid T2; clear T2
  obtain ⟨x0, x1, x2, x3, x4, x5, x6, x7, x8, x9, x10, x11, _⟩ := HR.out.st
  go_wp2_with fail
  refine (KQ.out _ _ _ _ _ (HR.out.lieS) (HR.out.tl.tl.lieL)).mono ?_
  rintro e wq11 ⟨rfl, hb⟩
  have T := HR.out.below hb
  clear x0 x1 x2 x3 x4 x5 x6 x7 x8 x9 x10 x11
  clear HR hb; have HR := Lib.hid T; clear T
  obtain ⟨x0, x1, x2, x3, x4, x5, x6, x7, x8, x9, x10, x11, _⟩ := HR.out.st
  go_wp2_with fail
  refine (KH.out _ _ _ (HR.out.tl.lieS)).mono ?_
  rintro e wh12 ⟨rfl, hb⟩
  have T := HR.out.below hb
  clear x0 x1 x2 x3 x4 x5 x6 x7 x8 x9 x10 x11
  clear HR hb; have HR := Lib.hid T; clear T
  obtain ⟨x0, x1, x2, x3, x4, x5, x6, x7, x8, x9, x10, x11, _⟩ := HR.out.st
  go_wp2_with fail
  go_ret
  exact ⟨rfl, HR.out.st.1⟩

end Go.Proofs.YtlpgkhdecccmlaaR
