/- The law FnExactAllowedNext, walked, out of the contracts of both sides. -/
import Derived.Test.YtmblgkpgfofceaaGenI
import Derived.Test.YtmblgkpgfofceaaEndI
import Derived.Test.YtmblgkpgfofceaaMarkH
import Derived.Test.YtmblgkpgfofceaaSz
import Derived.Test.YtmblgkpgfofceaaTo
import Derived.Test.YtmblgkpgfofceaaEq
import Derived.Test.YtmblgkpgfofceaaPrX
import Derived.Test.YtmblgkpgfofceaaPrE
import Derived.Test.YtmblgkpgfofceaaPrS
import Derived.Deep.RegionHeld3
import Derived.Deep.DrawnRows
namespace Go.Proofs.Ytmblgkpgfofceaa
open Go.RowKit
attribute [local go_sem ↓] Go.wp_at_zero Go.wp_at_succ

set_option maxHeartbeats 40000000 in
set_option maxRecDepth 100000 in
theorem lawAllowedNext (t0 a0 : Int) (xs1 : List Pm) (A1 : Option Addr) (C1 : Nat) (m2 : Int) (m3 : Int) {R : List Int} {q : Int}
    (HU : Hid ((tot Pm.cnt xs1) ≤ 1048576 → R.length ≤ 1048576))
    (KW : Hid ((tot Pm.cnt xs1) ≤ 1048576 → ∀ (W : World) (Z1 : Option Addr), PmL W xs1 Z1 → Calls Try.prog 10 #[.agg #[.int .i64 t0, .int .i64 a0], .slice Z1 xs1.length xs1.length, .int .i64 m2, .int .i64 m3] W (IEnd R q W)))
    (KG : Hid ((tot Pm.cnt xs1) ≤ 1048576 → ∀ (W : World) (Z1 : Option Addr), PmL W xs1 Z1 → Calls Try.prog 13 #[.agg #[.int .i64 t0, .int .i64 a0], .slice Z1 xs1.length xs1.length, .int .i64 m2, .int .i64 m3] W (IEnd R q W)))
    (w : World) (hm1 : Hid (FitPm xs1)) (hl1 : PmL w xs1 A1) :
    Calls Try.prog 3 #[.agg #[.int .i64 t0, .int .i64 a0], .slice A1 xs1.length C1, .int .i64 m2, .int .i64 m3] w fun e w' => e = .returned (.bool true) ∧ Below w.heap.size w w' := by
  by_cases hbig1 : 1048576 < ((tot Pm.cnt xs1) : Nat)
  · have hs : szR (tot Pm.cnt xs1) 1048576 = -1 := szR_neg (by omega)
    have KS1 : Hid (∀ W : World, Sees w W → Calls Try.prog 9 #[.slice A1 xs1.length C1, .int .i64 1048576] W fun e w' => e = .returned (.int .i64 (-1)) ∧ Below W.heap.size W w') := fun W h => by rw [← hs]; exact szPremiseS_any xs1 hm1.out 1048576 A1 C1 W (hl1.sees h) (by omega) (by omega)
    clear hs
    go_enter Try.func3, Try.ntmps3
    go_wp2_with fail
    refine (KS1.out _ ?_).mono ?_
    · unfold Sees; go_grown
    rintro e wz0 ⟨rfl, hb⟩
    have T := St.below (w := w) (l := [(w.heap.size, 0, .int .i64 t0), (w.heap.size, 1, .int .i64 a0)]) ⟨(by unfold Sees; go_grown), (by simp [go_sem]), (by simp [go_sem]), trivial⟩ hb
    have H := Lib.hid T; clear T hb
    obtain ⟨x0, x1, x2, _⟩ := H.out
    go_wp2_with fail
    clear x0 x1 x2
    go_ret
    exact ⟨rfl, H.out.1⟩
  obtain ⟨s1, hs, hz1, hy1, he1⟩ : ∃ s : Int, s = szR (tot Pm.cnt xs1) 1048576 ∧ 0 ≤ s ∧ s ≤ 1048576 ∧ Hid (s = 1048576 - ((tot Pm.cnt xs1) : Nat)) := ⟨_, rfl, by rw [szR_pos (by omega)]; omega, by rw [szR_pos (by omega)]; omega, by show _ = _; rw [szR_pos (by omega)]; try omega⟩
  have KS1 : Hid (∀ W : World, Sees w W → Calls Try.prog 9 #[.slice A1 xs1.length C1, .int .i64 1048576] W fun e w' => e = .returned (.int .i64 s1) ∧ Below W.heap.size W w') := fun W h => by rw [hs]; exact szPremiseS_any xs1 hm1.out 1048576 A1 C1 W (hl1.sees h) (by omega) (by omega)
  clear hs
  have hsmall : (tot Pm.cnt xs1) ≤ 1048576 := by have := he1.out; omega
  have hu : Hid (R.length ≤ 1048576) := HU.out hsmall
  clear HU
  have KT0 : Hid (∀ W : World, Sees w W → Calls Try.prog 11 #[.agg #[.int .i64 t0, .int .i64 a0]] W fun e w' => e = .returned (.agg #[.int .i64 t0, .int .i64 a0]) ∧ Below W.heap.size W w') := fun W h => toSig_any t0 a0 W
  have KT1 : Hid (∀ W : World, Sees w W → Calls Try.prog 12 #[.slice A1 xs1.length C1] W fun e w' => ∃ Z, e = .returned (.slice Z xs1.length xs1.length) ∧ PmX w' xs1 W.heap.size w'.heap.size Z ∧ Below W.heap.size W w') :=
    fun W h => toPremiseS_own xs1 (by omega) A1 C1 W (hl1.sees h)
  have KE1 : Hid (∀ (W : World) (Z Z' : Option Addr), PmL W xs1 Z → PmL W xs1 Z' → Calls Try.prog 15 #[.slice Z xs1.length xs1.length, .slice Z' xs1.length xs1.length] W fun e w' => e = .returned (.bool true) ∧ Below W.heap.size W w') :=
    fun W Z Z' h h' => eqPremiseS_same xs1 hm1.out _ _ _ _ W h h'
  obtain ⟨y1, hk, kl1, ku1, kn1⟩ : ∃ y : Int, y = 1 + 5 * (xs1.length : Int) + 2 * (pmNodes xs1 : Int) ∧ 0 ≤ y ∧ y ≤ 8388608 ∧ Hid (y = 1 + 5 * (xs1.length : Int) + 2 * (pmNodes xs1 : Int)) := ⟨_, rfl, by omega, by have := pmNodes_le xs1; have := pm_len xs1; omega, rfl⟩
  have KM1 : Hid (∀ (W : World) (lo hi : Nat) (Z : Option Addr) (C : Nat), PmX W xs1 lo hi Z → hi ≤ W.heap.size → Calls Try.prog 16 #[.slice Z xs1.length C, .int .i64 1] W fun e w' => e = .returned (.int .i64 y1) ∧ ButIn lo hi W w') :=
    fun W lo hi Z C h hz => (markPremiseS_any xs1 (by omega) 1 (by omega) (by omega) lo hi Z C W h hz).mono fun e w' ⟨he, hb⟩ => ⟨by rw [hk]; exact he, hb⟩
  clear hk
  have tk : decide (y1 < 0) = false := decide_eq_false (by omega)
  obtain ⟨mm, hmm, ml⟩ : ∃ m : Int, m = 1 + (R.length : Int) ∧ 0 ≤ m := ⟨_, rfl, by omega⟩
  have hul := hu.out
  have KU : Hid (∀ (W : World) (lo hi : Nat) (Z : Option Addr) (C : Nat), IntsIn W R lo hi Z → hi ≤ W.heap.size → Calls Try.prog 17 #[.slice Z R.length C, .int .i64 1] W fun e w' => e = .returned (.int .i64 mm) ∧ IntsIn w' (ramp 1 R.length) lo hi Z ∧ ButIn lo hi W w') :=
    fun W lo hi Z C h hz => (markInts_any R hul 1 (by omega) (by omega) lo hi Z C W h).mono fun e w' ⟨he, hi, hb⟩ => ⟨by rw [hmm]; exact he, hi, hb⟩
  have KH : Hid (∀ (W : World) (lo hi : Nat) (Z : Option Addr) (C : Nat), IntsIn W (ramp 1 R.length) lo hi Z → Calls Try.prog 18 #[.slice Z R.length C, .int .i64 1] W fun e w' => e = .returned (.int .i64 mm) ∧ Below W.heap.size W w') :=
    fun W lo hi Z C h => (heldInts_any R.length hul 1 (by omega) (by omega) lo hi Z C W h).mono fun e w' ⟨he, m, hw⟩ => ⟨by rw [hmm]; exact he, by rw [hw]; exact below_drewN _ _ _⟩
  have KQ : Hid (∀ (W : World) (Z Z' : Option Addr) (C C' : Nat), Ints W R Z → Ints W R Z' → Calls Try.prog 14 #[.slice Z R.length C, .slice Z' R.length C'] W fun e w' => e = .returned (.bool true) ∧ Below W.heap.size W w') :=
    fun W Z Z' C C' h1 h2 => (eqInt64S_any R R (by omega) _ _ _ _ W h1 h2).mono fun e w' ⟨he, m, hm⟩ => ⟨by rw [he]; simp, by rw [hm]; exact below_drewN _ _ _⟩
  have tm : decide (mm < 0) = false := decide_eq_false (by omega)
  have nq : (q != q) = false := by simp
  have nm : (mm != mm) = false := by simp
  have KW2 := Lib.hid (KW.out hsmall); clear KW
  have KG2 := Lib.hid (KG.out hsmall); clear KG hsmall hmm hul
  go_enter Try.func3, Try.ntmps3
  go_wp2_with fail
  refine (KS1.out _ ?_).mono ?_
  · unfold Sees; go_grown
  rintro e wz0 ⟨rfl, hb⟩
  have T := St.below (w := w) (l := [(w.heap.size, 0, .int .i64 t0), (w.heap.size, 1, .int .i64 a0)]) ⟨(by unfold Sees; go_grown), (by simp [go_sem]), (by simp [go_sem]), trivial⟩ hb
  have H := Lib.hid T; clear T hb
  obtain ⟨x0, x1, x2, _⟩ := H.out
  go_wp2_with fail
  clear x0 x1 x2
  have HR := Lib.hid (Gs.start H.out); clear H
  obtain ⟨x0, x1, x2, _⟩ := HR.out.st
  go_wp2_with fail
  refine (KT0.out _ HR.out.st.1).mono ?_
  rintro e wc1_0 ⟨rfl, hb1_0⟩
  have U1_0 := HR.out.below hb1_0
  clear x0 x1 x2
  obtain ⟨x0, x1, x2, _⟩ := U1_0.st
  go_wp2_with fail
  refine (KT1.out _ U1_0.st.1).mono ?_
  rintro e wc1_1 ⟨Zc1_1, rfl, Ic1_1, hb1_1⟩
  have U1_1 := U1_0.resP Ic1_1 hb1_1
  clear x0 x1 x2
  obtain ⟨x0, x1, x2, _⟩ := U1_1.st
  go_wp2_with fail
  refine (KW2.out _ _ ?_ ).mono ?_
  · exact U1_1.p1
  rintro e wr1 ⟨Zr1, Cr1, rfl, Ir1, hbr1⟩
  have UR1 := (U1_1.resI Ir1 hbr1).skip
  clear x0 x1 x2
  have HR' : Hid (∃ lo hi, Gs w [(w.heap.size, 0, .int .i64 t0), (w.heap.size, 1, .int .i64 a0)] (ownI R lo hi Zr1 :: []) wr1) := ⟨_, _, UR1⟩
  obtain ⟨lo1, hi1, T2⟩ := HR'.out
  clear HR HR' UR1 Ir1 hbr1 U1_0 hb1_0 U1_1 hb1_1 Ic1_1; have HR := Lib.hid T2; clear T2
  obtain ⟨x0, x1, x2, _⟩ := HR.out.st
  go_wp2_with fail
  refine (KT1.out _ x0).mono ?_
  rintro e wd1 ⟨Zd1, rfl, Id1, hbd⟩
  have T := HR.out.resP Id1 hbd
  clear x0 x1 x2
  have HR' : Hid (∃ lo hi, Gs w [(w.heap.size, 0, .int .i64 t0), (w.heap.size, 1, .int .i64 a0)] (ownP xs1 lo hi Zd1 :: [ownI R lo1 hi1 Zr1]) _) := ⟨_, _, T⟩
  obtain ⟨lod1, hid1, T2⟩ := HR'.out
  clear HR HR' T Id1 hbd; have HR := Lib.hid T2; clear T2
  obtain ⟨x0, x1, x2, _⟩ := HR.out.st
  go_wp2_with fail
  refine (KT0.out _ HR.out.st.1).mono ?_
  rintro e wc3_0 ⟨rfl, hb3_0⟩
  have U3_0 := HR.out.below hb3_0
  clear x0 x1 x2
  obtain ⟨x0, x1, x2, _⟩ := U3_0.st
  go_wp2_with fail
  refine (KG2.out _ _ ?_ ).mono ?_
  · exact U3_0.p1
  rintro e wr3 ⟨Zr3, Cr3, rfl, Ir3, hbr3⟩
  have UR3 := (U3_0.resI Ir3 hbr3)
  clear x0 x1 x2
  have HR' : Hid (∃ lo hi, Gs w [(w.heap.size, 0, .int .i64 t0), (w.heap.size, 1, .int .i64 a0)] (ownI R lo hi Zr3 :: [ownP xs1 lod1 hid1 Zd1, ownI R lo1 hi1 Zr1]) wr3) := ⟨_, _, UR3⟩
  obtain ⟨lo3, hi3, T2⟩ := HR'.out
  clear HR HR' UR3 Ir3 hbr3 U3_0 hb3_0; have HR := Lib.hid T2; clear T2
  obtain ⟨x0, x1, x2, _⟩ := HR.out.st
  go_wp2_with fail
  refine (KQ.out _ _ _ _ _ (HR.out.i1) (HR.out.tl.tl.i1)).mono ?_
  rintro e wq4 ⟨rfl, hb⟩
  have T := HR.out.below hb
  clear x0 x1 x2
  clear HR hb; have HR := Lib.hid T; clear T
  obtain ⟨x0, x1, x2, _⟩ := HR.out.st
  go_wp2_with fail
  refine (KT1.out _ x0).mono ?_
  rintro e wt5 ⟨Zt5, rfl, It5, hbt5⟩
  have UT5 := HR.out.resP It5 hbt5
  clear x0 x1 x2
  clear HR
  have HR := Lib.hid UT5; clear UT5 It5 hbt5
  obtain ⟨x0, x1, x2, _⟩ := HR.out.st
  go_wp2_with fail
  refine (KE1.out _ _ _ HR.out.tl.tl.p1 HR.out.p1).mono ?_
  rintro e we5 ⟨rfl, hb⟩
  have T := (HR.out.below hb).tl
  clear x0 x1 x2
  clear HR hb; have HR := Lib.hid T; clear T
  obtain ⟨x0, x1, x2, _⟩ := HR.out.st
  go_wp2_with fail
  refine (KM1.out _ _ _ _ _ HR.out.tl.hd HR.out.tl.top).mono ?_
  rintro e wm6 ⟨rfl, hb⟩
  have T := Gs.mark (O1 := [ownI R lo3 hi3 Zr3]) (O2 := [ownI R lo1 hi1 Zr1]) HR.out hb
  clear x0 x1 x2
  clear HR hb; have HR := Lib.hid T; clear T
  have HR2 : Hid (Gs w [(w.heap.size, 0, .int .i64 t0), (w.heap.size, 1, .int .i64 a0)] [ownI R lo3 hi3 Zr3, ownI R lo1 hi1 Zr1] wm6) := HR.out
  clear HR; have HR := HR2; clear HR2
  obtain ⟨x0, x1, x2, _⟩ := HR.out.st
  go_wp2_with fail
  refine (KQ.out _ _ _ _ _ (HR.out.i1) (HR.out.tl.i1)).mono ?_
  rintro e wq7 ⟨rfl, hb⟩
  have T := HR.out.below hb
  clear x0 x1 x2
  clear HR hb; have HR := Lib.hid T; clear T
  obtain ⟨x0, x1, x2, _⟩ := HR.out.st
  go_wp2_with fail
  refine (KU.out _ _ _ _ _ HR.out.hd HR.out.top).mono ?_
  rintro e wm8 ⟨rfl, hw, hb⟩
  have T := HR.out.marked (ownI (ramp 1 R.length) lo3 hi3 Zr3) hb hw rfl rfl
  clear x0 x1 x2
  clear HR hb hw; have HR := Lib.hid T; clear T
  obtain ⟨x0, x1, x2, _⟩ := HR.out.st
  go_wp2_with fail
  refine (KH.out _ _ _ _ _ HR.out.hd).mono ?_
  rintro e wh9 ⟨rfl, hb⟩
  have T := HR.out.below hb
  clear x0 x1 x2
  clear HR hb; have HR := Lib.hid T; clear T
  obtain ⟨x0, x1, x2, _⟩ := HR.out.st
  go_wp2_with fail
  refine (KT0.out _ HR.out.st.1).mono ?_
  rintro e wc10_0 ⟨rfl, hb10_0⟩
  have U10_0 := HR.out.below hb10_0
  clear x0 x1 x2
  obtain ⟨x0, x1, x2, _⟩ := U10_0.st
  go_wp2_with fail
  refine (KT1.out _ U10_0.st.1).mono ?_
  rintro e wc10_1 ⟨Zc10_1, rfl, Ic10_1, hb10_1⟩
  have U10_1 := U10_0.resP Ic10_1 hb10_1
  clear x0 x1 x2
  obtain ⟨x0, x1, x2, _⟩ := U10_1.st
  go_wp2_with fail
  refine (KG2.out _ _ ?_ ).mono ?_
  · exact U10_1.p1
  rintro e wr10 ⟨Zr10, Cr10, rfl, Ir10, hbr10⟩
  have UR10 := (U10_1.resI Ir10 hbr10).skip
  clear x0 x1 x2
  have HR' : Hid (∃ lo hi, Gs w [(w.heap.size, 0, .int .i64 t0), (w.heap.size, 1, .int .i64 a0)] (ownI R lo hi Zr10 :: [ownI (ramp 1 R.length) lo3 hi3 Zr3, ownI R lo1 hi1 Zr1]) wr10) := ⟨_, _, UR10⟩
  obtain ⟨lo10, hi10, T2⟩ := HR'.out
  clear HR HR' UR10 Ir10 hbr10 U10_0 hb10_0 U10_1 hb10_1 Ic10_1; have HR := Lib.hid T2; clear T2
  obtain ⟨x0, x1, x2, _⟩ := HR.out.st
  go_wp2_with fail
  refine (KQ.out _ _ _ _ _ (HR.out.i1) (HR.out.tl.tl.i1)).mono ?_
  rintro e wq11 ⟨rfl, hb⟩
  have T := HR.out.below hb
  clear x0 x1 x2
  clear HR hb; have HR := Lib.hid T; clear T
  obtain ⟨x0, x1, x2, _⟩ := HR.out.st
  go_wp2_with fail
  refine (KH.out _ _ _ _ _ HR.out.tl.hd).mono ?_
  rintro e wh12 ⟨rfl, hb⟩
  have T := HR.out.below hb
  clear x0 x1 x2
  clear HR hb; have HR := Lib.hid T; clear T
  obtain ⟨x0, x1, x2, _⟩ := HR.out.st
  go_wp2_with fail
  go_ret
  exact ⟨rfl, HR.out.st.1⟩

end Go.Proofs.Ytmblgkpgfofceaa
