/- The law FnExactReplaceAt, walked, out of the contracts of both sides. -/
import Derived.Test.YtlfafcbieeambaaEndE
import Derived.Test.YtlfafcbieeambaaMarkE
import Derived.Test.YtlfafcbieeambaaGenX
import Derived.Test.YtlfafcbieeambaaSz
import Derived.Test.YtlfafcbieeambaaTo
import Derived.Test.YtlfafcbieeambaaEq
import Derived.Test.YtlfafcbieeambaaGenI
import Derived.Deep.RegionHeld3
import Derived.Deep.DrawnRows
import Derived.Deep.DeepCutAuto
namespace Go.Proofs.Ytlfafcbieeambaa
open Go.RowKit
attribute [local go_sem ↓] Go.wp_at_zero Go.wp_at_succ

set_option maxHeartbeats 40000000 in
set_option maxRecDepth 100000 in
theorem lawReplaceAt (t0 a0 : Int) (f1 : Fo) (k1 n1 : Int) (A1 : Option Addr) (C1 : Nat) (p2 : List Int) (A2 : Option Addr) (C2 : Nat) (f3 : Fo) (k3 n3 : Int) (A3 : Option Addr) (C3 : Nat) {kR nR : Int} {fR : Fo} {q : Int}
    (HU : Hid (f1.nodes + f3.nodes ≤ 1048576 → p2.length ≤ 1048576 → fR.nodes ≤ 1048576))
    (KW : Hid (f1.nodes + f3.nodes ≤ 1048576 → p2.length ≤ 1048576 → ∀ (W : World) (Z1 : Option Addr) (Z2 : Option Addr) (Z3 : Option Addr), f1.Lies W Z1 → Ints W p2 Z2 → f3.Lies W Z3 → Calls Try.prog 10 #[.agg #[.int .i64 t0, .int .i64 a0], .agg #[.int .i64 k1, .int .i64 n1, .slice Z1 f1.len f1.len], .slice Z2 p2.length p2.length, .agg #[.int .i64 k3, .int .i64 n3, .slice Z3 f3.len f3.len]] W (LEnd kR nR fR q W)))
    (KG : Hid (f1.nodes + f3.nodes ≤ 1048576 → p2.length ≤ 1048576 → ∀ (W : World) (Z1 : Option Addr) (Z2 : Option Addr) (Z3 : Option Addr), f1.Lies W Z1 → Ints W p2 Z2 → f3.Lies W Z3 → Calls Try.prog 14 #[.agg #[.int .i64 t0, .int .i64 a0], .agg #[.int .i64 k1, .int .i64 n1, .slice Z1 f1.len f1.len], .slice Z2 p2.length p2.length, .agg #[.int .i64 k3, .int .i64 n3, .slice Z3 f3.len f3.len]] W (XEnd kR nR fR q W)))
    (w : World) (hm1 : Hid (f1.len ≤ 9223372036854775807)) (hf1 : f1.Fits) (hl1 : f1.Lies w A1) (hm2 : Hid (p2.length ≤ 9223372036854775807)) (hl2 : Ints w p2 A2) (hm3 : Hid (f3.len ≤ 9223372036854775807)) (hf3 : f3.Fits) (hl3 : f3.Lies w A3) :
    Calls Try.prog 3 #[.agg #[.int .i64 t0, .int .i64 a0], .agg #[.int .i64 k1, .int .i64 n1, .slice A1 f1.len C1], .slice A2 p2.length C2, .agg #[.int .i64 k3, .int .i64 n3, .slice A3 f3.len C3]] w fun e w' => e = .returned (.bool true) ∧ Below w.heap.size w w' := by
  by_cases hp2 : 1048576 < p2.length
  · have hmo := hm2.out
    go_enter Try.func3, Try.ntmps3
    go_wp2_with fail
    go_ret
    exact ⟨rfl, by go_grown⟩
  have tp2 : decide ((1048576 : Int) < ((p2.length : Nat) : Int)) = false := decide_eq_false (by omega)
  by_cases hbig1 : 1048576 < (f1.nodes : Nat)
  · have hs : szR f1.nodes 1048576 = -1 := szR_neg (by omega)
    have KS1 : Hid (∀ W : World, Sees w W → Calls Try.prog 9 #[.agg #[.int .i64 k1, .int .i64 n1, .slice A1 f1.len C1], .int .i64 1048576] W fun e w' => e = .returned (.int .i64 (-1)) ∧ Below W.heap.size W w') := fun W h => by rw [← hs]; exact szExpr_any f1 hm1.out hf1 k1 n1 1048576 A1 C1 W (hl1.sees h) (by omega) (by omega)
    clear hs
    go_enter Try.func3, Try.ntmps3
    go_wp2_with fail
    refine (KS1.out _ ?_).mono ?_
    · unfold Sees; go_grown
    rintro e wz0 ⟨rfl, hb⟩
    have T := St.below (w := w) (l := [(w.heap.size, 0, .int .i64 t0), (w.heap.size, 1, .int .i64 a0), (w.heap.size + 1, 0, .int .i64 k1), (w.heap.size + 1, 1, .int .i64 n1), (w.heap.size + 1, 2, .slice A1 f1.len C1), (w.heap.size + 2, 0, .int .i64 k3), (w.heap.size + 2, 1, .int .i64 n3), (w.heap.size + 2, 2, .slice A3 f3.len C3)]) ⟨(by unfold Sees; go_grown), (by simp [go_sem]), (by simp [go_sem]), (by simp [go_sem]), (by simp [go_sem]), (by simp [go_sem]), (by simp [go_sem]), (by simp [go_sem]), (by simp [go_sem]), trivial⟩ hb
    have H := Lib.hid T; clear T hb
    obtain ⟨x0, x1, x2, x3, x4, x5, x6, x7, x8, _⟩ := H.out
    go_wp2_with fail
    clear x0 x1 x2 x3 x4 x5 x6 x7 x8
    go_ret
    exact ⟨rfl, H.out.1⟩
  obtain ⟨s1, hs, hz1, hy1, he1⟩ : ∃ s : Int, s = szR f1.nodes 1048576 ∧ 0 ≤ s ∧ s ≤ 1048576 ∧ Hid (s = 1048576 - (f1.nodes : Nat)) := ⟨_, rfl, by rw [szR_pos (by omega)]; omega, by rw [szR_pos (by omega)]; omega, by show _ = _; rw [szR_pos (by omega)]; try omega⟩
  have KS1 : Hid (∀ W : World, Sees w W → Calls Try.prog 9 #[.agg #[.int .i64 k1, .int .i64 n1, .slice A1 f1.len C1], .int .i64 1048576] W fun e w' => e = .returned (.int .i64 s1) ∧ Below W.heap.size W w') := fun W h => by rw [hs]; exact szExpr_any f1 hm1.out hf1 k1 n1 1048576 A1 C1 W (hl1.sees h) (by omega) (by omega)
  clear hs
  by_cases hbig3 : s1 < ((f3.nodes : Nat) : Int)
  · have hs : szR f3.nodes s1 = -1 := szR_neg (by omega)
    have KS3 : Hid (∀ W : World, Sees w W → Calls Try.prog 9 #[.agg #[.int .i64 k3, .int .i64 n3, .slice A3 f3.len C3], .int .i64 s1] W fun e w' => e = .returned (.int .i64 (-1)) ∧ Below W.heap.size W w') := fun W h => by rw [← hs]; exact szExpr_any f3 hm3.out hf3 k3 n3 s1 A3 C3 W (hl3.sees h) (by omega) (by omega)
    clear hs
    go_enter Try.func3, Try.ntmps3
    go_wp2_with fail
    refine (KS1.out _ ?_).mono ?_
    · unfold Sees; go_grown
    rintro e wz0 ⟨rfl, hb⟩
    have T := St.below (w := w) (l := [(w.heap.size, 0, .int .i64 t0), (w.heap.size, 1, .int .i64 a0), (w.heap.size + 1, 0, .int .i64 k1), (w.heap.size + 1, 1, .int .i64 n1), (w.heap.size + 1, 2, .slice A1 f1.len C1), (w.heap.size + 2, 0, .int .i64 k3), (w.heap.size + 2, 1, .int .i64 n3), (w.heap.size + 2, 2, .slice A3 f3.len C3)]) ⟨(by unfold Sees; go_grown), (by simp [go_sem]), (by simp [go_sem]), (by simp [go_sem]), (by simp [go_sem]), (by simp [go_sem]), (by simp [go_sem]), (by simp [go_sem]), (by simp [go_sem]), trivial⟩ hb
    have H := Lib.hid T; clear T hb
    obtain ⟨x0, x1, x2, x3, x4, x5, x6, x7, x8, _⟩ := H.out
    go_wp2_with fail
    clear x0 x1 x2 x3 x4 x5 x6 x7 x8
    refine (KS3.out _ ?_).mono ?_
    · exact H.out.1
    rintro e wz1 ⟨rfl, hb⟩
    have T := H.out.below hb
    clear H
    have H := Lib.hid T; clear T hb
    obtain ⟨x0, x1, x2, x3, x4, x5, x6, x7, x8, _⟩ := H.out
    go_wp2_with fail
    clear x0 x1 x2 x3 x4 x5 x6 x7 x8
    go_ret
    exact ⟨rfl, H.out.1⟩
  obtain ⟨s3, hs, hz3, hy3, he3⟩ : ∃ s : Int, s = szR f3.nodes s1 ∧ 0 ≤ s ∧ s ≤ 1048576 ∧ Hid (s = s1 - (f3.nodes : Nat)) := ⟨_, rfl, by rw [szR_pos (by omega)]; omega, by rw [szR_pos (by omega)]; omega, by show _ = _; rw [szR_pos (by omega)]; try omega⟩
  have KS3 : Hid (∀ W : World, Sees w W → Calls Try.prog 9 #[.agg #[.int .i64 k3, .int .i64 n3, .slice A3 f3.len C3], .int .i64 s1] W fun e w' => e = .returned (.int .i64 s3) ∧ Below W.heap.size W w') := fun W h => by rw [hs]; exact szExpr_any f3 hm3.out hf3 k3 n3 s1 A3 C3 W (hl3.sees h) (by omega) (by omega)
  clear hs
  have hsmall : f1.nodes + f3.nodes ≤ 1048576 := by have := he1.out; have := he3.out; omega
  have hu : Hid (fR.nodes ≤ 1048576) := HU.out hsmall (by omega)
  clear HU
  have KT0 : Hid (∀ W : World, Sees w W → Calls Try.prog 11 #[.agg #[.int .i64 t0, .int .i64 a0]] W fun e w' => e = .returned (.agg #[.int .i64 t0, .int .i64 a0]) ∧ Below W.heap.size W w') := fun W h => toSig_any t0 a0 W
  have KT1 : Hid (∀ W : World, Sees w W → Calls Try.prog 12 #[.agg #[.int .i64 k1, .int .i64 n1, .slice A1 f1.len C1]] W fun e w' => ∃ Z, e = .returned (.agg #[.int .i64 k1, .int .i64 n1, .slice Z f1.len f1.len]) ∧ f1.XIn w' W.heap.size w'.heap.size Z ∧ Below W.heap.size W w') :=
    fun W h => (toExpr_any f1 (by omega) k1 n1 A1 C1 W (hl1.sees h)).mono fun e w' ⟨Z, he, hs, hb⟩ => ⟨Z, he, hs.xin, hb⟩
  have KE1 : Hid (∀ (W : World) (Z Z' : Option Addr), f1.Lies W Z → f1.Lies W Z' → Calls Try.prog 15 #[.agg #[.int .i64 k1, .int .i64 n1, .slice Z f1.len f1.len], .agg #[.int .i64 k1, .int .i64 n1, .slice Z' f1.len f1.len]] W fun e w' => e = .returned (.bool true) ∧ Below W.heap.size W w') :=
    fun W Z Z' h h' => eqExpr_same f1 hm1.out hf1 k1 n1 _ _ _ _ W h h'
  have KT2 : Hid (∀ W : World, Sees w W → Calls Try.prog 13 #[.slice A2 p2.length C2] W fun e w' => ∃ Z, e = .returned (.slice Z p2.length p2.length) ∧ IntsIn w' p2 W.heap.size w'.heap.size Z ∧ Below W.heap.size W w') :=
    fun W h => toInt64S_any p2 (by omega) A2 C2 W (hl2.sees h)
  have KE2 : Hid (∀ (W : World) (Z Z' : Option Addr), Ints W p2 Z → Ints W p2 Z' → Calls Try.prog 16 #[.slice Z p2.length p2.length, .slice Z' p2.length p2.length] W fun e w' => e = .returned (.bool true) ∧ Below W.heap.size W w') :=
    fun W Z Z' h h' => (eqInt64S_any p2 p2 hm2.out _ _ _ _ W h h').mono fun e w' ⟨he, m, hm⟩ => ⟨by rw [he]; simp, by rw [hm]; exact below_drewN _ _ _⟩
  have KT3 : Hid (∀ W : World, Sees w W → Calls Try.prog 12 #[.agg #[.int .i64 k3, .int .i64 n3, .slice A3 f3.len C3]] W fun e w' => ∃ Z, e = .returned (.agg #[.int .i64 k3, .int .i64 n3, .slice Z f3.len f3.len]) ∧ f3.XIn w' W.heap.size w'.heap.size Z ∧ Below W.heap.size W w') :=
    fun W h => (toExpr_any f3 (by omega) k3 n3 A3 C3 W (hl3.sees h)).mono fun e w' ⟨Z, he, hs, hb⟩ => ⟨Z, he, hs.xin, hb⟩
  have KE3 : Hid (∀ (W : World) (Z Z' : Option Addr), f3.Lies W Z → f3.Lies W Z' → Calls Try.prog 15 #[.agg #[.int .i64 k3, .int .i64 n3, .slice Z f3.len f3.len], .agg #[.int .i64 k3, .int .i64 n3, .slice Z' f3.len f3.len]] W fun e w' => e = .returned (.bool true) ∧ Below W.heap.size W w') :=
    fun W Z Z' h h' => eqExpr_same f3 hm3.out hf3 k3 n3 _ _ _ _ W h h'
  obtain ⟨y1, hk, kl1, ku1, kn1⟩ : ∃ y : Int, y = 1 + 2 * (f1.nodes : Int) ∧ 0 ≤ y ∧ y ≤ 4194304 ∧ Hid (y = 1 + 2 * (f1.nodes : Int)) := ⟨_, rfl, by omega, by omega, rfl⟩
  have KM1 : Hid (∀ (W : World) (lo hi : Nat) (Z : Option Addr) (C : Nat), f1.XIn W lo hi Z → hi ≤ W.heap.size → Calls Try.prog 17 #[.agg #[.int .i64 k1, .int .i64 n1, .slice Z f1.len C], .int .i64 1] W fun e w' => e = .returned (.int .i64 y1) ∧ ButIn lo hi W w') :=
    fun W lo hi Z C h hz => (markExpr_any f1 (by omega) 1 (by omega) (by omega) k1 n1 lo hi Z C W h hz).mono fun e w' ⟨he, _, hb⟩ => ⟨by rw [hk]; exact he, hb⟩
  clear hk
  obtain ⟨y2, hk, kl2, ku2, kn2⟩ : ∃ y : Int, y = y1 + (p2.length : Int) ∧ 0 ≤ y ∧ y ≤ 4194304 ∧ Hid (y = y1 + (p2.length : Int)) := ⟨_, rfl, by omega, by have := kn1.out; omega, rfl⟩
  have KM2 : Hid (∀ (W : World) (lo hi : Nat) (Z : Option Addr) (C : Nat), IntsIn W p2 lo hi Z → hi ≤ W.heap.size → Calls Try.prog 18 #[.slice Z p2.length C, .int .i64 y1] W fun e w' => e = .returned (.int .i64 y2) ∧ ButIn lo hi W w') :=
    fun W lo hi Z C h hz => (markInts_any p2 (by omega) y1 (by omega) (by omega) lo hi Z C W h).mono fun e w' ⟨he, _, hb⟩ => ⟨by rw [hk]; exact he, hb⟩
  clear hk
  obtain ⟨y3, hk, kl3, ku3, kn3⟩ : ∃ y : Int, y = y2 + 2 * (f3.nodes : Int) ∧ 0 ≤ y ∧ y ≤ 4194304 ∧ Hid (y = y2 + 2 * (f3.nodes : Int)) := ⟨_, rfl, by omega, by have := kn1.out; have := kn2.out; omega, rfl⟩
  have KM3 : Hid (∀ (W : World) (lo hi : Nat) (Z : Option Addr) (C : Nat), f3.XIn W lo hi Z → hi ≤ W.heap.size → Calls Try.prog 17 #[.agg #[.int .i64 k3, .int .i64 n3, .slice Z f3.len C], .int .i64 y2] W fun e w' => e = .returned (.int .i64 y3) ∧ ButIn lo hi W w') :=
    fun W lo hi Z C h hz => (markExpr_any f3 (by omega) y2 (by omega) (by omega) k3 n3 lo hi Z C W h hz).mono fun e w' ⟨he, _, hb⟩ => ⟨by rw [hk]; exact he, hb⟩
  clear hk
  have tk : decide (y3 < 0) = false := decide_eq_false (by omega)
  have hfit := Fo.fits_small hu.out
  obtain ⟨mm, hmm, ml⟩ : ∃ m : Int, m = 1 + 2 * (fR.nodes : Int) ∧ 0 ≤ m := ⟨_, rfl, by omega⟩
  have KU : Hid (∀ (W : World) (lo hi : Nat) (Z : Option Addr) (C : Nat), fR.XIn W lo hi Z → hi ≤ W.heap.size → Calls Try.prog 17 #[.agg #[.int .i64 kR, .int .i64 nR, .slice Z fR.len C], .int .i64 1] W fun e w' => e = .returned (.int .i64 mm) ∧ (fR.mark 1).XIn w' lo hi Z ∧ ButIn lo hi W w') :=
    fun W lo hi Z C h hz => (markExpr_any fR hu.out 1 (by omega) (by omega) kR nR lo hi Z C W h hz).mono fun e w' ⟨he, hi, hb⟩ => ⟨by rw [hmm]; exact he, hi, hb⟩
  have KH : Hid (∀ (W : World) (Z : Option Addr) (C : Nat), (fR.mark 1).Lies W Z → Calls Try.prog 19 #[.agg #[.int .i64 kR, .int .i64 nR, .slice Z fR.len C], .int .i64 1] W fun e w' => e = .returned (.int .i64 mm) ∧ Below W.heap.size W w') :=
    fun W Z C h => (heldExpr_any fR hu.out 1 (by omega) (by omega) kR nR Z C W h).mono fun e w' ⟨he, hb⟩ => ⟨by rw [hmm]; exact he, hb⟩
  have KQ : Hid (∀ (W : World) (Z Z' : Option Addr) (C C' : Nat), fR.Lies W Z → fR.Lies W Z' → Calls Try.prog 15 #[.agg #[.int .i64 kR, .int .i64 nR, .slice Z fR.len C], .agg #[.int .i64 kR, .int .i64 nR, .slice Z' fR.len C']] W fun e w' => e = .returned (.bool true) ∧ Below W.heap.size W w') :=
    fun W Z Z' C C' h1 h2 => eqExpr_same fR hfit.1 hfit.2 kR nR _ _ _ _ W h1 h2
  have tm : decide (mm < 0) = false := decide_eq_false (by omega)
  have nq : (q != q) = false := by simp
  have nm : (mm != mm) = false := by simp
  have KW2 := Lib.hid (KW.out hsmall (by omega)); clear KW
  have KG2 := Lib.hid (KG.out hsmall (by omega)); clear KG hsmall hmm hfit
  have hq2 := Lib.hid hp2; clear hp2
  go_enter Try.func3, Try.ntmps3
  go_wp2_with fail
  refine (KS1.out _ ?_).mono ?_
  · unfold Sees; go_grown
  rintro e wz0 ⟨rfl, hb⟩
  have T := St.below (w := w) (l := [(w.heap.size, 0, .int .i64 t0), (w.heap.size, 1, .int .i64 a0), (w.heap.size + 1, 0, .int .i64 k1), (w.heap.size + 1, 1, .int .i64 n1), (w.heap.size + 1, 2, .slice A1 f1.len C1), (w.heap.size + 2, 0, .int .i64 k3), (w.heap.size + 2, 1, .int .i64 n3), (w.heap.size + 2, 2, .slice A3 f3.len C3)]) ⟨(by unfold Sees; go_grown), (by simp [go_sem]), (by simp [go_sem]), (by simp [go_sem]), (by simp [go_sem]), (by simp [go_sem]), (by simp [go_sem]), (by simp [go_sem]), (by simp [go_sem]), trivial⟩ hb
  have H := Lib.hid T; clear T hb
  obtain ⟨x0, x1, x2, x3, x4, x5, x6, x7, x8, _⟩ := H.out
  go_wp2_with fail
  clear x0 x1 x2 x3 x4 x5 x6 x7 x8
  refine (KS3.out _ ?_).mono ?_
  · exact H.out.1
  rintro e wz1 ⟨rfl, hb⟩
  have T := H.out.below hb
  clear H
  have H := Lib.hid T; clear T hb
  obtain ⟨x0, x1, x2, x3, x4, x5, x6, x7, x8, _⟩ := H.out
  go_wp2_with fail
  clear x0 x1 x2 x3 x4 x5 x6 x7 x8
  have HR := Lib.hid (Gs.start H.out); clear H
  obtain ⟨x0, x1, x2, x3, x4, x5, x6, x7, x8, _⟩ := HR.out.st
  go_wp2_with fail
  go_cut [10, 11] (fun sp sc wx => ∃ (bq1 loq1 hiq1 : Nat) (Zq1 : Option Addr) (Cq1 : Nat), sp = .pointer (some ⟨bq1, 0, none⟩) ∧ sc = .int .i64 q ∧ Gs w [(bq1, 0, .int .i64 kR), (bq1, 1, .int .i64 nR), (bq1, 2, .slice Zq1 fR.len Cq1), (w.heap.size, 0, .int .i64 t0), (w.heap.size, 1, .int .i64 a0), (w.heap.size + 1, 0, .int .i64 k1), (w.heap.size + 1, 1, .int .i64 n1), (w.heap.size + 1, 2, .slice A1 f1.len C1), (w.heap.size + 2, 0, .int .i64 k3), (w.heap.size + 2, 1, .int .i64 n3), (w.heap.size + 2, 2, .slice A3 f3.len C3)] (ownL fR loq1 hiq1 Zq1 :: []) wx)
  case first =>
    go_region_held3 (fun w' => Sees w w' ∧ w'.cell? ⟨w.heap.size, 0, none⟩ = some (.int .i64 t0) ∧ w'.cell? ⟨w.heap.size, 1, none⟩ = some (.int .i64 a0) ∧ w'.cell? ⟨w.heap.size + 1, 0, none⟩ = some (.int .i64 k1) ∧ w'.cell? ⟨w.heap.size + 1, 1, none⟩ = some (.int .i64 n1) ∧ w'.cell? ⟨w.heap.size + 1, 2, none⟩ = some (.slice A1 f1.len C1) ∧ w'.cell? ⟨w.heap.size + 2, 0, none⟩ = some (.int .i64 k3) ∧ w'.cell? ⟨w.heap.size + 2, 1, none⟩ = some (.int .i64 n3) ∧ w'.cell? ⟨w.heap.size + 2, 2, none⟩ = some (.slice A3 f3.len C3) ∧ True)
      (first | exact HR.out.drew.st | exact UR.st | exact U3.st | exact U2.st | exact U1.st | exact U0.st | exact (UR.boxed _ _).st | exact (U3.boxed _ _).st | exact (U2.boxed _ _).st | exact (U1.boxed _ _).st | exact (U0.boxed _ _).st | exact (HR.out.drew.boxed _ _).st | exact (UR.fill3 _ _ _).st | exact ((UR.boxed _ _).fill3 _ _ _).st | (go_keep; done))
      (first | (go_at_call 11; (with_reducible refine (KT0.out _ ?_).mono ?_); exact St.sees (l := [(w.heap.size, 0, .int .i64 t0), (w.heap.size, 1, .int .i64 a0), (w.heap.size + 1, 0, .int .i64 k1), (w.heap.size + 1, 1, .int .i64 n1), (w.heap.size + 1, 2, .slice A1 f1.len C1), (w.heap.size + 2, 0, .int .i64 k3), (w.heap.size + 2, 1, .int .i64 n3), (w.heap.size + 2, 2, .slice A3 f3.len C3)]) (by assumption); rintro e wc0 ⟨rfl, hb0⟩; first | have U0 := HR.out.drew.below hb0 | have U0 := (HR.out.boxedD #[.int .i64 0, .int .i64 0, .slice none 0 0] 31).below hb0) | (go_at_call_of 12 (Value.agg #[.int .i64 k1, .int .i64 n1, .slice A1 f1.len C1]); (with_reducible refine (KT1.out _ ?_).mono ?_); exact St.sees (l := [(w.heap.size, 0, .int .i64 t0), (w.heap.size, 1, .int .i64 a0), (w.heap.size + 1, 0, .int .i64 k1), (w.heap.size + 1, 1, .int .i64 n1), (w.heap.size + 1, 2, .slice A1 f1.len C1), (w.heap.size + 2, 0, .int .i64 k3), (w.heap.size + 2, 1, .int .i64 n3), (w.heap.size + 2, 2, .slice A3 f3.len C3)]) (by assumption); rintro e wc1 ⟨Zc1, rfl, Ic1, hb1⟩; first | have U1 := U0.resS Ic1 hb1 | have U1 := (U0.boxed #[.int .i64 0, .int .i64 0, .slice none 0 0] 31).resS Ic1 hb1) | (go_at_call_of 13 (Value.slice A2 p2.length C2); (with_reducible refine (KT2.out _ ?_).mono ?_); exact St.sees (l := [(w.heap.size, 0, .int .i64 t0), (w.heap.size, 1, .int .i64 a0), (w.heap.size + 1, 0, .int .i64 k1), (w.heap.size + 1, 1, .int .i64 n1), (w.heap.size + 1, 2, .slice A1 f1.len C1), (w.heap.size + 2, 0, .int .i64 k3), (w.heap.size + 2, 1, .int .i64 n3), (w.heap.size + 2, 2, .slice A3 f3.len C3)]) (by assumption); rintro e wc2 ⟨Zc2, rfl, Ic2, hb2⟩; first | have U2 := U1.resI Ic2 hb2 | have U2 := (U1.boxed #[.int .i64 0, .int .i64 0, .slice none 0 0] 31).resI Ic2 hb2) | (go_at_call_of 12 (Value.agg #[.int .i64 k3, .int .i64 n3, .slice A3 f3.len C3]); (with_reducible refine (KT3.out _ ?_).mono ?_); exact St.sees (l := [(w.heap.size, 0, .int .i64 t0), (w.heap.size, 1, .int .i64 a0), (w.heap.size + 1, 0, .int .i64 k1), (w.heap.size + 1, 1, .int .i64 n1), (w.heap.size + 1, 2, .slice A1 f1.len C1), (w.heap.size + 2, 0, .int .i64 k3), (w.heap.size + 2, 1, .int .i64 n3), (w.heap.size + 2, 2, .slice A3 f3.len C3)]) (by assumption); rintro e wc3 ⟨Zc3, rfl, Ic3, hb3⟩; first | have U3 := U2.resS Ic3 hb3 | have U3 := (U2.boxed #[.int .i64 0, .int .i64 0, .slice none 0 0] 31).resS Ic3 hb3) | (go_at_call 10; refine (KW2.out _ _ _ _ ?_ ?_ ?_ ).mono ?_; (first | exact U3.tl.tl.lieS | exact ((U3.boxed #[.int .i64 0, .int .i64 0, .slice none 0 0] 31).tl.tl).lieS); (first | exact U3.tl.i1 | exact ((U3.boxed #[.int .i64 0, .int .i64 0, .slice none 0 0] 31).tl).i1); (first | exact U3.lieS | exact ((U3.boxed #[.int .i64 0, .int .i64 0, .slice none 0 0] 31)).lieS); rintro e wr ⟨Zr, Cr, rfl, Ir, hbr⟩; (first | have UR := (U3.resL Ir hbr).skip.skip.skip | have UR := ((U3.boxed #[.int .i64 0, .int .i64 0, .slice none 0 0] 31).resL Ir hbr).skip.skip.skip); (try simp only [World.size_alloc] at UR); (first | (obtain ⟨c0, c1, c2, g0, g1, g2⟩ := UR.facts3) | skip)))
    all_goals (go_wp2_with fail; go_meet; first | exact ⟨_, _, _, _, _, rfl, rfl, UR.done3 _ _ _⟩ | exact ⟨_, _, _, _, _, rfl, rfl, (UR.boxed _ _).done3 _ _ _⟩ | exact ⟨_, _, _, _, _, rfl, rfl, (UR.boxed _ _).open3⟩)
  case rest =>
  obtain ⟨bq1, loq1, hiq1, Zq1, Cq1, rfl, rfl, T⟩ := hcut
  clear x0 x1 x2 x3 x4 x5 x6 x7 x8
  clear HR; have HR := Lib.hid T; clear T
  obtain ⟨x0, x1, x2, x3, x4, x5, x6, x7, x8, x9, x10, x11, _⟩ := HR.out.st
  go_wp2_with fail
  refine (KT1.out _ x0).mono ?_
  rintro e wd1 ⟨Zd1, rfl, Id1, hbd⟩
  have T := ((HR.out.resS Id1 hbd).boxed #[.int .i64 k1, .int .i64 n1, .slice Zd1 f1.len f1.len] 31).open3
  clear x0 x1 x2 x3 x4 x5 x6 x7 x8 x9 x10 x11
  have HR' : Hid (∃ lo hi, Gs w [(wd1.heap.size, 0, .int .i64 k1), (wd1.heap.size, 1, .int .i64 n1), (wd1.heap.size, 2, .slice Zd1 f1.len f1.len), (bq1, 0, .int .i64 kR), (bq1, 1, .int .i64 nR), (bq1, 2, .slice Zq1 fR.len Cq1), (w.heap.size, 0, .int .i64 t0), (w.heap.size, 1, .int .i64 a0), (w.heap.size + 1, 0, .int .i64 k1), (w.heap.size + 1, 1, .int .i64 n1), (w.heap.size + 1, 2, .slice A1 f1.len C1), (w.heap.size + 2, 0, .int .i64 k3), (w.heap.size + 2, 1, .int .i64 n3), (w.heap.size + 2, 2, .slice A3 f3.len C3)] (ownS f1 lo hi Zd1 :: [ownL fR loq1 hiq1 Zq1]) _) := ⟨_, _, T⟩
  obtain ⟨lod1, hid1, T2⟩ := HR'.out
  clear HR HR' T Id1 hbd; have HR := Lib.hid T2; clear T2
  obtain ⟨x0, x1, x2, x3, x4, x5, x6, x7, x8, x9, x10, x11, x12, x13, x14, _⟩ := HR.out.st
  go_wp2_with fail
  refine (KT2.out _ x0).mono ?_
  rintro e wd2 ⟨Zd2, rfl, Id2, hbd⟩
  have T := HR.out.resI Id2 hbd
  clear x0 x1 x2 x3 x4 x5 x6 x7 x8 x9 x10 x11 x12 x13 x14
  have HR' : Hid (∃ lo hi, Gs w [(wd1.heap.size, 0, .int .i64 k1), (wd1.heap.size, 1, .int .i64 n1), (wd1.heap.size, 2, .slice Zd1 f1.len f1.len), (bq1, 0, .int .i64 kR), (bq1, 1, .int .i64 nR), (bq1, 2, .slice Zq1 fR.len Cq1), (w.heap.size, 0, .int .i64 t0), (w.heap.size, 1, .int .i64 a0), (w.heap.size + 1, 0, .int .i64 k1), (w.heap.size + 1, 1, .int .i64 n1), (w.heap.size + 1, 2, .slice A1 f1.len C1), (w.heap.size + 2, 0, .int .i64 k3), (w.heap.size + 2, 1, .int .i64 n3), (w.heap.size + 2, 2, .slice A3 f3.len C3)] (ownI p2 lo hi Zd2 :: [ownS f1 lod1 hid1 Zd1, ownL fR loq1 hiq1 Zq1]) _) := ⟨_, _, T⟩
  obtain ⟨lod2, hid2, T2⟩ := HR'.out
  clear HR HR' T Id2 hbd; have HR := Lib.hid T2; clear T2
  obtain ⟨x0, x1, x2, x3, x4, x5, x6, x7, x8, x9, x10, x11, x12, x13, x14, _⟩ := HR.out.st
  go_wp2_with fail
  refine (KT3.out _ x0).mono ?_
  rintro e wd3 ⟨Zd3, rfl, Id3, hbd⟩
  have T := ((HR.out.resS Id3 hbd).boxed #[.int .i64 k3, .int .i64 n3, .slice Zd3 f3.len f3.len] 31).open3
  clear x0 x1 x2 x3 x4 x5 x6 x7 x8 x9 x10 x11 x12 x13 x14
  have HR' : Hid (∃ lo hi, Gs w [(wd3.heap.size, 0, .int .i64 k3), (wd3.heap.size, 1, .int .i64 n3), (wd3.heap.size, 2, .slice Zd3 f3.len f3.len), (wd1.heap.size, 0, .int .i64 k1), (wd1.heap.size, 1, .int .i64 n1), (wd1.heap.size, 2, .slice Zd1 f1.len f1.len), (bq1, 0, .int .i64 kR), (bq1, 1, .int .i64 nR), (bq1, 2, .slice Zq1 fR.len Cq1), (w.heap.size, 0, .int .i64 t0), (w.heap.size, 1, .int .i64 a0), (w.heap.size + 1, 0, .int .i64 k1), (w.heap.size + 1, 1, .int .i64 n1), (w.heap.size + 1, 2, .slice A1 f1.len C1), (w.heap.size + 2, 0, .int .i64 k3), (w.heap.size + 2, 1, .int .i64 n3), (w.heap.size + 2, 2, .slice A3 f3.len C3)] (ownS f3 lo hi Zd3 :: [ownI p2 lod2 hid2 Zd2, ownS f1 lod1 hid1 Zd1, ownL fR loq1 hiq1 Zq1]) _) := ⟨_, _, T⟩
  obtain ⟨lod3, hid3, T2⟩ := HR'.out
  clear HR HR' T Id3 hbd; have HR := Lib.hid T2; clear T2
  obtain ⟨x0, x1, x2, x3, x4, x5, x6, x7, x8, x9, x10, x11, x12, x13, x14, x15, x16, x17, _⟩ := HR.out.st
  go_wp2_with fail
  go_cut [15, 16] (fun sp sc wx => ∃ (bq5 loq5 hiq5 : Nat) (Zq5 : Option Addr) (Cq5 : Nat), sp = .pointer (some ⟨bq5, 0, none⟩) ∧ sc = .int .i64 q ∧ Gs w [(bq5, 0, .int .i64 kR), (bq5, 1, .int .i64 nR), (bq5, 2, .slice Zq5 fR.len Cq5), (wd3.heap.size, 0, .int .i64 k3), (wd3.heap.size, 1, .int .i64 n3), (wd3.heap.size, 2, .slice Zd3 f3.len f3.len), (wd1.heap.size, 0, .int .i64 k1), (wd1.heap.size, 1, .int .i64 n1), (wd1.heap.size, 2, .slice Zd1 f1.len f1.len), (bq1, 0, .int .i64 kR), (bq1, 1, .int .i64 nR), (bq1, 2, .slice Zq1 fR.len Cq1), (w.heap.size, 0, .int .i64 t0), (w.heap.size, 1, .int .i64 a0), (w.heap.size + 1, 0, .int .i64 k1), (w.heap.size + 1, 1, .int .i64 n1), (w.heap.size + 1, 2, .slice A1 f1.len C1), (w.heap.size + 2, 0, .int .i64 k3), (w.heap.size + 2, 1, .int .i64 n3), (w.heap.size + 2, 2, .slice A3 f3.len C3)] (ownS fR loq5 hiq5 Zq5 :: [ownS f3 lod3 hid3 Zd3, ownI p2 lod2 hid2 Zd2, ownS f1 lod1 hid1 Zd1, ownL fR loq1 hiq1 Zq1]) wx)
  case first =>
    go_region_held3 (fun w' => Sees w w' ∧ w'.cell? ⟨wd3.heap.size, 0, none⟩ = some (.int .i64 k3) ∧ w'.cell? ⟨wd3.heap.size, 1, none⟩ = some (.int .i64 n3) ∧ w'.cell? ⟨wd3.heap.size, 2, none⟩ = some (.slice Zd3 f3.len f3.len) ∧ w'.cell? ⟨wd1.heap.size, 0, none⟩ = some (.int .i64 k1) ∧ w'.cell? ⟨wd1.heap.size, 1, none⟩ = some (.int .i64 n1) ∧ w'.cell? ⟨wd1.heap.size, 2, none⟩ = some (.slice Zd1 f1.len f1.len) ∧ w'.cell? ⟨bq1, 0, none⟩ = some (.int .i64 kR) ∧ w'.cell? ⟨bq1, 1, none⟩ = some (.int .i64 nR) ∧ w'.cell? ⟨bq1, 2, none⟩ = some (.slice Zq1 fR.len Cq1) ∧ w'.cell? ⟨w.heap.size, 0, none⟩ = some (.int .i64 t0) ∧ w'.cell? ⟨w.heap.size, 1, none⟩ = some (.int .i64 a0) ∧ w'.cell? ⟨w.heap.size + 1, 0, none⟩ = some (.int .i64 k1) ∧ w'.cell? ⟨w.heap.size + 1, 1, none⟩ = some (.int .i64 n1) ∧ w'.cell? ⟨w.heap.size + 1, 2, none⟩ = some (.slice A1 f1.len C1) ∧ w'.cell? ⟨w.heap.size + 2, 0, none⟩ = some (.int .i64 k3) ∧ w'.cell? ⟨w.heap.size + 2, 1, none⟩ = some (.int .i64 n3) ∧ w'.cell? ⟨w.heap.size + 2, 2, none⟩ = some (.slice A3 f3.len C3) ∧ True)
      (first | exact HR.out.drew.st | exact UR.st | exact U0.st | exact (UR.boxed _ _).st | exact (U0.boxed _ _).st | exact (HR.out.drew.boxed _ _).st | exact (UR.fill3 _ _ _).st | exact ((UR.boxed _ _).fill3 _ _ _).st | (go_keep; done))
      (first | (go_at_call 11; (with_reducible refine (KT0.out _ ?_).mono ?_); exact St.sees (l := [(wd3.heap.size, 0, .int .i64 k3), (wd3.heap.size, 1, .int .i64 n3), (wd3.heap.size, 2, .slice Zd3 f3.len f3.len), (wd1.heap.size, 0, .int .i64 k1), (wd1.heap.size, 1, .int .i64 n1), (wd1.heap.size, 2, .slice Zd1 f1.len f1.len), (bq1, 0, .int .i64 kR), (bq1, 1, .int .i64 nR), (bq1, 2, .slice Zq1 fR.len Cq1), (w.heap.size, 0, .int .i64 t0), (w.heap.size, 1, .int .i64 a0), (w.heap.size + 1, 0, .int .i64 k1), (w.heap.size + 1, 1, .int .i64 n1), (w.heap.size + 1, 2, .slice A1 f1.len C1), (w.heap.size + 2, 0, .int .i64 k3), (w.heap.size + 2, 1, .int .i64 n3), (w.heap.size + 2, 2, .slice A3 f3.len C3)]) (by assumption); rintro e wc0 ⟨rfl, hb0⟩; first | have U0 := HR.out.drew.below hb0 | have U0 := (HR.out.boxedD #[.int .i64 0, .int .i64 0, .slice none 0 0] 31).below hb0) | (go_at_call 14; refine (KG2.out _ _ _ _ ?_ ?_ ?_ ).mono ?_; (first | exact U0.tl.tl.lieS | exact ((U0.boxed #[.int .i64 0, .int .i64 0, .slice none 0 0] 31).tl.tl).lieS); (first | exact U0.tl.i1 | exact ((U0.boxed #[.int .i64 0, .int .i64 0, .slice none 0 0] 31).tl).i1); (first | exact U0.lieS | exact ((U0.boxed #[.int .i64 0, .int .i64 0, .slice none 0 0] 31)).lieS); rintro e wr ⟨Zr, Cr, rfl, Ir, hbr⟩; (first | have UR := (U0.resS Ir hbr) | have UR := ((U0.boxed #[.int .i64 0, .int .i64 0, .slice none 0 0] 31).resS Ir hbr)); (try simp only [World.size_alloc] at UR); (first | (obtain ⟨c0, c1, c2, g0, g1, g2⟩ := UR.facts3) | skip)))
    all_goals (go_wp2_with fail; go_meet; first | exact ⟨_, _, _, _, _, rfl, rfl, UR.done3 _ _ _⟩ | exact ⟨_, _, _, _, _, rfl, rfl, (UR.boxed _ _).done3 _ _ _⟩ | exact ⟨_, _, _, _, _, rfl, rfl, (UR.boxed _ _).open3⟩)
  case rest =>
  obtain ⟨bq5, loq5, hiq5, Zq5, Cq5, rfl, rfl, T⟩ := hcut
  clear x0 x1 x2 x3 x4 x5 x6 x7 x8 x9 x10 x11 x12 x13 x14 x15 x16 x17
  clear HR; have HR := Lib.hid T; clear T
  obtain ⟨x0, x1, x2, x3, x4, x5, x6, x7, x8, x9, x10, x11, x12, x13, x14, x15, x16, x17, x18, x19, x20, _⟩ := HR.out.st
  go_wp2_with fail
  refine (KQ.out _ _ _ _ _ (HR.out.lieS) (HR.out.tl.tl.tl.tl.lieL)).mono ?_
  rintro e wq6 ⟨rfl, hb⟩
  have T := HR.out.below hb
  clear x0 x1 x2 x3 x4 x5 x6 x7 x8 x9 x10 x11 x12 x13 x14 x15 x16 x17 x18 x19 x20
  clear HR hb; have HR := Lib.hid T; clear T
  obtain ⟨x0, x1, x2, x3, x4, x5, x6, x7, x8, x9, x10, x11, x12, x13, x14, x15, x16, x17, x18, x19, x20, _⟩ := HR.out.st
  go_wp2_with fail
  go_region_held3 (fun w' => Sees w w' ∧ w'.cell? ⟨bq5, 0, none⟩ = some (.int .i64 kR) ∧ w'.cell? ⟨bq5, 1, none⟩ = some (.int .i64 nR) ∧ w'.cell? ⟨bq5, 2, none⟩ = some (.slice Zq5 fR.len Cq5) ∧ w'.cell? ⟨wd3.heap.size, 0, none⟩ = some (.int .i64 k3) ∧ w'.cell? ⟨wd3.heap.size, 1, none⟩ = some (.int .i64 n3) ∧ w'.cell? ⟨wd3.heap.size, 2, none⟩ = some (.slice Zd3 f3.len f3.len) ∧ w'.cell? ⟨wd1.heap.size, 0, none⟩ = some (.int .i64 k1) ∧ w'.cell? ⟨wd1.heap.size, 1, none⟩ = some (.int .i64 n1) ∧ w'.cell? ⟨wd1.heap.size, 2, none⟩ = some (.slice Zd1 f1.len f1.len) ∧ w'.cell? ⟨bq1, 0, none⟩ = some (.int .i64 kR) ∧ w'.cell? ⟨bq1, 1, none⟩ = some (.int .i64 nR) ∧ w'.cell? ⟨bq1, 2, none⟩ = some (.slice Zq1 fR.len Cq1) ∧ w'.cell? ⟨w.heap.size, 0, none⟩ = some (.int .i64 t0) ∧ w'.cell? ⟨w.heap.size, 1, none⟩ = some (.int .i64 a0) ∧ w'.cell? ⟨w.heap.size + 1, 0, none⟩ = some (.int .i64 k1) ∧ w'.cell? ⟨w.heap.size + 1, 1, none⟩ = some (.int .i64 n1) ∧ w'.cell? ⟨w.heap.size + 1, 2, none⟩ = some (.slice A1 f1.len C1) ∧ w'.cell? ⟨w.heap.size + 2, 0, none⟩ = some (.int .i64 k3) ∧ w'.cell? ⟨w.heap.size + 2, 1, none⟩ = some (.int .i64 n3) ∧ w'.cell? ⟨w.heap.size + 2, 2, none⟩ = some (.slice A3 f3.len C3) ∧ True)
    (first | exact HR.out.drew.st | exact UE7.st | exact UT7.st | (go_keep; done))
    (first | (go_at_call 12; (with_reducible refine (KT1.out _ ?_).mono ?_); exact St.sees (l := [(bq5, 0, .int .i64 kR), (bq5, 1, .int .i64 nR), (bq5, 2, .slice Zq5 fR.len Cq5), (wd3.heap.size, 0, .int .i64 k3), (wd3.heap.size, 1, .int .i64 n3), (wd3.heap.size, 2, .slice Zd3 f3.len f3.len), (wd1.heap.size, 0, .int .i64 k1), (wd1.heap.size, 1, .int .i64 n1), (wd1.heap.size, 2, .slice Zd1 f1.len f1.len), (bq1, 0, .int .i64 kR), (bq1, 1, .int .i64 nR), (bq1, 2, .slice Zq1 fR.len Cq1), (w.heap.size, 0, .int .i64 t0), (w.heap.size, 1, .int .i64 a0), (w.heap.size + 1, 0, .int .i64 k1), (w.heap.size + 1, 1, .int .i64 n1), (w.heap.size + 1, 2, .slice A1 f1.len C1), (w.heap.size + 2, 0, .int .i64 k3), (w.heap.size + 2, 1, .int .i64 n3), (w.heap.size + 2, 2, .slice A3 f3.len C3)]) (by assumption); rintro e wt7 ⟨Zt7, rfl, It7, hbt7⟩; have UT7 := HR.out.drew.resS It7 hbt7) | (go_at_call 15; refine (KE1.out _ _ _ UT7.tl.tl.tl.tl.lieS UT7.lieS).mono ?_; rintro e we7 ⟨rfl, hbe7⟩; have UE7 := (UT7.below hbe7).tl))
  clear x0 x1 x2 x3 x4 x5 x6 x7 x8 x9 x10 x11 x12 x13 x14 x15 x16 x17 x18 x19 x20
  clear HR; have HR := Lib.hid UE7; clear UE7 UT7 It7 hbt7 hbe7
  obtain ⟨x0, x1, x2, x3, x4, x5, x6, x7, x8, x9, x10, x11, x12, x13, x14, x15, x16, x17, x18, x19, x20, _⟩ := HR.out.st
  go_wp2_with fail
  refine (KT2.out _ x0).mono ?_
  rintro e wt8 ⟨Zt8, rfl, It8, hbt8⟩
  have UT8 := HR.out.resI It8 hbt8
  clear x0 x1 x2 x3 x4 x5 x6 x7 x8 x9 x10 x11 x12 x13 x14 x15 x16 x17 x18 x19 x20
  clear HR
  have HR := Lib.hid UT8; clear UT8 It8 hbt8
  obtain ⟨x0, x1, x2, x3, x4, x5, x6, x7, x8, x9, x10, x11, x12, x13, x14, x15, x16, x17, x18, x19, x20, _⟩ := HR.out.st
  go_wp2_with fail
  refine (KE2.out _ _ _ HR.out.tl.tl.tl.i1 HR.out.i1).mono ?_
  rintro e we8 ⟨rfl, hb⟩
  have T := (HR.out.below hb).tl
  clear x0 x1 x2 x3 x4 x5 x6 x7 x8 x9 x10 x11 x12 x13 x14 x15 x16 x17 x18 x19 x20
  clear HR hb; have HR := Lib.hid T; clear T
  obtain ⟨x0, x1, x2, x3, x4, x5, x6, x7, x8, x9, x10, x11, x12, x13, x14, x15, x16, x17, x18, x19, x20, _⟩ := HR.out.st
  go_wp2_with fail
  go_region_held3 (fun w' => Sees w w' ∧ w'.cell? ⟨bq5, 0, none⟩ = some (.int .i64 kR) ∧ w'.cell? ⟨bq5, 1, none⟩ = some (.int .i64 nR) ∧ w'.cell? ⟨bq5, 2, none⟩ = some (.slice Zq5 fR.len Cq5) ∧ w'.cell? ⟨wd3.heap.size, 0, none⟩ = some (.int .i64 k3) ∧ w'.cell? ⟨wd3.heap.size, 1, none⟩ = some (.int .i64 n3) ∧ w'.cell? ⟨wd3.heap.size, 2, none⟩ = some (.slice Zd3 f3.len f3.len) ∧ w'.cell? ⟨wd1.heap.size, 0, none⟩ = some (.int .i64 k1) ∧ w'.cell? ⟨wd1.heap.size, 1, none⟩ = some (.int .i64 n1) ∧ w'.cell? ⟨wd1.heap.size, 2, none⟩ = some (.slice Zd1 f1.len f1.len) ∧ w'.cell? ⟨bq1, 0, none⟩ = some (.int .i64 kR) ∧ w'.cell? ⟨bq1, 1, none⟩ = some (.int .i64 nR) ∧ w'.cell? ⟨bq1, 2, none⟩ = some (.slice Zq1 fR.len Cq1) ∧ w'.cell? ⟨w.heap.size, 0, none⟩ = some (.int .i64 t0) ∧ w'.cell? ⟨w.heap.size, 1, none⟩ = some (.int .i64 a0) ∧ w'.cell? ⟨w.heap.size + 1, 0, none⟩ = some (.int .i64 k1) ∧ w'.cell? ⟨w.heap.size + 1, 1, none⟩ = some (.int .i64 n1) ∧ w'.cell? ⟨w.heap.size + 1, 2, none⟩ = some (.slice A1 f1.len C1) ∧ w'.cell? ⟨w.heap.size + 2, 0, none⟩ = some (.int .i64 k3) ∧ w'.cell? ⟨w.heap.size + 2, 1, none⟩ = some (.int .i64 n3) ∧ w'.cell? ⟨w.heap.size + 2, 2, none⟩ = some (.slice A3 f3.len C3) ∧ True)
    (first | exact HR.out.drew.st | exact UE9.st | exact UT9.st | (go_keep; done))
    (first | (go_at_call 12; (with_reducible refine (KT3.out _ ?_).mono ?_); exact St.sees (l := [(bq5, 0, .int .i64 kR), (bq5, 1, .int .i64 nR), (bq5, 2, .slice Zq5 fR.len Cq5), (wd3.heap.size, 0, .int .i64 k3), (wd3.heap.size, 1, .int .i64 n3), (wd3.heap.size, 2, .slice Zd3 f3.len f3.len), (wd1.heap.size, 0, .int .i64 k1), (wd1.heap.size, 1, .int .i64 n1), (wd1.heap.size, 2, .slice Zd1 f1.len f1.len), (bq1, 0, .int .i64 kR), (bq1, 1, .int .i64 nR), (bq1, 2, .slice Zq1 fR.len Cq1), (w.heap.size, 0, .int .i64 t0), (w.heap.size, 1, .int .i64 a0), (w.heap.size + 1, 0, .int .i64 k1), (w.heap.size + 1, 1, .int .i64 n1), (w.heap.size + 1, 2, .slice A1 f1.len C1), (w.heap.size + 2, 0, .int .i64 k3), (w.heap.size + 2, 1, .int .i64 n3), (w.heap.size + 2, 2, .slice A3 f3.len C3)]) (by assumption); rintro e wt9 ⟨Zt9, rfl, It9, hbt9⟩; have UT9 := HR.out.drew.resS It9 hbt9) | (go_at_call 15; refine (KE3.out _ _ _ UT9.tl.tl.lieS UT9.lieS).mono ?_; rintro e we9 ⟨rfl, hbe9⟩; have UE9 := (UT9.below hbe9).tl))
  clear x0 x1 x2 x3 x4 x5 x6 x7 x8 x9 x10 x11 x12 x13 x14 x15 x16 x17 x18 x19 x20
  clear HR; have HR := Lib.hid UE9; clear UE9 UT9 It9 hbt9 hbe9
  obtain ⟨x0, x1, x2, x3, x4, x5, x6, x7, x8, x9, x10, x11, x12, x13, x14, x15, x16, x17, x18, x19, x20, _⟩ := HR.out.st
  go_wp2_with fail
  refine (KM1.out _ _ _ _ _ HR.out.tl.tl.tl.hd HR.out.tl.tl.tl.top).mono ?_
  rintro e wm10 ⟨rfl, hb⟩
  have T := Gs.mark (O1 := [ownS fR loq5 hiq5 Zq5, ownS f3 lod3 hid3 Zd3, ownI p2 lod2 hid2 Zd2]) (O2 := [ownL fR loq1 hiq1 Zq1]) HR.out hb
  clear x0 x1 x2 x3 x4 x5 x6 x7 x8 x9 x10 x11 x12 x13 x14 x15 x16 x17 x18 x19 x20
  clear HR hb; have HR := Lib.hid T; clear T
  have HR2 : Hid (Gs w [(bq5, 0, .int .i64 kR), (bq5, 1, .int .i64 nR), (bq5, 2, .slice Zq5 fR.len Cq5), (wd3.heap.size, 0, .int .i64 k3), (wd3.heap.size, 1, .int .i64 n3), (wd3.heap.size, 2, .slice Zd3 f3.len f3.len), (wd1.heap.size, 0, .int .i64 k1), (wd1.heap.size, 1, .int .i64 n1), (wd1.heap.size, 2, .slice Zd1 f1.len f1.len), (bq1, 0, .int .i64 kR), (bq1, 1, .int .i64 nR), (bq1, 2, .slice Zq1 fR.len Cq1), (w.heap.size, 0, .int .i64 t0), (w.heap.size, 1, .int .i64 a0), (w.heap.size + 1, 0, .int .i64 k1), (w.heap.size + 1, 1, .int .i64 n1), (w.heap.size + 1, 2, .slice A1 f1.len C1), (w.heap.size + 2, 0, .int .i64 k3), (w.heap.size + 2, 1, .int .i64 n3), (w.heap.size + 2, 2, .slice A3 f3.len C3)] [ownS fR loq5 hiq5 Zq5, ownS f3 lod3 hid3 Zd3, ownI p2 lod2 hid2 Zd2, ownL fR loq1 hiq1 Zq1] wm10) := HR.out
  clear HR; have HR := HR2; clear HR2
  obtain ⟨x0, x1, x2, x3, x4, x5, x6, x7, x8, x9, x10, x11, x12, x13, x14, x15, x16, x17, x18, x19, x20, _⟩ := HR.out.st
  go_wp2_with fail
  refine (KM2.out _ _ _ _ _ HR.out.tl.tl.hd HR.out.tl.tl.top).mono ?_
  rintro e wm11 ⟨rfl, hb⟩
  have T := Gs.mark (O1 := [ownS fR loq5 hiq5 Zq5, ownS f3 lod3 hid3 Zd3]) (O2 := [ownL fR loq1 hiq1 Zq1]) HR.out hb
  clear x0 x1 x2 x3 x4 x5 x6 x7 x8 x9 x10 x11 x12 x13 x14 x15 x16 x17 x18 x19 x20
  clear HR hb; have HR := Lib.hid T; clear T
  have HR2 : Hid (Gs w [(bq5, 0, .int .i64 kR), (bq5, 1, .int .i64 nR), (bq5, 2, .slice Zq5 fR.len Cq5), (wd3.heap.size, 0, .int .i64 k3), (wd3.heap.size, 1, .int .i64 n3), (wd3.heap.size, 2, .slice Zd3 f3.len f3.len), (wd1.heap.size, 0, .int .i64 k1), (wd1.heap.size, 1, .int .i64 n1), (wd1.heap.size, 2, .slice Zd1 f1.len f1.len), (bq1, 0, .int .i64 kR), (bq1, 1, .int .i64 nR), (bq1, 2, .slice Zq1 fR.len Cq1), (w.heap.size, 0, .int .i64 t0), (w.heap.size, 1, .int .i64 a0), (w.heap.size + 1, 0, .int .i64 k1), (w.heap.size + 1, 1, .int .i64 n1), (w.heap.size + 1, 2, .slice A1 f1.len C1), (w.heap.size + 2, 0, .int .i64 k3), (w.heap.size + 2, 1, .int .i64 n3), (w.heap.size + 2, 2, .slice A3 f3.len C3)] [ownS fR loq5 hiq5 Zq5, ownS f3 lod3 hid3 Zd3, ownL fR loq1 hiq1 Zq1] wm11) := HR.out
  clear HR; have HR := HR2; clear HR2
  obtain ⟨x0, x1, x2, x3, x4, x5, x6, x7, x8, x9, x10, x11, x12, x13, x14, x15, x16, x17, x18, x19, x20, _⟩ := HR.out.st
  go_wp2_with fail
  refine (KM3.out _ _ _ _ _ HR.out.tl.hd HR.out.tl.top).mono ?_
  rintro e wm12 ⟨rfl, hb⟩
  have T := Gs.mark (O1 := [ownS fR loq5 hiq5 Zq5]) (O2 := [ownL fR loq1 hiq1 Zq1]) HR.out hb
  clear x0 x1 x2 x3 x4 x5 x6 x7 x8 x9 x10 x11 x12 x13 x14 x15 x16 x17 x18 x19 x20
  clear HR hb; have HR := Lib.hid T; clear T
  have HR2 : Hid (Gs w [(bq5, 0, .int .i64 kR), (bq5, 1, .int .i64 nR), (bq5, 2, .slice Zq5 fR.len Cq5), (wd3.heap.size, 0, .int .i64 k3), (wd3.heap.size, 1, .int .i64 n3), (wd3.heap.size, 2, .slice Zd3 f3.len f3.len), (wd1.heap.size, 0, .int .i64 k1), (wd1.heap.size, 1, .int .i64 n1), (wd1.heap.size, 2, .slice Zd1 f1.len f1.len), (bq1, 0, .int .i64 kR), (bq1, 1, .int .i64 nR), (bq1, 2, .slice Zq1 fR.len Cq1), (w.heap.size, 0, .int .i64 t0), (w.heap.size, 1, .int .i64 a0), (w.heap.size + 1, 0, .int .i64 k1), (w.heap.size + 1, 1, .int .i64 n1), (w.heap.size + 1, 2, .slice A1 f1.len C1), (w.heap.size + 2, 0, .int .i64 k3), (w.heap.size + 2, 1, .int .i64 n3), (w.heap.size + 2, 2, .slice A3 f3.len C3)] [ownS fR loq5 hiq5 Zq5, ownL fR loq1 hiq1 Zq1] wm12) := HR.out
  clear HR; have HR := HR2; clear HR2
  obtain ⟨x0, x1, x2, x3, x4, x5, x6, x7, x8, x9, x10, x11, x12, x13, x14, x15, x16, x17, x18, x19, x20, _⟩ := HR.out.st
  go_wp2_with fail
  refine (KQ.out _ _ _ _ _ (HR.out.lieS) (HR.out.tl.lieL)).mono ?_
  rintro e wq13 ⟨rfl, hb⟩
  have T := HR.out.below hb
  clear x0 x1 x2 x3 x4 x5 x6 x7 x8 x9 x10 x11 x12 x13 x14 x15 x16 x17 x18 x19 x20
  clear HR hb; have HR := Lib.hid T; clear T
  obtain ⟨x0, x1, x2, x3, x4, x5, x6, x7, x8, x9, x10, x11, x12, x13, x14, x15, x16, x17, x18, x19, x20, _⟩ := HR.out.st
  go_wp2_with fail
  refine (KU.out _ _ _ _ _ HR.out.hd HR.out.top).mono ?_
  rintro e wm14 ⟨rfl, hw, hb⟩
  have T := HR.out.markedS hb hw
  clear x0 x1 x2 x3 x4 x5 x6 x7 x8 x9 x10 x11 x12 x13 x14 x15 x16 x17 x18 x19 x20
  clear HR hb hw; have HR := Lib.hid T; clear T
  obtain ⟨x0, x1, x2, x3, x4, x5, x6, x7, x8, x9, x10, x11, x12, x13, x14, x15, x16, x17, x18, x19, x20, _⟩ := HR.out.st
  go_wp2_with fail
  refine (KH.out _ _ _ (HR.out.lieS)).mono ?_
  rintro e wh15 ⟨rfl, hb⟩
  have T := HR.out.below hb
  clear x0 x1 x2 x3 x4 x5 x6 x7 x8 x9 x10 x11 x12 x13 x14 x15 x16 x17 x18 x19 x20
  clear HR hb; have HR := Lib.hid T; clear T
  obtain ⟨x0, x1, x2, x3, x4, x5, x6, x7, x8, x9, x10, x11, x12, x13, x14, x15, x16, x17, x18, x19, x20, _⟩ := HR.out.st
  go_wp2_with fail
  go_cut [20, 21] (fun sp sc wx => ∃ (bq16 loq16 hiq16 : Nat) (Zq16 : Option Addr) (Cq16 : Nat), sp = .pointer (some ⟨bq16, 0, none⟩) ∧ sc = .int .i64 q ∧ Gs w [(bq16, 0, .int .i64 kR), (bq16, 1, .int .i64 nR), (bq16, 2, .slice Zq16 fR.len Cq16), (bq5, 0, .int .i64 kR), (bq5, 1, .int .i64 nR), (bq5, 2, .slice Zq5 fR.len Cq5), (wd3.heap.size, 0, .int .i64 k3), (wd3.heap.size, 1, .int .i64 n3), (wd3.heap.size, 2, .slice Zd3 f3.len f3.len), (wd1.heap.size, 0, .int .i64 k1), (wd1.heap.size, 1, .int .i64 n1), (wd1.heap.size, 2, .slice Zd1 f1.len f1.len), (bq1, 0, .int .i64 kR), (bq1, 1, .int .i64 nR), (bq1, 2, .slice Zq1 fR.len Cq1), (w.heap.size, 0, .int .i64 t0), (w.heap.size, 1, .int .i64 a0), (w.heap.size + 1, 0, .int .i64 k1), (w.heap.size + 1, 1, .int .i64 n1), (w.heap.size + 1, 2, .slice A1 f1.len C1), (w.heap.size + 2, 0, .int .i64 k3), (w.heap.size + 2, 1, .int .i64 n3), (w.heap.size + 2, 2, .slice A3 f3.len C3)] (ownS fR loq16 hiq16 Zq16 :: [ownS (fR.mark 1) loq5 hiq5 Zq5, ownL fR loq1 hiq1 Zq1]) wx)
  case first =>
    go_region_held3 (fun w' => Sees w w' ∧ w'.cell? ⟨bq5, 0, none⟩ = some (.int .i64 kR) ∧ w'.cell? ⟨bq5, 1, none⟩ = some (.int .i64 nR) ∧ w'.cell? ⟨bq5, 2, none⟩ = some (.slice Zq5 fR.len Cq5) ∧ w'.cell? ⟨wd3.heap.size, 0, none⟩ = some (.int .i64 k3) ∧ w'.cell? ⟨wd3.heap.size, 1, none⟩ = some (.int .i64 n3) ∧ w'.cell? ⟨wd3.heap.size, 2, none⟩ = some (.slice Zd3 f3.len f3.len) ∧ w'.cell? ⟨wd1.heap.size, 0, none⟩ = some (.int .i64 k1) ∧ w'.cell? ⟨wd1.heap.size, 1, none⟩ = some (.int .i64 n1) ∧ w'.cell? ⟨wd1.heap.size, 2, none⟩ = some (.slice Zd1 f1.len f1.len) ∧ w'.cell? ⟨bq1, 0, none⟩ = some (.int .i64 kR) ∧ w'.cell? ⟨bq1, 1, none⟩ = some (.int .i64 nR) ∧ w'.cell? ⟨bq1, 2, none⟩ = some (.slice Zq1 fR.len Cq1) ∧ w'.cell? ⟨w.heap.size, 0, none⟩ = some (.int .i64 t0) ∧ w'.cell? ⟨w.heap.size, 1, none⟩ = some (.int .i64 a0) ∧ w'.cell? ⟨w.heap.size + 1, 0, none⟩ = some (.int .i64 k1) ∧ w'.cell? ⟨w.heap.size + 1, 1, none⟩ = some (.int .i64 n1) ∧ w'.cell? ⟨w.heap.size + 1, 2, none⟩ = some (.slice A1 f1.len C1) ∧ w'.cell? ⟨w.heap.size + 2, 0, none⟩ = some (.int .i64 k3) ∧ w'.cell? ⟨w.heap.size + 2, 1, none⟩ = some (.int .i64 n3) ∧ w'.cell? ⟨w.heap.size + 2, 2, none⟩ = some (.slice A3 f3.len C3) ∧ True)
      (first | exact HR.out.drew.st | exact UR.st | exact U3.st | exact U2.st | exact U1.st | exact U0.st | exact (UR.boxed _ _).st | exact (U3.boxed _ _).st | exact (U2.boxed _ _).st | exact (U1.boxed _ _).st | exact (U0.boxed _ _).st | exact (HR.out.drew.boxed _ _).st | exact (UR.fill3 _ _ _).st | exact ((UR.boxed _ _).fill3 _ _ _).st | (go_keep; done))
      (first | (go_at_call 11; (with_reducible refine (KT0.out _ ?_).mono ?_); exact St.sees (l := [(bq5, 0, .int .i64 kR), (bq5, 1, .int .i64 nR), (bq5, 2, .slice Zq5 fR.len Cq5), (wd3.heap.size, 0, .int .i64 k3), (wd3.heap.size, 1, .int .i64 n3), (wd3.heap.size, 2, .slice Zd3 f3.len f3.len), (wd1.heap.size, 0, .int .i64 k1), (wd1.heap.size, 1, .int .i64 n1), (wd1.heap.size, 2, .slice Zd1 f1.len f1.len), (bq1, 0, .int .i64 kR), (bq1, 1, .int .i64 nR), (bq1, 2, .slice Zq1 fR.len Cq1), (w.heap.size, 0, .int .i64 t0), (w.heap.size, 1, .int .i64 a0), (w.heap.size + 1, 0, .int .i64 k1), (w.heap.size + 1, 1, .int .i64 n1), (w.heap.size + 1, 2, .slice A1 f1.len C1), (w.heap.size + 2, 0, .int .i64 k3), (w.heap.size + 2, 1, .int .i64 n3), (w.heap.size + 2, 2, .slice A3 f3.len C3)]) (by assumption); rintro e wc0 ⟨rfl, hb0⟩; first | have U0 := HR.out.drew.below hb0 | have U0 := (HR.out.boxedD #[.int .i64 0, .int .i64 0, .slice none 0 0] 31).below hb0) | (go_at_call_of 12 (Value.agg #[.int .i64 k1, .int .i64 n1, .slice A1 f1.len C1]); (with_reducible refine (KT1.out _ ?_).mono ?_); exact St.sees (l := [(bq5, 0, .int .i64 kR), (bq5, 1, .int .i64 nR), (bq5, 2, .slice Zq5 fR.len Cq5), (wd3.heap.size, 0, .int .i64 k3), (wd3.heap.size, 1, .int .i64 n3), (wd3.heap.size, 2, .slice Zd3 f3.len f3.len), (wd1.heap.size, 0, .int .i64 k1), (wd1.heap.size, 1, .int .i64 n1), (wd1.heap.size, 2, .slice Zd1 f1.len f1.len), (bq1, 0, .int .i64 kR), (bq1, 1, .int .i64 nR), (bq1, 2, .slice Zq1 fR.len Cq1), (w.heap.size, 0, .int .i64 t0), (w.heap.size, 1, .int .i64 a0), (w.heap.size + 1, 0, .int .i64 k1), (w.heap.size + 1, 1, .int .i64 n1), (w.heap.size + 1, 2, .slice A1 f1.len C1), (w.heap.size + 2, 0, .int .i64 k3), (w.heap.size + 2, 1, .int .i64 n3), (w.heap.size + 2, 2, .slice A3 f3.len C3)]) (by assumption); rintro e wc1 ⟨Zc1, rfl, Ic1, hb1⟩; first | have U1 := U0.resS Ic1 hb1 | have U1 := (U0.boxed #[.int .i64 0, .int .i64 0, .slice none 0 0] 31).resS Ic1 hb1) | (go_at_call_of 13 (Value.slice A2 p2.length C2); (with_reducible refine (KT2.out _ ?_).mono ?_); exact St.sees (l := [(bq5, 0, .int .i64 kR), (bq5, 1, .int .i64 nR), (bq5, 2, .slice Zq5 fR.len Cq5), (wd3.heap.size, 0, .int .i64 k3), (wd3.heap.size, 1, .int .i64 n3), (wd3.heap.size, 2, .slice Zd3 f3.len f3.len), (wd1.heap.size, 0, .int .i64 k1), (wd1.heap.size, 1, .int .i64 n1), (wd1.heap.size, 2, .slice Zd1 f1.len f1.len), (bq1, 0, .int .i64 kR), (bq1, 1, .int .i64 nR), (bq1, 2, .slice Zq1 fR.len Cq1), (w.heap.size, 0, .int .i64 t0), (w.heap.size, 1, .int .i64 a0), (w.heap.size + 1, 0, .int .i64 k1), (w.heap.size + 1, 1, .int .i64 n1), (w.heap.size + 1, 2, .slice A1 f1.len C1), (w.heap.size + 2, 0, .int .i64 k3), (w.heap.size + 2, 1, .int .i64 n3), (w.heap.size + 2, 2, .slice A3 f3.len C3)]) (by assumption); rintro e wc2 ⟨Zc2, rfl, Ic2, hb2⟩; first | have U2 := U1.resI Ic2 hb2 | have U2 := (U1.boxed #[.int .i64 0, .int .i64 0, .slice none 0 0] 31).resI Ic2 hb2) | (go_at_call_of 12 (Value.agg #[.int .i64 k3, .int .i64 n3, .slice A3 f3.len C3]); (with_reducible refine (KT3.out _ ?_).mono ?_); exact St.sees (l := [(bq5, 0, .int .i64 kR), (bq5, 1, .int .i64 nR), (bq5, 2, .slice Zq5 fR.len Cq5), (wd3.heap.size, 0, .int .i64 k3), (wd3.heap.size, 1, .int .i64 n3), (wd3.heap.size, 2, .slice Zd3 f3.len f3.len), (wd1.heap.size, 0, .int .i64 k1), (wd1.heap.size, 1, .int .i64 n1), (wd1.heap.size, 2, .slice Zd1 f1.len f1.len), (bq1, 0, .int .i64 kR), (bq1, 1, .int .i64 nR), (bq1, 2, .slice Zq1 fR.len Cq1), (w.heap.size, 0, .int .i64 t0), (w.heap.size, 1, .int .i64 a0), (w.heap.size + 1, 0, .int .i64 k1), (w.heap.size + 1, 1, .int .i64 n1), (w.heap.size + 1, 2, .slice A1 f1.len C1), (w.heap.size + 2, 0, .int .i64 k3), (w.heap.size + 2, 1, .int .i64 n3), (w.heap.size + 2, 2, .slice A3 f3.len C3)]) (by assumption); rintro e wc3 ⟨Zc3, rfl, Ic3, hb3⟩; first | have U3 := U2.resS Ic3 hb3 | have U3 := (U2.boxed #[.int .i64 0, .int .i64 0, .slice none 0 0] 31).resS Ic3 hb3) | (go_at_call 14; refine (KG2.out _ _ _ _ ?_ ?_ ?_ ).mono ?_; (first | exact U3.tl.tl.lieS | exact ((U3.boxed #[.int .i64 0, .int .i64 0, .slice none 0 0] 31).tl.tl).lieS); (first | exact U3.tl.i1 | exact ((U3.boxed #[.int .i64 0, .int .i64 0, .slice none 0 0] 31).tl).i1); (first | exact U3.lieS | exact ((U3.boxed #[.int .i64 0, .int .i64 0, .slice none 0 0] 31)).lieS); rintro e wr ⟨Zr, Cr, rfl, Ir, hbr⟩; (first | have UR := (U3.resS Ir hbr).skip.skip.skip | have UR := ((U3.boxed #[.int .i64 0, .int .i64 0, .slice none 0 0] 31).resS Ir hbr).skip.skip.skip); (try simp only [World.size_alloc] at UR); (first | (obtain ⟨c0, c1, c2, g0, g1, g2⟩ := UR.facts3) | skip)))
    all_goals (go_wp2_with fail; go_meet; first | exact ⟨_, _, _, _, _, rfl, rfl, UR.done3 _ _ _⟩ | exact ⟨_, _, _, _, _, rfl, rfl, (UR.boxed _ _).done3 _ _ _⟩ | exact ⟨_, _, _, _, _, rfl, rfl, (UR.boxed _ _).open3⟩)
  case rest =>
  obtain ⟨bq16, loq16, hiq16, Zq16, Cq16, rfl, rfl, T⟩ := hcut
  clear x0 x1 x2 x3 x4 x5 x6 x7 x8 x9 x10 x11 x12 x13 x14 x15 x16 x17 x18 x19 x20
  clear HR; have HR := Lib.hid T; clear T
  obtain ⟨x0, x1, x2, x3, x4, x5, x6, x7, x8, x9, x10, x11, x12, x13, x14, x15, x16, x17, x18, x19, x20, x21, x22, x23, _⟩ := HR.out.st
  go_wp2_with fail
  refine (KQ.out _ _ _ _ _ (HR.out.lieS) (HR.out.tl.tl.lieL)).mono ?_
  rintro e wq17 ⟨rfl, hb⟩
  have T := HR.out.below hb
  clear x0 x1 x2 x3 x4 x5 x6 x7 x8 x9 x10 x11 x12 x13 x14 x15 x16 x17 x18 x19 x20 x21 x22 x23
  clear HR hb; have HR := Lib.hid T; clear T
  obtain ⟨x0, x1, x2, x3, x4, x5, x6, x7, x8, x9, x10, x11, x12, x13, x14, x15, x16, x17, x18, x19, x20, x21, x22, x23, _⟩ := HR.out.st
  go_wp2_with fail
  refine (KH.out _ _ _ (HR.out.tl.lieS)).mono ?_
  rintro e wh18 ⟨rfl, hb⟩
  have T := HR.out.below hb
  clear x0 x1 x2 x3 x4 x5 x6 x7 x8 x9 x10 x11 x12 x13 x14 x15 x16 x17 x18 x19 x20 x21 x22 x23
  clear HR hb; have HR := Lib.hid T; clear T
  obtain ⟨x0, x1, x2, x3, x4, x5, x6, x7, x8, x9, x10, x11, x12, x13, x14, x15, x16, x17, x18, x19, x20, x21, x22, x23, _⟩ := HR.out.st
  go_wp2_with fail
  go_ret
  exact ⟨rfl, HR.out.st.1⟩

end Go.Proofs.Ytlfafcbieeambaa
