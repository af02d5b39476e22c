/- The law FnExactPremiseExpr, walked, out of the contracts of both sides. -/
import Derived.Test.YtmblgkpgfofceaaEndE
import Derived.Test.YtmblgkpgfofceaaMarkE
import Derived.Test.YtmblgkpgfofceaaGenX
import Derived.Test.YtmblgkpgfofceaaSz
import Derived.Test.YtmblgkpgfofceaaTo
import Derived.Test.YtmblgkpgfofceaaEq
import Derived.Test.YtmblgkpgfofceaaPrXV
import Derived.Test.YtmblgkpgfofceaaPrS
import Derived.Test.YtmblgkpgfofceaaPrE
import Derived.Deep.RegionHeld3
import Derived.Deep.DrawnRows
import Derived.Deep.DeepCutAuto
namespace Go.Proofs.Ytmblgkpgfofceaa
open Go.RowKit
attribute [local go_sem ↓] Go.wp_at_zero Go.wp_at_succ

set_option maxHeartbeats 40000000 in
set_option maxRecDepth 100000 in
theorem lawPremiseExpr (t0 a0 : Int) (pm1 : Pm) (A1 B1 : Option Addr) (C1 D1 : Nat) {kR nR : Int} {fR : Fo} {q : Int}
    (HU : Hid (pm1.cnt ≤ 1048576 → fR.nodes ≤ 1048576))
    (KW : Hid (pm1.cnt ≤ 1048576 → ∀ (W : World) (Z1 Y1 : Option Addr), pm1.pf.Lies W Z1 → pm1.qf.Lies W Y1 → Calls Try.prog 20 #[.agg #[.int .i64 t0, .int .i64 a0], .agg #[.int .i64 pm1.pk, .int .i64 pm1.pn, .slice Z1 pm1.pf.len pm1.pf.len, .int .i64 pm1.act, .int .i64 pm1.qk, .int .i64 pm1.qn, .slice Y1 pm1.qf.len pm1.qf.len]] W (LEnd kR nR fR q W)))
    (KG : Hid (pm1.cnt ≤ 1048576 → ∀ (W : World) (Z1 Y1 : Option Addr), pm1.pf.Lies W Z1 → pm1.qf.Lies W Y1 → Calls Try.prog 22 #[.agg #[.int .i64 t0, .int .i64 a0], .agg #[.int .i64 pm1.pk, .int .i64 pm1.pn, .slice Z1 pm1.pf.len pm1.pf.len, .int .i64 pm1.act, .int .i64 pm1.qk, .int .i64 pm1.qn, .slice Y1 pm1.qf.len pm1.qf.len]] W (XEnd kR nR fR q W)))
    (w : World) (hm1 : Hid ((pm1.pf.len ≤ 9223372036854775807 ∧ pm1.pf.Fits) ∧ (pm1.qf.len ≤ 9223372036854775807 ∧ pm1.qf.Fits))) (hl1 : pm1.pf.Lies w A1) (hr1 : pm1.qf.Lies w B1) :
    Calls Try.prog 4 #[.agg #[.int .i64 t0, .int .i64 a0], .agg #[.int .i64 pm1.pk, .int .i64 pm1.pn, .slice A1 pm1.pf.len C1, .int .i64 pm1.act, .int .i64 pm1.qk, .int .i64 pm1.qn, .slice B1 pm1.qf.len D1]] w fun e w' => e = .returned (.bool true) ∧ Below w.heap.size w w' := by
  by_cases hbig1 : 1048576 < (pm1.cnt : Nat)
  · have hs : szR pm1.cnt 1048576 = -1 := szR_neg (by omega)
    have KS1 : Hid (∀ W : World, Sees w W → Calls Try.prog 19 #[.agg #[.int .i64 pm1.pk, .int .i64 pm1.pn, .slice A1 pm1.pf.len C1, .int .i64 pm1.act, .int .i64 pm1.qk, .int .i64 pm1.qn, .slice B1 pm1.qf.len D1], .int .i64 1048576] W fun e w' => e = .returned (.int .i64 (-1)) ∧ Below W.heap.size W w') := fun W h => by rw [← hs]; exact szPremise_any pm1 hm1.out 1048576 A1 B1 C1 D1 W (hl1.sees h) (hr1.sees h) (by omega) (by omega)
    clear hs
    go_enter Try.func4, Try.ntmps4
    go_wp2_with fail
    refine (KS1.out _ ?_).mono ?_
    · unfold Sees; go_grown
    rintro e wz0 ⟨rfl, hb⟩
    have T := St.below (w := w) (l := [(w.heap.size, 0, .int .i64 t0), (w.heap.size, 1, .int .i64 a0), (w.heap.size + 1, 0, .int .i64 pm1.pk), (w.heap.size + 1, 1, .int .i64 pm1.pn), (w.heap.size + 1, 2, .slice A1 pm1.pf.len C1), (w.heap.size + 1, 3, .int .i64 pm1.act), (w.heap.size + 1, 4, .int .i64 pm1.qk), (w.heap.size + 1, 5, .int .i64 pm1.qn), (w.heap.size + 1, 6, .slice B1 pm1.qf.len D1)]) ⟨(by unfold Sees; go_grown), (by simp [go_sem]), (by simp [go_sem]), (by simp [go_sem]), (by simp [go_sem]), (by simp [go_sem]), (by simp [go_sem]), (by simp [go_sem]), (by simp [go_sem]), (by simp [go_sem]), trivial⟩ hb
    have H := Lib.hid T; clear T hb
    obtain ⟨x0, x1, x2, x3, x4, x5, x6, x7, x8, x9, _⟩ := H.out
    go_wp2_with fail
    clear x0 x1 x2 x3 x4 x5 x6 x7 x8 x9
    go_ret
    exact ⟨rfl, H.out.1⟩
  obtain ⟨s1, hs, hz1, hy1, he1⟩ : ∃ s : Int, s = szR pm1.cnt 1048576 ∧ 0 ≤ s ∧ s ≤ 1048576 ∧ Hid (s = 1048576 - (pm1.cnt : Nat)) := ⟨_, rfl, by rw [szR_pos (by omega)]; omega, by rw [szR_pos (by omega)]; omega, by show _ = _; rw [szR_pos (by omega)]; try omega⟩
  have KS1 : Hid (∀ W : World, Sees w W → Calls Try.prog 19 #[.agg #[.int .i64 pm1.pk, .int .i64 pm1.pn, .slice A1 pm1.pf.len C1, .int .i64 pm1.act, .int .i64 pm1.qk, .int .i64 pm1.qn, .slice B1 pm1.qf.len D1], .int .i64 1048576] W fun e w' => e = .returned (.int .i64 s1) ∧ Below W.heap.size W w') := fun W h => by rw [hs]; exact szPremise_any pm1 hm1.out 1048576 A1 B1 C1 D1 W (hl1.sees h) (hr1.sees h) (by omega) (by omega)
  clear hs
  have hsmall : pm1.cnt ≤ 1048576 := by have := he1.out; omega
  have hu : Hid (fR.nodes ≤ 1048576) := HU.out hsmall
  clear HU
  have KT0 : Hid (∀ W : World, Sees w W → Calls Try.prog 11 #[.agg #[.int .i64 t0, .int .i64 a0]] W fun e w' => e = .returned (.agg #[.int .i64 t0, .int .i64 a0]) ∧ Below W.heap.size W w') := fun W h => toSig_any t0 a0 W
  have hcn1 : pm1.cnt = pm1.pf.nodes + pm1.qf.nodes := rfl
  have KT1 : Hid (∀ W : World, Sees w W → Calls Try.prog 21 #[.agg #[.int .i64 pm1.pk, .int .i64 pm1.pn, .slice A1 pm1.pf.len C1, .int .i64 pm1.act, .int .i64 pm1.qk, .int .i64 pm1.qn, .slice B1 pm1.qf.len D1]] W fun e w' => ∃ Z Y, e = .returned (.agg #[.int .i64 pm1.pk, .int .i64 pm1.pn, .slice Z pm1.pf.len pm1.pf.len, .int .i64 pm1.act, .int .i64 pm1.qk, .int .i64 pm1.qn, .slice Y pm1.qf.len pm1.qf.len]) ∧ PmO w' pm1 W.heap.size w'.heap.size Z Y ∧ Below W.heap.size W w') :=
    fun W h => (toPremise_own pm1.pk pm1.pn pm1.act pm1.qk pm1.qn pm1.pf pm1.qf (by omega) A1 B1 C1 D1 W (hl1.sees h) (hr1.sees h)).mono fun e w' ⟨Z, Y, m, he, h1, h2, hb⟩ => ⟨Z, Y, he, ⟨m, h1, h2⟩, hb⟩
  have KE1 : Hid (∀ (W : World) (Z Y Z' Y' : Option Addr), pm1.pf.Lies W Z → pm1.qf.Lies W Y → pm1.pf.Lies W Z' → pm1.qf.Lies W Y' → Calls Try.prog 24 #[.agg #[.int .i64 pm1.pk, .int .i64 pm1.pn, .slice Z pm1.pf.len pm1.pf.len, .int .i64 pm1.act, .int .i64 pm1.qk, .int .i64 pm1.qn, .slice Y pm1.qf.len pm1.qf.len], .agg #[.int .i64 pm1.pk, .int .i64 pm1.pn, .slice Z' pm1.pf.len pm1.pf.len, .int .i64 pm1.act, .int .i64 pm1.qk, .int .i64 pm1.qn, .slice Y' pm1.qf.len pm1.qf.len]] W fun e w' => e = .returned (.bool true) ∧ Below W.heap.size W w') :=
    fun W Z Y Z' Y' h1 h2 h3 h4 => eqPremise_same pm1 hm1.out _ _ _ _ _ _ _ _ W h1 h2 h3 h4
  obtain ⟨y1, hk, kl1, ku1, kn1⟩ : ∃ y : Int, y = 1 + (2 * (pm1.pf.nodes : Int) + 2 * (pm1.qf.nodes : Int)) ∧ 0 ≤ y ∧ y ≤ 4194304 ∧ Hid (y = 1 + (2 * (pm1.pf.nodes : Int) + 2 * (pm1.qf.nodes : Int))) := ⟨_, rfl, by omega, by omega, rfl⟩
  have KM1 : Hid (∀ (W : World) (lo hi : Nat) (Z Y : Option Addr), PmO W pm1 lo hi Z Y → hi ≤ W.heap.size → Calls Try.prog 25 #[.agg #[.int .i64 pm1.pk, .int .i64 pm1.pn, .slice Z pm1.pf.len pm1.pf.len, .int .i64 pm1.act, .int .i64 pm1.qk, .int .i64 pm1.qn, .slice Y pm1.qf.len pm1.qf.len], .int .i64 1] W fun e w' => e = .returned (.int .i64 y1) ∧ ButIn lo hi W w') :=
    fun W lo hi Z Y h hz => (markPremise_any pm1 (by omega) 1 (by omega) (by omega) lo hi Z Y _ _ W h hz).mono fun e w' ⟨he, hb⟩ => ⟨by rw [hk]; exact he, hb⟩
  clear hk
  have tk : decide (y1 < 0) = false := decide_eq_false (by omega)
  have hfit := Fo.fits_small hu.out
  obtain ⟨mm, hmm, ml⟩ : ∃ m : Int, m = 1 + 2 * (fR.nodes : Int) ∧ 0 ≤ m := ⟨_, rfl, by omega⟩
  have KU : Hid (∀ (W : World) (lo hi : Nat) (Z : Option Addr) (C : Nat), fR.XIn W lo hi Z → hi ≤ W.heap.size → Calls Try.prog 26 #[.agg #[.int .i64 kR, .int .i64 nR, .slice Z fR.len C], .int .i64 1] W fun e w' => e = .returned (.int .i64 mm) ∧ (fR.mark 1).XIn w' lo hi Z ∧ ButIn lo hi W w') :=
    fun W lo hi Z C h hz => (markExpr_any fR hu.out 1 (by omega) (by omega) kR nR lo hi Z C W h hz).mono fun e w' ⟨he, hi, hb⟩ => ⟨by rw [hmm]; exact he, hi, hb⟩
  have KH : Hid (∀ (W : World) (Z : Option Addr) (C : Nat), (fR.mark 1).Lies W Z → Calls Try.prog 27 #[.agg #[.int .i64 kR, .int .i64 nR, .slice Z fR.len C], .int .i64 1] W fun e w' => e = .returned (.int .i64 mm) ∧ Below W.heap.size W w') :=
    fun W Z C h => (heldExpr_any fR hu.out 1 (by omega) (by omega) kR nR Z C W h).mono fun e w' ⟨he, hb⟩ => ⟨by rw [hmm]; exact he, hb⟩
  have KQ : Hid (∀ (W : World) (Z Z' : Option Addr) (C C' : Nat), fR.Lies W Z → fR.Lies W Z' → Calls Try.prog 23 #[.agg #[.int .i64 kR, .int .i64 nR, .slice Z fR.len C], .agg #[.int .i64 kR, .int .i64 nR, .slice Z' fR.len C']] W fun e w' => e = .returned (.bool true) ∧ Below W.heap.size W w') :=
    fun W Z Z' C C' h1 h2 => eqExpr_same fR hfit.1 hfit.2 kR nR _ _ _ _ W h1 h2
  have tm : decide (mm < 0) = false := decide_eq_false (by omega)
  have nq : (q != q) = false := by simp
  have nm : (mm != mm) = false := by simp
  have KW2 := Lib.hid (KW.out hsmall); clear KW
  have KG2 := Lib.hid (KG.out hsmall); clear KG hsmall hmm hfit
  go_enter Try.func4, Try.ntmps4
  go_wp2_with fail
  refine (KS1.out _ ?_).mono ?_
  · unfold Sees; go_grown
  rintro e wz0 ⟨rfl, hb⟩
  have T := St.below (w := w) (l := [(w.heap.size, 0, .int .i64 t0), (w.heap.size, 1, .int .i64 a0), (w.heap.size + 1, 0, .int .i64 pm1.pk), (w.heap.size + 1, 1, .int .i64 pm1.pn), (w.heap.size + 1, 2, .slice A1 pm1.pf.len C1), (w.heap.size + 1, 3, .int .i64 pm1.act), (w.heap.size + 1, 4, .int .i64 pm1.qk), (w.heap.size + 1, 5, .int .i64 pm1.qn), (w.heap.size + 1, 6, .slice B1 pm1.qf.len D1)]) ⟨(by unfold Sees; go_grown), (by simp [go_sem]), (by simp [go_sem]), (by simp [go_sem]), (by simp [go_sem]), (by simp [go_sem]), (by simp [go_sem]), (by simp [go_sem]), (by simp [go_sem]), (by simp [go_sem]), trivial⟩ hb
  have H := Lib.hid T; clear T hb
  obtain ⟨x0, x1, x2, x3, x4, x5, x6, x7, x8, x9, _⟩ := H.out
  go_wp2_with fail
  clear x0 x1 x2 x3 x4 x5 x6 x7 x8 x9
  have HR := Lib.hid (Gs.start H.out); clear H
  obtain ⟨x0, x1, x2, x3, x4, x5, x6, x7, x8, x9, _⟩ := HR.out.st
  go_wp2_with fail
  go_cut [6, 7] (fun sp sc wx => ∃ (bq1 loq1 hiq1 : Nat) (Zq1 : Option Addr) (Cq1 : Nat), sp = .pointer (some ⟨bq1, 0, none⟩) ∧ sc = .int .i64 q ∧ Gs w [(bq1, 0, .int .i64 kR), (bq1, 1, .int .i64 nR), (bq1, 2, .slice Zq1 fR.len Cq1), (w.heap.size, 0, .int .i64 t0), (w.heap.size, 1, .int .i64 a0), (w.heap.size + 1, 0, .int .i64 pm1.pk), (w.heap.size + 1, 1, .int .i64 pm1.pn), (w.heap.size + 1, 2, .slice A1 pm1.pf.len C1), (w.heap.size + 1, 3, .int .i64 pm1.act), (w.heap.size + 1, 4, .int .i64 pm1.qk), (w.heap.size + 1, 5, .int .i64 pm1.qn), (w.heap.size + 1, 6, .slice B1 pm1.qf.len D1)] (ownL fR loq1 hiq1 Zq1 :: []) wx)
  case first =>
    go_region_held3 (fun w' => Sees w w' ∧ w'.cell? ⟨w.heap.size, 0, none⟩ = some (.int .i64 t0) ∧ w'.cell? ⟨w.heap.size, 1, none⟩ = some (.int .i64 a0) ∧ w'.cell? ⟨w.heap.size + 1, 0, none⟩ = some (.int .i64 pm1.pk) ∧ w'.cell? ⟨w.heap.size + 1, 1, none⟩ = some (.int .i64 pm1.pn) ∧ w'.cell? ⟨w.heap.size + 1, 2, none⟩ = some (.slice A1 pm1.pf.len C1) ∧ w'.cell? ⟨w.heap.size + 1, 3, none⟩ = some (.int .i64 pm1.act) ∧ w'.cell? ⟨w.heap.size + 1, 4, none⟩ = some (.int .i64 pm1.qk) ∧ w'.cell? ⟨w.heap.size + 1, 5, none⟩ = some (.int .i64 pm1.qn) ∧ w'.cell? ⟨w.heap.size + 1, 6, none⟩ = some (.slice B1 pm1.qf.len D1) ∧ True)
      (first | exact HR.out.drew.st | exact UR.st | exact U1.st | exact U0.st | exact (UR.boxed _ _).st | exact (U1.boxed _ _).st | exact (U0.boxed _ _).st | exact (HR.out.drew.boxed _ _).st | exact (UR.fill3 _ _ _).st | exact ((UR.boxed _ _).fill3 _ _ _).st | (go_keep; done))
      (first | (go_at_call 11; (with_reducible refine (KT0.out _ ?_).mono ?_); exact St.sees (l := [(w.heap.size, 0, .int .i64 t0), (w.heap.size, 1, .int .i64 a0), (w.heap.size + 1, 0, .int .i64 pm1.pk), (w.heap.size + 1, 1, .int .i64 pm1.pn), (w.heap.size + 1, 2, .slice A1 pm1.pf.len C1), (w.heap.size + 1, 3, .int .i64 pm1.act), (w.heap.size + 1, 4, .int .i64 pm1.qk), (w.heap.size + 1, 5, .int .i64 pm1.qn), (w.heap.size + 1, 6, .slice B1 pm1.qf.len D1)]) (by assumption); rintro e wc0 ⟨rfl, hb0⟩; first | have U0 := HR.out.drew.below hb0 | have U0 := (HR.out.boxedD #[.int .i64 0, .int .i64 0, .slice none 0 0] 46).below hb0) | (go_at_call_of 21 (Value.agg #[.int .i64 pm1.pk, .int .i64 pm1.pn, .slice A1 pm1.pf.len C1, .int .i64 pm1.act, .int .i64 pm1.qk, .int .i64 pm1.qn, .slice B1 pm1.qf.len D1]); (with_reducible refine (KT1.out _ ?_).mono ?_); exact St.sees (l := [(w.heap.size, 0, .int .i64 t0), (w.heap.size, 1, .int .i64 a0), (w.heap.size + 1, 0, .int .i64 pm1.pk), (w.heap.size + 1, 1, .int .i64 pm1.pn), (w.heap.size + 1, 2, .slice A1 pm1.pf.len C1), (w.heap.size + 1, 3, .int .i64 pm1.act), (w.heap.size + 1, 4, .int .i64 pm1.qk), (w.heap.size + 1, 5, .int .i64 pm1.qn), (w.heap.size + 1, 6, .slice B1 pm1.qf.len D1)]) (by assumption); rintro e wc1 ⟨Zc1, Yc1, rfl, Ic1, hb1⟩; first | have U1 := U0.resX Ic1 hb1 | have U1 := (U0.boxed #[.int .i64 0, .int .i64 0, .slice none 0 0] 46).resX Ic1 hb1) | (go_at_call 20; refine (KW2.out _ _ _ ?_ ?_ ).mono ?_; (first | exact U1.x1 | exact ((U1.boxed #[.int .i64 0, .int .i64 0, .slice none 0 0] 46)).x1); (first | exact U1.x2 | exact ((U1.boxed #[.int .i64 0, .int .i64 0, .slice none 0 0] 46)).x2); rintro e wr ⟨Zr, Cr, rfl, Ir, hbr⟩; (first | have UR := (U1.resL Ir hbr).skip | have UR := ((U1.boxed #[.int .i64 0, .int .i64 0, .slice none 0 0] 46).resL Ir hbr).skip); (try simp only [World.size_alloc] at UR); (first | (obtain ⟨c0, c1, c2, g0, g1, g2⟩ := UR.facts3) | skip)))
    all_goals (go_wp2_with fail; go_meet; first | exact ⟨_, _, _, _, _, rfl, rfl, UR.done3 _ _ _⟩ | exact ⟨_, _, _, _, _, rfl, rfl, (UR.boxed _ _).done3 _ _ _⟩ | exact ⟨_, _, _, _, _, rfl, rfl, (UR.boxed _ _).open3⟩)
  case rest =>
  obtain ⟨bq1, loq1, hiq1, Zq1, Cq1, rfl, rfl, T⟩ := hcut
  clear x0 x1 x2 x3 x4 x5 x6 x7 x8 x9
  clear HR; have HR := Lib.hid T; clear T
  obtain ⟨x0, x1, x2, x3, x4, x5, x6, x7, x8, x9, x10, x11, x12, _⟩ := HR.out.st
  go_wp2_with fail
  refine (KT1.out _ x0).mono ?_
  rintro e wd1 ⟨Zd1, Yd1, rfl, Id1, hbd⟩
  have T := ((HR.out.resX Id1 hbd).boxed #[.int .i64 pm1.pk, .int .i64 pm1.pn, .slice Zd1 pm1.pf.len pm1.pf.len, .int .i64 pm1.act, .int .i64 pm1.qk, .int .i64 pm1.qn, .slice Yd1 pm1.qf.len pm1.qf.len] 50).open7
  clear x0 x1 x2 x3 x4 x5 x6 x7 x8 x9 x10 x11 x12
  have HR' : Hid (∃ lo hi, Gs w [(wd1.heap.size, 0, .int .i64 pm1.pk), (wd1.heap.size, 1, .int .i64 pm1.pn), (wd1.heap.size, 2, .slice Zd1 pm1.pf.len pm1.pf.len), (wd1.heap.size, 3, .int .i64 pm1.act), (wd1.heap.size, 4, .int .i64 pm1.qk), (wd1.heap.size, 5, .int .i64 pm1.qn), (wd1.heap.size, 6, .slice Yd1 pm1.qf.len pm1.qf.len), (bq1, 0, .int .i64 kR), (bq1, 1, .int .i64 nR), (bq1, 2, .slice Zq1 fR.len Cq1), (w.heap.size, 0, .int .i64 t0), (w.heap.size, 1, .int .i64 a0), (w.heap.size + 1, 0, .int .i64 pm1.pk), (w.heap.size + 1, 1, .int .i64 pm1.pn), (w.heap.size + 1, 2, .slice A1 pm1.pf.len C1), (w.heap.size + 1, 3, .int .i64 pm1.act), (w.heap.size + 1, 4, .int .i64 pm1.qk), (w.heap.size + 1, 5, .int .i64 pm1.qn), (w.heap.size + 1, 6, .slice B1 pm1.qf.len D1)] (ownX pm1 lo hi Zd1 Yd1 :: [ownL fR loq1 hiq1 Zq1]) _) := ⟨_, _, T⟩
  obtain ⟨lod1, hid1, T2⟩ := HR'.out
  clear HR HR' T Id1 hbd; have HR := Lib.hid T2; clear T2
  obtain ⟨x0, x1, x2, x3, x4, x5, x6, x7, x8, x9, x10, x11, x12, x13, x14, x15, x16, x17, x18, x19, _⟩ := HR.out.st
  go_wp2_with fail
  go_cut [9, 10] (fun sp sc wx => ∃ (bq3 loq3 hiq3 : Nat) (Zq3 : Option Addr) (Cq3 : Nat), sp = .pointer (some ⟨bq3, 0, none⟩) ∧ sc = .int .i64 q ∧ Gs w [(bq3, 0, .int .i64 kR), (bq3, 1, .int .i64 nR), (bq3, 2, .slice Zq3 fR.len Cq3), (wd1.heap.size, 0, .int .i64 pm1.pk), (wd1.heap.size, 1, .int .i64 pm1.pn), (wd1.heap.size, 2, .slice Zd1 pm1.pf.len pm1.pf.len), (wd1.heap.size, 3, .int .i64 pm1.act), (wd1.heap.size, 4, .int .i64 pm1.qk), (wd1.heap.size, 5, .int .i64 pm1.qn), (wd1.heap.size, 6, .slice Yd1 pm1.qf.len pm1.qf.len), (bq1, 0, .int .i64 kR), (bq1, 1, .int .i64 nR), (bq1, 2, .slice Zq1 fR.len Cq1), (w.heap.size, 0, .int .i64 t0), (w.heap.size, 1, .int .i64 a0), (w.heap.size + 1, 0, .int .i64 pm1.pk), (w.heap.size + 1, 1, .int .i64 pm1.pn), (w.heap.size + 1, 2, .slice A1 pm1.pf.len C1), (w.heap.size + 1, 3, .int .i64 pm1.act), (w.heap.size + 1, 4, .int .i64 pm1.qk), (w.heap.size + 1, 5, .int .i64 pm1.qn), (w.heap.size + 1, 6, .slice B1 pm1.qf.len D1)] (ownS fR loq3 hiq3 Zq3 :: [ownX pm1 lod1 hid1 Zd1 Yd1, ownL fR loq1 hiq1 Zq1]) wx)
  case first =>
    go_region_held3 (fun w' => Sees w w' ∧ w'.cell? ⟨wd1.heap.size, 0, none⟩ = some (.int .i64 pm1.pk) ∧ w'.cell? ⟨wd1.heap.size, 1, none⟩ = some (.int .i64 pm1.pn) ∧ w'.cell? ⟨wd1.heap.size, 2, none⟩ = some (.slice Zd1 pm1.pf.len pm1.pf.len) ∧ w'.cell? ⟨wd1.heap.size, 3, none⟩ = some (.int .i64 pm1.act) ∧ w'.cell? ⟨wd1.heap.size, 4, none⟩ = some (.int .i64 pm1.qk) ∧ w'.cell? ⟨wd1.heap.size, 5, none⟩ = some (.int .i64 pm1.qn) ∧ w'.cell? ⟨wd1.heap.size, 6, none⟩ = some (.slice Yd1 pm1.qf.len pm1.qf.len) ∧ w'.cell? ⟨bq1, 0, none⟩ = some (.int .i64 kR) ∧ w'.cell? ⟨bq1, 1, none⟩ = some (.int .i64 nR) ∧ w'.cell? ⟨bq1, 2, none⟩ = some (.slice Zq1 fR.len Cq1) ∧ w'.cell? ⟨w.heap.size, 0, none⟩ = some (.int .i64 t0) ∧ w'.cell? ⟨w.heap.size, 1, none⟩ = some (.int .i64 a0) ∧ w'.cell? ⟨w.heap.size + 1, 0, none⟩ = some (.int .i64 pm1.pk) ∧ w'.cell? ⟨w.heap.size + 1, 1, none⟩ = some (.int .i64 pm1.pn) ∧ w'.cell? ⟨w.heap.size + 1, 2, none⟩ = some (.slice A1 pm1.pf.len C1) ∧ w'.cell? ⟨w.heap.size + 1, 3, none⟩ = some (.int .i64 pm1.act) ∧ w'.cell? ⟨w.heap.size + 1, 4, none⟩ = some (.int .i64 pm1.qk) ∧ w'.cell? ⟨w.heap.size + 1, 5, none⟩ = some (.int .i64 pm1.qn) ∧ w'.cell? ⟨w.heap.size + 1, 6, none⟩ = some (.slice B1 pm1.qf.len D1) ∧ True)
      (first | exact HR.out.drew.st | exact UR.st | exact U0.st | exact (UR.boxed _ _).st | exact (U0.boxed _ _).st | exact (HR.out.drew.boxed _ _).st | exact (UR.fill3 _ _ _).st | exact ((UR.boxed _ _).fill3 _ _ _).st | (go_keep; done))
      (first | (go_at_call 11; (with_reducible refine (KT0.out _ ?_).mono ?_); exact St.sees (l := [(wd1.heap.size, 0, .int .i64 pm1.pk), (wd1.heap.size, 1, .int .i64 pm1.pn), (wd1.heap.size, 2, .slice Zd1 pm1.pf.len pm1.pf.len), (wd1.heap.size, 3, .int .i64 pm1.act), (wd1.heap.size, 4, .int .i64 pm1.qk), (wd1.heap.size, 5, .int .i64 pm1.qn), (wd1.heap.size, 6, .slice Yd1 pm1.qf.len pm1.qf.len), (bq1, 0, .int .i64 kR), (bq1, 1, .int .i64 nR), (bq1, 2, .slice Zq1 fR.len Cq1), (w.heap.size, 0, .int .i64 t0), (w.heap.size, 1, .int .i64 a0), (w.heap.size + 1, 0, .int .i64 pm1.pk), (w.heap.size + 1, 1, .int .i64 pm1.pn), (w.heap.size + 1, 2, .slice A1 pm1.pf.len C1), (w.heap.size + 1, 3, .int .i64 pm1.act), (w.heap.size + 1, 4, .int .i64 pm1.qk), (w.heap.size + 1, 5, .int .i64 pm1.qn), (w.heap.size + 1, 6, .slice B1 pm1.qf.len D1)]) (by assumption); rintro e wc0 ⟨rfl, hb0⟩; first | have U0 := HR.out.drew.below hb0 | have U0 := (HR.out.boxedD #[.int .i64 0, .int .i64 0, .slice none 0 0] 46).below hb0) | (go_at_call 22; refine (KG2.out _ _ _ ?_ ?_ ).mono ?_; (first | exact U0.x1 | exact ((U0.boxed #[.int .i64 0, .int .i64 0, .slice none 0 0] 46)).x1); (first | exact U0.x2 | exact ((U0.boxed #[.int .i64 0, .int .i64 0, .slice none 0 0] 46)).x2); rintro e wr ⟨Zr, Cr, rfl, Ir, hbr⟩; (first | have UR := (U0.resS Ir hbr) | have UR := ((U0.boxed #[.int .i64 0, .int .i64 0, .slice none 0 0] 46).resS Ir hbr)); (try simp only [World.size_alloc] at UR); (first | (obtain ⟨c0, c1, c2, g0, g1, g2⟩ := UR.facts3) | skip)))
    all_goals (go_wp2_with fail; go_meet; first | exact ⟨_, _, _, _, _, rfl, rfl, UR.done3 _ _ _⟩ | exact ⟨_, _, _, _, _, rfl, rfl, (UR.boxed _ _).done3 _ _ _⟩ | exact ⟨_, _, _, _, _, rfl, rfl, (UR.boxed _ _).open3⟩)
  case rest =>
  obtain ⟨bq3, loq3, hiq3, Zq3, Cq3, rfl, rfl, T⟩ := hcut
  clear x0 x1 x2 x3 x4 x5 x6 x7 x8 x9 x10 x11 x12 x13 x14 x15 x16 x17 x18 x19
  clear HR; have HR := Lib.hid T; clear T
  obtain ⟨x0, x1, x2, x3, x4, x5, x6, x7, x8, x9, x10, x11, x12, x13, x14, x15, x16, x17, x18, x19, x20, x21, x22, _⟩ := HR.out.st
  go_wp2_with fail
  refine (KQ.out _ _ _ _ _ (HR.out.lieS) (HR.out.tl.tl.lieL)).mono ?_
  rintro e wq4 ⟨rfl, hb⟩
  have T := HR.out.below hb
  clear x0 x1 x2 x3 x4 x5 x6 x7 x8 x9 x10 x11 x12 x13 x14 x15 x16 x17 x18 x19 x20 x21 x22
  clear HR hb; have HR := Lib.hid T; clear T
  obtain ⟨x0, x1, x2, x3, x4, x5, x6, x7, x8, x9, x10, x11, x12, x13, x14, x15, x16, x17, x18, x19, x20, x21, x22, _⟩ := HR.out.st
  go_wp2_with fail
  go_region_held3 (fun w' => Sees w w' ∧ w'.cell? ⟨bq3, 0, none⟩ = some (.int .i64 kR) ∧ w'.cell? ⟨bq3, 1, none⟩ = some (.int .i64 nR) ∧ w'.cell? ⟨bq3, 2, none⟩ = some (.slice Zq3 fR.len Cq3) ∧ w'.cell? ⟨wd1.heap.size, 0, none⟩ = some (.int .i64 pm1.pk) ∧ w'.cell? ⟨wd1.heap.size, 1, none⟩ = some (.int .i64 pm1.pn) ∧ w'.cell? ⟨wd1.heap.size, 2, none⟩ = some (.slice Zd1 pm1.pf.len pm1.pf.len) ∧ w'.cell? ⟨wd1.heap.size, 3, none⟩ = some (.int .i64 pm1.act) ∧ w'.cell? ⟨wd1.heap.size, 4, none⟩ = some (.int .i64 pm1.qk) ∧ w'.cell? ⟨wd1.heap.size, 5, none⟩ = some (.int .i64 pm1.qn) ∧ w'.cell? ⟨wd1.heap.size, 6, none⟩ = some (.slice Yd1 pm1.qf.len pm1.qf.len) ∧ w'.cell? ⟨bq1, 0, none⟩ = some (.int .i64 kR) ∧ w'.cell? ⟨bq1, 1, none⟩ = some (.int .i64 nR) ∧ w'.cell? ⟨bq1, 2, none⟩ = some (.slice Zq1 fR.len Cq1) ∧ w'.cell? ⟨w.heap.size, 0, none⟩ = some (.int .i64 t0) ∧ w'.cell? ⟨w.heap.size, 1, none⟩ = some (.int .i64 a0) ∧ w'.cell? ⟨w.heap.size + 1, 0, none⟩ = some (.int .i64 pm1.pk) ∧ w'.cell? ⟨w.heap.size + 1, 1, none⟩ = some (.int .i64 pm1.pn) ∧ w'.cell? ⟨w.heap.size + 1, 2, none⟩ = some (.slice A1 pm1.pf.len C1) ∧ w'.cell? ⟨w.heap.size + 1, 3, none⟩ = some (.int .i64 pm1.act) ∧ w'.cell? ⟨w.heap.size + 1, 4, none⟩ = some (.int .i64 pm1.qk) ∧ w'.cell? ⟨w.heap.size + 1, 5, none⟩ = some (.int .i64 pm1.qn) ∧ w'.cell? ⟨w.heap.size + 1, 6, none⟩ = some (.slice B1 pm1.qf.len D1) ∧ True)
    (first | exact HR.out.drew.st | exact UE5.st | exact UT5.st | (go_keep; done))
    (first | (go_at_call 21; (with_reducible refine (KT1.out _ ?_).mono ?_); exact St.sees (l := [(bq3, 0, .int .i64 kR), (bq3, 1, .int .i64 nR), (bq3, 2, .slice Zq3 fR.len Cq3), (wd1.heap.size, 0, .int .i64 pm1.pk), (wd1.heap.size, 1, .int .i64 pm1.pn), (wd1.heap.size, 2, .slice Zd1 pm1.pf.len pm1.pf.len), (wd1.heap.size, 3, .int .i64 pm1.act), (wd1.heap.size, 4, .int .i64 pm1.qk), (wd1.heap.size, 5, .int .i64 pm1.qn), (wd1.heap.size, 6, .slice Yd1 pm1.qf.len pm1.qf.len), (bq1, 0, .int .i64 kR), (bq1, 1, .int .i64 nR), (bq1, 2, .slice Zq1 fR.len Cq1), (w.heap.size, 0, .int .i64 t0), (w.heap.size, 1, .int .i64 a0), (w.heap.size + 1, 0, .int .i64 pm1.pk), (w.heap.size + 1, 1, .int .i64 pm1.pn), (w.heap.size + 1, 2, .slice A1 pm1.pf.len C1), (w.heap.size + 1, 3, .int .i64 pm1.act), (w.heap.size + 1, 4, .int .i64 pm1.qk), (w.heap.size + 1, 5, .int .i64 pm1.qn), (w.heap.size + 1, 6, .slice B1 pm1.qf.len D1)]) (by assumption); rintro e wt5 ⟨Zt5, Yt5, rfl, It5, hbt5⟩; have UT5 := HR.out.drew.resX It5 hbt5) | (go_at_call 24; refine (KE1.out _ _ _ _ _ UT5.tl.tl.x1 UT5.tl.tl.x2 UT5.x1 UT5.x2).mono ?_; rintro e we5 ⟨rfl, hbe5⟩; have UE5 := (UT5.below hbe5).tl))
  clear x0 x1 x2 x3 x4 x5 x6 x7 x8 x9 x10 x11 x12 x13 x14 x15 x16 x17 x18 x19 x20 x21 x22
  clear HR; have HR := Lib.hid UE5; clear UE5 UT5 It5 hbt5 hbe5
  obtain ⟨x0, x1, x2, x3, x4, x5, x6, x7, x8, x9, x10, x11, x12, x13, x14, x15, x16, x17, x18, x19, x20, x21, x22, _⟩ := HR.out.st
  go_wp2_with fail
  refine (KM1.out _ _ _ _ _ HR.out.tl.hd HR.out.tl.top).mono ?_
  rintro e wm6 ⟨rfl, hb⟩
  have T := Gs.mark (O1 := [ownS fR loq3 hiq3 Zq3]) (O2 := [ownL fR loq1 hiq1 Zq1]) HR.out hb
  clear x0 x1 x2 x3 x4 x5 x6 x7 x8 x9 x10 x11 x12 x13 x14 x15 x16 x17 x18 x19 x20 x21 x22
  clear HR hb; have HR := Lib.hid T; clear T
  have HR2 : Hid (Gs w [(bq3, 0, .int .i64 kR), (bq3, 1, .int .i64 nR), (bq3, 2, .slice Zq3 fR.len Cq3), (wd1.heap.size, 0, .int .i64 pm1.pk), (wd1.heap.size, 1, .int .i64 pm1.pn), (wd1.heap.size, 2, .slice Zd1 pm1.pf.len pm1.pf.len), (wd1.heap.size, 3, .int .i64 pm1.act), (wd1.heap.size, 4, .int .i64 pm1.qk), (wd1.heap.size, 5, .int .i64 pm1.qn), (wd1.heap.size, 6, .slice Yd1 pm1.qf.len pm1.qf.len), (bq1, 0, .int .i64 kR), (bq1, 1, .int .i64 nR), (bq1, 2, .slice Zq1 fR.len Cq1), (w.heap.size, 0, .int .i64 t0), (w.heap.size, 1, .int .i64 a0), (w.heap.size + 1, 0, .int .i64 pm1.pk), (w.heap.size + 1, 1, .int .i64 pm1.pn), (w.heap.size + 1, 2, .slice A1 pm1.pf.len C1), (w.heap.size + 1, 3, .int .i64 pm1.act), (w.heap.size + 1, 4, .int .i64 pm1.qk), (w.heap.size + 1, 5, .int .i64 pm1.qn), (w.heap.size + 1, 6, .slice B1 pm1.qf.len D1)] [ownS fR loq3 hiq3 Zq3, ownL fR loq1 hiq1 Zq1] wm6) := HR.out
  clear HR; have HR := HR2; clear HR2
  obtain ⟨x0, x1, x2, x3, x4, x5, x6, x7, x8, x9, x10, x11, x12, x13, x14, x15, x16, x17, x18, x19, x20, x21, x22, _⟩ := HR.out.st
  go_wp2_with fail
  refine (KQ.out _ _ _ _ _ (HR.out.lieS) (HR.out.tl.lieL)).mono ?_
  rintro e wq7 ⟨rfl, hb⟩
  have T := HR.out.below hb
  clear x0 x1 x2 x3 x4 x5 x6 x7 x8 x9 x10 x11 x12 x13 x14 x15 x16 x17 x18 x19 x20 x21 x22
  clear HR hb; have HR := Lib.hid T; clear T
  obtain ⟨x0, x1, x2, x3, x4, x5, x6, x7, x8, x9, x10, x11, x12, x13, x14, x15, x16, x17, x18, x19, x20, x21, x22, _⟩ := HR.out.st
  go_wp2_with fail
  refine (KU.out _ _ _ _ _ HR.out.hd HR.out.top).mono ?_
  rintro e wm8 ⟨rfl, hw, hb⟩
  have T := HR.out.markedS hb hw
  clear x0 x1 x2 x3 x4 x5 x6 x7 x8 x9 x10 x11 x12 x13 x14 x15 x16 x17 x18 x19 x20 x21 x22
  clear HR hb hw; have HR := Lib.hid T; clear T
  obtain ⟨x0, x1, x2, x3, x4, x5, x6, x7, x8, x9, x10, x11, x12, x13, x14, x15, x16, x17, x18, x19, x20, x21, x22, _⟩ := HR.out.st
  go_wp2_with fail
  refine (KH.out _ _ _ (HR.out.lieS)).mono ?_
  rintro e wh9 ⟨rfl, hb⟩
  have T := HR.out.below hb
  clear x0 x1 x2 x3 x4 x5 x6 x7 x8 x9 x10 x11 x12 x13 x14 x15 x16 x17 x18 x19 x20 x21 x22
  clear HR hb; have HR := Lib.hid T; clear T
  obtain ⟨x0, x1, x2, x3, x4, x5, x6, x7, x8, x9, x10, x11, x12, x13, x14, x15, x16, x17, x18, x19, x20, x21, x22, _⟩ := HR.out.st
  go_wp2_with fail
  go_cut [14, 15] (fun sp sc wx => ∃ (bq10 loq10 hiq10 : Nat) (Zq10 : Option Addr) (Cq10 : Nat), sp = .pointer (some ⟨bq10, 0, none⟩) ∧ sc = .int .i64 q ∧ Gs w [(bq10, 0, .int .i64 kR), (bq10, 1, .int .i64 nR), (bq10, 2, .slice Zq10 fR.len Cq10), (bq3, 0, .int .i64 kR), (bq3, 1, .int .i64 nR), (bq3, 2, .slice Zq3 fR.len Cq3), (wd1.heap.size, 0, .int .i64 pm1.pk), (wd1.heap.size, 1, .int .i64 pm1.pn), (wd1.heap.size, 2, .slice Zd1 pm1.pf.len pm1.pf.len), (wd1.heap.size, 3, .int .i64 pm1.act), (wd1.heap.size, 4, .int .i64 pm1.qk), (wd1.heap.size, 5, .int .i64 pm1.qn), (wd1.heap.size, 6, .slice Yd1 pm1.qf.len pm1.qf.len), (bq1, 0, .int .i64 kR), (bq1, 1, .int .i64 nR), (bq1, 2, .slice Zq1 fR.len Cq1), (w.heap.size, 0, .int .i64 t0), (w.heap.size, 1, .int .i64 a0), (w.heap.size + 1, 0, .int .i64 pm1.pk), (w.heap.size + 1, 1, .int .i64 pm1.pn), (w.heap.size + 1, 2, .slice A1 pm1.pf.len C1), (w.heap.size + 1, 3, .int .i64 pm1.act), (w.heap.size + 1, 4, .int .i64 pm1.qk), (w.heap.size + 1, 5, .int .i64 pm1.qn), (w.heap.size + 1, 6, .slice B1 pm1.qf.len D1)] (ownS fR loq10 hiq10 Zq10 :: [ownS (fR.mark 1) loq3 hiq3 Zq3, ownL fR loq1 hiq1 Zq1]) wx)
  case first =>
    go_region_held3 (fun w' => Sees w w' ∧ w'.cell? ⟨bq3, 0, none⟩ = some (.int .i64 kR) ∧ w'.cell? ⟨bq3, 1, none⟩ = some (.int .i64 nR) ∧ w'.cell? ⟨bq3, 2, none⟩ = some (.slice Zq3 fR.len Cq3) ∧ w'.cell? ⟨wd1.heap.size, 0, none⟩ = some (.int .i64 pm1.pk) ∧ w'.cell? ⟨wd1.heap.size, 1, none⟩ = some (.int .i64 pm1.pn) ∧ w'.cell? ⟨wd1.heap.size, 2, none⟩ = some (.slice Zd1 pm1.pf.len pm1.pf.len) ∧ w'.cell? ⟨wd1.heap.size, 3, none⟩ = some (.int .i64 pm1.act) ∧ w'.cell? ⟨wd1.heap.size, 4, none⟩ = some (.int .i64 pm1.qk) ∧ w'.cell? ⟨wd1.heap.size, 5, none⟩ = some (.int .i64 pm1.qn) ∧ w'.cell? ⟨wd1.heap.size, 6, none⟩ = some (.slice Yd1 pm1.qf.len pm1.qf.len) ∧ w'.cell? ⟨bq1, 0, none⟩ = some (.int .i64 kR) ∧ w'.cell? ⟨bq1, 1, none⟩ = some (.int .i64 nR) ∧ w'.cell? ⟨bq1, 2, none⟩ = some (.slice Zq1 fR.len Cq1) ∧ w'.cell? ⟨w.heap.size, 0, none⟩ = some (.int .i64 t0) ∧ w'.cell? ⟨w.heap.size, 1, none⟩ = some (.int .i64 a0) ∧ w'.cell? ⟨w.heap.size + 1, 0, none⟩ = some (.int .i64 pm1.pk) ∧ w'.cell? ⟨w.heap.size + 1, 1, none⟩ = some (.int .i64 pm1.pn) ∧ w'.cell? ⟨w.heap.size + 1, 2, none⟩ = some (.slice A1 pm1.pf.len C1) ∧ w'.cell? ⟨w.heap.size + 1, 3, none⟩ = some (.int .i64 pm1.act) ∧ w'.cell? ⟨w.heap.size + 1, 4, none⟩ = some (.int .i64 pm1.qk) ∧ w'.cell? ⟨w.heap.size + 1, 5, none⟩ = some (.int .i64 pm1.qn) ∧ w'.cell? ⟨w.heap.size + 1, 6, none⟩ = some (.slice B1 pm1.qf.len D1) ∧ True)
      (first | exact HR.out.drew.st | exact UR.st | exact U1.st | exact U0.st | exact (UR.boxed _ _).st | exact (U1.boxed _ _).st | exact (U0.boxed _ _).st | exact (HR.out.drew.boxed _ _).st | exact (UR.fill3 _ _ _).st | exact ((UR.boxed _ _).fill3 _ _ _).st | (go_keep; done))
      (first | (go_at_call 11; (with_reducible refine (KT0.out _ ?_).mono ?_); exact St.sees (l := [(bq3, 0, .int .i64 kR), (bq3, 1, .int .i64 nR), (bq3, 2, .slice Zq3 fR.len Cq3), (wd1.heap.size, 0, .int .i64 pm1.pk), (wd1.heap.size, 1, .int .i64 pm1.pn), (wd1.heap.size, 2, .slice Zd1 pm1.pf.len pm1.pf.len), (wd1.heap.size, 3, .int .i64 pm1.act), (wd1.heap.size, 4, .int .i64 pm1.qk), (wd1.heap.size, 5, .int .i64 pm1.qn), (wd1.heap.size, 6, .slice Yd1 pm1.qf.len pm1.qf.len), (bq1, 0, .int .i64 kR), (bq1, 1, .int .i64 nR), (bq1, 2, .slice Zq1 fR.len Cq1), (w.heap.size, 0, .int .i64 t0), (w.heap.size, 1, .int .i64 a0), (w.heap.size + 1, 0, .int .i64 pm1.pk), (w.heap.size + 1, 1, .int .i64 pm1.pn), (w.heap.size + 1, 2, .slice A1 pm1.pf.len C1), (w.heap.size + 1, 3, .int .i64 pm1.act), (w.heap.size + 1, 4, .int .i64 pm1.qk), (w.heap.size + 1, 5, .int .i64 pm1.qn), (w.heap.size + 1, 6, .slice B1 pm1.qf.len D1)]) (by assumption); rintro e wc0 ⟨rfl, hb0⟩; first | have U0 := HR.out.drew.below hb0 | have U0 := (HR.out.boxedD #[.int .i64 0, .int .i64 0, .slice none 0 0] 46).below hb0) | (go_at_call_of 21 (Value.agg #[.int .i64 pm1.pk, .int .i64 pm1.pn, .slice A1 pm1.pf.len C1, .int .i64 pm1.act, .int .i64 pm1.qk, .int .i64 pm1.qn, .slice B1 pm1.qf.len D1]); (with_reducible refine (KT1.out _ ?_).mono ?_); exact St.sees (l := [(bq3, 0, .int .i64 kR), (bq3, 1, .int .i64 nR), (bq3, 2, .slice Zq3 fR.len Cq3), (wd1.heap.size, 0, .int .i64 pm1.pk), (wd1.heap.size, 1, .int .i64 pm1.pn), (wd1.heap.size, 2, .slice Zd1 pm1.pf.len pm1.pf.len), (wd1.heap.size, 3, .int .i64 pm1.act), (wd1.heap.size, 4, .int .i64 pm1.qk), (wd1.heap.size, 5, .int .i64 pm1.qn), (wd1.heap.size, 6, .slice Yd1 pm1.qf.len pm1.qf.len), (bq1, 0, .int .i64 kR), (bq1, 1, .int .i64 nR), (bq1, 2, .slice Zq1 fR.len Cq1), (w.heap.size, 0, .int .i64 t0), (w.heap.size, 1, .int .i64 a0), (w.heap.size + 1, 0, .int .i64 pm1.pk), (w.heap.size + 1, 1, .int .i64 pm1.pn), (w.heap.size + 1, 2, .slice A1 pm1.pf.len C1), (w.heap.size + 1, 3, .int .i64 pm1.act), (w.heap.size + 1, 4, .int .i64 pm1.qk), (w.heap.size + 1, 5, .int .i64 pm1.qn), (w.heap.size + 1, 6, .slice B1 pm1.qf.len D1)]) (by assumption); rintro e wc1 ⟨Zc1, Yc1, rfl, Ic1, hb1⟩; first | have U1 := U0.resX Ic1 hb1 | have U1 := (U0.boxed #[.int .i64 0, .int .i64 0, .slice none 0 0] 46).resX Ic1 hb1) | (go_at_call 22; refine (KG2.out _ _ _ ?_ ?_ ).mono ?_; (first | exact U1.x1 | exact ((U1.boxed #[.int .i64 0, .int .i64 0, .slice none 0 0] 46)).x1); (first | exact U1.x2 | exact ((U1.boxed #[.int .i64 0, .int .i64 0, .slice none 0 0] 46)).x2); rintro e wr ⟨Zr, Cr, rfl, Ir, hbr⟩; (first | have UR := (U1.resS Ir hbr).skip | have UR := ((U1.boxed #[.int .i64 0, .int .i64 0, .slice none 0 0] 46).resS Ir hbr).skip); (try simp only [World.size_alloc] at UR); (first | (obtain ⟨c0, c1, c2, g0, g1, g2⟩ := UR.facts3) | skip)))
    all_goals (go_wp2_with fail; go_meet; first | exact ⟨_, _, _, _, _, rfl, rfl, UR.done3 _ _ _⟩ | exact ⟨_, _, _, _, _, rfl, rfl, (UR.boxed _ _).done3 _ _ _⟩ | exact ⟨_, _, _, _, _, rfl, rfl, (UR.boxed _ _).open3⟩)
  case rest =>
  obtain ⟨bq10, loq10, hiq10, Zq10, Cq10, rfl, rfl, T⟩ := hcut
  clear x0 x1 x2 x3 x4 x5 x6 x7 x8 x9 x10 x11 x12 x13 x14 x15 x16 x17 x18 x19 x20 x21 x22
  clear HR; have HR := Lib.hid T; clear T
  obtain ⟨x0, x1, x2, x3, x4, x5, x6, x7, x8, x9, x10, x11, x12, x13, x14, x15, x16, x17, x18, x19, x20, x21, x22, x23, x24, x25, _⟩ := HR.out.st
  go_wp2_with fail
  refine (KQ.out _ _ _ _ _ (HR.out.lieS) (HR.out.tl.tl.lieL)).mono ?_
  rintro e wq11 ⟨rfl, hb⟩
  have T := HR.out.below hb
  clear x0 x1 x2 x3 x4 x5 x6 x7 x8 x9 x10 x11 x12 x13 x14 x15 x16 x17 x18 x19 x20 x21 x22 x23 x24 x25
  clear HR hb; have HR := Lib.hid T; clear T
  obtain ⟨x0, x1, x2, x3, x4, x5, x6, x7, x8, x9, x10, x11, x12, x13, x14, x15, x16, x17, x18, x19, x20, x21, x22, x23, x24, x25, _⟩ := HR.out.st
  go_wp2_with fail
  refine (KH.out _ _ _ (HR.out.tl.lieS)).mono ?_
  rintro e wh12 ⟨rfl, hb⟩
  have T := HR.out.below hb
  clear x0 x1 x2 x3 x4 x5 x6 x7 x8 x9 x10 x11 x12 x13 x14 x15 x16 x17 x18 x19 x20 x21 x22 x23 x24 x25
  clear HR hb; have HR := Lib.hid T; clear T
  obtain ⟨x0, x1, x2, x3, x4, x5, x6, x7, x8, x9, x10, x11, x12, x13, x14, x15, x16, x17, x18, x19, x20, x21, x22, x23, x24, x25, _⟩ := HR.out.st
  go_wp2_with fail
  go_ret
  exact ⟨rfl, HR.out.st.1⟩

end Go.Proofs.Ytmblgkpgfofceaa
