/- The law FnExactReverseWord, walked, out of the contracts of both sides. -/
import Derived.Test.YtcpeiajniblipaaRg
import Derived.Test.YtcpeiajniblipaaSz
import Derived.Test.YtcpeiajniblipaaTo
import Derived.Test.YtcpeiajniblipaaEq
import Derived.Deep.RegionHeld3
import Derived.Deep.DrawnRows
import Derived.Deep.DeepCutAuto
namespace Go.Proofs.Ytcpeiajniblipaa
open Go.RowKit
attribute [local go_sem ↓] Go.wp_at_zero Go.wp_at_succ

set_option maxHeartbeats 40000000 in
set_option maxRecDepth 100000 in
theorem lawReverseWord (t0 a0 : Int) (p1 r1 : List Int) (A1 B1 : Option Addr) (C1 D1 : Nat) {u v : List Int} {q : Int}
    (HU : Hid (p1.length + r1.length ≤ 1048576 → u.length ≤ 1048576 ∧ v.length ≤ 1048576))
    (KW : Hid (p1.length + r1.length ≤ 1048576 → ∀ (W : World) (Z1 Y1 : Option Addr), Ints W p1 Z1 → Ints W r1 Y1 → Calls Try.prog 30 #[.agg #[.int .i64 t0, .int .i64 a0], .agg #[.slice Z1 p1.length p1.length, .slice Y1 r1.length r1.length]] W (WordEnd u v q W)))
    (KG : Hid (p1.length + r1.length ≤ 1048576 → ∀ (W : World) (Z1 Y1 : Option Addr), Ints W p1 Z1 → Ints W r1 Y1 → Calls Try.prog 31 #[.agg #[.int .i64 t0, .int .i64 a0], .agg #[.slice Z1 p1.length p1.length, .slice Y1 r1.length r1.length]] W (WordEnd u v q W)))
    (w : World) (hm1 : Hid (p1.length ≤ 9223372036854775807 ∧ r1.length ≤ 9223372036854775807)) (hl1 : Ints w p1 A1) (hr1 : Ints w r1 B1) :
    Calls Try.prog 8 #[.agg #[.int .i64 t0, .int .i64 a0], .agg #[.slice A1 p1.length C1, .slice B1 r1.length D1]] w fun e w' => e = .returned (.bool true) ∧ Below w.heap.size w w' := by
  by_cases hbig1 : 1048576 < ((p1.length + r1.length) : Nat)
  · have hs : szR (p1.length + r1.length) 1048576 = -1 := szR_neg (by omega)
    have KS1 : Hid (∀ W : World, Sees w W → Calls Try.prog 25 #[.agg #[.slice A1 p1.length C1, .slice B1 r1.length D1], .int .i64 1048576] W fun e w' => e = .returned (.int .i64 (-1)) ∧ Below W.heap.size W w') := fun W h => by rw [← hs]; exact szWord_any p1 r1 hm1.out.1 hm1.out.2 1048576 A1 B1 C1 D1 W (by omega) (by omega)
    clear hs
    go_enter Try.func8, Try.ntmps8
    go_wp2_with fail
    refine (KS1.out _ ?_).mono ?_
    · unfold Sees; go_grown
    rintro e wz0 ⟨rfl, hb⟩
    have T := St.below (w := w) (l := [(w.heap.size, 0, .int .i64 t0), (w.heap.size, 1, .int .i64 a0), (w.heap.size + 1, 0, .slice A1 p1.length C1), (w.heap.size + 1, 1, .slice B1 r1.length D1)]) ⟨(by unfold Sees; go_grown), (by simp [go_sem]), (by simp [go_sem]), (by simp [go_sem]), (by simp [go_sem]), trivial⟩ hb
    have H := Lib.hid T; clear T hb
    obtain ⟨x0, x1, x2, x3, x4, _⟩ := H.out
    go_wp2_with fail
    clear x0 x1 x2 x3 x4
    go_ret
    exact ⟨rfl, H.out.1⟩
  obtain ⟨s1, hs, hz1, hy1, he1⟩ : ∃ s : Int, s = szR (p1.length + r1.length) 1048576 ∧ 0 ≤ s ∧ s ≤ 1048576 ∧ s = 1048576 - ((p1.length + r1.length) : Nat) := ⟨_, rfl, by rw [szR_pos (by omega)]; omega, by rw [szR_pos (by omega)]; omega, by rw [szR_pos (by omega)]; try omega⟩
  have KS1 : Hid (∀ W : World, Sees w W → Calls Try.prog 25 #[.agg #[.slice A1 p1.length C1, .slice B1 r1.length D1], .int .i64 1048576] W fun e w' => e = .returned (.int .i64 s1) ∧ Below W.heap.size W w') := fun W h => by rw [hs]; exact szWord_any p1 r1 hm1.out.1 hm1.out.2 1048576 A1 B1 C1 D1 W (by omega) (by omega)
  clear hs
  have hsmall : p1.length + r1.length ≤ 1048576 := by omega
  have hu : Hid (u.length ≤ 1048576 ∧ v.length ≤ 1048576) := HU.out hsmall
  clear HU
  have KT0 : Hid (∀ W : World, Sees w W → Calls Try.prog 15 #[.agg #[.int .i64 t0, .int .i64 a0]] W fun e w' => e = .returned (.agg #[.int .i64 t0, .int .i64 a0]) ∧ Below W.heap.size W w') := fun W h => toSig_any t0 a0 W
  have KT1 : Hid (∀ W : World, Sees w W → Calls Try.prog 27 #[.agg #[.slice A1 p1.length C1, .slice B1 r1.length D1]] W fun e w' => ∃ Z Y, e = .returned (.agg #[.slice Z p1.length p1.length, .slice Y r1.length r1.length]) ∧ WordIn w' p1 r1 W.heap.size w'.heap.size Z Y ∧ Below W.heap.size W w') :=
    fun W h => toWord_any p1 r1 (by omega) (by omega) A1 B1 C1 D1 W (hl1.sees h) (hr1.sees h)
  have KE1 : Hid (∀ (W : World) (Z Y Z' Y' : Option Addr), Ints W p1 Z → Ints W r1 Y → Ints W p1 Z' → Ints W r1 Y' → Calls Try.prog 29 #[.agg #[.slice Z p1.length p1.length, .slice Y r1.length r1.length], .agg #[.slice Z' p1.length p1.length, .slice Y' r1.length r1.length]] W fun e w' => e = .returned (.bool true) ∧ Below W.heap.size W w') :=
    fun W Z Y Z' Y' h1 h2 h3 h4 => eqWord_same p1 r1 hm1.out.1 hm1.out.2 _ _ _ _ _ _ _ _ W h1 h2 h3 h4
  obtain ⟨k1, hk, kl1, ku1, kn1⟩ : ∃ k : Int, k = 1 + p1.length + r1.length ∧ 0 ≤ k ∧ k ≤ 1048577 ∧ k = 1 + p1.length + r1.length := ⟨_, rfl, by omega, by omega, rfl⟩
  have KM1 : Hid (∀ (W : World) (lo hi : Nat) (Z Y : Option Addr) (C D : Nat), WordIn W p1 r1 lo hi Z Y → hi ≤ W.heap.size → Calls Try.prog 32 #[.agg #[.slice Z p1.length C, .slice Y r1.length D], .int .i64 1] W fun e w' => e = .returned (.int .i64 k1) ∧ ButIn lo hi W w') :=
    fun W lo hi Z Y C D h hz => (markWord_any p1 r1 (by omega) (by omega) 1 (by omega) (by omega) lo hi Z Y C D W h hz).mono fun e w' ⟨he, _, hb⟩ => ⟨by rw [hk]; exact he, hb⟩
  clear hk
  have tk : decide (k1 < 0) = false := decide_eq_false (by omega)
  obtain ⟨mm, hmm, ml⟩ : ∃ m : Int, m = 1 + u.length + v.length ∧ 0 ≤ m := ⟨_, rfl, by omega⟩
  have KU : Hid (∀ (W : World) (lo hi : Nat) (Z Y : Option Addr) (C D : Nat), WordIn W u v lo hi Z Y → hi ≤ W.heap.size → Calls Try.prog 32 #[.agg #[.slice Z u.length C, .slice Y v.length D], .int .i64 1] W fun e w' => e = .returned (.int .i64 mm) ∧ WordIn w' (ramp 1 u.length) (ramp (1 + u.length) v.length) lo hi Z Y ∧ ButIn lo hi W w') :=
    fun W lo hi Z Y C D h hz => (markWord_any u v hu.out.1 hu.out.2 1 (by omega) (by omega) lo hi Z Y C D W h hz).mono fun e w' ⟨he, hi, hb⟩ => ⟨by rw [hmm]; exact he, hi, hb⟩
  have KH : Hid (∀ (W : World) (lo hi : Nat) (Z Y : Option Addr) (C D : Nat), WordIn W (ramp 1 u.length) (ramp (1 + u.length) v.length) lo hi Z Y → hi ≤ W.heap.size → Calls Try.prog 33 #[.agg #[.slice Z u.length C, .slice Y v.length D], .int .i64 1] W fun e w' => e = .returned (.int .i64 mm) ∧ Below W.heap.size W w') :=
    fun W lo hi Z Y C D h hz => (heldWord_any u.length v.length hu.out.1 hu.out.2 1 (by omega) (by omega) lo hi Z Y C D W h hz).mono fun e w' ⟨he, hb⟩ => ⟨by rw [hmm]; exact he, hb⟩
  have KQ : Hid (∀ (W : World) (Z Y Z' Y' : Option Addr) (C D C' D' : Nat), Ints W u Z → Ints W v Y → Ints W u Z' → Ints W v Y' → Calls Try.prog 29 #[.agg #[.slice Z u.length C, .slice Y v.length D], .agg #[.slice Z' u.length C', .slice Y' v.length D']] W fun e w' => e = .returned (.bool true) ∧ Below W.heap.size W w') :=
    fun W Z Y Z' Y' C D C' D' h1 h2 h3 h4 => eqWord_same u v (Nat.le_trans hu.out.1 (by omega)) (Nat.le_trans hu.out.2 (by omega)) _ _ _ _ _ _ _ _ W h1 h2 h3 h4
  have tm : decide (mm < 0) = false := decide_eq_false (by omega)
  have nq : (q != q) = false := by simp
  have nm : (mm != mm) = false := by simp
  have KW2 := Lib.hid (KW.out hsmall); clear KW
  have KG2 := Lib.hid (KG.out hsmall); clear KG hsmall hmm
  go_enter Try.func8, Try.ntmps8
  go_wp2_with fail
  refine (KS1.out _ ?_).mono ?_
  · unfold Sees; go_grown
  rintro e wz0 ⟨rfl, hb⟩
  have T := St.below (w := w) (l := [(w.heap.size, 0, .int .i64 t0), (w.heap.size, 1, .int .i64 a0), (w.heap.size + 1, 0, .slice A1 p1.length C1), (w.heap.size + 1, 1, .slice B1 r1.length D1)]) ⟨(by unfold Sees; go_grown), (by simp [go_sem]), (by simp [go_sem]), (by simp [go_sem]), (by simp [go_sem]), trivial⟩ hb
  have H := Lib.hid T; clear T hb
  obtain ⟨x0, x1, x2, x3, x4, _⟩ := H.out
  go_wp2_with fail
  clear x0 x1 x2 x3 x4
  have HR := Lib.hid (Rg.start H.out); clear H
  obtain ⟨x0, x1, x2, x3, x4, _⟩ := HR.out.st
  go_wp2_with fail
  go_cut [6, 7] (fun sp sc wx => ∃ (bq1 loq1 hiq1 : Nat) (Zq1 Yq1 : Option Addr) (Cq1 Dq1 : Nat), sp = .pointer (some ⟨bq1, 0, none⟩) ∧ sc = .int .i64 q ∧ Rg w [(bq1, 0, .slice Zq1 u.length Cq1), (bq1, 1, .slice Yq1 v.length Dq1), (w.heap.size, 0, .int .i64 t0), (w.heap.size, 1, .int .i64 a0), (w.heap.size + 1, 0, .slice A1 p1.length C1), (w.heap.size + 1, 1, .slice B1 r1.length D1)] (⟨u, v, loq1, hiq1, Zq1, Yq1⟩ :: []) wx)
  case first =>
    go_region_held3 (fun w' => Sees w w' ∧ w'.cell? ⟨w.heap.size, 0, none⟩ = some (.int .i64 t0) ∧ w'.cell? ⟨w.heap.size, 1, none⟩ = some (.int .i64 a0) ∧ w'.cell? ⟨w.heap.size + 1, 0, none⟩ = some (.slice A1 p1.length C1) ∧ w'.cell? ⟨w.heap.size + 1, 1, none⟩ = some (.slice B1 r1.length D1) ∧ True)
      (first | exact HR.out.drew.st | exact UR.st | exact U1.st | exact U0.st | exact (UR.boxed _ _ _).st | exact (U1.boxed _ _ _).st | exact (U0.boxed _ _ _).st | exact (HR.out.drew.boxed _ _ _).st | exact UR.set1 _ _ | exact UR.set0 _ | exact (UR.boxed _ _ _).set1 _ _ | exact (UR.boxed _ _ _).set0 _ | (go_keep; done))
      (first | (go_at_call 15; (with_reducible refine (KT0.out _ ?_).mono ?_); exact St.sees (l := [(w.heap.size, 0, .int .i64 t0), (w.heap.size, 1, .int .i64 a0), (w.heap.size + 1, 0, .slice A1 p1.length C1), (w.heap.size + 1, 1, .slice B1 r1.length D1)]) (by assumption); rintro e wc0 ⟨rfl, hb0⟩; first | have U0 := HR.out.drew.below hb0 | have U0 := (HR.out.boxedD (.slice none 0 0) (.slice none 0 0) 47).below hb0) | (go_at_call_of 27 (Value.agg #[.slice A1 p1.length C1, .slice B1 r1.length D1]); (with_reducible refine (KT1.out _ ?_).mono ?_); exact St.sees (l := [(w.heap.size, 0, .int .i64 t0), (w.heap.size, 1, .int .i64 a0), (w.heap.size + 1, 0, .slice A1 p1.length C1), (w.heap.size + 1, 1, .slice B1 r1.length D1)]) (by assumption); rintro e wc1 ⟨Zc1, Yc1, rfl, Ic1, hb1⟩; first | have U1 := U0.result Ic1 hb1 | have U1 := (U0.boxed (.slice none 0 0) (.slice none 0 0) 47).result Ic1 hb1) | (go_at_call 30; refine (KW2.out _ _ _ ?_ ?_ ).mono ?_; (first | exact U1.i1 | exact ((U1.boxed (.slice none 0 0) (.slice none 0 0) 47)).i1); (first | exact U1.i2 | exact ((U1.boxed (.slice none 0 0) (.slice none 0 0) 47)).i2); rintro e wr ⟨Zr, Yr, Cr, Dr, rfl, Ir, hbr⟩; (first | have UR := (U1.result Ir hbr).skip | have UR := ((U1.boxed (.slice none 0 0) (.slice none 0 0) 47).result Ir hbr).skip); (try simp only [World.size_alloc] at UR); (first | (obtain ⟨c0, c1, f0, f1⟩ := UR.facts) | skip)))
    all_goals (go_wp2_with fail; go_meet; first | exact ⟨_, _, _, _, _, _, _, rfl, rfl, UR.fill _ _⟩ | exact ⟨_, _, _, _, _, _, _, rfl, rfl, (UR.boxed _ _ _).fill _ _⟩ | exact ⟨_, _, _, _, _, _, _, rfl, rfl, (UR.boxed _ _ _).rg⟩)
  case rest =>
  obtain ⟨bq1, loq1, hiq1, Zq1, Yq1, Cq1, Dq1, rfl, rfl, T⟩ := hcut
  clear x0 x1 x2 x3 x4
  clear HR; have HR := Lib.hid T; clear T
  obtain ⟨x0, x1, x2, x3, x4, x5, x6, _⟩ := HR.out.st
  go_wp2_with fail
  refine (KT1.out _ x0).mono ?_
  rintro e wd1 ⟨Zd1, Yd1, rfl, Id1, hbd⟩
  have T := ((HR.out.result Id1 hbd).boxed (.slice Zd1 p1.length p1.length) (.slice Yd1 r1.length r1.length) 47).rg
  clear x0 x1 x2 x3 x4 x5 x6
  have HR' : Hid (∃ lo hi, Rg w [(wd1.heap.size, 0, .slice Zd1 p1.length p1.length), (wd1.heap.size, 1, .slice Yd1 r1.length r1.length), (bq1, 0, .slice Zq1 u.length Cq1), (bq1, 1, .slice Yq1 v.length Dq1), (w.heap.size, 0, .int .i64 t0), (w.heap.size, 1, .int .i64 a0), (w.heap.size + 1, 0, .slice A1 p1.length C1), (w.heap.size + 1, 1, .slice B1 r1.length D1)] (⟨p1, r1, lo, hi, Zd1, Yd1⟩ :: [⟨u, v, loq1, hiq1, Zq1, Yq1⟩]) _) := ⟨_, _, T⟩
  obtain ⟨lod1, hid1, T2⟩ := HR'.out
  clear HR HR' T Id1 hbd; have HR := Lib.hid T2; clear T2
  obtain ⟨x0, x1, x2, x3, x4, x5, x6, x7, x8, _⟩ := HR.out.st
  go_wp2_with fail
  go_cut [9, 10] (fun sp sc wx => ∃ (bq3 loq3 hiq3 : Nat) (Zq3 Yq3 : Option Addr) (Cq3 Dq3 : Nat), sp = .pointer (some ⟨bq3, 0, none⟩) ∧ sc = .int .i64 q ∧ Rg w [(bq3, 0, .slice Zq3 u.length Cq3), (bq3, 1, .slice Yq3 v.length Dq3), (wd1.heap.size, 0, .slice Zd1 p1.length p1.length), (wd1.heap.size, 1, .slice Yd1 r1.length r1.length), (bq1, 0, .slice Zq1 u.length Cq1), (bq1, 1, .slice Yq1 v.length Dq1), (w.heap.size, 0, .int .i64 t0), (w.heap.size, 1, .int .i64 a0), (w.heap.size + 1, 0, .slice A1 p1.length C1), (w.heap.size + 1, 1, .slice B1 r1.length D1)] (⟨u, v, loq3, hiq3, Zq3, Yq3⟩ :: [⟨p1, r1, lod1, hid1, Zd1, Yd1⟩, ⟨u, v, loq1, hiq1, Zq1, Yq1⟩]) wx)
  case first =>
    go_region_held3 (fun w' => Sees w w' ∧ w'.cell? ⟨wd1.heap.size, 0, none⟩ = some (.slice Zd1 p1.length p1.length) ∧ w'.cell? ⟨wd1.heap.size, 1, none⟩ = some (.slice Yd1 r1.length r1.length) ∧ w'.cell? ⟨bq1, 0, none⟩ = some (.slice Zq1 u.length Cq1) ∧ w'.cell? ⟨bq1, 1, none⟩ = some (.slice Yq1 v.length Dq1) ∧ w'.cell? ⟨w.heap.size, 0, none⟩ = some (.int .i64 t0) ∧ w'.cell? ⟨w.heap.size, 1, none⟩ = some (.int .i64 a0) ∧ w'.cell? ⟨w.heap.size + 1, 0, none⟩ = some (.slice A1 p1.length C1) ∧ w'.cell? ⟨w.heap.size + 1, 1, none⟩ = some (.slice B1 r1.length D1) ∧ True)
      (first | exact HR.out.drew.st | exact UR.st | exact U0.st | exact (UR.boxed _ _ _).st | exact (U0.boxed _ _ _).st | exact (HR.out.drew.boxed _ _ _).st | exact UR.set1 _ _ | exact UR.set0 _ | exact (UR.boxed _ _ _).set1 _ _ | exact (UR.boxed _ _ _).set0 _ | (go_keep; done))
      (first | (go_at_call 15; (with_reducible refine (KT0.out _ ?_).mono ?_); exact St.sees (l := [(wd1.heap.size, 0, .slice Zd1 p1.length p1.length), (wd1.heap.size, 1, .slice Yd1 r1.length r1.length), (bq1, 0, .slice Zq1 u.length Cq1), (bq1, 1, .slice Yq1 v.length Dq1), (w.heap.size, 0, .int .i64 t0), (w.heap.size, 1, .int .i64 a0), (w.heap.size + 1, 0, .slice A1 p1.length C1), (w.heap.size + 1, 1, .slice B1 r1.length D1)]) (by assumption); rintro e wc0 ⟨rfl, hb0⟩; first | have U0 := HR.out.drew.below hb0 | have U0 := (HR.out.boxedD (.slice none 0 0) (.slice none 0 0) 47).below hb0) | (go_at_call 31; refine (KG2.out _ _ _ ?_ ?_ ).mono ?_; (first | exact U0.i1 | exact ((U0.boxed (.slice none 0 0) (.slice none 0 0) 47)).i1); (first | exact U0.i2 | exact ((U0.boxed (.slice none 0 0) (.slice none 0 0) 47)).i2); rintro e wr ⟨Zr, Yr, Cr, Dr, rfl, Ir, hbr⟩; (first | have UR := (U0.result Ir hbr) | have UR := ((U0.boxed (.slice none 0 0) (.slice none 0 0) 47).result Ir hbr)); (try simp only [World.size_alloc] at UR); (first | (obtain ⟨c0, c1, f0, f1⟩ := UR.facts) | skip)))
    all_goals (go_wp2_with fail; go_meet; first | exact ⟨_, _, _, _, _, _, _, rfl, rfl, UR.fill _ _⟩ | exact ⟨_, _, _, _, _, _, _, rfl, rfl, (UR.boxed _ _ _).fill _ _⟩ | exact ⟨_, _, _, _, _, _, _, rfl, rfl, (UR.boxed _ _ _).rg⟩)
  case rest =>
  obtain ⟨bq3, loq3, hiq3, Zq3, Yq3, Cq3, Dq3, rfl, rfl, T⟩ := hcut
  clear x0 x1 x2 x3 x4 x5 x6 x7 x8
  clear HR; have HR := Lib.hid T; clear T
  obtain ⟨x0, x1, x2, x3, x4, x5, x6, x7, x8, x9, x10, _⟩ := HR.out.st
  go_wp2_with fail
  refine (KQ.out _ _ _ _ _ _ _ _ _ (HR.out.i1) (HR.out.i2) (HR.out.tl.tl.i1) (HR.out.tl.tl.i2)).mono ?_
  rintro e wq4 ⟨rfl, hb⟩
  have T := HR.out.below hb
  clear x0 x1 x2 x3 x4 x5 x6 x7 x8 x9 x10
  clear HR hb; have HR := Lib.hid T; clear T
  obtain ⟨x0, x1, x2, x3, x4, x5, x6, x7, x8, x9, x10, _⟩ := HR.out.st
  go_wp2_with fail
  go_region_held3 (fun w' => Sees w w' ∧ w'.cell? ⟨bq3, 0, none⟩ = some (.slice Zq3 u.length Cq3) ∧ w'.cell? ⟨bq3, 1, none⟩ = some (.slice Yq3 v.length Dq3) ∧ w'.cell? ⟨wd1.heap.size, 0, none⟩ = some (.slice Zd1 p1.length p1.length) ∧ w'.cell? ⟨wd1.heap.size, 1, none⟩ = some (.slice Yd1 r1.length r1.length) ∧ w'.cell? ⟨bq1, 0, none⟩ = some (.slice Zq1 u.length Cq1) ∧ w'.cell? ⟨bq1, 1, none⟩ = some (.slice Yq1 v.length Dq1) ∧ w'.cell? ⟨w.heap.size, 0, none⟩ = some (.int .i64 t0) ∧ w'.cell? ⟨w.heap.size, 1, none⟩ = some (.int .i64 a0) ∧ w'.cell? ⟨w.heap.size + 1, 0, none⟩ = some (.slice A1 p1.length C1) ∧ w'.cell? ⟨w.heap.size + 1, 1, none⟩ = some (.slice B1 r1.length D1) ∧ True)
    (first | exact HR.out.drew.st | exact UE5.st | exact UT5.st | (go_keep; done))
    (first | (go_at_call 27; (with_reducible refine (KT1.out _ ?_).mono ?_); exact St.sees (l := [(bq3, 0, .slice Zq3 u.length Cq3), (bq3, 1, .slice Yq3 v.length Dq3), (wd1.heap.size, 0, .slice Zd1 p1.length p1.length), (wd1.heap.size, 1, .slice Yd1 r1.length r1.length), (bq1, 0, .slice Zq1 u.length Cq1), (bq1, 1, .slice Yq1 v.length Dq1), (w.heap.size, 0, .int .i64 t0), (w.heap.size, 1, .int .i64 a0), (w.heap.size + 1, 0, .slice A1 p1.length C1), (w.heap.size + 1, 1, .slice B1 r1.length D1)]) (by assumption); rintro e wt5 ⟨Zt5, Yt5, rfl, It5, hbt5⟩; have UT5 := HR.out.drew.result It5 hbt5) | (go_at_call 29; refine (KE1.out _ _ _ _ _ UT5.tl.tl.i1 UT5.tl.tl.i2 UT5.i1 UT5.i2).mono ?_; rintro e we5 ⟨rfl, hbe5⟩; have UE5 := (UT5.below hbe5).tl))
  clear x0 x1 x2 x3 x4 x5 x6 x7 x8 x9 x10
  clear HR; have HR := Lib.hid UE5; clear UE5 UT5 It5 hbt5 hbe5
  obtain ⟨x0, x1, x2, x3, x4, x5, x6, x7, x8, x9, x10, _⟩ := HR.out.st
  go_wp2_with fail
  refine (KM1.out _ _ _ _ _ _ _ HR.out.tl.hd HR.out.tl.top).mono ?_
  rintro e wm6 ⟨rfl, hb⟩
  have T := Rg.mark (O1 := [⟨u, v, loq3, hiq3, Zq3, Yq3⟩]) (O2 := [⟨u, v, loq1, hiq1, Zq1, Yq1⟩]) HR.out hb
  clear x0 x1 x2 x3 x4 x5 x6 x7 x8 x9 x10
  clear HR hb; have HR := Lib.hid T; clear T
  have HR2 : Hid (Rg w [(bq3, 0, .slice Zq3 u.length Cq3), (bq3, 1, .slice Yq3 v.length Dq3), (wd1.heap.size, 0, .slice Zd1 p1.length p1.length), (wd1.heap.size, 1, .slice Yd1 r1.length r1.length), (bq1, 0, .slice Zq1 u.length Cq1), (bq1, 1, .slice Yq1 v.length Dq1), (w.heap.size, 0, .int .i64 t0), (w.heap.size, 1, .int .i64 a0), (w.heap.size + 1, 0, .slice A1 p1.length C1), (w.heap.size + 1, 1, .slice B1 r1.length D1)] [⟨u, v, loq3, hiq3, Zq3, Yq3⟩, ⟨u, v, loq1, hiq1, Zq1, Yq1⟩] wm6) := HR.out
  clear HR; have HR := HR2; clear HR2
  obtain ⟨x0, x1, x2, x3, x4, x5, x6, x7, x8, x9, x10, _⟩ := HR.out.st
  go_wp2_with fail
  refine (KQ.out _ _ _ _ _ _ _ _ _ (HR.out.i1) (HR.out.i2) (HR.out.tl.i1) (HR.out.tl.i2)).mono ?_
  rintro e wq7 ⟨rfl, hb⟩
  have T := HR.out.below hb
  clear x0 x1 x2 x3 x4 x5 x6 x7 x8 x9 x10
  clear HR hb; have HR := Lib.hid T; clear T
  obtain ⟨x0, x1, x2, x3, x4, x5, x6, x7, x8, x9, x10, _⟩ := HR.out.st
  go_wp2_with fail
  refine (KU.out _ _ _ _ _ _ _ HR.out.hd HR.out.top).mono ?_
  rintro e wm8 ⟨rfl, hw, hb⟩
  have T := HR.out.marked hb hw
  clear x0 x1 x2 x3 x4 x5 x6 x7 x8 x9 x10
  clear HR hb hw; have HR := Lib.hid T; clear T
  obtain ⟨x0, x1, x2, x3, x4, x5, x6, x7, x8, x9, x10, _⟩ := HR.out.st
  go_wp2_with fail
  refine (KH.out _ _ _ _ _ _ _ HR.out.hd HR.out.top).mono ?_
  rintro e wh9 ⟨rfl, hb⟩
  have T := HR.out.below hb
  clear x0 x1 x2 x3 x4 x5 x6 x7 x8 x9 x10
  clear HR hb; have HR := Lib.hid T; clear T
  obtain ⟨x0, x1, x2, x3, x4, x5, x6, x7, x8, x9, x10, _⟩ := HR.out.st
  go_wp2_with fail
  go_cut [14, 15] (fun sp sc wx => ∃ (bq10 loq10 hiq10 : Nat) (Zq10 Yq10 : Option Addr) (Cq10 Dq10 : Nat), sp = .pointer (some ⟨bq10, 0, none⟩) ∧ sc = .int .i64 q ∧ Rg w [(bq10, 0, .slice Zq10 u.length Cq10), (bq10, 1, .slice Yq10 v.length Dq10), (bq3, 0, .slice Zq3 u.length Cq3), (bq3, 1, .slice Yq3 v.length Dq3), (wd1.heap.size, 0, .slice Zd1 p1.length p1.length), (wd1.heap.size, 1, .slice Yd1 r1.length r1.length), (bq1, 0, .slice Zq1 u.length Cq1), (bq1, 1, .slice Yq1 v.length Dq1), (w.heap.size, 0, .int .i64 t0), (w.heap.size, 1, .int .i64 a0), (w.heap.size + 1, 0, .slice A1 p1.length C1), (w.heap.size + 1, 1, .slice B1 r1.length D1)] (⟨u, v, loq10, hiq10, Zq10, Yq10⟩ :: [⟨(ramp 1 u.length), (ramp (1 + u.length) v.length), loq3, hiq3, Zq3, Yq3⟩, ⟨u, v, loq1, hiq1, Zq1, Yq1⟩]) wx)
  case first =>
    go_region_held3 (fun w' => Sees w w' ∧ w'.cell? ⟨bq3, 0, none⟩ = some (.slice Zq3 u.length Cq3) ∧ w'.cell? ⟨bq3, 1, none⟩ = some (.slice Yq3 v.length Dq3) ∧ w'.cell? ⟨wd1.heap.size, 0, none⟩ = some (.slice Zd1 p1.length p1.length) ∧ w'.cell? ⟨wd1.heap.size, 1, none⟩ = some (.slice Yd1 r1.length r1.length) ∧ w'.cell? ⟨bq1, 0, none⟩ = some (.slice Zq1 u.length Cq1) ∧ w'.cell? ⟨bq1, 1, none⟩ = some (.slice Yq1 v.length Dq1) ∧ w'.cell? ⟨w.heap.size, 0, none⟩ = some (.int .i64 t0) ∧ w'.cell? ⟨w.heap.size, 1, none⟩ = some (.int .i64 a0) ∧ w'.cell? ⟨w.heap.size + 1, 0, none⟩ = some (.slice A1 p1.length C1) ∧ w'.cell? ⟨w.heap.size + 1, 1, none⟩ = some (.slice B1 r1.length D1) ∧ True)
      (first | exact HR.out.drew.st | exact UR.st | exact U1.st | exact U0.st | exact (UR.boxed _ _ _).st | exact (U1.boxed _ _ _).st | exact (U0.boxed _ _ _).st | exact (HR.out.drew.boxed _ _ _).st | exact UR.set1 _ _ | exact UR.set0 _ | exact (UR.boxed _ _ _).set1 _ _ | exact (UR.boxed _ _ _).set0 _ | (go_keep; done))
      (first | (go_at_call 15; (with_reducible refine (KT0.out _ ?_).mono ?_); exact St.sees (l := [(bq3, 0, .slice Zq3 u.length Cq3), (bq3, 1, .slice Yq3 v.length Dq3), (wd1.heap.size, 0, .slice Zd1 p1.length p1.length), (wd1.heap.size, 1, .slice Yd1 r1.length r1.length), (bq1, 0, .slice Zq1 u.length Cq1), (bq1, 1, .slice Yq1 v.length Dq1), (w.heap.size, 0, .int .i64 t0), (w.heap.size, 1, .int .i64 a0), (w.heap.size + 1, 0, .slice A1 p1.length C1), (w.heap.size + 1, 1, .slice B1 r1.length D1)]) (by assumption); rintro e wc0 ⟨rfl, hb0⟩; first | have U0 := HR.out.drew.below hb0 | have U0 := (HR.out.boxedD (.slice none 0 0) (.slice none 0 0) 47).below hb0) | (go_at_call_of 27 (Value.agg #[.slice A1 p1.length C1, .slice B1 r1.length D1]); (with_reducible refine (KT1.out _ ?_).mono ?_); exact St.sees (l := [(bq3, 0, .slice Zq3 u.length Cq3), (bq3, 1, .slice Yq3 v.length Dq3), (wd1.heap.size, 0, .slice Zd1 p1.length p1.length), (wd1.heap.size, 1, .slice Yd1 r1.length r1.length), (bq1, 0, .slice Zq1 u.length Cq1), (bq1, 1, .slice Yq1 v.length Dq1), (w.heap.size, 0, .int .i64 t0), (w.heap.size, 1, .int .i64 a0), (w.heap.size + 1, 0, .slice A1 p1.length C1), (w.heap.size + 1, 1, .slice B1 r1.length D1)]) (by assumption); rintro e wc1 ⟨Zc1, Yc1, rfl, Ic1, hb1⟩; first | have U1 := U0.result Ic1 hb1 | have U1 := (U0.boxed (.slice none 0 0) (.slice none 0 0) 47).result Ic1 hb1) | (go_at_call 31; refine (KG2.out _ _ _ ?_ ?_ ).mono ?_; (first | exact U1.i1 | exact ((U1.boxed (.slice none 0 0) (.slice none 0 0) 47)).i1); (first | exact U1.i2 | exact ((U1.boxed (.slice none 0 0) (.slice none 0 0) 47)).i2); rintro e wr ⟨Zr, Yr, Cr, Dr, rfl, Ir, hbr⟩; (first | have UR := (U1.result Ir hbr).skip | have UR := ((U1.boxed (.slice none 0 0) (.slice none 0 0) 47).result Ir hbr).skip); (try simp only [World.size_alloc] at UR); (first | (obtain ⟨c0, c1, f0, f1⟩ := UR.facts) | skip)))
    all_goals (go_wp2_with fail; go_meet; first | exact ⟨_, _, _, _, _, _, _, rfl, rfl, UR.fill _ _⟩ | exact ⟨_, _, _, _, _, _, _, rfl, rfl, (UR.boxed _ _ _).fill _ _⟩ | exact ⟨_, _, _, _, _, _, _, rfl, rfl, (UR.boxed _ _ _).rg⟩)
  case rest =>
  obtain ⟨bq10, loq10, hiq10, Zq10, Yq10, Cq10, Dq10, rfl, rfl, T⟩ := hcut
  clear x0 x1 x2 x3 x4 x5 x6 x7 x8 x9 x10
  clear HR; have HR := Lib.hid T; clear T
  obtain ⟨x0, x1, x2, x3, x4, x5, x6, x7, x8, x9, x10, x11, x12, _⟩ := HR.out.st
  go_wp2_with fail
  refine (KQ.out _ _ _ _ _ _ _ _ _ (HR.out.i1) (HR.out.i2) (HR.out.tl.tl.i1) (HR.out.tl.tl.i2)).mono ?_
  rintro e wq11 ⟨rfl, hb⟩
  have T := HR.out.below hb
  clear x0 x1 x2 x3 x4 x5 x6 x7 x8 x9 x10 x11 x12
  clear HR hb; have HR := Lib.hid T; clear T
  obtain ⟨x0, x1, x2, x3, x4, x5, x6, x7, x8, x9, x10, x11, x12, _⟩ := HR.out.st
  go_wp2_with fail
  refine (KH.out _ _ _ _ _ _ _ HR.out.tl.hd HR.out.tl.top).mono ?_
  rintro e wh12 ⟨rfl, hb⟩
  have T := HR.out.below hb
  clear x0 x1 x2 x3 x4 x5 x6 x7 x8 x9 x10 x11 x12
  clear HR hb; have HR := Lib.hid T; clear T
  obtain ⟨x0, x1, x2, x3, x4, x5, x6, x7, x8, x9, x10, x11, x12, _⟩ := HR.out.st
  go_wp2_with fail
  go_ret
  exact ⟨rfl, HR.out.st.1⟩

end Go.Proofs.Ytcpeiajniblipaa
