/- The law FnExactFuseWords, walked, out of the contracts of both sides. -/
import Derived.Test.YtcpeiajniblipaaRg
import Derived.Test.YtcpeiajniblipaaSz
import Derived.Test.YtcpeiajniblipaaTo
import Derived.Test.YtcpeiajniblipaaEq
import Derived.Deep.RegionHeld3
import Derived.Deep.DrawnRows
import Derived.Deep.DeepCutAuto
namespace Go.Proofs.Ytcpeiajniblipaa
open Go.RowKit
attribute [local go_sem ↓] Go.wp_at_zero Go.wp_at_succ

set_option maxHeartbeats 40000000 in
set_option maxRecDepth 100000 in
theorem lawFuseWords (t0 a0 : Int) (p1 r1 : List Int) (A1 B1 : Option Addr) (C1 D1 : Nat) (p2 r2 : List Int) (A2 B2 : Option Addr) (C2 D2 : Nat) {u v : List Int} {q : Int}
    (HU : Hid (p1.length + r1.length + p2.length + r2.length ≤ 1048576 → u.length ≤ 1048576 ∧ v.length ≤ 1048576))
    (KW : Hid (p1.length + r1.length + p2.length + r2.length ≤ 1048576 → ∀ (W : World) (Z1 Y1 : Option Addr) (Z2 Y2 : Option Addr), Ints W p1 Z1 → Ints W r1 Y1 → Ints W p2 Z2 → Ints W r2 Y2 → Calls Try.prog 34 #[.agg #[.int .i64 t0, .int .i64 a0], .agg #[.slice Z1 p1.length p1.length, .slice Y1 r1.length r1.length], .agg #[.slice Z2 p2.length p2.length, .slice Y2 r2.length r2.length]] W (WordEnd u v q W)))
    (KG : Hid (p1.length + r1.length + p2.length + r2.length ≤ 1048576 → ∀ (W : World) (Z1 Y1 : Option Addr) (Z2 Y2 : Option Addr), Ints W p1 Z1 → Ints W r1 Y1 → Ints W p2 Z2 → Ints W r2 Y2 → Calls Try.prog 35 #[.agg #[.int .i64 t0, .int .i64 a0], .agg #[.slice Z1 p1.length p1.length, .slice Y1 r1.length r1.length], .agg #[.slice Z2 p2.length p2.length, .slice Y2 r2.length r2.length]] W (WordEnd u v q W)))
    (w : World) (hm1 : Hid (p1.length ≤ 9223372036854775807 ∧ r1.length ≤ 9223372036854775807)) (hl1 : Ints w p1 A1) (hr1 : Ints w r1 B1) (hm2 : Hid (p2.length ≤ 9223372036854775807 ∧ r2.length ≤ 9223372036854775807)) (hl2 : Ints w p2 A2) (hr2 : Ints w r2 B2) :
    Calls Try.prog 9 #[.agg #[.int .i64 t0, .int .i64 a0], .agg #[.slice A1 p1.length C1, .slice B1 r1.length D1], .agg #[.slice A2 p2.length C2, .slice B2 r2.length D2]] w fun e w' => e = .returned (.bool true) ∧ Below w.heap.size w w' := by
  by_cases hbig1 : 1048576 < ((p1.length + r1.length) : Nat)
  · have hs : szR (p1.length + r1.length) 1048576 = -1 := szR_neg (by omega)
    have KS1 : Hid (∀ W : World, Sees w W → Calls Try.prog 25 #[.agg #[.slice A1 p1.length C1, .slice B1 r1.length D1], .int .i64 1048576] W fun e w' => e = .returned (.int .i64 (-1)) ∧ Below W.heap.size W w') := fun W h => by rw [← hs]; exact szWord_any p1 r1 hm1.out.1 hm1.out.2 1048576 A1 B1 C1 D1 W (by omega) (by omega)
    clear hs
    go_enter Try.func9, Try.ntmps9
    go_wp2_with fail
    refine (KS1.out _ ?_).mono ?_
    · unfold Sees; go_grown
    rintro e wz0 ⟨rfl, hb⟩
    have T := St.below (w := w) (l := [(w.heap.size, 0, .int .i64 t0), (w.heap.size, 1, .int .i64 a0), (w.heap.size + 1, 0, .slice A1 p1.length C1), (w.heap.size + 1, 1, .slice B1 r1.length D1), (w.heap.size + 2, 0, .slice A2 p2.length C2), (w.heap.size + 2, 1, .slice B2 r2.length D2)]) ⟨(by unfold Sees; go_grown), (by simp [go_sem]), (by simp [go_sem]), (by simp [go_sem]), (by simp [go_sem]), (by simp [go_sem]), (by simp [go_sem]), trivial⟩ hb
    have H := Lib.hid T; clear T hb
    obtain ⟨x0, x1, x2, x3, x4, x5, x6, _⟩ := H.out
    go_wp2_with fail
    clear x0 x1 x2 x3 x4 x5 x6
    go_ret
    exact ⟨rfl, H.out.1⟩
  obtain ⟨s1, hs, hz1, hy1, he1⟩ : ∃ s : Int, s = szR (p1.length + r1.length) 1048576 ∧ 0 ≤ s ∧ s ≤ 1048576 ∧ Hid (s = 1048576 - ((p1.length + r1.length) : Nat)) := ⟨_, rfl, by rw [szR_pos (by omega)]; omega, by rw [szR_pos (by omega)]; omega, by show _ = _; rw [szR_pos (by omega)]; try omega⟩
  have KS1 : Hid (∀ W : World, Sees w W → Calls Try.prog 25 #[.agg #[.slice A1 p1.length C1, .slice B1 r1.length D1], .int .i64 1048576] W fun e w' => e = .returned (.int .i64 s1) ∧ Below W.heap.size W w') := fun W h => by rw [hs]; exact szWord_any p1 r1 hm1.out.1 hm1.out.2 1048576 A1 B1 C1 D1 W (by omega) (by omega)
  clear hs
  by_cases hbig2 : s1 < (((p2.length + r2.length) : Nat) : Int)
  · have hs : szR (p2.length + r2.length) s1 = -1 := szR_neg (by omega)
    have KS2 : Hid (∀ W : World, Sees w W → Calls Try.prog 25 #[.agg #[.slice A2 p2.length C2, .slice B2 r2.length D2], .int .i64 s1] W fun e w' => e = .returned (.int .i64 (-1)) ∧ Below W.heap.size W w') := fun W h => by rw [← hs]; exact szWord_any p2 r2 hm2.out.1 hm2.out.2 s1 A2 B2 C2 D2 W (by omega) (by omega)
    clear hs
    go_enter Try.func9, Try.ntmps9
    go_wp2_with fail
    refine (KS1.out _ ?_).mono ?_
    · unfold Sees; go_grown
    rintro e wz0 ⟨rfl, hb⟩
    have T := St.below (w := w) (l := [(w.heap.size, 0, .int .i64 t0), (w.heap.size, 1, .int .i64 a0), (w.heap.size + 1, 0, .slice A1 p1.length C1), (w.heap.size + 1, 1, .slice B1 r1.length D1), (w.heap.size + 2, 0, .slice A2 p2.length C2), (w.heap.size + 2, 1, .slice B2 r2.length D2)]) ⟨(by unfold Sees; go_grown), (by simp [go_sem]), (by simp [go_sem]), (by simp [go_sem]), (by simp [go_sem]), (by simp [go_sem]), (by simp [go_sem]), trivial⟩ hb
    have H := Lib.hid T; clear T hb
    obtain ⟨x0, x1, x2, x3, x4, x5, x6, _⟩ := H.out
    go_wp2_with fail
    clear x0 x1 x2 x3 x4 x5 x6
    refine (KS2.out _ ?_).mono ?_
    · exact H.out.1
    rintro e wz1 ⟨rfl, hb⟩
    have T := H.out.below hb
    clear H
    have H := Lib.hid T; clear T hb
    obtain ⟨x0, x1, x2, x3, x4, x5, x6, _⟩ := H.out
    go_wp2_with fail
    clear x0 x1 x2 x3 x4 x5 x6
    go_ret
    exact ⟨rfl, H.out.1⟩
  obtain ⟨s2, hs, hz2, hy2, he2⟩ : ∃ s : Int, s = szR (p2.length + r2.length) s1 ∧ 0 ≤ s ∧ s ≤ 1048576 ∧ Hid (s = s1 - ((p2.length + r2.length) : Nat)) := ⟨_, rfl, by rw [szR_pos (by omega)]; omega, by rw [szR_pos (by omega)]; omega, by show _ = _; rw [szR_pos (by omega)]; try omega⟩
  have KS2 : Hid (∀ W : World, Sees w W → Calls Try.prog 25 #[.agg #[.slice A2 p2.length C2, .slice B2 r2.length D2], .int .i64 s1] W fun e w' => e = .returned (.int .i64 s2) ∧ Below W.heap.size W w') := fun W h => by rw [hs]; exact szWord_any p2 r2 hm2.out.1 hm2.out.2 s1 A2 B2 C2 D2 W (by omega) (by omega)
  clear hs
  have hsmall : p1.length + r1.length + p2.length + r2.length ≤ 1048576 := by have := he1.out; have := he2.out; omega
  have hu : Hid (u.length ≤ 1048576 ∧ v.length ≤ 1048576) := HU.out hsmall
  clear HU
  have KT0 : Hid (∀ W : World, Sees w W → Calls Try.prog 15 #[.agg #[.int .i64 t0, .int .i64 a0]] W fun e w' => e = .returned (.agg #[.int .i64 t0, .int .i64 a0]) ∧ Below W.heap.size W w') := fun W h => toSig_any t0 a0 W
  have KT1 : Hid (∀ W : World, Sees w W → Calls Try.prog 27 #[.agg #[.slice A1 p1.length C1, .slice B1 r1.length D1]] W fun e w' => ∃ Z Y, e = .returned (.agg #[.slice Z p1.length p1.length, .slice Y r1.length r1.length]) ∧ WordIn w' p1 r1 W.heap.size w'.heap.size Z Y ∧ Below W.heap.size W w') :=
    fun W h => toWord_any p1 r1 (by omega) (by omega) A1 B1 C1 D1 W (hl1.sees h) (hr1.sees h)
  have KE1 : Hid (∀ (W : World) (Z Y Z' Y' : Option Addr), Ints W p1 Z → Ints W r1 Y → Ints W p1 Z' → Ints W r1 Y' → Calls Try.prog 29 #[.agg #[.slice Z p1.length p1.length, .slice Y r1.length r1.length], .agg #[.slice Z' p1.length p1.length, .slice Y' r1.length r1.length]] W fun e w' => e = .returned (.bool true) ∧ Below W.heap.size W w') :=
    fun W Z Y Z' Y' h1 h2 h3 h4 => eqWord_same p1 r1 hm1.out.1 hm1.out.2 _ _ _ _ _ _ _ _ W h1 h2 h3 h4
  have KT2 : Hid (∀ W : World, Sees w W → Calls Try.prog 27 #[.agg #[.slice A2 p2.length C2, .slice B2 r2.length D2]] W fun e w' => ∃ Z Y, e = .returned (.agg #[.slice Z p2.length p2.length, .slice Y r2.length r2.length]) ∧ WordIn w' p2 r2 W.heap.size w'.heap.size Z Y ∧ Below W.heap.size W w') :=
    fun W h => toWord_any p2 r2 (by omega) (by omega) A2 B2 C2 D2 W (hl2.sees h) (hr2.sees h)
  have KE2 : Hid (∀ (W : World) (Z Y Z' Y' : Option Addr), Ints W p2 Z → Ints W r2 Y → Ints W p2 Z' → Ints W r2 Y' → Calls Try.prog 29 #[.agg #[.slice Z p2.length p2.length, .slice Y r2.length r2.length], .agg #[.slice Z' p2.length p2.length, .slice Y' r2.length r2.length]] W fun e w' => e = .returned (.bool true) ∧ Below W.heap.size W w') :=
    fun W Z Y Z' Y' h1 h2 h3 h4 => eqWord_same p2 r2 hm2.out.1 hm2.out.2 _ _ _ _ _ _ _ _ W h1 h2 h3 h4
  obtain ⟨k1, hk, kl1, ku1, kn1⟩ : ∃ k : Int, k = 1 + p1.length + r1.length ∧ 0 ≤ k ∧ k ≤ 1048577 ∧ Hid (k = 1 + p1.length + r1.length) := ⟨_, rfl, by omega, by omega, rfl⟩
  have KM1 : Hid (∀ (W : World) (lo hi : Nat) (Z Y : Option Addr) (C D : Nat), WordIn W p1 r1 lo hi Z Y → hi ≤ W.heap.size → Calls Try.prog 32 #[.agg #[.slice Z p1.length C, .slice Y r1.length D], .int .i64 1] W fun e w' => e = .returned (.int .i64 k1) ∧ ButIn lo hi W w') :=
    fun W lo hi Z Y C D h hz => (markWord_any p1 r1 (by omega) (by omega) 1 (by omega) (by omega) lo hi Z Y C D W h hz).mono fun e w' ⟨he, _, hb⟩ => ⟨by rw [hk]; exact he, hb⟩
  clear hk
  obtain ⟨k2, hk, kl2, ku2, kn2⟩ : ∃ k : Int, k = k1 + p2.length + r2.length ∧ 0 ≤ k ∧ k ≤ 1048577 ∧ Hid (k = k1 + p2.length + r2.length) := ⟨_, rfl, by omega, by have := kn1.out; omega, rfl⟩
  have KM2 : Hid (∀ (W : World) (lo hi : Nat) (Z Y : Option Addr) (C D : Nat), WordIn W p2 r2 lo hi Z Y → hi ≤ W.heap.size → Calls Try.prog 32 #[.agg #[.slice Z p2.length C, .slice Y r2.length D], .int .i64 k1] W fun e w' => e = .returned (.int .i64 k2) ∧ ButIn lo hi W w') :=
    fun W lo hi Z Y C D h hz => (markWord_any p2 r2 (by omega) (by omega) k1 (by omega) (by omega) lo hi Z Y C D W h hz).mono fun e w' ⟨he, _, hb⟩ => ⟨by rw [hk]; exact he, hb⟩
  clear hk
  have tk : decide (k2 < 0) = false := decide_eq_false (by omega)
  obtain ⟨mm, hmm, ml⟩ : ∃ m : Int, m = 1 + u.length + v.length ∧ 0 ≤ m := ⟨_, rfl, by omega⟩
  have KU : Hid (∀ (W : World) (lo hi : Nat) (Z Y : Option Addr) (C D : Nat), WordIn W u v lo hi Z Y → hi ≤ W.heap.size → Calls Try.prog 32 #[.agg #[.slice Z u.length C, .slice Y v.length D], .int .i64 1] W fun e w' => e = .returned (.int .i64 mm) ∧ WordIn w' (ramp 1 u.length) (ramp (1 + u.length) v.length) lo hi Z Y ∧ ButIn lo hi W w') :=
    fun W lo hi Z Y C D h hz => (markWord_any u v hu.out.1 hu.out.2 1 (by omega) (by omega) lo hi Z Y C D W h hz).mono fun e w' ⟨he, hi, hb⟩ => ⟨by rw [hmm]; exact he, hi, hb⟩
  have KH : Hid (∀ (W : World) (lo hi : Nat) (Z Y : Option Addr) (C D : Nat), WordIn W (ramp 1 u.length) (ramp (1 + u.length) v.length) lo hi Z Y → hi ≤ W.heap.size → Calls Try.prog 33 #[.agg #[.slice Z u.length C, .slice Y v.length D], .int .i64 1] W fun e w' => e = .returned (.int .i64 mm) ∧ Below W.heap.size W w') :=
    fun W lo hi Z Y C D h hz => (heldWord_any u.length v.length hu.out.1 hu.out.2 1 (by omega) (by omega) lo hi Z Y C D W h hz).mono fun e w' ⟨he, hb⟩ => ⟨by rw [hmm]; exact he, hb⟩
  have KQ : Hid (∀ (W : World) (Z Y Z' Y' : Option Addr) (C D C' D' : Nat), Ints W u Z → Ints W v Y → Ints W u Z' → Ints W v Y' → Calls Try.prog 29 #[.agg #[.slice Z u.length C, .slice Y v.length D], .agg #[.slice Z' u.length C', .slice Y' v.length D']] W fun e w' => e = .returned (.bool true) ∧ Below W.heap.size W w') :=
    fun W Z Y Z' Y' C D C' D' h1 h2 h3 h4 => eqWord_same u v (Nat.le_trans hu.out.1 (by omega)) (Nat.le_trans hu.out.2 (by omega)) _ _ _ _ _ _ _ _ W h1 h2 h3 h4
  have tm : decide (mm < 0) = false := decide_eq_false (by omega)
  have nq : (q != q) = false := by simp
  have nm : (mm != mm) = false := by simp
  have KW2 := Lib.hid (KW.out hsmall); clear KW
  have KG2 := Lib.hid (KG.out hsmall); clear KG hsmall hmm
  go_enter Try.func9, Try.ntmps9
  go_wp2_with fail
  refine (KS1.out _ ?_).mono ?_
  · unfold Sees; go_grown
  rintro e wz0 ⟨rfl, hb⟩
  have T := St.below (w := w) (l := [(w.heap.size, 0, .int .i64 t0), (w.heap.size, 1, .int .i64 a0), (w.heap.size + 1, 0, .slice A1 p1.length C1), (w.heap.size + 1, 1, .slice B1 r1.length D1), (w.heap.size + 2, 0, .slice A2 p2.length C2), (w.heap.size + 2, 1, .slice B2 r2.length D2)]) ⟨(by unfold Sees; go_grown), (by simp [go_sem]), (by simp [go_sem]), (by simp [go_sem]), (by simp [go_sem]), (by simp [go_sem]), (by simp [go_sem]), trivial⟩ hb
  have H := Lib.hid T; clear T hb
  obtain ⟨x0, x1, x2, x3, x4, x5, x6, _⟩ := H.out
  go_wp2_with fail
  clear x0 x1 x2 x3 x4 x5 x6
  refine (KS2.out _ ?_).mono ?_
  · exact H.out.1
  rintro e wz1 ⟨rfl, hb⟩
  have T := H.out.below hb
  clear H
  have H := Lib.hid T; clear T hb
  obtain ⟨x0, x1, x2, x3, x4, x5, x6, _⟩ := H.out
  go_wp2_with fail
  clear x0 x1 x2 x3 x4 x5 x6
  have HR := Lib.hid (Rg.start H.out); clear H
  obtain ⟨x0, x1, x2, x3, x4, x5, x6, _⟩ := HR.out.st
  go_wp2_with fail
  go_cut [8, 9] (fun sp sc wx => ∃ (bq1 loq1 hiq1 : Nat) (Zq1 Yq1 : Option Addr) (Cq1 Dq1 : Nat), sp = .pointer (some ⟨bq1, 0, none⟩) ∧ sc = .int .i64 q ∧ Rg w [(bq1, 0, .slice Zq1 u.length Cq1), (bq1, 1, .slice Yq1 v.length Dq1), (w.heap.size, 0, .int .i64 t0), (w.heap.size, 1, .int .i64 a0), (w.heap.size + 1, 0, .slice A1 p1.length C1), (w.heap.size + 1, 1, .slice B1 r1.length D1), (w.heap.size + 2, 0, .slice A2 p2.length C2), (w.heap.size + 2, 1, .slice B2 r2.length D2)] (⟨u, v, loq1, hiq1, Zq1, Yq1⟩ :: []) wx)
  case first =>
    go_region_held3 (fun w' => Sees w w' ∧ w'.cell? ⟨w.heap.size, 0, none⟩ = some (.int .i64 t0) ∧ w'.cell? ⟨w.heap.size, 1, none⟩ = some (.int .i64 a0) ∧ w'.cell? ⟨w.heap.size + 1, 0, none⟩ = some (.slice A1 p1.length C1) ∧ w'.cell? ⟨w.heap.size + 1, 1, none⟩ = some (.slice B1 r1.length D1) ∧ w'.cell? ⟨w.heap.size + 2, 0, none⟩ = some (.slice A2 p2.length C2) ∧ w'.cell? ⟨w.heap.size + 2, 1, none⟩ = some (.slice B2 r2.length D2) ∧ True)
      (first | exact HR.out.drew.st | exact UR.st | exact U2.st | exact U1.st | exact U0.st | exact (UR.boxed _ _ _).st | exact (U2.boxed _ _ _).st | exact (U1.boxed _ _ _).st | exact (U0.boxed _ _ _).st | exact (HR.out.drew.boxed _ _ _).st | exact UR.set1 _ _ | exact UR.set0 _ | exact (UR.boxed _ _ _).set1 _ _ | exact (UR.boxed _ _ _).set0 _ | (go_keep; done))
      (first | (go_at_call 15; (with_reducible refine (KT0.out _ ?_).mono ?_); exact St.sees (l := [(w.heap.size, 0, .int .i64 t0), (w.heap.size, 1, .int .i64 a0), (w.heap.size + 1, 0, .slice A1 p1.length C1), (w.heap.size + 1, 1, .slice B1 r1.length D1), (w.heap.size + 2, 0, .slice A2 p2.length C2), (w.heap.size + 2, 1, .slice B2 r2.length D2)]) (by assumption); rintro e wc0 ⟨rfl, hb0⟩; first | have U0 := HR.out.drew.below hb0 | have U0 := (HR.out.boxedD (.slice none 0 0) (.slice none 0 0) 47).below hb0) | (go_at_call_of 27 (Value.agg #[.slice A1 p1.length C1, .slice B1 r1.length D1]); (with_reducible refine (KT1.out _ ?_).mono ?_); exact St.sees (l := [(w.heap.size, 0, .int .i64 t0), (w.heap.size, 1, .int .i64 a0), (w.heap.size + 1, 0, .slice A1 p1.length C1), (w.heap.size + 1, 1, .slice B1 r1.length D1), (w.heap.size + 2, 0, .slice A2 p2.length C2), (w.heap.size + 2, 1, .slice B2 r2.length D2)]) (by assumption); rintro e wc1 ⟨Zc1, Yc1, rfl, Ic1, hb1⟩; first | have U1 := U0.result Ic1 hb1 | have U1 := (U0.boxed (.slice none 0 0) (.slice none 0 0) 47).result Ic1 hb1) | (go_at_call_of 27 (Value.agg #[.slice A2 p2.length C2, .slice B2 r2.length D2]); (with_reducible refine (KT2.out _ ?_).mono ?_); exact St.sees (l := [(w.heap.size, 0, .int .i64 t0), (w.heap.size, 1, .int .i64 a0), (w.heap.size + 1, 0, .slice A1 p1.length C1), (w.heap.size + 1, 1, .slice B1 r1.length D1), (w.heap.size + 2, 0, .slice A2 p2.length C2), (w.heap.size + 2, 1, .slice B2 r2.length D2)]) (by assumption); rintro e wc2 ⟨Zc2, Yc2, rfl, Ic2, hb2⟩; first | have U2 := U1.result Ic2 hb2 | have U2 := (U1.boxed (.slice none 0 0) (.slice none 0 0) 47).result Ic2 hb2) | (go_at_call 34; refine (KW2.out _ _ _ _ _ ?_ ?_ ?_ ?_ ).mono ?_; (first | exact U2.tl.i1 | exact ((U2.boxed (.slice none 0 0) (.slice none 0 0) 47).tl).i1); (first | exact U2.tl.i2 | exact ((U2.boxed (.slice none 0 0) (.slice none 0 0) 47).tl).i2); (first | exact U2.i1 | exact ((U2.boxed (.slice none 0 0) (.slice none 0 0) 47)).i1); (first | exact U2.i2 | exact ((U2.boxed (.slice none 0 0) (.slice none 0 0) 47)).i2); rintro e wr ⟨Zr, Yr, Cr, Dr, rfl, Ir, hbr⟩; (first | have UR := (U2.result Ir hbr).skip.skip | have UR := ((U2.boxed (.slice none 0 0) (.slice none 0 0) 47).result Ir hbr).skip.skip); (try simp only [World.size_alloc] at UR); (first | (obtain ⟨c0, c1, f0, f1⟩ := UR.facts) | skip)))
    all_goals (go_wp2_with fail; go_meet; first | exact ⟨_, _, _, _, _, _, _, rfl, rfl, UR.fill _ _⟩ | exact ⟨_, _, _, _, _, _, _, rfl, rfl, (UR.boxed _ _ _).fill _ _⟩ | exact ⟨_, _, _, _, _, _, _, rfl, rfl, (UR.boxed _ _ _).rg⟩)
  case rest =>
  obtain ⟨bq1, loq1, hiq1, Zq1, Yq1, Cq1, Dq1, rfl, rfl, T⟩ := hcut
  clear x0 x1 x2 x3 x4 x5 x6
  clear HR; have HR := Lib.hid T; clear T
  obtain ⟨x0, x1, x2, x3, x4, x5, x6, x7, x8, _⟩ := HR.out.st
  go_wp2_with fail
  refine (KT1.out _ x0).mono ?_
  rintro e wd1 ⟨Zd1, Yd1, rfl, Id1, hbd⟩
  have T := ((HR.out.result Id1 hbd).boxed (.slice Zd1 p1.length p1.length) (.slice Yd1 r1.length r1.length) 47).rg
  clear x0 x1 x2 x3 x4 x5 x6 x7 x8
  have HR' : Hid (∃ lo hi, Rg w [(wd1.heap.size, 0, .slice Zd1 p1.length p1.length), (wd1.heap.size, 1, .slice Yd1 r1.length r1.length), (bq1, 0, .slice Zq1 u.length Cq1), (bq1, 1, .slice Yq1 v.length Dq1), (w.heap.size, 0, .int .i64 t0), (w.heap.size, 1, .int .i64 a0), (w.heap.size + 1, 0, .slice A1 p1.length C1), (w.heap.size + 1, 1, .slice B1 r1.length D1), (w.heap.size + 2, 0, .slice A2 p2.length C2), (w.heap.size + 2, 1, .slice B2 r2.length D2)] (⟨p1, r1, lo, hi, Zd1, Yd1⟩ :: [⟨u, v, loq1, hiq1, Zq1, Yq1⟩]) _) := ⟨_, _, T⟩
  obtain ⟨lod1, hid1, T2⟩ := HR'.out
  clear HR HR' T Id1 hbd; have HR := Lib.hid T2; clear T2
  obtain ⟨x0, x1, x2, x3, x4, x5, x6, x7, x8, x9, x10, _⟩ := HR.out.st
  go_wp2_with fail
  refine (KT2.out _ x0).mono ?_
  rintro e wd2 ⟨Zd2, Yd2, rfl, Id2, hbd⟩
  have T := ((HR.out.result Id2 hbd).boxed (.slice Zd2 p2.length p2.length) (.slice Yd2 r2.length r2.length) 47).rg
  clear x0 x1 x2 x3 x4 x5 x6 x7 x8 x9 x10
  have HR' : Hid (∃ lo hi, Rg w [(wd2.heap.size, 0, .slice Zd2 p2.length p2.length), (wd2.heap.size, 1, .slice Yd2 r2.length r2.length), (wd1.heap.size, 0, .slice Zd1 p1.length p1.length), (wd1.heap.size, 1, .slice Yd1 r1.length r1.length), (bq1, 0, .slice Zq1 u.length Cq1), (bq1, 1, .slice Yq1 v.length Dq1), (w.heap.size, 0, .int .i64 t0), (w.heap.size, 1, .int .i64 a0), (w.heap.size + 1, 0, .slice A1 p1.length C1), (w.heap.size + 1, 1, .slice B1 r1.length D1), (w.heap.size + 2, 0, .slice A2 p2.length C2), (w.heap.size + 2, 1, .slice B2 r2.length D2)] (⟨p2, r2, lo, hi, Zd2, Yd2⟩ :: [⟨p1, r1, lod1, hid1, Zd1, Yd1⟩, ⟨u, v, loq1, hiq1, Zq1, Yq1⟩]) _) := ⟨_, _, T⟩
  obtain ⟨lod2, hid2, T2⟩ := HR'.out
  clear HR HR' T Id2 hbd; have HR := Lib.hid T2; clear T2
  obtain ⟨x0, x1, x2, x3, x4, x5, x6, x7, x8, x9, x10, x11, x12, _⟩ := HR.out.st
  go_wp2_with fail
  go_cut [12, 13] (fun sp sc wx => ∃ (bq4 loq4 hiq4 : Nat) (Zq4 Yq4 : Option Addr) (Cq4 Dq4 : Nat), sp = .pointer (some ⟨bq4, 0, none⟩) ∧ sc = .int .i64 q ∧ Rg w [(bq4, 0, .slice Zq4 u.length Cq4), (bq4, 1, .slice Yq4 v.length Dq4), (wd2.heap.size, 0, .slice Zd2 p2.length p2.length), (wd2.heap.size, 1, .slice Yd2 r2.length r2.length), (wd1.heap.size, 0, .slice Zd1 p1.length p1.length), (wd1.heap.size, 1, .slice Yd1 r1.length r1.length), (bq1, 0, .slice Zq1 u.length Cq1), (bq1, 1, .slice Yq1 v.length Dq1), (w.heap.size, 0, .int .i64 t0), (w.heap.size, 1, .int .i64 a0), (w.heap.size + 1, 0, .slice A1 p1.length C1), (w.heap.size + 1, 1, .slice B1 r1.length D1), (w.heap.size + 2, 0, .slice A2 p2.length C2), (w.heap.size + 2, 1, .slice B2 r2.length D2)] (⟨u, v, loq4, hiq4, Zq4, Yq4⟩ :: [⟨p2, r2, lod2, hid2, Zd2, Yd2⟩, ⟨p1, r1, lod1, hid1, Zd1, Yd1⟩, ⟨u, v, loq1, hiq1, Zq1, Yq1⟩]) wx)
  case first =>
    go_region_held3 (fun w' => Sees w w' ∧ w'.cell? ⟨wd2.heap.size, 0, none⟩ = some (.slice Zd2 p2.length p2.length) ∧ w'.cell? ⟨wd2.heap.size, 1, none⟩ = some (.slice Yd2 r2.length r2.length) ∧ w'.cell? ⟨wd1.heap.size, 0, none⟩ = some (.slice Zd1 p1.length p1.length) ∧ w'.cell? ⟨wd1.heap.size, 1, none⟩ = some (.slice Yd1 r1.length r1.length) ∧ w'.cell? ⟨bq1, 0, none⟩ = some (.slice Zq1 u.length Cq1) ∧ w'.cell? ⟨bq1, 1, none⟩ = some (.slice Yq1 v.length Dq1) ∧ w'.cell? ⟨w.heap.size, 0, none⟩ = some (.int .i64 t0) ∧ w'.cell? ⟨w.heap.size, 1, none⟩ = some (.int .i64 a0) ∧ w'.cell? ⟨w.heap.size + 1, 0, none⟩ = some (.slice A1 p1.length C1) ∧ w'.cell? ⟨w.heap.size + 1, 1, none⟩ = some (.slice B1 r1.length D1) ∧ w'.cell? ⟨w.heap.size + 2, 0, none⟩ = some (.slice A2 p2.length C2) ∧ w'.cell? ⟨w.heap.size + 2, 1, none⟩ = some (.slice B2 r2.length D2) ∧ True)
      (first | exact HR.out.drew.st | exact UR.st | exact U0.st | exact (UR.boxed _ _ _).st | exact (U0.boxed _ _ _).st | exact (HR.out.drew.boxed _ _ _).st | exact UR.set1 _ _ | exact UR.set0 _ | exact (UR.boxed _ _ _).set1 _ _ | exact (UR.boxed _ _ _).set0 _ | (go_keep; done))
      (first | (go_at_call 15; (with_reducible refine (KT0.out _ ?_).mono ?_); exact St.sees (l := [(wd2.heap.size, 0, .slice Zd2 p2.length p2.length), (wd2.heap.size, 1, .slice Yd2 r2.length r2.length), (wd1.heap.size, 0, .slice Zd1 p1.length p1.length), (wd1.heap.size, 1, .slice Yd1 r1.length r1.length), (bq1, 0, .slice Zq1 u.length Cq1), (bq1, 1, .slice Yq1 v.length Dq1), (w.heap.size, 0, .int .i64 t0), (w.heap.size, 1, .int .i64 a0), (w.heap.size + 1, 0, .slice A1 p1.length C1), (w.heap.size + 1, 1, .slice B1 r1.length D1), (w.heap.size + 2, 0, .slice A2 p2.length C2), (w.heap.size + 2, 1, .slice B2 r2.length D2)]) (by assumption); rintro e wc0 ⟨rfl, hb0⟩; first | have U0 := HR.out.drew.below hb0 | have U0 := (HR.out.boxedD (.slice none 0 0) (.slice none 0 0) 47).below hb0) | (go_at_call 35; refine (KG2.out _ _ _ _ _ ?_ ?_ ?_ ?_ ).mono ?_; (first | exact U0.tl.i1 | exact ((U0.boxed (.slice none 0 0) (.slice none 0 0) 47).tl).i1); (first | exact U0.tl.i2 | exact ((U0.boxed (.slice none 0 0) (.slice none 0 0) 47).tl).i2); (first | exact U0.i1 | exact ((U0.boxed (.slice none 0 0) (.slice none 0 0) 47)).i1); (first | exact U0.i2 | exact ((U0.boxed (.slice none 0 0) (.slice none 0 0) 47)).i2); rintro e wr ⟨Zr, Yr, Cr, Dr, rfl, Ir, hbr⟩; (first | have UR := (U0.result Ir hbr) | have UR := ((U0.boxed (.slice none 0 0) (.slice none 0 0) 47).result Ir hbr)); (try simp only [World.size_alloc] at UR); (first | (obtain ⟨c0, c1, f0, f1⟩ := UR.facts) | skip)))
    all_goals (go_wp2_with fail; go_meet; first | exact ⟨_, _, _, _, _, _, _, rfl, rfl, UR.fill _ _⟩ | exact ⟨_, _, _, _, _, _, _, rfl, rfl, (UR.boxed _ _ _).fill _ _⟩ | exact ⟨_, _, _, _, _, _, _, rfl, rfl, (UR.boxed _ _ _).rg⟩)
  case rest =>
  obtain ⟨bq4, loq4, hiq4, Zq4, Yq4, Cq4, Dq4, rfl, rfl, T⟩ := hcut
  clear x0 x1 x2 x3 x4 x5 x6 x7 x8 x9 x10 x11 x12
  clear HR; have HR := Lib.hid T; clear T
  obtain ⟨x0, x1, x2, x3, x4, x5, x6, x7, x8, x9, x10, x11, x12, x13, x14, _⟩ := HR.out.st
  go_wp2_with fail
  refine (KQ.out _ _ _ _ _ _ _ _ _ (HR.out.i1) (HR.out.i2) (HR.out.tl.tl.tl.i1) (HR.out.tl.tl.tl.i2)).mono ?_
  rintro e wq5 ⟨rfl, hb⟩
  have T := HR.out.below hb
  clear x0 x1 x2 x3 x4 x5 x6 x7 x8 x9 x10 x11 x12 x13 x14
  clear HR hb; have HR := Lib.hid T; clear T
  obtain ⟨x0, x1, x2, x3, x4, x5, x6, x7, x8, x9, x10, x11, x12, x13, x14, _⟩ := HR.out.st
  go_wp2_with fail
  go_region_held3 (fun w' => Sees w w' ∧ w'.cell? ⟨bq4, 0, none⟩ = some (.slice Zq4 u.length Cq4) ∧ w'.cell? ⟨bq4, 1, none⟩ = some (.slice Yq4 v.length Dq4) ∧ w'.cell? ⟨wd2.heap.size, 0, none⟩ = some (.slice Zd2 p2.length p2.length) ∧ w'.cell? ⟨wd2.heap.size, 1, none⟩ = some (.slice Yd2 r2.length r2.length) ∧ w'.cell? ⟨wd1.heap.size, 0, none⟩ = some (.slice Zd1 p1.length p1.length) ∧ w'.cell? ⟨wd1.heap.size, 1, none⟩ = some (.slice Yd1 r1.length r1.length) ∧ w'.cell? ⟨bq1, 0, none⟩ = some (.slice Zq1 u.length Cq1) ∧ w'.cell? ⟨bq1, 1, none⟩ = some (.slice Yq1 v.length Dq1) ∧ w'.cell? ⟨w.heap.size, 0, none⟩ = some (.int .i64 t0) ∧ w'.cell? ⟨w.heap.size, 1, none⟩ = some (.int .i64 a0) ∧ w'.cell? ⟨w.heap.size + 1, 0, none⟩ = some (.slice A1 p1.length C1) ∧ w'.cell? ⟨w.heap.size + 1, 1, none⟩ = some (.slice B1 r1.length D1) ∧ w'.cell? ⟨w.heap.size + 2, 0, none⟩ = some (.slice A2 p2.length C2) ∧ w'.cell? ⟨w.heap.size + 2, 1, none⟩ = some (.slice B2 r2.length D2) ∧ True)
    (first | exact HR.out.drew.st | exact UE6.st | exact UT6.st | (go_keep; done))
    (first | (go_at_call 27; (with_reducible refine (KT1.out _ ?_).mono ?_); exact St.sees (l := [(bq4, 0, .slice Zq4 u.length Cq4), (bq4, 1, .slice Yq4 v.length Dq4), (wd2.heap.size, 0, .slice Zd2 p2.length p2.length), (wd2.heap.size, 1, .slice Yd2 r2.length r2.length), (wd1.heap.size, 0, .slice Zd1 p1.length p1.length), (wd1.heap.size, 1, .slice Yd1 r1.length r1.length), (bq1, 0, .slice Zq1 u.length Cq1), (bq1, 1, .slice Yq1 v.length Dq1), (w.heap.size, 0, .int .i64 t0), (w.heap.size, 1, .int .i64 a0), (w.heap.size + 1, 0, .slice A1 p1.length C1), (w.heap.size + 1, 1, .slice B1 r1.length D1), (w.heap.size + 2, 0, .slice A2 p2.length C2), (w.heap.size + 2, 1, .slice B2 r2.length D2)]) (by assumption); rintro e wt6 ⟨Zt6, Yt6, rfl, It6, hbt6⟩; have UT6 := HR.out.drew.result It6 hbt6) | (go_at_call 29; refine (KE1.out _ _ _ _ _ UT6.tl.tl.tl.i1 UT6.tl.tl.tl.i2 UT6.i1 UT6.i2).mono ?_; rintro e we6 ⟨rfl, hbe6⟩; have UE6 := (UT6.below hbe6).tl))
  clear x0 x1 x2 x3 x4 x5 x6 x7 x8 x9 x10 x11 x12 x13 x14
  clear HR; have HR := Lib.hid UE6; clear UE6 UT6 It6 hbt6 hbe6
  obtain ⟨x0, x1, x2, x3, x4, x5, x6, x7, x8, x9, x10, x11, x12, x13, x14, _⟩ := HR.out.st
  go_wp2_with fail
  go_region_held3 (fun w' => Sees w w' ∧ w'.cell? ⟨bq4, 0, none⟩ = some (.slice Zq4 u.length Cq4) ∧ w'.cell? ⟨bq4, 1, none⟩ = some (.slice Yq4 v.length Dq4) ∧ w'.cell? ⟨wd2.heap.size, 0, none⟩ = some (.slice Zd2 p2.length p2.length) ∧ w'.cell? ⟨wd2.heap.size, 1, none⟩ = some (.slice Yd2 r2.length r2.length) ∧ w'.cell? ⟨wd1.heap.size, 0, none⟩ = some (.slice Zd1 p1.length p1.length) ∧ w'.cell? ⟨wd1.heap.size, 1, none⟩ = some (.slice Yd1 r1.length r1.length) ∧ w'.cell? ⟨bq1, 0, none⟩ = some (.slice Zq1 u.length Cq1) ∧ w'.cell? ⟨bq1, 1, none⟩ = some (.slice Yq1 v.length Dq1) ∧ w'.cell? ⟨w.heap.size, 0, none⟩ = some (.int .i64 t0) ∧ w'.cell? ⟨w.heap.size, 1, none⟩ = some (.int .i64 a0) ∧ w'.cell? ⟨w.heap.size + 1, 0, none⟩ = some (.slice A1 p1.length C1) ∧ w'.cell? ⟨w.heap.size + 1, 1, none⟩ = some (.slice B1 r1.length D1) ∧ w'.cell? ⟨w.heap.size + 2, 0, none⟩ = some (.slice A2 p2.length C2) ∧ w'.cell? ⟨w.heap.size + 2, 1, none⟩ = some (.slice B2 r2.length D2) ∧ True)
    (first | exact HR.out.drew.st | exact UE7.st | exact UT7.st | (go_keep; done))
    (first | (go_at_call 27; (with_reducible refine (KT2.out _ ?_).mono ?_); exact St.sees (l := [(bq4, 0, .slice Zq4 u.length Cq4), (bq4, 1, .slice Yq4 v.length Dq4), (wd2.heap.size, 0, .slice Zd2 p2.length p2.length), (wd2.heap.size, 1, .slice Yd2 r2.length r2.length), (wd1.heap.size, 0, .slice Zd1 p1.length p1.length), (wd1.heap.size, 1, .slice Yd1 r1.length r1.length), (bq1, 0, .slice Zq1 u.length Cq1), (bq1, 1, .slice Yq1 v.length Dq1), (w.heap.size, 0, .int .i64 t0), (w.heap.size, 1, .int .i64 a0), (w.heap.size + 1, 0, .slice A1 p1.length C1), (w.heap.size + 1, 1, .slice B1 r1.length D1), (w.heap.size + 2, 0, .slice A2 p2.length C2), (w.heap.size + 2, 1, .slice B2 r2.length D2)]) (by assumption); rintro e wt7 ⟨Zt7, Yt7, rfl, It7, hbt7⟩; have UT7 := HR.out.drew.result It7 hbt7) | (go_at_call 29; refine (KE2.out _ _ _ _ _ UT7.tl.tl.i1 UT7.tl.tl.i2 UT7.i1 UT7.i2).mono ?_; rintro e we7 ⟨rfl, hbe7⟩; have UE7 := (UT7.below hbe7).tl))
  clear x0 x1 x2 x3 x4 x5 x6 x7 x8 x9 x10 x11 x12 x13 x14
  clear HR; have HR := Lib.hid UE7; clear UE7 UT7 It7 hbt7 hbe7
  obtain ⟨x0, x1, x2, x3, x4, x5, x6, x7, x8, x9, x10, x11, x12, x13, x14, _⟩ := HR.out.st
  go_wp2_with fail
  refine (KM1.out _ _ _ _ _ _ _ HR.out.tl.tl.hd HR.out.tl.tl.top).mono ?_
  rintro e wm8 ⟨rfl, hb⟩
  have T := Rg.mark (O1 := [⟨u, v, loq4, hiq4, Zq4, Yq4⟩, ⟨p2, r2, lod2, hid2, Zd2, Yd2⟩]) (O2 := [⟨u, v, loq1, hiq1, Zq1, Yq1⟩]) HR.out hb
  clear x0 x1 x2 x3 x4 x5 x6 x7 x8 x9 x10 x11 x12 x13 x14
  clear HR hb; have HR := Lib.hid T; clear T
  have HR2 : Hid (Rg w [(bq4, 0, .slice Zq4 u.length Cq4), (bq4, 1, .slice Yq4 v.length Dq4), (wd2.heap.size, 0, .slice Zd2 p2.length p2.length), (wd2.heap.size, 1, .slice Yd2 r2.length r2.length), (wd1.heap.size, 0, .slice Zd1 p1.length p1.length), (wd1.heap.size, 1, .slice Yd1 r1.length r1.length), (bq1, 0, .slice Zq1 u.length Cq1), (bq1, 1, .slice Yq1 v.length Dq1), (w.heap.size, 0, .int .i64 t0), (w.heap.size, 1, .int .i64 a0), (w.heap.size + 1, 0, .slice A1 p1.length C1), (w.heap.size + 1, 1, .slice B1 r1.length D1), (w.heap.size + 2, 0, .slice A2 p2.length C2), (w.heap.size + 2, 1, .slice B2 r2.length D2)] [⟨u, v, loq4, hiq4, Zq4, Yq4⟩, ⟨p2, r2, lod2, hid2, Zd2, Yd2⟩, ⟨u, v, loq1, hiq1, Zq1, Yq1⟩] wm8) := HR.out
  clear HR; have HR := HR2; clear HR2
  obtain ⟨x0, x1, x2, x3, x4, x5, x6, x7, x8, x9, x10, x11, x12, x13, x14, _⟩ := HR.out.st
  go_wp2_with fail
  refine (KM2.out _ _ _ _ _ _ _ HR.out.tl.hd HR.out.tl.top).mono ?_
  rintro e wm9 ⟨rfl, hb⟩
  have T := Rg.mark (O1 := [⟨u, v, loq4, hiq4, Zq4, Yq4⟩]) (O2 := [⟨u, v, loq1, hiq1, Zq1, Yq1⟩]) HR.out hb
  clear x0 x1 x2 x3 x4 x5 x6 x7 x8 x9 x10 x11 x12 x13 x14
  clear HR hb; have HR := Lib.hid T; clear T
  have HR2 : Hid (Rg w [(bq4, 0, .slice Zq4 u.length Cq4), (bq4, 1, .slice Yq4 v.length Dq4), (wd2.heap.size, 0, .slice Zd2 p2.length p2.length), (wd2.heap.size, 1, .slice Yd2 r2.length r2.length), (wd1.heap.size, 0, .slice Zd1 p1.length p1.length), (wd1.heap.size, 1, .slice Yd1 r1.length r1.length), (bq1, 0, .slice Zq1 u.length Cq1), (bq1, 1, .slice Yq1 v.length Dq1), (w.heap.size, 0, .int .i64 t0), (w.heap.size, 1, .int .i64 a0), (w.heap.size + 1, 0, .slice A1 p1.length C1), (w.heap.size + 1, 1, .slice B1 r1.length D1), (w.heap.size + 2, 0, .slice A2 p2.length C2), (w.heap.size + 2, 1, .slice B2 r2.length D2)] [⟨u, v, loq4, hiq4, Zq4, Yq4⟩, ⟨u, v, loq1, hiq1, Zq1, Yq1⟩] wm9) := HR.out
  clear HR; have HR := HR2; clear HR2
  obtain ⟨x0, x1, x2, x3, x4, x5, x6, x7, x8, x9, x10, x11, x12, x13, x14, _⟩ := HR.out.st
  go_wp2_with fail
  refine (KQ.out _ _ _ _ _ _ _ _ _ (HR.out.i1) (HR.out.i2) (HR.out.tl.i1) (HR.out.tl.i2)).mono ?_
  rintro e wq10 ⟨rfl, hb⟩
  have T := HR.out.below hb
  clear x0 x1 x2 x3 x4 x5 x6 x7 x8 x9 x10 x11 x12 x13 x14
  clear HR hb; have HR := Lib.hid T; clear T
  obtain ⟨x0, x1, x2, x3, x4, x5, x6, x7, x8, x9, x10, x11, x12, x13, x14, _⟩ := HR.out.st
  go_wp2_with fail
  refine (KU.out _ _ _ _ _ _ _ HR.out.hd HR.out.top).mono ?_
  rintro e wm11 ⟨rfl, hw, hb⟩
  have T := HR.out.marked hb hw
  clear x0 x1 x2 x3 x4 x5 x6 x7 x8 x9 x10 x11 x12 x13 x14
  clear HR hb hw; have HR := Lib.hid T; clear T
  obtain ⟨x0, x1, x2, x3, x4, x5, x6, x7, x8, x9, x10, x11, x12, x13, x14, _⟩ := HR.out.st
  go_wp2_with fail
  refine (KH.out _ _ _ _ _ _ _ HR.out.hd HR.out.top).mono ?_
  rintro e wh12 ⟨rfl, hb⟩
  have T := HR.out.below hb
  clear x0 x1 x2 x3 x4 x5 x6 x7 x8 x9 x10 x11 x12 x13 x14
  clear HR hb; have HR := Lib.hid T; clear T
  obtain ⟨x0, x1, x2, x3, x4, x5, x6, x7, x8, x9, x10, x11, x12, x13, x14, _⟩ := HR.out.st
  go_wp2_with fail
  go_cut [17, 18] (fun sp sc wx => ∃ (bq13 loq13 hiq13 : Nat) (Zq13 Yq13 : Option Addr) (Cq13 Dq13 : Nat), sp = .pointer (some ⟨bq13, 0, none⟩) ∧ sc = .int .i64 q ∧ Rg w [(bq13, 0, .slice Zq13 u.length Cq13), (bq13, 1, .slice Yq13 v.length Dq13), (bq4, 0, .slice Zq4 u.length Cq4), (bq4, 1, .slice Yq4 v.length Dq4), (wd2.heap.size, 0, .slice Zd2 p2.length p2.length), (wd2.heap.size, 1, .slice Yd2 r2.length r2.length), (wd1.heap.size, 0, .slice Zd1 p1.length p1.length), (wd1.heap.size, 1, .slice Yd1 r1.length r1.length), (bq1, 0, .slice Zq1 u.length Cq1), (bq1, 1, .slice Yq1 v.length Dq1), (w.heap.size, 0, .int .i64 t0), (w.heap.size, 1, .int .i64 a0), (w.heap.size + 1, 0, .slice A1 p1.length C1), (w.heap.size + 1, 1, .slice B1 r1.length D1), (w.heap.size + 2, 0, .slice A2 p2.length C2), (w.heap.size + 2, 1, .slice B2 r2.length D2)] (⟨u, v, loq13, hiq13, Zq13, Yq13⟩ :: [⟨(ramp 1 u.length), (ramp (1 + u.length) v.length), loq4, hiq4, Zq4, Yq4⟩, ⟨u, v, loq1, hiq1, Zq1, Yq1⟩]) wx)
  case first =>
    go_region_held3 (fun w' => Sees w w' ∧ w'.cell? ⟨bq4, 0, none⟩ = some (.slice Zq4 u.length Cq4) ∧ w'.cell? ⟨bq4, 1, none⟩ = some (.slice Yq4 v.length Dq4) ∧ w'.cell? ⟨wd2.heap.size, 0, none⟩ = some (.slice Zd2 p2.length p2.length) ∧ w'.cell? ⟨wd2.heap.size, 1, none⟩ = some (.slice Yd2 r2.length r2.length) ∧ w'.cell? ⟨wd1.heap.size, 0, none⟩ = some (.slice Zd1 p1.length p1.length) ∧ w'.cell? ⟨wd1.heap.size, 1, none⟩ = some (.slice Yd1 r1.length r1.length) ∧ w'.cell? ⟨bq1, 0, none⟩ = some (.slice Zq1 u.length Cq1) ∧ w'.cell? ⟨bq1, 1, none⟩ = some (.slice Yq1 v.length Dq1) ∧ w'.cell? ⟨w.heap.size, 0, none⟩ = some (.int .i64 t0) ∧ w'.cell? ⟨w.heap.size, 1, none⟩ = some (.int .i64 a0) ∧ w'.cell? ⟨w.heap.size + 1, 0, none⟩ = some (.slice A1 p1.length C1) ∧ w'.cell? ⟨w.heap.size + 1, 1, none⟩ = some (.slice B1 r1.length D1) ∧ w'.cell? ⟨w.heap.size + 2, 0, none⟩ = some (.slice A2 p2.length C2) ∧ w'.cell? ⟨w.heap.size + 2, 1, none⟩ = some (.slice B2 r2.length D2) ∧ True)
      (first | exact HR.out.drew.st | exact UR.st | exact U2.st | exact U1.st | exact U0.st | exact (UR.boxed _ _ _).st | exact (U2.boxed _ _ _).st | exact (U1.boxed _ _ _).st | exact (U0.boxed _ _ _).st | exact (HR.out.drew.boxed _ _ _).st | exact UR.set1 _ _ | exact UR.set0 _ | exact (UR.boxed _ _ _).set1 _ _ | exact (UR.boxed _ _ _).set0 _ | (go_keep; done))
      (first | (go_at_call 15; (with_reducible refine (KT0.out _ ?_).mono ?_); exact St.sees (l := [(bq4, 0, .slice Zq4 u.length Cq4), (bq4, 1, .slice Yq4 v.length Dq4), (wd2.heap.size, 0, .slice Zd2 p2.length p2.length), (wd2.heap.size, 1, .slice Yd2 r2.length r2.length), (wd1.heap.size, 0, .slice Zd1 p1.length p1.length), (wd1.heap.size, 1, .slice Yd1 r1.length r1.length), (bq1, 0, .slice Zq1 u.length Cq1), (bq1, 1, .slice Yq1 v.length Dq1), (w.heap.size, 0, .int .i64 t0), (w.heap.size, 1, .int .i64 a0), (w.heap.size + 1, 0, .slice A1 p1.length C1), (w.heap.size + 1, 1, .slice B1 r1.length D1), (w.heap.size + 2, 0, .slice A2 p2.length C2), (w.heap.size + 2, 1, .slice B2 r2.length D2)]) (by assumption); rintro e wc0 ⟨rfl, hb0⟩; first | have U0 := HR.out.drew.below hb0 | have U0 := (HR.out.boxedD (.slice none 0 0) (.slice none 0 0) 47).below hb0) | (go_at_call_of 27 (Value.agg #[.slice A1 p1.length C1, .slice B1 r1.length D1]); (with_reducible refine (KT1.out _ ?_).mono ?_); exact St.sees (l := [(bq4, 0, .slice Zq4 u.length Cq4), (bq4, 1, .slice Yq4 v.length Dq4), (wd2.heap.size, 0, .slice Zd2 p2.length p2.length), (wd2.heap.size, 1, .slice Yd2 r2.length r2.length), (wd1.heap.size, 0, .slice Zd1 p1.length p1.length), (wd1.heap.size, 1, .slice Yd1 r1.length r1.length), (bq1, 0, .slice Zq1 u.length Cq1), (bq1, 1, .slice Yq1 v.length Dq1), (w.heap.size, 0, .int .i64 t0), (w.heap.size, 1, .int .i64 a0), (w.heap.size + 1, 0, .slice A1 p1.length C1), (w.heap.size + 1, 1, .slice B1 r1.length D1), (w.heap.size + 2, 0, .slice A2 p2.length C2), (w.heap.size + 2, 1, .slice B2 r2.length D2)]) (by assumption); rintro e wc1 ⟨Zc1, Yc1, rfl, Ic1, hb1⟩; first | have U1 := U0.result Ic1 hb1 | have U1 := (U0.boxed (.slice none 0 0) (.slice none 0 0) 47).result Ic1 hb1) | (go_at_call_of 27 (Value.agg #[.slice A2 p2.length C2, .slice B2 r2.length D2]); (with_reducible refine (KT2.out _ ?_).mono ?_); exact St.sees (l := [(bq4, 0, .slice Zq4 u.length Cq4), (bq4, 1, .slice Yq4 v.length Dq4), (wd2.heap.size, 0, .slice Zd2 p2.length p2.length), (wd2.heap.size, 1, .slice Yd2 r2.length r2.length), (wd1.heap.size, 0, .slice Zd1 p1.length p1.length), (wd1.heap.size, 1, .slice Yd1 r1.length r1.length), (bq1, 0, .slice Zq1 u.length Cq1), (bq1, 1, .slice Yq1 v.length Dq1), (w.heap.size, 0, .int .i64 t0), (w.heap.size, 1, .int .i64 a0), (w.heap.size + 1, 0, .slice A1 p1.length C1), (w.heap.size + 1, 1, .slice B1 r1.length D1), (w.heap.size + 2, 0, .slice A2 p2.length C2), (w.heap.size + 2, 1, .slice B2 r2.length D2)]) (by assumption); rintro e wc2 ⟨Zc2, Yc2, rfl, Ic2, hb2⟩; first | have U2 := U1.result Ic2 hb2 | have U2 := (U1.boxed (.slice none 0 0) (.slice none 0 0) 47).result Ic2 hb2) | (go_at_call 35; refine (KG2.out _ _ _ _ _ ?_ ?_ ?_ ?_ ).mono ?_; (first | exact U2.tl.i1 | exact ((U2.boxed (.slice none 0 0) (.slice none 0 0) 47).tl).i1); (first | exact U2.tl.i2 | exact ((U2.boxed (.slice none 0 0) (.slice none 0 0) 47).tl).i2); (first | exact U2.i1 | exact ((U2.boxed (.slice none 0 0) (.slice none 0 0) 47)).i1); (first | exact U2.i2 | exact ((U2.boxed (.slice none 0 0) (.slice none 0 0) 47)).i2); rintro e wr ⟨Zr, Yr, Cr, Dr, rfl, Ir, hbr⟩; (first | have UR := (U2.result Ir hbr).skip.skip | have UR := ((U2.boxed (.slice none 0 0) (.slice none 0 0) 47).result Ir hbr).skip.skip); (try simp only [World.size_alloc] at UR); (first | (obtain ⟨c0, c1, f0, f1⟩ := UR.facts) | skip)))
    all_goals (go_wp2_with fail; go_meet; first | exact ⟨_, _, _, _, _, _, _, rfl, rfl, UR.fill _ _⟩ | exact ⟨_, _, _, _, _, _, _, rfl, rfl, (UR.boxed _ _ _).fill _ _⟩ | exact ⟨_, _, _, _, _, _, _, rfl, rfl, (UR.boxed _ _ _).rg⟩)
  case rest =>
  obtain ⟨bq13, loq13, hiq13, Zq13, Yq13, Cq13, Dq13, rfl, rfl, T⟩ := hcut
  clear x0 x1 x2 x3 x4 x5 x6 x7 x8 x9 x10 x11 x12 x13 x14
  clear HR; have HR := Lib.hid T; clear T
  obtain ⟨x0, x1, x2, x3, x4, x5, x6, x7, x8, x9, x10, x11, x12, x13, x14, x15, x16, _⟩ := HR.out.st
  go_wp2_with fail
  refine (KQ.out _ _ _ _ _ _ _ _ _ (HR.out.i1) (HR.out.i2) (HR.out.tl.tl.i1) (HR.out.tl.tl.i2)).mono ?_
  rintro e wq14 ⟨rfl, hb⟩
  have T := HR.out.below hb
  clear x0 x1 x2 x3 x4 x5 x6 x7 x8 x9 x10 x11 x12 x13 x14 x15 x16
  clear HR hb; have HR := Lib.hid T; clear T
  obtain ⟨x0, x1, x2, x3, x4, x5, x6, x7, x8, x9, x10, x11, x12, x13, x14, x15, x16, _⟩ := HR.out.st
  go_wp2_with fail
  refine (KH.out _ _ _ _ _ _ _ HR.out.tl.hd HR.out.tl.top).mono ?_
  rintro e wh15 ⟨rfl, hb⟩
  have T := HR.out.below hb
  clear x0 x1 x2 x3 x4 x5 x6 x7 x8 x9 x10 x11 x12 x13 x14 x15 x16
  clear HR hb; have HR := Lib.hid T; clear T
  obtain ⟨x0, x1, x2, x3, x4, x5, x6, x7, x8, x9, x10, x11, x12, x13, x14, x15, x16, _⟩ := HR.out.st
  go_wp2_with fail
  go_ret
  exact ⟨rfl, HR.out.st.1⟩

end Go.Proofs.Ytcpeiajniblipaa
