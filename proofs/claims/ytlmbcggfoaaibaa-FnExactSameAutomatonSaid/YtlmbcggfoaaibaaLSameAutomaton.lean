/- The law FnExactSameAutomaton, walked, out of the contracts of both sides. -/
import Derived.Test.YtlmbcggfoaaibaaSz
import Derived.Test.YtlmbcggfoaaibaaTo
import Derived.Test.YtlmbcggfoaaibaaEq
import Derived.Test.YtlmbcggfoaaibaaAutT
import Derived.Deep.RegionHeld3
namespace Go.Proofs.Ytlmbcggfoaaibaa
open Go.RowKit

set_option maxHeartbeats 2000000 in
set_option maxRecDepth 100000 in
theorem lawSameAutomaton (t0 a0 : Int) (ac0 : List (List Bool)) (nx0 : List (List (List Int))) (A0 B0 : Option Addr) (C0 D0 : Nat) (t1 a1 : Int) (ac1 : List (List Bool)) (nx1 : List (List (List Int))) (A1 B1 : Option Addr) (C1 D1 : Nat) {q0 : Bool}
    (KW : Hid (autN ac0 nx0 ≤ 1048576 ∧ autN ac1 nx1 ≤ 1048576 → ∀ (W : World) (Z0 Y0 : Option Addr) (Z1 Y1 : Option Addr), BB 0 W ac0 Z0 → III 0 W nx0 Y0 → BB 0 W ac1 Z1 → III 0 W nx1 Y1 → Calls Try.prog 28 #[.agg #[.int .i64 t0, .int .i64 a0, .slice Z0 ac0.length ac0.length, .slice Y0 nx0.length nx0.length], .agg #[.int .i64 t1, .int .i64 a1, .slice Z1 ac1.length ac1.length, .slice Y1 nx1.length nx1.length]] W fun e w' => e = .returned (.bool q0) ∧ Below W.heap.size W w'))
    (KG : Hid (autN ac0 nx0 ≤ 1048576 ∧ autN ac1 nx1 ≤ 1048576 → ∀ (W : World) (Z0 Y0 : Option Addr) (Z1 Y1 : Option Addr), BB 0 W ac0 Z0 → III 0 W nx0 Y0 → BB 0 W ac1 Z1 → III 0 W nx1 Y1 → Calls Try.prog 30 #[.agg #[.int .i64 t0, .int .i64 a0, .slice Z0 ac0.length ac0.length, .slice Y0 nx0.length nx0.length], .agg #[.int .i64 t1, .int .i64 a1, .slice Z1 ac1.length ac1.length, .slice Y1 nx1.length nx1.length]] W fun e w' => e = .returned (.bool q0) ∧ Below W.heap.size W w'))
    (w : World) (hm0 : Hid (FitA ac0 nx0)) (hl0 : BB 0 w ac0 A0) (hr0 : III 0 w nx0 B0) (hm1 : Hid (FitA ac1 nx1)) (hl1 : BB 0 w ac1 A1) (hr1 : III 0 w nx1 B1) :
    Calls Try.prog 7 #[.agg #[.int .i64 t0, .int .i64 a0, .slice A0 ac0.length C0, .slice B0 nx0.length D0], .agg #[.int .i64 t1, .int .i64 a1, .slice A1 ac1.length C1, .slice B1 nx1.length D1]] w fun e w' => e = .returned (.bool true) ∧ Below w.heap.size w w' := by
  by_cases hbig0 : 1048576 < ((autN ac0 nx0) : Nat)
  · have hs : szR (autN ac0 nx0) 1048576 = -1 := szR_neg (by omega)
    have KS0 : Hid (∀ W : World, Sees w W → Calls Try.prog 27 #[.agg #[.int .i64 t0, .int .i64 a0, .slice A0 ac0.length C0, .slice B0 nx0.length D0], .int .i64 1048576] W fun e w' => e = .returned (.int .i64 (-1)) ∧ Below W.heap.size W w') := fun W h => by rw [← hs]; exact szAutomaton_any t0 a0 ac0 nx0 hm0.out 1048576 A0 B0 C0 D0 W (hl0.sees h) (hr0.sees h) (by omega) (by omega)
    clear hs
    go_enter Try.func7, Try.ntmps7
    go_wp2_with fail
    refine (KS0.out _ ?_).mono ?_
    · unfold Sees; go_grown
    rintro e wz0 ⟨rfl, hb⟩
    have T := St.below (w := w) (l := [(w.heap.size, 0, .int .i64 t0), (w.heap.size, 1, .int .i64 a0), (w.heap.size, 2, .slice A0 ac0.length C0), (w.heap.size, 3, .slice B0 nx0.length D0), (w.heap.size + 1, 0, .int .i64 t1), (w.heap.size + 1, 1, .int .i64 a1), (w.heap.size + 1, 2, .slice A1 ac1.length C1), (w.heap.size + 1, 3, .slice B1 nx1.length D1)]) ⟨(by unfold Sees; go_grown), (by simp [go_sem]), (by simp [go_sem]), (by simp [go_sem]), (by simp [go_sem]), (by simp [go_sem]), (by simp [go_sem]), (by simp [go_sem]), (by simp [go_sem]), trivial⟩ hb
    have H := Lib.hid T; clear T hb
    obtain ⟨x0, x1, x2, x3, x4, x5, x6, x7, x8, _⟩ := H.out
    go_wp2_with fail
    clear x0 x1 x2 x3 x4 x5 x6 x7 x8
    go_ret
    exact ⟨rfl, H.out.1⟩
  obtain ⟨s0, hs, hz0, hy0⟩ : ∃ s : Int, s = szR (autN ac0 nx0) 1048576 ∧ 0 ≤ s ∧ s ≤ 1048576 := ⟨_, rfl, by rw [szR_pos (by omega)]; omega, by rw [szR_pos (by omega)]; omega⟩
  have KS0 : Hid (∀ W : World, Sees w W → Calls Try.prog 27 #[.agg #[.int .i64 t0, .int .i64 a0, .slice A0 ac0.length C0, .slice B0 nx0.length D0], .int .i64 1048576] W fun e w' => e = .returned (.int .i64 s0) ∧ Below W.heap.size W w') := fun W h => by rw [hs]; exact szAutomaton_any t0 a0 ac0 nx0 hm0.out 1048576 A0 B0 C0 D0 W (hl0.sees h) (hr0.sees h) (by omega) (by omega)
  clear hs
  by_cases hbig1 : s0 < (((autN ac1 nx1) : Nat) : Int)
  · have hs : szR (autN ac1 nx1) s0 = -1 := szR_neg (by omega)
    have KS1 : Hid (∀ W : World, Sees w W → Calls Try.prog 27 #[.agg #[.int .i64 t1, .int .i64 a1, .slice A1 ac1.length C1, .slice B1 nx1.length D1], .int .i64 s0] W fun e w' => e = .returned (.int .i64 (-1)) ∧ Below W.heap.size W w') := fun W h => by rw [← hs]; exact szAutomaton_any t1 a1 ac1 nx1 hm1.out s0 A1 B1 C1 D1 W (hl1.sees h) (hr1.sees h) (by omega) (by omega)
    clear hs
    go_enter Try.func7, Try.ntmps7
    go_wp2_with fail
    refine (KS0.out _ ?_).mono ?_
    · unfold Sees; go_grown
    rintro e wz0 ⟨rfl, hb⟩
    have T := St.below (w := w) (l := [(w.heap.size, 0, .int .i64 t0), (w.heap.size, 1, .int .i64 a0), (w.heap.size, 2, .slice A0 ac0.length C0), (w.heap.size, 3, .slice B0 nx0.length D0), (w.heap.size + 1, 0, .int .i64 t1), (w.heap.size + 1, 1, .int .i64 a1), (w.heap.size + 1, 2, .slice A1 ac1.length C1), (w.heap.size + 1, 3, .slice B1 nx1.length D1)]) ⟨(by unfold Sees; go_grown), (by simp [go_sem]), (by simp [go_sem]), (by simp [go_sem]), (by simp [go_sem]), (by simp [go_sem]), (by simp [go_sem]), (by simp [go_sem]), (by simp [go_sem]), trivial⟩ hb
    have H := Lib.hid T; clear T hb
    obtain ⟨x0, x1, x2, x3, x4, x5, x6, x7, x8, _⟩ := H.out
    go_wp2_with fail
    clear x0 x1 x2 x3 x4 x5 x6 x7 x8
    refine (KS1.out _ ?_).mono ?_
    · exact H.out.1
    rintro e wz1 ⟨rfl, hb⟩
    have T := H.out.below hb
    clear H
    have H := Lib.hid T; clear T hb
    obtain ⟨x0, x1, x2, x3, x4, x5, x6, x7, x8, _⟩ := H.out
    go_wp2_with fail
    clear x0 x1 x2 x3 x4 x5 x6 x7 x8
    go_ret
    exact ⟨rfl, H.out.1⟩
  obtain ⟨s1, hs, hz1, hy1⟩ : ∃ s : Int, s = szR (autN ac1 nx1) s0 ∧ 0 ≤ s ∧ s ≤ 1048576 := ⟨_, rfl, by rw [szR_pos (by omega)]; omega, by rw [szR_pos (by omega)]; omega⟩
  have KS1 : Hid (∀ W : World, Sees w W → Calls Try.prog 27 #[.agg #[.int .i64 t1, .int .i64 a1, .slice A1 ac1.length C1, .slice B1 nx1.length D1], .int .i64 s0] W fun e w' => e = .returned (.int .i64 s1) ∧ Below W.heap.size W w') := fun W h => by rw [hs]; exact szAutomaton_any t1 a1 ac1 nx1 hm1.out s0 A1 B1 C1 D1 W (hl1.sees h) (hr1.sees h) (by omega) (by omega)
  clear hs
  have hsmall : autN ac0 nx0 ≤ 1048576 ∧ autN ac1 nx1 ≤ 1048576 := by (first | trivial | omega | (refine ⟨?_, ?_⟩ <;> omega))
  have KT0 : Hid (∀ W : World, Sees w W → Calls Try.prog 29 #[.agg #[.int .i64 t0, .int .i64 a0, .slice A0 ac0.length C0, .slice B0 nx0.length D0]] W fun e w' => ∃ Z Y, e = .returned (.agg #[.int .i64 t0, .int .i64 a0, .slice Z ac0.length ac0.length, .slice Y nx0.length nx0.length]) ∧ BB 0 w' ac0 Z ∧ III 0 w' nx0 Y ∧ Below W.heap.size W w') :=
    fun W h => toAutomaton_any t0 a0 ac0 nx0 (autN_small (by omega)) A0 B0 C0 D0 W (hl0.sees h) (hr0.sees h)
  have KE0 : Hid (∀ (W : World) (Z Y Z' Y' : Option Addr), BB 0 W ac0 Z → III 0 W nx0 Y → BB 0 W ac0 Z' → III 0 W nx0 Y' → Calls Try.prog 31 #[.agg #[.int .i64 t0, .int .i64 a0, .slice Z ac0.length ac0.length, .slice Y nx0.length nx0.length], .agg #[.int .i64 t0, .int .i64 a0, .slice Z' ac0.length ac0.length, .slice Y' nx0.length nx0.length]] W fun e w' => e = .returned (.bool true) ∧ Below W.heap.size W w') :=
    fun W Z Y Z' Y' h1 h2 h3 h4 => eqAutomaton_same t0 a0 ac0 nx0 hm0.out _ _ _ _ _ _ _ _ W h1 h2 h3 h4
  have KT1 : Hid (∀ W : World, Sees w W → Calls Try.prog 29 #[.agg #[.int .i64 t1, .int .i64 a1, .slice A1 ac1.length C1, .slice B1 nx1.length D1]] W fun e w' => ∃ Z Y, e = .returned (.agg #[.int .i64 t1, .int .i64 a1, .slice Z ac1.length ac1.length, .slice Y nx1.length nx1.length]) ∧ BB 0 w' ac1 Z ∧ III 0 w' nx1 Y ∧ Below W.heap.size W w') :=
    fun W h => toAutomaton_any t1 a1 ac1 nx1 (autN_small (by omega)) A1 B1 C1 D1 W (hl1.sees h) (hr1.sees h)
  have KE1 : Hid (∀ (W : World) (Z Y Z' Y' : Option Addr), BB 0 W ac1 Z → III 0 W nx1 Y → BB 0 W ac1 Z' → III 0 W nx1 Y' → Calls Try.prog 31 #[.agg #[.int .i64 t1, .int .i64 a1, .slice Z ac1.length ac1.length, .slice Y nx1.length nx1.length], .agg #[.int .i64 t1, .int .i64 a1, .slice Z' ac1.length ac1.length, .slice Y' nx1.length nx1.length]] W fun e w' => e = .returned (.bool true) ∧ Below W.heap.size W w') :=
    fun W Z Y Z' Y' h1 h2 h3 h4 => eqAutomaton_same t1 a1 ac1 nx1 hm1.out _ _ _ _ _ _ _ _ W h1 h2 h3 h4
  have KW2 := Lib.hid (KW.out hsmall); clear KW
  have KG2 := Lib.hid (KG.out hsmall); clear KG hsmall
  go_enter Try.func7, Try.ntmps7
  go_wp2_with fail
  refine (KS0.out _ ?_).mono ?_
  · unfold Sees; go_grown
  rintro e wz0 ⟨rfl, hb⟩
  have T := St.below (w := w) (l := [(w.heap.size, 0, .int .i64 t0), (w.heap.size, 1, .int .i64 a0), (w.heap.size, 2, .slice A0 ac0.length C0), (w.heap.size, 3, .slice B0 nx0.length D0), (w.heap.size + 1, 0, .int .i64 t1), (w.heap.size + 1, 1, .int .i64 a1), (w.heap.size + 1, 2, .slice A1 ac1.length C1), (w.heap.size + 1, 3, .slice B1 nx1.length D1)]) ⟨(by unfold Sees; go_grown), (by simp [go_sem]), (by simp [go_sem]), (by simp [go_sem]), (by simp [go_sem]), (by simp [go_sem]), (by simp [go_sem]), (by simp [go_sem]), (by simp [go_sem]), trivial⟩ hb
  have H := Lib.hid T; clear T hb
  obtain ⟨x0, x1, x2, x3, x4, x5, x6, x7, x8, _⟩ := H.out
  go_wp2_with fail
  clear x0 x1 x2 x3 x4 x5 x6 x7 x8
  refine (KS1.out _ ?_).mono ?_
  · exact H.out.1
  rintro e wz1 ⟨rfl, hb⟩
  have T := H.out.below hb
  clear H
  have H := Lib.hid T; clear T hb
  obtain ⟨x0, x1, x2, x3, x4, x5, x6, x7, x8, _⟩ := H.out
  go_wp2_with fail
  clear x0 x1 x2 x3 x4 x5 x6 x7 x8
  obtain ⟨x0, x1, x2, x3, x4, x5, x6, x7, x8, _⟩ := H.out
  go_wp2_with fail
  go_region_held3 (fun w' => Sees w w' ∧ w'.cell? ⟨w.heap.size, 0, none⟩ = some (.int .i64 t0) ∧ w'.cell? ⟨w.heap.size, 1, none⟩ = some (.int .i64 a0) ∧ w'.cell? ⟨w.heap.size, 2, none⟩ = some (.slice A0 ac0.length C0) ∧ w'.cell? ⟨w.heap.size, 3, none⟩ = some (.slice B0 nx0.length D0) ∧ w'.cell? ⟨w.heap.size + 1, 0, none⟩ = some (.int .i64 t1) ∧ w'.cell? ⟨w.heap.size + 1, 1, none⟩ = some (.int .i64 a1) ∧ w'.cell? ⟨w.heap.size + 1, 2, none⟩ = some (.slice A1 ac1.length C1) ∧ w'.cell? ⟨w.heap.size + 1, 3, none⟩ = some (.slice B1 nx1.length D1) ∧ True)
    (first | exact H.out.drew | exact T3 | exact T2 | exact T1 | (go_keep; done))
    (first | (go_at_call 29; (with_reducible refine (KT0.out _ ?_).mono ?_); exact St.sees (l := [(w.heap.size, 0, .int .i64 t0), (w.heap.size, 1, .int .i64 a0), (w.heap.size, 2, .slice A0 ac0.length C0), (w.heap.size, 3, .slice B0 nx0.length D0), (w.heap.size + 1, 0, .int .i64 t1), (w.heap.size + 1, 1, .int .i64 a1), (w.heap.size + 1, 2, .slice A1 ac1.length C1), (w.heap.size + 1, 3, .slice B1 nx1.length D1)]) (by assumption); rintro e w1 ⟨Z1, Y1, rfl, M1, N1, hb1⟩; have T1 := St.below (l := [(w.heap.size, 0, .int .i64 t0), (w.heap.size, 1, .int .i64 a0), (w.heap.size, 2, .slice A0 ac0.length C0), (w.heap.size, 3, .slice B0 nx0.length D0), (w.heap.size + 1, 0, .int .i64 t1), (w.heap.size + 1, 1, .int .i64 a1), (w.heap.size + 1, 2, .slice A1 ac1.length C1), (w.heap.size + 1, 3, .slice B1 nx1.length D1)]) (by assumption) hb1) | (go_at_call 29; (with_reducible refine (KT1.out _ ?_).mono ?_); exact St.sees (l := [(w.heap.size, 0, .int .i64 t0), (w.heap.size, 1, .int .i64 a0), (w.heap.size, 2, .slice A0 ac0.length C0), (w.heap.size, 3, .slice B0 nx0.length D0), (w.heap.size + 1, 0, .int .i64 t1), (w.heap.size + 1, 1, .int .i64 a1), (w.heap.size + 1, 2, .slice A1 ac1.length C1), (w.heap.size + 1, 3, .slice B1 nx1.length D1)]) (by assumption); rintro e w2 ⟨Z2, Y2, rfl, M2, N2, hb2⟩; have T2 := St.below (l := [(w.heap.size, 0, .int .i64 t0), (w.heap.size, 1, .int .i64 a0), (w.heap.size, 2, .slice A0 ac0.length C0), (w.heap.size, 3, .slice B0 nx0.length D0), (w.heap.size + 1, 0, .int .i64 t1), (w.heap.size + 1, 1, .int .i64 a1), (w.heap.size + 1, 2, .slice A1 ac1.length C1), (w.heap.size + 1, 3, .slice B1 nx1.length D1)]) (by assumption) hb2) | (go_at_call 28; refine (KW2.out _ _ _ _ _ ?_ ?_ ?_ ?_ ).mono ?_; (first | exact M1 | exact M1.drew | exact M1.drew.drew | exact M1.below hb2 | exact M1.dbelow hb2 | exact (M1.below hb2).drew | exact (M1.dbelow hb2).drew); (first | exact N1 | exact N1.drew | exact N1.drew.drew | exact N1.below hb2 | exact N1.dbelow hb2 | exact (N1.below hb2).drew | exact (N1.dbelow hb2).drew); (first | exact M2 | exact M2.drew | exact M2.drew.drew); (first | exact N2 | exact N2.drew | exact N2.drew.drew); rintro e w3 ⟨rfl, hb3⟩; have T3 := St.below (l := [(w.heap.size, 0, .int .i64 t0), (w.heap.size, 1, .int .i64 a0), (w.heap.size, 2, .slice A0 ac0.length C0), (w.heap.size, 3, .slice B0 nx0.length D0), (w.heap.size + 1, 0, .int .i64 t1), (w.heap.size + 1, 1, .int .i64 a1), (w.heap.size + 1, 2, .slice A1 ac1.length C1), (w.heap.size + 1, 3, .slice B1 nx1.length D1)]) (by assumption) hb3))
  clear x0 x1 x2 x3 x4 x5 x6 x7 x8
  clear H
  have H := Lib.hid T3
  clear hb3 T3
  obtain ⟨x0, x1, x2, x3, x4, x5, x6, x7, x8, _⟩ := H.out
  go_wp2_with fail
  refine (KT0.out _ H.out.1).mono ?_
  rintro e w4 ⟨Z4, Y4, rfl, M4, N4, hb4⟩
  have T := H.out.below hb4
  clear x0 x1 x2 x3 x4 x5 x6 x7 x8
  have T2 : St w [(w4.heap.size, 0, .int .i64 t0), (w4.heap.size, 1, .int .i64 a0), (w4.heap.size, 2, .slice Z4 ac0.length ac0.length), (w4.heap.size, 3, .slice Y4 nx0.length nx0.length), (w.heap.size, 0, .int .i64 t0), (w.heap.size, 1, .int .i64 a0), (w.heap.size, 2, .slice A0 ac0.length C0), (w.heap.size, 3, .slice B0 nx0.length D0), (w.heap.size + 1, 0, .int .i64 t1), (w.heap.size + 1, 1, .int .i64 a1), (w.heap.size + 1, 2, .slice A1 ac1.length C1), (w.heap.size + 1, 3, .slice B1 nx1.length D1)] (w4.alloc (.cells #[.int .i64 t0, .int .i64 a0, .slice Z4 ac0.length ac0.length, .slice Y4 nx0.length nx0.length] 55)) := ⟨T.1.alloc _, (by simp [go_sem]), (by simp [go_sem]), (by simp [go_sem]), (by simp [go_sem]), T.2.alloc _⟩
  have G5 : BB 0 (w4.alloc (.cells #[.int .i64 t0, .int .i64 a0, .slice Z4 ac0.length ac0.length, .slice Y4 nx0.length nx0.length] 55)) ac0 Z4 := M4.alloc _
  have G6 : III 0 (w4.alloc (.cells #[.int .i64 t0, .int .i64 a0, .slice Z4 ac0.length ac0.length, .slice Y4 nx0.length nx0.length] 55)) nx0 Y4 := N4.alloc _
  clear H T hb4 M4 N4
  have H := Lib.hid T2; clear T2
  obtain ⟨x0, x1, x2, x3, x4, x5, x6, x7, x8, x9, x10, x11, x12, _⟩ := H.out
  go_wp2_with fail
  refine (KT1.out _ H.out.1).mono ?_
  rintro e w7 ⟨Z7, Y7, rfl, M7, N7, hb7⟩
  have T := H.out.below hb7
  clear x0 x1 x2 x3 x4 x5 x6 x7 x8 x9 x10 x11 x12
  have T2 : St w [(w7.heap.size, 0, .int .i64 t1), (w7.heap.size, 1, .int .i64 a1), (w7.heap.size, 2, .slice Z7 ac1.length ac1.length), (w7.heap.size, 3, .slice Y7 nx1.length nx1.length), (w4.heap.size, 0, .int .i64 t0), (w4.heap.size, 1, .int .i64 a0), (w4.heap.size, 2, .slice Z4 ac0.length ac0.length), (w4.heap.size, 3, .slice Y4 nx0.length nx0.length), (w.heap.size, 0, .int .i64 t0), (w.heap.size, 1, .int .i64 a0), (w.heap.size, 2, .slice A0 ac0.length C0), (w.heap.size, 3, .slice B0 nx0.length D0), (w.heap.size + 1, 0, .int .i64 t1), (w.heap.size + 1, 1, .int .i64 a1), (w.heap.size + 1, 2, .slice A1 ac1.length C1), (w.heap.size + 1, 3, .slice B1 nx1.length D1)] (w7.alloc (.cells #[.int .i64 t1, .int .i64 a1, .slice Z7 ac1.length ac1.length, .slice Y7 nx1.length nx1.length] 55)) := ⟨T.1.alloc _, (by simp [go_sem]), (by simp [go_sem]), (by simp [go_sem]), (by simp [go_sem]), T.2.alloc _⟩
  have G8 : BB 0 (w7.alloc (.cells #[.int .i64 t1, .int .i64 a1, .slice Z7 ac1.length ac1.length, .slice Y7 nx1.length nx1.length] 55)) ac1 Z7 := M7.alloc _
  have G9 : III 0 (w7.alloc (.cells #[.int .i64 t1, .int .i64 a1, .slice Z7 ac1.length ac1.length, .slice Y7 nx1.length nx1.length] 55)) nx1 Y7 := N7.alloc _
  have G10 : BB 0 w7 ac0 Z4 := by first | exact G5.below hb7 | exact G5.dbelow hb7
  have G11 : BB 0 (w7.alloc (.cells #[.int .i64 t1, .int .i64 a1, .slice Z7 ac1.length ac1.length, .slice Y7 nx1.length nx1.length] 55)) ac0 Z4 := G10.alloc _
  have G12 : III 0 w7 nx0 Y4 := by first | exact G6.below hb7 | exact G6.dbelow hb7
  have G13 : III 0 (w7.alloc (.cells #[.int .i64 t1, .int .i64 a1, .slice Z7 ac1.length ac1.length, .slice Y7 nx1.length nx1.length] 55)) nx0 Y4 := G12.alloc _
  clear H T hb7 M7 N7
  have H := Lib.hid T2; clear T2
  obtain ⟨x0, x1, x2, x3, x4, x5, x6, x7, x8, x9, x10, x11, x12, x13, x14, x15, x16, _⟩ := H.out
  go_wp2_with fail
  refine (KG2.out _ _ _ _ _ ?_ ?_ ?_ ?_ ).mono ?_
  · (first | exact G11 | exact G11.drew | exact G11.drew.drew)
  · (first | exact G13 | exact G13.drew | exact G13.drew.drew)
  · (first | exact G8 | exact G8.drew | exact G8.drew.drew)
  · (first | exact G9 | exact G9.drew | exact G9.drew.drew)
  rintro e w14 ⟨rfl, hb14⟩
  have T14 := H.out.below hb14
  clear x0 x1 x2 x3 x4 x5 x6 x7 x8 x9 x10 x11 x12 x13 x14 x15 x16
  clear H
  have H := Lib.hid T14
  have G15 : BB 0 w14 ac0 Z4 := by first | exact G11.below hb14 | exact G11.dbelow hb14
  have G16 : III 0 w14 nx0 Y4 := by first | exact G13.below hb14 | exact G13.dbelow hb14
  have G17 : BB 0 w14 ac1 Z7 := by first | exact G8.below hb14 | exact G8.dbelow hb14
  have G18 : III 0 w14 nx1 Y7 := by first | exact G9.below hb14 | exact G9.dbelow hb14
  clear T14 hb14
  have ne_q0 : (q0 != q0) = false := by simp
  obtain ⟨x0, x1, x2, x3, x4, x5, x6, x7, x8, x9, x10, x11, x12, x13, x14, x15, x16, _⟩ := H.out
  go_wp2_with fail
  go_region_held3 (fun w' => Sees w w' ∧ w'.cell? ⟨w7.heap.size, 0, none⟩ = some (.int .i64 t1) ∧ w'.cell? ⟨w7.heap.size, 1, none⟩ = some (.int .i64 a1) ∧ w'.cell? ⟨w7.heap.size, 2, none⟩ = some (.slice Z7 ac1.length ac1.length) ∧ w'.cell? ⟨w7.heap.size, 3, none⟩ = some (.slice Y7 nx1.length nx1.length) ∧ w'.cell? ⟨w4.heap.size, 0, none⟩ = some (.int .i64 t0) ∧ w'.cell? ⟨w4.heap.size, 1, none⟩ = some (.int .i64 a0) ∧ w'.cell? ⟨w4.heap.size, 2, none⟩ = some (.slice Z4 ac0.length ac0.length) ∧ w'.cell? ⟨w4.heap.size, 3, none⟩ = some (.slice Y4 nx0.length nx0.length) ∧ w'.cell? ⟨w.heap.size, 0, none⟩ = some (.int .i64 t0) ∧ w'.cell? ⟨w.heap.size, 1, none⟩ = some (.int .i64 a0) ∧ w'.cell? ⟨w.heap.size, 2, none⟩ = some (.slice A0 ac0.length C0) ∧ w'.cell? ⟨w.heap.size, 3, none⟩ = some (.slice B0 nx0.length D0) ∧ w'.cell? ⟨w.heap.size + 1, 0, none⟩ = some (.int .i64 t1) ∧ w'.cell? ⟨w.heap.size + 1, 1, none⟩ = some (.int .i64 a1) ∧ w'.cell? ⟨w.heap.size + 1, 2, none⟩ = some (.slice A1 ac1.length C1) ∧ w'.cell? ⟨w.heap.size + 1, 3, none⟩ = some (.slice B1 nx1.length D1) ∧ True)
    (first | exact H.out.drew | exact T20 | exact T19 | (go_keep; done))
    (first | (go_at_call 29; (with_reducible refine (KT0.out _ ?_).mono ?_); exact St.sees (l := [(w7.heap.size, 0, .int .i64 t1), (w7.heap.size, 1, .int .i64 a1), (w7.heap.size, 2, .slice Z7 ac1.length ac1.length), (w7.heap.size, 3, .slice Y7 nx1.length nx1.length), (w4.heap.size, 0, .int .i64 t0), (w4.heap.size, 1, .int .i64 a0), (w4.heap.size, 2, .slice Z4 ac0.length ac0.length), (w4.heap.size, 3, .slice Y4 nx0.length nx0.length), (w.heap.size, 0, .int .i64 t0), (w.heap.size, 1, .int .i64 a0), (w.heap.size, 2, .slice A0 ac0.length C0), (w.heap.size, 3, .slice B0 nx0.length D0), (w.heap.size + 1, 0, .int .i64 t1), (w.heap.size + 1, 1, .int .i64 a1), (w.heap.size + 1, 2, .slice A1 ac1.length C1), (w.heap.size + 1, 3, .slice B1 nx1.length D1)]) (by assumption); rintro e w19 ⟨Z19, Y19, rfl, M19, N19, hb19⟩; have T19 := St.below (l := [(w7.heap.size, 0, .int .i64 t1), (w7.heap.size, 1, .int .i64 a1), (w7.heap.size, 2, .slice Z7 ac1.length ac1.length), (w7.heap.size, 3, .slice Y7 nx1.length nx1.length), (w4.heap.size, 0, .int .i64 t0), (w4.heap.size, 1, .int .i64 a0), (w4.heap.size, 2, .slice Z4 ac0.length ac0.length), (w4.heap.size, 3, .slice Y4 nx0.length nx0.length), (w.heap.size, 0, .int .i64 t0), (w.heap.size, 1, .int .i64 a0), (w.heap.size, 2, .slice A0 ac0.length C0), (w.heap.size, 3, .slice B0 nx0.length D0), (w.heap.size + 1, 0, .int .i64 t1), (w.heap.size + 1, 1, .int .i64 a1), (w.heap.size + 1, 2, .slice A1 ac1.length C1), (w.heap.size + 1, 3, .slice B1 nx1.length D1)]) (by assumption) hb19) | (go_at_call 31; refine (KE0.out _ _ _ _ _ ?_ ?_ ?_ ?_ ).mono ?_; (first | exact G15 | exact G15.drew | exact G15.drew.drew | exact G15.below hb19 | exact G15.dbelow hb19 | exact (G15.below hb19).drew | exact (G15.dbelow hb19).drew); (first | exact G16 | exact G16.drew | exact G16.drew.drew | exact G16.below hb19 | exact G16.dbelow hb19 | exact (G16.below hb19).drew | exact (G16.dbelow hb19).drew); (first | exact M19 | exact M19.drew | exact M19.drew.drew); (first | exact N19 | exact N19.drew | exact N19.drew.drew); rintro e w20 ⟨rfl, hb20⟩; have T20 := St.below (l := [(w7.heap.size, 0, .int .i64 t1), (w7.heap.size, 1, .int .i64 a1), (w7.heap.size, 2, .slice Z7 ac1.length ac1.length), (w7.heap.size, 3, .slice Y7 nx1.length nx1.length), (w4.heap.size, 0, .int .i64 t0), (w4.heap.size, 1, .int .i64 a0), (w4.heap.size, 2, .slice Z4 ac0.length ac0.length), (w4.heap.size, 3, .slice Y4 nx0.length nx0.length), (w.heap.size, 0, .int .i64 t0), (w.heap.size, 1, .int .i64 a0), (w.heap.size, 2, .slice A0 ac0.length C0), (w.heap.size, 3, .slice B0 nx0.length D0), (w.heap.size + 1, 0, .int .i64 t1), (w.heap.size + 1, 1, .int .i64 a1), (w.heap.size + 1, 2, .slice A1 ac1.length C1), (w.heap.size + 1, 3, .slice B1 nx1.length D1)]) (by assumption) hb20))
  clear x0 x1 x2 x3 x4 x5 x6 x7 x8 x9 x10 x11 x12 x13 x14 x15 x16
  clear H
  have H := Lib.hid T20
  have G21 : BB 0 w19 ac0 Z4 := by first | exact G15.below hb19 | exact G15.dbelow hb19
  have G22 : BB 0 w20 ac0 Z4 := by first | exact G21.below hb20 | exact G21.dbelow hb20
  have G23 : III 0 w19 nx0 Y4 := by first | exact G16.below hb19 | exact G16.dbelow hb19
  have G24 : III 0 w20 nx0 Y4 := by first | exact G23.below hb20 | exact G23.dbelow hb20
  have G25 : BB 0 w19 ac1 Z7 := by first | exact G17.below hb19 | exact G17.dbelow hb19
  have G26 : BB 0 w20 ac1 Z7 := by first | exact G25.below hb20 | exact G25.dbelow hb20
  have G27 : III 0 w19 nx1 Y7 := by first | exact G18.below hb19 | exact G18.dbelow hb19
  have G28 : III 0 w20 nx1 Y7 := by first | exact G27.below hb20 | exact G27.dbelow hb20
  clear T20 T19 hb19 hb20 M19 N19
  obtain ⟨x0, x1, x2, x3, x4, x5, x6, x7, x8, x9, x10, x11, x12, x13, x14, x15, x16, _⟩ := H.out
  go_wp2_with fail
  go_region_held3 (fun w' => Sees w w' ∧ w'.cell? ⟨w7.heap.size, 0, none⟩ = some (.int .i64 t1) ∧ w'.cell? ⟨w7.heap.size, 1, none⟩ = some (.int .i64 a1) ∧ w'.cell? ⟨w7.heap.size, 2, none⟩ = some (.slice Z7 ac1.length ac1.length) ∧ w'.cell? ⟨w7.heap.size, 3, none⟩ = some (.slice Y7 nx1.length nx1.length) ∧ w'.cell? ⟨w4.heap.size, 0, none⟩ = some (.int .i64 t0) ∧ w'.cell? ⟨w4.heap.size, 1, none⟩ = some (.int .i64 a0) ∧ w'.cell? ⟨w4.heap.size, 2, none⟩ = some (.slice Z4 ac0.length ac0.length) ∧ w'.cell? ⟨w4.heap.size, 3, none⟩ = some (.slice Y4 nx0.length nx0.length) ∧ w'.cell? ⟨w.heap.size, 0, none⟩ = some (.int .i64 t0) ∧ w'.cell? ⟨w.heap.size, 1, none⟩ = some (.int .i64 a0) ∧ w'.cell? ⟨w.heap.size, 2, none⟩ = some (.slice A0 ac0.length C0) ∧ w'.cell? ⟨w.heap.size, 3, none⟩ = some (.slice B0 nx0.length D0) ∧ w'.cell? ⟨w.heap.size + 1, 0, none⟩ = some (.int .i64 t1) ∧ w'.cell? ⟨w.heap.size + 1, 1, none⟩ = some (.int .i64 a1) ∧ w'.cell? ⟨w.heap.size + 1, 2, none⟩ = some (.slice A1 ac1.length C1) ∧ w'.cell? ⟨w.heap.size + 1, 3, none⟩ = some (.slice B1 nx1.length D1) ∧ True)
    (first | exact H.out.drew | exact T30 | exact T29 | (go_keep; done))
    (first | (go_at_call 29; (with_reducible refine (KT1.out _ ?_).mono ?_); exact St.sees (l := [(w7.heap.size, 0, .int .i64 t1), (w7.heap.size, 1, .int .i64 a1), (w7.heap.size, 2, .slice Z7 ac1.length ac1.length), (w7.heap.size, 3, .slice Y7 nx1.length nx1.length), (w4.heap.size, 0, .int .i64 t0), (w4.heap.size, 1, .int .i64 a0), (w4.heap.size, 2, .slice Z4 ac0.length ac0.length), (w4.heap.size, 3, .slice Y4 nx0.length nx0.length), (w.heap.size, 0, .int .i64 t0), (w.heap.size, 1, .int .i64 a0), (w.heap.size, 2, .slice A0 ac0.length C0), (w.heap.size, 3, .slice B0 nx0.length D0), (w.heap.size + 1, 0, .int .i64 t1), (w.heap.size + 1, 1, .int .i64 a1), (w.heap.size + 1, 2, .slice A1 ac1.length C1), (w.heap.size + 1, 3, .slice B1 nx1.length D1)]) (by assumption); rintro e w29 ⟨Z29, Y29, rfl, M29, N29, hb29⟩; have T29 := St.below (l := [(w7.heap.size, 0, .int .i64 t1), (w7.heap.size, 1, .int .i64 a1), (w7.heap.size, 2, .slice Z7 ac1.length ac1.length), (w7.heap.size, 3, .slice Y7 nx1.length nx1.length), (w4.heap.size, 0, .int .i64 t0), (w4.heap.size, 1, .int .i64 a0), (w4.heap.size, 2, .slice Z4 ac0.length ac0.length), (w4.heap.size, 3, .slice Y4 nx0.length nx0.length), (w.heap.size, 0, .int .i64 t0), (w.heap.size, 1, .int .i64 a0), (w.heap.size, 2, .slice A0 ac0.length C0), (w.heap.size, 3, .slice B0 nx0.length D0), (w.heap.size + 1, 0, .int .i64 t1), (w.heap.size + 1, 1, .int .i64 a1), (w.heap.size + 1, 2, .slice A1 ac1.length C1), (w.heap.size + 1, 3, .slice B1 nx1.length D1)]) (by assumption) hb29) | (go_at_call 31; refine (KE1.out _ _ _ _ _ ?_ ?_ ?_ ?_ ).mono ?_; (first | exact G26 | exact G26.drew | exact G26.drew.drew | exact G26.below hb29 | exact G26.dbelow hb29 | exact (G26.below hb29).drew | exact (G26.dbelow hb29).drew); (first | exact G28 | exact G28.drew | exact G28.drew.drew | exact G28.below hb29 | exact G28.dbelow hb29 | exact (G28.below hb29).drew | exact (G28.dbelow hb29).drew); (first | exact M29 | exact M29.drew | exact M29.drew.drew); (first | exact N29 | exact N29.drew | exact N29.drew.drew); rintro e w30 ⟨rfl, hb30⟩; have T30 := St.below (l := [(w7.heap.size, 0, .int .i64 t1), (w7.heap.size, 1, .int .i64 a1), (w7.heap.size, 2, .slice Z7 ac1.length ac1.length), (w7.heap.size, 3, .slice Y7 nx1.length nx1.length), (w4.heap.size, 0, .int .i64 t0), (w4.heap.size, 1, .int .i64 a0), (w4.heap.size, 2, .slice Z4 ac0.length ac0.length), (w4.heap.size, 3, .slice Y4 nx0.length nx0.length), (w.heap.size, 0, .int .i64 t0), (w.heap.size, 1, .int .i64 a0), (w.heap.size, 2, .slice A0 ac0.length C0), (w.heap.size, 3, .slice B0 nx0.length D0), (w.heap.size + 1, 0, .int .i64 t1), (w.heap.size + 1, 1, .int .i64 a1), (w.heap.size + 1, 2, .slice A1 ac1.length C1), (w.heap.size + 1, 3, .slice B1 nx1.length D1)]) (by assumption) hb30))
  clear x0 x1 x2 x3 x4 x5 x6 x7 x8 x9 x10 x11 x12 x13 x14 x15 x16
  clear H
  have H := Lib.hid T30
  have G31 : BB 0 w29 ac0 Z4 := by first | exact G22.below hb29 | exact G22.dbelow hb29
  have G32 : BB 0 w30 ac0 Z4 := by first | exact G31.below hb30 | exact G31.dbelow hb30
  have G33 : III 0 w29 nx0 Y4 := by first | exact G24.below hb29 | exact G24.dbelow hb29
  have G34 : III 0 w30 nx0 Y4 := by first | exact G33.below hb30 | exact G33.dbelow hb30
  have G35 : BB 0 w29 ac1 Z7 := by first | exact G26.below hb29 | exact G26.dbelow hb29
  have G36 : BB 0 w30 ac1 Z7 := by first | exact G35.below hb30 | exact G35.dbelow hb30
  have G37 : III 0 w29 nx1 Y7 := by first | exact G28.below hb29 | exact G28.dbelow hb29
  have G38 : III 0 w30 nx1 Y7 := by first | exact G37.below hb30 | exact G37.dbelow hb30
  clear T30 T29 hb29 hb30 M29 N29
  go_wp2_with fail
  go_ret
  exact ⟨rfl, H.out.1⟩

end Go.Proofs.Ytlmbcggfoaaibaa
