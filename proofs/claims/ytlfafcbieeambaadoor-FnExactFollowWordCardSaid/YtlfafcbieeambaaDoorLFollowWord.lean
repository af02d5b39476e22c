/- The law FnExactFollowWord, walked, out of the contracts of both sides. -/
import Derived.Test.YtlfafcbieeambaaDoorSz
import Derived.Test.YtlfafcbieeambaaDoorTo
import Derived.Test.YtlfafcbieeambaaDoorEq
import Derived.Test.YtlfafcbieeambaaDoorWordC
import Derived.Test.YtlfafcbieeambaaDoorWld
import Derived.Deep.RegionHeld3
namespace Go.Proofs.YtlfafcbieeambaaDoor
open Go.RowKit

set_option maxHeartbeats 2000000 in
set_option maxRecDepth 100000 in
theorem lawFollowWord (t0 a0 : Int) (p1 : List Int) (nx1 : List (List Int)) (A1 B1 : Option Addr) (C1 D1 : Nat) (m2 : Int) (p3 r3 : List Int) (A3 B3 : Option Addr) (C3 D3 : Nat) {q0 q1 : Int} (w : World)
    (KW : Hid (wldN p1 nx1 ≤ 1048576 ∧ p3.length + r3.length ≤ 1048576 → ∀ (W : World) (Z1 Y1 : Option Addr) (Z3 Y3 : Option Addr), Ints W p1 Z1 → II 0 W nx1 Y1 → Ints W p3 Z3 → Ints W r3 Y3 → Calls Tryd.prog 14 #[.agg #[.int .i64 t0, .int .i64 a0], .agg #[.slice Z1 p1.length p1.length, .slice Y1 nx1.length nx1.length], .int .i64 m2, .agg #[.slice Z3 p3.length p3.length, .slice Y3 r3.length r3.length]] W fun e w' => e = .returned (.tuple #[.int .i64 q0, .int .i64 q1]) ∧ Below W.heap.size W w'))
    (KG : Hid (wldN p1 nx1 ≤ 1048576 ∧ p3.length + r3.length ≤ 1048576 → ∀ (W : World) (Z1 Y1 : Option Addr) (Z3 Y3 : Option Addr), Sees w W → Ints W p1 Z1 → II 0 W nx1 Y1 → Ints W p3 Z3 → Ints W r3 Y3 → Calls Tryd.prog 17 #[.agg #[.int .i64 t0, .int .i64 a0], .agg #[.slice Z1 p1.length p1.length, .slice Y1 nx1.length nx1.length], .int .i64 m2, .agg #[.slice Z3 p3.length p3.length, .slice Y3 r3.length r3.length]] W fun e w' => e = .returned (.tuple #[.int .i64 q0, .int .i64 q1]) ∧ Below W.heap.size W w'))
    (hm1 : Hid (FitW p1 nx1)) (hl1 : Ints w p1 A1) (hr1 : II 0 w nx1 B1) (hm3 : Hid (p3.length ≤ 9223372036854775807 ∧ r3.length ≤ 9223372036854775807)) (hl3 : Ints w p3 A3) (hr3 : Ints w r3 B3) :
    Calls Tryd.prog 4 #[.agg #[.int .i64 t0, .int .i64 a0], .agg #[.slice A1 p1.length C1, .slice B1 nx1.length D1], .int .i64 m2, .agg #[.slice A3 p3.length C3, .slice B3 r3.length D3]] w fun e w' => e = .returned (.bool true) ∧ Below w.heap.size w w' := by
  by_cases hbig1 : 1048576 < ((wldN p1 nx1) : Nat)
  · have hs : szR (wldN p1 nx1) 1048576 = -1 := szR_neg (by omega)
    have KS1 : Hid (∀ W : World, Sees w W → Calls Tryd.prog 12 #[.agg #[.slice A1 p1.length C1, .slice B1 nx1.length D1], .int .i64 1048576] W fun e w' => e = .returned (.int .i64 (-1)) ∧ Below W.heap.size W w') := fun W h => by rw [← hs]; exact szWorld_any p1 nx1 hm1.out 1048576 A1 B1 C1 D1 W (hr1.sees h) (by omega) (by omega)
    clear hs
    go_enter Tryd.func4, Tryd.ntmps4
    go_wp2_with fail
    refine (KS1.out _ ?_).mono ?_
    · unfold Sees; go_grown
    rintro e wz0 ⟨rfl, hb⟩
    have T := St.below (w := w) (l := [(w.heap.size, 0, .int .i64 t0), (w.heap.size, 1, .int .i64 a0), (w.heap.size + 1, 0, .slice A1 p1.length C1), (w.heap.size + 1, 1, .slice B1 nx1.length D1), (w.heap.size + 2, 0, .slice A3 p3.length C3), (w.heap.size + 2, 1, .slice B3 r3.length D3)]) ⟨(by unfold Sees; go_grown), (by simp [go_sem]), (by simp [go_sem]), (by simp [go_sem]), (by simp [go_sem]), (by simp [go_sem]), (by simp [go_sem]), trivial⟩ hb
    have H := Lib.hid T; clear T hb
    obtain ⟨x0, x1, x2, x3, x4, x5, x6, _⟩ := H.out
    go_wp2_with fail
    clear x0 x1 x2 x3 x4 x5 x6
    go_ret
    exact ⟨rfl, H.out.1⟩
  obtain ⟨s1, hs, hz1, hy1⟩ : ∃ s : Int, s = szR (wldN p1 nx1) 1048576 ∧ 0 ≤ s ∧ s ≤ 1048576 := ⟨_, rfl, by rw [szR_pos (by omega)]; omega, by rw [szR_pos (by omega)]; omega⟩
  have KS1 : Hid (∀ W : World, Sees w W → Calls Tryd.prog 12 #[.agg #[.slice A1 p1.length C1, .slice B1 nx1.length D1], .int .i64 1048576] W fun e w' => e = .returned (.int .i64 s1) ∧ Below W.heap.size W w') := fun W h => by rw [hs]; exact szWorld_any p1 nx1 hm1.out 1048576 A1 B1 C1 D1 W (hr1.sees h) (by omega) (by omega)
  clear hs
  by_cases hbig3 : s1 < (((p3.length + r3.length) : Nat) : Int)
  · have hs : szR (p3.length + r3.length) s1 = -1 := szR_neg (by omega)
    have KS3 : Hid (∀ W : World, Sees w W → Calls Tryd.prog 13 #[.agg #[.slice A3 p3.length C3, .slice B3 r3.length D3], .int .i64 s1] W fun e w' => e = .returned (.int .i64 (-1)) ∧ Below W.heap.size W w') := fun W h => by rw [← hs]; exact szWord_any p3 r3 hm3.out.1 hm3.out.2 s1 A3 B3 C3 D3 W (by omega) (by omega)
    clear hs
    go_enter Tryd.func4, Tryd.ntmps4
    go_wp2_with fail
    refine (KS1.out _ ?_).mono ?_
    · unfold Sees; go_grown
    rintro e wz0 ⟨rfl, hb⟩
    have T := St.below (w := w) (l := [(w.heap.size, 0, .int .i64 t0), (w.heap.size, 1, .int .i64 a0), (w.heap.size + 1, 0, .slice A1 p1.length C1), (w.heap.size + 1, 1, .slice B1 nx1.length D1), (w.heap.size + 2, 0, .slice A3 p3.length C3), (w.heap.size + 2, 1, .slice B3 r3.length D3)]) ⟨(by unfold Sees; go_grown), (by simp [go_sem]), (by simp [go_sem]), (by simp [go_sem]), (by simp [go_sem]), (by simp [go_sem]), (by simp [go_sem]), trivial⟩ hb
    have H := Lib.hid T; clear T hb
    obtain ⟨x0, x1, x2, x3, x4, x5, x6, _⟩ := H.out
    go_wp2_with fail
    clear x0 x1 x2 x3 x4 x5 x6
    refine (KS3.out _ ?_).mono ?_
    · exact H.out.1
    rintro e wz1 ⟨rfl, hb⟩
    have T := H.out.below hb
    clear H
    have H := Lib.hid T; clear T hb
    obtain ⟨x0, x1, x2, x3, x4, x5, x6, _⟩ := H.out
    go_wp2_with fail
    clear x0 x1 x2 x3 x4 x5 x6
    go_ret
    exact ⟨rfl, H.out.1⟩
  obtain ⟨s3, hs, hz3, hy3⟩ : ∃ s : Int, s = szR (p3.length + r3.length) s1 ∧ 0 ≤ s ∧ s ≤ 1048576 := ⟨_, rfl, by rw [szR_pos (by omega)]; omega, by rw [szR_pos (by omega)]; omega⟩
  have KS3 : Hid (∀ W : World, Sees w W → Calls Tryd.prog 13 #[.agg #[.slice A3 p3.length C3, .slice B3 r3.length D3], .int .i64 s1] W fun e w' => e = .returned (.int .i64 s3) ∧ Below W.heap.size W w') := fun W h => by rw [hs]; exact szWord_any p3 r3 hm3.out.1 hm3.out.2 s1 A3 B3 C3 D3 W (by omega) (by omega)
  clear hs
  have hsmall : wldN p1 nx1 ≤ 1048576 ∧ p3.length + r3.length ≤ 1048576 := by (first | trivial | omega | (refine ⟨?_, ?_⟩ <;> omega))
  have KT0 : Hid (∀ W : World, Sees w W → Calls Tryd.prog 8 #[.agg #[.int .i64 t0, .int .i64 a0]] W fun e w' => e = .returned (.agg #[.int .i64 t0, .int .i64 a0]) ∧ Below W.heap.size W w') := fun W h => toSig_any t0 a0 W
  have KT1 : Hid (∀ W : World, Sees w W → Calls Tryd.prog 15 #[.agg #[.slice A1 p1.length C1, .slice B1 nx1.length D1]] W fun e w' => ∃ Z Y, e = .returned (.agg #[.slice Z p1.length p1.length, .slice Y nx1.length nx1.length]) ∧ Ints w' p1 Z ∧ II 0 w' nx1 Y ∧ Below W.heap.size W w') :=
    fun W h => toWorld_any p1 nx1 (by omega) A1 B1 C1 D1 W (hl1.sees h) (hr1.sees h)
  have KE1 : Hid (∀ (W : World) (Z Y Z' Y' : Option Addr), Ints W p1 Z → II 0 W nx1 Y → Ints W p1 Z' → II 0 W nx1 Y' → Calls Tryd.prog 18 #[.agg #[.slice Z p1.length p1.length, .slice Y nx1.length nx1.length], .agg #[.slice Z' p1.length p1.length, .slice Y' nx1.length nx1.length]] W fun e w' => e = .returned (.bool true) ∧ Below W.heap.size W w') :=
    fun W Z Y Z' Y' h1 h2 h3 h4 => eqWorld_same p1 nx1 hm1.out _ _ _ _ _ _ _ _ W h1 h2 h3 h4
  have KT3 : Hid (∀ W : World, Sees w W → Calls Tryd.prog 16 #[.agg #[.slice A3 p3.length C3, .slice B3 r3.length D3]] W fun e w' => ∃ Z Y, e = .returned (.agg #[.slice Z p3.length p3.length, .slice Y r3.length r3.length]) ∧ Ints w' p3 Z ∧ Ints w' r3 Y ∧ Below W.heap.size W w') :=
    fun W h => (toWord_any p3 r3 (by omega) (by omega) A3 B3 C3 D3 W (hl3.sees h) (hr3.sees h)).mono fun e w' ⟨Z, Y, he, hs, hb⟩ => ⟨Z, Y, he, hs.ints1, hs.ints2, hb⟩
  have KE3 : Hid (∀ (W : World) (Z Y Z' Y' : Option Addr), Ints W p3 Z → Ints W r3 Y → Ints W p3 Z' → Ints W r3 Y' → Calls Tryd.prog 19 #[.agg #[.slice Z p3.length p3.length, .slice Y r3.length r3.length], .agg #[.slice Z' p3.length p3.length, .slice Y' r3.length r3.length]] W fun e w' => e = .returned (.bool true) ∧ Below W.heap.size W w') :=
    fun W Z Y Z' Y' h1 h2 h3 h4 => eqWord_same p3 r3 hm3.out.1 hm3.out.2 _ _ _ _ _ _ _ _ W h1 h2 h3 h4
  have KW2 := Lib.hid (KW.out hsmall); clear KW
  have KG2 := Lib.hid (KG.out hsmall); clear KG hsmall
  go_enter Tryd.func4, Tryd.ntmps4
  go_wp2_with fail
  refine (KS1.out _ ?_).mono ?_
  · unfold Sees; go_grown
  rintro e wz0 ⟨rfl, hb⟩
  have T := St.below (w := w) (l := [(w.heap.size, 0, .int .i64 t0), (w.heap.size, 1, .int .i64 a0), (w.heap.size + 1, 0, .slice A1 p1.length C1), (w.heap.size + 1, 1, .slice B1 nx1.length D1), (w.heap.size + 2, 0, .slice A3 p3.length C3), (w.heap.size + 2, 1, .slice B3 r3.length D3)]) ⟨(by unfold Sees; go_grown), (by simp [go_sem]), (by simp [go_sem]), (by simp [go_sem]), (by simp [go_sem]), (by simp [go_sem]), (by simp [go_sem]), trivial⟩ hb
  have H := Lib.hid T; clear T hb
  obtain ⟨x0, x1, x2, x3, x4, x5, x6, _⟩ := H.out
  go_wp2_with fail
  clear x0 x1 x2 x3 x4 x5 x6
  refine (KS3.out _ ?_).mono ?_
  · exact H.out.1
  rintro e wz1 ⟨rfl, hb⟩
  have T := H.out.below hb
  clear H
  have H := Lib.hid T; clear T hb
  obtain ⟨x0, x1, x2, x3, x4, x5, x6, _⟩ := H.out
  go_wp2_with fail
  clear x0 x1 x2 x3 x4 x5 x6
  obtain ⟨x0, x1, x2, x3, x4, x5, x6, _⟩ := H.out
  go_wp2_with fail
  go_region_held3 (fun w' => Sees w w' ∧ w'.cell? ⟨w.heap.size, 0, none⟩ = some (.int .i64 t0) ∧ w'.cell? ⟨w.heap.size, 1, none⟩ = some (.int .i64 a0) ∧ w'.cell? ⟨w.heap.size + 1, 0, none⟩ = some (.slice A1 p1.length C1) ∧ w'.cell? ⟨w.heap.size + 1, 1, none⟩ = some (.slice B1 nx1.length D1) ∧ w'.cell? ⟨w.heap.size + 2, 0, none⟩ = some (.slice A3 p3.length C3) ∧ w'.cell? ⟨w.heap.size + 2, 1, none⟩ = some (.slice B3 r3.length D3) ∧ True)
    (first | exact H.out.drew | exact T4 | exact T3 | exact T2 | exact T1 | (go_keep; done))
    (first | (go_at_call 8; (with_reducible refine (KT0.out _ ?_).mono ?_); exact St.sees (l := [(w.heap.size, 0, .int .i64 t0), (w.heap.size, 1, .int .i64 a0), (w.heap.size + 1, 0, .slice A1 p1.length C1), (w.heap.size + 1, 1, .slice B1 nx1.length D1), (w.heap.size + 2, 0, .slice A3 p3.length C3), (w.heap.size + 2, 1, .slice B3 r3.length D3)]) (by assumption); rintro e w1 ⟨rfl, hb1⟩; have T1 := St.below (l := [(w.heap.size, 0, .int .i64 t0), (w.heap.size, 1, .int .i64 a0), (w.heap.size + 1, 0, .slice A1 p1.length C1), (w.heap.size + 1, 1, .slice B1 nx1.length D1), (w.heap.size + 2, 0, .slice A3 p3.length C3), (w.heap.size + 2, 1, .slice B3 r3.length D3)]) (by assumption) hb1) | (go_at_call 15; (with_reducible refine (KT1.out _ ?_).mono ?_); exact St.sees (l := [(w.heap.size, 0, .int .i64 t0), (w.heap.size, 1, .int .i64 a0), (w.heap.size + 1, 0, .slice A1 p1.length C1), (w.heap.size + 1, 1, .slice B1 nx1.length D1), (w.heap.size + 2, 0, .slice A3 p3.length C3), (w.heap.size + 2, 1, .slice B3 r3.length D3)]) (by assumption); rintro e w2 ⟨Z2, Y2, rfl, M2, N2, hb2⟩; have T2 := St.below (l := [(w.heap.size, 0, .int .i64 t0), (w.heap.size, 1, .int .i64 a0), (w.heap.size + 1, 0, .slice A1 p1.length C1), (w.heap.size + 1, 1, .slice B1 nx1.length D1), (w.heap.size + 2, 0, .slice A3 p3.length C3), (w.heap.size + 2, 1, .slice B3 r3.length D3)]) (by assumption) hb2) | (go_at_call 16; (with_reducible refine (KT3.out _ ?_).mono ?_); exact St.sees (l := [(w.heap.size, 0, .int .i64 t0), (w.heap.size, 1, .int .i64 a0), (w.heap.size + 1, 0, .slice A1 p1.length C1), (w.heap.size + 1, 1, .slice B1 nx1.length D1), (w.heap.size + 2, 0, .slice A3 p3.length C3), (w.heap.size + 2, 1, .slice B3 r3.length D3)]) (by assumption); rintro e w3 ⟨Z3, Y3, rfl, M3, N3, hb3⟩; have T3 := St.below (l := [(w.heap.size, 0, .int .i64 t0), (w.heap.size, 1, .int .i64 a0), (w.heap.size + 1, 0, .slice A1 p1.length C1), (w.heap.size + 1, 1, .slice B1 nx1.length D1), (w.heap.size + 2, 0, .slice A3 p3.length C3), (w.heap.size + 2, 1, .slice B3 r3.length D3)]) (by assumption) hb3) | (go_at_call 14; refine (KW2.out _ _ _ _ _ ?_ ?_ ?_ ?_ ).mono ?_; (first | exact M2 | exact M2.drew | exact M2.drew.drew | exact M2.below hb3 | exact M2.dbelow hb3 | exact (M2.below hb3).drew | exact (M2.dbelow hb3).drew); (first | exact N2 | exact N2.drew | exact N2.drew.drew | exact N2.below hb3 | exact N2.dbelow hb3 | exact (N2.below hb3).drew | exact (N2.dbelow hb3).drew); (first | exact M3 | exact M3.drew | exact M3.drew.drew); (first | exact N3 | exact N3.drew | exact N3.drew.drew); rintro e w4 ⟨rfl, hb4⟩; have T4 := St.below (l := [(w.heap.size, 0, .int .i64 t0), (w.heap.size, 1, .int .i64 a0), (w.heap.size + 1, 0, .slice A1 p1.length C1), (w.heap.size + 1, 1, .slice B1 nx1.length D1), (w.heap.size + 2, 0, .slice A3 p3.length C3), (w.heap.size + 2, 1, .slice B3 r3.length D3)]) (by assumption) hb4))
  clear x0 x1 x2 x3 x4 x5 x6
  clear H
  have H := Lib.hid T4
  clear hb4 T4
  obtain ⟨x0, x1, x2, x3, x4, x5, x6, _⟩ := H.out
  go_wp2_with fail
  refine (KT1.out _ H.out.1).mono ?_
  rintro e w5 ⟨Z5, Y5, rfl, M5, N5, hb5⟩
  have T := H.out.below hb5
  clear x0 x1 x2 x3 x4 x5 x6
  have T2 : St w [(w5.heap.size, 0, .slice Z5 p1.length p1.length), (w5.heap.size, 1, .slice Y5 nx1.length nx1.length), (w.heap.size, 0, .int .i64 t0), (w.heap.size, 1, .int .i64 a0), (w.heap.size + 1, 0, .slice A1 p1.length C1), (w.heap.size + 1, 1, .slice B1 nx1.length D1), (w.heap.size + 2, 0, .slice A3 p3.length C3), (w.heap.size + 2, 1, .slice B3 r3.length D3)] (w5.alloc (.cells #[.slice Z5 p1.length p1.length, .slice Y5 nx1.length nx1.length] 53)) := ⟨T.1.alloc _, (by simp [go_sem]), (by simp [go_sem]), T.2.alloc _⟩
  have G6 : Ints (w5.alloc (.cells #[.slice Z5 p1.length p1.length, .slice Y5 nx1.length nx1.length] 53)) p1 Z5 := M5.alloc _
  have G7 : II 0 (w5.alloc (.cells #[.slice Z5 p1.length p1.length, .slice Y5 nx1.length nx1.length] 53)) nx1 Y5 := N5.alloc _
  clear H T hb5 M5 N5
  have H := Lib.hid T2; clear T2
  obtain ⟨x0, x1, x2, x3, x4, x5, x6, x7, x8, _⟩ := H.out
  go_wp2_with fail
  refine (KT3.out _ H.out.1).mono ?_
  rintro e w8 ⟨Z8, Y8, rfl, M8, N8, hb8⟩
  have T := H.out.below hb8
  clear x0 x1 x2 x3 x4 x5 x6 x7 x8
  have T2 : St w [(w8.heap.size, 0, .slice Z8 p3.length p3.length), (w8.heap.size, 1, .slice Y8 r3.length r3.length), (w5.heap.size, 0, .slice Z5 p1.length p1.length), (w5.heap.size, 1, .slice Y5 nx1.length nx1.length), (w.heap.size, 0, .int .i64 t0), (w.heap.size, 1, .int .i64 a0), (w.heap.size + 1, 0, .slice A1 p1.length C1), (w.heap.size + 1, 1, .slice B1 nx1.length D1), (w.heap.size + 2, 0, .slice A3 p3.length C3), (w.heap.size + 2, 1, .slice B3 r3.length D3)] (w8.alloc (.cells #[.slice Z8 p3.length p3.length, .slice Y8 r3.length r3.length] 55)) := ⟨T.1.alloc _, (by simp [go_sem]), (by simp [go_sem]), T.2.alloc _⟩
  have G9 : Ints (w8.alloc (.cells #[.slice Z8 p3.length p3.length, .slice Y8 r3.length r3.length] 55)) p3 Z8 := M8.alloc _
  have G10 : Ints (w8.alloc (.cells #[.slice Z8 p3.length p3.length, .slice Y8 r3.length r3.length] 55)) r3 Y8 := N8.alloc _
  have G11 : Ints w8 p1 Z5 := by first | exact G6.below hb8 | exact G6.dbelow hb8
  have G12 : Ints (w8.alloc (.cells #[.slice Z8 p3.length p3.length, .slice Y8 r3.length r3.length] 55)) p1 Z5 := G11.alloc _
  have G13 : II 0 w8 nx1 Y5 := by first | exact G7.below hb8 | exact G7.dbelow hb8
  have G14 : II 0 (w8.alloc (.cells #[.slice Z8 p3.length p3.length, .slice Y8 r3.length r3.length] 55)) nx1 Y5 := G13.alloc _
  clear H T hb8 M8 N8
  have H := Lib.hid T2; clear T2
  obtain ⟨x0, x1, x2, x3, x4, x5, x6, x7, x8, x9, x10, _⟩ := H.out
  go_wp2_with fail
  go_region_held3 (fun w' => Sees w w' ∧ w'.cell? ⟨w8.heap.size, 0, none⟩ = some (.slice Z8 p3.length p3.length) ∧ w'.cell? ⟨w8.heap.size, 1, none⟩ = some (.slice Y8 r3.length r3.length) ∧ w'.cell? ⟨w5.heap.size, 0, none⟩ = some (.slice Z5 p1.length p1.length) ∧ w'.cell? ⟨w5.heap.size, 1, none⟩ = some (.slice Y5 nx1.length nx1.length) ∧ w'.cell? ⟨w.heap.size, 0, none⟩ = some (.int .i64 t0) ∧ w'.cell? ⟨w.heap.size, 1, none⟩ = some (.int .i64 a0) ∧ w'.cell? ⟨w.heap.size + 1, 0, none⟩ = some (.slice A1 p1.length C1) ∧ w'.cell? ⟨w.heap.size + 1, 1, none⟩ = some (.slice B1 nx1.length D1) ∧ w'.cell? ⟨w.heap.size + 2, 0, none⟩ = some (.slice A3 p3.length C3) ∧ w'.cell? ⟨w.heap.size + 2, 1, none⟩ = some (.slice B3 r3.length D3) ∧ True)
    (first | exact H.out.drew | exact T16 | exact T15 | (go_keep; done))
    (first | (go_at_call 8; (with_reducible refine (KT0.out _ ?_).mono ?_); exact St.sees (l := [(w8.heap.size, 0, .slice Z8 p3.length p3.length), (w8.heap.size, 1, .slice Y8 r3.length r3.length), (w5.heap.size, 0, .slice Z5 p1.length p1.length), (w5.heap.size, 1, .slice Y5 nx1.length nx1.length), (w.heap.size, 0, .int .i64 t0), (w.heap.size, 1, .int .i64 a0), (w.heap.size + 1, 0, .slice A1 p1.length C1), (w.heap.size + 1, 1, .slice B1 nx1.length D1), (w.heap.size + 2, 0, .slice A3 p3.length C3), (w.heap.size + 2, 1, .slice B3 r3.length D3)]) (by assumption); rintro e w15 ⟨rfl, hb15⟩; have T15 := St.below (l := [(w8.heap.size, 0, .slice Z8 p3.length p3.length), (w8.heap.size, 1, .slice Y8 r3.length r3.length), (w5.heap.size, 0, .slice Z5 p1.length p1.length), (w5.heap.size, 1, .slice Y5 nx1.length nx1.length), (w.heap.size, 0, .int .i64 t0), (w.heap.size, 1, .int .i64 a0), (w.heap.size + 1, 0, .slice A1 p1.length C1), (w.heap.size + 1, 1, .slice B1 nx1.length D1), (w.heap.size + 2, 0, .slice A3 p3.length C3), (w.heap.size + 2, 1, .slice B3 r3.length D3)]) (by assumption) hb15) | (go_at_call 17; refine (KG2.out _ _ _ _ _ ?_ ?_ ?_ ?_ ?_ ).mono ?_; exact St.sees (l := [(w8.heap.size, 0, .slice Z8 p3.length p3.length), (w8.heap.size, 1, .slice Y8 r3.length r3.length), (w5.heap.size, 0, .slice Z5 p1.length p1.length), (w5.heap.size, 1, .slice Y5 nx1.length nx1.length), (w.heap.size, 0, .int .i64 t0), (w.heap.size, 1, .int .i64 a0), (w.heap.size + 1, 0, .slice A1 p1.length C1), (w.heap.size + 1, 1, .slice B1 nx1.length D1), (w.heap.size + 2, 0, .slice A3 p3.length C3), (w.heap.size + 2, 1, .slice B3 r3.length D3)]) (by assumption); (first | exact G12 | exact G12.drew | exact G12.drew.drew | exact G12.below hb15 | exact G12.dbelow hb15 | exact (G12.below hb15).drew | exact (G12.dbelow hb15).drew); (first | exact G14 | exact G14.drew | exact G14.drew.drew | exact G14.below hb15 | exact G14.dbelow hb15 | exact (G14.below hb15).drew | exact (G14.dbelow hb15).drew); (first | exact G9 | exact G9.drew | exact G9.drew.drew | exact G9.below hb15 | exact G9.dbelow hb15 | exact (G9.below hb15).drew | exact (G9.dbelow hb15).drew); (first | exact G10 | exact G10.drew | exact G10.drew.drew | exact G10.below hb15 | exact G10.dbelow hb15 | exact (G10.below hb15).drew | exact (G10.dbelow hb15).drew); rintro e w16 ⟨rfl, hb16⟩; have T16 := St.below (l := [(w8.heap.size, 0, .slice Z8 p3.length p3.length), (w8.heap.size, 1, .slice Y8 r3.length r3.length), (w5.heap.size, 0, .slice Z5 p1.length p1.length), (w5.heap.size, 1, .slice Y5 nx1.length nx1.length), (w.heap.size, 0, .int .i64 t0), (w.heap.size, 1, .int .i64 a0), (w.heap.size + 1, 0, .slice A1 p1.length C1), (w.heap.size + 1, 1, .slice B1 nx1.length D1), (w.heap.size + 2, 0, .slice A3 p3.length C3), (w.heap.size + 2, 1, .slice B3 r3.length D3)]) (by assumption) hb16))
  clear x0 x1 x2 x3 x4 x5 x6 x7 x8 x9 x10
  clear H
  have H := Lib.hid T16
  have G17 : Ints w15 p1 Z5 := by first | exact G12.below hb15 | exact G12.dbelow hb15
  have G18 : Ints w16 p1 Z5 := by first | exact G17.below hb16 | exact G17.dbelow hb16
  have G19 : II 0 w15 nx1 Y5 := by first | exact G14.below hb15 | exact G14.dbelow hb15
  have G20 : II 0 w16 nx1 Y5 := by first | exact G19.below hb16 | exact G19.dbelow hb16
  have G21 : Ints w15 p3 Z8 := by first | exact G9.below hb15 | exact G9.dbelow hb15
  have G22 : Ints w16 p3 Z8 := by first | exact G21.below hb16 | exact G21.dbelow hb16
  have G23 : Ints w15 r3 Y8 := by first | exact G10.below hb15 | exact G10.dbelow hb15
  have G24 : Ints w16 r3 Y8 := by first | exact G23.below hb16 | exact G23.dbelow hb16
  clear T16 hb15 hb16
  have ne_q0 : (q0 != q0) = false := by simp
  have ne_q1 : (q1 != q1) = false := by simp
  obtain ⟨x0, x1, x2, x3, x4, x5, x6, x7, x8, x9, x10, _⟩ := H.out
  go_wp2_with fail
  go_region_held3 (fun w' => Sees w w' ∧ w'.cell? ⟨w8.heap.size, 0, none⟩ = some (.slice Z8 p3.length p3.length) ∧ w'.cell? ⟨w8.heap.size, 1, none⟩ = some (.slice Y8 r3.length r3.length) ∧ w'.cell? ⟨w5.heap.size, 0, none⟩ = some (.slice Z5 p1.length p1.length) ∧ w'.cell? ⟨w5.heap.size, 1, none⟩ = some (.slice Y5 nx1.length nx1.length) ∧ w'.cell? ⟨w.heap.size, 0, none⟩ = some (.int .i64 t0) ∧ w'.cell? ⟨w.heap.size, 1, none⟩ = some (.int .i64 a0) ∧ w'.cell? ⟨w.heap.size + 1, 0, none⟩ = some (.slice A1 p1.length C1) ∧ w'.cell? ⟨w.heap.size + 1, 1, none⟩ = some (.slice B1 nx1.length D1) ∧ w'.cell? ⟨w.heap.size + 2, 0, none⟩ = some (.slice A3 p3.length C3) ∧ w'.cell? ⟨w.heap.size + 2, 1, none⟩ = some (.slice B3 r3.length D3) ∧ True)
    (first | exact H.out.drew | exact T26 | exact T25 | (go_keep; done))
    (first | (go_at_call 15; (with_reducible refine (KT1.out _ ?_).mono ?_); exact St.sees (l := [(w8.heap.size, 0, .slice Z8 p3.length p3.length), (w8.heap.size, 1, .slice Y8 r3.length r3.length), (w5.heap.size, 0, .slice Z5 p1.length p1.length), (w5.heap.size, 1, .slice Y5 nx1.length nx1.length), (w.heap.size, 0, .int .i64 t0), (w.heap.size, 1, .int .i64 a0), (w.heap.size + 1, 0, .slice A1 p1.length C1), (w.heap.size + 1, 1, .slice B1 nx1.length D1), (w.heap.size + 2, 0, .slice A3 p3.length C3), (w.heap.size + 2, 1, .slice B3 r3.length D3)]) (by assumption); rintro e w25 ⟨Z25, Y25, rfl, M25, N25, hb25⟩; have T25 := St.below (l := [(w8.heap.size, 0, .slice Z8 p3.length p3.length), (w8.heap.size, 1, .slice Y8 r3.length r3.length), (w5.heap.size, 0, .slice Z5 p1.length p1.length), (w5.heap.size, 1, .slice Y5 nx1.length nx1.length), (w.heap.size, 0, .int .i64 t0), (w.heap.size, 1, .int .i64 a0), (w.heap.size + 1, 0, .slice A1 p1.length C1), (w.heap.size + 1, 1, .slice B1 nx1.length D1), (w.heap.size + 2, 0, .slice A3 p3.length C3), (w.heap.size + 2, 1, .slice B3 r3.length D3)]) (by assumption) hb25) | (go_at_call 18; refine (KE1.out _ _ _ _ _ ?_ ?_ ?_ ?_ ).mono ?_; (first | exact G18 | exact G18.drew | exact G18.drew.drew | exact G18.below hb25 | exact G18.dbelow hb25 | exact (G18.below hb25).drew | exact (G18.dbelow hb25).drew); (first | exact G20 | exact G20.drew | exact G20.drew.drew | exact G20.below hb25 | exact G20.dbelow hb25 | exact (G20.below hb25).drew | exact (G20.dbelow hb25).drew); (first | exact M25 | exact M25.drew | exact M25.drew.drew); (first | exact N25 | exact N25.drew | exact N25.drew.drew); rintro e w26 ⟨rfl, hb26⟩; have T26 := St.below (l := [(w8.heap.size, 0, .slice Z8 p3.length p3.length), (w8.heap.size, 1, .slice Y8 r3.length r3.length), (w5.heap.size, 0, .slice Z5 p1.length p1.length), (w5.heap.size, 1, .slice Y5 nx1.length nx1.length), (w.heap.size, 0, .int .i64 t0), (w.heap.size, 1, .int .i64 a0), (w.heap.size + 1, 0, .slice A1 p1.length C1), (w.heap.size + 1, 1, .slice B1 nx1.length D1), (w.heap.size + 2, 0, .slice A3 p3.length C3), (w.heap.size + 2, 1, .slice B3 r3.length D3)]) (by assumption) hb26))
  clear x0 x1 x2 x3 x4 x5 x6 x7 x8 x9 x10
  clear H
  have H := Lib.hid T26
  have G27 : Ints w25 p1 Z5 := by first | exact G18.below hb25 | exact G18.dbelow hb25
  have G28 : Ints w26 p1 Z5 := by first | exact G27.below hb26 | exact G27.dbelow hb26
  have G29 : II 0 w25 nx1 Y5 := by first | exact G20.below hb25 | exact G20.dbelow hb25
  have G30 : II 0 w26 nx1 Y5 := by first | exact G29.below hb26 | exact G29.dbelow hb26
  have G31 : Ints w25 p3 Z8 := by first | exact G22.below hb25 | exact G22.dbelow hb25
  have G32 : Ints w26 p3 Z8 := by first | exact G31.below hb26 | exact G31.dbelow hb26
  have G33 : Ints w25 r3 Y8 := by first | exact G24.below hb25 | exact G24.dbelow hb25
  have G34 : Ints w26 r3 Y8 := by first | exact G33.below hb26 | exact G33.dbelow hb26
  clear T26 T25 hb25 hb26 M25 N25
  obtain ⟨x0, x1, x2, x3, x4, x5, x6, x7, x8, x9, x10, _⟩ := H.out
  go_wp2_with fail
  go_region_held3 (fun w' => Sees w w' ∧ w'.cell? ⟨w8.heap.size, 0, none⟩ = some (.slice Z8 p3.length p3.length) ∧ w'.cell? ⟨w8.heap.size, 1, none⟩ = some (.slice Y8 r3.length r3.length) ∧ w'.cell? ⟨w5.heap.size, 0, none⟩ = some (.slice Z5 p1.length p1.length) ∧ w'.cell? ⟨w5.heap.size, 1, none⟩ = some (.slice Y5 nx1.length nx1.length) ∧ w'.cell? ⟨w.heap.size, 0, none⟩ = some (.int .i64 t0) ∧ w'.cell? ⟨w.heap.size, 1, none⟩ = some (.int .i64 a0) ∧ w'.cell? ⟨w.heap.size + 1, 0, none⟩ = some (.slice A1 p1.length C1) ∧ w'.cell? ⟨w.heap.size + 1, 1, none⟩ = some (.slice B1 nx1.length D1) ∧ w'.cell? ⟨w.heap.size + 2, 0, none⟩ = some (.slice A3 p3.length C3) ∧ w'.cell? ⟨w.heap.size + 2, 1, none⟩ = some (.slice B3 r3.length D3) ∧ True)
    (first | exact H.out.drew | exact T36 | exact T35 | (go_keep; done))
    (first | (go_at_call 16; (with_reducible refine (KT3.out _ ?_).mono ?_); exact St.sees (l := [(w8.heap.size, 0, .slice Z8 p3.length p3.length), (w8.heap.size, 1, .slice Y8 r3.length r3.length), (w5.heap.size, 0, .slice Z5 p1.length p1.length), (w5.heap.size, 1, .slice Y5 nx1.length nx1.length), (w.heap.size, 0, .int .i64 t0), (w.heap.size, 1, .int .i64 a0), (w.heap.size + 1, 0, .slice A1 p1.length C1), (w.heap.size + 1, 1, .slice B1 nx1.length D1), (w.heap.size + 2, 0, .slice A3 p3.length C3), (w.heap.size + 2, 1, .slice B3 r3.length D3)]) (by assumption); rintro e w35 ⟨Z35, Y35, rfl, M35, N35, hb35⟩; have T35 := St.below (l := [(w8.heap.size, 0, .slice Z8 p3.length p3.length), (w8.heap.size, 1, .slice Y8 r3.length r3.length), (w5.heap.size, 0, .slice Z5 p1.length p1.length), (w5.heap.size, 1, .slice Y5 nx1.length nx1.length), (w.heap.size, 0, .int .i64 t0), (w.heap.size, 1, .int .i64 a0), (w.heap.size + 1, 0, .slice A1 p1.length C1), (w.heap.size + 1, 1, .slice B1 nx1.length D1), (w.heap.size + 2, 0, .slice A3 p3.length C3), (w.heap.size + 2, 1, .slice B3 r3.length D3)]) (by assumption) hb35) | (go_at_call 19; refine (KE3.out _ _ _ _ _ ?_ ?_ ?_ ?_ ).mono ?_; (first | exact G32 | exact G32.drew | exact G32.drew.drew | exact G32.below hb35 | exact G32.dbelow hb35 | exact (G32.below hb35).drew | exact (G32.dbelow hb35).drew); (first | exact G34 | exact G34.drew | exact G34.drew.drew | exact G34.below hb35 | exact G34.dbelow hb35 | exact (G34.below hb35).drew | exact (G34.dbelow hb35).drew); (first | exact M35 | exact M35.drew | exact M35.drew.drew); (first | exact N35 | exact N35.drew | exact N35.drew.drew); rintro e w36 ⟨rfl, hb36⟩; have T36 := St.below (l := [(w8.heap.size, 0, .slice Z8 p3.length p3.length), (w8.heap.size, 1, .slice Y8 r3.length r3.length), (w5.heap.size, 0, .slice Z5 p1.length p1.length), (w5.heap.size, 1, .slice Y5 nx1.length nx1.length), (w.heap.size, 0, .int .i64 t0), (w.heap.size, 1, .int .i64 a0), (w.heap.size + 1, 0, .slice A1 p1.length C1), (w.heap.size + 1, 1, .slice B1 nx1.length D1), (w.heap.size + 2, 0, .slice A3 p3.length C3), (w.heap.size + 2, 1, .slice B3 r3.length D3)]) (by assumption) hb36))
  clear x0 x1 x2 x3 x4 x5 x6 x7 x8 x9 x10
  clear H
  have H := Lib.hid T36
  have G37 : Ints w35 p1 Z5 := by first | exact G28.below hb35 | exact G28.dbelow hb35
  have G38 : Ints w36 p1 Z5 := by first | exact G37.below hb36 | exact G37.dbelow hb36
  have G39 : II 0 w35 nx1 Y5 := by first | exact G30.below hb35 | exact G30.dbelow hb35
  have G40 : II 0 w36 nx1 Y5 := by first | exact G39.below hb36 | exact G39.dbelow hb36
  have G41 : Ints w35 p3 Z8 := by first | exact G32.below hb35 | exact G32.dbelow hb35
  have G42 : Ints w36 p3 Z8 := by first | exact G41.below hb36 | exact G41.dbelow hb36
  have G43 : Ints w35 r3 Y8 := by first | exact G34.below hb35 | exact G34.dbelow hb35
  have G44 : Ints w36 r3 Y8 := by first | exact G43.below hb36 | exact G43.dbelow hb36
  clear T36 T35 hb35 hb36 M35 N35
  go_wp2_with fail
  go_ret
  exact ⟨rfl, H.out.1⟩

end Go.Proofs.YtlfafcbieeambaaDoor
