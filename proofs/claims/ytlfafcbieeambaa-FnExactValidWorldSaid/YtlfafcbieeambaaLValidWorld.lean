/- The law FnExactValidWorld, walked, out of the contracts of both sides. -/
import Derived.Test.YtlfafcbieeambaaSz
import Derived.Test.YtlfafcbieeambaaTo
import Derived.Test.YtlfafcbieeambaaEq
import Derived.Test.YtlfafcbieeambaaWld
import Derived.Deep.RegionHeld3
namespace Go.Proofs.Ytlfafcbieeambaa
open Go.RowKit

set_option maxHeartbeats 2000000 in
set_option maxRecDepth 100000 in
theorem lawValidWorld (t0 a0 : Int) (p1 : List Int) (nx1 : List (List Int)) (A1 B1 : Option Addr) (C1 D1 : Nat) {q0 : Bool}
    (KW : Hid (wldN p1 nx1 ≤ 1048576 → ∀ (W : World) (Z1 Y1 : Option Addr), Ints W p1 Z1 → II 0 W nx1 Y1 → Calls Try.prog 26 #[.agg #[.int .i64 t0, .int .i64 a0], .agg #[.slice Z1 p1.length p1.length, .slice Y1 nx1.length nx1.length]] W fun e w' => e = .returned (.bool q0) ∧ Below W.heap.size W w'))
    (KG : Hid (wldN p1 nx1 ≤ 1048576 → ∀ (W : World) (Z1 Y1 : Option Addr), Ints W p1 Z1 → II 0 W nx1 Y1 → Calls Try.prog 28 #[.agg #[.int .i64 t0, .int .i64 a0], .agg #[.slice Z1 p1.length p1.length, .slice Y1 nx1.length nx1.length]] W fun e w' => e = .returned (.bool q0) ∧ Below W.heap.size W w'))
    (w : World) (hm1 : Hid (FitW p1 nx1)) (hl1 : Ints w p1 A1) (hr1 : II 0 w nx1 B1) :
    Calls Try.prog 5 #[.agg #[.int .i64 t0, .int .i64 a0], .agg #[.slice A1 p1.length C1, .slice B1 nx1.length D1]] w fun e w' => e = .returned (.bool true) ∧ Below w.heap.size w w' := by
  by_cases hbig1 : 1048576 < ((wldN p1 nx1) : Nat)
  · have hs : szR (wldN p1 nx1) 1048576 = -1 := szR_neg (by omega)
    have KS1 : Hid (∀ W : World, Sees w W → Calls Try.prog 25 #[.agg #[.slice A1 p1.length C1, .slice B1 nx1.length D1], .int .i64 1048576] W fun e w' => e = .returned (.int .i64 (-1)) ∧ Below W.heap.size W w') := fun W h => by rw [← hs]; exact szWorld_any p1 nx1 hm1.out 1048576 A1 B1 C1 D1 W (hr1.sees h) (by omega) (by omega)
    clear hs
    go_enter Try.func5, Try.ntmps5
    go_wp2_with fail
    refine (KS1.out _ ?_).mono ?_
    · unfold Sees; go_grown
    rintro e wz0 ⟨rfl, hb⟩
    have T := St.below (w := w) (l := [(w.heap.size, 0, .int .i64 t0), (w.heap.size, 1, .int .i64 a0), (w.heap.size + 1, 0, .slice A1 p1.length C1), (w.heap.size + 1, 1, .slice B1 nx1.length D1)]) ⟨(by unfold Sees; go_grown), (by simp [go_sem]), (by simp [go_sem]), (by simp [go_sem]), (by simp [go_sem]), trivial⟩ hb
    have H := Lib.hid T; clear T hb
    obtain ⟨x0, x1, x2, x3, x4, _⟩ := H.out
    go_wp2_with fail
    clear x0 x1 x2 x3 x4
    go_ret
    exact ⟨rfl, H.out.1⟩
  obtain ⟨s1, hs, hz1, hy1⟩ : ∃ s : Int, s = szR (wldN p1 nx1) 1048576 ∧ 0 ≤ s ∧ s ≤ 1048576 := ⟨_, rfl, by rw [szR_pos (by omega)]; omega, by rw [szR_pos (by omega)]; omega⟩
  have KS1 : Hid (∀ W : World, Sees w W → Calls Try.prog 25 #[.agg #[.slice A1 p1.length C1, .slice B1 nx1.length D1], .int .i64 1048576] W fun e w' => e = .returned (.int .i64 s1) ∧ Below W.heap.size W w') := fun W h => by rw [hs]; exact szWorld_any p1 nx1 hm1.out 1048576 A1 B1 C1 D1 W (hr1.sees h) (by omega) (by omega)
  clear hs
  have hsmall : wldN p1 nx1 ≤ 1048576 := by (first | trivial | omega | (refine ⟨?_, ?_⟩ <;> omega))
  have KT0 : Hid (∀ W : World, Sees w W → Calls Try.prog 11 #[.agg #[.int .i64 t0, .int .i64 a0]] W fun e w' => e = .returned (.agg #[.int .i64 t0, .int .i64 a0]) ∧ Below W.heap.size W w') := fun W h => toSig_any t0 a0 W
  have KT1 : Hid (∀ W : World, Sees w W → Calls Try.prog 27 #[.agg #[.slice A1 p1.length C1, .slice B1 nx1.length D1]] W fun e w' => ∃ Z Y, e = .returned (.agg #[.slice Z p1.length p1.length, .slice Y nx1.length nx1.length]) ∧ Ints w' p1 Z ∧ II 0 w' nx1 Y ∧ Below W.heap.size W w') :=
    fun W h => toWorld_any p1 nx1 (by omega) A1 B1 C1 D1 W (hl1.sees h) (hr1.sees h)
  have KE1 : Hid (∀ (W : World) (Z Y Z' Y' : Option Addr), Ints W p1 Z → II 0 W nx1 Y → Ints W p1 Z' → II 0 W nx1 Y' → Calls Try.prog 29 #[.agg #[.slice Z p1.length p1.length, .slice Y nx1.length nx1.length], .agg #[.slice Z' p1.length p1.length, .slice Y' nx1.length nx1.length]] W fun e w' => e = .returned (.bool true) ∧ Below W.heap.size W w') :=
    fun W Z Y Z' Y' h1 h2 h3 h4 => eqWorld_same p1 nx1 hm1.out _ _ _ _ _ _ _ _ W h1 h2 h3 h4
  have KW2 := Lib.hid (KW.out hsmall); clear KW
  have KG2 := Lib.hid (KG.out hsmall); clear KG hsmall
  go_enter Try.func5, Try.ntmps5
  go_wp2_with fail
  refine (KS1.out _ ?_).mono ?_
  · unfold Sees; go_grown
  rintro e wz0 ⟨rfl, hb⟩
  have T := St.below (w := w) (l := [(w.heap.size, 0, .int .i64 t0), (w.heap.size, 1, .int .i64 a0), (w.heap.size + 1, 0, .slice A1 p1.length C1), (w.heap.size + 1, 1, .slice B1 nx1.length D1)]) ⟨(by unfold Sees; go_grown), (by simp [go_sem]), (by simp [go_sem]), (by simp [go_sem]), (by simp [go_sem]), trivial⟩ hb
  have H := Lib.hid T; clear T hb
  obtain ⟨x0, x1, x2, x3, x4, _⟩ := H.out
  go_wp2_with fail
  clear x0 x1 x2 x3 x4
  obtain ⟨x0, x1, x2, x3, x4, _⟩ := H.out
  go_wp2_with fail
  go_region_held3 (fun w' => Sees w w' ∧ w'.cell? ⟨w.heap.size, 0, none⟩ = some (.int .i64 t0) ∧ w'.cell? ⟨w.heap.size, 1, none⟩ = some (.int .i64 a0) ∧ w'.cell? ⟨w.heap.size + 1, 0, none⟩ = some (.slice A1 p1.length C1) ∧ w'.cell? ⟨w.heap.size + 1, 1, none⟩ = some (.slice B1 nx1.length D1) ∧ True)
    (first | exact H.out.drew | exact T3 | exact T2 | exact T1 | (go_keep; done))
    (first | (go_at_call 11; (with_reducible refine (KT0.out _ ?_).mono ?_); exact St.sees (l := [(w.heap.size, 0, .int .i64 t0), (w.heap.size, 1, .int .i64 a0), (w.heap.size + 1, 0, .slice A1 p1.length C1), (w.heap.size + 1, 1, .slice B1 nx1.length D1)]) (by assumption); rintro e w1 ⟨rfl, hb1⟩; have T1 := St.below (l := [(w.heap.size, 0, .int .i64 t0), (w.heap.size, 1, .int .i64 a0), (w.heap.size + 1, 0, .slice A1 p1.length C1), (w.heap.size + 1, 1, .slice B1 nx1.length D1)]) (by assumption) hb1) | (go_at_call 27; (with_reducible refine (KT1.out _ ?_).mono ?_); exact St.sees (l := [(w.heap.size, 0, .int .i64 t0), (w.heap.size, 1, .int .i64 a0), (w.heap.size + 1, 0, .slice A1 p1.length C1), (w.heap.size + 1, 1, .slice B1 nx1.length D1)]) (by assumption); rintro e w2 ⟨Z2, Y2, rfl, M2, N2, hb2⟩; have T2 := St.below (l := [(w.heap.size, 0, .int .i64 t0), (w.heap.size, 1, .int .i64 a0), (w.heap.size + 1, 0, .slice A1 p1.length C1), (w.heap.size + 1, 1, .slice B1 nx1.length D1)]) (by assumption) hb2) | (go_at_call 26; refine (KW2.out _ _ _ ?_ ?_ ).mono ?_; (first | exact M2 | exact M2.drew | exact M2.drew.drew); (first | exact N2 | exact N2.drew | exact N2.drew.drew); rintro e w3 ⟨rfl, hb3⟩; have T3 := St.below (l := [(w.heap.size, 0, .int .i64 t0), (w.heap.size, 1, .int .i64 a0), (w.heap.size + 1, 0, .slice A1 p1.length C1), (w.heap.size + 1, 1, .slice B1 nx1.length D1)]) (by assumption) hb3))
  clear x0 x1 x2 x3 x4
  clear H
  have H := Lib.hid T3
  clear hb3 T3
  obtain ⟨x0, x1, x2, x3, x4, _⟩ := H.out
  go_wp2_with fail
  refine (KT1.out _ H.out.1).mono ?_
  rintro e w4 ⟨Z4, Y4, rfl, M4, N4, hb4⟩
  have T := H.out.below hb4
  clear x0 x1 x2 x3 x4
  have T2 : St w [(w4.heap.size, 0, .slice Z4 p1.length p1.length), (w4.heap.size, 1, .slice Y4 nx1.length nx1.length), (w.heap.size, 0, .int .i64 t0), (w.heap.size, 1, .int .i64 a0), (w.heap.size + 1, 0, .slice A1 p1.length C1), (w.heap.size + 1, 1, .slice B1 nx1.length D1)] (w4.alloc (.cells #[.slice Z4 p1.length p1.length, .slice Y4 nx1.length nx1.length] 58)) := ⟨T.1.alloc _, (by simp [go_sem]), (by simp [go_sem]), T.2.alloc _⟩
  have G5 : Ints (w4.alloc (.cells #[.slice Z4 p1.length p1.length, .slice Y4 nx1.length nx1.length] 58)) p1 Z4 := M4.alloc _
  have G6 : II 0 (w4.alloc (.cells #[.slice Z4 p1.length p1.length, .slice Y4 nx1.length nx1.length] 58)) nx1 Y4 := N4.alloc _
  clear H T hb4 M4 N4
  have H := Lib.hid T2; clear T2
  obtain ⟨x0, x1, x2, x3, x4, x5, x6, _⟩ := H.out
  go_wp2_with fail
  go_region_held3 (fun w' => Sees w w' ∧ w'.cell? ⟨w4.heap.size, 0, none⟩ = some (.slice Z4 p1.length p1.length) ∧ w'.cell? ⟨w4.heap.size, 1, none⟩ = some (.slice Y4 nx1.length nx1.length) ∧ w'.cell? ⟨w.heap.size, 0, none⟩ = some (.int .i64 t0) ∧ w'.cell? ⟨w.heap.size, 1, none⟩ = some (.int .i64 a0) ∧ w'.cell? ⟨w.heap.size + 1, 0, none⟩ = some (.slice A1 p1.length C1) ∧ w'.cell? ⟨w.heap.size + 1, 1, none⟩ = some (.slice B1 nx1.length D1) ∧ True)
    (first | exact H.out.drew | exact T8 | exact T7 | (go_keep; done))
    (first | (go_at_call 11; (with_reducible refine (KT0.out _ ?_).mono ?_); exact St.sees (l := [(w4.heap.size, 0, .slice Z4 p1.length p1.length), (w4.heap.size, 1, .slice Y4 nx1.length nx1.length), (w.heap.size, 0, .int .i64 t0), (w.heap.size, 1, .int .i64 a0), (w.heap.size + 1, 0, .slice A1 p1.length C1), (w.heap.size + 1, 1, .slice B1 nx1.length D1)]) (by assumption); rintro e w7 ⟨rfl, hb7⟩; have T7 := St.below (l := [(w4.heap.size, 0, .slice Z4 p1.length p1.length), (w4.heap.size, 1, .slice Y4 nx1.length nx1.length), (w.heap.size, 0, .int .i64 t0), (w.heap.size, 1, .int .i64 a0), (w.heap.size + 1, 0, .slice A1 p1.length C1), (w.heap.size + 1, 1, .slice B1 nx1.length D1)]) (by assumption) hb7) | (go_at_call 28; refine (KG2.out _ _ _ ?_ ?_ ).mono ?_; (first | exact G5 | exact G5.drew | exact G5.drew.drew | exact G5.below hb7 | exact G5.dbelow hb7 | exact (G5.below hb7).drew | exact (G5.dbelow hb7).drew); (first | exact G6 | exact G6.drew | exact G6.drew.drew | exact G6.below hb7 | exact G6.dbelow hb7 | exact (G6.below hb7).drew | exact (G6.dbelow hb7).drew); rintro e w8 ⟨rfl, hb8⟩; have T8 := St.below (l := [(w4.heap.size, 0, .slice Z4 p1.length p1.length), (w4.heap.size, 1, .slice Y4 nx1.length nx1.length), (w.heap.size, 0, .int .i64 t0), (w.heap.size, 1, .int .i64 a0), (w.heap.size + 1, 0, .slice A1 p1.length C1), (w.heap.size + 1, 1, .slice B1 nx1.length D1)]) (by assumption) hb8))
  clear x0 x1 x2 x3 x4 x5 x6
  clear H
  have H := Lib.hid T8
  have G9 : Ints w7 p1 Z4 := by first | exact G5.below hb7 | exact G5.dbelow hb7
  have G10 : Ints w8 p1 Z4 := by first | exact G9.below hb8 | exact G9.dbelow hb8
  have G11 : II 0 w7 nx1 Y4 := by first | exact G6.below hb7 | exact G6.dbelow hb7
  have G12 : II 0 w8 nx1 Y4 := by first | exact G11.below hb8 | exact G11.dbelow hb8
  clear T8 hb7 hb8
  have ne_q0 : (q0 != q0) = false := by simp
  obtain ⟨x0, x1, x2, x3, x4, x5, x6, _⟩ := H.out
  go_wp2_with fail
  go_region_held3 (fun w' => Sees w w' ∧ w'.cell? ⟨w4.heap.size, 0, none⟩ = some (.slice Z4 p1.length p1.length) ∧ w'.cell? ⟨w4.heap.size, 1, none⟩ = some (.slice Y4 nx1.length nx1.length) ∧ w'.cell? ⟨w.heap.size, 0, none⟩ = some (.int .i64 t0) ∧ w'.cell? ⟨w.heap.size, 1, none⟩ = some (.int .i64 a0) ∧ w'.cell? ⟨w.heap.size + 1, 0, none⟩ = some (.slice A1 p1.length C1) ∧ w'.cell? ⟨w.heap.size + 1, 1, none⟩ = some (.slice B1 nx1.length D1) ∧ True)
    (first | exact H.out.drew | exact T14 | exact T13 | (go_keep; done))
    (first | (go_at_call 27; (with_reducible refine (KT1.out _ ?_).mono ?_); exact St.sees (l := [(w4.heap.size, 0, .slice Z4 p1.length p1.length), (w4.heap.size, 1, .slice Y4 nx1.length nx1.length), (w.heap.size, 0, .int .i64 t0), (w.heap.size, 1, .int .i64 a0), (w.heap.size + 1, 0, .slice A1 p1.length C1), (w.heap.size + 1, 1, .slice B1 nx1.length D1)]) (by assumption); rintro e w13 ⟨Z13, Y13, rfl, M13, N13, hb13⟩; have T13 := St.below (l := [(w4.heap.size, 0, .slice Z4 p1.length p1.length), (w4.heap.size, 1, .slice Y4 nx1.length nx1.length), (w.heap.size, 0, .int .i64 t0), (w.heap.size, 1, .int .i64 a0), (w.heap.size + 1, 0, .slice A1 p1.length C1), (w.heap.size + 1, 1, .slice B1 nx1.length D1)]) (by assumption) hb13) | (go_at_call 29; refine (KE1.out _ _ _ _ _ ?_ ?_ ?_ ?_ ).mono ?_; (first | exact G10 | exact G10.drew | exact G10.drew.drew | exact G10.below hb13 | exact G10.dbelow hb13 | exact (G10.below hb13).drew | exact (G10.dbelow hb13).drew); (first | exact G12 | exact G12.drew | exact G12.drew.drew | exact G12.below hb13 | exact G12.dbelow hb13 | exact (G12.below hb13).drew | exact (G12.dbelow hb13).drew); (first | exact M13 | exact M13.drew | exact M13.drew.drew); (first | exact N13 | exact N13.drew | exact N13.drew.drew); rintro e w14 ⟨rfl, hb14⟩; have T14 := St.below (l := [(w4.heap.size, 0, .slice Z4 p1.length p1.length), (w4.heap.size, 1, .slice Y4 nx1.length nx1.length), (w.heap.size, 0, .int .i64 t0), (w.heap.size, 1, .int .i64 a0), (w.heap.size + 1, 0, .slice A1 p1.length C1), (w.heap.size + 1, 1, .slice B1 nx1.length D1)]) (by assumption) hb14))
  clear x0 x1 x2 x3 x4 x5 x6
  clear H
  have H := Lib.hid T14
  have G15 : Ints w13 p1 Z4 := by first | exact G10.below hb13 | exact G10.dbelow hb13
  have G16 : Ints w14 p1 Z4 := by first | exact G15.below hb14 | exact G15.dbelow hb14
  have G17 : II 0 w13 nx1 Y4 := by first | exact G12.below hb13 | exact G12.dbelow hb13
  have G18 : II 0 w14 nx1 Y4 := by first | exact G17.below hb14 | exact G17.dbelow hb14
  clear T14 T13 hb13 hb14 M13 N13
  go_wp2_with fail
  go_ret
  exact ⟨rfl, H.out.1⟩

end Go.Proofs.Ytlfafcbieeambaa
