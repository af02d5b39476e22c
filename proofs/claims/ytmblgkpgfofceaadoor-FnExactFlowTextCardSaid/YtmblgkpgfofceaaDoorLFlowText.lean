/- The law FnExactFlowText, walked, out of the contracts of both sides. -/
import Derived.Test.YtmblgkpgfofceaaDoorSz
import Derived.Test.YtmblgkpgfofceaaDoorTo
import Derived.Test.YtmblgkpgfofceaaDoorEq
import Derived.Test.YtmblgkpgfofceaaDoorSpS
import Derived.Test.YtmblgkpgfofceaaDoorSpT
import Derived.Test.YtmblgkpgfofceaaDoorSpE
import Derived.Deep.RegionHeld3
namespace Go.Proofs.YtmblgkpgfofceaaDoor
open Go.RowKit

set_option maxHeartbeats 2000000 in
set_option maxRecDepth 100000 in
theorem lawFlowText (t0 a0 : Int) (st1 : Int) (xs1 : List Sp) (A1 : Option Addr) (C1 : Nat) {q0 : ByteArray}
    (KW : Hid (tot Sp.cnt xs1 ≤ 1048576 → ∀ (W : World) (Z1 : Option Addr), SpL W xs1 Z1 → Calls Tryd.prog 5 #[.agg #[.int .i64 t0, .int .i64 a0], .agg #[.int .i64 st1, .slice Z1 xs1.length xs1.length]] W fun e w' => e = .returned (.string q0) ∧ Below W.heap.size W w'))
    (KG : Hid (tot Sp.cnt xs1 ≤ 1048576 → ∀ (W : World) (Z1 : Option Addr), SpL W xs1 Z1 → Calls Tryd.prog 8 #[.agg #[.int .i64 t0, .int .i64 a0], .agg #[.int .i64 st1, .slice Z1 xs1.length xs1.length]] W fun e w' => e = .returned (.string q0) ∧ Below W.heap.size W w'))
    (w : World) (hm1 : Hid (FitSp xs1)) (hl1 : SpL w xs1 A1) :
    Calls Tryd.prog 3 #[.agg #[.int .i64 t0, .int .i64 a0], .agg #[.int .i64 st1, .slice A1 xs1.length C1]] w fun e w' => e = .returned (.bool true) ∧ Below w.heap.size w w' := by
  by_cases hbig1 : 1048576 < ((tot Sp.cnt xs1) : Nat)
  · have hs : szR (tot Sp.cnt xs1) 1048576 = -1 := szR_neg (by omega)
    have KS1 : Hid (∀ W : World, Sees w W → Calls Tryd.prog 4 #[.agg #[.int .i64 st1, .slice A1 xs1.length C1], .int .i64 1048576] W fun e w' => e = .returned (.int .i64 (-1)) ∧ Below W.heap.size W w') := fun W h => by rw [← hs]; exact szFlow_any st1 xs1 hm1.out 1048576 A1 C1 W (hl1.sees h) (by omega) (by omega)
    clear hs
    go_enter Tryd.func3, Tryd.ntmps3
    go_wp2_with fail
    refine (KS1.out _ ?_).mono ?_
    · unfold Sees; go_grown
    rintro e wz0 ⟨rfl, hb⟩
    have T := St.below (w := w) (l := [(w.heap.size, 0, .int .i64 t0), (w.heap.size, 1, .int .i64 a0), (w.heap.size + 1, 0, .int .i64 st1), (w.heap.size + 1, 1, .slice A1 xs1.length C1)]) ⟨(by unfold Sees; go_grown), (by simp [go_sem]), (by simp [go_sem]), (by simp [go_sem]), (by simp [go_sem]), trivial⟩ hb
    have H := Lib.hid T; clear T hb
    obtain ⟨x0, x1, x2, x3, x4, _⟩ := H.out
    go_wp2_with fail
    clear x0 x1 x2 x3 x4
    go_ret
    exact ⟨rfl, H.out.1⟩
  obtain ⟨s1, hs, hz1, hy1⟩ : ∃ s : Int, s = szR (tot Sp.cnt xs1) 1048576 ∧ 0 ≤ s ∧ s ≤ 1048576 := ⟨_, rfl, by rw [szR_pos (by omega)]; omega, by rw [szR_pos (by omega)]; omega⟩
  have KS1 : Hid (∀ W : World, Sees w W → Calls Tryd.prog 4 #[.agg #[.int .i64 st1, .slice A1 xs1.length C1], .int .i64 1048576] W fun e w' => e = .returned (.int .i64 s1) ∧ Below W.heap.size W w') := fun W h => by rw [hs]; exact szFlow_any st1 xs1 hm1.out 1048576 A1 C1 W (hl1.sees h) (by omega) (by omega)
  clear hs
  have hsmall : tot Sp.cnt xs1 ≤ 1048576 := by (first | trivial | omega | (refine ⟨?_, ?_⟩ <;> omega))
  have KT0 : Hid (∀ W : World, Sees w W → Calls Tryd.prog 6 #[.agg #[.int .i64 t0, .int .i64 a0]] W fun e w' => e = .returned (.agg #[.int .i64 t0, .int .i64 a0]) ∧ Below W.heap.size W w') := fun W h => toSig_any t0 a0 W
  have KT1 : Hid (∀ W : World, Sees w W → Calls Tryd.prog 7 #[.agg #[.int .i64 st1, .slice A1 xs1.length C1]] W fun e w' => ∃ Z, e = .returned (.agg #[.int .i64 st1, .slice Z xs1.length xs1.length]) ∧ SpL w' xs1 Z ∧ Below W.heap.size W w') :=
    fun W h => toFlow_any st1 xs1 (by omega) A1 C1 W (hl1.sees h)
  have KE1 : Hid (∀ (W : World) (Z Z' : Option Addr), SpL W xs1 Z → SpL W xs1 Z' → Calls Tryd.prog 9 #[.agg #[.int .i64 st1, .slice Z xs1.length xs1.length], .agg #[.int .i64 st1, .slice Z' xs1.length xs1.length]] W fun e w' => e = .returned (.bool true) ∧ Below W.heap.size W w') :=
    fun W Z Z' h1 h2 => eqFlow_same st1 xs1 hm1.out _ _ _ _ W h1 h2
  have KW2 := Lib.hid (KW.out hsmall); clear KW
  have KG2 := Lib.hid (KG.out hsmall); clear KG hsmall
  go_enter Tryd.func3, Tryd.ntmps3
  go_wp2_with fail
  refine (KS1.out _ ?_).mono ?_
  · unfold Sees; go_grown
  rintro e wz0 ⟨rfl, hb⟩
  have T := St.below (w := w) (l := [(w.heap.size, 0, .int .i64 t0), (w.heap.size, 1, .int .i64 a0), (w.heap.size + 1, 0, .int .i64 st1), (w.heap.size + 1, 1, .slice A1 xs1.length C1)]) ⟨(by unfold Sees; go_grown), (by simp [go_sem]), (by simp [go_sem]), (by simp [go_sem]), (by simp [go_sem]), trivial⟩ hb
  have H := Lib.hid T; clear T hb
  obtain ⟨x0, x1, x2, x3, x4, _⟩ := H.out
  go_wp2_with fail
  clear x0 x1 x2 x3 x4
  obtain ⟨x0, x1, x2, x3, x4, _⟩ := H.out
  go_wp2_with fail
  go_region_held3 (fun w' => Sees w w' ∧ w'.cell? ⟨w.heap.size, 0, none⟩ = some (.int .i64 t0) ∧ w'.cell? ⟨w.heap.size, 1, none⟩ = some (.int .i64 a0) ∧ w'.cell? ⟨w.heap.size + 1, 0, none⟩ = some (.int .i64 st1) ∧ w'.cell? ⟨w.heap.size + 1, 1, none⟩ = some (.slice A1 xs1.length C1) ∧ True)
    (first | exact H.out.drew | exact T3 | exact T2 | exact T1 | (go_keep; done))
    (first | (go_at_call 6; (with_reducible refine (KT0.out _ ?_).mono ?_); exact St.sees (l := [(w.heap.size, 0, .int .i64 t0), (w.heap.size, 1, .int .i64 a0), (w.heap.size + 1, 0, .int .i64 st1), (w.heap.size + 1, 1, .slice A1 xs1.length C1)]) (by assumption); rintro e w1 ⟨rfl, hb1⟩; have T1 := St.below (l := [(w.heap.size, 0, .int .i64 t0), (w.heap.size, 1, .int .i64 a0), (w.heap.size + 1, 0, .int .i64 st1), (w.heap.size + 1, 1, .slice A1 xs1.length C1)]) (by assumption) hb1) | (go_at_call 7; (with_reducible refine (KT1.out _ ?_).mono ?_); exact St.sees (l := [(w.heap.size, 0, .int .i64 t0), (w.heap.size, 1, .int .i64 a0), (w.heap.size + 1, 0, .int .i64 st1), (w.heap.size + 1, 1, .slice A1 xs1.length C1)]) (by assumption); rintro e w2 ⟨Z2, rfl, M2, hb2⟩; have T2 := St.below (l := [(w.heap.size, 0, .int .i64 t0), (w.heap.size, 1, .int .i64 a0), (w.heap.size + 1, 0, .int .i64 st1), (w.heap.size + 1, 1, .slice A1 xs1.length C1)]) (by assumption) hb2) | (go_at_call 5; refine (KW2.out _ _ ?_ ).mono ?_; (first | exact M2 | exact M2.drew | exact M2.drew.drew); rintro e w3 ⟨rfl, hb3⟩; have T3 := St.below (l := [(w.heap.size, 0, .int .i64 t0), (w.heap.size, 1, .int .i64 a0), (w.heap.size + 1, 0, .int .i64 st1), (w.heap.size + 1, 1, .slice A1 xs1.length C1)]) (by assumption) hb3))
  clear x0 x1 x2 x3 x4
  clear H
  have H := Lib.hid T3
  clear hb3 T3
  obtain ⟨x0, x1, x2, x3, x4, _⟩ := H.out
  go_wp2_with fail
  refine (KT1.out _ H.out.1).mono ?_
  rintro e w4 ⟨Z4, rfl, M4, hb4⟩
  have T := H.out.below hb4
  clear x0 x1 x2 x3 x4
  have T2 : St w [(w4.heap.size, 0, .int .i64 st1), (w4.heap.size, 1, .slice Z4 xs1.length xs1.length), (w.heap.size, 0, .int .i64 t0), (w.heap.size, 1, .int .i64 a0), (w.heap.size + 1, 0, .int .i64 st1), (w.heap.size + 1, 1, .slice A1 xs1.length C1)] (w4.alloc (.cells #[.int .i64 st1, .slice Z4 xs1.length xs1.length] 33)) := ⟨T.1.alloc _, (by simp [go_sem]), (by simp [go_sem]), T.2.alloc _⟩
  have G5 : SpL (w4.alloc (.cells #[.int .i64 st1, .slice Z4 xs1.length xs1.length] 33)) xs1 Z4 := M4.alloc _
  clear H T hb4 M4
  have H := Lib.hid T2; clear T2
  obtain ⟨x0, x1, x2, x3, x4, x5, x6, _⟩ := H.out
  go_wp2_with fail
  go_region_held3 (fun w' => Sees w w' ∧ w'.cell? ⟨w4.heap.size, 0, none⟩ = some (.int .i64 st1) ∧ w'.cell? ⟨w4.heap.size, 1, none⟩ = some (.slice Z4 xs1.length xs1.length) ∧ w'.cell? ⟨w.heap.size, 0, none⟩ = some (.int .i64 t0) ∧ w'.cell? ⟨w.heap.size, 1, none⟩ = some (.int .i64 a0) ∧ w'.cell? ⟨w.heap.size + 1, 0, none⟩ = some (.int .i64 st1) ∧ w'.cell? ⟨w.heap.size + 1, 1, none⟩ = some (.slice A1 xs1.length C1) ∧ True)
    (first | exact H.out.drew | exact T7 | exact T6 | (go_keep; done))
    (first | (go_at_call 6; (with_reducible refine (KT0.out _ ?_).mono ?_); exact St.sees (l := [(w4.heap.size, 0, .int .i64 st1), (w4.heap.size, 1, .slice Z4 xs1.length xs1.length), (w.heap.size, 0, .int .i64 t0), (w.heap.size, 1, .int .i64 a0), (w.heap.size + 1, 0, .int .i64 st1), (w.heap.size + 1, 1, .slice A1 xs1.length C1)]) (by assumption); rintro e w6 ⟨rfl, hb6⟩; have T6 := St.below (l := [(w4.heap.size, 0, .int .i64 st1), (w4.heap.size, 1, .slice Z4 xs1.length xs1.length), (w.heap.size, 0, .int .i64 t0), (w.heap.size, 1, .int .i64 a0), (w.heap.size + 1, 0, .int .i64 st1), (w.heap.size + 1, 1, .slice A1 xs1.length C1)]) (by assumption) hb6) | (go_at_call 8; refine (KG2.out _ _ ?_ ).mono ?_; (first | exact G5 | exact G5.drew | exact G5.drew.drew | exact G5.below hb6 | exact G5.dbelow hb6 | exact (G5.below hb6).drew | exact (G5.dbelow hb6).drew); rintro e w7 ⟨rfl, hb7⟩; have T7 := St.below (l := [(w4.heap.size, 0, .int .i64 st1), (w4.heap.size, 1, .slice Z4 xs1.length xs1.length), (w.heap.size, 0, .int .i64 t0), (w.heap.size, 1, .int .i64 a0), (w.heap.size + 1, 0, .int .i64 st1), (w.heap.size + 1, 1, .slice A1 xs1.length C1)]) (by assumption) hb7))
  clear x0 x1 x2 x3 x4 x5 x6
  clear H
  have H := Lib.hid T7
  have G8 : SpL w6 xs1 Z4 := by first | exact G5.below hb6 | exact G5.dbelow hb6
  have G9 : SpL w7 xs1 Z4 := by first | exact G8.below hb7 | exact G8.dbelow hb7
  clear T7 hb6 hb7
  have ne_q0 : (q0.toList == q0.toList) = true := by simp
  obtain ⟨x0, x1, x2, x3, x4, x5, x6, _⟩ := H.out
  go_wp2_with fail
  go_region_held3 (fun w' => Sees w w' ∧ w'.cell? ⟨w4.heap.size, 0, none⟩ = some (.int .i64 st1) ∧ w'.cell? ⟨w4.heap.size, 1, none⟩ = some (.slice Z4 xs1.length xs1.length) ∧ w'.cell? ⟨w.heap.size, 0, none⟩ = some (.int .i64 t0) ∧ w'.cell? ⟨w.heap.size, 1, none⟩ = some (.int .i64 a0) ∧ w'.cell? ⟨w.heap.size + 1, 0, none⟩ = some (.int .i64 st1) ∧ w'.cell? ⟨w.heap.size + 1, 1, none⟩ = some (.slice A1 xs1.length C1) ∧ True)
    (first | exact H.out.drew | exact T11 | exact T10 | (go_keep; done))
    (first | (go_at_call 7; (with_reducible refine (KT1.out _ ?_).mono ?_); exact St.sees (l := [(w4.heap.size, 0, .int .i64 st1), (w4.heap.size, 1, .slice Z4 xs1.length xs1.length), (w.heap.size, 0, .int .i64 t0), (w.heap.size, 1, .int .i64 a0), (w.heap.size + 1, 0, .int .i64 st1), (w.heap.size + 1, 1, .slice A1 xs1.length C1)]) (by assumption); rintro e w10 ⟨Z10, rfl, M10, hb10⟩; have T10 := St.below (l := [(w4.heap.size, 0, .int .i64 st1), (w4.heap.size, 1, .slice Z4 xs1.length xs1.length), (w.heap.size, 0, .int .i64 t0), (w.heap.size, 1, .int .i64 a0), (w.heap.size + 1, 0, .int .i64 st1), (w.heap.size + 1, 1, .slice A1 xs1.length C1)]) (by assumption) hb10) | (go_at_call 9; refine (KE1.out _ _ _ ?_ ?_ ).mono ?_; (first | exact G9 | exact G9.drew | exact G9.drew.drew | exact G9.below hb10 | exact G9.dbelow hb10 | exact (G9.below hb10).drew | exact (G9.dbelow hb10).drew); (first | exact M10 | exact M10.drew | exact M10.drew.drew); rintro e w11 ⟨rfl, hb11⟩; have T11 := St.below (l := [(w4.heap.size, 0, .int .i64 st1), (w4.heap.size, 1, .slice Z4 xs1.length xs1.length), (w.heap.size, 0, .int .i64 t0), (w.heap.size, 1, .int .i64 a0), (w.heap.size + 1, 0, .int .i64 st1), (w.heap.size + 1, 1, .slice A1 xs1.length C1)]) (by assumption) hb11))
  clear x0 x1 x2 x3 x4 x5 x6
  clear H
  have H := Lib.hid T11
  have G12 : SpL w10 xs1 Z4 := by first | exact G9.below hb10 | exact G9.dbelow hb10
  have G13 : SpL w11 xs1 Z4 := by first | exact G12.below hb11 | exact G12.dbelow hb11
  clear T11 T10 hb10 hb11 M10
  go_wp2_with fail
  go_ret
  exact ⟨rfl, H.out.1⟩

end Go.Proofs.YtmblgkpgfofceaaDoor
