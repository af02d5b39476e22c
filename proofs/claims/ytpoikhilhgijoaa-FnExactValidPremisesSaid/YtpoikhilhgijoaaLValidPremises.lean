/- The law FnExactValidPremises, walked, out of the contracts of both sides. -/
import Derived.Test.YtpoikhilhgijoaaSz
import Derived.Test.YtpoikhilhgijoaaTo
import Derived.Test.YtpoikhilhgijoaaEq
import Derived.Test.YtpoikhilhgijoaaPrS
import Derived.Test.YtpoikhilhgijoaaPrT
import Derived.Test.YtpoikhilhgijoaaPrE
import Derived.Deep.RegionHeld3
namespace Go.Proofs.Ytpoikhilhgijoaa
open Go.RowKit

set_option maxHeartbeats 2000000 in
set_option maxRecDepth 100000 in
theorem lawValidPremises (t0 a0 : Int) (xs1 : List Pm) (A1 : Option Addr) (C1 : Nat) {q0 : Bool}
    (KW : Hid (tot Pm.cnt xs1 ≤ 1048576 → ∀ (W : World) (Z1 : Option Addr), PmL W xs1 Z1 → Calls Try.prog 21 #[.agg #[.int .i64 t0, .int .i64 a0], .slice Z1 xs1.length xs1.length] W fun e w' => e = .returned (.bool q0) ∧ Below W.heap.size W w'))
    (KG : Hid (tot Pm.cnt xs1 ≤ 1048576 → ∀ (W : World) (Z1 : Option Addr), PmL W xs1 Z1 → Calls Try.prog 23 #[.agg #[.int .i64 t0, .int .i64 a0], .slice Z1 xs1.length xs1.length] W fun e w' => e = .returned (.bool q0) ∧ Below W.heap.size W w'))
    (w : World) (hm1 : Hid (FitPm xs1)) (hl1 : PmL w xs1 A1) :
    Calls Try.prog 5 #[.agg #[.int .i64 t0, .int .i64 a0], .slice A1 xs1.length C1] w fun e w' => e = .returned (.bool true) ∧ Below w.heap.size w w' := by
  by_cases hbig1 : 1048576 < ((tot Pm.cnt xs1) : Nat)
  · have hs : szR (tot Pm.cnt xs1) 1048576 = -1 := szR_neg (by omega)
    have KS1 : Hid (∀ W : World, Sees w W → Calls Try.prog 20 #[.slice A1 xs1.length C1, .int .i64 1048576] W fun e w' => e = .returned (.int .i64 (-1)) ∧ Below W.heap.size W w') := fun W h => by rw [← hs]; exact szPremiseS_any xs1 hm1.out 1048576 A1 C1 W (hl1.sees h) (by omega) (by omega)
    clear hs
    go_enter Try.func5, Try.ntmps5
    go_wp2_with fail
    refine (KS1.out _ ?_).mono ?_
    · unfold Sees; go_grown
    rintro e wz0 ⟨rfl, hb⟩
    have T := St.below (w := w) (l := [(w.heap.size, 0, .int .i64 t0), (w.heap.size, 1, .int .i64 a0)]) ⟨(by unfold Sees; go_grown), (by simp [go_sem]), (by simp [go_sem]), trivial⟩ hb
    have H := Lib.hid T; clear T hb
    obtain ⟨x0, x1, x2, _⟩ := H.out
    go_wp2_with fail
    clear x0 x1 x2
    go_ret
    exact ⟨rfl, H.out.1⟩
  obtain ⟨s1, hs, hz1, hy1⟩ : ∃ s : Int, s = szR (tot Pm.cnt xs1) 1048576 ∧ 0 ≤ s ∧ s ≤ 1048576 := ⟨_, rfl, by rw [szR_pos (by omega)]; omega, by rw [szR_pos (by omega)]; omega⟩
  have KS1 : Hid (∀ W : World, Sees w W → Calls Try.prog 20 #[.slice A1 xs1.length C1, .int .i64 1048576] W fun e w' => e = .returned (.int .i64 s1) ∧ Below W.heap.size W w') := fun W h => by rw [hs]; exact szPremiseS_any xs1 hm1.out 1048576 A1 C1 W (hl1.sees h) (by omega) (by omega)
  clear hs
  have hsmall : tot Pm.cnt xs1 ≤ 1048576 := by (first | trivial | omega | (refine ⟨?_, ?_⟩ <;> omega))
  have KT0 : Hid (∀ W : World, Sees w W → Calls Try.prog 14 #[.agg #[.int .i64 t0, .int .i64 a0]] W fun e w' => e = .returned (.agg #[.int .i64 t0, .int .i64 a0]) ∧ Below W.heap.size W w') := fun W h => toSig_any t0 a0 W
  have KT1 : Hid (∀ W : World, Sees w W → Calls Try.prog 22 #[.slice A1 xs1.length C1] W fun e w' => ∃ Z, e = .returned (.slice Z xs1.length xs1.length) ∧ PmL w' xs1 Z ∧ Below W.heap.size W w') :=
    fun W h => (toPremiseS_any xs1 (by omega) A1 C1 W (hl1.sees h)).mono fun e w' ⟨Z, he, hs, hb⟩ => ⟨Z, he, hs.lies, hb⟩
  have KE1 : Hid (∀ (W : World) (Z Z' : Option Addr), PmL W xs1 Z → PmL W xs1 Z' → Calls Try.prog 24 #[.slice Z xs1.length xs1.length, .slice Z' xs1.length xs1.length] W fun e w' => e = .returned (.bool true) ∧ Below W.heap.size W w') :=
    fun W Z Z' h1 h2 => eqPremiseS_same xs1 hm1.out _ _ _ _ W h1 h2
  have KW2 := Lib.hid (KW.out hsmall); clear KW
  have KG2 := Lib.hid (KG.out hsmall); clear KG hsmall
  go_enter Try.func5, Try.ntmps5
  go_wp2_with fail
  refine (KS1.out _ ?_).mono ?_
  · unfold Sees; go_grown
  rintro e wz0 ⟨rfl, hb⟩
  have T := St.below (w := w) (l := [(w.heap.size, 0, .int .i64 t0), (w.heap.size, 1, .int .i64 a0)]) ⟨(by unfold Sees; go_grown), (by simp [go_sem]), (by simp [go_sem]), trivial⟩ hb
  have H := Lib.hid T; clear T hb
  obtain ⟨x0, x1, x2, _⟩ := H.out
  go_wp2_with fail
  clear x0 x1 x2
  obtain ⟨x0, x1, x2, _⟩ := H.out
  go_wp2_with fail
  refine (KT0.out _ H.out.1).mono ?_
  rintro e w1 ⟨rfl, hb1⟩
  have T := H.out.below hb1
  clear x0 x1 x2
  clear H
  have H := Lib.hid T; clear T
  obtain ⟨x0, x1, x2, _⟩ := H.out
  go_wp2_with fail
  refine (KT1.out _ H.out.1).mono ?_
  rintro e w2 ⟨Z2, rfl, M2, hb2⟩
  have T := H.out.below hb2
  clear x0 x1 x2
  clear H
  have H := Lib.hid T; clear T
  obtain ⟨x0, x1, x2, _⟩ := H.out
  go_wp2_with fail
  refine (KW2.out _ _ ?_ ).mono ?_
  · (first | exact M2 | exact M2.drew | exact M2.drew.drew)
  rintro e w3 ⟨rfl, hb3⟩
  have T3 := H.out.below hb3
  clear x0 x1 x2
  clear H
  have H := Lib.hid T3
  clear hb3 T3
  obtain ⟨x0, x1, x2, _⟩ := H.out
  go_wp2_with fail
  refine (KT1.out _ H.out.1).mono ?_
  rintro e w4 ⟨Z4, rfl, M4, hb4⟩
  have T := H.out.below hb4
  clear x0 x1 x2
  clear H hb4
  have H := Lib.hid T; clear T
  obtain ⟨x0, x1, x2, _⟩ := H.out
  go_wp2_with fail
  refine (KT0.out _ H.out.1).mono ?_
  rintro e w5 ⟨rfl, hb5⟩
  have T := H.out.below hb5
  clear x0 x1 x2
  clear H
  have H := Lib.hid T; clear T
  obtain ⟨x0, x1, x2, _⟩ := H.out
  go_wp2_with fail
  refine (KG2.out _ _ ?_ ).mono ?_
  · (first | exact M4 | exact M4.drew | exact M4.drew.drew | exact M4.below hb5 | exact M4.dbelow hb5 | exact (M4.below hb5).drew | exact (M4.dbelow hb5).drew)
  rintro e w6 ⟨rfl, hb6⟩
  have T6 := H.out.below hb6
  clear x0 x1 x2
  clear H
  have H := Lib.hid T6
  have G7 : PmL w5 xs1 Z4 := by first | exact M4.below hb5 | exact M4.dbelow hb5
  have G8 : PmL w6 xs1 Z4 := by first | exact G7.below hb6 | exact G7.dbelow hb6
  clear T6 hb5 hb6
  have ne_q0 : (q0 != q0) = false := by simp
  obtain ⟨x0, x1, x2, _⟩ := H.out
  go_wp2_with fail
  refine (KT1.out _ H.out.1).mono ?_
  rintro e w9 ⟨Z9, rfl, M9, hb9⟩
  have T9 := H.out.below hb9
  clear x0 x1 x2
  clear H
  have H := Lib.hid T9
  obtain ⟨x0, x1, x2, _⟩ := H.out
  go_wp2_with fail
  refine (KE1.out _ _ _ ?_ ?_ ).mono ?_
  · (first | exact G8 | exact G8.drew | exact G8.drew.drew | exact G8.below hb9 | exact G8.dbelow hb9 | exact (G8.below hb9).drew | exact (G8.dbelow hb9).drew)
  · (first | exact M9 | exact M9.drew | exact M9.drew.drew)
  rintro e w10 ⟨rfl, hb10⟩
  have T10 := H.out.below hb10
  clear x0 x1 x2
  clear H
  have H := Lib.hid T10
  have G11 : PmL w9 xs1 Z4 := by first | exact G8.below hb9 | exact G8.dbelow hb9
  have G12 : PmL w10 xs1 Z4 := by first | exact G11.below hb10 | exact G11.dbelow hb10
  clear T10 T9 hb9 hb10 M9
  go_wp2_with fail
  go_ret
  exact ⟨rfl, H.out.1⟩

end Go.Proofs.Ytpoikhilhgijoaa
