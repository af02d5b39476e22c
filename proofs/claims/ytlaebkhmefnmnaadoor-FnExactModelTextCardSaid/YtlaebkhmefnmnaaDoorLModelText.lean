/- The law FnExactModelText, walked, out of the contracts of both sides. -/
import Derived.Test.YtlaebkhmefnmnaaDoorSz
import Derived.Test.YtlaebkhmefnmnaaDoorTo
import Derived.Test.YtlaebkhmefnmnaaDoorEq
import Derived.Test.YtlaebkhmefnmnaaDoorMod
import Derived.Deep.RegionHeld3
namespace Go.Proofs.YtlaebkhmefnmnaaDoor
open Go.RowKit

set_option maxHeartbeats 2000000 in
set_option maxRecDepth 100000 in
theorem lawModelText (t0 a0 u0 : Int) (ac0 : List (List Bool)) (nx0 : List (List (List Bool))) (A0 B0 : Option Addr) (C0 D0 : Nat) {q0 : ByteArray}
    (KW : Hid (modN ac0 nx0 ≤ 1048576 → ∀ (W : World) (Z0 Y0 : Option Addr), BB 0 W ac0 Z0 → BBB 0 W nx0 Y0 → Calls Tryd.prog 7 #[.agg #[.int .i64 t0, .int .i64 a0, .int .i64 u0, .slice Z0 ac0.length ac0.length, .slice Y0 nx0.length nx0.length]] W fun e w' => e = .returned (.string q0) ∧ Below W.heap.size W w'))
    (KG : Hid (modN ac0 nx0 ≤ 1048576 → ∀ (W : World) (Z0 Y0 : Option Addr), BB 0 W ac0 Z0 → BBB 0 W nx0 Y0 → Calls Tryd.prog 9 #[.agg #[.int .i64 t0, .int .i64 a0, .int .i64 u0, .slice Z0 ac0.length ac0.length, .slice Y0 nx0.length nx0.length]] W fun e w' => e = .returned (.string q0) ∧ Below W.heap.size W w'))
    (w : World) (hm0 : Hid (FitM ac0 nx0)) (hl0 : BB 0 w ac0 A0) (hr0 : BBB 0 w nx0 B0) :
    Calls Tryd.prog 3 #[.agg #[.int .i64 t0, .int .i64 a0, .int .i64 u0, .slice A0 ac0.length C0, .slice B0 nx0.length D0]] w fun e w' => e = .returned (.bool true) ∧ Below w.heap.size w w' := by
  by_cases hbig0 : 1048576 < ((modN ac0 nx0) : Nat)
  · have hs : szR (modN ac0 nx0) 1048576 = -1 := szR_neg (by omega)
    have KS0 : Hid (∀ W : World, Sees w W → Calls Tryd.prog 6 #[.agg #[.int .i64 t0, .int .i64 a0, .int .i64 u0, .slice A0 ac0.length C0, .slice B0 nx0.length D0], .int .i64 1048576] W fun e w' => e = .returned (.int .i64 (-1)) ∧ Below W.heap.size W w') := fun W h => by rw [← hs]; exact szModel_any t0 a0 u0 ac0 nx0 hm0.out 1048576 A0 B0 C0 D0 W (hl0.sees h) (hr0.sees h) (by omega) (by omega)
    clear hs
    go_enter Tryd.func3, Tryd.ntmps3
    go_wp2_with fail
    refine (KS0.out _ ?_).mono ?_
    · unfold Sees; go_grown
    rintro e wz0 ⟨rfl, hb⟩
    have T := St.below (w := w) (l := [(w.heap.size, 0, .int .i64 t0), (w.heap.size, 1, .int .i64 a0), (w.heap.size, 2, .int .i64 u0), (w.heap.size, 3, .slice A0 ac0.length C0), (w.heap.size, 4, .slice B0 nx0.length D0)]) ⟨(by unfold Sees; go_grown), (by simp [go_sem]), (by simp [go_sem]), (by simp [go_sem]), (by simp [go_sem]), (by simp [go_sem]), trivial⟩ hb
    have H := Lib.hid T; clear T hb
    obtain ⟨x0, x1, x2, x3, x4, x5, _⟩ := H.out
    go_wp2_with fail
    clear x0 x1 x2 x3 x4 x5
    go_ret
    exact ⟨rfl, H.out.1⟩
  obtain ⟨s0, hs, hz0, hy0⟩ : ∃ s : Int, s = szR (modN ac0 nx0) 1048576 ∧ 0 ≤ s ∧ s ≤ 1048576 := ⟨_, rfl, by rw [szR_pos (by omega)]; omega, by rw [szR_pos (by omega)]; omega⟩
  have KS0 : Hid (∀ W : World, Sees w W → Calls Tryd.prog 6 #[.agg #[.int .i64 t0, .int .i64 a0, .int .i64 u0, .slice A0 ac0.length C0, .slice B0 nx0.length D0], .int .i64 1048576] W fun e w' => e = .returned (.int .i64 s0) ∧ Below W.heap.size W w') := fun W h => by rw [hs]; exact szModel_any t0 a0 u0 ac0 nx0 hm0.out 1048576 A0 B0 C0 D0 W (hl0.sees h) (hr0.sees h) (by omega) (by omega)
  clear hs
  have hsmall : modN ac0 nx0 ≤ 1048576 := by (first | trivial | omega | (refine ⟨?_, ?_⟩ <;> omega))
  have KT0 : Hid (∀ W : World, Sees w W → Calls Tryd.prog 8 #[.agg #[.int .i64 t0, .int .i64 a0, .int .i64 u0, .slice A0 ac0.length C0, .slice B0 nx0.length D0]] W fun e w' => ∃ Z Y, e = .returned (.agg #[.int .i64 t0, .int .i64 a0, .int .i64 u0, .slice Z ac0.length ac0.length, .slice Y nx0.length nx0.length]) ∧ BB 0 w' ac0 Z ∧ BBB 0 w' nx0 Y ∧ Below W.heap.size W w') :=
    fun W h => toModel_any t0 a0 u0 ac0 nx0 (modN_small (by omega)) A0 B0 C0 D0 W (hl0.sees h) (hr0.sees h)
  have KE0 : Hid (∀ (W : World) (Z Y Z' Y' : Option Addr), BB 0 W ac0 Z → BBB 0 W nx0 Y → BB 0 W ac0 Z' → BBB 0 W nx0 Y' → Calls Tryd.prog 10 #[.agg #[.int .i64 t0, .int .i64 a0, .int .i64 u0, .slice Z ac0.length ac0.length, .slice Y nx0.length nx0.length], .agg #[.int .i64 t0, .int .i64 a0, .int .i64 u0, .slice Z' ac0.length ac0.length, .slice Y' nx0.length nx0.length]] W fun e w' => e = .returned (.bool true) ∧ Below W.heap.size W w') :=
    fun W Z Y Z' Y' h1 h2 h3 h4 => eqModel_same t0 a0 u0 ac0 nx0 hm0.out _ _ _ _ _ _ _ _ W h1 h2 h3 h4
  have KW2 := Lib.hid (KW.out hsmall); clear KW
  have KG2 := Lib.hid (KG.out hsmall); clear KG hsmall
  go_enter Tryd.func3, Tryd.ntmps3
  go_wp2_with fail
  refine (KS0.out _ ?_).mono ?_
  · unfold Sees; go_grown
  rintro e wz0 ⟨rfl, hb⟩
  have T := St.below (w := w) (l := [(w.heap.size, 0, .int .i64 t0), (w.heap.size, 1, .int .i64 a0), (w.heap.size, 2, .int .i64 u0), (w.heap.size, 3, .slice A0 ac0.length C0), (w.heap.size, 4, .slice B0 nx0.length D0)]) ⟨(by unfold Sees; go_grown), (by simp [go_sem]), (by simp [go_sem]), (by simp [go_sem]), (by simp [go_sem]), (by simp [go_sem]), trivial⟩ hb
  have H := Lib.hid T; clear T hb
  obtain ⟨x0, x1, x2, x3, x4, x5, _⟩ := H.out
  go_wp2_with fail
  clear x0 x1 x2 x3 x4 x5
  obtain ⟨x0, x1, x2, x3, x4, x5, _⟩ := H.out
  go_wp2_with fail
  refine (KT0.out _ H.out.1).mono ?_
  rintro e w1 ⟨Z1, Y1, rfl, M1, N1, hb1⟩
  have T := H.out.below hb1
  clear x0 x1 x2 x3 x4 x5
  clear H
  have H := Lib.hid T; clear T
  obtain ⟨x0, x1, x2, x3, x4, x5, _⟩ := H.out
  go_wp2_with fail
  refine (KW2.out _ _ _ ?_ ?_ ).mono ?_
  · (first | exact M1 | exact M1.drew | exact M1.drew.drew)
  · (first | exact N1 | exact N1.drew | exact N1.drew.drew)
  rintro e w2 ⟨rfl, hb2⟩
  have T2 := H.out.below hb2
  clear x0 x1 x2 x3 x4 x5
  clear H
  have H := Lib.hid T2
  clear hb2 T2
  obtain ⟨x0, x1, x2, x3, x4, x5, _⟩ := H.out
  go_wp2_with fail
  refine (KT0.out _ H.out.1).mono ?_
  rintro e w3 ⟨Z3, Y3, rfl, M3, N3, hb3⟩
  have T := H.out.below hb3
  clear x0 x1 x2 x3 x4 x5
  have T2 : St w [(w3.heap.size, 0, .int .i64 t0), (w3.heap.size, 1, .int .i64 a0), (w3.heap.size, 2, .int .i64 u0), (w3.heap.size, 3, .slice Z3 ac0.length ac0.length), (w3.heap.size, 4, .slice Y3 nx0.length nx0.length), (w.heap.size, 0, .int .i64 t0), (w.heap.size, 1, .int .i64 a0), (w.heap.size, 2, .int .i64 u0), (w.heap.size, 3, .slice A0 ac0.length C0), (w.heap.size, 4, .slice B0 nx0.length D0)] (w3.alloc (.cells #[.int .i64 t0, .int .i64 a0, .int .i64 u0, .slice Z3 ac0.length ac0.length, .slice Y3 nx0.length nx0.length] 32)) := ⟨T.1.alloc _, (by simp [go_sem]), (by simp [go_sem]), (by simp [go_sem]), (by simp [go_sem]), (by simp [go_sem]), T.2.alloc _⟩
  have G4 : BB 0 (w3.alloc (.cells #[.int .i64 t0, .int .i64 a0, .int .i64 u0, .slice Z3 ac0.length ac0.length, .slice Y3 nx0.length nx0.length] 32)) ac0 Z3 := M3.alloc _
  have G5 : BBB 0 (w3.alloc (.cells #[.int .i64 t0, .int .i64 a0, .int .i64 u0, .slice Z3 ac0.length ac0.length, .slice Y3 nx0.length nx0.length] 32)) nx0 Y3 := N3.alloc _
  clear H T hb3 M3 N3
  have H := Lib.hid T2; clear T2
  obtain ⟨x0, x1, x2, x3, x4, x5, x6, x7, x8, x9, x10, _⟩ := H.out
  go_wp2_with fail
  refine (KG2.out _ _ _ ?_ ?_ ).mono ?_
  · (first | exact G4 | exact G4.drew | exact G4.drew.drew)
  · (first | exact G5 | exact G5.drew | exact G5.drew.drew)
  rintro e w6 ⟨rfl, hb6⟩
  have T6 := H.out.below hb6
  clear x0 x1 x2 x3 x4 x5 x6 x7 x8 x9 x10
  clear H
  have H := Lib.hid T6
  have G7 : BB 0 w6 ac0 Z3 := by first | exact G4.below hb6 | exact G4.dbelow hb6
  have G8 : BBB 0 w6 nx0 Y3 := by first | exact G5.below hb6 | exact G5.dbelow hb6
  clear T6 hb6
  have ne_q0 : (q0.toList == q0.toList) = true := by simp
  obtain ⟨x0, x1, x2, x3, x4, x5, x6, x7, x8, x9, x10, _⟩ := H.out
  go_wp2_with fail
  go_region_held3 (fun w' => Sees w w' ∧ w'.cell? ⟨w3.heap.size, 0, none⟩ = some (.int .i64 t0) ∧ w'.cell? ⟨w3.heap.size, 1, none⟩ = some (.int .i64 a0) ∧ w'.cell? ⟨w3.heap.size, 2, none⟩ = some (.int .i64 u0) ∧ w'.cell? ⟨w3.heap.size, 3, none⟩ = some (.slice Z3 ac0.length ac0.length) ∧ w'.cell? ⟨w3.heap.size, 4, none⟩ = some (.slice Y3 nx0.length nx0.length) ∧ w'.cell? ⟨w.heap.size, 0, none⟩ = some (.int .i64 t0) ∧ w'.cell? ⟨w.heap.size, 1, none⟩ = some (.int .i64 a0) ∧ w'.cell? ⟨w.heap.size, 2, none⟩ = some (.int .i64 u0) ∧ w'.cell? ⟨w.heap.size, 3, none⟩ = some (.slice A0 ac0.length C0) ∧ w'.cell? ⟨w.heap.size, 4, none⟩ = some (.slice B0 nx0.length D0) ∧ True)
    (first | exact H.out.drew | exact T10 | exact T9 | (go_keep; done))
    (first | (go_at_call 8; (with_reducible refine (KT0.out _ ?_).mono ?_); exact St.sees (l := [(w3.heap.size, 0, .int .i64 t0), (w3.heap.size, 1, .int .i64 a0), (w3.heap.size, 2, .int .i64 u0), (w3.heap.size, 3, .slice Z3 ac0.length ac0.length), (w3.heap.size, 4, .slice Y3 nx0.length nx0.length), (w.heap.size, 0, .int .i64 t0), (w.heap.size, 1, .int .i64 a0), (w.heap.size, 2, .int .i64 u0), (w.heap.size, 3, .slice A0 ac0.length C0), (w.heap.size, 4, .slice B0 nx0.length D0)]) (by assumption); rintro e w9 ⟨Z9, Y9, rfl, M9, N9, hb9⟩; have T9 := St.below (l := [(w3.heap.size, 0, .int .i64 t0), (w3.heap.size, 1, .int .i64 a0), (w3.heap.size, 2, .int .i64 u0), (w3.heap.size, 3, .slice Z3 ac0.length ac0.length), (w3.heap.size, 4, .slice Y3 nx0.length nx0.length), (w.heap.size, 0, .int .i64 t0), (w.heap.size, 1, .int .i64 a0), (w.heap.size, 2, .int .i64 u0), (w.heap.size, 3, .slice A0 ac0.length C0), (w.heap.size, 4, .slice B0 nx0.length D0)]) (by assumption) hb9) | (go_at_call 10; refine (KE0.out _ _ _ _ _ ?_ ?_ ?_ ?_ ).mono ?_; (first | exact G7 | exact G7.drew | exact G7.drew.drew | exact G7.below hb9 | exact G7.dbelow hb9 | exact (G7.below hb9).drew | exact (G7.dbelow hb9).drew); (first | exact G8 | exact G8.drew | exact G8.drew.drew | exact G8.below hb9 | exact G8.dbelow hb9 | exact (G8.below hb9).drew | exact (G8.dbelow hb9).drew); (first | exact M9 | exact M9.drew | exact M9.drew.drew); (first | exact N9 | exact N9.drew | exact N9.drew.drew); rintro e w10 ⟨rfl, hb10⟩; have T10 := St.below (l := [(w3.heap.size, 0, .int .i64 t0), (w3.heap.size, 1, .int .i64 a0), (w3.heap.size, 2, .int .i64 u0), (w3.heap.size, 3, .slice Z3 ac0.length ac0.length), (w3.heap.size, 4, .slice Y3 nx0.length nx0.length), (w.heap.size, 0, .int .i64 t0), (w.heap.size, 1, .int .i64 a0), (w.heap.size, 2, .int .i64 u0), (w.heap.size, 3, .slice A0 ac0.length C0), (w.heap.size, 4, .slice B0 nx0.length D0)]) (by assumption) hb10))
  clear x0 x1 x2 x3 x4 x5 x6 x7 x8 x9 x10
  clear H
  have H := Lib.hid T10
  have G11 : BB 0 w9 ac0 Z3 := by first | exact G7.below hb9 | exact G7.dbelow hb9
  have G12 : BB 0 w10 ac0 Z3 := by first | exact G11.below hb10 | exact G11.dbelow hb10
  have G13 : BBB 0 w9 nx0 Y3 := by first | exact G8.below hb9 | exact G8.dbelow hb9
  have G14 : BBB 0 w10 nx0 Y3 := by first | exact G13.below hb10 | exact G13.dbelow hb10
  clear T10 T9 hb9 hb10 M9 N9
  go_wp2_with fail
  go_ret
  exact ⟨rfl, H.out.1⟩

end Go.Proofs.YtlaebkhmefnmnaaDoor
