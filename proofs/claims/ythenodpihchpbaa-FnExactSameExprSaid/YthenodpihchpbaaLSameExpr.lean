/- The law FnExactSameExpr, walked, out of the contracts of both sides. -/
import Derived.Test.YthenodpihchpbaaSz
import Derived.Test.YthenodpihchpbaaTo
import Derived.Test.YthenodpihchpbaaEq
import Derived.Deep.RegionHeld3
namespace Go.Proofs.Ythenodpihchpbaa
open Go.RowKit

set_option maxHeartbeats 2000000 in
set_option maxRecDepth 100000 in
theorem lawSameExpr (f0 : Fo) (k0 n0 : Int) (A0 : Option Addr) (C0 : Nat) (f1 : Fo) (k1 n1 : Int) (A1 : Option Addr) (C1 : Nat) {q0 : Bool}
    (KW : Hid (f0.nodes ≤ 1048576 ∧ f1.nodes ≤ 1048576 → ∀ (W : World) (Z0 : Option Addr) (Z1 : Option Addr), f0.Lies W Z0 → f1.Lies W Z1 → Calls Try.prog 23 #[.agg #[.int .i64 k0, .int .i64 n0, .slice Z0 f0.len f0.len], .agg #[.int .i64 k1, .int .i64 n1, .slice Z1 f1.len f1.len]] W fun e w' => e = .returned (.bool q0) ∧ Below W.heap.size W w'))
    (KG : Hid (f0.nodes ≤ 1048576 ∧ f1.nodes ≤ 1048576 → ∀ (W : World) (Z0 : Option Addr) (Z1 : Option Addr), f0.Lies W Z0 → f1.Lies W Z1 → Calls Try.prog 24 #[.agg #[.int .i64 k0, .int .i64 n0, .slice Z0 f0.len f0.len], .agg #[.int .i64 k1, .int .i64 n1, .slice Z1 f1.len f1.len]] W fun e w' => e = .returned (.bool q0) ∧ Below W.heap.size W w'))
    (w : World) (hm0 : Hid (f0.len ≤ 9223372036854775807)) (hf0 : f0.Fits) (hl0 : f0.Lies w A0) (hm1 : Hid (f1.len ≤ 9223372036854775807)) (hf1 : f1.Fits) (hl1 : f1.Lies w A1) :
    Calls Try.prog 6 #[.agg #[.int .i64 k0, .int .i64 n0, .slice A0 f0.len C0], .agg #[.int .i64 k1, .int .i64 n1, .slice A1 f1.len C1]] w fun e w' => e = .returned (.bool true) ∧ Below w.heap.size w w' := by
  by_cases hbig0 : 1048576 < (f0.nodes : Nat)
  · have hs : szR f0.nodes 1048576 = -1 := szR_neg (by omega)
    have KS0 : Hid (∀ W : World, Sees w W → Calls Try.prog 16 #[.agg #[.int .i64 k0, .int .i64 n0, .slice A0 f0.len C0], .int .i64 1048576] W fun e w' => e = .returned (.int .i64 (-1)) ∧ Below W.heap.size W w') := fun W h => by rw [← hs]; exact szExpr_any f0 hm0.out hf0 k0 n0 1048576 A0 C0 W (hl0.sees h) (by omega) (by omega)
    clear hs
    go_enter Try.func6, Try.ntmps6
    go_wp2_with fail
    refine (KS0.out _ ?_).mono ?_
    · unfold Sees; go_grown
    rintro e wz0 ⟨rfl, hb⟩
    have T := St.below (w := w) (l := [(w.heap.size, 0, .int .i64 k0), (w.heap.size, 1, .int .i64 n0), (w.heap.size, 2, .slice A0 f0.len C0), (w.heap.size + 1, 0, .int .i64 k1), (w.heap.size + 1, 1, .int .i64 n1), (w.heap.size + 1, 2, .slice A1 f1.len C1)]) ⟨(by unfold Sees; go_grown), (by simp [go_sem]), (by simp [go_sem]), (by simp [go_sem]), (by simp [go_sem]), (by simp [go_sem]), (by simp [go_sem]), trivial⟩ hb
    have H := Lib.hid T; clear T hb
    obtain ⟨x0, x1, x2, x3, x4, x5, x6, _⟩ := H.out
    go_wp2_with fail
    clear x0 x1 x2 x3 x4 x5 x6
    go_ret
    exact ⟨rfl, H.out.1⟩
  obtain ⟨s0, hs, hz0, hy0⟩ : ∃ s : Int, s = szR f0.nodes 1048576 ∧ 0 ≤ s ∧ s ≤ 1048576 := ⟨_, rfl, by rw [szR_pos (by omega)]; omega, by rw [szR_pos (by omega)]; omega⟩
  have KS0 : Hid (∀ W : World, Sees w W → Calls Try.prog 16 #[.agg #[.int .i64 k0, .int .i64 n0, .slice A0 f0.len C0], .int .i64 1048576] W fun e w' => e = .returned (.int .i64 s0) ∧ Below W.heap.size W w') := fun W h => by rw [hs]; exact szExpr_any f0 hm0.out hf0 k0 n0 1048576 A0 C0 W (hl0.sees h) (by omega) (by omega)
  clear hs
  by_cases hbig1 : s0 < ((f1.nodes : Nat) : Int)
  · have hs : szR f1.nodes s0 = -1 := szR_neg (by omega)
    have KS1 : Hid (∀ W : World, Sees w W → Calls Try.prog 16 #[.agg #[.int .i64 k1, .int .i64 n1, .slice A1 f1.len C1], .int .i64 s0] W fun e w' => e = .returned (.int .i64 (-1)) ∧ Below W.heap.size W w') := fun W h => by rw [← hs]; exact szExpr_any f1 hm1.out hf1 k1 n1 s0 A1 C1 W (hl1.sees h) (by omega) (by omega)
    clear hs
    go_enter Try.func6, Try.ntmps6
    go_wp2_with fail
    refine (KS0.out _ ?_).mono ?_
    · unfold Sees; go_grown
    rintro e wz0 ⟨rfl, hb⟩
    have T := St.below (w := w) (l := [(w.heap.size, 0, .int .i64 k0), (w.heap.size, 1, .int .i64 n0), (w.heap.size, 2, .slice A0 f0.len C0), (w.heap.size + 1, 0, .int .i64 k1), (w.heap.size + 1, 1, .int .i64 n1), (w.heap.size + 1, 2, .slice A1 f1.len C1)]) ⟨(by unfold Sees; go_grown), (by simp [go_sem]), (by simp [go_sem]), (by simp [go_sem]), (by simp [go_sem]), (by simp [go_sem]), (by simp [go_sem]), trivial⟩ hb
    have H := Lib.hid T; clear T hb
    obtain ⟨x0, x1, x2, x3, x4, x5, x6, _⟩ := H.out
    go_wp2_with fail
    clear x0 x1 x2 x3 x4 x5 x6
    refine (KS1.out _ ?_).mono ?_
    · exact H.out.1
    rintro e wz1 ⟨rfl, hb⟩
    have T := H.out.below hb
    clear H
    have H := Lib.hid T; clear T hb
    obtain ⟨x0, x1, x2, x3, x4, x5, x6, _⟩ := H.out
    go_wp2_with fail
    clear x0 x1 x2 x3 x4 x5 x6
    go_ret
    exact ⟨rfl, H.out.1⟩
  obtain ⟨s1, hs, hz1, hy1⟩ : ∃ s : Int, s = szR f1.nodes s0 ∧ 0 ≤ s ∧ s ≤ 1048576 := ⟨_, rfl, by rw [szR_pos (by omega)]; omega, by rw [szR_pos (by omega)]; omega⟩
  have KS1 : Hid (∀ W : World, Sees w W → Calls Try.prog 16 #[.agg #[.int .i64 k1, .int .i64 n1, .slice A1 f1.len C1], .int .i64 s0] W fun e w' => e = .returned (.int .i64 s1) ∧ Below W.heap.size W w') := fun W h => by rw [hs]; exact szExpr_any f1 hm1.out hf1 k1 n1 s0 A1 C1 W (hl1.sees h) (by omega) (by omega)
  clear hs
  have hsmall : f0.nodes ≤ 1048576 ∧ f1.nodes ≤ 1048576 := by (first | trivial | omega | (refine ⟨?_, ?_⟩ <;> omega))
  have KT0 : Hid (∀ W : World, Sees w W → Calls Try.prog 18 #[.agg #[.int .i64 k0, .int .i64 n0, .slice A0 f0.len C0]] W fun e w' => ∃ Z, e = .returned (.agg #[.int .i64 k0, .int .i64 n0, .slice Z f0.len f0.len]) ∧ f0.Lies w' Z ∧ Below W.heap.size W w') :=
    fun W h => (toExpr_any f0 (by omega) k0 n0 A0 C0 W (hl0.sees h)).mono fun e w' ⟨Z, he, hs, hb⟩ => ⟨Z, he, hs.lies, hb⟩
  have KE0 : Hid (∀ (W : World) (Z Z' : Option Addr), f0.Lies W Z → f0.Lies W Z' → Calls Try.prog 20 #[.agg #[.int .i64 k0, .int .i64 n0, .slice Z f0.len f0.len], .agg #[.int .i64 k0, .int .i64 n0, .slice Z' f0.len f0.len]] W fun e w' => e = .returned (.bool true) ∧ Below W.heap.size W w') :=
    fun W Z Z' h h' => eqExpr_same f0 hm0.out hf0 k0 n0 _ _ _ _ W h h'
  have KT1 : Hid (∀ W : World, Sees w W → Calls Try.prog 18 #[.agg #[.int .i64 k1, .int .i64 n1, .slice A1 f1.len C1]] W fun e w' => ∃ Z, e = .returned (.agg #[.int .i64 k1, .int .i64 n1, .slice Z f1.len f1.len]) ∧ f1.Lies w' Z ∧ Below W.heap.size W w') :=
    fun W h => (toExpr_any f1 (by omega) k1 n1 A1 C1 W (hl1.sees h)).mono fun e w' ⟨Z, he, hs, hb⟩ => ⟨Z, he, hs.lies, hb⟩
  have KE1 : Hid (∀ (W : World) (Z Z' : Option Addr), f1.Lies W Z → f1.Lies W Z' → Calls Try.prog 20 #[.agg #[.int .i64 k1, .int .i64 n1, .slice Z f1.len f1.len], .agg #[.int .i64 k1, .int .i64 n1, .slice Z' f1.len f1.len]] W fun e w' => e = .returned (.bool true) ∧ Below W.heap.size W w') :=
    fun W Z Z' h h' => eqExpr_same f1 hm1.out hf1 k1 n1 _ _ _ _ W h h'
  have KW2 := Lib.hid (KW.out hsmall); clear KW
  have KG2 := Lib.hid (KG.out hsmall); clear KG hsmall
  go_enter Try.func6, Try.ntmps6
  go_wp2_with fail
  refine (KS0.out _ ?_).mono ?_
  · unfold Sees; go_grown
  rintro e wz0 ⟨rfl, hb⟩
  have T := St.below (w := w) (l := [(w.heap.size, 0, .int .i64 k0), (w.heap.size, 1, .int .i64 n0), (w.heap.size, 2, .slice A0 f0.len C0), (w.heap.size + 1, 0, .int .i64 k1), (w.heap.size + 1, 1, .int .i64 n1), (w.heap.size + 1, 2, .slice A1 f1.len C1)]) ⟨(by unfold Sees; go_grown), (by simp [go_sem]), (by simp [go_sem]), (by simp [go_sem]), (by simp [go_sem]), (by simp [go_sem]), (by simp [go_sem]), trivial⟩ hb
  have H := Lib.hid T; clear T hb
  obtain ⟨x0, x1, x2, x3, x4, x5, x6, _⟩ := H.out
  go_wp2_with fail
  clear x0 x1 x2 x3 x4 x5 x6
  refine (KS1.out _ ?_).mono ?_
  · exact H.out.1
  rintro e wz1 ⟨rfl, hb⟩
  have T := H.out.below hb
  clear H
  have H := Lib.hid T; clear T hb
  obtain ⟨x0, x1, x2, x3, x4, x5, x6, _⟩ := H.out
  go_wp2_with fail
  clear x0 x1 x2 x3 x4 x5 x6
  obtain ⟨x0, x1, x2, x3, x4, x5, x6, _⟩ := H.out
  go_wp2_with fail
  go_region_held3 (fun w' => Sees w w' ∧ w'.cell? ⟨w.heap.size, 0, none⟩ = some (.int .i64 k0) ∧ w'.cell? ⟨w.heap.size, 1, none⟩ = some (.int .i64 n0) ∧ w'.cell? ⟨w.heap.size, 2, none⟩ = some (.slice A0 f0.len C0) ∧ w'.cell? ⟨w.heap.size + 1, 0, none⟩ = some (.int .i64 k1) ∧ w'.cell? ⟨w.heap.size + 1, 1, none⟩ = some (.int .i64 n1) ∧ w'.cell? ⟨w.heap.size + 1, 2, none⟩ = some (.slice A1 f1.len C1) ∧ True)
    (first | exact H.out.drew | exact T3 | exact T2 | exact T1 | (go_keep; done))
    (first | (go_at_call 18; (with_reducible refine (KT0.out _ ?_).mono ?_); exact St.sees (l := [(w.heap.size, 0, .int .i64 k0), (w.heap.size, 1, .int .i64 n0), (w.heap.size, 2, .slice A0 f0.len C0), (w.heap.size + 1, 0, .int .i64 k1), (w.heap.size + 1, 1, .int .i64 n1), (w.heap.size + 1, 2, .slice A1 f1.len C1)]) (by assumption); rintro e w1 ⟨Z1, rfl, M1, hb1⟩; have T1 := St.below (l := [(w.heap.size, 0, .int .i64 k0), (w.heap.size, 1, .int .i64 n0), (w.heap.size, 2, .slice A0 f0.len C0), (w.heap.size + 1, 0, .int .i64 k1), (w.heap.size + 1, 1, .int .i64 n1), (w.heap.size + 1, 2, .slice A1 f1.len C1)]) (by assumption) hb1) | (go_at_call 18; (with_reducible refine (KT1.out _ ?_).mono ?_); exact St.sees (l := [(w.heap.size, 0, .int .i64 k0), (w.heap.size, 1, .int .i64 n0), (w.heap.size, 2, .slice A0 f0.len C0), (w.heap.size + 1, 0, .int .i64 k1), (w.heap.size + 1, 1, .int .i64 n1), (w.heap.size + 1, 2, .slice A1 f1.len C1)]) (by assumption); rintro e w2 ⟨Z2, rfl, M2, hb2⟩; have T2 := St.below (l := [(w.heap.size, 0, .int .i64 k0), (w.heap.size, 1, .int .i64 n0), (w.heap.size, 2, .slice A0 f0.len C0), (w.heap.size + 1, 0, .int .i64 k1), (w.heap.size + 1, 1, .int .i64 n1), (w.heap.size + 1, 2, .slice A1 f1.len C1)]) (by assumption) hb2) | (go_at_call 23; refine (KW2.out _ _ _ ?_ ?_ ).mono ?_; (first | exact M1 | exact M1.drew | exact M1.drew.drew | exact M1.below hb2 | exact M1.dbelow hb2 | exact (M1.below hb2).drew | exact (M1.dbelow hb2).drew); (first | exact M2 | exact M2.drew | exact M2.drew.drew); rintro e w3 ⟨rfl, hb3⟩; have T3 := St.below (l := [(w.heap.size, 0, .int .i64 k0), (w.heap.size, 1, .int .i64 n0), (w.heap.size, 2, .slice A0 f0.len C0), (w.heap.size + 1, 0, .int .i64 k1), (w.heap.size + 1, 1, .int .i64 n1), (w.heap.size + 1, 2, .slice A1 f1.len C1)]) (by assumption) hb3))
  clear x0 x1 x2 x3 x4 x5 x6
  clear H
  have H := Lib.hid T3
  clear hb3 T3
  obtain ⟨x0, x1, x2, x3, x4, x5, x6, _⟩ := H.out
  go_wp2_with fail
  refine (KT0.out _ H.out.1).mono ?_
  rintro e w4 ⟨Z4, rfl, M4, hb4⟩
  have T := H.out.below hb4
  clear x0 x1 x2 x3 x4 x5 x6
  have T2 : St w [(w4.heap.size, 0, .int .i64 k0), (w4.heap.size, 1, .int .i64 n0), (w4.heap.size, 2, .slice Z4 f0.len f0.len), (w.heap.size, 0, .int .i64 k0), (w.heap.size, 1, .int .i64 n0), (w.heap.size, 2, .slice A0 f0.len C0), (w.heap.size + 1, 0, .int .i64 k1), (w.heap.size + 1, 1, .int .i64 n1), (w.heap.size + 1, 2, .slice A1 f1.len C1)] (w4.alloc (.cells #[.int .i64 k0, .int .i64 n0, .slice Z4 f0.len f0.len] 35)) := ⟨T.1.alloc _, (by simp [go_sem]), (by simp [go_sem]), (by simp [go_sem]), T.2.alloc _⟩
  have G5 : f0.Lies (w4.alloc (.cells #[.int .i64 k0, .int .i64 n0, .slice Z4 f0.len f0.len] 35)) Z4 := M4.alloc _
  clear H T hb4 M4
  have H := Lib.hid T2; clear T2
  obtain ⟨x0, x1, x2, x3, x4, x5, x6, x7, x8, x9, _⟩ := H.out
  go_wp2_with fail
  refine (KT1.out _ H.out.1).mono ?_
  rintro e w6 ⟨Z6, rfl, M6, hb6⟩
  have T := H.out.below hb6
  clear x0 x1 x2 x3 x4 x5 x6 x7 x8 x9
  have T2 : St w [(w6.heap.size, 0, .int .i64 k1), (w6.heap.size, 1, .int .i64 n1), (w6.heap.size, 2, .slice Z6 f1.len f1.len), (w4.heap.size, 0, .int .i64 k0), (w4.heap.size, 1, .int .i64 n0), (w4.heap.size, 2, .slice Z4 f0.len f0.len), (w.heap.size, 0, .int .i64 k0), (w.heap.size, 1, .int .i64 n0), (w.heap.size, 2, .slice A0 f0.len C0), (w.heap.size + 1, 0, .int .i64 k1), (w.heap.size + 1, 1, .int .i64 n1), (w.heap.size + 1, 2, .slice A1 f1.len C1)] (w6.alloc (.cells #[.int .i64 k1, .int .i64 n1, .slice Z6 f1.len f1.len] 35)) := ⟨T.1.alloc _, (by simp [go_sem]), (by simp [go_sem]), (by simp [go_sem]), T.2.alloc _⟩
  have G7 : f1.Lies (w6.alloc (.cells #[.int .i64 k1, .int .i64 n1, .slice Z6 f1.len f1.len] 35)) Z6 := M6.alloc _
  have G8 : f0.Lies w6 Z4 := by first | exact G5.below hb6 | exact G5.dbelow hb6
  have G9 : f0.Lies (w6.alloc (.cells #[.int .i64 k1, .int .i64 n1, .slice Z6 f1.len f1.len] 35)) Z4 := G8.alloc _
  clear H T hb6 M6
  have H := Lib.hid T2; clear T2
  obtain ⟨x0, x1, x2, x3, x4, x5, x6, x7, x8, x9, x10, x11, x12, _⟩ := H.out
  go_wp2_with fail
  refine (KG2.out _ _ _ ?_ ?_ ).mono ?_
  · (first | exact G9 | exact G9.drew | exact G9.drew.drew)
  · (first | exact G7 | exact G7.drew | exact G7.drew.drew)
  rintro e w10 ⟨rfl, hb10⟩
  have T10 := H.out.below hb10
  clear x0 x1 x2 x3 x4 x5 x6 x7 x8 x9 x10 x11 x12
  clear H
  have H := Lib.hid T10
  have G11 : f0.Lies w10 Z4 := by first | exact G9.below hb10 | exact G9.dbelow hb10
  have G12 : f1.Lies w10 Z6 := by first | exact G7.below hb10 | exact G7.dbelow hb10
  clear T10 hb10
  have ne_q0 : (q0 != q0) = false := by simp
  obtain ⟨x0, x1, x2, x3, x4, x5, x6, x7, x8, x9, x10, x11, x12, _⟩ := H.out
  go_wp2_with fail
  go_region_held3 (fun w' => Sees w w' ∧ w'.cell? ⟨w6.heap.size, 0, none⟩ = some (.int .i64 k1) ∧ w'.cell? ⟨w6.heap.size, 1, none⟩ = some (.int .i64 n1) ∧ w'.cell? ⟨w6.heap.size, 2, none⟩ = some (.slice Z6 f1.len f1.len) ∧ w'.cell? ⟨w4.heap.size, 0, none⟩ = some (.int .i64 k0) ∧ w'.cell? ⟨w4.heap.size, 1, none⟩ = some (.int .i64 n0) ∧ w'.cell? ⟨w4.heap.size, 2, none⟩ = some (.slice Z4 f0.len f0.len) ∧ w'.cell? ⟨w.heap.size, 0, none⟩ = some (.int .i64 k0) ∧ w'.cell? ⟨w.heap.size, 1, none⟩ = some (.int .i64 n0) ∧ w'.cell? ⟨w.heap.size, 2, none⟩ = some (.slice A0 f0.len C0) ∧ w'.cell? ⟨w.heap.size + 1, 0, none⟩ = some (.int .i64 k1) ∧ w'.cell? ⟨w.heap.size + 1, 1, none⟩ = some (.int .i64 n1) ∧ w'.cell? ⟨w.heap.size + 1, 2, none⟩ = some (.slice A1 f1.len C1) ∧ True)
    (first | exact H.out.drew | exact T14 | exact T13 | (go_keep; done))
    (first | (go_at_call 18; (with_reducible refine (KT0.out _ ?_).mono ?_); exact St.sees (l := [(w6.heap.size, 0, .int .i64 k1), (w6.heap.size, 1, .int .i64 n1), (w6.heap.size, 2, .slice Z6 f1.len f1.len), (w4.heap.size, 0, .int .i64 k0), (w4.heap.size, 1, .int .i64 n0), (w4.heap.size, 2, .slice Z4 f0.len f0.len), (w.heap.size, 0, .int .i64 k0), (w.heap.size, 1, .int .i64 n0), (w.heap.size, 2, .slice A0 f0.len C0), (w.heap.size + 1, 0, .int .i64 k1), (w.heap.size + 1, 1, .int .i64 n1), (w.heap.size + 1, 2, .slice A1 f1.len C1)]) (by assumption); rintro e w13 ⟨Z13, rfl, M13, hb13⟩; have T13 := St.below (l := [(w6.heap.size, 0, .int .i64 k1), (w6.heap.size, 1, .int .i64 n1), (w6.heap.size, 2, .slice Z6 f1.len f1.len), (w4.heap.size, 0, .int .i64 k0), (w4.heap.size, 1, .int .i64 n0), (w4.heap.size, 2, .slice Z4 f0.len f0.len), (w.heap.size, 0, .int .i64 k0), (w.heap.size, 1, .int .i64 n0), (w.heap.size, 2, .slice A0 f0.len C0), (w.heap.size + 1, 0, .int .i64 k1), (w.heap.size + 1, 1, .int .i64 n1), (w.heap.size + 1, 2, .slice A1 f1.len C1)]) (by assumption) hb13) | (go_at_call 20; refine (KE0.out _ _ _ ?_ ?_ ).mono ?_; (first | exact G11 | exact G11.drew | exact G11.drew.drew | exact G11.below hb13 | exact G11.dbelow hb13 | exact (G11.below hb13).drew | exact (G11.dbelow hb13).drew); (first | exact M13 | exact M13.drew | exact M13.drew.drew); rintro e w14 ⟨rfl, hb14⟩; have T14 := St.below (l := [(w6.heap.size, 0, .int .i64 k1), (w6.heap.size, 1, .int .i64 n1), (w6.heap.size, 2, .slice Z6 f1.len f1.len), (w4.heap.size, 0, .int .i64 k0), (w4.heap.size, 1, .int .i64 n0), (w4.heap.size, 2, .slice Z4 f0.len f0.len), (w.heap.size, 0, .int .i64 k0), (w.heap.size, 1, .int .i64 n0), (w.heap.size, 2, .slice A0 f0.len C0), (w.heap.size + 1, 0, .int .i64 k1), (w.heap.size + 1, 1, .int .i64 n1), (w.heap.size + 1, 2, .slice A1 f1.len C1)]) (by assumption) hb14))
  clear x0 x1 x2 x3 x4 x5 x6 x7 x8 x9 x10 x11 x12
  clear H
  have H := Lib.hid T14
  have G15 : f0.Lies w13 Z4 := by first | exact G11.below hb13 | exact G11.dbelow hb13
  have G16 : f0.Lies w14 Z4 := by first | exact G15.below hb14 | exact G15.dbelow hb14
  have G17 : f1.Lies w13 Z6 := by first | exact G12.below hb13 | exact G12.dbelow hb13
  have G18 : f1.Lies w14 Z6 := by first | exact G17.below hb14 | exact G17.dbelow hb14
  clear T14 T13 hb13 hb14 M13
  obtain ⟨x0, x1, x2, x3, x4, x5, x6, x7, x8, x9, x10, x11, x12, _⟩ := H.out
  go_wp2_with fail
  go_region_held3 (fun w' => Sees w w' ∧ w'.cell? ⟨w6.heap.size, 0, none⟩ = some (.int .i64 k1) ∧ w'.cell? ⟨w6.heap.size, 1, none⟩ = some (.int .i64 n1) ∧ w'.cell? ⟨w6.heap.size, 2, none⟩ = some (.slice Z6 f1.len f1.len) ∧ w'.cell? ⟨w4.heap.size, 0, none⟩ = some (.int .i64 k0) ∧ w'.cell? ⟨w4.heap.size, 1, none⟩ = some (.int .i64 n0) ∧ w'.cell? ⟨w4.heap.size, 2, none⟩ = some (.slice Z4 f0.len f0.len) ∧ w'.cell? ⟨w.heap.size, 0, none⟩ = some (.int .i64 k0) ∧ w'.cell? ⟨w.heap.size, 1, none⟩ = some (.int .i64 n0) ∧ w'.cell? ⟨w.heap.size, 2, none⟩ = some (.slice A0 f0.len C0) ∧ w'.cell? ⟨w.heap.size + 1, 0, none⟩ = some (.int .i64 k1) ∧ w'.cell? ⟨w.heap.size + 1, 1, none⟩ = some (.int .i64 n1) ∧ w'.cell? ⟨w.heap.size + 1, 2, none⟩ = some (.slice A1 f1.len C1) ∧ True)
    (first | exact H.out.drew | exact T20 | exact T19 | (go_keep; done))
    (first | (go_at_call 18; (with_reducible refine (KT1.out _ ?_).mono ?_); exact St.sees (l := [(w6.heap.size, 0, .int .i64 k1), (w6.heap.size, 1, .int .i64 n1), (w6.heap.size, 2, .slice Z6 f1.len f1.len), (w4.heap.size, 0, .int .i64 k0), (w4.heap.size, 1, .int .i64 n0), (w4.heap.size, 2, .slice Z4 f0.len f0.len), (w.heap.size, 0, .int .i64 k0), (w.heap.size, 1, .int .i64 n0), (w.heap.size, 2, .slice A0 f0.len C0), (w.heap.size + 1, 0, .int .i64 k1), (w.heap.size + 1, 1, .int .i64 n1), (w.heap.size + 1, 2, .slice A1 f1.len C1)]) (by assumption); rintro e w19 ⟨Z19, rfl, M19, hb19⟩; have T19 := St.below (l := [(w6.heap.size, 0, .int .i64 k1), (w6.heap.size, 1, .int .i64 n1), (w6.heap.size, 2, .slice Z6 f1.len f1.len), (w4.heap.size, 0, .int .i64 k0), (w4.heap.size, 1, .int .i64 n0), (w4.heap.size, 2, .slice Z4 f0.len f0.len), (w.heap.size, 0, .int .i64 k0), (w.heap.size, 1, .int .i64 n0), (w.heap.size, 2, .slice A0 f0.len C0), (w.heap.size + 1, 0, .int .i64 k1), (w.heap.size + 1, 1, .int .i64 n1), (w.heap.size + 1, 2, .slice A1 f1.len C1)]) (by assumption) hb19) | (go_at_call 20; refine (KE1.out _ _ _ ?_ ?_ ).mono ?_; (first | exact G18 | exact G18.drew | exact G18.drew.drew | exact G18.below hb19 | exact G18.dbelow hb19 | exact (G18.below hb19).drew | exact (G18.dbelow hb19).drew); (first | exact M19 | exact M19.drew | exact M19.drew.drew); rintro e w20 ⟨rfl, hb20⟩; have T20 := St.below (l := [(w6.heap.size, 0, .int .i64 k1), (w6.heap.size, 1, .int .i64 n1), (w6.heap.size, 2, .slice Z6 f1.len f1.len), (w4.heap.size, 0, .int .i64 k0), (w4.heap.size, 1, .int .i64 n0), (w4.heap.size, 2, .slice Z4 f0.len f0.len), (w.heap.size, 0, .int .i64 k0), (w.heap.size, 1, .int .i64 n0), (w.heap.size, 2, .slice A0 f0.len C0), (w.heap.size + 1, 0, .int .i64 k1), (w.heap.size + 1, 1, .int .i64 n1), (w.heap.size + 1, 2, .slice A1 f1.len C1)]) (by assumption) hb20))
  clear x0 x1 x2 x3 x4 x5 x6 x7 x8 x9 x10 x11 x12
  clear H
  have H := Lib.hid T20
  have G21 : f0.Lies w19 Z4 := by first | exact G16.below hb19 | exact G16.dbelow hb19
  have G22 : f0.Lies w20 Z4 := by first | exact G21.below hb20 | exact G21.dbelow hb20
  have G23 : f1.Lies w19 Z6 := by first | exact G18.below hb19 | exact G18.dbelow hb19
  have G24 : f1.Lies w20 Z6 := by first | exact G23.below hb20 | exact G23.dbelow hb20
  clear T20 T19 hb19 hb20 M19
  go_wp2_with fail
  go_ret
  exact ⟨rfl, H.out.1⟩

end Go.Proofs.Ythenodpihchpbaa
