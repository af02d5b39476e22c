/- The law FnExactImplies, walked, out of the contracts of both sides. -/
import Derived.Test.YtpoikhilhgijoaaSz
import Derived.Test.YtpoikhilhgijoaaTo
import Derived.Test.YtpoikhilhgijoaaEq
import Derived.Deep.RegionHeld3
namespace Go.Proofs.Ytpoikhilhgijoaa
open Go.RowKit

set_option maxHeartbeats 2000000 in
set_option maxRecDepth 100000 in
theorem lawImplies (t0 a0 : Int) (f1 : Fo) (k1 n1 : Int) (A1 : Option Addr) (C1 : Nat) (f2 : Fo) (k2 n2 : Int) (A2 : Option Addr) (C2 : Nat) {q0 : Bool} {q1 : Int}
    (KW : Hid (f1.nodes ≤ 1048576 ∧ f2.nodes ≤ 1048576 → ∀ (W : World) (Z1 : Option Addr) (Z2 : Option Addr), f1.Lies W Z1 → f2.Lies W Z2 → Calls Try.prog 30 #[.agg #[.int .i64 t0, .int .i64 a0], .agg #[.int .i64 k1, .int .i64 n1, .slice Z1 f1.len f1.len], .agg #[.int .i64 k2, .int .i64 n2, .slice Z2 f2.len f2.len]] W fun e w' => e = .returned (.tuple #[.bool q0, .int .i64 q1]) ∧ Below W.heap.size W w'))
    (KG : Hid (f1.nodes ≤ 1048576 ∧ f2.nodes ≤ 1048576 → ∀ (W : World) (Z1 : Option Addr) (Z2 : Option Addr), f1.Lies W Z1 → f2.Lies W Z2 → Calls Try.prog 31 #[.agg #[.int .i64 t0, .int .i64 a0], .agg #[.int .i64 k1, .int .i64 n1, .slice Z1 f1.len f1.len], .agg #[.int .i64 k2, .int .i64 n2, .slice Z2 f2.len f2.len]] W fun e w' => e = .returned (.tuple #[.bool q0, .int .i64 q1]) ∧ Below W.heap.size W w'))
    (w : World) (hm1 : Hid (f1.len ≤ 9223372036854775807)) (hf1 : f1.Fits) (hl1 : f1.Lies w A1) (hm2 : Hid (f2.len ≤ 9223372036854775807)) (hf2 : f2.Fits) (hl2 : f2.Lies w A2) :
    Calls Try.prog 7 #[.agg #[.int .i64 t0, .int .i64 a0], .agg #[.int .i64 k1, .int .i64 n1, .slice A1 f1.len C1], .agg #[.int .i64 k2, .int .i64 n2, .slice A2 f2.len C2]] w fun e w' => e = .returned (.bool true) ∧ Below w.heap.size w w' := by
  by_cases hbig1 : 1048576 < (f1.nodes : Nat)
  · have hs : szR f1.nodes 1048576 = -1 := szR_neg (by omega)
    have KS1 : Hid (∀ W : World, Sees w W → Calls Try.prog 12 #[.agg #[.int .i64 k1, .int .i64 n1, .slice A1 f1.len C1], .int .i64 1048576] W fun e w' => e = .returned (.int .i64 (-1)) ∧ Below W.heap.size W w') := fun W h => by rw [← hs]; exact szExpr_any f1 hm1.out hf1 k1 n1 1048576 A1 C1 W (hl1.sees h) (by omega) (by omega)
    clear hs
    go_enter Try.func7, Try.ntmps7
    go_wp2_with fail
    refine (KS1.out _ ?_).mono ?_
    · unfold Sees; go_grown
    rintro e wz0 ⟨rfl, hb⟩
    have T := St.below (w := w) (l := [(w.heap.size, 0, .int .i64 t0), (w.heap.size, 1, .int .i64 a0), (w.heap.size + 1, 0, .int .i64 k1), (w.heap.size + 1, 1, .int .i64 n1), (w.heap.size + 1, 2, .slice A1 f1.len C1), (w.heap.size + 2, 0, .int .i64 k2), (w.heap.size + 2, 1, .int .i64 n2), (w.heap.size + 2, 2, .slice A2 f2.len C2)]) ⟨(by unfold Sees; go_grown), (by simp [go_sem]), (by simp [go_sem]), (by simp [go_sem]), (by simp [go_sem]), (by simp [go_sem]), (by simp [go_sem]), (by simp [go_sem]), (by simp [go_sem]), trivial⟩ hb
    have H := Lib.hid T; clear T hb
    obtain ⟨x0, x1, x2, x3, x4, x5, x6, x7, x8, _⟩ := H.out
    go_wp2_with fail
    clear x0 x1 x2 x3 x4 x5 x6 x7 x8
    go_ret
    exact ⟨rfl, H.out.1⟩
  obtain ⟨s1, hs, hz1, hy1⟩ : ∃ s : Int, s = szR f1.nodes 1048576 ∧ 0 ≤ s ∧ s ≤ 1048576 := ⟨_, rfl, by rw [szR_pos (by omega)]; omega, by rw [szR_pos (by omega)]; omega⟩
  have KS1 : Hid (∀ W : World, Sees w W → Calls Try.prog 12 #[.agg #[.int .i64 k1, .int .i64 n1, .slice A1 f1.len C1], .int .i64 1048576] W fun e w' => e = .returned (.int .i64 s1) ∧ Below W.heap.size W w') := fun W h => by rw [hs]; exact szExpr_any f1 hm1.out hf1 k1 n1 1048576 A1 C1 W (hl1.sees h) (by omega) (by omega)
  clear hs
  by_cases hbig2 : s1 < ((f2.nodes : Nat) : Int)
  · have hs : szR f2.nodes s1 = -1 := szR_neg (by omega)
    have KS2 : Hid (∀ W : World, Sees w W → Calls Try.prog 12 #[.agg #[.int .i64 k2, .int .i64 n2, .slice A2 f2.len C2], .int .i64 s1] W fun e w' => e = .returned (.int .i64 (-1)) ∧ Below W.heap.size W w') := fun W h => by rw [← hs]; exact szExpr_any f2 hm2.out hf2 k2 n2 s1 A2 C2 W (hl2.sees h) (by omega) (by omega)
    clear hs
    go_enter Try.func7, Try.ntmps7
    go_wp2_with fail
    refine (KS1.out _ ?_).mono ?_
    · unfold Sees; go_grown
    rintro e wz0 ⟨rfl, hb⟩
    have T := St.below (w := w) (l := [(w.heap.size, 0, .int .i64 t0), (w.heap.size, 1, .int .i64 a0), (w.heap.size + 1, 0, .int .i64 k1), (w.heap.size + 1, 1, .int .i64 n1), (w.heap.size + 1, 2, .slice A1 f1.len C1), (w.heap.size + 2, 0, .int .i64 k2), (w.heap.size + 2, 1, .int .i64 n2), (w.heap.size + 2, 2, .slice A2 f2.len C2)]) ⟨(by unfold Sees; go_grown), (by simp [go_sem]), (by simp [go_sem]), (by simp [go_sem]), (by simp [go_sem]), (by simp [go_sem]), (by simp [go_sem]), (by simp [go_sem]), (by simp [go_sem]), trivial⟩ hb
    have H := Lib.hid T; clear T hb
    obtain ⟨x0, x1, x2, x3, x4, x5, x6, x7, x8, _⟩ := H.out
    go_wp2_with fail
    clear x0 x1 x2 x3 x4 x5 x6 x7 x8
    refine (KS2.out _ ?_).mono ?_
    · exact H.out.1
    rintro e wz1 ⟨rfl, hb⟩
    have T := H.out.below hb
    clear H
    have H := Lib.hid T; clear T hb
    obtain ⟨x0, x1, x2, x3, x4, x5, x6, x7, x8, _⟩ := H.out
    go_wp2_with fail
    clear x0 x1 x2 x3 x4 x5 x6 x7 x8
    go_ret
    exact ⟨rfl, H.out.1⟩
  obtain ⟨s2, hs, hz2, hy2⟩ : ∃ s : Int, s = szR f2.nodes s1 ∧ 0 ≤ s ∧ s ≤ 1048576 := ⟨_, rfl, by rw [szR_pos (by omega)]; omega, by rw [szR_pos (by omega)]; omega⟩
  have KS2 : Hid (∀ W : World, Sees w W → Calls Try.prog 12 #[.agg #[.int .i64 k2, .int .i64 n2, .slice A2 f2.len C2], .int .i64 s1] W fun e w' => e = .returned (.int .i64 s2) ∧ Below W.heap.size W w') := fun W h => by rw [hs]; exact szExpr_any f2 hm2.out hf2 k2 n2 s1 A2 C2 W (hl2.sees h) (by omega) (by omega)
  clear hs
  have hsmall : f1.nodes ≤ 1048576 ∧ f2.nodes ≤ 1048576 := by (first | trivial | omega | (refine ⟨?_, ?_⟩ <;> omega))
  have KT0 : Hid (∀ W : World, Sees w W → Calls Try.prog 14 #[.agg #[.int .i64 t0, .int .i64 a0]] W fun e w' => e = .returned (.agg #[.int .i64 t0, .int .i64 a0]) ∧ Below W.heap.size W w') := fun W h => toSig_any t0 a0 W
  have KT1 : Hid (∀ W : World, Sees w W → Calls Try.prog 15 #[.agg #[.int .i64 k1, .int .i64 n1, .slice A1 f1.len C1]] W fun e w' => ∃ Z, e = .returned (.agg #[.int .i64 k1, .int .i64 n1, .slice Z f1.len f1.len]) ∧ f1.Lies w' Z ∧ Below W.heap.size W w') :=
    fun W h => (toExpr_any f1 (by omega) k1 n1 A1 C1 W (hl1.sees h)).mono fun e w' ⟨Z, he, hs, hb⟩ => ⟨Z, he, hs.lies, hb⟩
  have KE1 : Hid (∀ (W : World) (Z Z' : Option Addr), f1.Lies W Z → f1.Lies W Z' → Calls Try.prog 17 #[.agg #[.int .i64 k1, .int .i64 n1, .slice Z f1.len f1.len], .agg #[.int .i64 k1, .int .i64 n1, .slice Z' f1.len f1.len]] W fun e w' => e = .returned (.bool true) ∧ Below W.heap.size W w') :=
    fun W Z Z' h h' => eqExpr_same f1 hm1.out hf1 k1 n1 _ _ _ _ W h h'
  have KT2 : Hid (∀ W : World, Sees w W → Calls Try.prog 15 #[.agg #[.int .i64 k2, .int .i64 n2, .slice A2 f2.len C2]] W fun e w' => ∃ Z, e = .returned (.agg #[.int .i64 k2, .int .i64 n2, .slice Z f2.len f2.len]) ∧ f2.Lies w' Z ∧ Below W.heap.size W w') :=
    fun W h => (toExpr_any f2 (by omega) k2 n2 A2 C2 W (hl2.sees h)).mono fun e w' ⟨Z, he, hs, hb⟩ => ⟨Z, he, hs.lies, hb⟩
  have KE2 : Hid (∀ (W : World) (Z Z' : Option Addr), f2.Lies W Z → f2.Lies W Z' → Calls Try.prog 17 #[.agg #[.int .i64 k2, .int .i64 n2, .slice Z f2.len f2.len], .agg #[.int .i64 k2, .int .i64 n2, .slice Z' f2.len f2.len]] W fun e w' => e = .returned (.bool true) ∧ Below W.heap.size W w') :=
    fun W Z Z' h h' => eqExpr_same f2 hm2.out hf2 k2 n2 _ _ _ _ W h h'
  have KW2 := Lib.hid (KW.out hsmall); clear KW
  have KG2 := Lib.hid (KG.out hsmall); clear KG hsmall
  go_enter Try.func7, Try.ntmps7
  go_wp2_with fail
  refine (KS1.out _ ?_).mono ?_
  · unfold Sees; go_grown
  rintro e wz0 ⟨rfl, hb⟩
  have T := St.below (w := w) (l := [(w.heap.size, 0, .int .i64 t0), (w.heap.size, 1, .int .i64 a0), (w.heap.size + 1, 0, .int .i64 k1), (w.heap.size + 1, 1, .int .i64 n1), (w.heap.size + 1, 2, .slice A1 f1.len C1), (w.heap.size + 2, 0, .int .i64 k2), (w.heap.size + 2, 1, .int .i64 n2), (w.heap.size + 2, 2, .slice A2 f2.len C2)]) ⟨(by unfold Sees; go_grown), (by simp [go_sem]), (by simp [go_sem]), (by simp [go_sem]), (by simp [go_sem]), (by simp [go_sem]), (by simp [go_sem]), (by simp [go_sem]), (by simp [go_sem]), trivial⟩ hb
  have H := Lib.hid T; clear T hb
  obtain ⟨x0, x1, x2, x3, x4, x5, x6, x7, x8, _⟩ := H.out
  go_wp2_with fail
  clear x0 x1 x2 x3 x4 x5 x6 x7 x8
  refine (KS2.out _ ?_).mono ?_
  · exact H.out.1
  rintro e wz1 ⟨rfl, hb⟩
  have T := H.out.below hb
  clear H
  have H := Lib.hid T; clear T hb
  obtain ⟨x0, x1, x2, x3, x4, x5, x6, x7, x8, _⟩ := H.out
  go_wp2_with fail
  clear x0 x1 x2 x3 x4 x5 x6 x7 x8
  obtain ⟨x0, x1, x2, x3, x4, x5, x6, x7, x8, _⟩ := H.out
  go_wp2_with fail
  go_region_held3 (fun w' => Sees w w' ∧ w'.cell? ⟨w.heap.size, 0, none⟩ = some (.int .i64 t0) ∧ w'.cell? ⟨w.heap.size, 1, none⟩ = some (.int .i64 a0) ∧ w'.cell? ⟨w.heap.size + 1, 0, none⟩ = some (.int .i64 k1) ∧ w'.cell? ⟨w.heap.size + 1, 1, none⟩ = some (.int .i64 n1) ∧ w'.cell? ⟨w.heap.size + 1, 2, none⟩ = some (.slice A1 f1.len C1) ∧ w'.cell? ⟨w.heap.size + 2, 0, none⟩ = some (.int .i64 k2) ∧ w'.cell? ⟨w.heap.size + 2, 1, none⟩ = some (.int .i64 n2) ∧ w'.cell? ⟨w.heap.size + 2, 2, none⟩ = some (.slice A2 f2.len C2) ∧ True)
    (first | exact H.out.drew | exact T4 | exact T3 | exact T2 | exact T1 | (go_keep; done))
    (first | (go_at_call 14; (with_reducible refine (KT0.out _ ?_).mono ?_); exact St.sees (l := [(w.heap.size, 0, .int .i64 t0), (w.heap.size, 1, .int .i64 a0), (w.heap.size + 1, 0, .int .i64 k1), (w.heap.size + 1, 1, .int .i64 n1), (w.heap.size + 1, 2, .slice A1 f1.len C1), (w.heap.size + 2, 0, .int .i64 k2), (w.heap.size + 2, 1, .int .i64 n2), (w.heap.size + 2, 2, .slice A2 f2.len C2)]) (by assumption); rintro e w1 ⟨rfl, hb1⟩; have T1 := St.below (l := [(w.heap.size, 0, .int .i64 t0), (w.heap.size, 1, .int .i64 a0), (w.heap.size + 1, 0, .int .i64 k1), (w.heap.size + 1, 1, .int .i64 n1), (w.heap.size + 1, 2, .slice A1 f1.len C1), (w.heap.size + 2, 0, .int .i64 k2), (w.heap.size + 2, 1, .int .i64 n2), (w.heap.size + 2, 2, .slice A2 f2.len C2)]) (by assumption) hb1) | (go_at_call 15; (with_reducible refine (KT1.out _ ?_).mono ?_); exact St.sees (l := [(w.heap.size, 0, .int .i64 t0), (w.heap.size, 1, .int .i64 a0), (w.heap.size + 1, 0, .int .i64 k1), (w.heap.size + 1, 1, .int .i64 n1), (w.heap.size + 1, 2, .slice A1 f1.len C1), (w.heap.size + 2, 0, .int .i64 k2), (w.heap.size + 2, 1, .int .i64 n2), (w.heap.size + 2, 2, .slice A2 f2.len C2)]) (by assumption); rintro e w2 ⟨Z2, rfl, M2, hb2⟩; have T2 := St.below (l := [(w.heap.size, 0, .int .i64 t0), (w.heap.size, 1, .int .i64 a0), (w.heap.size + 1, 0, .int .i64 k1), (w.heap.size + 1, 1, .int .i64 n1), (w.heap.size + 1, 2, .slice A1 f1.len C1), (w.heap.size + 2, 0, .int .i64 k2), (w.heap.size + 2, 1, .int .i64 n2), (w.heap.size + 2, 2, .slice A2 f2.len C2)]) (by assumption) hb2) | (go_at_call 15; (with_reducible refine (KT2.out _ ?_).mono ?_); exact St.sees (l := [(w.heap.size, 0, .int .i64 t0), (w.heap.size, 1, .int .i64 a0), (w.heap.size + 1, 0, .int .i64 k1), (w.heap.size + 1, 1, .int .i64 n1), (w.heap.size + 1, 2, .slice A1 f1.len C1), (w.heap.size + 2, 0, .int .i64 k2), (w.heap.size + 2, 1, .int .i64 n2), (w.heap.size + 2, 2, .slice A2 f2.len C2)]) (by assumption); rintro e w3 ⟨Z3, rfl, M3, hb3⟩; have T3 := St.below (l := [(w.heap.size, 0, .int .i64 t0), (w.heap.size, 1, .int .i64 a0), (w.heap.size + 1, 0, .int .i64 k1), (w.heap.size + 1, 1, .int .i64 n1), (w.heap.size + 1, 2, .slice A1 f1.len C1), (w.heap.size + 2, 0, .int .i64 k2), (w.heap.size + 2, 1, .int .i64 n2), (w.heap.size + 2, 2, .slice A2 f2.len C2)]) (by assumption) hb3) | (go_at_call 30; refine (KW2.out _ _ _ ?_ ?_ ).mono ?_; (first | exact M2 | exact M2.drew | exact M2.drew.drew | exact M2.below hb3 | exact M2.dbelow hb3 | exact (M2.below hb3).drew | exact (M2.dbelow hb3).drew); (first | exact M3 | exact M3.drew | exact M3.drew.drew); rintro e w4 ⟨rfl, hb4⟩; have T4 := St.below (l := [(w.heap.size, 0, .int .i64 t0), (w.heap.size, 1, .int .i64 a0), (w.heap.size + 1, 0, .int .i64 k1), (w.heap.size + 1, 1, .int .i64 n1), (w.heap.size + 1, 2, .slice A1 f1.len C1), (w.heap.size + 2, 0, .int .i64 k2), (w.heap.size + 2, 1, .int .i64 n2), (w.heap.size + 2, 2, .slice A2 f2.len C2)]) (by assumption) hb4))
  clear x0 x1 x2 x3 x4 x5 x6 x7 x8
  clear H
  have H := Lib.hid T4
  clear hb4 T4
  obtain ⟨x0, x1, x2, x3, x4, x5, x6, x7, x8, _⟩ := H.out
  go_wp2_with fail
  refine (KT1.out _ H.out.1).mono ?_
  rintro e w5 ⟨Z5, rfl, M5, hb5⟩
  have T := H.out.below hb5
  clear x0 x1 x2 x3 x4 x5 x6 x7 x8
  have T2 : St w [(w5.heap.size, 0, .int .i64 k1), (w5.heap.size, 1, .int .i64 n1), (w5.heap.size, 2, .slice Z5 f1.len f1.len), (w.heap.size, 0, .int .i64 t0), (w.heap.size, 1, .int .i64 a0), (w.heap.size + 1, 0, .int .i64 k1), (w.heap.size + 1, 1, .int .i64 n1), (w.heap.size + 1, 2, .slice A1 f1.len C1), (w.heap.size + 2, 0, .int .i64 k2), (w.heap.size + 2, 1, .int .i64 n2), (w.heap.size + 2, 2, .slice A2 f2.len C2)] (w5.alloc (.cells #[.int .i64 k1, .int .i64 n1, .slice Z5 f1.len f1.len] 34)) := ⟨T.1.alloc _, (by simp [go_sem]), (by simp [go_sem]), (by simp [go_sem]), T.2.alloc _⟩
  have G6 : f1.Lies (w5.alloc (.cells #[.int .i64 k1, .int .i64 n1, .slice Z5 f1.len f1.len] 34)) Z5 := M5.alloc _
  clear H T hb5 M5
  have H := Lib.hid T2; clear T2
  obtain ⟨x0, x1, x2, x3, x4, x5, x6, x7, x8, x9, x10, x11, _⟩ := H.out
  go_wp2_with fail
  refine (KT2.out _ H.out.1).mono ?_
  rintro e w7 ⟨Z7, rfl, M7, hb7⟩
  have T := H.out.below hb7
  clear x0 x1 x2 x3 x4 x5 x6 x7 x8 x9 x10 x11
  have T2 : St w [(w7.heap.size, 0, .int .i64 k2), (w7.heap.size, 1, .int .i64 n2), (w7.heap.size, 2, .slice Z7 f2.len f2.len), (w5.heap.size, 0, .int .i64 k1), (w5.heap.size, 1, .int .i64 n1), (w5.heap.size, 2, .slice Z5 f1.len f1.len), (w.heap.size, 0, .int .i64 t0), (w.heap.size, 1, .int .i64 a0), (w.heap.size + 1, 0, .int .i64 k1), (w.heap.size + 1, 1, .int .i64 n1), (w.heap.size + 1, 2, .slice A1 f1.len C1), (w.heap.size + 2, 0, .int .i64 k2), (w.heap.size + 2, 1, .int .i64 n2), (w.heap.size + 2, 2, .slice A2 f2.len C2)] (w7.alloc (.cells #[.int .i64 k2, .int .i64 n2, .slice Z7 f2.len f2.len] 34)) := ⟨T.1.alloc _, (by simp [go_sem]), (by simp [go_sem]), (by simp [go_sem]), T.2.alloc _⟩
  have G8 : f2.Lies (w7.alloc (.cells #[.int .i64 k2, .int .i64 n2, .slice Z7 f2.len f2.len] 34)) Z7 := M7.alloc _
  have G9 : f1.Lies w7 Z5 := by first | exact G6.below hb7 | exact G6.dbelow hb7
  have G10 : f1.Lies (w7.alloc (.cells #[.int .i64 k2, .int .i64 n2, .slice Z7 f2.len f2.len] 34)) Z5 := G9.alloc _
  clear H T hb7 M7
  have H := Lib.hid T2; clear T2
  obtain ⟨x0, x1, x2, x3, x4, x5, x6, x7, x8, x9, x10, x11, x12, x13, x14, _⟩ := H.out
  go_wp2_with fail
  go_region_held3 (fun w' => Sees w w' ∧ w'.cell? ⟨w7.heap.size, 0, none⟩ = some (.int .i64 k2) ∧ w'.cell? ⟨w7.heap.size, 1, none⟩ = some (.int .i64 n2) ∧ w'.cell? ⟨w7.heap.size, 2, none⟩ = some (.slice Z7 f2.len f2.len) ∧ w'.cell? ⟨w5.heap.size, 0, none⟩ = some (.int .i64 k1) ∧ w'.cell? ⟨w5.heap.size, 1, none⟩ = some (.int .i64 n1) ∧ w'.cell? ⟨w5.heap.size, 2, none⟩ = some (.slice Z5 f1.len f1.len) ∧ w'.cell? ⟨w.heap.size, 0, none⟩ = some (.int .i64 t0) ∧ w'.cell? ⟨w.heap.size, 1, none⟩ = some (.int .i64 a0) ∧ w'.cell? ⟨w.heap.size + 1, 0, none⟩ = some (.int .i64 k1) ∧ w'.cell? ⟨w.heap.size + 1, 1, none⟩ = some (.int .i64 n1) ∧ w'.cell? ⟨w.heap.size + 1, 2, none⟩ = some (.slice A1 f1.len C1) ∧ w'.cell? ⟨w.heap.size + 2, 0, none⟩ = some (.int .i64 k2) ∧ w'.cell? ⟨w.heap.size + 2, 1, none⟩ = some (.int .i64 n2) ∧ w'.cell? ⟨w.heap.size + 2, 2, none⟩ = some (.slice A2 f2.len C2) ∧ True)
    (first | exact H.out.drew | exact T12 | exact T11 | (go_keep; done))
    (first | (go_at_call 14; (with_reducible refine (KT0.out _ ?_).mono ?_); exact St.sees (l := [(w7.heap.size, 0, .int .i64 k2), (w7.heap.size, 1, .int .i64 n2), (w7.heap.size, 2, .slice Z7 f2.len f2.len), (w5.heap.size, 0, .int .i64 k1), (w5.heap.size, 1, .int .i64 n1), (w5.heap.size, 2, .slice Z5 f1.len f1.len), (w.heap.size, 0, .int .i64 t0), (w.heap.size, 1, .int .i64 a0), (w.heap.size + 1, 0, .int .i64 k1), (w.heap.size + 1, 1, .int .i64 n1), (w.heap.size + 1, 2, .slice A1 f1.len C1), (w.heap.size + 2, 0, .int .i64 k2), (w.heap.size + 2, 1, .int .i64 n2), (w.heap.size + 2, 2, .slice A2 f2.len C2)]) (by assumption); rintro e w11 ⟨rfl, hb11⟩; have T11 := St.below (l := [(w7.heap.size, 0, .int .i64 k2), (w7.heap.size, 1, .int .i64 n2), (w7.heap.size, 2, .slice Z7 f2.len f2.len), (w5.heap.size, 0, .int .i64 k1), (w5.heap.size, 1, .int .i64 n1), (w5.heap.size, 2, .slice Z5 f1.len f1.len), (w.heap.size, 0, .int .i64 t0), (w.heap.size, 1, .int .i64 a0), (w.heap.size + 1, 0, .int .i64 k1), (w.heap.size + 1, 1, .int .i64 n1), (w.heap.size + 1, 2, .slice A1 f1.len C1), (w.heap.size + 2, 0, .int .i64 k2), (w.heap.size + 2, 1, .int .i64 n2), (w.heap.size + 2, 2, .slice A2 f2.len C2)]) (by assumption) hb11) | (go_at_call 31; refine (KG2.out _ _ _ ?_ ?_ ).mono ?_; (first | exact G10 | exact G10.drew | exact G10.drew.drew | exact G10.below hb11 | exact G10.dbelow hb11 | exact (G10.below hb11).drew | exact (G10.dbelow hb11).drew); (first | exact G8 | exact G8.drew | exact G8.drew.drew | exact G8.below hb11 | exact G8.dbelow hb11 | exact (G8.below hb11).drew | exact (G8.dbelow hb11).drew); rintro e w12 ⟨rfl, hb12⟩; have T12 := St.below (l := [(w7.heap.size, 0, .int .i64 k2), (w7.heap.size, 1, .int .i64 n2), (w7.heap.size, 2, .slice Z7 f2.len f2.len), (w5.heap.size, 0, .int .i64 k1), (w5.heap.size, 1, .int .i64 n1), (w5.heap.size, 2, .slice Z5 f1.len f1.len), (w.heap.size, 0, .int .i64 t0), (w.heap.size, 1, .int .i64 a0), (w.heap.size + 1, 0, .int .i64 k1), (w.heap.size + 1, 1, .int .i64 n1), (w.heap.size + 1, 2, .slice A1 f1.len C1), (w.heap.size + 2, 0, .int .i64 k2), (w.heap.size + 2, 1, .int .i64 n2), (w.heap.size + 2, 2, .slice A2 f2.len C2)]) (by assumption) hb12))
  clear x0 x1 x2 x3 x4 x5 x6 x7 x8 x9 x10 x11 x12 x13 x14
  clear H
  have H := Lib.hid T12
  have G13 : f1.Lies w11 Z5 := by first | exact G10.below hb11 | exact G10.dbelow hb11
  have G14 : f1.Lies w12 Z5 := by first | exact G13.below hb12 | exact G13.dbelow hb12
  have G15 : f2.Lies w11 Z7 := by first | exact G8.below hb11 | exact G8.dbelow hb11
  have G16 : f2.Lies w12 Z7 := by first | exact G15.below hb12 | exact G15.dbelow hb12
  clear T12 hb11 hb12
  have ne_q0 : (q0 != q0) = false := by simp
  have ne_q1 : (q1 != q1) = false := by simp
  obtain ⟨x0, x1, x2, x3, x4, x5, x6, x7, x8, x9, x10, x11, x12, x13, x14, _⟩ := H.out
  go_wp2_with fail
  go_region_held3 (fun w' => Sees w w' ∧ w'.cell? ⟨w7.heap.size, 0, none⟩ = some (.int .i64 k2) ∧ w'.cell? ⟨w7.heap.size, 1, none⟩ = some (.int .i64 n2) ∧ w'.cell? ⟨w7.heap.size, 2, none⟩ = some (.slice Z7 f2.len f2.len) ∧ w'.cell? ⟨w5.heap.size, 0, none⟩ = some (.int .i64 k1) ∧ w'.cell? ⟨w5.heap.size, 1, none⟩ = some (.int .i64 n1) ∧ w'.cell? ⟨w5.heap.size, 2, none⟩ = some (.slice Z5 f1.len f1.len) ∧ w'.cell? ⟨w.heap.size, 0, none⟩ = some (.int .i64 t0) ∧ w'.cell? ⟨w.heap.size, 1, none⟩ = some (.int .i64 a0) ∧ w'.cell? ⟨w.heap.size + 1, 0, none⟩ = some (.int .i64 k1) ∧ w'.cell? ⟨w.heap.size + 1, 1, none⟩ = some (.int .i64 n1) ∧ w'.cell? ⟨w.heap.size + 1, 2, none⟩ = some (.slice A1 f1.len C1) ∧ w'.cell? ⟨w.heap.size + 2, 0, none⟩ = some (.int .i64 k2) ∧ w'.cell? ⟨w.heap.size + 2, 1, none⟩ = some (.int .i64 n2) ∧ w'.cell? ⟨w.heap.size + 2, 2, none⟩ = some (.slice A2 f2.len C2) ∧ True)
    (first | exact H.out.drew | exact T18 | exact T17 | (go_keep; done))
    (first | (go_at_call 15; (with_reducible refine (KT1.out _ ?_).mono ?_); exact St.sees (l := [(w7.heap.size, 0, .int .i64 k2), (w7.heap.size, 1, .int .i64 n2), (w7.heap.size, 2, .slice Z7 f2.len f2.len), (w5.heap.size, 0, .int .i64 k1), (w5.heap.size, 1, .int .i64 n1), (w5.heap.size, 2, .slice Z5 f1.len f1.len), (w.heap.size, 0, .int .i64 t0), (w.heap.size, 1, .int .i64 a0), (w.heap.size + 1, 0, .int .i64 k1), (w.heap.size + 1, 1, .int .i64 n1), (w.heap.size + 1, 2, .slice A1 f1.len C1), (w.heap.size + 2, 0, .int .i64 k2), (w.heap.size + 2, 1, .int .i64 n2), (w.heap.size + 2, 2, .slice A2 f2.len C2)]) (by assumption); rintro e w17 ⟨Z17, rfl, M17, hb17⟩; have T17 := St.below (l := [(w7.heap.size, 0, .int .i64 k2), (w7.heap.size, 1, .int .i64 n2), (w7.heap.size, 2, .slice Z7 f2.len f2.len), (w5.heap.size, 0, .int .i64 k1), (w5.heap.size, 1, .int .i64 n1), (w5.heap.size, 2, .slice Z5 f1.len f1.len), (w.heap.size, 0, .int .i64 t0), (w.heap.size, 1, .int .i64 a0), (w.heap.size + 1, 0, .int .i64 k1), (w.heap.size + 1, 1, .int .i64 n1), (w.heap.size + 1, 2, .slice A1 f1.len C1), (w.heap.size + 2, 0, .int .i64 k2), (w.heap.size + 2, 1, .int .i64 n2), (w.heap.size + 2, 2, .slice A2 f2.len C2)]) (by assumption) hb17) | (go_at_call 17; refine (KE1.out _ _ _ ?_ ?_ ).mono ?_; (first | exact G14 | exact G14.drew | exact G14.drew.drew | exact G14.below hb17 | exact G14.dbelow hb17 | exact (G14.below hb17).drew | exact (G14.dbelow hb17).drew); (first | exact M17 | exact M17.drew | exact M17.drew.drew); rintro e w18 ⟨rfl, hb18⟩; have T18 := St.below (l := [(w7.heap.size, 0, .int .i64 k2), (w7.heap.size, 1, .int .i64 n2), (w7.heap.size, 2, .slice Z7 f2.len f2.len), (w5.heap.size, 0, .int .i64 k1), (w5.heap.size, 1, .int .i64 n1), (w5.heap.size, 2, .slice Z5 f1.len f1.len), (w.heap.size, 0, .int .i64 t0), (w.heap.size, 1, .int .i64 a0), (w.heap.size + 1, 0, .int .i64 k1), (w.heap.size + 1, 1, .int .i64 n1), (w.heap.size + 1, 2, .slice A1 f1.len C1), (w.heap.size + 2, 0, .int .i64 k2), (w.heap.size + 2, 1, .int .i64 n2), (w.heap.size + 2, 2, .slice A2 f2.len C2)]) (by assumption) hb18))
  clear x0 x1 x2 x3 x4 x5 x6 x7 x8 x9 x10 x11 x12 x13 x14
  clear H
  have H := Lib.hid T18
  have G19 : f1.Lies w17 Z5 := by first | exact G14.below hb17 | exact G14.dbelow hb17
  have G20 : f1.Lies w18 Z5 := by first | exact G19.below hb18 | exact G19.dbelow hb18
  have G21 : f2.Lies w17 Z7 := by first | exact G16.below hb17 | exact G16.dbelow hb17
  have G22 : f2.Lies w18 Z7 := by first | exact G21.below hb18 | exact G21.dbelow hb18
  clear T18 T17 hb17 hb18 M17
  obtain ⟨x0, x1, x2, x3, x4, x5, x6, x7, x8, x9, x10, x11, x12, x13, x14, _⟩ := H.out
  go_wp2_with fail
  go_region_held3 (fun w' => Sees w w' ∧ w'.cell? ⟨w7.heap.size, 0, none⟩ = some (.int .i64 k2) ∧ w'.cell? ⟨w7.heap.size, 1, none⟩ = some (.int .i64 n2) ∧ w'.cell? ⟨w7.heap.size, 2, none⟩ = some (.slice Z7 f2.len f2.len) ∧ w'.cell? ⟨w5.heap.size, 0, none⟩ = some (.int .i64 k1) ∧ w'.cell? ⟨w5.heap.size, 1, none⟩ = some (.int .i64 n1) ∧ w'.cell? ⟨w5.heap.size, 2, none⟩ = some (.slice Z5 f1.len f1.len) ∧ w'.cell? ⟨w.heap.size, 0, none⟩ = some (.int .i64 t0) ∧ w'.cell? ⟨w.heap.size, 1, none⟩ = some (.int .i64 a0) ∧ w'.cell? ⟨w.heap.size + 1, 0, none⟩ = some (.int .i64 k1) ∧ w'.cell? ⟨w.heap.size + 1, 1, none⟩ = some (.int .i64 n1) ∧ w'.cell? ⟨w.heap.size + 1, 2, none⟩ = some (.slice A1 f1.len C1) ∧ w'.cell? ⟨w.heap.size + 2, 0, none⟩ = some (.int .i64 k2) ∧ w'.cell? ⟨w.heap.size + 2, 1, none⟩ = some (.int .i64 n2) ∧ w'.cell? ⟨w.heap.size + 2, 2, none⟩ = some (.slice A2 f2.len C2) ∧ True)
    (first | exact H.out.drew | exact T24 | exact T23 | (go_keep; done))
    (first | (go_at_call 15; (with_reducible refine (KT2.out _ ?_).mono ?_); exact St.sees (l := [(w7.heap.size, 0, .int .i64 k2), (w7.heap.size, 1, .int .i64 n2), (w7.heap.size, 2, .slice Z7 f2.len f2.len), (w5.heap.size, 0, .int .i64 k1), (w5.heap.size, 1, .int .i64 n1), (w5.heap.size, 2, .slice Z5 f1.len f1.len), (w.heap.size, 0, .int .i64 t0), (w.heap.size, 1, .int .i64 a0), (w.heap.size + 1, 0, .int .i64 k1), (w.heap.size + 1, 1, .int .i64 n1), (w.heap.size + 1, 2, .slice A1 f1.len C1), (w.heap.size + 2, 0, .int .i64 k2), (w.heap.size + 2, 1, .int .i64 n2), (w.heap.size + 2, 2, .slice A2 f2.len C2)]) (by assumption); rintro e w23 ⟨Z23, rfl, M23, hb23⟩; have T23 := St.below (l := [(w7.heap.size, 0, .int .i64 k2), (w7.heap.size, 1, .int .i64 n2), (w7.heap.size, 2, .slice Z7 f2.len f2.len), (w5.heap.size, 0, .int .i64 k1), (w5.heap.size, 1, .int .i64 n1), (w5.heap.size, 2, .slice Z5 f1.len f1.len), (w.heap.size, 0, .int .i64 t0), (w.heap.size, 1, .int .i64 a0), (w.heap.size + 1, 0, .int .i64 k1), (w.heap.size + 1, 1, .int .i64 n1), (w.heap.size + 1, 2, .slice A1 f1.len C1), (w.heap.size + 2, 0, .int .i64 k2), (w.heap.size + 2, 1, .int .i64 n2), (w.heap.size + 2, 2, .slice A2 f2.len C2)]) (by assumption) hb23) | (go_at_call 17; refine (KE2.out _ _ _ ?_ ?_ ).mono ?_; (first | exact G22 | exact G22.drew | exact G22.drew.drew | exact G22.below hb23 | exact G22.dbelow hb23 | exact (G22.below hb23).drew | exact (G22.dbelow hb23).drew); (first | exact M23 | exact M23.drew | exact M23.drew.drew); rintro e w24 ⟨rfl, hb24⟩; have T24 := St.below (l := [(w7.heap.size, 0, .int .i64 k2), (w7.heap.size, 1, .int .i64 n2), (w7.heap.size, 2, .slice Z7 f2.len f2.len), (w5.heap.size, 0, .int .i64 k1), (w5.heap.size, 1, .int .i64 n1), (w5.heap.size, 2, .slice Z5 f1.len f1.len), (w.heap.size, 0, .int .i64 t0), (w.heap.size, 1, .int .i64 a0), (w.heap.size + 1, 0, .int .i64 k1), (w.heap.size + 1, 1, .int .i64 n1), (w.heap.size + 1, 2, .slice A1 f1.len C1), (w.heap.size + 2, 0, .int .i64 k2), (w.heap.size + 2, 1, .int .i64 n2), (w.heap.size + 2, 2, .slice A2 f2.len C2)]) (by assumption) hb24))
  clear x0 x1 x2 x3 x4 x5 x6 x7 x8 x9 x10 x11 x12 x13 x14
  clear H
  have H := Lib.hid T24
  have G25 : f1.Lies w23 Z5 := by first | exact G20.below hb23 | exact G20.dbelow hb23
  have G26 : f1.Lies w24 Z5 := by first | exact G25.below hb24 | exact G25.dbelow hb24
  have G27 : f2.Lies w23 Z7 := by first | exact G22.below hb23 | exact G22.dbelow hb23
  have G28 : f2.Lies w24 Z7 := by first | exact G27.below hb24 | exact G27.dbelow hb24
  clear T24 T23 hb23 hb24 M23
  go_wp2_with fail
  go_ret
  exact ⟨rfl, H.out.1⟩

end Go.Proofs.Ytpoikhilhgijoaa
