/- The law FnExactSameProg, walked, out of the contracts of both sides. -/
import Derived.Test.YtlfafcbieeambaaSz
import Derived.Test.YtlfafcbieeambaaTo
import Derived.Test.YtlfafcbieeambaaEq
import Derived.Test.YtlfafcbieeambaaPgS
import Derived.Test.YtlfafcbieeambaaPgT
import Derived.Test.YtlfafcbieeambaaPgE
import Derived.Deep.RegionHeld3
namespace Go.Proofs.Ytlfafcbieeambaa
open Go.RowKit

set_option maxHeartbeats 2000000 in
set_option maxRecDepth 100000 in
theorem lawSameProg (k0 n0 ck0 cn0 : Int) (cf0 : Fo) (f0 : Pg) (A0 B0 : Option Addr) (C0 D0 : Nat) (k1 n1 ck1 cn1 : Int) (cf1 : Fo) (f1 : Pg) (A1 B1 : Option Addr) (C1 D1 : Nat) {q0 : Bool}
    (KW : Hid (cf0.nodes + f0.nodes ≤ 1048576 ∧ cf1.nodes + f1.nodes ≤ 1048576 → ∀ (W : World) (Z0 Y0 : Option Addr) (Z1 Y1 : Option Addr), cf0.Lies W Z0 → f0.Lies W Y0 → cf1.Lies W Z1 → f1.Lies W Y1 → Calls Try.prog 21 #[.agg #[.int .i64 k0, .int .i64 n0, .int .i64 ck0, .int .i64 cn0, .slice Z0 cf0.len cf0.len, .slice Y0 f0.len f0.len], .agg #[.int .i64 k1, .int .i64 n1, .int .i64 ck1, .int .i64 cn1, .slice Z1 cf1.len cf1.len, .slice Y1 f1.len f1.len]] W fun e w' => e = .returned (.bool q0) ∧ Below W.heap.size W w'))
    (KG : Hid (cf0.nodes + f0.nodes ≤ 1048576 ∧ cf1.nodes + f1.nodes ≤ 1048576 → ∀ (W : World) (Z0 Y0 : Option Addr) (Z1 Y1 : Option Addr), cf0.Lies W Z0 → f0.Lies W Y0 → cf1.Lies W Z1 → f1.Lies W Y1 → Calls Try.prog 23 #[.agg #[.int .i64 k0, .int .i64 n0, .int .i64 ck0, .int .i64 cn0, .slice Z0 cf0.len cf0.len, .slice Y0 f0.len f0.len], .agg #[.int .i64 k1, .int .i64 n1, .int .i64 ck1, .int .i64 cn1, .slice Z1 cf1.len cf1.len, .slice Y1 f1.len f1.len]] W fun e w' => e = .returned (.bool q0) ∧ Below W.heap.size W w'))
    (w : World) (hm0 : Hid (cf0.len ≤ 9223372036854775807 ∧ f0.len ≤ 9223372036854775807)) (hc0 : cf0.Fits) (hf0 : f0.Fits) (hl0 : cf0.Lies w A0) (hr0 : f0.Lies w B0) (hm1 : Hid (cf1.len ≤ 9223372036854775807 ∧ f1.len ≤ 9223372036854775807)) (hc1 : cf1.Fits) (hf1 : f1.Fits) (hl1 : cf1.Lies w A1) (hr1 : f1.Lies w B1) :
    Calls Try.prog 4 #[.agg #[.int .i64 k0, .int .i64 n0, .int .i64 ck0, .int .i64 cn0, .slice A0 cf0.len C0, .slice B0 f0.len D0], .agg #[.int .i64 k1, .int .i64 n1, .int .i64 ck1, .int .i64 cn1, .slice A1 cf1.len C1, .slice B1 f1.len D1]] w fun e w' => e = .returned (.bool true) ∧ Below w.heap.size w w' := by
  by_cases hbig0 : 1048576 < ((cf0.nodes + f0.nodes) : Nat)
  · have hs : szR (cf0.nodes + f0.nodes) 1048576 = -1 := szR_neg (by omega)
    have KS0 : Hid (∀ W : World, Sees w W → Calls Try.prog 20 #[.agg #[.int .i64 k0, .int .i64 n0, .int .i64 ck0, .int .i64 cn0, .slice A0 cf0.len C0, .slice B0 f0.len D0], .int .i64 1048576] W fun e w' => e = .returned (.int .i64 (-1)) ∧ Below W.heap.size W w') := fun W h => by rw [← hs]; exact szProg_any cf0 f0 hm0.out.1 hc0 hm0.out.2 hf0 k0 n0 ck0 cn0 1048576 A0 B0 C0 D0 W (hl0.sees h) (hr0.sees h) (by omega) (by omega)
    clear hs
    go_enter Try.func4, Try.ntmps4
    go_wp2_with fail
    refine (KS0.out _ ?_).mono ?_
    · unfold Sees; go_grown
    rintro e wz0 ⟨rfl, hb⟩
    have T := St.below (w := w) (l := [(w.heap.size, 0, .int .i64 k0), (w.heap.size, 1, .int .i64 n0), (w.heap.size, 2, .int .i64 ck0), (w.heap.size, 3, .int .i64 cn0), (w.heap.size, 4, .slice A0 cf0.len C0), (w.heap.size, 5, .slice B0 f0.len D0), (w.heap.size + 1, 0, .int .i64 k1), (w.heap.size + 1, 1, .int .i64 n1), (w.heap.size + 1, 2, .int .i64 ck1), (w.heap.size + 1, 3, .int .i64 cn1), (w.heap.size + 1, 4, .slice A1 cf1.len C1), (w.heap.size + 1, 5, .slice B1 f1.len D1)]) ⟨(by unfold Sees; go_grown), (by simp [go_sem]), (by simp [go_sem]), (by simp [go_sem]), (by simp [go_sem]), (by simp [go_sem]), (by simp [go_sem]), (by simp [go_sem]), (by simp [go_sem]), (by simp [go_sem]), (by simp [go_sem]), (by simp [go_sem]), (by simp [go_sem]), trivial⟩ hb
    have H := Lib.hid T; clear T hb
    obtain ⟨x0, x1, x2, x3, x4, x5, x6, x7, x8, x9, x10, x11, x12, _⟩ := H.out
    go_wp2_with fail
    clear x0 x1 x2 x3 x4 x5 x6 x7 x8 x9 x10 x11 x12
    go_ret
    exact ⟨rfl, H.out.1⟩
  obtain ⟨s0, hs, hz0, hy0⟩ : ∃ s : Int, s = szR (cf0.nodes + f0.nodes) 1048576 ∧ 0 ≤ s ∧ s ≤ 1048576 := ⟨_, rfl, by rw [szR_pos (by omega)]; omega, by rw [szR_pos (by omega)]; omega⟩
  have KS0 : Hid (∀ W : World, Sees w W → Calls Try.prog 20 #[.agg #[.int .i64 k0, .int .i64 n0, .int .i64 ck0, .int .i64 cn0, .slice A0 cf0.len C0, .slice B0 f0.len D0], .int .i64 1048576] W fun e w' => e = .returned (.int .i64 s0) ∧ Below W.heap.size W w') := fun W h => by rw [hs]; exact szProg_any cf0 f0 hm0.out.1 hc0 hm0.out.2 hf0 k0 n0 ck0 cn0 1048576 A0 B0 C0 D0 W (hl0.sees h) (hr0.sees h) (by omega) (by omega)
  clear hs
  by_cases hbig1 : s0 < (((cf1.nodes + f1.nodes) : Nat) : Int)
  · have hs : szR (cf1.nodes + f1.nodes) s0 = -1 := szR_neg (by omega)
    have KS1 : Hid (∀ W : World, Sees w W → Calls Try.prog 20 #[.agg #[.int .i64 k1, .int .i64 n1, .int .i64 ck1, .int .i64 cn1, .slice A1 cf1.len C1, .slice B1 f1.len D1], .int .i64 s0] W fun e w' => e = .returned (.int .i64 (-1)) ∧ Below W.heap.size W w') := fun W h => by rw [← hs]; exact szProg_any cf1 f1 hm1.out.1 hc1 hm1.out.2 hf1 k1 n1 ck1 cn1 s0 A1 B1 C1 D1 W (hl1.sees h) (hr1.sees h) (by omega) (by omega)
    clear hs
    go_enter Try.func4, Try.ntmps4
    go_wp2_with fail
    refine (KS0.out _ ?_).mono ?_
    · unfold Sees; go_grown
    rintro e wz0 ⟨rfl, hb⟩
    have T := St.below (w := w) (l := [(w.heap.size, 0, .int .i64 k0), (w.heap.size, 1, .int .i64 n0), (w.heap.size, 2, .int .i64 ck0), (w.heap.size, 3, .int .i64 cn0), (w.heap.size, 4, .slice A0 cf0.len C0), (w.heap.size, 5, .slice B0 f0.len D0), (w.heap.size + 1, 0, .int .i64 k1), (w.heap.size + 1, 1, .int .i64 n1), (w.heap.size + 1, 2, .int .i64 ck1), (w.heap.size + 1, 3, .int .i64 cn1), (w.heap.size + 1, 4, .slice A1 cf1.len C1), (w.heap.size + 1, 5, .slice B1 f1.len D1)]) ⟨(by unfold Sees; go_grown), (by simp [go_sem]), (by simp [go_sem]), (by simp [go_sem]), (by simp [go_sem]), (by simp [go_sem]), (by simp [go_sem]), (by simp [go_sem]), (by simp [go_sem]), (by simp [go_sem]), (by simp [go_sem]), (by simp [go_sem]), (by simp [go_sem]), trivial⟩ hb
    have H := Lib.hid T; clear T hb
    obtain ⟨x0, x1, x2, x3, x4, x5, x6, x7, x8, x9, x10, x11, x12, _⟩ := H.out
    go_wp2_with fail
    clear x0 x1 x2 x3 x4 x5 x6 x7 x8 x9 x10 x11 x12
    refine (KS1.out _ ?_).mono ?_
    · exact H.out.1
    rintro e wz1 ⟨rfl, hb⟩
    have T := H.out.below hb
    clear H
    have H := Lib.hid T; clear T hb
    obtain ⟨x0, x1, x2, x3, x4, x5, x6, x7, x8, x9, x10, x11, x12, _⟩ := H.out
    go_wp2_with fail
    clear x0 x1 x2 x3 x4 x5 x6 x7 x8 x9 x10 x11 x12
    go_ret
    exact ⟨rfl, H.out.1⟩
  obtain ⟨s1, hs, hz1, hy1⟩ : ∃ s : Int, s = szR (cf1.nodes + f1.nodes) s0 ∧ 0 ≤ s ∧ s ≤ 1048576 := ⟨_, rfl, by rw [szR_pos (by omega)]; omega, by rw [szR_pos (by omega)]; omega⟩
  have KS1 : Hid (∀ W : World, Sees w W → Calls Try.prog 20 #[.agg #[.int .i64 k1, .int .i64 n1, .int .i64 ck1, .int .i64 cn1, .slice A1 cf1.len C1, .slice B1 f1.len D1], .int .i64 s0] W fun e w' => e = .returned (.int .i64 s1) ∧ Below W.heap.size W w') := fun W h => by rw [hs]; exact szProg_any cf1 f1 hm1.out.1 hc1 hm1.out.2 hf1 k1 n1 ck1 cn1 s0 A1 B1 C1 D1 W (hl1.sees h) (hr1.sees h) (by omega) (by omega)
  clear hs
  have hsmall : cf0.nodes + f0.nodes ≤ 1048576 ∧ cf1.nodes + f1.nodes ≤ 1048576 := by (first | trivial | omega | (refine ⟨?_, ?_⟩ <;> omega))
  have KT0 : Hid (∀ W : World, Sees w W → Calls Try.prog 22 #[.agg #[.int .i64 k0, .int .i64 n0, .int .i64 ck0, .int .i64 cn0, .slice A0 cf0.len C0, .slice B0 f0.len D0]] W fun e w' => ∃ Z Y, e = .returned (.agg #[.int .i64 k0, .int .i64 n0, .int .i64 ck0, .int .i64 cn0, .slice Z cf0.len cf0.len, .slice Y f0.len f0.len]) ∧ cf0.Lies w' Z ∧ f0.Lies w' Y ∧ Below W.heap.size W w') :=
    fun W h => (toProg_any cf0 f0 (by omega) k0 n0 ck0 cn0 A0 B0 C0 D0 W (hl0.sees h) (hr0.sees h)).mono fun e w' ⟨Z, Y, he, h1, h2, hb⟩ => ⟨Z, Y, he, h1.lies, h2.lies, hb⟩
  have KE0 : Hid (∀ (W : World) (Z Y Z' Y' : Option Addr), cf0.Lies W Z → f0.Lies W Y → cf0.Lies W Z' → f0.Lies W Y' → Calls Try.prog 24 #[.agg #[.int .i64 k0, .int .i64 n0, .int .i64 ck0, .int .i64 cn0, .slice Z cf0.len cf0.len, .slice Y f0.len f0.len], .agg #[.int .i64 k0, .int .i64 n0, .int .i64 ck0, .int .i64 cn0, .slice Z' cf0.len cf0.len, .slice Y' f0.len f0.len]] W fun e w' => e = .returned (.bool true) ∧ Below W.heap.size W w') :=
    fun W Z Y Z' Y' h1 h2 h3 h4 => eqProg_same cf0 f0 hm0.out.1 hc0 hm0.out.2 hf0 k0 n0 ck0 cn0 _ _ _ _ _ _ _ _ W h1 h2 h3 h4
  have KT1 : Hid (∀ W : World, Sees w W → Calls Try.prog 22 #[.agg #[.int .i64 k1, .int .i64 n1, .int .i64 ck1, .int .i64 cn1, .slice A1 cf1.len C1, .slice B1 f1.len D1]] W fun e w' => ∃ Z Y, e = .returned (.agg #[.int .i64 k1, .int .i64 n1, .int .i64 ck1, .int .i64 cn1, .slice Z cf1.len cf1.len, .slice Y f1.len f1.len]) ∧ cf1.Lies w' Z ∧ f1.Lies w' Y ∧ Below W.heap.size W w') :=
    fun W h => (toProg_any cf1 f1 (by omega) k1 n1 ck1 cn1 A1 B1 C1 D1 W (hl1.sees h) (hr1.sees h)).mono fun e w' ⟨Z, Y, he, h1, h2, hb⟩ => ⟨Z, Y, he, h1.lies, h2.lies, hb⟩
  have KE1 : Hid (∀ (W : World) (Z Y Z' Y' : Option Addr), cf1.Lies W Z → f1.Lies W Y → cf1.Lies W Z' → f1.Lies W Y' → Calls Try.prog 24 #[.agg #[.int .i64 k1, .int .i64 n1, .int .i64 ck1, .int .i64 cn1, .slice Z cf1.len cf1.len, .slice Y f1.len f1.len], .agg #[.int .i64 k1, .int .i64 n1, .int .i64 ck1, .int .i64 cn1, .slice Z' cf1.len cf1.len, .slice Y' f1.len f1.len]] W fun e w' => e = .returned (.bool true) ∧ Below W.heap.size W w') :=
    fun W Z Y Z' Y' h1 h2 h3 h4 => eqProg_same cf1 f1 hm1.out.1 hc1 hm1.out.2 hf1 k1 n1 ck1 cn1 _ _ _ _ _ _ _ _ W h1 h2 h3 h4
  have KW2 := Lib.hid (KW.out hsmall); clear KW
  have KG2 := Lib.hid (KG.out hsmall); clear KG hsmall
  go_enter Try.func4, Try.ntmps4
  go_wp2_with fail
  refine (KS0.out _ ?_).mono ?_
  · unfold Sees; go_grown
  rintro e wz0 ⟨rfl, hb⟩
  have T := St.below (w := w) (l := [(w.heap.size, 0, .int .i64 k0), (w.heap.size, 1, .int .i64 n0), (w.heap.size, 2, .int .i64 ck0), (w.heap.size, 3, .int .i64 cn0), (w.heap.size, 4, .slice A0 cf0.len C0), (w.heap.size, 5, .slice B0 f0.len D0), (w.heap.size + 1, 0, .int .i64 k1), (w.heap.size + 1, 1, .int .i64 n1), (w.heap.size + 1, 2, .int .i64 ck1), (w.heap.size + 1, 3, .int .i64 cn1), (w.heap.size + 1, 4, .slice A1 cf1.len C1), (w.heap.size + 1, 5, .slice B1 f1.len D1)]) ⟨(by unfold Sees; go_grown), (by simp [go_sem]), (by simp [go_sem]), (by simp [go_sem]), (by simp [go_sem]), (by simp [go_sem]), (by simp [go_sem]), (by simp [go_sem]), (by simp [go_sem]), (by simp [go_sem]), (by simp [go_sem]), (by simp [go_sem]), (by simp [go_sem]), trivial⟩ hb
  have H := Lib.hid T; clear T hb
  obtain ⟨x0, x1, x2, x3, x4, x5, x6, x7, x8, x9, x10, x11, x12, _⟩ := H.out
  go_wp2_with fail
  clear x0 x1 x2 x3 x4 x5 x6 x7 x8 x9 x10 x11 x12
  refine (KS1.out _ ?_).mono ?_
  · exact H.out.1
  rintro e wz1 ⟨rfl, hb⟩
  have T := H.out.below hb
  clear H
  have H := Lib.hid T; clear T hb
  obtain ⟨x0, x1, x2, x3, x4, x5, x6, x7, x8, x9, x10, x11, x12, _⟩ := H.out
  go_wp2_with fail
  clear x0 x1 x2 x3 x4 x5 x6 x7 x8 x9 x10 x11 x12
  obtain ⟨x0, x1, x2, x3, x4, x5, x6, x7, x8, x9, x10, x11, x12, _⟩ := H.out
  go_wp2_with fail
  go_region_held3 (fun w' => Sees w w' ∧ w'.cell? ⟨w.heap.size, 0, none⟩ = some (.int .i64 k0) ∧ w'.cell? ⟨w.heap.size, 1, none⟩ = some (.int .i64 n0) ∧ w'.cell? ⟨w.heap.size, 2, none⟩ = some (.int .i64 ck0) ∧ w'.cell? ⟨w.heap.size, 3, none⟩ = some (.int .i64 cn0) ∧ w'.cell? ⟨w.heap.size, 4, none⟩ = some (.slice A0 cf0.len C0) ∧ w'.cell? ⟨w.heap.size, 5, none⟩ = some (.slice B0 f0.len D0) ∧ w'.cell? ⟨w.heap.size + 1, 0, none⟩ = some (.int .i64 k1) ∧ w'.cell? ⟨w.heap.size + 1, 1, none⟩ = some (.int .i64 n1) ∧ w'.cell? ⟨w.heap.size + 1, 2, none⟩ = some (.int .i64 ck1) ∧ w'.cell? ⟨w.heap.size + 1, 3, none⟩ = some (.int .i64 cn1) ∧ w'.cell? ⟨w.heap.size + 1, 4, none⟩ = some (.slice A1 cf1.len C1) ∧ w'.cell? ⟨w.heap.size + 1, 5, none⟩ = some (.slice B1 f1.len D1) ∧ True)
    (first | exact H.out.drew | exact T3 | exact T2 | exact T1 | (go_keep; done))
    (first | (go_at_call 22; (with_reducible refine (KT0.out _ ?_).mono ?_); exact St.sees (l := [(w.heap.size, 0, .int .i64 k0), (w.heap.size, 1, .int .i64 n0), (w.heap.size, 2, .int .i64 ck0), (w.heap.size, 3, .int .i64 cn0), (w.heap.size, 4, .slice A0 cf0.len C0), (w.heap.size, 5, .slice B0 f0.len D0), (w.heap.size + 1, 0, .int .i64 k1), (w.heap.size + 1, 1, .int .i64 n1), (w.heap.size + 1, 2, .int .i64 ck1), (w.heap.size + 1, 3, .int .i64 cn1), (w.heap.size + 1, 4, .slice A1 cf1.len C1), (w.heap.size + 1, 5, .slice B1 f1.len D1)]) (by assumption); rintro e w1 ⟨Z1, Y1, rfl, M1, N1, hb1⟩; have T1 := St.below (l := [(w.heap.size, 0, .int .i64 k0), (w.heap.size, 1, .int .i64 n0), (w.heap.size, 2, .int .i64 ck0), (w.heap.size, 3, .int .i64 cn0), (w.heap.size, 4, .slice A0 cf0.len C0), (w.heap.size, 5, .slice B0 f0.len D0), (w.heap.size + 1, 0, .int .i64 k1), (w.heap.size + 1, 1, .int .i64 n1), (w.heap.size + 1, 2, .int .i64 ck1), (w.heap.size + 1, 3, .int .i64 cn1), (w.heap.size + 1, 4, .slice A1 cf1.len C1), (w.heap.size + 1, 5, .slice B1 f1.len D1)]) (by assumption) hb1) | (go_at_call 22; (with_reducible refine (KT1.out _ ?_).mono ?_); exact St.sees (l := [(w.heap.size, 0, .int .i64 k0), (w.heap.size, 1, .int .i64 n0), (w.heap.size, 2, .int .i64 ck0), (w.heap.size, 3, .int .i64 cn0), (w.heap.size, 4, .slice A0 cf0.len C0), (w.heap.size, 5, .slice B0 f0.len D0), (w.heap.size + 1, 0, .int .i64 k1), (w.heap.size + 1, 1, .int .i64 n1), (w.heap.size + 1, 2, .int .i64 ck1), (w.heap.size + 1, 3, .int .i64 cn1), (w.heap.size + 1, 4, .slice A1 cf1.len C1), (w.heap.size + 1, 5, .slice B1 f1.len D1)]) (by assumption); rintro e w2 ⟨Z2, Y2, rfl, M2, N2, hb2⟩; have T2 := St.below (l := [(w.heap.size, 0, .int .i64 k0), (w.heap.size, 1, .int .i64 n0), (w.heap.size, 2, .int .i64 ck0), (w.heap.size, 3, .int .i64 cn0), (w.heap.size, 4, .slice A0 cf0.len C0), (w.heap.size, 5, .slice B0 f0.len D0), (w.heap.size + 1, 0, .int .i64 k1), (w.heap.size + 1, 1, .int .i64 n1), (w.heap.size + 1, 2, .int .i64 ck1), (w.heap.size + 1, 3, .int .i64 cn1), (w.heap.size + 1, 4, .slice A1 cf1.len C1), (w.heap.size + 1, 5, .slice B1 f1.len D1)]) (by assumption) hb2) | (go_at_call 21; refine (KW2.out _ _ _ _ _ ?_ ?_ ?_ ?_ ).mono ?_; (first | exact M1 | exact M1.drew | exact M1.drew.drew | exact M1.below hb2 | exact M1.dbelow hb2 | exact (M1.below hb2).drew | exact (M1.dbelow hb2).drew); (first | exact N1 | exact N1.drew | exact N1.drew.drew | exact N1.below hb2 | exact N1.dbelow hb2 | exact (N1.below hb2).drew | exact (N1.dbelow hb2).drew); (first | exact M2 | exact M2.drew | exact M2.drew.drew); (first | exact N2 | exact N2.drew | exact N2.drew.drew); rintro e w3 ⟨rfl, hb3⟩; have T3 := St.below (l := [(w.heap.size, 0, .int .i64 k0), (w.heap.size, 1, .int .i64 n0), (w.heap.size, 2, .int .i64 ck0), (w.heap.size, 3, .int .i64 cn0), (w.heap.size, 4, .slice A0 cf0.len C0), (w.heap.size, 5, .slice B0 f0.len D0), (w.heap.size + 1, 0, .int .i64 k1), (w.heap.size + 1, 1, .int .i64 n1), (w.heap.size + 1, 2, .int .i64 ck1), (w.heap.size + 1, 3, .int .i64 cn1), (w.heap.size + 1, 4, .slice A1 cf1.len C1), (w.heap.size + 1, 5, .slice B1 f1.len D1)]) (by assumption) hb3))
  clear x0 x1 x2 x3 x4 x5 x6 x7 x8 x9 x10 x11 x12
  clear H
  have H := Lib.hid T3
  clear hb3 T3
  obtain ⟨x0, x1, x2, x3, x4, x5, x6, x7, x8, x9, x10, x11, x12, _⟩ := H.out
  go_wp2_with fail
  refine (KT0.out _ H.out.1).mono ?_
  rintro e w4 ⟨Z4, Y4, rfl, M4, N4, hb4⟩
  have T := H.out.below hb4
  clear x0 x1 x2 x3 x4 x5 x6 x7 x8 x9 x10 x11 x12
  have T2 : St w [(w4.heap.size, 0, .int .i64 k0), (w4.heap.size, 1, .int .i64 n0), (w4.heap.size, 2, .int .i64 ck0), (w4.heap.size, 3, .int .i64 cn0), (w4.heap.size, 4, .slice Z4 cf0.len cf0.len), (w4.heap.size, 5, .slice Y4 f0.len f0.len), (w.heap.size, 0, .int .i64 k0), (w.heap.size, 1, .int .i64 n0), (w.heap.size, 2, .int .i64 ck0), (w.heap.size, 3, .int .i64 cn0), (w.heap.size, 4, .slice A0 cf0.len C0), (w.heap.size, 5, .slice B0 f0.len D0), (w.heap.size + 1, 0, .int .i64 k1), (w.heap.size + 1, 1, .int .i64 n1), (w.heap.size + 1, 2, .int .i64 ck1), (w.heap.size + 1, 3, .int .i64 cn1), (w.heap.size + 1, 4, .slice A1 cf1.len C1), (w.heap.size + 1, 5, .slice B1 f1.len D1)] (w4.alloc (.cells #[.int .i64 k0, .int .i64 n0, .int .i64 ck0, .int .i64 cn0, .slice Z4 cf0.len cf0.len, .slice Y4 f0.len f0.len] 50)) := ⟨T.1.alloc _, (by simp [go_sem]), (by simp [go_sem]), (by simp [go_sem]), (by simp [go_sem]), (by simp [go_sem]), (by simp [go_sem]), T.2.alloc _⟩
  have G5 : cf0.Lies (w4.alloc (.cells #[.int .i64 k0, .int .i64 n0, .int .i64 ck0, .int .i64 cn0, .slice Z4 cf0.len cf0.len, .slice Y4 f0.len f0.len] 50)) Z4 := M4.alloc _
  have G6 : f0.Lies (w4.alloc (.cells #[.int .i64 k0, .int .i64 n0, .int .i64 ck0, .int .i64 cn0, .slice Z4 cf0.len cf0.len, .slice Y4 f0.len f0.len] 50)) Y4 := N4.alloc _
  clear H T hb4 M4 N4
  have H := Lib.hid T2; clear T2
  obtain ⟨x0, x1, x2, x3, x4, x5, x6, x7, x8, x9, x10, x11, x12, x13, x14, x15, x16, x17, x18, _⟩ := H.out
  go_wp2_with fail
  refine (KT1.out _ H.out.1).mono ?_
  rintro e w7 ⟨Z7, Y7, rfl, M7, N7, hb7⟩
  have T := H.out.below hb7
  clear x0 x1 x2 x3 x4 x5 x6 x7 x8 x9 x10 x11 x12 x13 x14 x15 x16 x17 x18
  have T2 : St w [(w7.heap.size, 0, .int .i64 k1), (w7.heap.size, 1, .int .i64 n1), (w7.heap.size, 2, .int .i64 ck1), (w7.heap.size, 3, .int .i64 cn1), (w7.heap.size, 4, .slice Z7 cf1.len cf1.len), (w7.heap.size, 5, .slice Y7 f1.len f1.len), (w4.heap.size, 0, .int .i64 k0), (w4.heap.size, 1, .int .i64 n0), (w4.heap.size, 2, .int .i64 ck0), (w4.heap.size, 3, .int .i64 cn0), (w4.heap.size, 4, .slice Z4 cf0.len cf0.len), (w4.heap.size, 5, .slice Y4 f0.len f0.len), (w.heap.size, 0, .int .i64 k0), (w.heap.size, 1, .int .i64 n0), (w.heap.size, 2, .int .i64 ck0), (w.heap.size, 3, .int .i64 cn0), (w.heap.size, 4, .slice A0 cf0.len C0), (w.heap.size, 5, .slice B0 f0.len D0), (w.heap.size + 1, 0, .int .i64 k1), (w.heap.size + 1, 1, .int .i64 n1), (w.heap.size + 1, 2, .int .i64 ck1), (w.heap.size + 1, 3, .int .i64 cn1), (w.heap.size + 1, 4, .slice A1 cf1.len C1), (w.heap.size + 1, 5, .slice B1 f1.len D1)] (w7.alloc (.cells #[.int .i64 k1, .int .i64 n1, .int .i64 ck1, .int .i64 cn1, .slice Z7 cf1.len cf1.len, .slice Y7 f1.len f1.len] 50)) := ⟨T.1.alloc _, (by simp [go_sem]), (by simp [go_sem]), (by simp [go_sem]), (by simp [go_sem]), (by simp [go_sem]), (by simp [go_sem]), T.2.alloc _⟩
  have G8 : cf1.Lies (w7.alloc (.cells #[.int .i64 k1, .int .i64 n1, .int .i64 ck1, .int .i64 cn1, .slice Z7 cf1.len cf1.len, .slice Y7 f1.len f1.len] 50)) Z7 := M7.alloc _
  have G9 : f1.Lies (w7.alloc (.cells #[.int .i64 k1, .int .i64 n1, .int .i64 ck1, .int .i64 cn1, .slice Z7 cf1.len cf1.len, .slice Y7 f1.len f1.len] 50)) Y7 := N7.alloc _
  have G10 : cf0.Lies w7 Z4 := by first | exact G5.below hb7 | exact G5.dbelow hb7
  have G11 : cf0.Lies (w7.alloc (.cells #[.int .i64 k1, .int .i64 n1, .int .i64 ck1, .int .i64 cn1, .slice Z7 cf1.len cf1.len, .slice Y7 f1.len f1.len] 50)) Z4 := G10.alloc _
  have G12 : f0.Lies w7 Y4 := by first | exact G6.below hb7 | exact G6.dbelow hb7
  have G13 : f0.Lies (w7.alloc (.cells #[.int .i64 k1, .int .i64 n1, .int .i64 ck1, .int .i64 cn1, .slice Z7 cf1.len cf1.len, .slice Y7 f1.len f1.len] 50)) Y4 := G12.alloc _
  clear H T hb7 M7 N7
  have H := Lib.hid T2; clear T2
  obtain ⟨x0, x1, x2, x3, x4, x5, x6, x7, x8, x9, x10, x11, x12, x13, x14, x15, x16, x17, x18, x19, x20, x21, x22, x23, x24, _⟩ := H.out
  go_wp2_with fail
  refine (KG2.out _ _ _ _ _ ?_ ?_ ?_ ?_ ).mono ?_
  · (first | exact G11 | exact G11.drew | exact G11.drew.drew)
  · (first | exact G13 | exact G13.drew | exact G13.drew.drew)
  · (first | exact G8 | exact G8.drew | exact G8.drew.drew)
  · (first | exact G9 | exact G9.drew | exact G9.drew.drew)
  rintro e w14 ⟨rfl, hb14⟩
  have T14 := H.out.below hb14
  clear x0 x1 x2 x3 x4 x5 x6 x7 x8 x9 x10 x11 x12 x13 x14 x15 x16 x17 x18 x19 x20 x21 x22 x23 x24
  clear H
  have H := Lib.hid T14
  have G15 : cf0.Lies w14 Z4 := by first | exact G11.below hb14 | exact G11.dbelow hb14
  have G16 : f0.Lies w14 Y4 := by first | exact G13.below hb14 | exact G13.dbelow hb14
  have G17 : cf1.Lies w14 Z7 := by first | exact G8.below hb14 | exact G8.dbelow hb14
  have G18 : f1.Lies w14 Y7 := by first | exact G9.below hb14 | exact G9.dbelow hb14
  clear T14 hb14
  have ne_q0 : (q0 != q0) = false := by simp
  obtain ⟨x0, x1, x2, x3, x4, x5, x6, x7, x8, x9, x10, x11, x12, x13, x14, x15, x16, x17, x18, x19, x20, x21, x22, x23, x24, _⟩ := H.out
  go_wp2_with fail
  go_region_held3 (fun w' => Sees w w' ∧ w'.cell? ⟨w7.heap.size, 0, none⟩ = some (.int .i64 k1) ∧ w'.cell? ⟨w7.heap.size, 1, none⟩ = some (.int .i64 n1) ∧ w'.cell? ⟨w7.heap.size, 2, none⟩ = some (.int .i64 ck1) ∧ w'.cell? ⟨w7.heap.size, 3, none⟩ = some (.int .i64 cn1) ∧ w'.cell? ⟨w7.heap.size, 4, none⟩ = some (.slice Z7 cf1.len cf1.len) ∧ w'.cell? ⟨w7.heap.size, 5, none⟩ = some (.slice Y7 f1.len f1.len) ∧ w'.cell? ⟨w4.heap.size, 0, none⟩ = some (.int .i64 k0) ∧ w'.cell? ⟨w4.heap.size, 1, none⟩ = some (.int .i64 n0) ∧ w'.cell? ⟨w4.heap.size, 2, none⟩ = some (.int .i64 ck0) ∧ w'.cell? ⟨w4.heap.size, 3, none⟩ = some (.int .i64 cn0) ∧ w'.cell? ⟨w4.heap.size, 4, none⟩ = some (.slice Z4 cf0.len cf0.len) ∧ w'.cell? ⟨w4.heap.size, 5, none⟩ = some (.slice Y4 f0.len f0.len) ∧ w'.cell? ⟨w.heap.size, 0, none⟩ = some (.int .i64 k0) ∧ w'.cell? ⟨w.heap.size, 1, none⟩ = some (.int .i64 n0) ∧ w'.cell? ⟨w.heap.size, 2, none⟩ = some (.int .i64 ck0) ∧ w'.cell? ⟨w.heap.size, 3, none⟩ = some (.int .i64 cn0) ∧ w'.cell? ⟨w.heap.size, 4, none⟩ = some (.slice A0 cf0.len C0) ∧ w'.cell? ⟨w.heap.size, 5, none⟩ = some (.slice B0 f0.len D0) ∧ w'.cell? ⟨w.heap.size + 1, 0, none⟩ = some (.int .i64 k1) ∧ w'.cell? ⟨w.heap.size + 1, 1, none⟩ = some (.int .i64 n1) ∧ w'.cell? ⟨w.heap.size + 1, 2, none⟩ = some (.int .i64 ck1) ∧ w'.cell? ⟨w.heap.size + 1, 3, none⟩ = some (.int .i64 cn1) ∧ w'.cell? ⟨w.heap.size + 1, 4, none⟩ = some (.slice A1 cf1.len C1) ∧ w'.cell? ⟨w.heap.size + 1, 5, none⟩ = some (.slice B1 f1.len D1) ∧ True)
    (first | exact H.out.drew | exact T20 | exact T19 | (go_keep; done))
    (first | (go_at_call 22; (with_reducible refine (KT0.out _ ?_).mono ?_); exact St.sees (l := [(w7.heap.size, 0, .int .i64 k1), (w7.heap.size, 1, .int .i64 n1), (w7.heap.size, 2, .int .i64 ck1), (w7.heap.size, 3, .int .i64 cn1), (w7.heap.size, 4, .slice Z7 cf1.len cf1.len), (w7.heap.size, 5, .slice Y7 f1.len f1.len), (w4.heap.size, 0, .int .i64 k0), (w4.heap.size, 1, .int .i64 n0), (w4.heap.size, 2, .int .i64 ck0), (w4.heap.size, 3, .int .i64 cn0), (w4.heap.size, 4, .slice Z4 cf0.len cf0.len), (w4.heap.size, 5, .slice Y4 f0.len f0.len), (w.heap.size, 0, .int .i64 k0), (w.heap.size, 1, .int .i64 n0), (w.heap.size, 2, .int .i64 ck0), (w.heap.size, 3, .int .i64 cn0), (w.heap.size, 4, .slice A0 cf0.len C0), (w.heap.size, 5, .slice B0 f0.len D0), (w.heap.size + 1, 0, .int .i64 k1), (w.heap.size + 1, 1, .int .i64 n1), (w.heap.size + 1, 2, .int .i64 ck1), (w.heap.size + 1, 3, .int .i64 cn1), (w.heap.size + 1, 4, .slice A1 cf1.len C1), (w.heap.size + 1, 5, .slice B1 f1.len D1)]) (by assumption); rintro e w19 ⟨Z19, Y19, rfl, M19, N19, hb19⟩; have T19 := St.below (l := [(w7.heap.size, 0, .int .i64 k1), (w7.heap.size, 1, .int .i64 n1), (w7.heap.size, 2, .int .i64 ck1), (w7.heap.size, 3, .int .i64 cn1), (w7.heap.size, 4, .slice Z7 cf1.len cf1.len), (w7.heap.size, 5, .slice Y7 f1.len f1.len), (w4.heap.size, 0, .int .i64 k0), (w4.heap.size, 1, .int .i64 n0), (w4.heap.size, 2, .int .i64 ck0), (w4.heap.size, 3, .int .i64 cn0), (w4.heap.size, 4, .slice Z4 cf0.len cf0.len), (w4.heap.size, 5, .slice Y4 f0.len f0.len), (w.heap.size, 0, .int .i64 k0), (w.heap.size, 1, .int .i64 n0), (w.heap.size, 2, .int .i64 ck0), (w.heap.size, 3, .int .i64 cn0), (w.heap.size, 4, .slice A0 cf0.len C0), (w.heap.size, 5, .slice B0 f0.len D0), (w.heap.size + 1, 0, .int .i64 k1), (w.heap.size + 1, 1, .int .i64 n1), (w.heap.size + 1, 2, .int .i64 ck1), (w.heap.size + 1, 3, .int .i64 cn1), (w.heap.size + 1, 4, .slice A1 cf1.len C1), (w.heap.size + 1, 5, .slice B1 f1.len D1)]) (by assumption) hb19) | (go_at_call 24; refine (KE0.out _ _ _ _ _ ?_ ?_ ?_ ?_ ).mono ?_; (first | exact G15 | exact G15.drew | exact G15.drew.drew | exact G15.below hb19 | exact G15.dbelow hb19 | exact (G15.below hb19).drew | exact (G15.dbelow hb19).drew); (first | exact G16 | exact G16.drew | exact G16.drew.drew | exact G16.below hb19 | exact G16.dbelow hb19 | exact (G16.below hb19).drew | exact (G16.dbelow hb19).drew); (first | exact M19 | exact M19.drew | exact M19.drew.drew); (first | exact N19 | exact N19.drew | exact N19.drew.drew); rintro e w20 ⟨rfl, hb20⟩; have T20 := St.below (l := [(w7.heap.size, 0, .int .i64 k1), (w7.heap.size, 1, .int .i64 n1), (w7.heap.size, 2, .int .i64 ck1), (w7.heap.size, 3, .int .i64 cn1), (w7.heap.size, 4, .slice Z7 cf1.len cf1.len), (w7.heap.size, 5, .slice Y7 f1.len f1.len), (w4.heap.size, 0, .int .i64 k0), (w4.heap.size, 1, .int .i64 n0), (w4.heap.size, 2, .int .i64 ck0), (w4.heap.size, 3, .int .i64 cn0), (w4.heap.size, 4, .slice Z4 cf0.len cf0.len), (w4.heap.size, 5, .slice Y4 f0.len f0.len), (w.heap.size, 0, .int .i64 k0), (w.heap.size, 1, .int .i64 n0), (w.heap.size, 2, .int .i64 ck0), (w.heap.size, 3, .int .i64 cn0), (w.heap.size, 4, .slice A0 cf0.len C0), (w.heap.size, 5, .slice B0 f0.len D0), (w.heap.size + 1, 0, .int .i64 k1), (w.heap.size + 1, 1, .int .i64 n1), (w.heap.size + 1, 2, .int .i64 ck1), (w.heap.size + 1, 3, .int .i64 cn1), (w.heap.size + 1, 4, .slice A1 cf1.len C1), (w.heap.size + 1, 5, .slice B1 f1.len D1)]) (by assumption) hb20))
  clear x0 x1 x2 x3 x4 x5 x6 x7 x8 x9 x10 x11 x12 x13 x14 x15 x16 x17 x18 x19 x20 x21 x22 x23 x24
  clear H
  have H := Lib.hid T20
  have G21 : cf0.Lies w19 Z4 := by first | exact G15.below hb19 | exact G15.dbelow hb19
  have G22 : cf0.Lies w20 Z4 := by first | exact G21.below hb20 | exact G21.dbelow hb20
  have G23 : f0.Lies w19 Y4 := by first | exact G16.below hb19 | exact G16.dbelow hb19
  have G24 : f0.Lies w20 Y4 := by first | exact G23.below hb20 | exact G23.dbelow hb20
  have G25 : cf1.Lies w19 Z7 := by first | exact G17.below hb19 | exact G17.dbelow hb19
  have G26 : cf1.Lies w20 Z7 := by first | exact G25.below hb20 | exact G25.dbelow hb20
  have G27 : f1.Lies w19 Y7 := by first | exact G18.below hb19 | exact G18.dbelow hb19
  have G28 : f1.Lies w20 Y7 := by first | exact G27.below hb20 | exact G27.dbelow hb20
  clear T20 T19 hb19 hb20 M19 N19
  obtain ⟨x0, x1, x2, x3, x4, x5, x6, x7, x8, x9, x10, x11, x12, x13, x14, x15, x16, x17, x18, x19, x20, x21, x22, x23, x24, _⟩ := H.out
  go_wp2_with fail
  go_region_held3 (fun w' => Sees w w' ∧ w'.cell? ⟨w7.heap.size, 0, none⟩ = some (.int .i64 k1) ∧ w'.cell? ⟨w7.heap.size, 1, none⟩ = some (.int .i64 n1) ∧ w'.cell? ⟨w7.heap.size, 2, none⟩ = some (.int .i64 ck1) ∧ w'.cell? ⟨w7.heap.size, 3, none⟩ = some (.int .i64 cn1) ∧ w'.cell? ⟨w7.heap.size, 4, none⟩ = some (.slice Z7 cf1.len cf1.len) ∧ w'.cell? ⟨w7.heap.size, 5, none⟩ = some (.slice Y7 f1.len f1.len) ∧ w'.cell? ⟨w4.heap.size, 0, none⟩ = some (.int .i64 k0) ∧ w'.cell? ⟨w4.heap.size, 1, none⟩ = some (.int .i64 n0) ∧ w'.cell? ⟨w4.heap.size, 2, none⟩ = some (.int .i64 ck0) ∧ w'.cell? ⟨w4.heap.size, 3, none⟩ = some (.int .i64 cn0) ∧ w'.cell? ⟨w4.heap.size, 4, none⟩ = some (.slice Z4 cf0.len cf0.len) ∧ w'.cell? ⟨w4.heap.size, 5, none⟩ = some (.slice Y4 f0.len f0.len) ∧ w'.cell? ⟨w.heap.size, 0, none⟩ = some (.int .i64 k0) ∧ w'.cell? ⟨w.heap.size, 1, none⟩ = some (.int .i64 n0) ∧ w'.cell? ⟨w.heap.size, 2, none⟩ = some (.int .i64 ck0) ∧ w'.cell? ⟨w.heap.size, 3, none⟩ = some (.int .i64 cn0) ∧ w'.cell? ⟨w.heap.size, 4, none⟩ = some (.slice A0 cf0.len C0) ∧ w'.cell? ⟨w.heap.size, 5, none⟩ = some (.slice B0 f0.len D0) ∧ w'.cell? ⟨w.heap.size + 1, 0, none⟩ = some (.int .i64 k1) ∧ w'.cell? ⟨w.heap.size + 1, 1, none⟩ = some (.int .i64 n1) ∧ w'.cell? ⟨w.heap.size + 1, 2, none⟩ = some (.int .i64 ck1) ∧ w'.cell? ⟨w.heap.size + 1, 3, none⟩ = some (.int .i64 cn1) ∧ w'.cell? ⟨w.heap.size + 1, 4, none⟩ = some (.slice A1 cf1.len C1) ∧ w'.cell? ⟨w.heap.size + 1, 5, none⟩ = some (.slice B1 f1.len D1) ∧ True)
    (first | exact H.out.drew | exact T30 | exact T29 | (go_keep; done))
    (first | (go_at_call 22; (with_reducible refine (KT1.out _ ?_).mono ?_); exact St.sees (l := [(w7.heap.size, 0, .int .i64 k1), (w7.heap.size, 1, .int .i64 n1), (w7.heap.size, 2, .int .i64 ck1), (w7.heap.size, 3, .int .i64 cn1), (w7.heap.size, 4, .slice Z7 cf1.len cf1.len), (w7.heap.size, 5, .slice Y7 f1.len f1.len), (w4.heap.size, 0, .int .i64 k0), (w4.heap.size, 1, .int .i64 n0), (w4.heap.size, 2, .int .i64 ck0), (w4.heap.size, 3, .int .i64 cn0), (w4.heap.size, 4, .slice Z4 cf0.len cf0.len), (w4.heap.size, 5, .slice Y4 f0.len f0.len), (w.heap.size, 0, .int .i64 k0), (w.heap.size, 1, .int .i64 n0), (w.heap.size, 2, .int .i64 ck0), (w.heap.size, 3, .int .i64 cn0), (w.heap.size, 4, .slice A0 cf0.len C0), (w.heap.size, 5, .slice B0 f0.len D0), (w.heap.size + 1, 0, .int .i64 k1), (w.heap.size + 1, 1, .int .i64 n1), (w.heap.size + 1, 2, .int .i64 ck1), (w.heap.size + 1, 3, .int .i64 cn1), (w.heap.size + 1, 4, .slice A1 cf1.len C1), (w.heap.size + 1, 5, .slice B1 f1.len D1)]) (by assumption); rintro e w29 ⟨Z29, Y29, rfl, M29, N29, hb29⟩; have T29 := St.below (l := [(w7.heap.size, 0, .int .i64 k1), (w7.heap.size, 1, .int .i64 n1), (w7.heap.size, 2, .int .i64 ck1), (w7.heap.size, 3, .int .i64 cn1), (w7.heap.size, 4, .slice Z7 cf1.len cf1.len), (w7.heap.size, 5, .slice Y7 f1.len f1.len), (w4.heap.size, 0, .int .i64 k0), (w4.heap.size, 1, .int .i64 n0), (w4.heap.size, 2, .int .i64 ck0), (w4.heap.size, 3, .int .i64 cn0), (w4.heap.size, 4, .slice Z4 cf0.len cf0.len), (w4.heap.size, 5, .slice Y4 f0.len f0.len), (w.heap.size, 0, .int .i64 k0), (w.heap.size, 1, .int .i64 n0), (w.heap.size, 2, .int .i64 ck0), (w.heap.size, 3, .int .i64 cn0), (w.heap.size, 4, .slice A0 cf0.len C0), (w.heap.size, 5, .slice B0 f0.len D0), (w.heap.size + 1, 0, .int .i64 k1), (w.heap.size + 1, 1, .int .i64 n1), (w.heap.size + 1, 2, .int .i64 ck1), (w.heap.size + 1, 3, .int .i64 cn1), (w.heap.size + 1, 4, .slice A1 cf1.len C1), (w.heap.size + 1, 5, .slice B1 f1.len D1)]) (by assumption) hb29) | (go_at_call 24; refine (KE1.out _ _ _ _ _ ?_ ?_ ?_ ?_ ).mono ?_; (first | exact G26 | exact G26.drew | exact G26.drew.drew | exact G26.below hb29 | exact G26.dbelow hb29 | exact (G26.below hb29).drew | exact (G26.dbelow hb29).drew); (first | exact G28 | exact G28.drew | exact G28.drew.drew | exact G28.below hb29 | exact G28.dbelow hb29 | exact (G28.below hb29).drew | exact (G28.dbelow hb29).drew); (first | exact M29 | exact M29.drew | exact M29.drew.drew); (first | exact N29 | exact N29.drew | exact N29.drew.drew); rintro e w30 ⟨rfl, hb30⟩; have T30 := St.below (l := [(w7.heap.size, 0, .int .i64 k1), (w7.heap.size, 1, .int .i64 n1), (w7.heap.size, 2, .int .i64 ck1), (w7.heap.size, 3, .int .i64 cn1), (w7.heap.size, 4, .slice Z7 cf1.len cf1.len), (w7.heap.size, 5, .slice Y7 f1.len f1.len), (w4.heap.size, 0, .int .i64 k0), (w4.heap.size, 1, .int .i64 n0), (w4.heap.size, 2, .int .i64 ck0), (w4.heap.size, 3, .int .i64 cn0), (w4.heap.size, 4, .slice Z4 cf0.len cf0.len), (w4.heap.size, 5, .slice Y4 f0.len f0.len), (w.heap.size, 0, .int .i64 k0), (w.heap.size, 1, .int .i64 n0), (w.heap.size, 2, .int .i64 ck0), (w.heap.size, 3, .int .i64 cn0), (w.heap.size, 4, .slice A0 cf0.len C0), (w.heap.size, 5, .slice B0 f0.len D0), (w.heap.size + 1, 0, .int .i64 k1), (w.heap.size + 1, 1, .int .i64 n1), (w.heap.size + 1, 2, .int .i64 ck1), (w.heap.size + 1, 3, .int .i64 cn1), (w.heap.size + 1, 4, .slice A1 cf1.len C1), (w.heap.size + 1, 5, .slice B1 f1.len D1)]) (by assumption) hb30))
  clear x0 x1 x2 x3 x4 x5 x6 x7 x8 x9 x10 x11 x12 x13 x14 x15 x16 x17 x18 x19 x20 x21 x22 x23 x24
  clear H
  have H := Lib.hid T30
  have G31 : cf0.Lies w29 Z4 := by first | exact G22.below hb29 | exact G22.dbelow hb29
  have G32 : cf0.Lies w30 Z4 := by first | exact G31.below hb30 | exact G31.dbelow hb30
  have G33 : f0.Lies w29 Y4 := by first | exact G24.below hb29 | exact G24.dbelow hb29
  have G34 : f0.Lies w30 Y4 := by first | exact G33.below hb30 | exact G33.dbelow hb30
  have G35 : cf1.Lies w29 Z7 := by first | exact G26.below hb29 | exact G26.dbelow hb29
  have G36 : cf1.Lies w30 Z7 := by first | exact G35.below hb30 | exact G35.dbelow hb30
  have G37 : f1.Lies w29 Y7 := by first | exact G28.below hb29 | exact G28.dbelow hb29
  have G38 : f1.Lies w30 Y7 := by first | exact G37.below hb30 | exact G37.dbelow hb30
  clear T30 T29 hb29 hb30 M29 N29
  go_wp2_with fail
  go_ret
  exact ⟨rfl, H.out.1⟩

end Go.Proofs.Ytlfafcbieeambaa
