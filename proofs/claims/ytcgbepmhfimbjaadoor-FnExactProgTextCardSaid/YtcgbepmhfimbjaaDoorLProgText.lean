/- The law FnExactProgText, walked, out of the contracts of both sides. -/
import Derived.Test.YtcgbepmhfimbjaaDoorSz
import Derived.Test.YtcgbepmhfimbjaaDoorTo
import Derived.Test.YtcgbepmhfimbjaaDoorEq
import Derived.Test.YtcgbepmhfimbjaaDoorPgS
import Derived.Test.YtcgbepmhfimbjaaDoorPgT
import Derived.Test.YtcgbepmhfimbjaaDoorPgE
import Derived.Deep.RegionHeld3
namespace Go.Proofs.YtcgbepmhfimbjaaDoor
open Go.RowKit

set_option maxHeartbeats 2000000 in
set_option maxRecDepth 100000 in
theorem lawProgText (t0 a0 : Int) (k1 n1 ck1 cn1 : Int) (cf1 : Fo) (f1 : Pg) (A1 B1 : Option Addr) (C1 D1 : Nat) {q0 : ByteArray} (w : World)
    (KW : Hid (cf1.nodes + f1.nodes ≤ 1048576 → ∀ (W : World) (Z1 Y1 : Option Addr), cf1.Lies W Z1 → f1.Lies W Y1 → Calls Tryd.prog 15 #[.agg #[.int .i64 t0, .int .i64 a0], .agg #[.int .i64 k1, .int .i64 n1, .int .i64 ck1, .int .i64 cn1, .slice Z1 cf1.len cf1.len, .slice Y1 f1.len f1.len]] W fun e w' => e = .returned (.string q0) ∧ Below W.heap.size W w'))
    (KG : Hid (cf1.nodes + f1.nodes ≤ 1048576 → ∀ (W : World) (Z1 Y1 : Option Addr), Sees w W → cf1.Lies W Z1 → f1.Lies W Y1 → Calls Tryd.prog 16 #[.agg #[.int .i64 t0, .int .i64 a0], .agg #[.int .i64 k1, .int .i64 n1, .int .i64 ck1, .int .i64 cn1, .slice Z1 cf1.len cf1.len, .slice Y1 f1.len f1.len]] W fun e w' => e = .returned (.string q0) ∧ Below W.heap.size W w'))
    (hm1 : Hid (cf1.len ≤ 9223372036854775807 ∧ f1.len ≤ 9223372036854775807)) (hc1 : cf1.Fits) (hf1 : f1.Fits) (hl1 : cf1.Lies w A1) (hr1 : f1.Lies w B1) :
    Calls Tryd.prog 4 #[.agg #[.int .i64 t0, .int .i64 a0], .agg #[.int .i64 k1, .int .i64 n1, .int .i64 ck1, .int .i64 cn1, .slice A1 cf1.len C1, .slice B1 f1.len D1]] w fun e w' => e = .returned (.bool true) ∧ Below w.heap.size w w' := by
  by_cases hbig1 : 1048576 < ((cf1.nodes + f1.nodes) : Nat)
  · have hs : szR (cf1.nodes + f1.nodes) 1048576 = -1 := szR_neg (by omega)
    have KS1 : Hid (∀ W : World, Sees w W → Calls Tryd.prog 5 #[.agg #[.int .i64 k1, .int .i64 n1, .int .i64 ck1, .int .i64 cn1, .slice A1 cf1.len C1, .slice B1 f1.len D1], .int .i64 1048576] W fun e w' => e = .returned (.int .i64 (-1)) ∧ Below W.heap.size W w') := fun W h => by rw [← hs]; exact szProg_any cf1 f1 hm1.out.1 hc1 hm1.out.2 hf1 k1 n1 ck1 cn1 1048576 A1 B1 C1 D1 W (hl1.sees h) (hr1.sees h) (by omega) (by omega)
    clear hs
    go_enter Tryd.func4, Tryd.ntmps4
    go_wp2_with fail
    refine (KS1.out _ ?_).mono ?_
    · unfold Sees; go_grown
    rintro e wz0 ⟨rfl, hb⟩
    have T := St.below (w := w) (l := [(w.heap.size, 0, .int .i64 t0), (w.heap.size, 1, .int .i64 a0), (w.heap.size + 1, 0, .int .i64 k1), (w.heap.size + 1, 1, .int .i64 n1), (w.heap.size + 1, 2, .int .i64 ck1), (w.heap.size + 1, 3, .int .i64 cn1), (w.heap.size + 1, 4, .slice A1 cf1.len C1), (w.heap.size + 1, 5, .slice B1 f1.len D1)]) ⟨(by unfold Sees; go_grown), (by simp [go_sem]), (by simp [go_sem]), (by simp [go_sem]), (by simp [go_sem]), (by simp [go_sem]), (by simp [go_sem]), (by simp [go_sem]), (by simp [go_sem]), trivial⟩ hb
    have H := Lib.hid T; clear T hb
    obtain ⟨x0, x1, x2, x3, x4, x5, x6, x7, x8, _⟩ := H.out
    go_wp2_with fail
    clear x0 x1 x2 x3 x4 x5 x6 x7 x8
    go_ret
    exact ⟨rfl, H.out.1⟩
  obtain ⟨s1, hs, hz1, hy1⟩ : ∃ s : Int, s = szR (cf1.nodes + f1.nodes) 1048576 ∧ 0 ≤ s ∧ s ≤ 1048576 := ⟨_, rfl, by rw [szR_pos (by omega)]; omega, by rw [szR_pos (by omega)]; omega⟩
  have KS1 : Hid (∀ W : World, Sees w W → Calls Tryd.prog 5 #[.agg #[.int .i64 k1, .int .i64 n1, .int .i64 ck1, .int .i64 cn1, .slice A1 cf1.len C1, .slice B1 f1.len D1], .int .i64 1048576] W fun e w' => e = .returned (.int .i64 s1) ∧ Below W.heap.size W w') := fun W h => by rw [hs]; exact szProg_any cf1 f1 hm1.out.1 hc1 hm1.out.2 hf1 k1 n1 ck1 cn1 1048576 A1 B1 C1 D1 W (hl1.sees h) (hr1.sees h) (by omega) (by omega)
  clear hs
  have hsmall : cf1.nodes + f1.nodes ≤ 1048576 := by (first | trivial | omega | (refine ⟨?_, ?_⟩ <;> omega))
  have KT0 : Hid (∀ W : World, Sees w W → Calls Tryd.prog 7 #[.agg #[.int .i64 t0, .int .i64 a0]] W fun e w' => e = .returned (.agg #[.int .i64 t0, .int .i64 a0]) ∧ Below W.heap.size W w') := fun W h => toSig_any t0 a0 W
  have KT1 : Hid (∀ W : World, Sees w W → Calls Tryd.prog 8 #[.agg #[.int .i64 k1, .int .i64 n1, .int .i64 ck1, .int .i64 cn1, .slice A1 cf1.len C1, .slice B1 f1.len D1]] W fun e w' => ∃ Z Y, e = .returned (.agg #[.int .i64 k1, .int .i64 n1, .int .i64 ck1, .int .i64 cn1, .slice Z cf1.len cf1.len, .slice Y f1.len f1.len]) ∧ cf1.Lies w' Z ∧ f1.Lies w' Y ∧ Below W.heap.size W w') :=
    fun W h => (toProg_any cf1 f1 (by omega) k1 n1 ck1 cn1 A1 B1 C1 D1 W (hl1.sees h) (hr1.sees h)).mono fun e w' ⟨Z, Y, he, h1, h2, hb⟩ => ⟨Z, Y, he, h1.lies, h2.lies, hb⟩
  have KE1 : Hid (∀ (W : World) (Z Y Z' Y' : Option Addr), cf1.Lies W Z → f1.Lies W Y → cf1.Lies W Z' → f1.Lies W Y' → Calls Tryd.prog 11 #[.agg #[.int .i64 k1, .int .i64 n1, .int .i64 ck1, .int .i64 cn1, .slice Z cf1.len cf1.len, .slice Y f1.len f1.len], .agg #[.int .i64 k1, .int .i64 n1, .int .i64 ck1, .int .i64 cn1, .slice Z' cf1.len cf1.len, .slice Y' f1.len f1.len]] W fun e w' => e = .returned (.bool true) ∧ Below W.heap.size W w') :=
    fun W Z Y Z' Y' h1 h2 h3 h4 => eqProg_same cf1 f1 hm1.out.1 hc1 hm1.out.2 hf1 k1 n1 ck1 cn1 _ _ _ _ _ _ _ _ W h1 h2 h3 h4
  have KW2 := Lib.hid (KW.out hsmall); clear KW
  have KG2 := Lib.hid (KG.out hsmall); clear KG hsmall
  go_enter Tryd.func4, Tryd.ntmps4
  go_wp2_with fail
  refine (KS1.out _ ?_).mono ?_
  · unfold Sees; go_grown
  rintro e wz0 ⟨rfl, hb⟩
  have T := St.below (w := w) (l := [(w.heap.size, 0, .int .i64 t0), (w.heap.size, 1, .int .i64 a0), (w.heap.size + 1, 0, .int .i64 k1), (w.heap.size + 1, 1, .int .i64 n1), (w.heap.size + 1, 2, .int .i64 ck1), (w.heap.size + 1, 3, .int .i64 cn1), (w.heap.size + 1, 4, .slice A1 cf1.len C1), (w.heap.size + 1, 5, .slice B1 f1.len D1)]) ⟨(by unfold Sees; go_grown), (by simp [go_sem]), (by simp [go_sem]), (by simp [go_sem]), (by simp [go_sem]), (by simp [go_sem]), (by simp [go_sem]), (by simp [go_sem]), (by simp [go_sem]), trivial⟩ hb
  have H := Lib.hid T; clear T hb
  obtain ⟨x0, x1, x2, x3, x4, x5, x6, x7, x8, _⟩ := H.out
  go_wp2_with fail
  clear x0 x1 x2 x3 x4 x5 x6 x7 x8
  obtain ⟨x0, x1, x2, x3, x4, x5, x6, x7, x8, _⟩ := H.out
  go_wp2_with fail
  go_region_held3 (fun w' => Sees w w' ∧ w'.cell? ⟨w.heap.size, 0, none⟩ = some (.int .i64 t0) ∧ w'.cell? ⟨w.heap.size, 1, none⟩ = some (.int .i64 a0) ∧ w'.cell? ⟨w.heap.size + 1, 0, none⟩ = some (.int .i64 k1) ∧ w'.cell? ⟨w.heap.size + 1, 1, none⟩ = some (.int .i64 n1) ∧ w'.cell? ⟨w.heap.size + 1, 2, none⟩ = some (.int .i64 ck1) ∧ w'.cell? ⟨w.heap.size + 1, 3, none⟩ = some (.int .i64 cn1) ∧ w'.cell? ⟨w.heap.size + 1, 4, none⟩ = some (.slice A1 cf1.len C1) ∧ w'.cell? ⟨w.heap.size + 1, 5, none⟩ = some (.slice B1 f1.len D1) ∧ True)
    (first | exact H.out.drew | exact T3 | exact T2 | exact T1 | (go_keep; done))
    (first | (go_at_call 7; (with_reducible refine (KT0.out _ ?_).mono ?_); exact St.sees (l := [(w.heap.size, 0, .int .i64 t0), (w.heap.size, 1, .int .i64 a0), (w.heap.size + 1, 0, .int .i64 k1), (w.heap.size + 1, 1, .int .i64 n1), (w.heap.size + 1, 2, .int .i64 ck1), (w.heap.size + 1, 3, .int .i64 cn1), (w.heap.size + 1, 4, .slice A1 cf1.len C1), (w.heap.size + 1, 5, .slice B1 f1.len D1)]) (by assumption); rintro e w1 ⟨rfl, hb1⟩; have T1 := St.below (l := [(w.heap.size, 0, .int .i64 t0), (w.heap.size, 1, .int .i64 a0), (w.heap.size + 1, 0, .int .i64 k1), (w.heap.size + 1, 1, .int .i64 n1), (w.heap.size + 1, 2, .int .i64 ck1), (w.heap.size + 1, 3, .int .i64 cn1), (w.heap.size + 1, 4, .slice A1 cf1.len C1), (w.heap.size + 1, 5, .slice B1 f1.len D1)]) (by assumption) hb1) | (go_at_call 8; (with_reducible refine (KT1.out _ ?_).mono ?_); exact St.sees (l := [(w.heap.size, 0, .int .i64 t0), (w.heap.size, 1, .int .i64 a0), (w.heap.size + 1, 0, .int .i64 k1), (w.heap.size + 1, 1, .int .i64 n1), (w.heap.size + 1, 2, .int .i64 ck1), (w.heap.size + 1, 3, .int .i64 cn1), (w.heap.size + 1, 4, .slice A1 cf1.len C1), (w.heap.size + 1, 5, .slice B1 f1.len D1)]) (by assumption); rintro e w2 ⟨Z2, Y2, rfl, M2, N2, hb2⟩; have T2 := St.below (l := [(w.heap.size, 0, .int .i64 t0), (w.heap.size, 1, .int .i64 a0), (w.heap.size + 1, 0, .int .i64 k1), (w.heap.size + 1, 1, .int .i64 n1), (w.heap.size + 1, 2, .int .i64 ck1), (w.heap.size + 1, 3, .int .i64 cn1), (w.heap.size + 1, 4, .slice A1 cf1.len C1), (w.heap.size + 1, 5, .slice B1 f1.len D1)]) (by assumption) hb2) | (go_at_call 15; refine (KW2.out _ _ _ ?_ ?_ ).mono ?_; (first | exact M2 | exact M2.drew | exact M2.drew.drew); (first | exact N2 | exact N2.drew | exact N2.drew.drew); rintro e w3 ⟨rfl, hb3⟩; have T3 := St.below (l := [(w.heap.size, 0, .int .i64 t0), (w.heap.size, 1, .int .i64 a0), (w.heap.size + 1, 0, .int .i64 k1), (w.heap.size + 1, 1, .int .i64 n1), (w.heap.size + 1, 2, .int .i64 ck1), (w.heap.size + 1, 3, .int .i64 cn1), (w.heap.size + 1, 4, .slice A1 cf1.len C1), (w.heap.size + 1, 5, .slice B1 f1.len D1)]) (by assumption) hb3))
  clear x0 x1 x2 x3 x4 x5 x6 x7 x8
  clear H
  have H := Lib.hid T3
  clear hb3 T3
  obtain ⟨x0, x1, x2, x3, x4, x5, x6, x7, x8, _⟩ := H.out
  go_wp2_with fail
  refine (KT1.out _ H.out.1).mono ?_
  rintro e w4 ⟨Z4, Y4, rfl, M4, N4, hb4⟩
  have T := H.out.below hb4
  clear x0 x1 x2 x3 x4 x5 x6 x7 x8
  have T2 : St w [(w4.heap.size, 0, .int .i64 k1), (w4.heap.size, 1, .int .i64 n1), (w4.heap.size, 2, .int .i64 ck1), (w4.heap.size, 3, .int .i64 cn1), (w4.heap.size, 4, .slice Z4 cf1.len cf1.len), (w4.heap.size, 5, .slice Y4 f1.len f1.len), (w.heap.size, 0, .int .i64 t0), (w.heap.size, 1, .int .i64 a0), (w.heap.size + 1, 0, .int .i64 k1), (w.heap.size + 1, 1, .int .i64 n1), (w.heap.size + 1, 2, .int .i64 ck1), (w.heap.size + 1, 3, .int .i64 cn1), (w.heap.size + 1, 4, .slice A1 cf1.len C1), (w.heap.size + 1, 5, .slice B1 f1.len D1)] (w4.alloc (.cells #[.int .i64 k1, .int .i64 n1, .int .i64 ck1, .int .i64 cn1, .slice Z4 cf1.len cf1.len, .slice Y4 f1.len f1.len] 40)) := ⟨T.1.alloc _, (by simp [go_sem]), (by simp [go_sem]), (by simp [go_sem]), (by simp [go_sem]), (by simp [go_sem]), (by simp [go_sem]), T.2.alloc _⟩
  have G5 : cf1.Lies (w4.alloc (.cells #[.int .i64 k1, .int .i64 n1, .int .i64 ck1, .int .i64 cn1, .slice Z4 cf1.len cf1.len, .slice Y4 f1.len f1.len] 40)) Z4 := M4.alloc _
  have G6 : f1.Lies (w4.alloc (.cells #[.int .i64 k1, .int .i64 n1, .int .i64 ck1, .int .i64 cn1, .slice Z4 cf1.len cf1.len, .slice Y4 f1.len f1.len] 40)) Y4 := N4.alloc _
  clear H T hb4 M4 N4
  have H := Lib.hid T2; clear T2
  obtain ⟨x0, x1, x2, x3, x4, x5, x6, x7, x8, x9, x10, x11, x12, x13, x14, _⟩ := H.out
  go_wp2_with fail
  go_region_held3 (fun w' => Sees w w' ∧ w'.cell? ⟨w4.heap.size, 0, none⟩ = some (.int .i64 k1) ∧ w'.cell? ⟨w4.heap.size, 1, none⟩ = some (.int .i64 n1) ∧ w'.cell? ⟨w4.heap.size, 2, none⟩ = some (.int .i64 ck1) ∧ w'.cell? ⟨w4.heap.size, 3, none⟩ = some (.int .i64 cn1) ∧ w'.cell? ⟨w4.heap.size, 4, none⟩ = some (.slice Z4 cf1.len cf1.len) ∧ w'.cell? ⟨w4.heap.size, 5, none⟩ = some (.slice Y4 f1.len f1.len) ∧ w'.cell? ⟨w.heap.size, 0, none⟩ = some (.int .i64 t0) ∧ w'.cell? ⟨w.heap.size, 1, none⟩ = some (.int .i64 a0) ∧ w'.cell? ⟨w.heap.size + 1, 0, none⟩ = some (.int .i64 k1) ∧ w'.cell? ⟨w.heap.size + 1, 1, none⟩ = some (.int .i64 n1) ∧ w'.cell? ⟨w.heap.size + 1, 2, none⟩ = some (.int .i64 ck1) ∧ w'.cell? ⟨w.heap.size + 1, 3, none⟩ = some (.int .i64 cn1) ∧ w'.cell? ⟨w.heap.size + 1, 4, none⟩ = some (.slice A1 cf1.len C1) ∧ w'.cell? ⟨w.heap.size + 1, 5, none⟩ = some (.slice B1 f1.len D1) ∧ True)
    (first | exact H.out.drew | exact T8 | exact T7 | (go_keep; done))
    (first | (go_at_call 7; (with_reducible refine (KT0.out _ ?_).mono ?_); exact St.sees (l := [(w4.heap.size, 0, .int .i64 k1), (w4.heap.size, 1, .int .i64 n1), (w4.heap.size, 2, .int .i64 ck1), (w4.heap.size, 3, .int .i64 cn1), (w4.heap.size, 4, .slice Z4 cf1.len cf1.len), (w4.heap.size, 5, .slice Y4 f1.len f1.len), (w.heap.size, 0, .int .i64 t0), (w.heap.size, 1, .int .i64 a0), (w.heap.size + 1, 0, .int .i64 k1), (w.heap.size + 1, 1, .int .i64 n1), (w.heap.size + 1, 2, .int .i64 ck1), (w.heap.size + 1, 3, .int .i64 cn1), (w.heap.size + 1, 4, .slice A1 cf1.len C1), (w.heap.size + 1, 5, .slice B1 f1.len D1)]) (by assumption); rintro e w7 ⟨rfl, hb7⟩; have T7 := St.below (l := [(w4.heap.size, 0, .int .i64 k1), (w4.heap.size, 1, .int .i64 n1), (w4.heap.size, 2, .int .i64 ck1), (w4.heap.size, 3, .int .i64 cn1), (w4.heap.size, 4, .slice Z4 cf1.len cf1.len), (w4.heap.size, 5, .slice Y4 f1.len f1.len), (w.heap.size, 0, .int .i64 t0), (w.heap.size, 1, .int .i64 a0), (w.heap.size + 1, 0, .int .i64 k1), (w.heap.size + 1, 1, .int .i64 n1), (w.heap.size + 1, 2, .int .i64 ck1), (w.heap.size + 1, 3, .int .i64 cn1), (w.heap.size + 1, 4, .slice A1 cf1.len C1), (w.heap.size + 1, 5, .slice B1 f1.len D1)]) (by assumption) hb7) | (go_at_call 16; refine (KG2.out _ _ _ ?_ ?_ ?_ ).mono ?_; exact St.sees (l := [(w4.heap.size, 0, .int .i64 k1), (w4.heap.size, 1, .int .i64 n1), (w4.heap.size, 2, .int .i64 ck1), (w4.heap.size, 3, .int .i64 cn1), (w4.heap.size, 4, .slice Z4 cf1.len cf1.len), (w4.heap.size, 5, .slice Y4 f1.len f1.len), (w.heap.size, 0, .int .i64 t0), (w.heap.size, 1, .int .i64 a0), (w.heap.size + 1, 0, .int .i64 k1), (w.heap.size + 1, 1, .int .i64 n1), (w.heap.size + 1, 2, .int .i64 ck1), (w.heap.size + 1, 3, .int .i64 cn1), (w.heap.size + 1, 4, .slice A1 cf1.len C1), (w.heap.size + 1, 5, .slice B1 f1.len D1)]) (by assumption); (first | exact G5 | exact G5.drew | exact G5.drew.drew | exact G5.below hb7 | exact G5.dbelow hb7 | exact (G5.below hb7).drew | exact (G5.dbelow hb7).drew); (first | exact G6 | exact G6.drew | exact G6.drew.drew | exact G6.below hb7 | exact G6.dbelow hb7 | exact (G6.below hb7).drew | exact (G6.dbelow hb7).drew); rintro e w8 ⟨rfl, hb8⟩; have T8 := St.below (l := [(w4.heap.size, 0, .int .i64 k1), (w4.heap.size, 1, .int .i64 n1), (w4.heap.size, 2, .int .i64 ck1), (w4.heap.size, 3, .int .i64 cn1), (w4.heap.size, 4, .slice Z4 cf1.len cf1.len), (w4.heap.size, 5, .slice Y4 f1.len f1.len), (w.heap.size, 0, .int .i64 t0), (w.heap.size, 1, .int .i64 a0), (w.heap.size + 1, 0, .int .i64 k1), (w.heap.size + 1, 1, .int .i64 n1), (w.heap.size + 1, 2, .int .i64 ck1), (w.heap.size + 1, 3, .int .i64 cn1), (w.heap.size + 1, 4, .slice A1 cf1.len C1), (w.heap.size + 1, 5, .slice B1 f1.len D1)]) (by assumption) hb8))
  clear x0 x1 x2 x3 x4 x5 x6 x7 x8 x9 x10 x11 x12 x13 x14
  clear H
  have H := Lib.hid T8
  have G9 : cf1.Lies w7 Z4 := by first | exact G5.below hb7 | exact G5.dbelow hb7
  have G10 : cf1.Lies w8 Z4 := by first | exact G9.below hb8 | exact G9.dbelow hb8
  have G11 : f1.Lies w7 Y4 := by first | exact G6.below hb7 | exact G6.dbelow hb7
  have G12 : f1.Lies w8 Y4 := by first | exact G11.below hb8 | exact G11.dbelow hb8
  clear T8 hb7 hb8
  have ne_q0 : (q0.toList == q0.toList) = true := by simp
  obtain ⟨x0, x1, x2, x3, x4, x5, x6, x7, x8, x9, x10, x11, x12, x13, x14, _⟩ := H.out
  go_wp2_with fail
  go_region_held3 (fun w' => Sees w w' ∧ w'.cell? ⟨w4.heap.size, 0, none⟩ = some (.int .i64 k1) ∧ w'.cell? ⟨w4.heap.size, 1, none⟩ = some (.int .i64 n1) ∧ w'.cell? ⟨w4.heap.size, 2, none⟩ = some (.int .i64 ck1) ∧ w'.cell? ⟨w4.heap.size, 3, none⟩ = some (.int .i64 cn1) ∧ w'.cell? ⟨w4.heap.size, 4, none⟩ = some (.slice Z4 cf1.len cf1.len) ∧ w'.cell? ⟨w4.heap.size, 5, none⟩ = some (.slice Y4 f1.len f1.len) ∧ w'.cell? ⟨w.heap.size, 0, none⟩ = some (.int .i64 t0) ∧ w'.cell? ⟨w.heap.size, 1, none⟩ = some (.int .i64 a0) ∧ w'.cell? ⟨w.heap.size + 1, 0, none⟩ = some (.int .i64 k1) ∧ w'.cell? ⟨w.heap.size + 1, 1, none⟩ = some (.int .i64 n1) ∧ w'.cell? ⟨w.heap.size + 1, 2, none⟩ = some (.int .i64 ck1) ∧ w'.cell? ⟨w.heap.size + 1, 3, none⟩ = some (.int .i64 cn1) ∧ w'.cell? ⟨w.heap.size + 1, 4, none⟩ = some (.slice A1 cf1.len C1) ∧ w'.cell? ⟨w.heap.size + 1, 5, none⟩ = some (.slice B1 f1.len D1) ∧ True)
    (first | exact H.out.drew | exact T14 | exact T13 | (go_keep; done))
    (first | (go_at_call 8; (with_reducible refine (KT1.out _ ?_).mono ?_); exact St.sees (l := [(w4.heap.size, 0, .int .i64 k1), (w4.heap.size, 1, .int .i64 n1), (w4.heap.size, 2, .int .i64 ck1), (w4.heap.size, 3, .int .i64 cn1), (w4.heap.size, 4, .slice Z4 cf1.len cf1.len), (w4.heap.size, 5, .slice Y4 f1.len f1.len), (w.heap.size, 0, .int .i64 t0), (w.heap.size, 1, .int .i64 a0), (w.heap.size + 1, 0, .int .i64 k1), (w.heap.size + 1, 1, .int .i64 n1), (w.heap.size + 1, 2, .int .i64 ck1), (w.heap.size + 1, 3, .int .i64 cn1), (w.heap.size + 1, 4, .slice A1 cf1.len C1), (w.heap.size + 1, 5, .slice B1 f1.len D1)]) (by assumption); rintro e w13 ⟨Z13, Y13, rfl, M13, N13, hb13⟩; have T13 := St.below (l := [(w4.heap.size, 0, .int .i64 k1), (w4.heap.size, 1, .int .i64 n1), (w4.heap.size, 2, .int .i64 ck1), (w4.heap.size, 3, .int .i64 cn1), (w4.heap.size, 4, .slice Z4 cf1.len cf1.len), (w4.heap.size, 5, .slice Y4 f1.len f1.len), (w.heap.size, 0, .int .i64 t0), (w.heap.size, 1, .int .i64 a0), (w.heap.size + 1, 0, .int .i64 k1), (w.heap.size + 1, 1, .int .i64 n1), (w.heap.size + 1, 2, .int .i64 ck1), (w.heap.size + 1, 3, .int .i64 cn1), (w.heap.size + 1, 4, .slice A1 cf1.len C1), (w.heap.size + 1, 5, .slice B1 f1.len D1)]) (by assumption) hb13) | (go_at_call 11; refine (KE1.out _ _ _ _ _ ?_ ?_ ?_ ?_ ).mono ?_; (first | exact G10 | exact G10.drew | exact G10.drew.drew | exact G10.below hb13 | exact G10.dbelow hb13 | exact (G10.below hb13).drew | exact (G10.dbelow hb13).drew); (first | exact G12 | exact G12.drew | exact G12.drew.drew | exact G12.below hb13 | exact G12.dbelow hb13 | exact (G12.below hb13).drew | exact (G12.dbelow hb13).drew); (first | exact M13 | exact M13.drew | exact M13.drew.drew); (first | exact N13 | exact N13.drew | exact N13.drew.drew); rintro e w14 ⟨rfl, hb14⟩; have T14 := St.below (l := [(w4.heap.size, 0, .int .i64 k1), (w4.heap.size, 1, .int .i64 n1), (w4.heap.size, 2, .int .i64 ck1), (w4.heap.size, 3, .int .i64 cn1), (w4.heap.size, 4, .slice Z4 cf1.len cf1.len), (w4.heap.size, 5, .slice Y4 f1.len f1.len), (w.heap.size, 0, .int .i64 t0), (w.heap.size, 1, .int .i64 a0), (w.heap.size + 1, 0, .int .i64 k1), (w.heap.size + 1, 1, .int .i64 n1), (w.heap.size + 1, 2, .int .i64 ck1), (w.heap.size + 1, 3, .int .i64 cn1), (w.heap.size + 1, 4, .slice A1 cf1.len C1), (w.heap.size + 1, 5, .slice B1 f1.len D1)]) (by assumption) hb14))
  clear x0 x1 x2 x3 x4 x5 x6 x7 x8 x9 x10 x11 x12 x13 x14
  clear H
  have H := Lib.hid T14
  have G15 : cf1.Lies w13 Z4 := by first | exact G10.below hb13 | exact G10.dbelow hb13
  have G16 : cf1.Lies w14 Z4 := by first | exact G15.below hb14 | exact G15.dbelow hb14
  have G17 : f1.Lies w13 Y4 := by first | exact G12.below hb13 | exact G12.dbelow hb13
  have G18 : f1.Lies w14 Y4 := by first | exact G17.below hb14 | exact G17.dbelow hb14
  clear T14 T13 hb13 hb14 M13 N13
  go_wp2_with fail
  go_ret
  exact ⟨rfl, H.out.1⟩

end Go.Proofs.YtcgbepmhfimbjaaDoor
