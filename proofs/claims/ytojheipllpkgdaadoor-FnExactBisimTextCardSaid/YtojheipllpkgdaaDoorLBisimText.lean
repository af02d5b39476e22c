/- The law FnExactBisimText, walked, out of the contracts of both sides. -/
import Derived.Test.YtojheipllpkgdaaDoorPpC
import Derived.Deep.RegionHeld3
import Derived.Deep.RegionWith
namespace Go.Proofs.YtojheipllpkgdaaDoor
open Go.RowKit
set_option linter.unusedVariables false

set_option maxHeartbeats 4000000 in
set_option maxRecDepth 100000 in
theorem lawBisimText (t0 : Int) (a0 : Int) (x1 : Pp) (Ax1 : Option Addr) (Cx1 : Nat) {q0 : ByteArray}
    (KW : Hid (x1.nodes ≤ 1048576 → ∀ (W : World) (Zx1 : Option Addr), x1.Lies W Zx1 → Calls Tryd.prog 26 #[.agg #[.int .i64 t0, .int .i64 a0], .slice Zx1 x1.len x1.len] W fun e w' => e = .returned (.string q0) ∧ Below W.heap.size W w'))
    (KG : Hid (x1.nodes ≤ 1048576 → ∀ (W : World) (Zx1 : Option Addr), x1.Lies W Zx1 → Calls Tryd.prog 28 #[.agg #[.int .i64 t0, .int .i64 a0], .slice Zx1 x1.len x1.len] W fun e w' => e = .returned (.string q0) ∧ Below W.heap.size W w'))
    (w : World) (hf_x1 : x1.len ≤ 9223372036854775807 ∧ x1.Fits) (hl_x1 : x1.Lies w Ax1) :
    Calls Tryd.prog 6 #[.agg #[.int .i64 t0, .int .i64 a0], .slice Ax1 x1.len Cx1] w fun e w' => e = .returned (.bool true) ∧ Below w.heap.size w w' := by
  by_cases hbig1 : 1048576 < ((x1.nodes : Nat))
  · have hs : szR (x1.nodes) 1048576 = -1 := szR_neg (by omega)
    have KS1 : Hid (∀ W : World, Sees w W → Calls Tryd.prog 25 #[.slice Ax1 x1.len Cx1, .int .i64 1048576] W fun e w' => e = .returned (.int .i64 (-1)) ∧ Below W.heap.size W w') := fun W h => by rw [← hs]; exact szPairS_u x1 hf_x1 1048576 Ax1 Cx1 W (hl_x1.sees h) (by omega) (by omega)
    clear hs
    go_enter Tryd.func6, Tryd.ntmps6
    go_wp2_with fail
    refine (KS1.out _ ?_).mono ?_
    · unfold Sees; go_grown
    rintro e wz0 ⟨rfl, hb⟩
    have T := St.below (w := w) (l := [(w.heap.size, 0, .int .i64 t0), (w.heap.size, 1, .int .i64 a0)]) ⟨(by unfold Sees; go_grown), (by simp [go_sem]), (by simp [go_sem]), trivial⟩ hb
    have H := Lib.hid T; clear T hb
    obtain ⟨x0, x1, x2, _⟩ := H.out
    go_wp2_with fail
    clear x0 x1 x2
    go_ret
    exact ⟨rfl, H.out.1⟩
  obtain ⟨s1, hs, hz1, hy1, he1⟩ : ∃ s : Int, s = szR (x1.nodes) 1048576 ∧ 0 ≤ s ∧ s ≤ 1048576 ∧ Hid (s = 1048576 - ((x1.nodes : Nat) : Int)) := ⟨_, rfl, by rw [szR_pos (by omega)]; omega, by rw [szR_pos (by omega)]; omega, by show _ = _; rw [szR_pos (by omega)]; try omega⟩
  have KS1 : Hid (∀ W : World, Sees w W → Calls Tryd.prog 25 #[.slice Ax1 x1.len Cx1, .int .i64 1048576] W fun e w' => e = .returned (.int .i64 s1) ∧ Below W.heap.size W w') := fun W h => by rw [hs]; exact szPairS_u x1 hf_x1 1048576 Ax1 Cx1 W (hl_x1.sees h) (by omega) (by omega)
  clear hs
  have hsmall : x1.nodes ≤ 1048576 := by have := he1.out; (first | trivial | omega | (refine ⟨?_, ?_⟩ <;> omega) | (refine ⟨?_, ?_, ?_⟩ <;> omega))
  clear he1
  have KT0 : Hid (∀ W : World, Sees w W → Calls Tryd.prog 10 #[.agg #[.int .i64 t0, .int .i64 a0]] W fun e w' => e = .returned (.agg #[.int .i64 t0, .int .i64 a0]) ∧ Below W.heap.size W w') := fun W h => toSig_any t0 a0 W
  have KT1 : Hid (∀ W : World, Sees w W → Calls Tryd.prog 27 #[.slice Ax1 x1.len Cx1] W fun e w' => ∃ Zx1, e = .returned (.slice Zx1 x1.len x1.len) ∧ x1.Lies w' Zx1 ∧ Below W.heap.size W w') := fun W h => (toPairS_u x1 (by omega) Ax1 Cx1 W (hl_x1.sees h)).mono fun e w' ⟨Zx1, he, yx1, hb⟩ => ⟨Zx1, he, yx1.lies, hb⟩
  have KE1 : Hid (∀ (W : World) (Zx1 Yx1 : Option Addr), x1.Lies W Zx1 → x1.Lies W Yx1 → Calls Tryd.prog 29 #[.slice Zx1 x1.len x1.len, .slice Yx1 x1.len x1.len] W fun e w' => e = .returned (.bool true) ∧ Below W.heap.size W w') := fun W Zx1 Yx1 ux1 vx1 => eqPairS_u x1 hf_x1 Zx1 Yx1 x1.len x1.len W ux1 vx1
  have KW2 := Lib.hid (KW.out hsmall); clear KW
  have KG2 := Lib.hid (KG.out hsmall); clear KG hsmall hbig1 hl_x1 hf_x1
  go_enter Tryd.func6, Tryd.ntmps6
  go_wp2_with fail
  refine (KS1.out _ ?_).mono ?_
  · unfold Sees; go_grown
  rintro e wz0 ⟨rfl, hb⟩
  have T := St.below (w := w) (l := [(w.heap.size, 0, .int .i64 t0), (w.heap.size, 1, .int .i64 a0)]) ⟨(by unfold Sees; go_grown), (by simp [go_sem]), (by simp [go_sem]), trivial⟩ hb
  have H := Lib.hid T; clear T hb
  obtain ⟨x0, x1, x2, _⟩ := H.out
  go_wp2_with fail
  clear x0 x1 x2
  obtain ⟨x0, x1, x2, _⟩ := H.out
  go_wp2_with fail
  refine (KT0.out _ H.out.1).mono ?_
  rintro e wA_0 ⟨rfl, hbA_0⟩
  have T := H.out.below hbA_0
  clear x0 x1 x2
  clear H
  have H := Lib.hid T; clear T
  obtain ⟨x0, x1, x2, _⟩ := H.out
  go_wp2_with fail
  refine (KT1.out _ H.out.1).mono ?_
  rintro e wA_1 ⟨Zx1A_1, rfl, Mx1A_1, hbA_1⟩
  have T := H.out.below hbA_1
  clear x0 x1 x2
  clear H
  have H := Lib.hid T; clear T
  obtain ⟨x0, x1, x2, _⟩ := H.out
  go_wp2_with fail
  refine (KW2.out _ _ ?_ ).mono ?_
  · (first | exact Mx1A_1 | exact Mx1A_1.drew | exact Mx1A_1.drew.drew)
  rintro e wA ⟨rfl, hbA⟩
  have TA := H.out.below hbA
  clear x0 x1 x2
  clear H
  have H := Lib.hid TA
  clear TA hbA hbA_0 hbA_1 Mx1A_1
  obtain ⟨x0, x1, x2, _⟩ := H.out
  go_wp2_with fail
  refine (KT1.out _ H.out.1).mono ?_
  rintro e wB1 ⟨Zx1B1, rfl, Mx1B1, hbB1⟩
  have T := H.out.below hbB1
  clear x0 x1 x2
  clear H hbB1
  have H := Lib.hid T; clear T
  obtain ⟨x0, x1, x2, _⟩ := H.out
  go_wp2_with fail
  refine (KT0.out _ H.out.1).mono ?_
  rintro e wC_0 ⟨rfl, hbC_0⟩
  have T := H.out.below hbC_0
  clear x0 x1 x2
  clear H
  have H := Lib.hid T; clear T
  obtain ⟨x0, x1, x2, _⟩ := H.out
  go_wp2_with fail
  refine (KG2.out _ _ ?_ ).mono ?_
  · (first | exact Mx1B1 | exact Mx1B1.drew | exact Mx1B1.drew.drew | exact Mx1B1.below hbC_0 | exact Mx1B1.dbelow hbC_0 | exact (Mx1B1.below hbC_0).drew | exact (Mx1B1.dbelow hbC_0).drew)
  rintro e wC ⟨rfl, hbC⟩
  have TC := H.out.below hbC
  clear x0 x1 x2
  clear H
  have H := Lib.hid TC
  have G1 : x1.Lies wC_0 Zx1B1 := by first | exact Mx1B1.below hbC_0 | exact Mx1B1.dbelow hbC_0
  clear Mx1B1
  have G2 : x1.Lies wC Zx1B1 := by first | exact G1.below hbC | exact G1.dbelow hbC
  clear G1
  clear TC hbC hbC_0
  have ne_q0 : (q0.toList == q0.toList) = true := by simp
  obtain ⟨x0, x1, x2, _⟩ := H.out
  go_wp2_with fail
  refine (KT1.out _ H.out.1).mono ?_
  rintro e wE1 ⟨Zx1E1, rfl, Mx1E1, hbE1⟩
  have TE1 := H.out.below hbE1
  clear x0 x1 x2
  clear H
  have H := Lib.hid TE1
  obtain ⟨x0, x1, x2, _⟩ := H.out
  go_wp2_with fail
  refine (KE1.out _ _ _ ?_ ?_ ).mono ?_
  · (first | exact G2 | exact G2.drew | exact G2.drew.drew | exact G2.below hbE1 | exact G2.dbelow hbE1 | exact (G2.below hbE1).drew | exact (G2.dbelow hbE1).drew)
  · (first | exact Mx1E1 | exact Mx1E1.drew | exact Mx1E1.drew.drew)
  rintro e wF1 ⟨rfl, hbF1⟩
  have TF1 := H.out.below hbF1
  clear x0 x1 x2
  clear H
  have H := Lib.hid TF1
  have G3 : x1.Lies wE1 Zx1B1 := by first | exact G2.below hbE1 | exact G2.dbelow hbE1
  clear G2
  have G4 : x1.Lies wF1 Zx1B1 := by first | exact G3.below hbF1 | exact G3.dbelow hbF1
  clear G3
  clear TF1 TE1 hbE1 hbF1 Mx1E1
  go_wp2_with fail
  go_ret
  exact ⟨rfl, H.out.1⟩

end Go.Proofs.YtojheipllpkgdaaDoor
