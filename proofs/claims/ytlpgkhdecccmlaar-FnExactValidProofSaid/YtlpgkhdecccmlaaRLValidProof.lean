/- The law FnExactValidProof, walked, out of the contracts of both sides. -/
import Derived.Test.YtlpgkhdecccmlaaRPfC
import Derived.Deep.RegionHeld3
import Derived.Deep.RegionWith
namespace Go.Proofs.YtlpgkhdecccmlaaR
open Go.RowKit
set_option linter.unusedVariables false

set_option maxHeartbeats 4000000 in
set_option maxRecDepth 100000 in
theorem lawValidProof (gt0 : Int) (ga0 : Int) (cl0 : Cl) (Acl0 : Option Addr) (Ccl0 : Nat) {q0 : Bool}
    (KW : Hid (cl0.nodes ≤ 1048576 → ∀ (W : World) (Zcl0 : Option Addr), cl0.Lies W Zcl0 → Calls Try.prog 40 #[.agg #[.int .i64 gt0, .int .i64 ga0, .slice Zcl0 cl0.len cl0.len]] W fun e w' => e = .returned (.bool q0) ∧ Below W.heap.size W w'))
    (KG : Hid (cl0.nodes ≤ 1048576 → ∀ (W : World) (Zcl0 : Option Addr), cl0.Lies W Zcl0 → Calls Try.prog 41 #[.agg #[.int .i64 gt0, .int .i64 ga0, .slice Zcl0 cl0.len cl0.len]] W fun e w' => e = .returned (.bool q0) ∧ Below W.heap.size W w'))
    (w : World) (hf_cl0 : cl0.len ≤ 9223372036854775807 ∧ cl0.Fits) (hl_cl0 : cl0.Lies w Acl0) :
    Calls Try.prog 8 #[.agg #[.int .i64 gt0, .int .i64 ga0, .slice Acl0 cl0.len Ccl0]] w fun e w' => e = .returned (.bool true) ∧ Below w.heap.size w w' := by
  by_cases hbig0 : 1048576 < ((cl0.nodes : Nat))
  · have hs : szR (cl0.nodes) 1048576 = -1 := szR_neg (by omega)
    have KS0 : Hid (∀ W : World, Sees w W → Calls Try.prog 35 #[.agg #[.int .i64 gt0, .int .i64 ga0, .slice Acl0 cl0.len Ccl0], .int .i64 1048576] W fun e w' => e = .returned (.int .i64 (-1)) ∧ Below W.heap.size W w') := fun W h => by rw [← hs]; exact szProof_u gt0 ga0 cl0 hf_cl0 1048576 Acl0 Ccl0 W (hl_cl0.sees h) (by omega) (by omega)
    clear hs
    go_enter Try.func8, Try.ntmps8
    go_wp2_with fail
    refine (KS0.out _ ?_).mono ?_
    · unfold Sees; go_grown
    rintro e wz0 ⟨rfl, hb⟩
    have T := St.below (w := w) (l := [(w.heap.size, 0, .int .i64 gt0), (w.heap.size, 1, .int .i64 ga0), (w.heap.size, 2, .slice Acl0 cl0.len Ccl0)]) ⟨(by unfold Sees; go_grown), (by simp [go_sem]), (by simp [go_sem]), (by simp [go_sem]), trivial⟩ hb
    have H := Lib.hid T; clear T hb
    obtain ⟨x0, x1, x2, x3, _⟩ := H.out
    go_wp2_with fail
    clear x0 x1 x2 x3
    go_ret
    exact ⟨rfl, H.out.1⟩
  obtain ⟨s0, hs, hz0, hy0, he0⟩ : ∃ s : Int, s = szR (cl0.nodes) 1048576 ∧ 0 ≤ s ∧ s ≤ 1048576 ∧ Hid (s = 1048576 - ((cl0.nodes : Nat) : Int)) := ⟨_, rfl, by rw [szR_pos (by omega)]; omega, by rw [szR_pos (by omega)]; omega, by show _ = _; rw [szR_pos (by omega)]; try omega⟩
  have KS0 : Hid (∀ W : World, Sees w W → Calls Try.prog 35 #[.agg #[.int .i64 gt0, .int .i64 ga0, .slice Acl0 cl0.len Ccl0], .int .i64 1048576] W fun e w' => e = .returned (.int .i64 s0) ∧ Below W.heap.size W w') := fun W h => by rw [hs]; exact szProof_u gt0 ga0 cl0 hf_cl0 1048576 Acl0 Ccl0 W (hl_cl0.sees h) (by omega) (by omega)
  clear hs
  have hsmall : cl0.nodes ≤ 1048576 := by have := he0.out; (first | trivial | omega | (refine ⟨?_, ?_⟩ <;> omega) | (refine ⟨?_, ?_, ?_⟩ <;> omega))
  clear he0
  have KT0 : Hid (∀ W : World, Sees w W → Calls Try.prog 37 #[.agg #[.int .i64 gt0, .int .i64 ga0, .slice Acl0 cl0.len Ccl0]] W fun e w' => ∃ Zcl0, e = .returned (.agg #[.int .i64 gt0, .int .i64 ga0, .slice Zcl0 cl0.len cl0.len]) ∧ cl0.Lies w' Zcl0 ∧ Below W.heap.size W w') := fun W h => (toProof_u gt0 ga0 cl0 (by omega) Acl0 Ccl0 W (hl_cl0.sees h)).mono fun e w' ⟨Zcl0, he, ycl0, hb⟩ => ⟨Zcl0, he, ycl0.lies, hb⟩
  have KE0 : Hid (∀ (W : World) (Zcl0 Ycl0 : Option Addr), cl0.Lies W Zcl0 → cl0.Lies W Ycl0 → Calls Try.prog 39 #[.agg #[.int .i64 gt0, .int .i64 ga0, .slice Zcl0 cl0.len cl0.len], .agg #[.int .i64 gt0, .int .i64 ga0, .slice Ycl0 cl0.len cl0.len]] W fun e w' => e = .returned (.bool true) ∧ Below W.heap.size W w') := fun W Zcl0 Ycl0 ucl0 vcl0 => eqProof_u gt0 ga0 cl0 hf_cl0 Zcl0 Ycl0 cl0.len cl0.len W ucl0 vcl0
  have KW2 := Lib.hid (KW.out hsmall); clear KW
  have KG2 := Lib.hid (KG.out hsmall); clear KG hsmall hbig0 hl_cl0 hf_cl0
  go_enter Try.func8, Try.ntmps8
  go_wp2_with fail
  refine (KS0.out _ ?_).mono ?_
  · unfold Sees; go_grown
  rintro e wz0 ⟨rfl, hb⟩
  have T := St.below (w := w) (l := [(w.heap.size, 0, .int .i64 gt0), (w.heap.size, 1, .int .i64 ga0), (w.heap.size, 2, .slice Acl0 cl0.len Ccl0)]) ⟨(by unfold Sees; go_grown), (by simp [go_sem]), (by simp [go_sem]), (by simp [go_sem]), trivial⟩ hb
  have H := Lib.hid T; clear T hb
  obtain ⟨x0, x1, x2, x3, _⟩ := H.out
  go_wp2_with fail
  clear x0 x1 x2 x3
  obtain ⟨x0, x1, x2, x3, _⟩ := H.out
  go_wp2_with fail
  refine (KT0.out _ H.out.1).mono ?_
  rintro e wA_0 ⟨Zcl0A_0, rfl, Mcl0A_0, hbA_0⟩
  have T := H.out.below hbA_0
  clear x0 x1 x2 x3
  clear H
  have H := Lib.hid T; clear T
  obtain ⟨x0, x1, x2, x3, _⟩ := H.out
  go_wp2_with fail
  refine (KW2.out _ _ ?_ ).mono ?_
  · (first | exact Mcl0A_0 | exact Mcl0A_0.drew | exact Mcl0A_0.drew.drew)
  rintro e wA ⟨rfl, hbA⟩
  have TA := H.out.below hbA
  clear x0 x1 x2 x3
  clear H
  have H := Lib.hid TA
  clear TA hbA hbA_0 Mcl0A_0
  obtain ⟨x0, x1, x2, x3, _⟩ := H.out
  go_wp2_with fail
  refine (KT0.out _ H.out.1).mono ?_
  rintro e wB0 ⟨Zcl0B0, rfl, Mcl0B0, hbB0⟩
  have T := H.out.below hbB0
  clear x0 x1 x2 x3
  have T2 : St w [(wB0.heap.size, 0, .int .i64 gt0), (wB0.heap.size, 1, .int .i64 ga0), (wB0.heap.size, 2, .slice Zcl0B0 cl0.len cl0.len), (w.heap.size, 0, .int .i64 gt0), (w.heap.size, 1, .int .i64 ga0), (w.heap.size, 2, .slice Acl0 cl0.len Ccl0)] (wB0.alloc (.cells #[.int .i64 gt0, .int .i64 ga0, .slice Zcl0B0 cl0.len cl0.len] 68)) := ⟨T.1.alloc _, (by simp [go_sem]), (by simp [go_sem]), (by simp [go_sem]), T.2.alloc _⟩
  have G1 : cl0.Lies (wB0.alloc (.cells #[.int .i64 gt0, .int .i64 ga0, .slice Zcl0B0 cl0.len cl0.len] 68)) Zcl0B0 := Mcl0B0.alloc _
  clear Mcl0B0
  clear H T hbB0
  have H := Lib.hid T2; clear T2
  obtain ⟨x0, x1, x2, x3, x4, x5, x6, _⟩ := H.out
  go_wp2_with fail
  refine (KG2.out _ _ ?_ ).mono ?_
  · (first | exact G1 | exact G1.drew | exact G1.drew.drew)
  rintro e wC ⟨rfl, hbC⟩
  have TC := H.out.below hbC
  clear x0 x1 x2 x3 x4 x5 x6
  clear H
  have H := Lib.hid TC
  have G2 : cl0.Lies wC Zcl0B0 := by first | exact G1.below hbC | exact G1.dbelow hbC
  clear G1
  clear TC hbC 
  have ne_q0 : (q0 != q0) = false := by simp
  obtain ⟨x0, x1, x2, x3, x4, x5, x6, _⟩ := H.out
  go_wp2_with fail
  go_region_held3 (fun w' => Sees w w' ∧ w'.cell? ⟨wB0.heap.size, 0, none⟩ = some (.int .i64 gt0) ∧ w'.cell? ⟨wB0.heap.size, 1, none⟩ = some (.int .i64 ga0) ∧ w'.cell? ⟨wB0.heap.size, 2, none⟩ = some (.slice Zcl0B0 cl0.len cl0.len) ∧ w'.cell? ⟨w.heap.size, 0, none⟩ = some (.int .i64 gt0) ∧ w'.cell? ⟨w.heap.size, 1, none⟩ = some (.int .i64 ga0) ∧ w'.cell? ⟨w.heap.size, 2, none⟩ = some (.slice Acl0 cl0.len Ccl0) ∧ True)
    (first | exact H.out.drew | exact TF0 | exact TE0 | (go_keep; done))
    (first | (go_at_call 37; (with_reducible refine (KT0.out _ ?_).mono ?_); exact St.sees (l := [(wB0.heap.size, 0, .int .i64 gt0), (wB0.heap.size, 1, .int .i64 ga0), (wB0.heap.size, 2, .slice Zcl0B0 cl0.len cl0.len), (w.heap.size, 0, .int .i64 gt0), (w.heap.size, 1, .int .i64 ga0), (w.heap.size, 2, .slice Acl0 cl0.len Ccl0)]) (by assumption); rintro e wE0 ⟨Zcl0E0, rfl, Mcl0E0, hbE0⟩; have TE0 := St.below (l := [(wB0.heap.size, 0, .int .i64 gt0), (wB0.heap.size, 1, .int .i64 ga0), (wB0.heap.size, 2, .slice Zcl0B0 cl0.len cl0.len), (w.heap.size, 0, .int .i64 gt0), (w.heap.size, 1, .int .i64 ga0), (w.heap.size, 2, .slice Acl0 cl0.len Ccl0)]) (by assumption) hbE0) | (go_at_call 39; refine (KE0.out _ _ _ ?_ ?_ ).mono ?_; (first | exact G2 | exact G2.drew | exact G2.drew.drew | exact G2.below hbE0 | exact G2.dbelow hbE0 | exact (G2.below hbE0).drew | exact (G2.dbelow hbE0).drew); (first | exact Mcl0E0 | exact Mcl0E0.drew | exact Mcl0E0.drew.drew); rintro e wF0 ⟨rfl, hbF0⟩; have TF0 := St.below (l := [(wB0.heap.size, 0, .int .i64 gt0), (wB0.heap.size, 1, .int .i64 ga0), (wB0.heap.size, 2, .slice Zcl0B0 cl0.len cl0.len), (w.heap.size, 0, .int .i64 gt0), (w.heap.size, 1, .int .i64 ga0), (w.heap.size, 2, .slice Acl0 cl0.len Ccl0)]) (by assumption) hbF0))
  clear x0 x1 x2 x3 x4 x5 x6
  clear H
  have H := Lib.hid TF0
  have G3 : cl0.Lies wE0 Zcl0B0 := by first | exact G2.below hbE0 | exact G2.dbelow hbE0
  clear G2
  have G4 : cl0.Lies wF0 Zcl0B0 := by first | exact G3.below hbF0 | exact G3.dbelow hbF0
  clear G3
  clear TF0 TE0 hbE0 hbF0 Mcl0E0
  go_wp2_with fail
  go_ret
  exact ⟨rfl, H.out.1⟩

end Go.Proofs.YtlpgkhdecccmlaaR
