/- The law FnExactSameProof, walked, out of the contracts of both sides. -/
import Derived.Test.YtlpgkhdecccmlaaRPfC
import Derived.Deep.RegionHeld3
import Derived.Deep.RegionWith
namespace Go.Proofs.YtlpgkhdecccmlaaR
open Go.RowKit
set_option linter.unusedVariables false

set_option maxHeartbeats 4000000 in
set_option maxRecDepth 100000 in
theorem lawSameProof (gt0 : Int) (ga0 : Int) (cl0 : Cl) (Acl0 : Option Addr) (Ccl0 : Nat) (gt1 : Int) (ga1 : Int) (cl1 : Cl) (Acl1 : Option Addr) (Ccl1 : Nat) {q0 : Bool}
    (KW : Hid (cl0.nodes ≤ 1048576 ∧ cl1.nodes ≤ 1048576 → ∀ (W : World) (Zcl0 Zcl1 : Option Addr), cl0.Lies W Zcl0 → cl1.Lies W Zcl1 → Calls Try.prog 36 #[.agg #[.int .i64 gt0, .int .i64 ga0, .slice Zcl0 cl0.len cl0.len], .agg #[.int .i64 gt1, .int .i64 ga1, .slice Zcl1 cl1.len cl1.len]] W fun e w' => e = .returned (.bool q0) ∧ Below W.heap.size W w'))
    (KG : Hid (cl0.nodes ≤ 1048576 ∧ cl1.nodes ≤ 1048576 → ∀ (W : World) (Zcl0 Zcl1 : Option Addr), cl0.Lies W Zcl0 → cl1.Lies W Zcl1 → Calls Try.prog 38 #[.agg #[.int .i64 gt0, .int .i64 ga0, .slice Zcl0 cl0.len cl0.len], .agg #[.int .i64 gt1, .int .i64 ga1, .slice Zcl1 cl1.len cl1.len]] W fun e w' => e = .returned (.bool q0) ∧ Below W.heap.size W w'))
    (w : World) (hf_cl0 : cl0.len ≤ 9223372036854775807 ∧ cl0.Fits) (hl_cl0 : cl0.Lies w Acl0) (hf_cl1 : cl1.len ≤ 9223372036854775807 ∧ cl1.Fits) (hl_cl1 : cl1.Lies w Acl1) :
    Calls Try.prog 7 #[.agg #[.int .i64 gt0, .int .i64 ga0, .slice Acl0 cl0.len Ccl0], .agg #[.int .i64 gt1, .int .i64 ga1, .slice Acl1 cl1.len Ccl1]] w fun e w' => e = .returned (.bool true) ∧ Below w.heap.size w w' := by
  by_cases hbig0 : 1048576 < ((cl0.nodes : Nat))
  · have hs : szR (cl0.nodes) 1048576 = -1 := szR_neg (by omega)
    have KS0 : Hid (∀ W : World, Sees w W → Calls Try.prog 35 #[.agg #[.int .i64 gt0, .int .i64 ga0, .slice Acl0 cl0.len Ccl0], .int .i64 1048576] W fun e w' => e = .returned (.int .i64 (-1)) ∧ Below W.heap.size W w') := fun W h => by rw [← hs]; exact szProof_u gt0 ga0 cl0 hf_cl0 1048576 Acl0 Ccl0 W (hl_cl0.sees h) (by omega) (by omega)
    clear hs
    go_enter Try.func7, Try.ntmps7
    go_wp2_with fail
    refine (KS0.out _ ?_).mono ?_
    · unfold Sees; go_grown
    rintro e wz0 ⟨rfl, hb⟩
    have T := St.below (w := w) (l := [(w.heap.size, 0, .int .i64 gt0), (w.heap.size, 1, .int .i64 ga0), (w.heap.size, 2, .slice Acl0 cl0.len Ccl0), (w.heap.size + 1, 0, .int .i64 gt1), (w.heap.size + 1, 1, .int .i64 ga1), (w.heap.size + 1, 2, .slice Acl1 cl1.len Ccl1)]) ⟨(by unfold Sees; go_grown), (by simp [go_sem]), (by simp [go_sem]), (by simp [go_sem]), (by simp [go_sem]), (by simp [go_sem]), (by simp [go_sem]), trivial⟩ hb
    have H := Lib.hid T; clear T hb
    obtain ⟨x0, x1, x2, x3, x4, x5, x6, _⟩ := H.out
    go_wp2_with fail
    clear x0 x1 x2 x3 x4 x5 x6
    go_ret
    exact ⟨rfl, H.out.1⟩
  obtain ⟨s0, hs, hz0, hy0, he0⟩ : ∃ s : Int, s = szR (cl0.nodes) 1048576 ∧ 0 ≤ s ∧ s ≤ 1048576 ∧ Hid (s = 1048576 - ((cl0.nodes : Nat) : Int)) := ⟨_, rfl, by rw [szR_pos (by omega)]; omega, by rw [szR_pos (by omega)]; omega, by show _ = _; rw [szR_pos (by omega)]; try omega⟩
  have KS0 : Hid (∀ W : World, Sees w W → Calls Try.prog 35 #[.agg #[.int .i64 gt0, .int .i64 ga0, .slice Acl0 cl0.len Ccl0], .int .i64 1048576] W fun e w' => e = .returned (.int .i64 s0) ∧ Below W.heap.size W w') := fun W h => by rw [hs]; exact szProof_u gt0 ga0 cl0 hf_cl0 1048576 Acl0 Ccl0 W (hl_cl0.sees h) (by omega) (by omega)
  clear hs
  by_cases hbig1 : s0 < ((cl1.nodes : Nat) : Int)
  · have hs : szR (cl1.nodes) s0 = -1 := szR_neg (by omega)
    have KS1 : Hid (∀ W : World, Sees w W → Calls Try.prog 35 #[.agg #[.int .i64 gt1, .int .i64 ga1, .slice Acl1 cl1.len Ccl1], .int .i64 s0] W fun e w' => e = .returned (.int .i64 (-1)) ∧ Below W.heap.size W w') := fun W h => by rw [← hs]; exact szProof_u gt1 ga1 cl1 hf_cl1 s0 Acl1 Ccl1 W (hl_cl1.sees h) (by omega) (by omega)
    clear hs
    go_enter Try.func7, Try.ntmps7
    go_wp2_with fail
    refine (KS0.out _ ?_).mono ?_
    · unfold Sees; go_grown
    rintro e wz0 ⟨rfl, hb⟩
    have T := St.below (w := w) (l := [(w.heap.size, 0, .int .i64 gt0), (w.heap.size, 1, .int .i64 ga0), (w.heap.size, 2, .slice Acl0 cl0.len Ccl0), (w.heap.size + 1, 0, .int .i64 gt1), (w.heap.size + 1, 1, .int .i64 ga1), (w.heap.size + 1, 2, .slice Acl1 cl1.len Ccl1)]) ⟨(by unfold Sees; go_grown), (by simp [go_sem]), (by simp [go_sem]), (by simp [go_sem]), (by simp [go_sem]), (by simp [go_sem]), (by simp [go_sem]), trivial⟩ hb
    have H := Lib.hid T; clear T hb
    obtain ⟨x0, x1, x2, x3, x4, x5, x6, _⟩ := H.out
    go_wp2_with fail
    clear x0 x1 x2 x3 x4 x5 x6
    refine (KS1.out _ ?_).mono ?_
    · exact H.out.1
    rintro e wz1 ⟨rfl, hb⟩
    have T := H.out.below hb
    clear H
    have H := Lib.hid T; clear T hb
    obtain ⟨x0, x1, x2, x3, x4, x5, x6, _⟩ := H.out
    go_wp2_with fail
    clear x0 x1 x2 x3 x4 x5 x6
    go_ret
    exact ⟨rfl, H.out.1⟩
  obtain ⟨s1, hs, hz1, hy1, he1⟩ : ∃ s : Int, s = szR (cl1.nodes) s0 ∧ 0 ≤ s ∧ s ≤ 1048576 ∧ Hid (s = s0 - ((cl1.nodes : Nat) : Int)) := ⟨_, rfl, by rw [szR_pos (by omega)]; omega, by rw [szR_pos (by omega)]; omega, by show _ = _; rw [szR_pos (by omega)]; try omega⟩
  have KS1 : Hid (∀ W : World, Sees w W → Calls Try.prog 35 #[.agg #[.int .i64 gt1, .int .i64 ga1, .slice Acl1 cl1.len Ccl1], .int .i64 s0] W fun e w' => e = .returned (.int .i64 s1) ∧ Below W.heap.size W w') := fun W h => by rw [hs]; exact szProof_u gt1 ga1 cl1 hf_cl1 s0 Acl1 Ccl1 W (hl_cl1.sees h) (by omega) (by omega)
  clear hs
  have hsmall : cl0.nodes ≤ 1048576 ∧ cl1.nodes ≤ 1048576 := by have := he0.out; have := he1.out; (first | trivial | omega | (refine ⟨?_, ?_⟩ <;> omega) | (refine ⟨?_, ?_, ?_⟩ <;> omega))
  clear he0 he1
  have KT0 : Hid (∀ W : World, Sees w W → Calls Try.prog 37 #[.agg #[.int .i64 gt0, .int .i64 ga0, .slice Acl0 cl0.len Ccl0]] W fun e w' => ∃ Zcl0, e = .returned (.agg #[.int .i64 gt0, .int .i64 ga0, .slice Zcl0 cl0.len cl0.len]) ∧ cl0.Lies w' Zcl0 ∧ Below W.heap.size W w') := fun W h => (toProof_u gt0 ga0 cl0 (by omega) Acl0 Ccl0 W (hl_cl0.sees h)).mono fun e w' ⟨Zcl0, he, ycl0, hb⟩ => ⟨Zcl0, he, ycl0.lies, hb⟩
  have KE0 : Hid (∀ (W : World) (Zcl0 Ycl0 : Option Addr), cl0.Lies W Zcl0 → cl0.Lies W Ycl0 → Calls Try.prog 39 #[.agg #[.int .i64 gt0, .int .i64 ga0, .slice Zcl0 cl0.len cl0.len], .agg #[.int .i64 gt0, .int .i64 ga0, .slice Ycl0 cl0.len cl0.len]] W fun e w' => e = .returned (.bool true) ∧ Below W.heap.size W w') := fun W Zcl0 Ycl0 ucl0 vcl0 => eqProof_u gt0 ga0 cl0 hf_cl0 Zcl0 Ycl0 cl0.len cl0.len W ucl0 vcl0
  have KT1 : Hid (∀ W : World, Sees w W → Calls Try.prog 37 #[.agg #[.int .i64 gt1, .int .i64 ga1, .slice Acl1 cl1.len Ccl1]] W fun e w' => ∃ Zcl1, e = .returned (.agg #[.int .i64 gt1, .int .i64 ga1, .slice Zcl1 cl1.len cl1.len]) ∧ cl1.Lies w' Zcl1 ∧ Below W.heap.size W w') := fun W h => (toProof_u gt1 ga1 cl1 (by omega) Acl1 Ccl1 W (hl_cl1.sees h)).mono fun e w' ⟨Zcl1, he, ycl1, hb⟩ => ⟨Zcl1, he, ycl1.lies, hb⟩
  have KE1 : Hid (∀ (W : World) (Zcl1 Ycl1 : Option Addr), cl1.Lies W Zcl1 → cl1.Lies W Ycl1 → Calls Try.prog 39 #[.agg #[.int .i64 gt1, .int .i64 ga1, .slice Zcl1 cl1.len cl1.len], .agg #[.int .i64 gt1, .int .i64 ga1, .slice Ycl1 cl1.len cl1.len]] W fun e w' => e = .returned (.bool true) ∧ Below W.heap.size W w') := fun W Zcl1 Ycl1 ucl1 vcl1 => eqProof_u gt1 ga1 cl1 hf_cl1 Zcl1 Ycl1 cl1.len cl1.len W ucl1 vcl1
  have KW2 := Lib.hid (KW.out hsmall); clear KW
  have KG2 := Lib.hid (KG.out hsmall); clear KG hsmall hbig0 hbig1 hl_cl0 hf_cl0 hl_cl1 hf_cl1
  go_enter Try.func7, Try.ntmps7
  go_wp2_with fail
  refine (KS0.out _ ?_).mono ?_
  · unfold Sees; go_grown
  rintro e wz0 ⟨rfl, hb⟩
  have T := St.below (w := w) (l := [(w.heap.size, 0, .int .i64 gt0), (w.heap.size, 1, .int .i64 ga0), (w.heap.size, 2, .slice Acl0 cl0.len Ccl0), (w.heap.size + 1, 0, .int .i64 gt1), (w.heap.size + 1, 1, .int .i64 ga1), (w.heap.size + 1, 2, .slice Acl1 cl1.len Ccl1)]) ⟨(by unfold Sees; go_grown), (by simp [go_sem]), (by simp [go_sem]), (by simp [go_sem]), (by simp [go_sem]), (by simp [go_sem]), (by simp [go_sem]), trivial⟩ hb
  have H := Lib.hid T; clear T hb
  obtain ⟨x0, x1, x2, x3, x4, x5, x6, _⟩ := H.out
  go_wp2_with fail
  clear x0 x1 x2 x3 x4 x5 x6
  refine (KS1.out _ ?_).mono ?_
  · exact H.out.1
  rintro e wz1 ⟨rfl, hb⟩
  have T := H.out.below hb
  clear H
  have H := Lib.hid T; clear T hb
  obtain ⟨x0, x1, x2, x3, x4, x5, x6, _⟩ := H.out
  go_wp2_with fail
  clear x0 x1 x2 x3 x4 x5 x6
  obtain ⟨x0, x1, x2, x3, x4, x5, x6, _⟩ := H.out
  go_wp2_with fail
  go_region_held3 (fun w' => Sees w w' ∧ w'.cell? ⟨w.heap.size, 0, none⟩ = some (.int .i64 gt0) ∧ w'.cell? ⟨w.heap.size, 1, none⟩ = some (.int .i64 ga0) ∧ w'.cell? ⟨w.heap.size, 2, none⟩ = some (.slice Acl0 cl0.len Ccl0) ∧ w'.cell? ⟨w.heap.size + 1, 0, none⟩ = some (.int .i64 gt1) ∧ w'.cell? ⟨w.heap.size + 1, 1, none⟩ = some (.int .i64 ga1) ∧ w'.cell? ⟨w.heap.size + 1, 2, none⟩ = some (.slice Acl1 cl1.len Ccl1) ∧ True)
    (first | exact H.out.drew | exact TA | exact TA_1 | exact TA_0 | (go_keep; done))
    (first | (go_at_call 37; (with_reducible refine (KT0.out _ ?_).mono ?_); exact St.sees (l := [(w.heap.size, 0, .int .i64 gt0), (w.heap.size, 1, .int .i64 ga0), (w.heap.size, 2, .slice Acl0 cl0.len Ccl0), (w.heap.size + 1, 0, .int .i64 gt1), (w.heap.size + 1, 1, .int .i64 ga1), (w.heap.size + 1, 2, .slice Acl1 cl1.len Ccl1)]) (by assumption); rintro e wA_0 ⟨Zcl0A_0, rfl, Mcl0A_0, hbA_0⟩; have TA_0 := St.below (l := [(w.heap.size, 0, .int .i64 gt0), (w.heap.size, 1, .int .i64 ga0), (w.heap.size, 2, .slice Acl0 cl0.len Ccl0), (w.heap.size + 1, 0, .int .i64 gt1), (w.heap.size + 1, 1, .int .i64 ga1), (w.heap.size + 1, 2, .slice Acl1 cl1.len Ccl1)]) (by assumption) hbA_0) | (go_at_call 37; (with_reducible refine (KT1.out _ ?_).mono ?_); exact St.sees (l := [(w.heap.size, 0, .int .i64 gt0), (w.heap.size, 1, .int .i64 ga0), (w.heap.size, 2, .slice Acl0 cl0.len Ccl0), (w.heap.size + 1, 0, .int .i64 gt1), (w.heap.size + 1, 1, .int .i64 ga1), (w.heap.size + 1, 2, .slice Acl1 cl1.len Ccl1)]) (by assumption); rintro e wA_1 ⟨Zcl1A_1, rfl, Mcl1A_1, hbA_1⟩; have TA_1 := St.below (l := [(w.heap.size, 0, .int .i64 gt0), (w.heap.size, 1, .int .i64 ga0), (w.heap.size, 2, .slice Acl0 cl0.len Ccl0), (w.heap.size + 1, 0, .int .i64 gt1), (w.heap.size + 1, 1, .int .i64 ga1), (w.heap.size + 1, 2, .slice Acl1 cl1.len Ccl1)]) (by assumption) hbA_1) | (go_at_call 36; refine (KW2.out _ _ _ ?_ ?_ ).mono ?_; (first | exact Mcl0A_0 | exact Mcl0A_0.drew | exact Mcl0A_0.drew.drew | exact Mcl0A_0.below hbA_1 | exact Mcl0A_0.dbelow hbA_1 | exact (Mcl0A_0.below hbA_1).drew | exact (Mcl0A_0.dbelow hbA_1).drew); (first | exact Mcl1A_1 | exact Mcl1A_1.drew | exact Mcl1A_1.drew.drew); rintro e wA ⟨rfl, hbA⟩; have TA := St.below (l := [(w.heap.size, 0, .int .i64 gt0), (w.heap.size, 1, .int .i64 ga0), (w.heap.size, 2, .slice Acl0 cl0.len Ccl0), (w.heap.size + 1, 0, .int .i64 gt1), (w.heap.size + 1, 1, .int .i64 ga1), (w.heap.size + 1, 2, .slice Acl1 cl1.len Ccl1)]) (by assumption) hbA))
  clear x0 x1 x2 x3 x4 x5 x6
  clear H
  have H := Lib.hid TA
  clear TA hbA hbA_0 hbA_1 Mcl0A_0 Mcl1A_1
  obtain ⟨x0, x1, x2, x3, x4, x5, x6, _⟩ := H.out
  go_wp2_with fail
  refine (KT0.out _ H.out.1).mono ?_
  rintro e wB0 ⟨Zcl0B0, rfl, Mcl0B0, hbB0⟩
  have T := H.out.below hbB0
  clear x0 x1 x2 x3 x4 x5 x6
  have T2 : St w [(wB0.heap.size, 0, .int .i64 gt0), (wB0.heap.size, 1, .int .i64 ga0), (wB0.heap.size, 2, .slice Zcl0B0 cl0.len cl0.len), (w.heap.size, 0, .int .i64 gt0), (w.heap.size, 1, .int .i64 ga0), (w.heap.size, 2, .slice Acl0 cl0.len Ccl0), (w.heap.size + 1, 0, .int .i64 gt1), (w.heap.size + 1, 1, .int .i64 ga1), (w.heap.size + 1, 2, .slice Acl1 cl1.len Ccl1)] (wB0.alloc (.cells #[.int .i64 gt0, .int .i64 ga0, .slice Zcl0B0 cl0.len cl0.len] 68)) := ⟨T.1.alloc _, (by simp [go_sem]), (by simp [go_sem]), (by simp [go_sem]), T.2.alloc _⟩
  have G1 : cl0.Lies (wB0.alloc (.cells #[.int .i64 gt0, .int .i64 ga0, .slice Zcl0B0 cl0.len cl0.len] 68)) Zcl0B0 := Mcl0B0.alloc _
  clear Mcl0B0
  clear H T hbB0
  have H := Lib.hid T2; clear T2
  obtain ⟨x0, x1, x2, x3, x4, x5, x6, x7, x8, x9, _⟩ := H.out
  go_wp2_with fail
  refine (KT1.out _ H.out.1).mono ?_
  rintro e wB1 ⟨Zcl1B1, rfl, Mcl1B1, hbB1⟩
  have T := H.out.below hbB1
  clear x0 x1 x2 x3 x4 x5 x6 x7 x8 x9
  have G2 : cl0.Lies wB1 Zcl0B0 := by first | exact G1.below hbB1 | exact G1.dbelow hbB1
  clear G1
  have T2 : St w [(wB1.heap.size, 0, .int .i64 gt1), (wB1.heap.size, 1, .int .i64 ga1), (wB1.heap.size, 2, .slice Zcl1B1 cl1.len cl1.len), (wB0.heap.size, 0, .int .i64 gt0), (wB0.heap.size, 1, .int .i64 ga0), (wB0.heap.size, 2, .slice Zcl0B0 cl0.len cl0.len), (w.heap.size, 0, .int .i64 gt0), (w.heap.size, 1, .int .i64 ga0), (w.heap.size, 2, .slice Acl0 cl0.len Ccl0), (w.heap.size + 1, 0, .int .i64 gt1), (w.heap.size + 1, 1, .int .i64 ga1), (w.heap.size + 1, 2, .slice Acl1 cl1.len Ccl1)] (wB1.alloc (.cells #[.int .i64 gt1, .int .i64 ga1, .slice Zcl1B1 cl1.len cl1.len] 68)) := ⟨T.1.alloc _, (by simp [go_sem]), (by simp [go_sem]), (by simp [go_sem]), T.2.alloc _⟩
  have G3 : cl0.Lies (wB1.alloc (.cells #[.int .i64 gt1, .int .i64 ga1, .slice Zcl1B1 cl1.len cl1.len] 68)) Zcl0B0 := G2.alloc _
  clear G2
  have G4 : cl1.Lies (wB1.alloc (.cells #[.int .i64 gt1, .int .i64 ga1, .slice Zcl1B1 cl1.len cl1.len] 68)) Zcl1B1 := Mcl1B1.alloc _
  clear Mcl1B1
  clear H T hbB1
  have H := Lib.hid T2; clear T2
  obtain ⟨x0, x1, x2, x3, x4, x5, x6, x7, x8, x9, x10, x11, x12, _⟩ := H.out
  go_wp2_with fail
  refine (KG2.out _ _ _ ?_ ?_ ).mono ?_
  · (first | exact G3 | exact G3.drew | exact G3.drew.drew)
  · (first | exact G4 | exact G4.drew | exact G4.drew.drew)
  rintro e wC ⟨rfl, hbC⟩
  have TC := H.out.below hbC
  clear x0 x1 x2 x3 x4 x5 x6 x7 x8 x9 x10 x11 x12
  clear H
  have H := Lib.hid TC
  have G5 : cl0.Lies wC Zcl0B0 := by first | exact G3.below hbC | exact G3.dbelow hbC
  clear G3
  have G6 : cl1.Lies wC Zcl1B1 := by first | exact G4.below hbC | exact G4.dbelow hbC
  clear G4
  clear TC hbC 
  have ne_q0 : (q0 != q0) = false := by simp
  obtain ⟨x0, x1, x2, x3, x4, x5, x6, x7, x8, x9, x10, x11, x12, _⟩ := H.out
  go_wp2_with fail
  go_region_held3 (fun w' => Sees w w' ∧ w'.cell? ⟨wB1.heap.size, 0, none⟩ = some (.int .i64 gt1) ∧ w'.cell? ⟨wB1.heap.size, 1, none⟩ = some (.int .i64 ga1) ∧ w'.cell? ⟨wB1.heap.size, 2, none⟩ = some (.slice Zcl1B1 cl1.len cl1.len) ∧ w'.cell? ⟨wB0.heap.size, 0, none⟩ = some (.int .i64 gt0) ∧ w'.cell? ⟨wB0.heap.size, 1, none⟩ = some (.int .i64 ga0) ∧ w'.cell? ⟨wB0.heap.size, 2, none⟩ = some (.slice Zcl0B0 cl0.len cl0.len) ∧ w'.cell? ⟨w.heap.size, 0, none⟩ = some (.int .i64 gt0) ∧ w'.cell? ⟨w.heap.size, 1, none⟩ = some (.int .i64 ga0) ∧ w'.cell? ⟨w.heap.size, 2, none⟩ = some (.slice Acl0 cl0.len Ccl0) ∧ w'.cell? ⟨w.heap.size + 1, 0, none⟩ = some (.int .i64 gt1) ∧ w'.cell? ⟨w.heap.size + 1, 1, none⟩ = some (.int .i64 ga1) ∧ w'.cell? ⟨w.heap.size + 1, 2, none⟩ = some (.slice Acl1 cl1.len Ccl1) ∧ True)
    (first | exact H.out.drew | exact TF0 | exact TE0 | (go_keep; done))
    (first | (go_at_call 37; (with_reducible refine (KT0.out _ ?_).mono ?_); exact St.sees (l := [(wB1.heap.size, 0, .int .i64 gt1), (wB1.heap.size, 1, .int .i64 ga1), (wB1.heap.size, 2, .slice Zcl1B1 cl1.len cl1.len), (wB0.heap.size, 0, .int .i64 gt0), (wB0.heap.size, 1, .int .i64 ga0), (wB0.heap.size, 2, .slice Zcl0B0 cl0.len cl0.len), (w.heap.size, 0, .int .i64 gt0), (w.heap.size, 1, .int .i64 ga0), (w.heap.size, 2, .slice Acl0 cl0.len Ccl0), (w.heap.size + 1, 0, .int .i64 gt1), (w.heap.size + 1, 1, .int .i64 ga1), (w.heap.size + 1, 2, .slice Acl1 cl1.len Ccl1)]) (by assumption); rintro e wE0 ⟨Zcl0E0, rfl, Mcl0E0, hbE0⟩; have TE0 := St.below (l := [(wB1.heap.size, 0, .int .i64 gt1), (wB1.heap.size, 1, .int .i64 ga1), (wB1.heap.size, 2, .slice Zcl1B1 cl1.len cl1.len), (wB0.heap.size, 0, .int .i64 gt0), (wB0.heap.size, 1, .int .i64 ga0), (wB0.heap.size, 2, .slice Zcl0B0 cl0.len cl0.len), (w.heap.size, 0, .int .i64 gt0), (w.heap.size, 1, .int .i64 ga0), (w.heap.size, 2, .slice Acl0 cl0.len Ccl0), (w.heap.size + 1, 0, .int .i64 gt1), (w.heap.size + 1, 1, .int .i64 ga1), (w.heap.size + 1, 2, .slice Acl1 cl1.len Ccl1)]) (by assumption) hbE0) | (go_at_call 39; refine (KE0.out _ _ _ ?_ ?_ ).mono ?_; (first | exact G5 | exact G5.drew | exact G5.drew.drew | exact G5.below hbE0 | exact G5.dbelow hbE0 | exact (G5.below hbE0).drew | exact (G5.dbelow hbE0).drew); (first | exact Mcl0E0 | exact Mcl0E0.drew | exact Mcl0E0.drew.drew); rintro e wF0 ⟨rfl, hbF0⟩; have TF0 := St.below (l := [(wB1.heap.size, 0, .int .i64 gt1), (wB1.heap.size, 1, .int .i64 ga1), (wB1.heap.size, 2, .slice Zcl1B1 cl1.len cl1.len), (wB0.heap.size, 0, .int .i64 gt0), (wB0.heap.size, 1, .int .i64 ga0), (wB0.heap.size, 2, .slice Zcl0B0 cl0.len cl0.len), (w.heap.size, 0, .int .i64 gt0), (w.heap.size, 1, .int .i64 ga0), (w.heap.size, 2, .slice Acl0 cl0.len Ccl0), (w.heap.size + 1, 0, .int .i64 gt1), (w.heap.size + 1, 1, .int .i64 ga1), (w.heap.size + 1, 2, .slice Acl1 cl1.len Ccl1)]) (by assumption) hbF0))
  clear x0 x1 x2 x3 x4 x5 x6 x7 x8 x9 x10 x11 x12
  clear H
  have H := Lib.hid TF0
  have G7 : cl0.Lies wE0 Zcl0B0 := by first | exact G5.below hbE0 | exact G5.dbelow hbE0
  clear G5
  have G8 : cl0.Lies wF0 Zcl0B0 := by first | exact G7.below hbF0 | exact G7.dbelow hbF0
  clear G7
  have G9 : cl1.Lies wE0 Zcl1B1 := by first | exact G6.below hbE0 | exact G6.dbelow hbE0
  clear G6
  have G10 : cl1.Lies wF0 Zcl1B1 := by first | exact G9.below hbF0 | exact G9.dbelow hbF0
  clear G9
  clear TF0 TE0 hbE0 hbF0 Mcl0E0
  obtain ⟨x0, x1, x2, x3, x4, x5, x6, x7, x8, x9, x10, x11, x12, _⟩ := H.out
  go_wp2_with fail
  go_region_held3 (fun w' => Sees w w' ∧ w'.cell? ⟨wB1.heap.size, 0, none⟩ = some (.int .i64 gt1) ∧ w'.cell? ⟨wB1.heap.size, 1, none⟩ = some (.int .i64 ga1) ∧ w'.cell? ⟨wB1.heap.size, 2, none⟩ = some (.slice Zcl1B1 cl1.len cl1.len) ∧ w'.cell? ⟨wB0.heap.size, 0, none⟩ = some (.int .i64 gt0) ∧ w'.cell? ⟨wB0.heap.size, 1, none⟩ = some (.int .i64 ga0) ∧ w'.cell? ⟨wB0.heap.size, 2, none⟩ = some (.slice Zcl0B0 cl0.len cl0.len) ∧ w'.cell? ⟨w.heap.size, 0, none⟩ = some (.int .i64 gt0) ∧ w'.cell? ⟨w.heap.size, 1, none⟩ = some (.int .i64 ga0) ∧ w'.cell? ⟨w.heap.size, 2, none⟩ = some (.slice Acl0 cl0.len Ccl0) ∧ w'.cell? ⟨w.heap.size + 1, 0, none⟩ = some (.int .i64 gt1) ∧ w'.cell? ⟨w.heap.size + 1, 1, none⟩ = some (.int .i64 ga1) ∧ w'.cell? ⟨w.heap.size + 1, 2, none⟩ = some (.slice Acl1 cl1.len Ccl1) ∧ True)
    (first | exact H.out.drew | exact TF1 | exact TE1 | (go_keep; done))
    (first | (go_at_call 37; (with_reducible refine (KT1.out _ ?_).mono ?_); exact St.sees (l := [(wB1.heap.size, 0, .int .i64 gt1), (wB1.heap.size, 1, .int .i64 ga1), (wB1.heap.size, 2, .slice Zcl1B1 cl1.len cl1.len), (wB0.heap.size, 0, .int .i64 gt0), (wB0.heap.size, 1, .int .i64 ga0), (wB0.heap.size, 2, .slice Zcl0B0 cl0.len cl0.len), (w.heap.size, 0, .int .i64 gt0), (w.heap.size, 1, .int .i64 ga0), (w.heap.size, 2, .slice Acl0 cl0.len Ccl0), (w.heap.size + 1, 0, .int .i64 gt1), (w.heap.size + 1, 1, .int .i64 ga1), (w.heap.size + 1, 2, .slice Acl1 cl1.len Ccl1)]) (by assumption); rintro e wE1 ⟨Zcl1E1, rfl, Mcl1E1, hbE1⟩; have TE1 := St.below (l := [(wB1.heap.size, 0, .int .i64 gt1), (wB1.heap.size, 1, .int .i64 ga1), (wB1.heap.size, 2, .slice Zcl1B1 cl1.len cl1.len), (wB0.heap.size, 0, .int .i64 gt0), (wB0.heap.size, 1, .int .i64 ga0), (wB0.heap.size, 2, .slice Zcl0B0 cl0.len cl0.len), (w.heap.size, 0, .int .i64 gt0), (w.heap.size, 1, .int .i64 ga0), (w.heap.size, 2, .slice Acl0 cl0.len Ccl0), (w.heap.size + 1, 0, .int .i64 gt1), (w.heap.size + 1, 1, .int .i64 ga1), (w.heap.size + 1, 2, .slice Acl1 cl1.len Ccl1)]) (by assumption) hbE1) | (go_at_call 39; refine (KE1.out _ _ _ ?_ ?_ ).mono ?_; (first | exact G10 | exact G10.drew | exact G10.drew.drew | exact G10.below hbE1 | exact G10.dbelow hbE1 | exact (G10.below hbE1).drew | exact (G10.dbelow hbE1).drew); (first | exact Mcl1E1 | exact Mcl1E1.drew | exact Mcl1E1.drew.drew); rintro e wF1 ⟨rfl, hbF1⟩; have TF1 := St.below (l := [(wB1.heap.size, 0, .int .i64 gt1), (wB1.heap.size, 1, .int .i64 ga1), (wB1.heap.size, 2, .slice Zcl1B1 cl1.len cl1.len), (wB0.heap.size, 0, .int .i64 gt0), (wB0.heap.size, 1, .int .i64 ga0), (wB0.heap.size, 2, .slice Zcl0B0 cl0.len cl0.len), (w.heap.size, 0, .int .i64 gt0), (w.heap.size, 1, .int .i64 ga0), (w.heap.size, 2, .slice Acl0 cl0.len Ccl0), (w.heap.size + 1, 0, .int .i64 gt1), (w.heap.size + 1, 1, .int .i64 ga1), (w.heap.size + 1, 2, .slice Acl1 cl1.len Ccl1)]) (by assumption) hbF1))
  clear x0 x1 x2 x3 x4 x5 x6 x7 x8 x9 x10 x11 x12
  clear H
  have H := Lib.hid TF1
  have G11 : cl0.Lies wE1 Zcl0B0 := by first | exact G8.below hbE1 | exact G8.dbelow hbE1
  clear G8
  have G12 : cl0.Lies wF1 Zcl0B0 := by first | exact G11.below hbF1 | exact G11.dbelow hbF1
  clear G11
  have G13 : cl1.Lies wE1 Zcl1B1 := by first | exact G10.below hbE1 | exact G10.dbelow hbE1
  clear G10
  have G14 : cl1.Lies wF1 Zcl1B1 := by first | exact G13.below hbF1 | exact G13.dbelow hbF1
  clear G13
  clear TF1 TE1 hbE1 hbF1 Mcl1E1
  go_wp2_with fail
  go_ret
  exact ⟨rfl, H.out.1⟩

end Go.Proofs.YtlpgkhdecccmlaaR
