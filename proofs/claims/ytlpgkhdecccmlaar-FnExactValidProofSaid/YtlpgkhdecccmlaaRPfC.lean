/- Contracts of laws.szProof, toProof, eqProof. -/
import Derived.Test.YtlpgkhdecccmlaaRClC
import Derived.Test.YtlpgkhdecccmlaaRUs
import Derived.Deep.DeepCutAuto
namespace Go.Proofs.YtlpgkhdecccmlaaR
open Go.RowKit
set_option linter.unusedVariables false

set_option maxHeartbeats 4000000 in
set_option maxRecDepth 100000 in
theorem szProof_u (gt : Int) (ga : Int) (cl : Cl) (hf_cl : cl.len ≤ 9223372036854775807 ∧ cl.Fits) (l : Int) (Acl : Option Addr) (Ccl : Nat) (w : World) (hl_cl : cl.Lies w Acl) (h1 : -1 ≤ l) (h2 : l ≤ 1048576) :
    Calls Try.prog 35 #[.agg #[.int .i64 gt, .int .i64 ga, .slice Acl cl.len Ccl], .int .i64 l] w fun e w' => e = .returned (.int .i64 (szR (cl.nodes) l)) ∧ Below w.heap.size w w' := by
  rw [show cl.nodes = cl.nodes from by omega]
  obtain ⟨z0, hz0⟩ : ∃ z : Int, z = szR (cl.nodes) l := ⟨_, rfl⟩
  have b0 := szR_bd (n := cl.nodes) (l := l) h2
  rw [← hz0] at b0
  have K0 : Hid (∀ W : World, Sees w W → Calls Try.prog 90 #[.slice Acl cl.len Ccl, .int .i64 l] W fun e w' => e = .returned (.int .i64 z0) ∧ Below W.heap.size W w') := fun W h => by rw [hz0]; exact szClaimS_u cl hf_cl l Acl Ccl W (hl_cl.sees h) h1 h2
  have E0 : Hid (z0 < 0 → -1 = szR (cl.nodes) l) := by intro g0; rw [← hz0]; rw [hz0] at g0 ⊢; exact (szR_lt g0).symm
  have EN : Hid (z0 = szR (cl.nodes) l) := by exact hz0
  clear hz0 b0 hl_cl
  go_enter Try.func35, Try.ntmps35
  go_wp2_with fail
  refine (K0.out _ (by unfold Sees; go_grown)).mono ?_
  rintro e w0 ⟨rfl, hb⟩
  have S0 : Hid (St w [] w0) := St.below ⟨(by unfold Sees; go_grown), trivial⟩ hb
  clear hb
  by_cases g0 : z0 < 0
  · have H := Lib.hid (E0.out g0)
    go_wp2_with fail
    go_ret
    exact ⟨ret_int H.out, S0.out.1⟩
  have H := Lib.hid (EN.out )
  go_wp2_with fail
  go_ret
  exact ⟨ret_int H.out, S0.out.1⟩

set_option maxHeartbeats 4000000 in
set_option maxRecDepth 100000 in
theorem toProof_u (gt : Int) (ga : Int) (cl : Cl) (hm : cl.nodes ≤ 1048576) (Acl : Option Addr) (Ccl : Nat) (w : World) (hl_cl : cl.Lies w Acl) :
    Calls Try.prog 37 #[.agg #[.int .i64 gt, .int .i64 ga, .slice Acl cl.len Ccl]] w fun e w' => ∃ Zcl, e = .returned (.agg #[.int .i64 gt, .int .i64 ga, .slice Zcl cl.len cl.len]) ∧ cl.LiesIn w' w.heap.size w'.heap.size Zcl ∧ Below w.heap.size w w' := by
  have K0 : Hid (∀ W : World, Sees w W → Calls Try.prog 14 #[.agg #[.int .i64 gt, .int .i64 ga]] W (fun e w' => e = .returned (.agg #[.int .i64 gt, .int .i64 ga]) ∧ Below W.heap.size W w')) := fun W h => (toSig_u gt ga (by omega)   W )
  have K1 : Hid (∀ W : World, Sees w W → Calls Try.prog 93 #[.slice Acl cl.len Ccl] W (fun e w' => ∃ Zcl, e = .returned (.slice Zcl cl.len cl.len) ∧ cl.LiesIn w' W.heap.size w'.heap.size Zcl ∧ Below W.heap.size W w')) := fun W h => (toClaimS_u cl (by omega) Acl Ccl W (hl_cl.sees h))
  clear hl_cl
  obtain ⟨W0, hW0⟩ : ∃ W0, W0 = ((w.alloc (.cells #[.int .i64 gt, .int .i64 ga, .slice Acl cl.len Ccl] 63)).alloc (.cells #[.int .i64 0, .int .i64 0, .slice none 0 0] 68)).alloc (.cells #[.int .i64 0, .int .i64 0, .slice none 0 0] 68) := ⟨_, rfl⟩
  have B0 : Sees w W0 := by rw [hW0]; exact (((Sees.refl w).alloc _).alloc _).alloc _
  have k0 : W0.heap[w.heap.size]? = some (.cells #[.int .i64 gt, .int .i64 ga, .slice Acl cl.len Ccl] 63 (0, 0)) := by rw [hW0]; exact (Below.heap_alloc _ _ _ (by simp; omega)).trans ((Below.heap_alloc _ _ _ (by simp)).trans (heap_new _ _ _ (by simp)))
  have k1 : W0.heap[w.heap.size + 1]? = some (.cells #[.int .i64 0, .int .i64 0, .slice none 0 0] 68 (0, 0)) := by rw [hW0]; exact (Below.heap_alloc _ _ _ (by simp)).trans (heap_new _ _ _ (by simp))
  have k2 : W0.heap[w.heap.size + 1 + 1]? = some (.cells #[.int .i64 0, .int .i64 0, .slice none 0 0] 68 (0, 0)) := by rw [hW0]; exact heap_new _ _ _ (by simp)
  have z0 : w.heap.size + 1 + 1 < W0.heap.size := by rw [hW0]; simp
  go_enter Try.func37, Try.ntmps37
  go_wp2_with fail
  rw [← hW0]
  clear hW0
  refine (K0.out _ B0).mono ?_
  rintro e w0 ⟨rfl, hb⟩
  have HB := Lib.hid (B0.below hb)
  have zw : w.heap.size + 1 + 1 < w0.heap.size := Nat.lt_of_lt_of_le z0 hb.size
  have HK0 := Lib.hid ((hb.block _ (by omega)).trans k0)
  have HK1 := Lib.hid ((hb.block _ (by omega)).trans k1)
  have HK2 := Lib.hid ((hb.block _ z0).trans k2)
  clear  hb B0 k0 k1 k2 z0 
  obtain ⟨p0, p1, p2, _, _, _⟩ := fc3 HK0.out
  obtain ⟨q0, q1, q2, g0, g1, g2⟩ := fc3 HK2.out
  go_wp2_with fail
  have B1 : Sees w ((w0.setCell ⟨w.heap.size + 1 + 1, 0, none⟩ (.int .i64 gt)).setCell ⟨w.heap.size + 1 + 1, 1, none⟩ (.int .i64 ga)) := (gt_sees (b := w.heap.size + 1 + 1) (i := 1) (gt_sees (b := w.heap.size + 1 + 1) (i := 0) HB.out (by omega) (.int .i64 gt)) (by omega) (.int .i64 ga))
  have k0 : ((w0.setCell ⟨w.heap.size + 1 + 1, 0, none⟩ (.int .i64 gt)).setCell ⟨w.heap.size + 1 + 1, 1, none⟩ (.int .i64 ga)).heap[w.heap.size]? = some (.cells #[.int .i64 gt, .int .i64 ga, .slice Acl cl.len Ccl] 63 (0, 0)) := (gt_other (b := w.heap.size + 1 + 1) (i := 1) (gt_other (b := w.heap.size + 1 + 1) (i := 0) HK0.out (by omega) (.int .i64 gt)) (by omega) (.int .i64 ga))
  have k1 : ((w0.setCell ⟨w.heap.size + 1 + 1, 0, none⟩ (.int .i64 gt)).setCell ⟨w.heap.size + 1 + 1, 1, none⟩ (.int .i64 ga)).heap[w.heap.size + 1]? = some (.cells #[.int .i64 0, .int .i64 0, .slice none 0 0] 68 (0, 0)) := (gt_other (b := w.heap.size + 1 + 1) (i := 1) (gt_other (b := w.heap.size + 1 + 1) (i := 0) HK1.out (by omega) (.int .i64 gt)) (by omega) (.int .i64 ga))
  have k2 : (w0.setCell ⟨w.heap.size + 1 + 1, 0, none⟩ (.int .i64 gt)).heap[w.heap.size + 1 + 1]? = some (.cells #[.int .i64 gt, .int .i64 0, .slice none 0 0] 68 (0, 0)) := by have h := blk_set (i := 0) HK2.out (.int .i64 gt); exact h
  have k2 : ((w0.setCell ⟨w.heap.size + 1 + 1, 0, none⟩ (.int .i64 gt)).setCell ⟨w.heap.size + 1 + 1, 1, none⟩ (.int .i64 ga)).heap[w.heap.size + 1 + 1]? = some (.cells #[.int .i64 gt, .int .i64 ga, .slice none 0 0] 68 (0, 0)) := by have h := blk_set (i := 1) k2 (.int .i64 ga); exact h
  have zs : ((w0.setCell ⟨w.heap.size + 1 + 1, 0, none⟩ (.int .i64 gt)).setCell ⟨w.heap.size + 1 + 1, 1, none⟩ (.int .i64 ga)).heap.size = w0.heap.size := by simp
  have z0 : w.heap.size + 1 + 1 < ((w0.setCell ⟨w.heap.size + 1 + 1, 0, none⟩ (.int .i64 gt)).setCell ⟨w.heap.size + 1 + 1, 1, none⟩ (.int .i64 ga)).heap.size := by rw [zs]; exact zw
  have ag : Fo.Agree w0 ((w0.setCell ⟨w.heap.size + 1 + 1, 0, none⟩ (.int .i64 gt)).setCell ⟨w.heap.size + 1 + 1, 1, none⟩ (.int .i64 ga)) (w.heap.size + 1 + 1 + 1) w0.heap.size := (Fo.Agree.setCell (Fo.Agree.setCell (Fo.Agree.refl _ _ _) ⟨w.heap.size + 1 + 1, 0, none⟩ (Or.inl (by show w.heap.size + 1 + 1 < _; omega)) (.int .i64 gt)) ⟨w.heap.size + 1 + 1, 1, none⟩ (Or.inl (by show w.heap.size + 1 + 1 < _; omega)) (.int .i64 ga))
  clear zs ag p0 q0 g0 p1 q1 g1 p2 q2 g2 HB HK0 HK1 HK2 zw 
  generalize ((w0.setCell ⟨w.heap.size + 1 + 1, 0, none⟩ (.int .i64 gt)).setCell ⟨w.heap.size + 1 + 1, 1, none⟩ (.int .i64 ga)) = V1 at B1 k0 k1 k2 z0  ⊢
  refine (K1.out _ B1).mono ?_
  rintro e w1 ⟨Zcl, rfl, qcl, hb⟩
  have HB := Lib.hid (B1.below hb)
  have zw : w.heap.size + 1 + 1 < w1.heap.size := Nat.lt_of_lt_of_le z0 hb.size
  have HK0 := Lib.hid ((hb.block _ (by omega)).trans k0)
  have HK1 := Lib.hid ((hb.block _ (by omega)).trans k1)
  have HK2 := Lib.hid ((hb.block _ z0).trans k2)
  have HQcl := Lib.hid (qcl.mono (lo' := w.heap.size + 1 + 1 + 1) z0 (Nat.le_refl _))
  clear qcl hb B1 k0 k1 k2 z0 
  obtain ⟨p0, p1, p2, _, _, _⟩ := fc3 HK0.out
  obtain ⟨q0, q1, q2, g0, g1, g2⟩ := fc3 HK2.out
  go_upto_region 4 with fail
  have B2 : Sees w (w1.setCell ⟨w.heap.size + 1 + 1, 2, none⟩ (.slice Zcl cl.len cl.len)) := (gt_sees (b := w.heap.size + 1 + 1) (i := 2) HB.out (by omega) (.slice Zcl cl.len cl.len))
  have k1 : (w1.setCell ⟨w.heap.size + 1 + 1, 2, none⟩ (.slice Zcl cl.len cl.len)).heap[w.heap.size + 1]? = some (.cells #[.int .i64 0, .int .i64 0, .slice none 0 0] 68 (0, 0)) := (gt_other (b := w.heap.size + 1 + 1) (i := 2) HK1.out (by omega) (.slice Zcl cl.len cl.len))
  have k2 : (w1.setCell ⟨w.heap.size + 1 + 1, 2, none⟩ (.slice Zcl cl.len cl.len)).heap[w.heap.size + 1 + 1]? = some (.cells #[.int .i64 gt, .int .i64 ga, .slice Zcl cl.len cl.len] 68 (0, 0)) := by have h := blk_set (i := 2) HK2.out (.slice Zcl cl.len cl.len); exact h
  have zs : (w1.setCell ⟨w.heap.size + 1 + 1, 2, none⟩ (.slice Zcl cl.len cl.len)).heap.size = w1.heap.size := by simp
  have z0 : w.heap.size + 1 + 1 < (w1.setCell ⟨w.heap.size + 1 + 1, 2, none⟩ (.slice Zcl cl.len cl.len)).heap.size := by rw [zs]; exact zw
  have ag : Fo.Agree w1 (w1.setCell ⟨w.heap.size + 1 + 1, 2, none⟩ (.slice Zcl cl.len cl.len)) (w.heap.size + 1 + 1 + 1) w1.heap.size := (Fo.Agree.setCell (Fo.Agree.refl _ _ _) ⟨w.heap.size + 1 + 1, 2, none⟩ (Or.inl (by show w.heap.size + 1 + 1 < _; omega)) (.slice Zcl cl.len cl.len))
  have Qcl : cl.LiesIn (w1.setCell ⟨w.heap.size + 1 + 1, 2, none⟩ (.slice Zcl cl.len cl.len)) (w.heap.size + 1 + 1 + 1) w1.heap.size Zcl := HQcl.out.agree ag
  rw [← zs] at Qcl
  clear zs ag p0 q0 g0 p1 q1 g1 p2 q2 g2 HB HK0 HK1 HK2 zw HQcl
  generalize (w1.setCell ⟨w.heap.size + 1 + 1, 2, none⟩ (.slice Zcl cl.len cl.len)) = V2 at B2 k1 k2 z0 Qcl ⊢
  have HB := Lib.hid B2; have HK1 := Lib.hid k1
  clear B2 k1 K0 K1
  obtain ⟨p0, p1, p2, g0, g1, g2⟩ := fc3 HK1.out
  obtain ⟨q0, q1, q2, _, _, _⟩ := fc3 k2
  clear k2
  go_wp2_with fail
  have Bf : Sees w (((V2.setCell ⟨w.heap.size + 1, 0, none⟩ (.int .i64 gt)).setCell ⟨w.heap.size + 1, 1, none⟩ (.int .i64 ga)).setCell ⟨w.heap.size + 1, 2, none⟩ (.slice Zcl cl.len cl.len)) := (gt_sees (b := w.heap.size + 1) (i := 2) (gt_sees (b := w.heap.size + 1) (i := 1) (gt_sees (b := w.heap.size + 1) (i := 0) HB.out (by omega) (.int .i64 gt)) (by omega) (.int .i64 ga)) (by omega) (.slice Zcl cl.len cl.len))
  have zs : (((V2.setCell ⟨w.heap.size + 1, 0, none⟩ (.int .i64 gt)).setCell ⟨w.heap.size + 1, 1, none⟩ (.int .i64 ga)).setCell ⟨w.heap.size + 1, 2, none⟩ (.slice Zcl cl.len cl.len)).heap.size = V2.heap.size := by simp
  have ag : Fo.Agree V2 (((V2.setCell ⟨w.heap.size + 1, 0, none⟩ (.int .i64 gt)).setCell ⟨w.heap.size + 1, 1, none⟩ (.int .i64 ga)).setCell ⟨w.heap.size + 1, 2, none⟩ (.slice Zcl cl.len cl.len)) (w.heap.size + 1 + 1 + 1) V2.heap.size := (Fo.Agree.setCell (Fo.Agree.setCell (Fo.Agree.setCell (Fo.Agree.refl _ _ _) ⟨w.heap.size + 1, 0, none⟩ (Or.inl (by show w.heap.size + 1 < _; omega)) (.int .i64 gt)) ⟨w.heap.size + 1, 1, none⟩ (Or.inl (by show w.heap.size + 1 < _; omega)) (.int .i64 ga)) ⟨w.heap.size + 1, 2, none⟩ (Or.inl (by show w.heap.size + 1 < _; omega)) (.slice Zcl cl.len cl.len))
  have Rcl : cl.LiesIn (((V2.setCell ⟨w.heap.size + 1, 0, none⟩ (.int .i64 gt)).setCell ⟨w.heap.size + 1, 1, none⟩ (.int .i64 ga)).setCell ⟨w.heap.size + 1, 2, none⟩ (.slice Zcl cl.len cl.len)) (w.heap.size + 1 + 1 + 1) V2.heap.size Zcl := Qcl.agree ag
  rw [← zs] at Rcl
  have kf : (V2.setCell ⟨w.heap.size + 1, 0, none⟩ (.int .i64 gt)).heap[w.heap.size + 1]? = some (.cells #[.int .i64 gt, .int .i64 0, .slice none 0 0] 68 (0, 0)) := by have h := blk_set (i := 0) HK1.out (.int .i64 gt); exact h
  have kf : ((V2.setCell ⟨w.heap.size + 1, 0, none⟩ (.int .i64 gt)).setCell ⟨w.heap.size + 1, 1, none⟩ (.int .i64 ga)).heap[w.heap.size + 1]? = some (.cells #[.int .i64 gt, .int .i64 ga, .slice none 0 0] 68 (0, 0)) := by have h := blk_set (i := 1) kf (.int .i64 ga); exact h
  have kf : (((V2.setCell ⟨w.heap.size + 1, 0, none⟩ (.int .i64 gt)).setCell ⟨w.heap.size + 1, 1, none⟩ (.int .i64 ga)).setCell ⟨w.heap.size + 1, 2, none⟩ (.slice Zcl cl.len cl.len)).heap[w.heap.size + 1]? = some (.cells #[.int .i64 gt, .int .i64 ga, .slice Zcl cl.len cl.len] 68 (0, 0)) := by have h := blk_set (i := 2) kf (.slice Zcl cl.len cl.len); exact h
  clear ag zs HB HK1 z0 Qcl p0 q0 g0 p1 q1 g1 p2 q2 g2
  generalize (((V2.setCell ⟨w.heap.size + 1, 0, none⟩ (.int .i64 gt)).setCell ⟨w.heap.size + 1, 1, none⟩ (.int .i64 ga)).setCell ⟨w.heap.size + 1, 2, none⟩ (.slice Zcl cl.len cl.len)) = V at Bf kf Rcl ⊢
  obtain ⟨p0, p1, p2, _, _, _⟩ := fc3 kf
  exact bodyPost_ret (v := .agg #[.int .i64 gt, .int .i64 ga, .slice Zcl cl.len cl.len]) (by simp [results, Try.results37, go_sem, p0, p1, p2]) rfl ⟨Zcl, rfl, Rcl.mono (by omega) (Nat.le_refl _), Bf⟩

set_option maxHeartbeats 4000000 in
set_option maxRecDepth 100000 in
theorem eqProof_u (gt : Int) (ga : Int) (cl : Cl) (hf_cl : cl.len ≤ 9223372036854775807 ∧ cl.Fits) (Acl Bcl : Option Addr) (Ccl Dcl : Nat) (w : World) (hl_cl : cl.Lies w Acl) (hr_cl : cl.Lies w Bcl) :
    Calls Try.prog 39 #[.agg #[.int .i64 gt, .int .i64 ga, .slice Acl cl.len Ccl], .agg #[.int .i64 gt, .int .i64 ga, .slice Bcl cl.len Dcl]] w fun e w' => e = .returned (.bool true) ∧ Below w.heap.size w w' := by
  have K0 : Hid (∀ W : World, Sees w W → Calls Try.prog 83 #[.agg #[.int .i64 gt, .int .i64 ga], .agg #[.int .i64 gt, .int .i64 ga]] W fun e w' => e = .returned (.bool true) ∧ Below W.heap.size W w') := fun W h => eqSig_u gt ga      W  
  have K1 : Hid (∀ W : World, Sees w W → Calls Try.prog 96 #[.slice Acl cl.len Ccl, .slice Bcl cl.len Dcl] W fun e w' => e = .returned (.bool true) ∧ Below W.heap.size W w') := fun W h => eqClaimS_u cl hf_cl Acl Bcl Ccl Dcl W (hl_cl.sees h) (hr_cl.sees h)
  clear hl_cl hr_cl
  go_enter Try.func39, Try.ntmps39
  go_wp2_with fail
  refine (K0.out _ (by unfold Sees; go_grown)).mono ?_
  rintro e w0 ⟨rfl, hb⟩
  have S0 : Hid (Sees w w0) := Sees.below (by unfold Sees; go_grown) hb
  have HB0 : w0.heap[w.heap.size]? = some (.cells #[.int .i64 gt, .int .i64 ga, .slice Acl cl.len Ccl] 68 (0, 0)) := (hb.block _ (by simp <;> omega)).trans ((Below.heap_alloc _ _ _ (by simp <;> omega)).trans (heap_new _ _ _ rfl))
  have HB1 : w0.heap[w.heap.size + 1]? = some (.cells #[.int .i64 gt, .int .i64 ga, .slice Bcl cl.len Dcl] 68 (0, 0)) := (hb.block _ (by simp <;> omega)).trans (heap_new _ _ _ (by simp))
  clear hb
  have H0 := Lib.hid HB0; have H1 := Lib.hid HB1
  clear HB0 HB1
  obtain ⟨c0, c1, c2, _, _, _⟩ := fc3 H0.out
  obtain ⟨d0, d1, d2, _, _, _⟩ := fc3 H1.out
  go_wp2_with fail
  clear c0 d0 c1 d1 c2 d2
  have HB0 := H0.out; have HB1 := H1.out
  clear H0 H1
  refine (K1.out _ S0.out).mono ?_
  rintro e w1 ⟨rfl, hb⟩
  have S1 := Lib.hid (Sees.below S0.out hb)
  have HB0 := (hb.block _ (Array.getElem?_eq_some_iff.1 HB0).1).trans HB0
  have HB1 := (hb.block _ (Array.getElem?_eq_some_iff.1 HB1).1).trans HB1
  clear hb
  clear HB0 HB1
  go_wp2_with fail
  go_ret
  exact ⟨rfl, S1.out⟩
end Go.Proofs.YtlpgkhdecccmlaaR
