/- Contracts of laws.szProofStep, toProofStep, eqProofStep and of their lists. -/
import Derived.Test.YtlpgkhdecccmlaaRUe
import Derived.Test.YtlpgkhdecccmlaaRPs
import Derived.Deep.DeepCutAuto
import Derived.StillTailTactics
namespace Go.Proofs.YtlpgkhdecccmlaaR
open Go.RowKit
set_option linter.unusedVariables false

set_option maxHeartbeats 4000000 in
set_option maxRecDepth 100000 in
theorem szProofStep_u (us : Int) (bk : Bool) (pa : Il) (te : Fo) (ac : Fo) (hf_pa : pa.len ≤ 9223372036854775807 ∧ pa.Fits) (hf_te : te.len ≤ 9223372036854775807 ∧ te.Fits) (hf_ac : ac.len ≤ 9223372036854775807 ∧ ac.Fits) (l : Int) (Apa Ate Aac : Option Addr) (Cpa Cte Cac : Nat) (w : World) (hl_pa : pa.Lies w Apa) (hl_te : te.Lies w Ate) (hl_ac : ac.Lies w Aac) (h1 : -1 ≤ l) (h2 : l ≤ 1048576) :
    Calls Try.prog 213 #[.agg #[.int .i64 us, .bool bk, .slice Apa pa.len Cpa, .slice Ate te.len Cte, .slice Aac ac.len Cac], .int .i64 l] w fun e w' => e = .returned (.int .i64 (szR (pa.nodes + te.nodes + ac.nodes) l)) ∧ Below w.heap.size w w' := by
  rw [show pa.nodes + te.nodes + ac.nodes = pa.nodes + (te.nodes + (ac.nodes)) from by omega]
  obtain ⟨z0, hz0⟩ : ∃ z : Int, z = szR (pa.nodes) l := ⟨_, rfl⟩
  have b0 := szR_bd (n := pa.nodes) (l := l) h2
  rw [← hz0] at b0
  have K0 : Hid (∀ W : World, Sees w W → Calls Try.prog 227 #[.slice Apa pa.len Cpa, .int .i64 l] W fun e w' => e = .returned (.int .i64 z0) ∧ Below W.heap.size W w') := fun W h => by rw [hz0]; exact szInt64S_u pa hf_pa l Apa Cpa W (hl_pa.sees h) h1 h2
  obtain ⟨z1, hz1⟩ : ∃ z : Int, z = szR (te.nodes) z0 := ⟨_, rfl⟩
  have b1 := szR_bd (n := te.nodes) (l := z0) b0.2
  rw [← hz1] at b1
  have K1 : Hid (∀ W : World, Sees w W → Calls Try.prog 59 #[.slice Ate te.len Cte, .int .i64 z0] W fun e w' => e = .returned (.int .i64 z1) ∧ Below W.heap.size W w') := fun W h => by rw [hz1]; exact szExprS_u te hf_te z0 Ate Cte W (hl_te.sees h) b0.1 b0.2
  obtain ⟨z2, hz2⟩ : ∃ z : Int, z = szR (ac.nodes) z1 := ⟨_, rfl⟩
  have b2 := szR_bd (n := ac.nodes) (l := z1) b1.2
  rw [← hz2] at b2
  have K2 : Hid (∀ W : World, Sees w W → Calls Try.prog 59 #[.slice Aac ac.len Cac, .int .i64 z1] W fun e w' => e = .returned (.int .i64 z2) ∧ Below W.heap.size W w') := fun W h => by rw [hz2]; exact szExprS_u ac hf_ac z1 Aac Cac W (hl_ac.sees h) b1.1 b1.2
  have E0 : Hid (z0 < 0 → -1 = szR (pa.nodes + (te.nodes + (ac.nodes))) l) := by intro g0; rw [szR_add, ← hz0, if_pos g0]
  have E1 : Hid (¬ z0 < 0 → z1 < 0 → -1 = szR (pa.nodes + (te.nodes + (ac.nodes))) l) := by intro g0 g1; rw [szR_add, ← hz0, if_neg g0, szR_add, ← hz1, if_pos g1]
  have E2 : Hid (¬ z0 < 0 → ¬ z1 < 0 → z2 < 0 → -1 = szR (pa.nodes + (te.nodes + (ac.nodes))) l) := by intro g0 g1 g2; rw [szR_add, ← hz0, if_neg g0, szR_add, ← hz1, if_neg g1, ← hz2]; rw [hz2] at g2 ⊢; exact (szR_lt g2).symm
  have EN : Hid (¬ z0 < 0 → ¬ z1 < 0 → z2 = szR (pa.nodes + (te.nodes + (ac.nodes))) l) := by intro g0 g1; rw [szR_add, ← hz0, if_neg g0, szR_add, ← hz1, if_neg g1, ← hz2]
  clear hz0 b0 hz1 b1 hz2 b2 hl_pa hl_te hl_ac
  go_enter Try.func213, Try.ntmps213
  go_wp2_with fail
  refine (K0.out _ (by unfold Sees; go_grown)).mono ?_
  rintro e w0 ⟨rfl, hb⟩
  have S0 : Hid (St w [(w.heap.size, 3, .slice Ate te.len Cte), (w.heap.size, 4, .slice Aac ac.len Cac)] w0) := St.below ⟨(by unfold Sees; go_grown), (by simp [go_sem]), (by simp [go_sem]), trivial⟩ hb
  clear hb
  by_cases g0 : z0 < 0
  · have H := Lib.hid (E0.out g0)
    go_wp2_with fail
    go_ret
    exact ⟨ret_int H.out, S0.out.1⟩
  obtain ⟨_, x0, x1, _⟩ := S0.out
  go_wp2_with fail
  clear x0 x1
  refine (K1.out _ S0.out.1).mono ?_
  rintro e w1 ⟨rfl, hb⟩
  have S1 := Lib.hid (S0.out.below hb)
  clear S0
  clear hb
  by_cases g1 : z1 < 0
  · have H := Lib.hid (E1.out g0 g1)
    go_wp2_with fail
    go_ret
    exact ⟨ret_int H.out, S1.out.1⟩
  obtain ⟨_, x0, x1, _⟩ := S1.out
  go_wp2_with fail
  clear x0 x1
  refine (K2.out _ S1.out.1).mono ?_
  rintro e w2 ⟨rfl, hb⟩
  have S2 := Lib.hid (S1.out.below hb)
  clear S1
  clear hb
  by_cases g2 : z2 < 0
  · have H := Lib.hid (E2.out g0 g1 g2)
    go_wp2_with fail
    go_ret
    exact ⟨ret_int H.out, S2.out.1⟩
  have H := Lib.hid (EN.out g0 g1)
  go_wp2_with fail
  go_ret
  exact ⟨ret_int H.out, S2.out.1⟩

set_option maxHeartbeats 4000000 in
set_option maxRecDepth 100000 in
theorem szProofStepS_u (f : Ps) (hf' : f.len ≤ 9223372036854775807 ∧ f.Fits) (l : Int) (A : Option Addr) (C : Nat) (w : World) (hl : f.Lies w A) (h1 : -1 ≤ l) (h2 : l ≤ 1048576) :
    Calls Try.prog 188 #[.slice A f.len C, .int .i64 l] w fun e w' => e = .returned (.int .i64 (szR f.nodes l)) ∧ Below w.heap.size w w' := by
  have hm := hf'.1
  have hf := hf'.2
  have hln := f.len_le_nodes
  by_cases hneg : l < f.len
  · rw [szR_neg (by omega)]
    go_enter Try.func188, Try.ntmps188
    go_wp2_with fail
    go_ret
    exact ⟨rfl, Below.refl _ _⟩
  · go_enter Try.func188, Try.ntmps188
    go_wp2_with fail
    go_loopw [1, 5] (fun x i wr => ∃ (j : Nat) (q : Int), j ≤ f.len ∧ 0 ≤ q ∧ q ≤ 1048576 ∧ x = .int .i64 q ∧ i = .int .i64 j ∧ Hid (q - (f.drop j).nodes + (f.drop j).len = l - f.nodes) ∧ Below w.heap.size w wr) (fun _ i _ => f.len - (intOf i).toNat)
    case atStart => exact ⟨0, _, Nat.zero_le _, by omega, by omega, rfl, rfl, by show _ = _; simp only [Ps.drop]; omega, Below.refl _ _⟩
    case round =>
      obtain ⟨j, q, hj, hq0, hq1, rfl, rfl, hq, hb⟩ := hrel
      by_cases hjl : j < f.len
      · obtain ⟨b, o, rfl, hat⟩ := hl (by rintro rfl; simp [Ps.len] at hjl)
        have hat' := hat.later (w' := wr) (fun b o hlt => hb.cell (p := ⟨b, o, none⟩) hlt)
        obtain ⟨us, bk, pa, te, ac, r, Apa, Cpa, Ate, Cte, Aac, Cac, e1, e2, c0, c1, c2, hl_pa, c3, hl_te, c4, hl_ac⟩ := Ps.Lies.row hat' hjl
        have hfd := Ps.fits_drop hf j
        have hnd := f.nodes_drop j
        have hlr := (f.drop (j + 1)).len_le_nodes
        rw [e1.out] at hfd hnd
        skip
        have Q1 : Hid (szR (pa.nodes + te.nodes + ac.nodes) q = -1 ∧ l < f.nodes ∨ 0 ≤ szR (pa.nodes + te.nodes + ac.nodes) q ∧ szR (pa.nodes + te.nodes + ac.nodes) q ≤ 1048576 ∧ szR (pa.nodes + te.nodes + ac.nodes) q - (f.drop (j + 1)).nodes + (f.drop (j + 1)).len = l - f.nodes) := by
          have := hq.out
          rw [e1.out] at this
          simp only [Ps.nodes, Ps.len] at this
          rw [← e2.out] at this
          by_cases hx : q < (pa.nodes + te.nodes + ac.nodes : Nat)
          · exact Or.inl ⟨szR_neg hx, by omega⟩
          · rw [szR_pos (by omega)]
            exact Or.inr ⟨by omega, by omega, by omega⟩
        obtain ⟨z, hz⟩ : ∃ z, z = szR (pa.nodes + te.nodes + ac.nodes) q := ⟨_, rfl⟩
        have KC : Hid (∀ W : World, pa.Lies W Apa → te.Lies W Ate → ac.Lies W Aac → Calls Try.prog 213 #[.agg #[.int .i64 us, .bool bk, .slice Apa pa.len Cpa, .slice Ate te.len Cte, .slice Aac ac.len Cac], .int .i64 q] W fun e w' => e = .returned (.int .i64 z) ∧ Below W.heap.size W w') := fun W ypa yte yac => by
          rw [hz]
          exact szProofStep_u us bk pa te ac (hfd.1) (hfd.2.1) (hfd.2.2.1) q Apa Ate Aac Cpa Cte Cac W ypa yte yac (by omega) hq1
        rw [← hz] at Q1
        clear hq hfd hnd hlr hz
        go_wp2_with fail
        refine (KC.out _ hl_pa hl_te hl_ac).mono ?_; rintro e w1 ⟨rfl, hb1⟩
        have hb2 := hb.trans (hb1.mono hb.size)
        rcases Q1.out with ⟨hx, hy⟩ | ⟨hx0, hx1, hx2⟩
        · subst hx
          clear Q1 KC
          go_wp2_with fail
          go_ret
          exact ⟨ret_int (szR_neg hy).symm, hb2⟩
        · have HX := Lib.hid hx2; clear hx2 Q1 KC
          have hx3 : ¬ z < 0 := by omega
          go_wp2_with fail
          go_roundw
          case rel => exact ⟨j + 1, _, by omega, hx0, hx1, rfl, by go_num, HX.out, hb2⟩
          case measure => simp [intOf]; omega
      · obtain rfl : j = f.len := by omega
        have hq' := hq.out
        rw [Ps.drop_len] at hq'
        simp only [Ps.nodes, Ps.len] at hq'
        have hz : szR f.nodes l = q := by rw [szR_pos (by omega)]; omega
        clear hq' hq
        have HZ := Lib.hid hz; clear hz
        go_wp2_with fail
        go_ret
        exact ⟨ret_int HZ.out.symm, hb⟩

set_option maxHeartbeats 4000000 in
set_option maxRecDepth 100000 in
theorem toProofStep_u (us : Int) (bk : Bool) (pa : Il) (te : Fo) (ac : Fo) (hm : pa.nodes + te.nodes + ac.nodes ≤ 1048576) (Apa Ate Aac : Option Addr) (Cpa Cte Cac : Nat) (w : World) (hl_pa : pa.Lies w Apa) (hl_te : te.Lies w Ate) (hl_ac : ac.Lies w Aac) :
    Calls Try.prog 214 #[.agg #[.int .i64 us, .bool bk, .slice Apa pa.len Cpa, .slice Ate te.len Cte, .slice Aac ac.len Cac]] w fun e w' => ∃ Zpa Zte Zac, e = .returned (.agg #[.int .i64 us, .bool bk, .slice Zpa pa.len pa.len, .slice Zte te.len te.len, .slice Zac ac.len ac.len]) ∧ pa.LiesIn w' w.heap.size w'.heap.size Zpa ∧ te.LiesIn w' w.heap.size w'.heap.size Zte ∧ ac.LiesIn w' w.heap.size w'.heap.size Zac ∧ Below w.heap.size w w' := by
  have K0 : Hid (∀ W : World, Sees w W → Calls Try.prog 23 #[.slice Apa pa.len Cpa] W (fun e w' => ∃ Zpa, e = .returned (.slice Zpa pa.len pa.len) ∧ pa.LiesIn w' W.heap.size w'.heap.size Zpa ∧ Below W.heap.size W w')) := fun W h => (toInt64S_u pa (by omega) Apa Cpa W (hl_pa.sees h))
  have K1 : Hid (∀ W : World, Sees w W → Calls Try.prog 63 #[.slice Ate te.len Cte] W (fun e w' => ∃ Zte, e = .returned (.slice Zte te.len te.len) ∧ te.LiesIn w' W.heap.size w'.heap.size Zte ∧ Below W.heap.size W w')) := fun W h => (toExprS_u te (by omega) Ate Cte W (hl_te.sees h))
  have K2 : Hid (∀ W : World, Sees w W → Calls Try.prog 63 #[.slice Aac ac.len Cac] W (fun e w' => ∃ Zac, e = .returned (.slice Zac ac.len ac.len) ∧ ac.LiesIn w' W.heap.size w'.heap.size Zac ∧ Below W.heap.size W w')) := fun W h => (toExprS_u ac (by omega) Aac Cac W (hl_ac.sees h))
  clear hl_pa hl_te hl_ac
  obtain ⟨W0, hW0⟩ : ∃ W0, W0 = ((w.alloc (.cells #[.int .i64 us, .bool bk, .slice Apa pa.len Cpa, .slice Ate te.len Cte, .slice Aac ac.len Cac] 286)).alloc (.cells #[.int .i64 0, .bool false, .slice none 0 0, .slice none 0 0, .slice none 0 0] 220)).alloc (.cells #[.int .i64 us, .bool bk, .slice none 0 0, .slice none 0 0, .slice none 0 0] 220) := ⟨_, rfl⟩
  have B0 : Sees w W0 := by rw [hW0]; exact (((Sees.refl w).alloc _).alloc _).alloc _
  have k0 : W0.heap[w.heap.size]? = some (.cells #[.int .i64 us, .bool bk, .slice Apa pa.len Cpa, .slice Ate te.len Cte, .slice Aac ac.len Cac] 286 (0, 0)) := by rw [hW0]; exact (Below.heap_alloc _ _ _ (by simp; omega)).trans ((Below.heap_alloc _ _ _ (by simp)).trans (heap_new _ _ _ (by simp)))
  have k1 : W0.heap[w.heap.size + 1]? = some (.cells #[.int .i64 0, .bool false, .slice none 0 0, .slice none 0 0, .slice none 0 0] 220 (0, 0)) := by rw [hW0]; exact (Below.heap_alloc _ _ _ (by simp)).trans (heap_new _ _ _ (by simp))
  have k2 : W0.heap[w.heap.size + 1 + 1]? = some (.cells #[.int .i64 us, .bool bk, .slice none 0 0, .slice none 0 0, .slice none 0 0] 220 (0, 0)) := by rw [hW0]; exact heap_new _ _ _ (by simp)
  have z0 : w.heap.size + 1 + 1 < W0.heap.size := by rw [hW0]; simp
  go_enter Try.func214, Try.ntmps214
  go_wp2_with fail
  rw [← hW0]
  clear hW0
  refine (K0.out _ B0).mono ?_
  rintro e w0 ⟨Zpa, rfl, qpa, hb⟩
  have HB := Lib.hid (B0.below hb)
  have zw : w.heap.size + 1 + 1 < w0.heap.size := Nat.lt_of_lt_of_le z0 hb.size
  have HK0 := Lib.hid ((hb.block _ (by omega)).trans k0)
  have HK1 := Lib.hid ((hb.block _ (by omega)).trans k1)
  have HK2 := Lib.hid ((hb.block _ z0).trans k2)
  have HQpa := Lib.hid (qpa.mono (lo' := w.heap.size + 1 + 1 + 1) z0 (Nat.le_refl _))
  clear qpa hb B0 k0 k1 k2 z0 
  obtain ⟨p0, p1, p2, p3, p4, _, _, _, _, _⟩ := fc5 HK0.out
  obtain ⟨q0, q1, q2, q3, q4, g0, g1, g2, g3, g4⟩ := fc5 HK2.out
  go_wp2_with fail
  have B1 : Sees w (w0.setCell ⟨w.heap.size + 1 + 1, 2, none⟩ (.slice Zpa pa.len pa.len)) := (gt_sees (b := w.heap.size + 1 + 1) (i := 2) HB.out (by omega) (.slice Zpa pa.len pa.len))
  have k0 : (w0.setCell ⟨w.heap.size + 1 + 1, 2, none⟩ (.slice Zpa pa.len pa.len)).heap[w.heap.size]? = some (.cells #[.int .i64 us, .bool bk, .slice Apa pa.len Cpa, .slice Ate te.len Cte, .slice Aac ac.len Cac] 286 (0, 0)) := (gt_other (b := w.heap.size + 1 + 1) (i := 2) HK0.out (by omega) (.slice Zpa pa.len pa.len))
  have k1 : (w0.setCell ⟨w.heap.size + 1 + 1, 2, none⟩ (.slice Zpa pa.len pa.len)).heap[w.heap.size + 1]? = some (.cells #[.int .i64 0, .bool false, .slice none 0 0, .slice none 0 0, .slice none 0 0] 220 (0, 0)) := (gt_other (b := w.heap.size + 1 + 1) (i := 2) HK1.out (by omega) (.slice Zpa pa.len pa.len))
  have k2 : (w0.setCell ⟨w.heap.size + 1 + 1, 2, none⟩ (.slice Zpa pa.len pa.len)).heap[w.heap.size + 1 + 1]? = some (.cells #[.int .i64 us, .bool bk, .slice Zpa pa.len pa.len, .slice none 0 0, .slice none 0 0] 220 (0, 0)) := by have h := blk_set (i := 2) HK2.out (.slice Zpa pa.len pa.len); exact h
  have zs : (w0.setCell ⟨w.heap.size + 1 + 1, 2, none⟩ (.slice Zpa pa.len pa.len)).heap.size = w0.heap.size := by simp
  have z0 : w.heap.size + 1 + 1 < (w0.setCell ⟨w.heap.size + 1 + 1, 2, none⟩ (.slice Zpa pa.len pa.len)).heap.size := by rw [zs]; exact zw
  have ag : Fo.Agree w0 (w0.setCell ⟨w.heap.size + 1 + 1, 2, none⟩ (.slice Zpa pa.len pa.len)) (w.heap.size + 1 + 1 + 1) w0.heap.size := (Fo.Agree.setCell (Fo.Agree.refl _ _ _) ⟨w.heap.size + 1 + 1, 2, none⟩ (Or.inl (by show w.heap.size + 1 + 1 < _; omega)) (.slice Zpa pa.len pa.len))
  have Qpa : pa.LiesIn (w0.setCell ⟨w.heap.size + 1 + 1, 2, none⟩ (.slice Zpa pa.len pa.len)) (w.heap.size + 1 + 1 + 1) w0.heap.size Zpa := HQpa.out.agree ag
  rw [← zs] at Qpa
  clear zs ag p0 q0 g0 p1 q1 g1 p2 q2 g2 p3 q3 g3 p4 q4 g4 HB HK0 HK1 HK2 zw HQpa
  generalize (w0.setCell ⟨w.heap.size + 1 + 1, 2, none⟩ (.slice Zpa pa.len pa.len)) = V1 at B1 k0 k1 k2 z0 Qpa ⊢
  refine (K1.out _ B1).mono ?_
  rintro e w1 ⟨Zte, rfl, qte, hb⟩
  have HB := Lib.hid (B1.below hb)
  have zw : w.heap.size + 1 + 1 < w1.heap.size := Nat.lt_of_lt_of_le z0 hb.size
  have HK0 := Lib.hid ((hb.block _ (by omega)).trans k0)
  have HK1 := Lib.hid ((hb.block _ (by omega)).trans k1)
  have HK2 := Lib.hid ((hb.block _ z0).trans k2)
  have HQpa := Lib.hid ((Qpa.agree (Fo.Agree.of_below hb)).mono (Nat.le_refl _) hb.size)
  have HQte := Lib.hid (qte.mono (lo' := w.heap.size + 1 + 1 + 1) z0 (Nat.le_refl _))
  clear qte hb B1 k0 k1 k2 z0 Qpa
  obtain ⟨p0, p1, p2, p3, p4, _, _, _, _, _⟩ := fc5 HK0.out
  obtain ⟨q0, q1, q2, q3, q4, g0, g1, g2, g3, g4⟩ := fc5 HK2.out
  go_wp2_with fail
  have B2 : Sees w (w1.setCell ⟨w.heap.size + 1 + 1, 3, none⟩ (.slice Zte te.len te.len)) := (gt_sees (b := w.heap.size + 1 + 1) (i := 3) HB.out (by omega) (.slice Zte te.len te.len))
  have k0 : (w1.setCell ⟨w.heap.size + 1 + 1, 3, none⟩ (.slice Zte te.len te.len)).heap[w.heap.size]? = some (.cells #[.int .i64 us, .bool bk, .slice Apa pa.len Cpa, .slice Ate te.len Cte, .slice Aac ac.len Cac] 286 (0, 0)) := (gt_other (b := w.heap.size + 1 + 1) (i := 3) HK0.out (by omega) (.slice Zte te.len te.len))
  have k1 : (w1.setCell ⟨w.heap.size + 1 + 1, 3, none⟩ (.slice Zte te.len te.len)).heap[w.heap.size + 1]? = some (.cells #[.int .i64 0, .bool false, .slice none 0 0, .slice none 0 0, .slice none 0 0] 220 (0, 0)) := (gt_other (b := w.heap.size + 1 + 1) (i := 3) HK1.out (by omega) (.slice Zte te.len te.len))
  have k2 : (w1.setCell ⟨w.heap.size + 1 + 1, 3, none⟩ (.slice Zte te.len te.len)).heap[w.heap.size + 1 + 1]? = some (.cells #[.int .i64 us, .bool bk, .slice Zpa pa.len pa.len, .slice Zte te.len te.len, .slice none 0 0] 220 (0, 0)) := by have h := blk_set (i := 3) HK2.out (.slice Zte te.len te.len); exact h
  have zs : (w1.setCell ⟨w.heap.size + 1 + 1, 3, none⟩ (.slice Zte te.len te.len)).heap.size = w1.heap.size := by simp
  have z0 : w.heap.size + 1 + 1 < (w1.setCell ⟨w.heap.size + 1 + 1, 3, none⟩ (.slice Zte te.len te.len)).heap.size := by rw [zs]; exact zw
  have ag : Fo.Agree w1 (w1.setCell ⟨w.heap.size + 1 + 1, 3, none⟩ (.slice Zte te.len te.len)) (w.heap.size + 1 + 1 + 1) w1.heap.size := (Fo.Agree.setCell (Fo.Agree.refl _ _ _) ⟨w.heap.size + 1 + 1, 3, none⟩ (Or.inl (by show w.heap.size + 1 + 1 < _; omega)) (.slice Zte te.len te.len))
  have Qpa : pa.LiesIn (w1.setCell ⟨w.heap.size + 1 + 1, 3, none⟩ (.slice Zte te.len te.len)) (w.heap.size + 1 + 1 + 1) w1.heap.size Zpa := HQpa.out.agree ag
  have Qte : te.LiesIn (w1.setCell ⟨w.heap.size + 1 + 1, 3, none⟩ (.slice Zte te.len te.len)) (w.heap.size + 1 + 1 + 1) w1.heap.size Zte := HQte.out.agree ag
  rw [← zs] at Qpa Qte
  clear zs ag p0 q0 g0 p1 q1 g1 p2 q2 g2 p3 q3 g3 p4 q4 g4 HB HK0 HK1 HK2 zw HQpa HQte
  generalize (w1.setCell ⟨w.heap.size + 1 + 1, 3, none⟩ (.slice Zte te.len te.len)) = V2 at B2 k0 k1 k2 z0 Qpa Qte ⊢
  refine (K2.out _ B2).mono ?_
  rintro e w2 ⟨Zac, rfl, qac, hb⟩
  have HB := Lib.hid (B2.below hb)
  have zw : w.heap.size + 1 + 1 < w2.heap.size := Nat.lt_of_lt_of_le z0 hb.size
  have HK0 := Lib.hid ((hb.block _ (by omega)).trans k0)
  have HK1 := Lib.hid ((hb.block _ (by omega)).trans k1)
  have HK2 := Lib.hid ((hb.block _ z0).trans k2)
  have HQpa := Lib.hid ((Qpa.agree (Fo.Agree.of_below hb)).mono (Nat.le_refl _) hb.size)
  have HQte := Lib.hid ((Qte.agree (Fo.Agree.of_below hb)).mono (Nat.le_refl _) hb.size)
  have HQac := Lib.hid (qac.mono (lo' := w.heap.size + 1 + 1 + 1) z0 (Nat.le_refl _))
  clear qac hb B2 k0 k1 k2 z0 Qpa Qte
  obtain ⟨p0, p1, p2, p3, p4, _, _, _, _, _⟩ := fc5 HK0.out
  obtain ⟨q0, q1, q2, q3, q4, g0, g1, g2, g3, g4⟩ := fc5 HK2.out
  go_upto_region 7 with fail
  have B3 : Sees w (w2.setCell ⟨w.heap.size + 1 + 1, 4, none⟩ (.slice Zac ac.len ac.len)) := (gt_sees (b := w.heap.size + 1 + 1) (i := 4) HB.out (by omega) (.slice Zac ac.len ac.len))
  have k1 : (w2.setCell ⟨w.heap.size + 1 + 1, 4, none⟩ (.slice Zac ac.len ac.len)).heap[w.heap.size + 1]? = some (.cells #[.int .i64 0, .bool false, .slice none 0 0, .slice none 0 0, .slice none 0 0] 220 (0, 0)) := (gt_other (b := w.heap.size + 1 + 1) (i := 4) HK1.out (by omega) (.slice Zac ac.len ac.len))
  have k2 : (w2.setCell ⟨w.heap.size + 1 + 1, 4, none⟩ (.slice Zac ac.len ac.len)).heap[w.heap.size + 1 + 1]? = some (.cells #[.int .i64 us, .bool bk, .slice Zpa pa.len pa.len, .slice Zte te.len te.len, .slice Zac ac.len ac.len] 220 (0, 0)) := by have h := blk_set (i := 4) HK2.out (.slice Zac ac.len ac.len); exact h
  have zs : (w2.setCell ⟨w.heap.size + 1 + 1, 4, none⟩ (.slice Zac ac.len ac.len)).heap.size = w2.heap.size := by simp
  have z0 : w.heap.size + 1 + 1 < (w2.setCell ⟨w.heap.size + 1 + 1, 4, none⟩ (.slice Zac ac.len ac.len)).heap.size := by rw [zs]; exact zw
  have ag : Fo.Agree w2 (w2.setCell ⟨w.heap.size + 1 + 1, 4, none⟩ (.slice Zac ac.len ac.len)) (w.heap.size + 1 + 1 + 1) w2.heap.size := (Fo.Agree.setCell (Fo.Agree.refl _ _ _) ⟨w.heap.size + 1 + 1, 4, none⟩ (Or.inl (by show w.heap.size + 1 + 1 < _; omega)) (.slice Zac ac.len ac.len))
  have Qpa : pa.LiesIn (w2.setCell ⟨w.heap.size + 1 + 1, 4, none⟩ (.slice Zac ac.len ac.len)) (w.heap.size + 1 + 1 + 1) w2.heap.size Zpa := HQpa.out.agree ag
  have Qte : te.LiesIn (w2.setCell ⟨w.heap.size + 1 + 1, 4, none⟩ (.slice Zac ac.len ac.len)) (w.heap.size + 1 + 1 + 1) w2.heap.size Zte := HQte.out.agree ag
  have Qac : ac.LiesIn (w2.setCell ⟨w.heap.size + 1 + 1, 4, none⟩ (.slice Zac ac.len ac.len)) (w.heap.size + 1 + 1 + 1) w2.heap.size Zac := HQac.out.agree ag
  rw [← zs] at Qpa Qte Qac
  clear zs ag p0 q0 g0 p1 q1 g1 p2 q2 g2 p3 q3 g3 p4 q4 g4 HB HK0 HK1 HK2 zw HQpa HQte HQac
  generalize (w2.setCell ⟨w.heap.size + 1 + 1, 4, none⟩ (.slice Zac ac.len ac.len)) = V3 at B3 k1 k2 z0 Qpa Qte Qac ⊢
  have HB := Lib.hid B3; have HK1 := Lib.hid k1
  clear B3 k1 K0 K1 K2
  obtain ⟨p0, p1, p2, p3, p4, g0, g1, g2, g3, g4⟩ := fc5 HK1.out
  obtain ⟨q0, q1, q2, q3, q4, _, _, _, _, _⟩ := fc5 k2
  clear k2
  go_wp2_with fail
  have Bf : Sees w (((((V3.setCell ⟨w.heap.size + 1, 0, none⟩ (.int .i64 us)).setCell ⟨w.heap.size + 1, 1, none⟩ (.bool bk)).setCell ⟨w.heap.size + 1, 2, none⟩ (.slice Zpa pa.len pa.len)).setCell ⟨w.heap.size + 1, 3, none⟩ (.slice Zte te.len te.len)).setCell ⟨w.heap.size + 1, 4, none⟩ (.slice Zac ac.len ac.len)) := (gt_sees (b := w.heap.size + 1) (i := 4) (gt_sees (b := w.heap.size + 1) (i := 3) (gt_sees (b := w.heap.size + 1) (i := 2) (gt_sees (b := w.heap.size + 1) (i := 1) (gt_sees (b := w.heap.size + 1) (i := 0) HB.out (by omega) (.int .i64 us)) (by omega) (.bool bk)) (by omega) (.slice Zpa pa.len pa.len)) (by omega) (.slice Zte te.len te.len)) (by omega) (.slice Zac ac.len ac.len))
  have zs : (((((V3.setCell ⟨w.heap.size + 1, 0, none⟩ (.int .i64 us)).setCell ⟨w.heap.size + 1, 1, none⟩ (.bool bk)).setCell ⟨w.heap.size + 1, 2, none⟩ (.slice Zpa pa.len pa.len)).setCell ⟨w.heap.size + 1, 3, none⟩ (.slice Zte te.len te.len)).setCell ⟨w.heap.size + 1, 4, none⟩ (.slice Zac ac.len ac.len)).heap.size = V3.heap.size := by simp
  have ag : Fo.Agree V3 (((((V3.setCell ⟨w.heap.size + 1, 0, none⟩ (.int .i64 us)).setCell ⟨w.heap.size + 1, 1, none⟩ (.bool bk)).setCell ⟨w.heap.size + 1, 2, none⟩ (.slice Zpa pa.len pa.len)).setCell ⟨w.heap.size + 1, 3, none⟩ (.slice Zte te.len te.len)).setCell ⟨w.heap.size + 1, 4, none⟩ (.slice Zac ac.len ac.len)) (w.heap.size + 1 + 1 + 1) V3.heap.size := (Fo.Agree.setCell (Fo.Agree.setCell (Fo.Agree.setCell (Fo.Agree.setCell (Fo.Agree.setCell (Fo.Agree.refl _ _ _) ⟨w.heap.size + 1, 0, none⟩ (Or.inl (by show w.heap.size + 1 < _; omega)) (.int .i64 us)) ⟨w.heap.size + 1, 1, none⟩ (Or.inl (by show w.heap.size + 1 < _; omega)) (.bool bk)) ⟨w.heap.size + 1, 2, none⟩ (Or.inl (by show w.heap.size + 1 < _; omega)) (.slice Zpa pa.len pa.len)) ⟨w.heap.size + 1, 3, none⟩ (Or.inl (by show w.heap.size + 1 < _; omega)) (.slice Zte te.len te.len)) ⟨w.heap.size + 1, 4, none⟩ (Or.inl (by show w.heap.size + 1 < _; omega)) (.slice Zac ac.len ac.len))
  have Rpa : pa.LiesIn (((((V3.setCell ⟨w.heap.size + 1, 0, none⟩ (.int .i64 us)).setCell ⟨w.heap.size + 1, 1, none⟩ (.bool bk)).setCell ⟨w.heap.size + 1, 2, none⟩ (.slice Zpa pa.len pa.len)).setCell ⟨w.heap.size + 1, 3, none⟩ (.slice Zte te.len te.len)).setCell ⟨w.heap.size + 1, 4, none⟩ (.slice Zac ac.len ac.len)) (w.heap.size + 1 + 1 + 1) V3.heap.size Zpa := Qpa.agree ag
  have Rte : te.LiesIn (((((V3.setCell ⟨w.heap.size + 1, 0, none⟩ (.int .i64 us)).setCell ⟨w.heap.size + 1, 1, none⟩ (.bool bk)).setCell ⟨w.heap.size + 1, 2, none⟩ (.slice Zpa pa.len pa.len)).setCell ⟨w.heap.size + 1, 3, none⟩ (.slice Zte te.len te.len)).setCell ⟨w.heap.size + 1, 4, none⟩ (.slice Zac ac.len ac.len)) (w.heap.size + 1 + 1 + 1) V3.heap.size Zte := Qte.agree ag
  have Rac : ac.LiesIn (((((V3.setCell ⟨w.heap.size + 1, 0, none⟩ (.int .i64 us)).setCell ⟨w.heap.size + 1, 1, none⟩ (.bool bk)).setCell ⟨w.heap.size + 1, 2, none⟩ (.slice Zpa pa.len pa.len)).setCell ⟨w.heap.size + 1, 3, none⟩ (.slice Zte te.len te.len)).setCell ⟨w.heap.size + 1, 4, none⟩ (.slice Zac ac.len ac.len)) (w.heap.size + 1 + 1 + 1) V3.heap.size Zac := Qac.agree ag
  rw [← zs] at Rpa Rte Rac
  have kf : (V3.setCell ⟨w.heap.size + 1, 0, none⟩ (.int .i64 us)).heap[w.heap.size + 1]? = some (.cells #[.int .i64 us, .bool false, .slice none 0 0, .slice none 0 0, .slice none 0 0] 220 (0, 0)) := by have h := blk_set (i := 0) HK1.out (.int .i64 us); exact h
  have kf : ((V3.setCell ⟨w.heap.size + 1, 0, none⟩ (.int .i64 us)).setCell ⟨w.heap.size + 1, 1, none⟩ (.bool bk)).heap[w.heap.size + 1]? = some (.cells #[.int .i64 us, .bool bk, .slice none 0 0, .slice none 0 0, .slice none 0 0] 220 (0, 0)) := by have h := blk_set (i := 1) kf (.bool bk); exact h
  have kf : (((V3.setCell ⟨w.heap.size + 1, 0, none⟩ (.int .i64 us)).setCell ⟨w.heap.size + 1, 1, none⟩ (.bool bk)).setCell ⟨w.heap.size + 1, 2, none⟩ (.slice Zpa pa.len pa.len)).heap[w.heap.size + 1]? = some (.cells #[.int .i64 us, .bool bk, .slice Zpa pa.len pa.len, .slice none 0 0, .slice none 0 0] 220 (0, 0)) := by have h := blk_set (i := 2) kf (.slice Zpa pa.len pa.len); exact h
  have kf : ((((V3.setCell ⟨w.heap.size + 1, 0, none⟩ (.int .i64 us)).setCell ⟨w.heap.size + 1, 1, none⟩ (.bool bk)).setCell ⟨w.heap.size + 1, 2, none⟩ (.slice Zpa pa.len pa.len)).setCell ⟨w.heap.size + 1, 3, none⟩ (.slice Zte te.len te.len)).heap[w.heap.size + 1]? = some (.cells #[.int .i64 us, .bool bk, .slice Zpa pa.len pa.len, .slice Zte te.len te.len, .slice none 0 0] 220 (0, 0)) := by have h := blk_set (i := 3) kf (.slice Zte te.len te.len); exact h
  have kf : (((((V3.setCell ⟨w.heap.size + 1, 0, none⟩ (.int .i64 us)).setCell ⟨w.heap.size + 1, 1, none⟩ (.bool bk)).setCell ⟨w.heap.size + 1, 2, none⟩ (.slice Zpa pa.len pa.len)).setCell ⟨w.heap.size + 1, 3, none⟩ (.slice Zte te.len te.len)).setCell ⟨w.heap.size + 1, 4, none⟩ (.slice Zac ac.len ac.len)).heap[w.heap.size + 1]? = some (.cells #[.int .i64 us, .bool bk, .slice Zpa pa.len pa.len, .slice Zte te.len te.len, .slice Zac ac.len ac.len] 220 (0, 0)) := by have h := blk_set (i := 4) kf (.slice Zac ac.len ac.len); exact h
  clear ag zs HB HK1 z0 Qpa Qte Qac p0 q0 g0 p1 q1 g1 p2 q2 g2 p3 q3 g3 p4 q4 g4
  generalize (((((V3.setCell ⟨w.heap.size + 1, 0, none⟩ (.int .i64 us)).setCell ⟨w.heap.size + 1, 1, none⟩ (.bool bk)).setCell ⟨w.heap.size + 1, 2, none⟩ (.slice Zpa pa.len pa.len)).setCell ⟨w.heap.size + 1, 3, none⟩ (.slice Zte te.len te.len)).setCell ⟨w.heap.size + 1, 4, none⟩ (.slice Zac ac.len ac.len)) = V at Bf kf Rpa Rte Rac ⊢
  obtain ⟨p0, p1, p2, p3, p4, _, _, _, _, _⟩ := fc5 kf
  exact bodyPost_ret (v := .agg #[.int .i64 us, .bool bk, .slice Zpa pa.len pa.len, .slice Zte te.len te.len, .slice Zac ac.len ac.len]) (by simp [results, Try.results214, go_sem, p0, p1, p2, p3, p4]) rfl ⟨Zpa, Zte, Zac, rfl, Rpa.mono (by omega) (Nat.le_refl _), Rte.mono (by omega) (Nat.le_refl _), Rac.mono (by omega) (Nat.le_refl _), Bf⟩

/-- What a make of them lays. -/
def zeroPs (n : Nat) : Array Value := madeCells (Value.agg #[.int .i64 0, .bool false, .slice none 0 0, .slice none 0 0, .slice none 0 0]).cells (n * 5)
theorem size_zeroPs (n : Nat) : (zeroPs n).size = n * 5 := size_madeCells _ _
theorem Try.infoPs : (Try.prog.info? 220).map (fun i => (i.zero, i.size, i.bytes)) = some (some (.agg #[.int .i64 0, .bool false, .slice none 0 0, .slice none 0 0, .slice none 0 0]), 5, ((Try.prog.info? 220).map (fun i => i.bytes)).getD 0) := by kernel_rfl
theorem Try.bytesPs : ((Try.prog.info? 220).map (fun i => i.bytes)).getD 0 ≤ 1024 := by decide +kernel
theorem make_Ps (n : Nat) (hn : n ≤ 1048576) (w : World) :
    (Instr.makeSlice 144 (.int .i64 (n : Int)) (.int .i64 (n : Int))).run Try.prog w = .ok (.slice (some ⟨w.heap.size, 0, none⟩) n n) (w.alloc (.cells (zeroPs n) 220)) := by
  obtain ⟨i, hi, hz, hs, hb⟩ := info_parts Try.infoPs
  have hbb := Try.bytesPs
  rw [← hb] at hbb
  have hmul : i.bytes * n ≤ 1024 * 1048576 := Nat.mul_le_mul hbb hn
  have h := run_make (P := Try.prog) w 144 220 i _ Try.underlying144 hi hz .i64 .i64 (n : Int) (n : Int) (by omega) (Int.le_refl _) (by rw [← Int.natCast_mul]; omega) (by omega)
  rw [hs] at h
  exact h
set_option maxHeartbeats 4000000 in
set_option maxRecDepth 100000 in
theorem toProofStepS_u (f : Ps) (hm : f.nodes ≤ 1048576) (A : Option Addr) (C : Nat) (w : World) (hl : f.Lies w A) :
    Calls Try.prog 191 #[.slice A f.len C] w fun e w' => ∃ A', e = .returned (.slice A' f.len f.len) ∧ f.LiesIn w' w.heap.size w'.heap.size A' ∧ Below w.heap.size w w' := by
  have hln := f.len_le_nodes
  have hmk := make_Ps f.len (by omega)
  go_enter Try.func191, Try.ntmps191
  go_wp2_with fail
  go_loopw [4] (fun i wr => ∃ j : Nat, j ≤ f.len ∧ i = .int .i64 j ∧ Hid (Ps.Rows 220 f w.heap.size wr j) ∧ Below w.heap.size w wr) (fun i _ => f.len - (intOf i).toNat)
  case atStart => exact ⟨0, Nat.zero_le _, rfl, Ps.rows_start (size_zeroPs _), (Below.refl _ _).alloc (Nat.le_refl _) _⟩
  case round =>
    obtain ⟨j, hj, rfl, hR, hb⟩ := hrel
    clear hmk
    by_cases hjl : j < f.len
    · obtain ⟨b, o, rfl, hat⟩ := hl (by rintro rfl; simp [Ps.len] at hjl)
      have hat' := hat.later (w' := wr) (fun b o hlt => hb.cell (p := ⟨b, o, none⟩) hlt)
      obtain ⟨us, bk, pa, te, ac, r, Apa, Cpa, Ate, Cte, Aac, Cac, e1, e2, c0, c1, c2, hl_pa, c3, hl_te, c4, hl_ac⟩ := Ps.Lies.row hat' hjl
      have hnd := f.nodes_drop j
      rw [e1.out] at hnd
      skip
      have hkm : pa.nodes + te.nodes + ac.nodes ≤ 1048576 := by simp only [Ps.nodes] at hnd; omega
      have KC : Hid (Calls Try.prog 214 #[.agg #[.int .i64 us, .bool bk, .slice Apa pa.len Cpa, .slice Ate te.len Cte, .slice Aac ac.len Cac]] wr (fun e w' => ∃ Zpa Zte Zac, e = .returned (.agg #[.int .i64 us, .bool bk, .slice Zpa pa.len pa.len, .slice Zte te.len te.len, .slice Zac ac.len ac.len]) ∧ pa.LiesIn w' wr.heap.size w'.heap.size Zpa ∧ te.LiesIn w' wr.heap.size w'.heap.size Zte ∧ ac.LiesIn w' wr.heap.size w'.heap.size Zac ∧ Below wr.heap.size wr w')) :=
        toProofStep_u us bk pa te ac hkm Apa Ate Aac Cpa Cte Cac wr hl_pa hl_te hl_ac
      have HAT := Lib.hid hat
      clear hnd hat hat' hl_pa hl_te hl_ac hl hkm
      go_wp2_with fail
      refine KC.out.mono ?_
      rintro e w1 ⟨Zpa, Zte, Zac, rfl, qpa, qte, qac, hb1⟩
      have hlt := hR.out.2.1
      have hR1 := hR.out.below hb1
      obtain ⟨⟨v0, g0⟩, ⟨v1, g1⟩, ⟨v2, g2⟩, ⟨v3, g3⟩, ⟨v4, g4⟩, fz⟩ := hR1.cells hjl
      have hR' := Lib.hid (Ps.rows_step hR1 e1.out e2.out hjl hlt qpa qte qac)
      have hb2 := Lib.hid (hb.trans (hb1.mono hb.size))
      clear hR hR1 qpa qte qac hb hb1 c0 c1 c2 c3 c4 hlt KC
      go_wp2_with fail
      go_roundw
      case rel => exact ⟨j + 1, by omega, by go_num, hR'.out, by have hb := hb2.out; go_grown⟩
      case measure => simp [intOf]; omega
    · obtain rfl : j = f.len := by omega
      go_wp2_with fail
      go_ret
      exact ⟨_, rfl, Ps.rows_end hR.out (Nat.le_refl _), hb⟩

set_option maxHeartbeats 4000000 in
set_option maxRecDepth 100000 in
theorem eqProofStep_u (us : Int) (bk : Bool) (pa : Il) (te : Fo) (ac : Fo) (hf_pa : pa.len ≤ 9223372036854775807 ∧ pa.Fits) (hf_te : te.len ≤ 9223372036854775807 ∧ te.Fits) (hf_ac : ac.len ≤ 9223372036854775807 ∧ ac.Fits) (Apa Ate Aac Bpa Bte Bac : Option Addr) (Cpa Cte Cac Dpa Dte Dac : Nat) (w : World) (hl_pa : pa.Lies w Apa) (hl_te : te.Lies w Ate) (hl_ac : ac.Lies w Aac) (hr_pa : pa.Lies w Bpa) (hr_te : te.Lies w Bte) (hr_ac : ac.Lies w Bac) :
    Calls Try.prog 215 #[.agg #[.int .i64 us, .bool bk, .slice Apa pa.len Cpa, .slice Ate te.len Cte, .slice Aac ac.len Cac], .agg #[.int .i64 us, .bool bk, .slice Bpa pa.len Dpa, .slice Bte te.len Dte, .slice Bac ac.len Dac]] w fun e w' => e = .returned (.bool true) ∧ Below w.heap.size w w' := by
  have K0 : Hid (∀ W : World, Sees w W → Calls Try.prog 17 #[.slice Apa pa.len Cpa, .slice Bpa pa.len Dpa] W fun e w' => e = .returned (.bool true) ∧ Below W.heap.size W w') := fun W h => eqInt64S_u pa hf_pa Apa Bpa Cpa Dpa W (hl_pa.sees h) (hr_pa.sees h)
  have K1 : Hid (∀ W : World, Sees w W → Calls Try.prog 68 #[.slice Ate te.len Cte, .slice Bte te.len Dte] W fun e w' => e = .returned (.bool true) ∧ Below W.heap.size W w') := fun W h => eqExprS_u te hf_te Ate Bte Cte Dte W (hl_te.sees h) (hr_te.sees h)
  have K2 : Hid (∀ W : World, Sees w W → Calls Try.prog 68 #[.slice Aac ac.len Cac, .slice Bac ac.len Dac] W fun e w' => e = .returned (.bool true) ∧ Below W.heap.size W w') := fun W h => eqExprS_u ac hf_ac Aac Bac Cac Dac W (hl_ac.sees h) (hr_ac.sees h)
  clear hl_pa hr_pa hl_te hr_te hl_ac hr_ac
  have n_us : (us != us) = false := by simp
  have n_bk : (bk != bk) = false := by simp
  go_enter Try.func215, Try.ntmps215
  go_wp2_with fail
  refine (K0.out _ (by unfold Sees; go_grown)).mono ?_
  rintro e w0 ⟨rfl, hb⟩
  have S0 : Hid (Sees w w0) := Sees.below (by unfold Sees; go_grown) hb
  have HB0 : w0.heap[w.heap.size]? = some (.cells #[.int .i64 us, .bool bk, .slice Apa pa.len Cpa, .slice Ate te.len Cte, .slice Aac ac.len Cac] 220 (0, 0)) := (hb.block _ (by simp <;> omega)).trans ((Below.heap_alloc _ _ _ (by simp <;> omega)).trans (heap_new _ _ _ rfl))
  have HB1 : w0.heap[w.heap.size + 1]? = some (.cells #[.int .i64 us, .bool bk, .slice Bpa pa.len Dpa, .slice Bte te.len Dte, .slice Bac ac.len Dac] 220 (0, 0)) := (hb.block _ (by simp <;> omega)).trans (heap_new _ _ _ (by simp))
  clear hb
  have H0 := Lib.hid HB0; have H1 := Lib.hid HB1
  clear HB0 HB1
  obtain ⟨c0, c1, c2, c3, c4, _, _, _, _, _⟩ := fc5 H0.out
  obtain ⟨d0, d1, d2, d3, d4, _, _, _, _, _⟩ := fc5 H1.out
  go_wp2_with fail
  clear c0 d0 c1 d1 c2 d2 c3 d3 c4 d4
  have HB0 := H0.out; have HB1 := H1.out
  clear H0 H1
  refine (K1.out _ S0.out).mono ?_
  rintro e w1 ⟨rfl, hb⟩
  have S1 := Lib.hid (Sees.below S0.out hb)
  have HB0 := (hb.block _ (Array.getElem?_eq_some_iff.1 HB0).1).trans HB0
  have HB1 := (hb.block _ (Array.getElem?_eq_some_iff.1 HB1).1).trans HB1
  clear hb
  have H0 := Lib.hid HB0; have H1 := Lib.hid HB1
  clear HB0 HB1
  obtain ⟨c0, c1, c2, c3, c4, _, _, _, _, _⟩ := fc5 H0.out
  obtain ⟨d0, d1, d2, d3, d4, _, _, _, _, _⟩ := fc5 H1.out
  go_wp2_with fail
  clear c0 d0 c1 d1 c2 d2 c3 d3 c4 d4
  have HB0 := H0.out; have HB1 := H1.out
  clear H0 H1
  refine (K2.out _ S1.out).mono ?_
  rintro e w2 ⟨rfl, hb⟩
  have S2 := Lib.hid (Sees.below S1.out hb)
  have HB0 := (hb.block _ (Array.getElem?_eq_some_iff.1 HB0).1).trans HB0
  have HB1 := (hb.block _ (Array.getElem?_eq_some_iff.1 HB1).1).trans HB1
  clear hb
  clear HB0 HB1
  go_wp2_with fail
  go_ret
  exact ⟨rfl, S2.out⟩

set_option maxHeartbeats 4000000 in
set_option maxRecDepth 100000 in
theorem eqProofStepS_u (f : Ps) (hf' : f.len ≤ 9223372036854775807 ∧ f.Fits) (A A' : Option Addr) (C C' : Nat) (w : World) (hl : f.Lies w A) (hl' : f.Lies w A') :
    Calls Try.prog 195 #[.slice A f.len C, .slice A' f.len C'] w fun e w' => e = .returned (.bool true) ∧ Below w.heap.size w w' := by
  have hm := hf'.1
  have hf := hf'.2
  have nl : ((f.len : Int) != (f.len : Int)) = false := by simp
  go_enter Try.func195, Try.ntmps195
  go_wp2_with fail
  go_loopw [5] (fun i wr => ∃ j : Nat, j ≤ f.len ∧ i = .int .i64 j ∧ Hid (Below w.heap.size w wr)) (fun i _ => f.len - (intOf i).toNat)
  case atStart => exact ⟨0, Nat.zero_le _, rfl, Below.refl _ _⟩
  case round =>
    obtain ⟨j, hj, rfl, hb⟩ := hrel
    clear nl
    by_cases hjl : j < f.len
    · obtain ⟨b, o, rfl, hat⟩ := hl (by rintro rfl; simp [Ps.len] at hjl)
      obtain ⟨b', o', rfl, hat'⟩ := hl' (by rintro rfl; simp [Ps.len] at hjl)
      have hatr := hat.later (w' := wr) (fun b o hlt => hb.out.cell (p := ⟨b, o, none⟩) hlt)
      have hatr' := hat'.later (w' := wr) (fun b o hlt => hb.out.cell (p := ⟨b, o, none⟩) hlt)
      obtain ⟨us, bk, pa, te, ac, r, Apa, Cpa, Ate, Cte, Aac, Cac, e1, e2, c0, c1, c2, hl_pa, c3, hl_te, c4, hl_ac⟩ := Ps.Lies.row hatr hjl
      obtain ⟨us_, bk_, pa_, te_, ac_, r_, Bpa, Dpa, Bte, Dte, Bac, Dac, e3, e4, d0, d1, d2, hr_pa, d3, hr_te, d4, hr_ac⟩ := Ps.Lies.row hatr' hjl
      have he := e1.out.symm.trans e3.out
      simp only [Ps.cons.injEq] at he
      obtain ⟨rfl, rfl, rfl, rfl, rfl, rfl⟩ := he
      have hfd := Ps.fits_drop hf j
      have hnd := f.nodes_drop j
      rw [e1.out] at hfd hnd
      skip
      have hj0 : (0 : Int) ≤ (j : Int) := Int.natCast_nonneg _
      have hj1 : (j : Int) < (f.len : Int) := by omega
      have KC : Hid (∀ W : World, Sees wr W → Calls Try.prog 215 #[.agg #[.int .i64 us, .bool bk, .slice Apa pa.len Cpa, .slice Ate te.len Cte, .slice Aac ac.len Cac], .agg #[.int .i64 us, .bool bk, .slice Bpa pa.len Dpa, .slice Bte te.len Dte, .slice Bac ac.len Dac]] W fun e w' => e = .returned (.bool true) ∧ Below W.heap.size W w') :=
        fun W h => eqProofStep_u us bk pa te ac (hfd.1) (hfd.2.1) (hfd.2.2.1) Apa Ate Aac Bpa Bte Bac Cpa Cte Cac Dpa Dte Dac W (hl_pa.sees h) (hl_te.sees h) (hl_ac.sees h) (hr_pa.sees h) (hr_te.sees h) (hr_ac.sees h)
      have JL := Lib.hid hjl
      clear hfd hnd e1 e2 e3 e4 hat hat' hatr hatr' hl hl' hl_pa hr_pa hl_te hr_te hl_ac hr_ac  
      go_wp2_with fail
      go_still_tail 8, (by kernel_rfl)
      change wpList _ _ _ _ _ wr.drew
      have SD := Lib.hid (Sees.drew (Sees.refl wr))
      generalize wr.drew = w2 at SD ⊢
      clear c0 d0 c1 d1 c2 d2 c3 d3 c4 d4
      go_wp2_with fail
      refine (KC.out _ SD.out).mono ?_
      rintro e w1 ⟨rfl, hb1⟩
      have hb2 := Lib.hid (Sees.below hb.out (Sees.below SD.out hb1))
      clear hb hb1 KC SD
      go_wp2_with fail
      go_roundw
      case rel => exact ⟨j + 1, by omega, by go_num, hb2⟩
      case measure => simp [intOf]; omega
    · obtain rfl : j = f.len := by omega
      go_wp2_with fail
      go_ret
      exact ⟨rfl, hb.out⟩
end Go.Proofs.YtlpgkhdecccmlaaR
