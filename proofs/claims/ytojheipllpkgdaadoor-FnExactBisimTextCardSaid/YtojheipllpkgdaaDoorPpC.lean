/- Contracts of laws.szPair, toPair, eqPair and of their lists. -/
import Derived.Test.YtojheipllpkgdaaDoorUe
import Derived.Test.YtojheipllpkgdaaDoorPp
import Derived.Deep.DeepCutAuto
import Derived.StillTailTactics
namespace Go.Proofs.YtojheipllpkgdaaDoor
open Go.RowKit
set_option linter.unusedVariables false

set_option maxHeartbeats 4000000 in
set_option maxRecDepth 100000 in
theorem szPair_u (lk : Int) (ln : Int) (lf : Fo) (rk : Int) (rn : Int) (rf : Fo) (hf_lf : lf.len ≤ 9223372036854775807 ∧ lf.Fits) (hf_rf : rf.len ≤ 9223372036854775807 ∧ rf.Fits) (l : Int) (Alf Arf : Option Addr) (Clf Crf : Nat) (w : World) (hl_lf : lf.Lies w Alf) (hl_rf : rf.Lies w Arf) (h1 : -1 ≤ l) (h2 : l ≤ 1048576) :
    Calls Tryd.prog 53 #[.agg #[.int .i64 lk, .int .i64 ln, .slice Alf lf.len Clf, .int .i64 rk, .int .i64 rn, .slice Arf rf.len Crf], .int .i64 l] w fun e w' => e = .returned (.int .i64 (szR (lf.nodes + rf.nodes) l)) ∧ Below w.heap.size w w' := by
  rw [show lf.nodes + rf.nodes = lf.nodes + (rf.nodes) from by omega]
  obtain ⟨z0, hz0⟩ : ∃ z : Int, z = szR (lf.nodes) l := ⟨_, rfl⟩
  have b0 := szR_bd (n := lf.nodes) (l := l) h2
  rw [← hz0] at b0
  have K0 : Hid (∀ W : World, Sees w W → Calls Tryd.prog 32 #[.agg #[.int .i64 lk, .int .i64 ln, .slice Alf lf.len Clf], .int .i64 l] W fun e w' => e = .returned (.int .i64 z0) ∧ Below W.heap.size W w') := fun W h => by rw [hz0]; exact szExpr_u lk ln lf hf_lf l Alf Clf W (hl_lf.sees h) h1 h2
  obtain ⟨z1, hz1⟩ : ∃ z : Int, z = szR (rf.nodes) z0 := ⟨_, rfl⟩
  have b1 := szR_bd (n := rf.nodes) (l := z0) b0.2
  rw [← hz1] at b1
  have K1 : Hid (∀ W : World, Sees w W → Calls Tryd.prog 32 #[.agg #[.int .i64 rk, .int .i64 rn, .slice Arf rf.len Crf], .int .i64 z0] W fun e w' => e = .returned (.int .i64 z1) ∧ Below W.heap.size W w') := fun W h => by rw [hz1]; exact szExpr_u rk rn rf hf_rf z0 Arf Crf W (hl_rf.sees h) b0.1 b0.2
  have E0 : Hid (z0 < 0 → -1 = szR (lf.nodes + (rf.nodes)) l) := by intro g0; rw [szR_add, ← hz0, if_pos g0]
  have E1 : Hid (¬ z0 < 0 → z1 < 0 → -1 = szR (lf.nodes + (rf.nodes)) l) := by intro g0 g1; rw [szR_add, ← hz0, if_neg g0, ← hz1]; rw [hz1] at g1 ⊢; exact (szR_lt g1).symm
  have EN : Hid (¬ z0 < 0 → z1 = szR (lf.nodes + (rf.nodes)) l) := by intro g0; rw [szR_add, ← hz0, if_neg g0, ← hz1]
  clear hz0 b0 hz1 b1 hl_lf hl_rf
  go_enter Tryd.func53, Tryd.ntmps53
  go_wp2_with fail
  refine (K0.out _ (by unfold Sees; go_grown)).mono ?_
  rintro e w0 ⟨rfl, hb⟩
  have S0 : Hid (St w [(w.heap.size, 3, .int .i64 rk), (w.heap.size, 4, .int .i64 rn), (w.heap.size, 5, .slice Arf rf.len Crf)] w0) := St.below ⟨(by unfold Sees; go_grown), (by simp [go_sem]), (by simp [go_sem]), (by simp [go_sem]), trivial⟩ hb
  clear hb
  by_cases g0 : z0 < 0
  · have H := Lib.hid (E0.out g0)
    go_wp2_with fail
    go_ret
    exact ⟨ret_int H.out, S0.out.1⟩
  obtain ⟨_, x0, x1, x2, _⟩ := S0.out
  go_wp2_with fail
  clear x0 x1 x2
  refine (K1.out _ S0.out.1).mono ?_
  rintro e w1 ⟨rfl, hb⟩
  have S1 := Lib.hid (S0.out.below hb)
  clear S0
  clear hb
  by_cases g1 : z1 < 0
  · have H := Lib.hid (E1.out g0 g1)
    go_wp2_with fail
    go_ret
    exact ⟨ret_int H.out, S1.out.1⟩
  have H := Lib.hid (EN.out g0)
  go_wp2_with fail
  go_ret
  exact ⟨ret_int H.out, S1.out.1⟩

set_option maxHeartbeats 4000000 in
set_option maxRecDepth 100000 in
theorem szPairS_u (f : Pp) (hf' : f.len ≤ 9223372036854775807 ∧ f.Fits) (l : Int) (A : Option Addr) (C : Nat) (w : World) (hl : f.Lies w A) (h1 : -1 ≤ l) (h2 : l ≤ 1048576) :
    Calls Tryd.prog 25 #[.slice A f.len C, .int .i64 l] w fun e w' => e = .returned (.int .i64 (szR f.nodes l)) ∧ Below w.heap.size w w' := by
  have hm := hf'.1
  have hf := hf'.2
  have hln := f.len_le_nodes
  by_cases hneg : l < f.len
  · rw [szR_neg (by omega)]
    go_enter Tryd.func25, Tryd.ntmps25
    go_wp2_with fail
    go_ret
    exact ⟨rfl, Below.refl _ _⟩
  · go_enter Tryd.func25, Tryd.ntmps25
    go_wp2_with fail
    go_loopw [1, 5] (fun x i wr => ∃ (j : Nat) (q : Int), j ≤ f.len ∧ 0 ≤ q ∧ q ≤ 1048576 ∧ x = .int .i64 q ∧ i = .int .i64 j ∧ Hid (q - (f.drop j).nodes + (f.drop j).len = l - f.nodes) ∧ Below w.heap.size w wr) (fun _ i _ => f.len - (intOf i).toNat)
    case atStart => exact ⟨0, _, Nat.zero_le _, by omega, by omega, rfl, rfl, by show _ = _; simp only [Pp.drop]; omega, Below.refl _ _⟩
    case round =>
      obtain ⟨j, q, hj, hq0, hq1, rfl, rfl, hq, hb⟩ := hrel
      by_cases hjl : j < f.len
      · obtain ⟨b, o, rfl, hat⟩ := hl (by rintro rfl; simp [Pp.len] at hjl)
        have hat' := hat.later (w' := wr) (fun b o hlt => hb.cell (p := ⟨b, o, none⟩) hlt)
        obtain ⟨lk, ln, lf, rk, rn, rf, r, Alf, Clf, Arf, Crf, e1, e2, c0, c1, c2, hl_lf, c3, c4, c5, hl_rf⟩ := Pp.Lies.row hat' hjl
        have hfd := Pp.fits_drop hf j
        have hnd := f.nodes_drop j
        have hlr := (f.drop (j + 1)).len_le_nodes
        rw [e1.out] at hfd hnd
        skip
        have Q1 : Hid (szR (lf.nodes + rf.nodes) q = -1 ∧ l < f.nodes ∨ 0 ≤ szR (lf.nodes + rf.nodes) q ∧ szR (lf.nodes + rf.nodes) q ≤ 1048576 ∧ szR (lf.nodes + rf.nodes) q - (f.drop (j + 1)).nodes + (f.drop (j + 1)).len = l - f.nodes) := by
          have := hq.out
          rw [e1.out] at this
          simp only [Pp.nodes, Pp.len] at this
          rw [← e2.out] at this
          by_cases hx : q < (lf.nodes + rf.nodes : Nat)
          · exact Or.inl ⟨szR_neg hx, by omega⟩
          · rw [szR_pos (by omega)]
            exact Or.inr ⟨by omega, by omega, by omega⟩
        obtain ⟨z, hz⟩ : ∃ z, z = szR (lf.nodes + rf.nodes) q := ⟨_, rfl⟩
        have KC : Hid (∀ W : World, lf.Lies W Alf → rf.Lies W Arf → Calls Tryd.prog 53 #[.agg #[.int .i64 lk, .int .i64 ln, .slice Alf lf.len Clf, .int .i64 rk, .int .i64 rn, .slice Arf rf.len Crf], .int .i64 q] W fun e w' => e = .returned (.int .i64 z) ∧ Below W.heap.size W w') := fun W ylf yrf => by
          rw [hz]
          exact szPair_u lk ln lf rk rn rf (hfd.1) (hfd.2.1) q Alf Arf Clf Crf W ylf yrf (by omega) hq1
        rw [← hz] at Q1
        clear hq hfd hnd hlr hz
        go_wp2_with fail
        refine (KC.out _ hl_lf hl_rf).mono ?_; rintro e w1 ⟨rfl, hb1⟩
        have hb2 := hb.trans (hb1.mono hb.size)
        rcases Q1.out with ⟨hx, hy⟩ | ⟨hx0, hx1, hx2⟩
        · subst hx
          clear Q1 KC
          go_wp2_with fail
          go_ret
          exact ⟨ret_int (szR_neg hy).symm, hb2⟩
        · have HX := Lib.hid hx2; clear hx2 Q1 KC
          have hx3 : ¬ z < 0 := by omega
          go_wp2_with fail
          go_roundw
          case rel => exact ⟨j + 1, _, by omega, hx0, hx1, rfl, by go_num, HX.out, hb2⟩
          case measure => simp [intOf]; omega
      · obtain rfl : j = f.len := by omega
        have hq' := hq.out
        rw [Pp.drop_len] at hq'
        simp only [Pp.nodes, Pp.len] at hq'
        have hz : szR f.nodes l = q := by rw [szR_pos (by omega)]; omega
        clear hq' hq
        have HZ := Lib.hid hz; clear hz
        go_wp2_with fail
        go_ret
        exact ⟨ret_int HZ.out.symm, hb⟩

set_option maxHeartbeats 4000000 in
set_option maxRecDepth 100000 in
theorem toPair_u (lk : Int) (ln : Int) (lf : Fo) (rk : Int) (rn : Int) (rf : Fo) (hm : lf.nodes + rf.nodes ≤ 1048576) (Alf Arf : Option Addr) (Clf Crf : Nat) (w : World) (hl_lf : lf.Lies w Alf) (hl_rf : rf.Lies w Arf) :
    Calls Tryd.prog 56 #[.agg #[.int .i64 lk, .int .i64 ln, .slice Alf lf.len Clf, .int .i64 rk, .int .i64 rn, .slice Arf rf.len Crf]] w fun e w' => ∃ Zlf Zrf, e = .returned (.agg #[.int .i64 lk, .int .i64 ln, .slice Zlf lf.len lf.len, .int .i64 rk, .int .i64 rn, .slice Zrf rf.len rf.len]) ∧ lf.LiesIn w' w.heap.size w'.heap.size Zlf ∧ rf.LiesIn w' w.heap.size w'.heap.size Zrf ∧ Below w.heap.size w w' := by
  have K0 : Hid (∀ W : World, Sees w W → Calls Tryd.prog 35 #[.agg #[.int .i64 lk, .int .i64 ln, .slice Alf lf.len Clf]] W (fun e w' => ∃ Zlf, e = .returned (.agg #[.int .i64 lk, .int .i64 ln, .slice Zlf lf.len lf.len]) ∧ lf.LiesIn w' W.heap.size w'.heap.size Zlf ∧ Below W.heap.size W w')) := fun W h => (toExpr_u lk ln lf (by omega) Alf Clf W (hl_lf.sees h))
  have K1 : Hid (∀ W : World, Sees w W → Calls Tryd.prog 35 #[.agg #[.int .i64 rk, .int .i64 rn, .slice Arf rf.len Crf]] W (fun e w' => ∃ Zrf, e = .returned (.agg #[.int .i64 rk, .int .i64 rn, .slice Zrf rf.len rf.len]) ∧ rf.LiesIn w' W.heap.size w'.heap.size Zrf ∧ Below W.heap.size W w')) := fun W h => (toExpr_u rk rn rf (by omega) Arf Crf W (hl_rf.sees h))
  clear hl_lf hl_rf
  obtain ⟨W0, hW0⟩ : ∃ W0, W0 = ((w.alloc (.cells #[.int .i64 lk, .int .i64 ln, .slice Alf lf.len Clf, .int .i64 rk, .int .i64 rn, .slice Arf rf.len Crf] 97)).alloc (.cells #[.int .i64 0, .int .i64 0, .slice none 0 0, .int .i64 0, .int .i64 0, .slice none 0 0] 101)).alloc (.cells #[.int .i64 0, .int .i64 0, .slice none 0 0, .int .i64 0, .int .i64 0, .slice none 0 0] 101) := ⟨_, rfl⟩
  have B0 : Sees w W0 := by rw [hW0]; exact (((Sees.refl w).alloc _).alloc _).alloc _
  have k0 : W0.heap[w.heap.size]? = some (.cells #[.int .i64 lk, .int .i64 ln, .slice Alf lf.len Clf, .int .i64 rk, .int .i64 rn, .slice Arf rf.len Crf] 97 (0, 0)) := by rw [hW0]; exact (Below.heap_alloc _ _ _ (by simp; omega)).trans ((Below.heap_alloc _ _ _ (by simp)).trans (heap_new _ _ _ (by simp)))
  have k1 : W0.heap[w.heap.size + 1]? = some (.cells #[.int .i64 0, .int .i64 0, .slice none 0 0, .int .i64 0, .int .i64 0, .slice none 0 0] 101 (0, 0)) := by rw [hW0]; exact (Below.heap_alloc _ _ _ (by simp)).trans (heap_new _ _ _ (by simp))
  have k2 : W0.heap[w.heap.size + 1 + 1]? = some (.cells #[.int .i64 0, .int .i64 0, .slice none 0 0, .int .i64 0, .int .i64 0, .slice none 0 0] 101 (0, 0)) := by rw [hW0]; exact heap_new _ _ _ (by simp)
  have z0 : w.heap.size + 1 + 1 < W0.heap.size := by rw [hW0]; simp
  go_enter Tryd.func56, Tryd.ntmps56
  go_wp2_with fail
  rw [← hW0]
  clear hW0
  refine (K0.out _ B0).mono ?_
  rintro e w0 ⟨Zlf, rfl, qlf, hb⟩
  have HB := Lib.hid (B0.below hb)
  have zw : w.heap.size + 1 + 1 < w0.heap.size := Nat.lt_of_lt_of_le z0 hb.size
  have HK0 := Lib.hid ((hb.block _ (by omega)).trans k0)
  have HK1 := Lib.hid ((hb.block _ (by omega)).trans k1)
  have HK2 := Lib.hid ((hb.block _ z0).trans k2)
  have HQlf := Lib.hid (qlf.mono (lo' := w.heap.size + 1 + 1 + 1) z0 (Nat.le_refl _))
  clear qlf hb B0 k0 k1 k2 z0 
  obtain ⟨p0, p1, p2, p3, p4, p5, _, _, _, _, _, _⟩ := fc6 HK0.out
  obtain ⟨q0, q1, q2, q3, q4, q5, g0, g1, g2, g3, g4, g5⟩ := fc6 HK2.out
  go_wp2_with fail
  have B1 : Sees w (((w0.setCell ⟨w.heap.size + 1 + 1, 0, none⟩ (.int .i64 lk)).setCell ⟨w.heap.size + 1 + 1, 1, none⟩ (.int .i64 ln)).setCell ⟨w.heap.size + 1 + 1, 2, none⟩ (.slice Zlf lf.len lf.len)) := (gt_sees (b := w.heap.size + 1 + 1) (i := 2) (gt_sees (b := w.heap.size + 1 + 1) (i := 1) (gt_sees (b := w.heap.size + 1 + 1) (i := 0) HB.out (by omega) (.int .i64 lk)) (by omega) (.int .i64 ln)) (by omega) (.slice Zlf lf.len lf.len))
  have k0 : (((w0.setCell ⟨w.heap.size + 1 + 1, 0, none⟩ (.int .i64 lk)).setCell ⟨w.heap.size + 1 + 1, 1, none⟩ (.int .i64 ln)).setCell ⟨w.heap.size + 1 + 1, 2, none⟩ (.slice Zlf lf.len lf.len)).heap[w.heap.size]? = some (.cells #[.int .i64 lk, .int .i64 ln, .slice Alf lf.len Clf, .int .i64 rk, .int .i64 rn, .slice Arf rf.len Crf] 97 (0, 0)) := (gt_other (b := w.heap.size + 1 + 1) (i := 2) (gt_other (b := w.heap.size + 1 + 1) (i := 1) (gt_other (b := w.heap.size + 1 + 1) (i := 0) HK0.out (by omega) (.int .i64 lk)) (by omega) (.int .i64 ln)) (by omega) (.slice Zlf lf.len lf.len))
  have k1 : (((w0.setCell ⟨w.heap.size + 1 + 1, 0, none⟩ (.int .i64 lk)).setCell ⟨w.heap.size + 1 + 1, 1, none⟩ (.int .i64 ln)).setCell ⟨w.heap.size + 1 + 1, 2, none⟩ (.slice Zlf lf.len lf.len)).heap[w.heap.size + 1]? = some (.cells #[.int .i64 0, .int .i64 0, .slice none 0 0, .int .i64 0, .int .i64 0, .slice none 0 0] 101 (0, 0)) := (gt_other (b := w.heap.size + 1 + 1) (i := 2) (gt_other (b := w.heap.size + 1 + 1) (i := 1) (gt_other (b := w.heap.size + 1 + 1) (i := 0) HK1.out (by omega) (.int .i64 lk)) (by omega) (.int .i64 ln)) (by omega) (.slice Zlf lf.len lf.len))
  have k2 : (w0.setCell ⟨w.heap.size + 1 + 1, 0, none⟩ (.int .i64 lk)).heap[w.heap.size + 1 + 1]? = some (.cells #[.int .i64 lk, .int .i64 0, .slice none 0 0, .int .i64 0, .int .i64 0, .slice none 0 0] 101 (0, 0)) := by have h := blk_set (i := 0) HK2.out (.int .i64 lk); exact h
  have k2 : ((w0.setCell ⟨w.heap.size + 1 + 1, 0, none⟩ (.int .i64 lk)).setCell ⟨w.heap.size + 1 + 1, 1, none⟩ (.int .i64 ln)).heap[w.heap.size + 1 + 1]? = some (.cells #[.int .i64 lk, .int .i64 ln, .slice none 0 0, .int .i64 0, .int .i64 0, .slice none 0 0] 101 (0, 0)) := by have h := blk_set (i := 1) k2 (.int .i64 ln); exact h
  have k2 : (((w0.setCell ⟨w.heap.size + 1 + 1, 0, none⟩ (.int .i64 lk)).setCell ⟨w.heap.size + 1 + 1, 1, none⟩ (.int .i64 ln)).setCell ⟨w.heap.size + 1 + 1, 2, none⟩ (.slice Zlf lf.len lf.len)).heap[w.heap.size + 1 + 1]? = some (.cells #[.int .i64 lk, .int .i64 ln, .slice Zlf lf.len lf.len, .int .i64 0, .int .i64 0, .slice none 0 0] 101 (0, 0)) := by have h := blk_set (i := 2) k2 (.slice Zlf lf.len lf.len); exact h
  have zs : (((w0.setCell ⟨w.heap.size + 1 + 1, 0, none⟩ (.int .i64 lk)).setCell ⟨w.heap.size + 1 + 1, 1, none⟩ (.int .i64 ln)).setCell ⟨w.heap.size + 1 + 1, 2, none⟩ (.slice Zlf lf.len lf.len)).heap.size = w0.heap.size := by simp
  have z0 : w.heap.size + 1 + 1 < (((w0.setCell ⟨w.heap.size + 1 + 1, 0, none⟩ (.int .i64 lk)).setCell ⟨w.heap.size + 1 + 1, 1, none⟩ (.int .i64 ln)).setCell ⟨w.heap.size + 1 + 1, 2, none⟩ (.slice Zlf lf.len lf.len)).heap.size := by rw [zs]; exact zw
  have ag : Fo.Agree w0 (((w0.setCell ⟨w.heap.size + 1 + 1, 0, none⟩ (.int .i64 lk)).setCell ⟨w.heap.size + 1 + 1, 1, none⟩ (.int .i64 ln)).setCell ⟨w.heap.size + 1 + 1, 2, none⟩ (.slice Zlf lf.len lf.len)) (w.heap.size + 1 + 1 + 1) w0.heap.size := (Fo.Agree.setCell (Fo.Agree.setCell (Fo.Agree.setCell (Fo.Agree.refl _ _ _) ⟨w.heap.size + 1 + 1, 0, none⟩ (Or.inl (by show w.heap.size + 1 + 1 < _; omega)) (.int .i64 lk)) ⟨w.heap.size + 1 + 1, 1, none⟩ (Or.inl (by show w.heap.size + 1 + 1 < _; omega)) (.int .i64 ln)) ⟨w.heap.size + 1 + 1, 2, none⟩ (Or.inl (by show w.heap.size + 1 + 1 < _; omega)) (.slice Zlf lf.len lf.len))
  have Qlf : lf.LiesIn (((w0.setCell ⟨w.heap.size + 1 + 1, 0, none⟩ (.int .i64 lk)).setCell ⟨w.heap.size + 1 + 1, 1, none⟩ (.int .i64 ln)).setCell ⟨w.heap.size + 1 + 1, 2, none⟩ (.slice Zlf lf.len lf.len)) (w.heap.size + 1 + 1 + 1) w0.heap.size Zlf := HQlf.out.agree ag
  rw [← zs] at Qlf
  clear zs ag p0 q0 g0 p1 q1 g1 p2 q2 g2 p3 q3 g3 p4 q4 g4 p5 q5 g5 HB HK0 HK1 HK2 zw HQlf
  generalize (((w0.setCell ⟨w.heap.size + 1 + 1, 0, none⟩ (.int .i64 lk)).setCell ⟨w.heap.size + 1 + 1, 1, none⟩ (.int .i64 ln)).setCell ⟨w.heap.size + 1 + 1, 2, none⟩ (.slice Zlf lf.len lf.len)) = V1 at B1 k0 k1 k2 z0 Qlf ⊢
  refine (K1.out _ B1).mono ?_
  rintro e w1 ⟨Zrf, rfl, qrf, hb⟩
  have HB := Lib.hid (B1.below hb)
  have zw : w.heap.size + 1 + 1 < w1.heap.size := Nat.lt_of_lt_of_le z0 hb.size
  have HK0 := Lib.hid ((hb.block _ (by omega)).trans k0)
  have HK1 := Lib.hid ((hb.block _ (by omega)).trans k1)
  have HK2 := Lib.hid ((hb.block _ z0).trans k2)
  have HQlf := Lib.hid ((Qlf.agree (Fo.Agree.of_below hb)).mono (Nat.le_refl _) hb.size)
  have HQrf := Lib.hid (qrf.mono (lo' := w.heap.size + 1 + 1 + 1) z0 (Nat.le_refl _))
  clear qrf hb B1 k0 k1 k2 z0 Qlf
  obtain ⟨p0, p1, p2, p3, p4, p5, _, _, _, _, _, _⟩ := fc6 HK0.out
  obtain ⟨q0, q1, q2, q3, q4, q5, g0, g1, g2, g3, g4, g5⟩ := fc6 HK2.out
  go_upto_region 4 with fail
  have B2 : Sees w (((w1.setCell ⟨w.heap.size + 1 + 1, 3, none⟩ (.int .i64 rk)).setCell ⟨w.heap.size + 1 + 1, 4, none⟩ (.int .i64 rn)).setCell ⟨w.heap.size + 1 + 1, 5, none⟩ (.slice Zrf rf.len rf.len)) := (gt_sees (b := w.heap.size + 1 + 1) (i := 5) (gt_sees (b := w.heap.size + 1 + 1) (i := 4) (gt_sees (b := w.heap.size + 1 + 1) (i := 3) HB.out (by omega) (.int .i64 rk)) (by omega) (.int .i64 rn)) (by omega) (.slice Zrf rf.len rf.len))
  have k1 : (((w1.setCell ⟨w.heap.size + 1 + 1, 3, none⟩ (.int .i64 rk)).setCell ⟨w.heap.size + 1 + 1, 4, none⟩ (.int .i64 rn)).setCell ⟨w.heap.size + 1 + 1, 5, none⟩ (.slice Zrf rf.len rf.len)).heap[w.heap.size + 1]? = some (.cells #[.int .i64 0, .int .i64 0, .slice none 0 0, .int .i64 0, .int .i64 0, .slice none 0 0] 101 (0, 0)) := (gt_other (b := w.heap.size + 1 + 1) (i := 5) (gt_other (b := w.heap.size + 1 + 1) (i := 4) (gt_other (b := w.heap.size + 1 + 1) (i := 3) HK1.out (by omega) (.int .i64 rk)) (by omega) (.int .i64 rn)) (by omega) (.slice Zrf rf.len rf.len))
  have k2 : (w1.setCell ⟨w.heap.size + 1 + 1, 3, none⟩ (.int .i64 rk)).heap[w.heap.size + 1 + 1]? = some (.cells #[.int .i64 lk, .int .i64 ln, .slice Zlf lf.len lf.len, .int .i64 rk, .int .i64 0, .slice none 0 0] 101 (0, 0)) := by have h := blk_set (i := 3) HK2.out (.int .i64 rk); exact h
  have k2 : ((w1.setCell ⟨w.heap.size + 1 + 1, 3, none⟩ (.int .i64 rk)).setCell ⟨w.heap.size + 1 + 1, 4, none⟩ (.int .i64 rn)).heap[w.heap.size + 1 + 1]? = some (.cells #[.int .i64 lk, .int .i64 ln, .slice Zlf lf.len lf.len, .int .i64 rk, .int .i64 rn, .slice none 0 0] 101 (0, 0)) := by have h := blk_set (i := 4) k2 (.int .i64 rn); exact h
  have k2 : (((w1.setCell ⟨w.heap.size + 1 + 1, 3, none⟩ (.int .i64 rk)).setCell ⟨w.heap.size + 1 + 1, 4, none⟩ (.int .i64 rn)).setCell ⟨w.heap.size + 1 + 1, 5, none⟩ (.slice Zrf rf.len rf.len)).heap[w.heap.size + 1 + 1]? = some (.cells #[.int .i64 lk, .int .i64 ln, .slice Zlf lf.len lf.len, .int .i64 rk, .int .i64 rn, .slice Zrf rf.len rf.len] 101 (0, 0)) := by have h := blk_set (i := 5) k2 (.slice Zrf rf.len rf.len); exact h
  have zs : (((w1.setCell ⟨w.heap.size + 1 + 1, 3, none⟩ (.int .i64 rk)).setCell ⟨w.heap.size + 1 + 1, 4, none⟩ (.int .i64 rn)).setCell ⟨w.heap.size + 1 + 1, 5, none⟩ (.slice Zrf rf.len rf.len)).heap.size = w1.heap.size := by simp
  have z0 : w.heap.size + 1 + 1 < (((w1.setCell ⟨w.heap.size + 1 + 1, 3, none⟩ (.int .i64 rk)).setCell ⟨w.heap.size + 1 + 1, 4, none⟩ (.int .i64 rn)).setCell ⟨w.heap.size + 1 + 1, 5, none⟩ (.slice Zrf rf.len rf.len)).heap.size := by rw [zs]; exact zw
  have ag : Fo.Agree w1 (((w1.setCell ⟨w.heap.size + 1 + 1, 3, none⟩ (.int .i64 rk)).setCell ⟨w.heap.size + 1 + 1, 4, none⟩ (.int .i64 rn)).setCell ⟨w.heap.size + 1 + 1, 5, none⟩ (.slice Zrf rf.len rf.len)) (w.heap.size + 1 + 1 + 1) w1.heap.size := (Fo.Agree.setCell (Fo.Agree.setCell (Fo.Agree.setCell (Fo.Agree.refl _ _ _) ⟨w.heap.size + 1 + 1, 3, none⟩ (Or.inl (by show w.heap.size + 1 + 1 < _; omega)) (.int .i64 rk)) ⟨w.heap.size + 1 + 1, 4, none⟩ (Or.inl (by show w.heap.size + 1 + 1 < _; omega)) (.int .i64 rn)) ⟨w.heap.size + 1 + 1, 5, none⟩ (Or.inl (by show w.heap.size + 1 + 1 < _; omega)) (.slice Zrf rf.len rf.len))
  have Qlf : lf.LiesIn (((w1.setCell ⟨w.heap.size + 1 + 1, 3, none⟩ (.int .i64 rk)).setCell ⟨w.heap.size + 1 + 1, 4, none⟩ (.int .i64 rn)).setCell ⟨w.heap.size + 1 + 1, 5, none⟩ (.slice Zrf rf.len rf.len)) (w.heap.size + 1 + 1 + 1) w1.heap.size Zlf := HQlf.out.agree ag
  have Qrf : rf.LiesIn (((w1.setCell ⟨w.heap.size + 1 + 1, 3, none⟩ (.int .i64 rk)).setCell ⟨w.heap.size + 1 + 1, 4, none⟩ (.int .i64 rn)).setCell ⟨w.heap.size + 1 + 1, 5, none⟩ (.slice Zrf rf.len rf.len)) (w.heap.size + 1 + 1 + 1) w1.heap.size Zrf := HQrf.out.agree ag
  rw [← zs] at Qlf Qrf
  clear zs ag p0 q0 g0 p1 q1 g1 p2 q2 g2 p3 q3 g3 p4 q4 g4 p5 q5 g5 HB HK0 HK1 HK2 zw HQlf HQrf
  generalize (((w1.setCell ⟨w.heap.size + 1 + 1, 3, none⟩ (.int .i64 rk)).setCell ⟨w.heap.size + 1 + 1, 4, none⟩ (.int .i64 rn)).setCell ⟨w.heap.size + 1 + 1, 5, none⟩ (.slice Zrf rf.len rf.len)) = V2 at B2 k1 k2 z0 Qlf Qrf ⊢
  have HB := Lib.hid B2; have HK1 := Lib.hid k1
  clear B2 k1 K0 K1
  obtain ⟨p0, p1, p2, p3, p4, p5, g0, g1, g2, g3, g4, g5⟩ := fc6 HK1.out
  obtain ⟨q0, q1, q2, q3, q4, q5, _, _, _, _, _, _⟩ := fc6 k2
  clear k2
  go_wp2_with fail
  have Bf : Sees w ((((((V2.setCell ⟨w.heap.size + 1, 0, none⟩ (.int .i64 lk)).setCell ⟨w.heap.size + 1, 1, none⟩ (.int .i64 ln)).setCell ⟨w.heap.size + 1, 2, none⟩ (.slice Zlf lf.len lf.len)).setCell ⟨w.heap.size + 1, 3, none⟩ (.int .i64 rk)).setCell ⟨w.heap.size + 1, 4, none⟩ (.int .i64 rn)).setCell ⟨w.heap.size + 1, 5, none⟩ (.slice Zrf rf.len rf.len)) := (gt_sees (b := w.heap.size + 1) (i := 5) (gt_sees (b := w.heap.size + 1) (i := 4) (gt_sees (b := w.heap.size + 1) (i := 3) (gt_sees (b := w.heap.size + 1) (i := 2) (gt_sees (b := w.heap.size + 1) (i := 1) (gt_sees (b := w.heap.size + 1) (i := 0) HB.out (by omega) (.int .i64 lk)) (by omega) (.int .i64 ln)) (by omega) (.slice Zlf lf.len lf.len)) (by omega) (.int .i64 rk)) (by omega) (.int .i64 rn)) (by omega) (.slice Zrf rf.len rf.len))
  have zs : ((((((V2.setCell ⟨w.heap.size + 1, 0, none⟩ (.int .i64 lk)).setCell ⟨w.heap.size + 1, 1, none⟩ (.int .i64 ln)).setCell ⟨w.heap.size + 1, 2, none⟩ (.slice Zlf lf.len lf.len)).setCell ⟨w.heap.size + 1, 3, none⟩ (.int .i64 rk)).setCell ⟨w.heap.size + 1, 4, none⟩ (.int .i64 rn)).setCell ⟨w.heap.size + 1, 5, none⟩ (.slice Zrf rf.len rf.len)).heap.size = V2.heap.size := by simp
  have ag : Fo.Agree V2 ((((((V2.setCell ⟨w.heap.size + 1, 0, none⟩ (.int .i64 lk)).setCell ⟨w.heap.size + 1, 1, none⟩ (.int .i64 ln)).setCell ⟨w.heap.size + 1, 2, none⟩ (.slice Zlf lf.len lf.len)).setCell ⟨w.heap.size + 1, 3, none⟩ (.int .i64 rk)).setCell ⟨w.heap.size + 1, 4, none⟩ (.int .i64 rn)).setCell ⟨w.heap.size + 1, 5, none⟩ (.slice Zrf rf.len rf.len)) (w.heap.size + 1 + 1 + 1) V2.heap.size := (Fo.Agree.setCell (Fo.Agree.setCell (Fo.Agree.setCell (Fo.Agree.setCell (Fo.Agree.setCell (Fo.Agree.setCell (Fo.Agree.refl _ _ _) ⟨w.heap.size + 1, 0, none⟩ (Or.inl (by show w.heap.size + 1 < _; omega)) (.int .i64 lk)) ⟨w.heap.size + 1, 1, none⟩ (Or.inl (by show w.heap.size + 1 < _; omega)) (.int .i64 ln)) ⟨w.heap.size + 1, 2, none⟩ (Or.inl (by show w.heap.size + 1 < _; omega)) (.slice Zlf lf.len lf.len)) ⟨w.heap.size + 1, 3, none⟩ (Or.inl (by show w.heap.size + 1 < _; omega)) (.int .i64 rk)) ⟨w.heap.size + 1, 4, none⟩ (Or.inl (by show w.heap.size + 1 < _; omega)) (.int .i64 rn)) ⟨w.heap.size + 1, 5, none⟩ (Or.inl (by show w.heap.size + 1 < _; omega)) (.slice Zrf rf.len rf.len))
  have Rlf : lf.LiesIn ((((((V2.setCell ⟨w.heap.size + 1, 0, none⟩ (.int .i64 lk)).setCell ⟨w.heap.size + 1, 1, none⟩ (.int .i64 ln)).setCell ⟨w.heap.size + 1, 2, none⟩ (.slice Zlf lf.len lf.len)).setCell ⟨w.heap.size + 1, 3, none⟩ (.int .i64 rk)).setCell ⟨w.heap.size + 1, 4, none⟩ (.int .i64 rn)).setCell ⟨w.heap.size + 1, 5, none⟩ (.slice Zrf rf.len rf.len)) (w.heap.size + 1 + 1 + 1) V2.heap.size Zlf := Qlf.agree ag
  have Rrf : rf.LiesIn ((((((V2.setCell ⟨w.heap.size + 1, 0, none⟩ (.int .i64 lk)).setCell ⟨w.heap.size + 1, 1, none⟩ (.int .i64 ln)).setCell ⟨w.heap.size + 1, 2, none⟩ (.slice Zlf lf.len lf.len)).setCell ⟨w.heap.size + 1, 3, none⟩ (.int .i64 rk)).setCell ⟨w.heap.size + 1, 4, none⟩ (.int .i64 rn)).setCell ⟨w.heap.size + 1, 5, none⟩ (.slice Zrf rf.len rf.len)) (w.heap.size + 1 + 1 + 1) V2.heap.size Zrf := Qrf.agree ag
  rw [← zs] at Rlf Rrf
  have kf : (V2.setCell ⟨w.heap.size + 1, 0, none⟩ (.int .i64 lk)).heap[w.heap.size + 1]? = some (.cells #[.int .i64 lk, .int .i64 0, .slice none 0 0, .int .i64 0, .int .i64 0, .slice none 0 0] 101 (0, 0)) := by have h := blk_set (i := 0) HK1.out (.int .i64 lk); exact h
  have kf : ((V2.setCell ⟨w.heap.size + 1, 0, none⟩ (.int .i64 lk)).setCell ⟨w.heap.size + 1, 1, none⟩ (.int .i64 ln)).heap[w.heap.size + 1]? = some (.cells #[.int .i64 lk, .int .i64 ln, .slice none 0 0, .int .i64 0, .int .i64 0, .slice none 0 0] 101 (0, 0)) := by have h := blk_set (i := 1) kf (.int .i64 ln); exact h
  have kf : (((V2.setCell ⟨w.heap.size + 1, 0, none⟩ (.int .i64 lk)).setCell ⟨w.heap.size + 1, 1, none⟩ (.int .i64 ln)).setCell ⟨w.heap.size + 1, 2, none⟩ (.slice Zlf lf.len lf.len)).heap[w.heap.size + 1]? = some (.cells #[.int .i64 lk, .int .i64 ln, .slice Zlf lf.len lf.len, .int .i64 0, .int .i64 0, .slice none 0 0] 101 (0, 0)) := by have h := blk_set (i := 2) kf (.slice Zlf lf.len lf.len); exact h
  have kf : ((((V2.setCell ⟨w.heap.size + 1, 0, none⟩ (.int .i64 lk)).setCell ⟨w.heap.size + 1, 1, none⟩ (.int .i64 ln)).setCell ⟨w.heap.size + 1, 2, none⟩ (.slice Zlf lf.len lf.len)).setCell ⟨w.heap.size + 1, 3, none⟩ (.int .i64 rk)).heap[w.heap.size + 1]? = some (.cells #[.int .i64 lk, .int .i64 ln, .slice Zlf lf.len lf.len, .int .i64 rk, .int .i64 0, .slice none 0 0] 101 (0, 0)) := by have h := blk_set (i := 3) kf (.int .i64 rk); exact h
  have kf : (((((V2.setCell ⟨w.heap.size + 1, 0, none⟩ (.int .i64 lk)).setCell ⟨w.heap.size + 1, 1, none⟩ (.int .i64 ln)).setCell ⟨w.heap.size + 1, 2, none⟩ (.slice Zlf lf.len lf.len)).setCell ⟨w.heap.size + 1, 3, none⟩ (.int .i64 rk)).setCell ⟨w.heap.size + 1, 4, none⟩ (.int .i64 rn)).heap[w.heap.size + 1]? = some (.cells #[.int .i64 lk, .int .i64 ln, .slice Zlf lf.len lf.len, .int .i64 rk, .int .i64 rn, .slice none 0 0] 101 (0, 0)) := by have h := blk_set (i := 4) kf (.int .i64 rn); exact h
  have kf : ((((((V2.setCell ⟨w.heap.size + 1, 0, none⟩ (.int .i64 lk)).setCell ⟨w.heap.size + 1, 1, none⟩ (.int .i64 ln)).setCell ⟨w.heap.size + 1, 2, none⟩ (.slice Zlf lf.len lf.len)).setCell ⟨w.heap.size + 1, 3, none⟩ (.int .i64 rk)).setCell ⟨w.heap.size + 1, 4, none⟩ (.int .i64 rn)).setCell ⟨w.heap.size + 1, 5, none⟩ (.slice Zrf rf.len rf.len)).heap[w.heap.size + 1]? = some (.cells #[.int .i64 lk, .int .i64 ln, .slice Zlf lf.len lf.len, .int .i64 rk, .int .i64 rn, .slice Zrf rf.len rf.len] 101 (0, 0)) := by have h := blk_set (i := 5) kf (.slice Zrf rf.len rf.len); exact h
  clear ag zs HB HK1 z0 Qlf Qrf p0 q0 g0 p1 q1 g1 p2 q2 g2 p3 q3 g3 p4 q4 g4 p5 q5 g5
  generalize ((((((V2.setCell ⟨w.heap.size + 1, 0, none⟩ (.int .i64 lk)).setCell ⟨w.heap.size + 1, 1, none⟩ (.int .i64 ln)).setCell ⟨w.heap.size + 1, 2, none⟩ (.slice Zlf lf.len lf.len)).setCell ⟨w.heap.size + 1, 3, none⟩ (.int .i64 rk)).setCell ⟨w.heap.size + 1, 4, none⟩ (.int .i64 rn)).setCell ⟨w.heap.size + 1, 5, none⟩ (.slice Zrf rf.len rf.len)) = V at Bf kf Rlf Rrf ⊢
  obtain ⟨p0, p1, p2, p3, p4, p5, _, _, _, _, _, _⟩ := fc6 kf
  exact bodyPost_ret (v := .agg #[.int .i64 lk, .int .i64 ln, .slice Zlf lf.len lf.len, .int .i64 rk, .int .i64 rn, .slice Zrf rf.len rf.len]) (by simp [results, Tryd.results56, go_sem, p0, p1, p2, p3, p4, p5]) rfl ⟨Zlf, Zrf, rfl, Rlf.mono (by omega) (Nat.le_refl _), Rrf.mono (by omega) (Nat.le_refl _), Bf⟩

/-- What a make of them lays. -/
def zeroPp (n : Nat) : Array Value := madeCells (Value.agg #[.int .i64 0, .int .i64 0, .slice none 0 0, .int .i64 0, .int .i64 0, .slice none 0 0]).cells (n * 6)
theorem size_zeroPp (n : Nat) : (zeroPp n).size = n * 6 := size_madeCells _ _
theorem Tryd.infoPp : (Tryd.prog.info? 101).map (fun i => (i.zero, i.size, i.bytes)) = some (some (.agg #[.int .i64 0, .int .i64 0, .slice none 0 0, .int .i64 0, .int .i64 0, .slice none 0 0]), 6, ((Tryd.prog.info? 101).map (fun i => i.bytes)).getD 0) := by kernel_rfl
theorem Tryd.bytesPp : ((Tryd.prog.info? 101).map (fun i => i.bytes)).getD 0 ≤ 1024 := by decide +kernel
theorem make_Pp (n : Nat) (hn : n ≤ 1048576) (w : World) :
    (Instr.makeSlice 60 (.int .i64 (n : Int)) (.int .i64 (n : Int))).run Tryd.prog w = .ok (.slice (some ⟨w.heap.size, 0, none⟩) n n) (w.alloc (.cells (zeroPp n) 101)) := by
  obtain ⟨i, hi, hz, hs, hb⟩ := info_parts Tryd.infoPp
  have hbb := Tryd.bytesPp
  rw [← hb] at hbb
  have hmul : i.bytes * n ≤ 1024 * 1048576 := Nat.mul_le_mul hbb hn
  have h := run_make (P := Tryd.prog) w 60 101 i _ Tryd.underlying60 hi hz .i64 .i64 (n : Int) (n : Int) (by omega) (Int.le_refl _) (by rw [← Int.natCast_mul]; omega) (by omega)
  rw [hs] at h
  exact h
set_option maxHeartbeats 4000000 in
set_option maxRecDepth 100000 in
theorem toPairS_u (f : Pp) (hm : f.nodes ≤ 1048576) (A : Option Addr) (C : Nat) (w : World) (hl : f.Lies w A) :
    Calls Tryd.prog 27 #[.slice A f.len C] w fun e w' => ∃ A', e = .returned (.slice A' f.len f.len) ∧ f.LiesIn w' w.heap.size w'.heap.size A' ∧ Below w.heap.size w w' := by
  have hln := f.len_le_nodes
  have hmk := make_Pp f.len (by omega)
  go_enter Tryd.func27, Tryd.ntmps27
  go_wp2_with fail
  go_loopw [4] (fun i wr => ∃ j : Nat, j ≤ f.len ∧ i = .int .i64 j ∧ Hid (Pp.Rows 101 f w.heap.size wr j) ∧ Below w.heap.size w wr) (fun i _ => f.len - (intOf i).toNat)
  case atStart => exact ⟨0, Nat.zero_le _, rfl, Pp.rows_start (size_zeroPp _), (Below.refl _ _).alloc (Nat.le_refl _) _⟩
  case round =>
    obtain ⟨j, hj, rfl, hR, hb⟩ := hrel
    clear hmk
    by_cases hjl : j < f.len
    · obtain ⟨b, o, rfl, hat⟩ := hl (by rintro rfl; simp [Pp.len] at hjl)
      have hat' := hat.later (w' := wr) (fun b o hlt => hb.cell (p := ⟨b, o, none⟩) hlt)
      obtain ⟨lk, ln, lf, rk, rn, rf, r, Alf, Clf, Arf, Crf, e1, e2, c0, c1, c2, hl_lf, c3, c4, c5, hl_rf⟩ := Pp.Lies.row hat' hjl
      have hnd := f.nodes_drop j
      rw [e1.out] at hnd
      skip
      have hkm : lf.nodes + rf.nodes ≤ 1048576 := by simp only [Pp.nodes] at hnd; omega
      have KC : Hid (Calls Tryd.prog 56 #[.agg #[.int .i64 lk, .int .i64 ln, .slice Alf lf.len Clf, .int .i64 rk, .int .i64 rn, .slice Arf rf.len Crf]] wr (fun e w' => ∃ Zlf Zrf, e = .returned (.agg #[.int .i64 lk, .int .i64 ln, .slice Zlf lf.len lf.len, .int .i64 rk, .int .i64 rn, .slice Zrf rf.len rf.len]) ∧ lf.LiesIn w' wr.heap.size w'.heap.size Zlf ∧ rf.LiesIn w' wr.heap.size w'.heap.size Zrf ∧ Below wr.heap.size wr w')) :=
        toPair_u lk ln lf rk rn rf hkm Alf Arf Clf Crf wr hl_lf hl_rf
      have HAT := Lib.hid hat
      clear hnd hat hat' hl_lf hl_rf hl hkm
      go_wp2_with fail
      refine KC.out.mono ?_
      rintro e w1 ⟨Zlf, Zrf, rfl, qlf, qrf, hb1⟩
      have hlt := hR.out.2.1
      have hR1 := hR.out.below hb1
      obtain ⟨⟨v0, g0⟩, ⟨v1, g1⟩, ⟨v2, g2⟩, ⟨v3, g3⟩, ⟨v4, g4⟩, ⟨v5, g5⟩, fz⟩ := hR1.cells hjl
      have hR' := Lib.hid (Pp.rows_step hR1 e1.out e2.out hjl hlt qlf qrf)
      have hb2 := Lib.hid (hb.trans (hb1.mono hb.size))
      clear hR hR1 qlf qrf hb hb1 c0 c1 c2 c3 c4 c5 hlt KC
      go_wp2_with fail
      go_roundw
      case rel => exact ⟨j + 1, by omega, by go_num, hR'.out, by have hb := hb2.out; go_grown⟩
      case measure => simp [intOf]; omega
    · obtain rfl : j = f.len := by omega
      go_wp2_with fail
      go_ret
      exact ⟨_, rfl, Pp.rows_end hR.out (Nat.le_refl _), hb⟩

set_option maxHeartbeats 4000000 in
set_option maxRecDepth 100000 in
theorem eqPair_u (lk : Int) (ln : Int) (lf : Fo) (rk : Int) (rn : Int) (rf : Fo) (hf_lf : lf.len ≤ 9223372036854775807 ∧ lf.Fits) (hf_rf : rf.len ≤ 9223372036854775807 ∧ rf.Fits) (Alf Arf Blf Brf : Option Addr) (Clf Crf Dlf Drf : Nat) (w : World) (hl_lf : lf.Lies w Alf) (hl_rf : rf.Lies w Arf) (hr_lf : lf.Lies w Blf) (hr_rf : rf.Lies w Brf) :
    Calls Tryd.prog 62 #[.agg #[.int .i64 lk, .int .i64 ln, .slice Alf lf.len Clf, .int .i64 rk, .int .i64 rn, .slice Arf rf.len Crf], .agg #[.int .i64 lk, .int .i64 ln, .slice Blf lf.len Dlf, .int .i64 rk, .int .i64 rn, .slice Brf rf.len Drf]] w fun e w' => e = .returned (.bool true) ∧ Below w.heap.size w w' := by
  have K0 : Hid (∀ W : World, Sees w W → Calls Tryd.prog 21 #[.agg #[.int .i64 lk, .int .i64 ln, .slice Alf lf.len Clf], .agg #[.int .i64 lk, .int .i64 ln, .slice Blf lf.len Dlf]] W fun e w' => e = .returned (.bool true) ∧ Below W.heap.size W w') := fun W h => eqExpr_u lk ln lf hf_lf Alf Blf Clf Dlf W (hl_lf.sees h) (hr_lf.sees h)
  have K1 : Hid (∀ W : World, Sees w W → Calls Tryd.prog 21 #[.agg #[.int .i64 rk, .int .i64 rn, .slice Arf rf.len Crf], .agg #[.int .i64 rk, .int .i64 rn, .slice Brf rf.len Drf]] W fun e w' => e = .returned (.bool true) ∧ Below W.heap.size W w') := fun W h => eqExpr_u rk rn rf hf_rf Arf Brf Crf Drf W (hl_rf.sees h) (hr_rf.sees h)
  clear hl_lf hr_lf hl_rf hr_rf
  go_enter Tryd.func62, Tryd.ntmps62
  go_wp2_with fail
  refine (K0.out _ (by unfold Sees; go_grown)).mono ?_
  rintro e w0 ⟨rfl, hb⟩
  have S0 : Hid (Sees w w0) := Sees.below (by unfold Sees; go_grown) hb
  have HB0 : w0.heap[w.heap.size]? = some (.cells #[.int .i64 lk, .int .i64 ln, .slice Alf lf.len Clf, .int .i64 rk, .int .i64 rn, .slice Arf rf.len Crf] 101 (0, 0)) := (hb.block _ (by simp <;> omega)).trans ((Below.heap_alloc _ _ _ (by simp <;> omega)).trans (heap_new _ _ _ rfl))
  have HB1 : w0.heap[w.heap.size + 1]? = some (.cells #[.int .i64 lk, .int .i64 ln, .slice Blf lf.len Dlf, .int .i64 rk, .int .i64 rn, .slice Brf rf.len Drf] 101 (0, 0)) := (hb.block _ (by simp <;> omega)).trans (heap_new _ _ _ (by simp))
  clear hb
  have H0 := Lib.hid HB0; have H1 := Lib.hid HB1
  clear HB0 HB1
  obtain ⟨c0, c1, c2, c3, c4, c5, _, _, _, _, _, _⟩ := fc6 H0.out
  obtain ⟨d0, d1, d2, d3, d4, d5, _, _, _, _, _, _⟩ := fc6 H1.out
  go_wp2_with fail
  clear c0 d0 c1 d1 c2 d2 c3 d3 c4 d4 c5 d5
  have HB0 := H0.out; have HB1 := H1.out
  clear H0 H1
  refine (K1.out _ S0.out).mono ?_
  rintro e w1 ⟨rfl, hb⟩
  have S1 := Lib.hid (Sees.below S0.out hb)
  have HB0 := (hb.block _ (Array.getElem?_eq_some_iff.1 HB0).1).trans HB0
  have HB1 := (hb.block _ (Array.getElem?_eq_some_iff.1 HB1).1).trans HB1
  clear hb
  clear HB0 HB1
  go_wp2_with fail
  go_ret
  exact ⟨rfl, S1.out⟩

set_option maxHeartbeats 4000000 in
set_option maxRecDepth 100000 in
theorem eqPairS_u (f : Pp) (hf' : f.len ≤ 9223372036854775807 ∧ f.Fits) (A A' : Option Addr) (C C' : Nat) (w : World) (hl : f.Lies w A) (hl' : f.Lies w A') :
    Calls Tryd.prog 29 #[.slice A f.len C, .slice A' f.len C'] w fun e w' => e = .returned (.bool true) ∧ Below w.heap.size w w' := by
  have hm := hf'.1
  have hf := hf'.2
  have nl : ((f.len : Int) != (f.len : Int)) = false := by simp
  go_enter Tryd.func29, Tryd.ntmps29
  go_wp2_with fail
  go_loopw [5] (fun i wr => ∃ j : Nat, j ≤ f.len ∧ i = .int .i64 j ∧ Hid (Below w.heap.size w wr)) (fun i _ => f.len - (intOf i).toNat)
  case atStart => exact ⟨0, Nat.zero_le _, rfl, Below.refl _ _⟩
  case round =>
    obtain ⟨j, hj, rfl, hb⟩ := hrel
    clear nl
    by_cases hjl : j < f.len
    · obtain ⟨b, o, rfl, hat⟩ := hl (by rintro rfl; simp [Pp.len] at hjl)
      obtain ⟨b', o', rfl, hat'⟩ := hl' (by rintro rfl; simp [Pp.len] at hjl)
      have hatr := hat.later (w' := wr) (fun b o hlt => hb.out.cell (p := ⟨b, o, none⟩) hlt)
      have hatr' := hat'.later (w' := wr) (fun b o hlt => hb.out.cell (p := ⟨b, o, none⟩) hlt)
      obtain ⟨lk, ln, lf, rk, rn, rf, r, Alf, Clf, Arf, Crf, e1, e2, c0, c1, c2, hl_lf, c3, c4, c5, hl_rf⟩ := Pp.Lies.row hatr hjl
      obtain ⟨lk_, ln_, lf_, rk_, rn_, rf_, r_, Blf, Dlf, Brf, Drf, e3, e4, d0, d1, d2, hr_lf, d3, d4, d5, hr_rf⟩ := Pp.Lies.row hatr' hjl
      have he := e1.out.symm.trans e3.out
      simp only [Pp.cons.injEq] at he
      obtain ⟨rfl, rfl, rfl, rfl, rfl, rfl, rfl⟩ := he
      have hfd := Pp.fits_drop hf j
      have hnd := f.nodes_drop j
      rw [e1.out] at hfd hnd
      skip
      have hj0 : (0 : Int) ≤ (j : Int) := Int.natCast_nonneg _
      have hj1 : (j : Int) < (f.len : Int) := by omega
      have KC : Hid (∀ W : World, Sees wr W → Calls Tryd.prog 62 #[.agg #[.int .i64 lk, .int .i64 ln, .slice Alf lf.len Clf, .int .i64 rk, .int .i64 rn, .slice Arf rf.len Crf], .agg #[.int .i64 lk, .int .i64 ln, .slice Blf lf.len Dlf, .int .i64 rk, .int .i64 rn, .slice Brf rf.len Drf]] W fun e w' => e = .returned (.bool true) ∧ Below W.heap.size W w') :=
        fun W h => eqPair_u lk ln lf rk rn rf (hfd.1) (hfd.2.1) Alf Arf Blf Brf Clf Crf Dlf Drf W (hl_lf.sees h) (hl_rf.sees h) (hr_lf.sees h) (hr_rf.sees h)
      have JL := Lib.hid hjl
      clear hfd hnd e1 e2 e3 e4 hat hat' hatr hatr' hl hl' hl_lf hr_lf hl_rf hr_rf  
      go_wp2_with fail
      go_still_tail 8, (by kernel_rfl)
      change wpList _ _ _ _ _ wr.drew
      have SD := Lib.hid (Sees.drew (Sees.refl wr))
      generalize wr.drew = w2 at SD ⊢
      clear c0 d0 c1 d1 c2 d2 c3 d3 c4 d4 c5 d5
      go_wp2_with fail
      refine (KC.out _ SD.out).mono ?_
      rintro e w1 ⟨rfl, hb1⟩
      have hb2 := Lib.hid (Sees.below hb.out (Sees.below SD.out hb1))
      clear hb hb1 KC SD
      go_wp2_with fail
      go_roundw
      case rel => exact ⟨j + 1, by omega, by go_num, hb2⟩
      case measure => simp [intOf]; omega
    · obtain rfl : j = f.len := by omega
      go_wp2_with fail
      go_ret
      exact ⟨rfl, hb.out⟩
end Go.Proofs.YtojheipllpkgdaaDoor
