/- Contracts of laws.szProgS, laws.szProg. -/
import Derived.Test.YtcgbepmhfimbjaaGreatDoorSz
import Derived.Test.YtcgbepmhfimbjaaGreatDoorPg
namespace Go.Proofs.YtcgbepmhfimbjaaGreatDoor
open Go.RowKit

set_option maxHeartbeats 1000000 in
set_option maxRecDepth 100000 in
theorem szProg_of {cf : Fo} {ks : Pg} (hcm : cf.len ≤ 9223372036854775807) (hcf : cf.Fits) (ihS : ∀ (l : Int) (B : Option Addr) (D : Nat) (w : World), ks.Lies w B → -1 ≤ l → l ≤ 1048576 →
      Calls Tryz.prog 43 #[.slice B ks.len D, .int .i64 l] w fun e w' => e = .returned (.int .i64 (szR ks.nodes l)) ∧ Below w.heap.size w w')
    (k n ck cn l : Int) (A B : Option Addr) (C D : Nat) (w : World) (hA : cf.Lies w A) (hB : ks.Lies w B) (h1 : -1 ≤ l) (h2 : l ≤ 1048576) :
    Calls Tryz.prog 17 #[.agg #[.int .i64 k, .int .i64 n, .int .i64 ck, .int .i64 cn, .slice A cf.len C, .slice B ks.len D], .int .i64 l] w fun e w' => e = .returned (.int .i64 (szR (cf.nodes + ks.nodes) l)) ∧ Below w.heap.size w w' := by
  obtain ⟨z, hz⟩ : ∃ z : Int, Hid (z = szR cf.nodes l) := ⟨_, rfl⟩
  have K1 : Hid (∀ W : World, Sees w W → Calls Tryz.prog 16 #[.agg #[.int .i64 ck, .int .i64 cn, .slice A cf.len C], .int .i64 l] W fun e w' => e = .returned (.int .i64 z) ∧ Below W.heap.size W w') := fun W h => by
    rw [hz.out]
    exact szExpr_any cf hcm hcf ck cn l A C W (hA.sees h) h1 h2
  by_cases hx : l < cf.nodes
  · have hz1 : Hid (z = -1) := by show _ = _; rw [hz.out, szR_neg hx]
    have hzz : z < 0 := by rw [hz1.out]; omega
    have H : Hid (szR (cf.nodes + ks.nodes) l = -1) := szR_neg (by omega)
    clear ihS hA hB
    go_enter Tryz.func17, Tryz.ntmps17
    go_wp2_with fail
    refine (K1.out _ (by unfold Sees; go_grown)).mono ?_
    rintro e w1 ⟨rfl, hb⟩
    have B1 : Sees w w1 := Sees.below (by unfold Sees; go_grown) hb
    clear hb
    go_wp2_with fail
    go_ret
    exact ⟨ret_int H.out.symm, B1⟩
  · have hzv : z = l - (cf.nodes : Nat) := by rw [hz.out, szR_pos (by omega)]
    have hz0 : 0 ≤ z := by omega
    have hz1 : z ≤ 1048576 := by omega
    have hzz : ¬ z < 0 := by omega
    obtain ⟨y, hy⟩ : ∃ y : Int, Hid (y = szR ks.nodes z) := ⟨_, rfl⟩
    have H : Hid (szR (cf.nodes + ks.nodes) l = y) := by
      show _ = _
      rw [hy.out]
      unfold szR
      split <;> split <;> omega
    have K2 : Hid (∀ W : World, Sees w W → Calls Tryz.prog 43 #[.slice B ks.len D, .int .i64 z] W fun e w' => e = .returned (.int .i64 y) ∧ Below W.heap.size W w') := fun W h => by
      rw [hy.out]
      exact ihS z B D W (hB.sees h) (by omega) hz1
    have H2 : Hid (y < 0 → y = -1) := by
      intro h
      rw [hy.out] at h ⊢
      unfold szR at h ⊢
      split <;> simp_all <;> omega
    clear hzv ihS hA hB
    by_cases hyy : y < 0
    all_goals
      go_enter Tryz.func17, Tryz.ntmps17
      go_wp2_with fail
      refine (K1.out _ (by unfold Sees; go_grown)).mono ?_
      rintro e w1 ⟨rfl, hb⟩
      have B1 : Sees w w1 := Sees.below (by unfold Sees; go_grown) hb
      have x4 : w1.cell? ⟨w.heap.size, 5, none⟩ = some (.slice B ks.len D) := kc hb (by simp [go_sem])
      clear hb
      go_wp2_with fail
      refine (K2.out _ B1).mono ?_
      rintro e w2 ⟨rfl, hb⟩
      have B2 : Sees w w2 := B1.below hb
      clear hb B1 x4
      go_wp2_with fail
      go_ret
      first | exact ⟨ret_int H.out.symm, B2⟩ | exact ⟨ret_int (by rw [H.out, H2.out hyy]), B2⟩

set_option maxHeartbeats 1000000 in
theorem szProgS_any : ∀ (N : Nat) (f : Pg), f.nodes < N → f.len ≤ 9223372036854775807 → f.Fits → ∀ (l : Int) (A : Option Addr) (C : Nat) (w : World), f.Lies w A → -1 ≤ l → l ≤ 1048576 →
      Calls Tryz.prog 43 #[.slice A f.len C, .int .i64 l] w fun e w' => e = .returned (.int .i64 (szR f.nodes l)) ∧ Below w.heap.size w w' := by
  intro N
  induction N with
  | zero => intro f hN; exact absurd hN (Nat.not_lt_zero _)
  | succ N ih =>
    intro f hN hm hf l A C w hl h1 h2
    have IH := Lib.hid ih; clear ih
    have hln := f.len_le_nodes
    by_cases hneg : l < f.len
    · rw [szR_neg (by omega)]
      go_enter Tryz.func43, Tryz.ntmps43
      go_wp2_with fail
      go_ret
      exact ⟨rfl, Below.refl _ _⟩
    · go_enter Tryz.func43, Tryz.ntmps43
      go_wp2_with fail
      go_loopw [1, 5] (fun x i wr => ∃ (j : Nat) (q : Int), j ≤ f.len ∧ 0 ≤ q ∧ q ≤ 1048576 ∧ x = .int .i64 q ∧ i = .int .i64 j ∧ Hid (q - (f.drop j).nodes + (f.drop j).len = l - f.nodes) ∧ Below w.heap.size w wr) (fun _ i _ => f.len - (intOf i).toNat)
      case atStart => exact ⟨0, _, Nat.zero_le _, by omega, by omega, rfl, rfl, by show _ = _; simp only [Pg.drop]; omega, Below.refl _ _⟩
      case round =>
        obtain ⟨j, q, hj, hq0, hq1, rfl, rfl, hq, hb⟩ := hrel
        by_cases hjl : j < f.len
        · obtain ⟨b, o, rfl, hat⟩ := hl (by rintro rfl; simp [Pg.len] at hjl)
          have hat' := hat.later (w' := wr) (fun b o hlt => hb.cell (p := ⟨b, o, none⟩) hlt)
          obtain ⟨k, n, ck, cn, cf, ks, r, A', C', B', D', e1, e2, c0, c1, c2, c3, c4, hcl, c5, hl'⟩ := Pg.Lies.row hat' hjl
          have hfd := Pg.fits_drop hf j
          have hnd := f.nodes_drop j
          have hlr := (f.drop (j + 1)).len_le_nodes
          rw [e1.out] at hfd hnd
          have hcm := hfd.1.1
          have hcf := hfd.1.2
          have hks := hfd.2.1
          have hkf := hfd.2.2.1
          have hkn : ks.nodes < N := by simp only [Pg.nodes] at hnd; omega
          have Q1 : Hid (szR (cf.nodes + ks.nodes) q = -1 ∧ l < f.nodes ∨ 0 ≤ szR (cf.nodes + ks.nodes) q ∧ szR (cf.nodes + ks.nodes) q ≤ 1048576 ∧ szR (cf.nodes + ks.nodes) q - (f.drop (j + 1)).nodes + (f.drop (j + 1)).len = l - f.nodes) := by
            have := hq.out
            rw [e1.out] at this
            simp only [Pg.nodes, Pg.len] at this
            rw [← e2.out] at this
            by_cases hx : q < (cf.nodes + ks.nodes : Nat)
            · exact Or.inl ⟨szR_neg hx, by omega⟩
            · rw [szR_pos (by omega)]
              exact Or.inr ⟨by omega, by omega, by omega⟩
          obtain ⟨z, hz⟩ : ∃ z, z = szR (cf.nodes + ks.nodes) q := ⟨_, rfl⟩
          have KC : Hid (∀ W : World, cf.Lies W A' → ks.Lies W B' → Calls Tryz.prog 17 #[.agg #[.int .i64 k, .int .i64 n, .int .i64 ck, .int .i64 cn, .slice A' cf.len C', .slice B' ks.len D'], .int .i64 q] W fun e w' => e = .returned (.int .i64 z) ∧ Below W.heap.size W w') := fun W g1 g2 => by
            rw [hz]
            exact szProg_of hcm hcf (fun l A C w => IH.out ks hkn hks hkf l A C w) k n ck cn q A' B' C' D' W g1 g2 (by omega) hq1
          rw [← hz] at Q1
          clear hq hfd hnd hlr hz
          go_wp2_with fail
          refine (KC.out _ hcl hl').mono ?_; rintro e w1 ⟨rfl, hb1⟩
          have hb2 := hb.trans (hb1.mono hb.size)
          rcases Q1.out with ⟨hx, hy⟩ | ⟨hx0, hx1, hx2⟩
          · subst hx
            clear Q1 KC
            go_wp2_with fail
            go_ret
            exact ⟨ret_int (szR_neg hy).symm, hb2⟩
          · have HX := Lib.hid hx2; clear hx2 Q1 KC
            have hx3 : ¬ z < 0 := by omega
            go_wp2_with fail
            go_roundw
            case rel => exact ⟨j + 1, _, by omega, hx0, hx1, rfl, by go_num, HX.out, hb2⟩
            case measure => simp [intOf]; omega
        · obtain rfl : j = f.len := by omega
          have hq' := hq.out
          rw [Pg.drop_len] at hq'
          simp only [Pg.nodes, Pg.len] at hq'
          have hz : szR f.nodes l = q := by rw [szR_pos (by omega)]; omega
          clear hq' hq
          have HZ := Lib.hid hz; clear hz
          go_wp2_with fail
          go_ret
          exact ⟨ret_int HZ.out.symm, hb⟩

theorem szProg_any (cf : Fo) (ks : Pg) (hcm : cf.len ≤ 9223372036854775807) (hcf : cf.Fits) (hm : ks.len ≤ 9223372036854775807) (hf : ks.Fits) (k n ck cn l : Int) (A B : Option Addr) (C D : Nat) (w : World) (hA : cf.Lies w A) (hB : ks.Lies w B) (h1 : -1 ≤ l) (h2 : l ≤ 1048576) :
    Calls Tryz.prog 17 #[.agg #[.int .i64 k, .int .i64 n, .int .i64 ck, .int .i64 cn, .slice A cf.len C, .slice B ks.len D], .int .i64 l] w fun e w' => e = .returned (.int .i64 (szR (cf.nodes + ks.nodes) l)) ∧ Below w.heap.size w w' :=
  szProg_of hcm hcf (fun l A C w => szProgS_any (ks.nodes + 1) ks (Nat.lt_succ_self _) hm hf l A C w) k n ck cn l A B C D w hA hB h1 h2

end Go.Proofs.YtcgbepmhfimbjaaGreatDoor
