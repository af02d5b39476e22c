/- Contracts of laws.szSpotS, laws.szSpot, laws.szFlow. -/
import Derived.Test.YtmblgkpgfofceaaDoorSz
import Derived.Test.YtmblgkpgfofceaaDoorSp
namespace Go.Proofs.YtmblgkpgfofceaaDoor
open Go.RowKit

set_option maxHeartbeats 1000000 in
theorem szSpot_any (x : Sp) (hm : x.cf.len ≤ 9223372036854775807) (hf : x.cf.Fits) (l : Int) (A : Option Addr) (C : Nat) (w : World) (hA : x.cf.Lies w A) (h1 : -1 ≤ l) (h2 : l ≤ 1048576) :
    Calls Tryd.prog 21 #[.agg #[.int .i64 x.k, .int .i64 x.n, .int .i64 x.ck, .int .i64 x.cn, .slice A x.cf.len C, .int .i64 x.tg, .int .i64 x.el], .int .i64 l] w fun e w' => e = .returned (.int .i64 (szR x.cnt l)) ∧ Below w.heap.size w w' := by
  obtain ⟨z, hz⟩ : ∃ z : Int, Hid (z = szR x.cnt l) := ⟨_, rfl⟩
  have K1 : Hid (∀ W : World, Sees w W → Calls Tryd.prog 36 #[.agg #[.int .i64 x.ck, .int .i64 x.cn, .slice A x.cf.len C], .int .i64 l] W fun e w' => e = .returned (.int .i64 z) ∧ Below W.heap.size W w') := fun W h => by
    rw [hz.out]
    exact szExpr_any x.cf hm hf x.ck x.cn l A C W (hA.sees h) h1 h2
  have H2 : Hid (z < 0 → z = -1) := by
    intro h
    rw [hz.out] at h ⊢
    unfold szR at h ⊢
    split <;> simp_all <;> omega
  rw [← hz.out]
  clear hz hA
  by_cases hzz : z < 0
  all_goals
    go_enter Tryd.func21, Tryd.ntmps21
    go_wp2_with fail
    refine (K1.out _ (by unfold Sees; go_grown)).mono ?_
    rintro e w1 ⟨rfl, hb⟩
    have B1 : Sees w w1 := Sees.below (by unfold Sees; go_grown) hb
    clear hb
    go_wp2_with fail
    go_ret
    first | exact ⟨rfl, B1⟩ | exact ⟨ret_int (H2.out hzz).symm, B1⟩

set_option maxHeartbeats 1000000 in
theorem szSpotS_any (xs : List Sp) (hf : FitSp xs) (l : Int) (A : Option Addr) (C : Nat) (w : World) (h : SpL w xs A) (h1 : -1 ≤ l) (h2 : l ≤ 1048576) :
    Calls Tryd.prog 10 #[.slice A xs.length C, .int .i64 l] w fun e w' => e = .returned (.int .i64 (szR (tot Sp.cnt xs) l)) ∧ Below w.heap.size w w' := by
  have hm := hf.1
  by_cases hx : l < xs.length
  · have H := Lib.hid (szR_neg (n := tot Sp.cnt xs) (l := l) (by unfold tot; omega))
    have hz : l - xs.length < 0 := by omega
    go_enter Tryd.func10, Tryd.ntmps10
    go_wp2_with fail
    go_ret
    exact ⟨ret_int H.out.symm, Below.refl _ _⟩
  · have HI : Hid (szR (tot Sp.cnt xs) l = szR (rest Sp.cnt xs 0) (l - xs.length)) := by
      show _ = _
      rw [rest_zero]
      unfold szR tot
      split <;> split <;> omega
    have hz : ¬ l - xs.length < 0 := by omega
    have HH := Lib.hid h; have HF := Lib.hid hf
    clear h hf
    go_enter Tryd.func10, Tryd.ntmps10
    go_wp2_with fail
    go_loopw [1, 5] (fun s i wr => ∃ (j : Nat) (q : Int), j ≤ xs.length ∧ i = .int .i64 j ∧ s = .int .i64 q ∧ 0 ≤ q ∧ q ≤ 1048576 ∧ Hid (szR (tot Sp.cnt xs) l = szR (rest Sp.cnt xs j) q) ∧ Below w.heap.size w wr) (fun _ i _ => xs.length - (intOf i).toNat)
    case atStart => exact ⟨0, _, Nat.zero_le _, rfl, rfl, by omega, by omega, HI, Below.refl _ _⟩
    case round =>
      obtain ⟨j, q, hj, rfl, rfl, q0, q1, hq, hb⟩ := hrel
      clear hz hx HI
      by_cases hjl : j < xs.length
      · obtain ⟨b, o, rfl, hat⟩ := HH.out (by rintro rfl; simp at hjl)
        obtain ⟨B, D, c', hQ⟩ := hat j xs[j] (List.getElem?_eq_getElem hjl)
        have hstep := rest_step Sp.cnt xs hjl
        have hfx := HF.out.2 xs[j] (List.getElem_mem hjl)
        obtain ⟨x, hx⟩ : ∃ x, x = xs[j] := ⟨_, rfl⟩
        rw [← hx] at c' hQ hstep hfx
        obtain ⟨c0, c1, c2, c3, c4, c5, c6⟩ := c'.below hb
        obtain ⟨z, hz⟩ : ∃ z : Int, Hid (z = szR x.cnt q) := ⟨_, rfl⟩
        have K : Hid (Calls Tryd.prog 21 #[.agg #[.int .i64 x.k, .int .i64 x.n, .int .i64 x.ck, .int .i64 x.cn, .slice B x.cf.len D, .int .i64 x.tg, .int .i64 x.el], .int .i64 q] wr fun e w' => e = .returned (.int .i64 z) ∧ Below wr.heap.size wr w') := by
          show Calls _ _ _ _ _
          rw [hz.out]
          exact szSpot_any x hfx.1 hfx.2 q B D wr (hQ.below hb) (by omega) q1
        have HA := Lib.hid hat
        clear hat c' hQ hx hfx
        by_cases hs : q < x.cnt
        · have hzz : z < 0 := by rw [hz.out, szR_neg hs]; omega
          have hz1 : Hid (z = -1) := by show _ = _; rw [hz.out, szR_neg hs]
          have hr : Hid (szR (tot Sp.cnt xs) l = -1) := by show _ = _; rw [hq.out, szR_neg (by omega)]
          clear hz hs hstep hq
          go_wp2_with fail
          refine K.out.mono ?_
          rintro e w1 ⟨rfl, hb1⟩
          have hb2 := hb.trans (hb1.mono hb.size)
          go_wp2_with fail
          go_ret
          exact ⟨ret_int hr.out.symm, hb2⟩
        · have hzv : z = q - (x.cnt : Nat) := by rw [hz.out, szR_pos (by omega)]
          have hzz : ¬ z < 0 := by omega
          have hz0 : 0 ≤ z := by omega
          have hz1 : z ≤ 1048576 := by omega
          have hr : Hid (szR (tot Sp.cnt xs) l = szR (rest Sp.cnt xs (j + 1)) z) := by
            show _ = _
            rw [hq.out, hstep]
            unfold szR
            split <;> split <;> omega
          clear hzv
          clear hz hs hstep hq
          go_wp2_with fail
          refine K.out.mono ?_
          rintro e w1 ⟨rfl, hb1⟩
          have hb2 := hb.trans (hb1.mono hb.size)
          clear c0 c1 c2 c3 c4 c5 c6
          go_wp2_with fail
          go_roundw
          case rel => exact ⟨j + 1, z, by omega, by go_num, rfl, hz0, hz1, hr, hb2⟩
          case measure => simp [intOf]; omega
      · obtain rfl : j = xs.length := by omega
        have hr : Hid (szR (tot Sp.cnt xs) l = q) := by
          show _ = _
          rw [hq.out, rest_end, szR_pos (by omega)]
          omega
        clear hq
        go_wp2_with fail
        go_ret
        exact ⟨ret_int hr.out.symm, hb⟩

set_option maxHeartbeats 1000000 in
theorem szFlow_any (s : Int) (xs : List Sp) (hf : FitSp xs) (l : Int) (A : Option Addr) (C : Nat) (w : World) (h : SpL w xs A) (h1 : -1 ≤ l) (h2 : l ≤ 1048576) :
    Calls Tryd.prog 4 #[.agg #[.int .i64 s, .slice A xs.length C], .int .i64 l] w fun e w' => e = .returned (.int .i64 (szR (tot Sp.cnt xs) l)) ∧ Below w.heap.size w w' := by
  obtain ⟨z, hz⟩ : ∃ z : Int, Hid (z = szR (tot Sp.cnt xs) l) := ⟨_, rfl⟩
  have K1 : Hid (∀ W : World, Sees w W → Calls Tryd.prog 10 #[.slice A xs.length C, .int .i64 l] W fun e w' => e = .returned (.int .i64 z) ∧ Below W.heap.size W w') := fun W hs => by
    rw [hz.out]
    exact szSpotS_any xs hf l A C W (h.sees hs) h1 h2
  have H2 : Hid (z < 0 → z = -1) := by
    intro h
    rw [hz.out] at h ⊢
    unfold szR at h ⊢
    split <;> simp_all <;> omega
  rw [← hz.out]
  clear hz h
  by_cases hzz : z < 0
  all_goals
    go_enter Tryd.func4, Tryd.ntmps4
    go_wp2_with fail
    refine (K1.out _ (by unfold Sees; go_grown)).mono ?_
    rintro e w1 ⟨rfl, hb⟩
    have B1 : Sees w w1 := Sees.below (by unfold Sees; go_grown) hb
    clear hb
    go_wp2_with fail
    go_ret
    first | exact ⟨rfl, B1⟩ | exact ⟨ret_int (H2.out hzz).symm, B1⟩
end Go.Proofs.YtmblgkpgfofceaaDoor
