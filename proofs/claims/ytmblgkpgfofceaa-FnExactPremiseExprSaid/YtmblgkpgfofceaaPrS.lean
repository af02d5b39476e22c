/- Contracts of laws.szPremiseS, laws.szPremise. -/
import Derived.Test.YtmblgkpgfofceaaSz
import Derived.Test.YtmblgkpgfofceaaPr
namespace Go.Proofs.Ytmblgkpgfofceaa
open Go.RowKit

set_option maxHeartbeats 1000000 in
theorem szPremise_any (x : Pm) (hf : (x.pf.len ≤ 9223372036854775807 ∧ x.pf.Fits) ∧ (x.qf.len ≤ 9223372036854775807 ∧ x.qf.Fits)) (l : Int) (A B : Option Addr) (C D : Nat) (w : World) (hl : x.pf.Lies w A) (hr : x.qf.Lies w B) (h1 : -1 ≤ l) (h2 : l ≤ 1048576) :
    Calls Try.prog 19 #[.agg #[.int .i64 x.pk, .int .i64 x.pn, .slice A x.pf.len C, .int .i64 x.act, .int .i64 x.qk, .int .i64 x.qn, .slice B x.qf.len D], .int .i64 l] w fun e w' => e = .returned (.int .i64 (szR x.cnt l)) ∧ Below w.heap.size w w' := by
  have LL : ∀ (W : World), Sees w W → x.pf.Lies W A ∧ x.qf.Lies W B := fun W h => ⟨hl.sees h, hr.sees h⟩
  by_cases hx : l < x.pf.nodes
  · have hz := szR_neg hx
    have H := Lib.hid (szR_neg (n := x.cnt) (l := l) (by unfold Pm.cnt; omega))
    have K1 : Hid (∀ W : World, Sees w W → Calls Try.prog 57 #[.agg #[.int .i64 x.pk, .int .i64 x.pn, .slice A x.pf.len C], .int .i64 l] W fun e w' => e = .returned (.int .i64 (-1)) ∧ Below W.heap.size W w') := fun W h => by rw [← hz]; exact szExpr_any x.pf hf.1.1 hf.1.2 x.pk x.pn l A C W (LL W h).1 h1 h2
    clear hz LL hl hr
    go_enter Try.func19, Try.ntmps19
    go_wp2_with fail
    refine (K1.out _ (by unfold Sees; go_grown)).mono ?_; rintro e w1 ⟨rfl, hb⟩
    have B1 : Sees w w1 := Sees.below (by unfold Sees; go_grown) hb
    clear hb
    go_wp2_with fail
    go_ret
    exact ⟨ret_int H.out.symm, B1⟩
  · obtain ⟨s, hz, hs0, hs1, hs2⟩ : ∃ s : Int, s = szR x.pf.nodes l ∧ 0 ≤ s ∧ s ≤ 1048576 ∧ s = l - x.pf.nodes := ⟨_, rfl, by rw [szR_pos (by omega)]; omega, by rw [szR_pos (by omega)]; omega, by rw [szR_pos (by omega)]⟩
    have K1 : Hid (∀ W : World, Sees w W → Calls Try.prog 57 #[.agg #[.int .i64 x.pk, .int .i64 x.pn, .slice A x.pf.len C], .int .i64 l] W fun e w' => e = .returned (.int .i64 s) ∧ Below W.heap.size W w') := fun W h => by rw [hz]; exact szExpr_any x.pf hf.1.1 hf.1.2 x.pk x.pn l A C W (LL W h).1 h1 h2
    clear hz
    obtain ⟨s2, hs3⟩ : ∃ s2 : Int, s2 = szR x.qf.nodes s := ⟨_, rfl⟩
    have H : Hid (szR x.cnt l = s2) := by
      show _ = _
      rw [hs3]
      unfold szR Pm.cnt
      rw [hs2]
      split <;> split <;> omega
    have K2 : Hid (∀ W : World, Sees w W → Calls Try.prog 57 #[.agg #[.int .i64 x.qk, .int .i64 x.qn, .slice B x.qf.len D], .int .i64 s] W fun e w' => e = .returned (.int .i64 s2) ∧ Below W.heap.size W w') := fun W h => by rw [hs3]; exact szExpr_any x.qf hf.2.1 hf.2.2 x.qk x.qn s B D W (LL W h).2 (by omega) hs1
    have H2 : Hid (s2 < 0 → s2 = -1) := by
      intro h
      rw [hs3] at h ⊢
      unfold szR at h ⊢
      split <;> simp_all <;> omega
    clear hs3 hs2 LL hl hr
    by_cases hneg : s2 < 0
    all_goals
      go_enter Try.func19, Try.ntmps19
      go_wp2_with fail
      refine (K1.out _ (by unfold Sees; go_grown)).mono ?_; rintro e w1 ⟨rfl, hb⟩
      have B1 : Sees w w1 := Sees.below (by unfold Sees; go_grown) hb
      have HB1 : w1.heap[w.heap.size]? = some (.cells #[.int .i64 x.pk, .int .i64 x.pn, .slice A x.pf.len C, .int .i64 x.act, .int .i64 x.qk, .int .i64 x.qn, .slice B x.qf.len D] 42 (0, 0)) := (hb.block _ (by simp <;> omega)).trans (heap_new _ _ _ rfl)
      clear hb
      obtain ⟨c0, c1, c2, c3, c4, c5, c6, _⟩ := pm_facts HB1
      go_wp2_with fail
      refine (K2.out _ B1).mono ?_; rintro e w2 ⟨rfl, hb⟩
      have B2 := B1.below hb
      clear hb
    · have H3 := Lib.hid (H2.out hneg)
      go_wp2_with fail
      go_ret
      exact ⟨ret_int (by rw [H.out, H3.out]), B2⟩
    · go_wp2_with fail
      go_ret
      exact ⟨ret_int H.out.symm, B2⟩

set_option maxHeartbeats 1000000 in
theorem szPremiseS_any (xs : List Pm) (hf : FitPm xs) (l : Int) (A : Option Addr) (C : Nat) (w : World) (h : PmL w xs A) (h1 : -1 ≤ l) (h2 : l ≤ 1048576) :
    Calls Try.prog 9 #[.slice A xs.length C, .int .i64 l] w fun e w' => e = .returned (.int .i64 (szR (tot Pm.cnt xs) l)) ∧ Below w.heap.size w w' := by
  have hm := hf.1
  by_cases hx : l < xs.length
  · have H := Lib.hid (szR_neg (n := tot Pm.cnt xs) (l := l) (by unfold tot; omega))
    have hz : l - xs.length < 0 := by omega
    go_enter Try.func9, Try.ntmps9
    go_wp2_with fail
    go_ret
    exact ⟨ret_int H.out.symm, Below.refl _ _⟩
  · have HI : Hid (szR (tot Pm.cnt xs) l = szR (rest Pm.cnt xs 0) (l - xs.length)) := by
      show _ = _
      rw [rest_zero]
      unfold szR tot
      split <;> split <;> omega
    have hz : ¬ l - xs.length < 0 := by omega
    have HH := Lib.hid h; have HF := Lib.hid hf
    clear h hf
    go_enter Try.func9, Try.ntmps9
    go_wp2_with fail
    go_loopw [1, 5] (fun s i wr => ∃ (j : Nat) (q : Int), j ≤ xs.length ∧ i = .int .i64 j ∧ s = .int .i64 q ∧ 0 ≤ q ∧ q ≤ 1048576 ∧ Hid (szR (tot Pm.cnt xs) l = szR (rest Pm.cnt xs j) q) ∧ Below w.heap.size w wr) (fun _ i _ => xs.length - (intOf i).toNat)
    case atStart => exact ⟨0, _, Nat.zero_le _, rfl, rfl, by omega, by omega, HI, Below.refl _ _⟩
    case round =>
      obtain ⟨j, q, hj, rfl, rfl, q0, q1, hq, hb⟩ := hrel
      clear hz hx HI
      by_cases hjl : j < xs.length
      · obtain ⟨b, o, rfl, hat⟩ := HH.out (by rintro rfl; simp at hjl)
        obtain ⟨A', C', B', D', c', hQ, hR⟩ := hat j xs[j] (List.getElem?_eq_getElem hjl)
        have hstep := rest_step Pm.cnt xs hjl
        have hfx := HF.out.2 xs[j] (List.getElem_mem hjl)
        obtain ⟨x, hx⟩ : ∃ x, x = xs[j] := ⟨_, rfl⟩
        rw [← hx] at c' hQ hR hstep hfx
        obtain ⟨c0, c1, c2, c3, c4, c5, c6⟩ := c'.below hb
        obtain ⟨z, hz⟩ : ∃ z : Int, Hid (z = szR x.cnt q) := ⟨_, rfl⟩
        have K : Hid (Calls Try.prog 19 #[.agg #[.int .i64 x.pk, .int .i64 x.pn, .slice A' x.pf.len C', .int .i64 x.act, .int .i64 x.qk, .int .i64 x.qn, .slice B' x.qf.len D'], .int .i64 q] wr fun e w' => e = .returned (.int .i64 z) ∧ Below wr.heap.size wr w') := by
          show Calls _ _ _ _ _
          rw [hz.out]
          exact szPremise_any x hfx q A' B' C' D' wr (hQ.below hb) (hR.below hb) (by omega) q1
        have HA := Lib.hid hat
        clear hat c' hQ hR hx hfx
        by_cases hs : q < x.cnt
        · have hzz : z < 0 := by rw [hz.out, szR_neg hs]; omega
          have hz1 : Hid (z = -1) := by show _ = _; rw [hz.out, szR_neg hs]
          have hr : Hid (szR (tot Pm.cnt xs) l = -1) := by show _ = _; rw [hq.out, szR_neg (by omega)]
          clear hz hs hstep hq
          go_wp2_with fail
          refine K.out.mono ?_
          rintro e w1 ⟨rfl, hb1⟩
          have hb2 := hb.trans (hb1.mono hb.size)
          go_wp2_with fail
          go_ret
          exact ⟨ret_int hr.out.symm, hb2⟩
        · have hzv : z = q - (x.cnt : Nat) := by rw [hz.out, szR_pos (by omega)]
          have hzz : ¬ z < 0 := by omega
          have hz0 : 0 ≤ z := by omega
          have hz1 : z ≤ 1048576 := by omega
          have hr : Hid (szR (tot Pm.cnt xs) l = szR (rest Pm.cnt xs (j + 1)) z) := by
            show _ = _
            rw [hq.out, hstep]
            unfold szR
            split <;> split <;> omega
          clear hzv
          clear hz hs hstep hq
          go_wp2_with fail
          refine K.out.mono ?_
          rintro e w1 ⟨rfl, hb1⟩
          have hb2 := hb.trans (hb1.mono hb.size)
          clear c0 c1 c2 c3 c4 c5 c6
          go_wp2_with fail
          go_roundw
          case rel => exact ⟨j + 1, z, by omega, by go_num, rfl, hz0, hz1, hr, hb2⟩
          case measure => simp [intOf]; omega
      · obtain rfl : j = xs.length := by omega
        have hr : Hid (szR (tot Pm.cnt xs) l = q) := by
          show _ = _
          rw [hq.out, rest_end, szR_pos (by omega)]
          omega
        clear hq
        go_wp2_with fail
        go_ret
        exact ⟨ret_int hr.out.symm, hb⟩
end Go.Proofs.Ytmblgkpgfofceaa
