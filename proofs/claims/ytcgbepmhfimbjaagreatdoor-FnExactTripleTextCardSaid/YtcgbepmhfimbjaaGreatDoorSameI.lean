/- Contracts of spec.SameExpr, impl.SameExpr. -/
import Derived.Test.YtcgbepmhfimbjaaGreatDoorSame
import Derived.Deep.RegionHeld3
import Derived.Lib.SmallJoins
namespace Go.Proofs.YtcgbepmhfimbjaaGreatDoor
open Go.RowKit

set_option maxHeartbeats 1000000 in
theorem implSameExpr_aux : ∀ (N : Nat) (f g : Fo), f.nodes < N → f.len ≤ 9223372036854775807 → f.Fits → ∀ (k n k' n' : Int) (A A' : Option Addr) (C C' : Nat) (w : World), f.Lies w A → g.Lies w A' →
      Calls Tryz.prog 138 #[.agg #[.int .i64 k, .int .i64 n, .slice A f.len C], .agg #[.int .i64 k', .int .i64 n', .slice A' g.len C']] w fun e w' => e = .returned (.bool (decide (k = k' ∧ n = n' ∧ f = g))) ∧ Below w.heap.size w w' := by
  intro N
  induction N with
  | zero => intro f g hN; exact absurd hN (Nat.not_lt_zero _)
  | succ N ih =>
    intro f g hN hm hf k n k' n' A A' C C' w hl hl'
    have IH := Lib.hid ih; clear ih
    by_cases hk : k = k'
    · have tk : (k != k') = false := by simp [hk]
      by_cases hn : n = n'
      · have tn : (n != n') = false := by simp [hn]
        by_cases hlen : f.len = g.len
        · have tl : ((f.len : Int) != (g.len : Int)) = false := by simp [hlen]
          have HL := Lib.hid hlen
          have hd : Hid (decide (k = k' ∧ n = n' ∧ f = g) = decide (f = g)) := by show _ = _; simp [hk, hn]
          clear hk hn hlen
          go_enter Tryz.func138, Tryz.ntmps138
          go_wp2_with fail
          go_loopw [30] (fun i wr => ∃ j : Nat, j ≤ f.len ∧ i = .int .i64 j ∧ Hid ((f = g) = (f.drop j = g.drop j)) ∧ Below w.heap.size w wr ∧ Hid (wr.cell? ⟨w.heap.size, 2, none⟩ = some (.slice A f.len C) ∧ wr.cell? ⟨w.heap.size + 1, 2, none⟩ = some (.slice A' g.len C'))) (fun i _ => f.len - (intOf i).toNat)
          case atStart => exact ⟨0, Nat.zero_le _, rfl, rfl, by go_grown, (by simp [go_sem] : _ ∧ _)⟩
          case round =>
            obtain ⟨j, hj, rfl, hq, hb, hbx⟩ := hrel
            obtain ⟨bx, bx'⟩ := hbx.out
            by_cases hjl : j < f.len
            · obtain ⟨c, p, rfl, hat⟩ := hl (by rintro rfl; simp [Fo.len] at hjl)
              obtain ⟨c', p', rfl, hat'⟩ := hl' (by rintro rfl; have := HL.out; simp [Fo.len] at this; omega)
              have hatr := hat.later (w' := wr) (fun b o hlt => hb.cell (p := ⟨b, o, none⟩) hlt)
              have hatr' := hat'.later (w' := wr) (fun b o hlt => hb.cell (p := ⟨b, o, none⟩) hlt)
              obtain ⟨k1, n1, ks, r, A1, C1, e1, e2, c0, c1, c2, hl1⟩ := Fo.Lies.row hatr hjl
              obtain ⟨k2, n2, ks', r', A2, C2, e3, e4, d0, d1, d2, hl2⟩ := Fo.Lies.row hatr' (by rw [← HL.out]; exact hjl)
              have hfd := Fo.fits_drop hf j
              have hnd := f.nodes_drop j
              rw [e1.out] at hfd hnd
              have hks := hfd.1
              have hkf := hfd.2.1
              have hkn : ks.nodes < N := by simp only [Fo.nodes] at hnd; omega
              have hq' : Hid ((f = g) = ((k1 = k2 ∧ n1 = n2 ∧ ks = ks') ∧ f.drop (j + 1) = g.drop (j + 1))) := by
                show _ = _
                rw [hq.out, e1.out, e3.out, ← e2.out, ← e4.out]
                simp [and_assoc]
              clear hfd hnd hq
              have hj0 : (0 : Int) ≤ (j : Int) := Int.natCast_nonneg _
              have hj1 : (j : Int) < (f.len : Int) := by omega
              have hj2 : (j : Int) < (g.len : Int) := by have := HL.out; omega
              obtain ⟨q, hqe⟩ : ∃ q : Bool, q = decide (k1 = k2 ∧ n1 = n2 ∧ ks = ks') := ⟨_, rfl⟩
              have KC : Hid (∀ W : World, ks.Lies W A1 → ks'.Lies W A2 → Calls Tryz.prog 138 #[.agg #[.int .i64 k1, .int .i64 n1, .slice A1 ks.len C1], .agg #[.int .i64 k2, .int .i64 n2, .slice A2 ks'.len C2]] W fun e w' => e = .returned (.bool q) ∧ Below W.heap.size W w') := by
                intro W h1 h2
                rw [hqe]
                exact IH.out ks ks' hkn hks hkf k1 n1 k2 n2 A1 A2 C1 C2 W h1 h2
              have HQ := Lib.hid hqe; clear hqe
              have l1 : c < wr.heap.size := World.block_lt_of_cell? _ _ c0
              have l2 : c' < wr.heap.size := World.block_lt_of_cell? _ _ d0
              have l3 : w.heap.size < wr.heap.size := World.block_lt_of_cell? _ _ bx
              have l4 : w.heap.size + 1 < wr.heap.size := World.block_lt_of_cell? _ _ bx'
              go_wp2_with fail
              go_region_held3 (fun w' => w'.cell? ⟨w.heap.size, 2, none⟩ = some (.slice (some ⟨c, p, none⟩) f.len C) ∧ w'.cell? ⟨w.heap.size + 1, 2, none⟩ = some (.slice (some ⟨c', p', none⟩) g.len C') ∧
                  w'.cell? ⟨c, p + j * 3, none⟩ = some (.int .i64 k1) ∧ w'.cell? ⟨c, p + j * 3 + 1, none⟩ = some (.int .i64 n1) ∧ w'.cell? ⟨c, p + j * 3 + 2, none⟩ = some (.slice A1 ks.len C1) ∧
                  w'.cell? ⟨c', p' + j * 3, none⟩ = some (.int .i64 k2) ∧ w'.cell? ⟨c', p' + j * 3 + 1, none⟩ = some (.int .i64 n2) ∧ w'.cell? ⟨c', p' + j * 3 + 2, none⟩ = some (.slice A2 ks'.len C2))
                (first | go_keep | (refine ⟨?_, ?_, ?_, ?_, ?_, ?_, ?_, ?_⟩ <;> (first | exact (m1 _ _ l3).trans bx | exact (m1 _ _ l4).trans bx' | exact (m1 _ _ l1).trans c0 | exact (m1 _ _ l1).trans c1 | exact (m1 _ _ l1).trans c2 | exact (m1 _ _ l2).trans d0 | exact (m1 _ _ l2).trans d1 | exact (m1 _ _ l2).trans d2)))
                (first | (go_at_call 138; refine (KC.out _ (hl1.later ?_) (hl2.later ?_)).mono ?_; (intro b o hlt; rfl); (intro b o hlt; rfl); rintro e w1 ⟨rfl, hb1⟩; obtain ⟨m1, m2, m3⟩ := bkeep hb1))
              have hb2 : Below w.heap.size w w1 := (Below.drew hb).trans (hb1.mono hb.size)
              have hbx2 : Hid (w1.cell? ⟨w.heap.size, 2, none⟩ = some (.slice (some ⟨c, p, none⟩) f.len C) ∧ w1.cell? ⟨w.heap.size + 1, 2, none⟩ = some (.slice (some ⟨c', p', none⟩) g.len C')) := ⟨(m1 _ _ l3).trans bx, (m1 _ _ l4).trans bx'⟩
              clear hb hb1 m1 m2 m3 KC c0 c1 c2 d0 d1 d2 hat hat' hatr hatr' hl1 hl2 hbx bx bx'
              cases q
              · go_wp2_with fail
                go_ret
                refine ⟨ret_bool ?_, hb2⟩
                rw [hd.out]
                symm
                refine decide_eq_false (fun h4 => of_decide_eq_false HQ.out.symm ?_)
                rw [hq'.out] at h4
                exact h4.1
              · have hq2 : Hid ((f = g) = (f.drop (j + 1) = g.drop (j + 1))) := by
                  show _ = _
                  rw [hq'.out]
                  have h2 := of_decide_eq_true HQ.out.symm
                  simp [h2]
                clear HQ hq'
                go_wp2_with fail
                go_roundw
                case rel => exact ⟨j + 1, by omega, by go_num, hq2, hb2, hbx2⟩
                case measure => simp [intOf]; omega
            · obtain rfl : j = f.len := by omega
              have hq2 : Hid (decide (f = g) = true) := by
                have h1 := hq.out
                rw [Fo.drop_len, HL.out, Fo.drop_len] at h1
                exact decide_eq_true (by rw [h1])
              clear hq
              go_wp2_with fail
              go_ret
              exact ⟨ret_bool (hd.out.trans hq2.out).symm, hb⟩
        · have tl : ((f.len : Int) != (g.len : Int)) = true := by rw [bne_iff_ne]; omega
          have hd : Hid (decide (k = k' ∧ n = n' ∧ f = g) = false) := decide_eq_false (fun h => hlen (by rw [h.2.2]))
          clear hk hn hlen
          go_enter Tryz.func138, Tryz.ntmps138
          go_wp2_with fail
          go_ret
          exact ⟨ret_bool hd.out.symm, by go_grown⟩
      · have tn : (n != n') = true := by rw [bne_iff_ne]; exact hn
        have hd : Hid (decide (k = k' ∧ n = n' ∧ f = g) = false) := decide_eq_false (fun h => hn h.2.1)
        clear hk hn
        go_enter Tryz.func138, Tryz.ntmps138
        go_wp2_with fail
        go_ret
        exact ⟨ret_bool hd.out.symm, by go_grown⟩
    · have tk : (k != k') = true := by rw [bne_iff_ne]; exact hk
      have hd : Hid (decide (k = k' ∧ n = n' ∧ f = g) = false) := decide_eq_false (fun h => hk h.1)
      clear hk
      go_enter Tryz.func138, Tryz.ntmps138
      go_wp2_with fail
      go_ret
      exact ⟨ret_bool hd.out.symm, by go_grown⟩

end Go.Proofs.YtcgbepmhfimbjaaGreatDoor
