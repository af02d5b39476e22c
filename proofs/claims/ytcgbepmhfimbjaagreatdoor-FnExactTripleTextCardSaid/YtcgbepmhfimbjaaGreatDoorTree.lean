/- Contracts of spec.l01Tree, l01Ok, ValidExpr. -/
import Derived.Test.YtcgbepmhfimbjaaGreatDoorValid
namespace Go.Proofs.YtcgbepmhfimbjaaGreatDoor
open Go.RowKit

/-- What l01Tree does for one node whose kids have few enough nodes. -/
def TreeSaid (f : Fo) : Prop := ∀ (t a k n : Int) (A : Option Addr) (C b o : Nat) (w : World), 0 ≤ t → t ≤ 3 → 0 ≤ a → a ≤ 4 → f.Lies w A →
      w.cell? ⟨b, o, none⟩ = some (.int .i64 k) → w.cell? ⟨b, o + 1, none⟩ = some (.int .i64 n) → w.cell? ⟨b, o + 2, none⟩ = some (.slice A f.len C) →
      Calls Tryz.prog 108 #[.agg #[.int .i64 t, .int .i64 a], .pointer (some ⟨b, o, none⟩)] w fun e w' => e = .returned (.bool (treeE t a false k n f)) ∧ Below w.heap.size w w'

set_option maxHeartbeats 1000000 in
theorem l01Tree_any : ∀ (N : Nat) (f : Fo), f.nodes < N → f.nodes ≤ 1048576 → f.Fits → TreeSaid f := by
  intro N
  induction N with
  | zero => intro f hN; exact absurd hN (Nat.not_lt_zero _)
  | succ N ih =>
    intro f hN hm hf t a k n A C b o w ht0 ht1 ha0 ha1 hl h0 h1 h2
    have IH := Lib.hid ih; clear ih
    have hln := f.len_le_nodes
    have lb : b < w.heap.size := World.block_lt_of_cell? _ _ h0
    obtain ⟨q, hq⟩ : ∃ q : Int, q = kidC k := ⟨_, rfl⟩
    have KK : Hid (∀ W : World, Calls Tryz.prog 135 #[.int .i64 k] W fun e w' => e = .returned (.int .i64 q) ∧ w' = W) := fun W => by rw [hq]; exact (l01Kids_any k W).mono fun e w' h => ⟨h.1, h.2.symm⟩
    by_cases hlen : (f.len : Int) = q
    · have tl : ((f.len : Int) != q) = false := by simp [hlen]
      by_cases h3 : k = 3
      · subst h3
        have hn0 : f = .nil := Fo.nil_of_len (by rw [hq, kidC_zero (by omega)] at hlen; omega)
        have HD : Hid (treeE t a false 3 n f = inB n 0 (t - 1)) := by
          show _ = _
          rw [hn0]
          unfold treeE shapeB inB numC
          rw [Bool.eq_iff_iff]
          simp [Fo.tree, Fo.len, kidC]
          omega
        clear hlen hq hn0
        have ws : IntKind.i64.wrap (t - 1) = t - 1 := IntWalk.i64_in _ (by omega)
        have KI : Hid (∀ W : World, Calls Tryz.prog 90 #[.int .i64 n, .int .i64 0, .int .i64 (t - 1)] W fun e w' => e = .returned (.bool (inB n 0 (t - 1))) ∧ w' = W) := fun W => (in_any n 0 (t - 1) W).mono fun e w' h => ⟨h.1, h.2.symm⟩
        go_enter Tryz.func108, Tryz.ntmps108
        go_wp2_with fail
        go_quiet ((go_at_call 135; exact Calls.quiet_of_same (KK.out _)))
        go_wp2_with fail
        go_quiet ((go_at_call 90; exact quiet_add_same (KI.out _)))
        go_wp2_with fail
        go_ret
        refine ⟨ret_bool HD.out.symm, ?_⟩
        repeat (with_reducible refine Below.trans ?_ (Joins.below_draws _ _ _))
        go_grown
      have b3 : (k == 3) = false := by rw [beq_eq_false_iff_ne]; exact h3
      have H3 := Lib.hid h3; clear h3
      by_cases h3 : k = 4
      · subst h3
        have hn0 : f = .nil := Fo.nil_of_len (by rw [hq, kidC_zero (by omega)] at hlen; omega)
        have HD : Hid (treeE t a false 4 n f = inB n 0 (a - 1)) := by
          show _ = _
          rw [hn0]
          unfold treeE shapeB inB numC
          rw [Bool.eq_iff_iff]
          simp [Fo.tree, Fo.len, kidC]
          omega
        clear hlen hq hn0
        have ws : IntKind.i64.wrap (a - 1) = a - 1 := IntWalk.i64_in _ (by omega)
        have KI : Hid (∀ W : World, Calls Tryz.prog 90 #[.int .i64 n, .int .i64 0, .int .i64 (a - 1)] W fun e w' => e = .returned (.bool (inB n 0 (a - 1))) ∧ w' = W) := fun W => (in_any n 0 (a - 1) W).mono fun e w' h => ⟨h.1, h.2.symm⟩
        go_enter Tryz.func108, Tryz.ntmps108
        go_wp2_with fail
        go_quiet ((go_at_call 135; exact Calls.quiet_of_same (KK.out _)))
        go_wp2_with fail
        go_quiet ((go_at_call 90; exact quiet_add_same (KI.out _)))
        go_wp2_with fail
        go_ret
        refine ⟨ret_bool HD.out.symm, ?_⟩
        repeat (with_reducible refine Below.trans ?_ (Joins.below_draws _ _ _))
        go_grown
      have b4 : (k == 4) = false := by rw [beq_eq_false_iff_ne]; exact h3
      have hnum : numC t a k = 1 := by unfold numC; rw [if_neg H3.out, if_neg h3]
      clear h3
      by_cases hn : n = 0
      · have bn : (n != 0) = false := by simp [hn]
        have hsh : shapeB t a k n f.len = true := by
          unfold shapeB
          rw [hnum]
          exact decide_eq_true (by omega)
        have HL := Lib.hid hlen
        by_cases h5 : k = 5 ∧ f.cond = false
        · obtain ⟨h5, hc⟩ := h5
          subst h5
          have HD : Hid (treeE t a false 5 n f = false) := by
            show _ = _
            unfold treeE
            rw [show (false || ((5 : Int) == 5)) = true from rfl, Fo.tree_true, hc]
            simp
          have hpos : 0 < f.len := by rw [hq, kidC_five] at hlen; omega
          obtain ⟨b', o', rfl, hat⟩ := hl (by rintro rfl; simp [Fo.len] at hpos)
          obtain ⟨k', n', ks, r, A1, C1, e1, e2, c0, c1, c2, hl1⟩ := Fo.Lies.row hat hpos
          have hfd := Fo.fits_drop hf 0
          have hnd := f.nodes_drop 0
          have hc' : (condK k' && ks.cond) = false := by
            have hr : f.drop 1 = .nil := by
              have := f.drop_len
              rw [show f.len = 1 from by rw [hq, kidC_five] at hlen; omega] at this
              exact this
            have h1 := e1.out
            rw [show r = Fo.nil from e2.out.symm.trans hr] at h1
            rw [show f = Fo.cons k' n' ks Fo.nil from h1] at hc
            simpa [Fo.cond] using hc
          rw [e1.out] at hfd hnd
          have lb' : b' < w.heap.size := World.block_lt_of_cell? _ _ c0
          have KC : Hid (∀ W : World, Sees w W → Calls Tryz.prog 73 #[.pointer (some ⟨b', o', none⟩)] W fun e w' => e = .returned (.bool false) ∧ W = w') := by
            intro W hW
            have h := l01Condition_any (ks.nodes + 1) ks (Nat.lt_succ_self _) hfd.1 hfd.2.1 k' A1 C1 b' o' W (hl1.sees hW) (kc hW (by simpa using c0)) (kc hW (by simpa using c2))
            rw [hc'] at h
            exact h
          clear hlen hq hnum hn hc hc' hsh hfd hnd
          go_enter Tryz.func108, Tryz.ntmps108
          go_wp2_with fail
          go_quiet ((go_at_call 135; exact Calls.quiet_of_same (KK.out _)))
          go_wp2_with fail
          refine (KC.out _ (by unfold Sees; (repeat (with_reducible refine Below.trans ?_ (Joins.below_draws _ _ _))); go_grown)).mono ?_
          rintro e w' ⟨rfl, rfl⟩
          go_wp2_with fail
          go_ret
          refine ⟨ret_bool HD.out.symm, ?_⟩
          repeat (with_reducible refine Below.trans ?_ (Joins.below_draws _ _ _))
          go_grown
        · have HD : Hid (treeE t a false k n f = f.tree t a false) := by
            show _ = _
            unfold treeE
            rw [hsh]
            by_cases h6 : k = 5
            · subst h6
              have hc : f.cond = true := by
                cases hcc : f.cond
                · exact absurd ⟨rfl, hcc⟩ h5
                · rfl
              rw [show (false || ((5 : Int) == 5)) = true from rfl, Fo.tree_true, hc]
              simp
            · rw [show (k == 5) = false from by rw [beq_eq_false_iff_ne]; exact h6]
              simp
          by_cases h6 : k = 5
          · subst h6
            have hc : f.cond = true := by
              cases hcc : f.cond
              · exact absurd ⟨rfl, hcc⟩ h5
              · rfl
            have hpos : 0 < f.len := by rw [hq, kidC_five] at hlen; omega
            have KC : Hid (∃ b' o', A = some ⟨b', o', none⟩ ∧ b' < w.heap.size ∧ ∀ W : World, Sees w W → Calls Tryz.prog 73 #[.pointer (some ⟨b', o', none⟩)] W fun e w' => e = .returned (.bool true) ∧ W = w') := by
              obtain ⟨b', o', rfl, hat⟩ := hl (by rintro rfl; simp [Fo.len] at hpos)
              obtain ⟨k', n', ks, r, A1, C1, e1, e2, c0, c1, c2, hl1⟩ := Fo.Lies.row hat hpos
              have hfd := Fo.fits_drop hf 0
              have hc' : (condK k' && ks.cond) = true := by
                have h1 := e1.out
                rw [show f = Fo.cons k' n' ks r from h1] at hc
                simp only [Fo.cond, Bool.and_eq_true] at hc
                simp [hc.1.1, hc.1.2]
              rw [e1.out] at hfd
              refine ⟨b', o', rfl, World.block_lt_of_cell? _ _ c0, fun W hW => ?_⟩
              have h := l01Condition_any (ks.nodes + 1) ks (Nat.lt_succ_self _) hfd.1 hfd.2.1 k' A1 C1 b' o' W (hl1.sees hW) (kc hW (by simpa using c0)) (kc hW (by simpa using c2))
              rw [hc'] at h
              exact h
            obtain ⟨b', o', rfl, lb', KC⟩ := KC.out
            have KC := Lib.hid KC
            clear hlen hq hnum hn hc hsh h5
            go_enter Tryz.func108, Tryz.ntmps108
            go_wp2_with fail
            go_quiet ((go_at_call 135; exact Calls.quiet_of_same (KK.out _)))
            go_wp2_with fail
            refine (KC.out _ (by unfold Sees; (repeat (with_reducible refine Below.trans ?_ (Joins.below_draws _ _ _))); go_grown)).mono ?_
            rintro e w' ⟨rfl, rfl⟩
            go_wp2_with fail
            go_loopw [5] (fun i wr => ∃ j : Nat, j ≤ f.len ∧ i = .int .i64 j ∧ Hid (f.tree t a false = (f.drop j).tree t a false) ∧ Below w.heap.size w wr ∧ Hid (wr.cell? ⟨w.heap.size, 0, none⟩ = some (.int .i64 t) ∧ wr.cell? ⟨w.heap.size, 1, none⟩ = some (.int .i64 a))) (fun i _ => f.len - (intOf i).toNat)
            case atStart => exact ⟨0, Nat.zero_le _, rfl, rfl, (by (repeat (with_reducible refine Below.trans ?_ (Joins.below_draws _ _ _))); go_grown), (by simp [go_sem] : _ ∧ _)⟩
            case round =>
              obtain ⟨j, hj, rfl, hq, hb, hbx⟩ := hrel
              obtain ⟨bx, bx'⟩ := hbx.out
              have g2 := kc hb h2
              by_cases hjl : j < f.len
              · obtain ⟨c, p, hA, hat⟩ := hl (by rintro rfl; simp [Fo.len] at hjl)
                first | subst hA | (obtain ⟨rfl, rfl⟩ : c = b' ∧ p = o' := by (simp at hA; exact ⟨hA.1.symm, hA.2.symm⟩))
                have hatr := hat.later (w' := wr) (fun b o hlt => hb.cell (p := ⟨b, o, none⟩) hlt)
                obtain ⟨k1, n1, ks, r, A1, C1, e1, e2, c0, c1, c2, hl1⟩ := Fo.Lies.row hatr hjl
                have hfd := Fo.fits_drop hf j
                have hnd := f.nodes_drop j
                rw [e1.out] at hfd hnd
                have hkf := hfd.2.1
                have hkn : ks.nodes < N ∧ ks.nodes ≤ 1048576 := by simp only [Fo.nodes] at hnd; omega
                have hq' : Hid (f.tree t a false = (treeE t a false k1 n1 ks && (f.drop (j + 1)).tree t a false)) := by
                  show _ = _
                  rw [hq.out, e1.out, e2.out, Fo.tree_cons]
                clear hfd hnd hq
                have hj0 : (0 : Int) ≤ (j : Int) := Int.natCast_nonneg _
                have hj1 : (j : Int) < (f.len : Int) := by omega
                obtain ⟨q2, hqe⟩ : ∃ q2 : Bool, q2 = treeE t a false k1 n1 ks := ⟨_, rfl⟩
                rw [← hqe] at hq'
                have KR : Hid (∀ W : World, (∀ b o, b < wr.heap.size → W.cell? ⟨b, o, none⟩ = wr.cell? ⟨b, o, none⟩) → Calls Tryz.prog 108 #[.agg #[.int .i64 t, .int .i64 a], .pointer (some ⟨c, p + j * 3, none⟩)] W fun e w' => e = .returned (.bool q2) ∧ Below W.heap.size W w') := by
                  intro W hW
                  have lc : c < wr.heap.size := World.block_lt_of_cell? _ _ c0
                  rw [hqe]
                  exact IH.out ks hkn.1 hkn.2 hkf t a k1 n1 A1 C1 c _ W ht0 ht1 ha0 ha1 (hl1.later hW) ((hW _ _ lc).trans c0) ((hW _ _ lc).trans c1) ((hW _ _ lc).trans c2)
                clear hqe
                have l1 : w.heap.size < wr.heap.size := World.block_lt_of_cell? _ _ bx
                have l2 : b < wr.heap.size := World.block_lt_of_cell? _ _ g2
                go_wp2_with fail
                go_region_held3 (fun w' => w'.cell? ⟨w.heap.size, 0, none⟩ = some (.int .i64 t) ∧ w'.cell? ⟨w.heap.size, 1, none⟩ = some (.int .i64 a) ∧ w'.cell? ⟨b, o + 2, none⟩ = some (.slice (some ⟨c, p, none⟩) f.len C))
                  (first | (refine ⟨?_, ?_, ?_⟩ <;> (first | exact (m1 _ _ l1).trans bx | exact (m1 _ _ l1).trans bx' | exact (m1 _ _ l2).trans g2)) | (go_keep; done))
                  (first | (go_at_call 108; refine (KR.out _ ?_).mono ?_; (intro b o hlt; rfl); rintro e w1 ⟨rfl, hb1⟩; obtain ⟨m1, m2, m3⟩ := bkeep hb1))
                have hb2 : Below w.heap.size w w1 := (Below.drew hb).trans (hb1.mono hb.size)
                have hbx2 : Hid (w1.cell? ⟨w.heap.size, 0, none⟩ = some (.int .i64 t) ∧ w1.cell? ⟨w.heap.size, 1, none⟩ = some (.int .i64 a)) := ⟨(m1 _ _ l1).trans bx, (m1 _ _ l1).trans bx'⟩
                clear hb hb1 m1 m2 m3 KR c0 c1 c2 hat hatr hl1 hbx bx bx' g2
                cases q2
                · go_wp2_with fail
                  go_ret
                  exact ⟨ret_bool (by rw [HD.out, hq'.out]; rfl), hb2⟩
                · have hq2 : Hid (f.tree t a false = (f.drop (j + 1)).tree t a false) := hq'.out
                  clear hq'
                  go_wp2_with fail
                  go_roundw
                  case rel => exact ⟨j + 1, by omega, by go_num, hq2, hb2, hbx2⟩
                  case measure => simp [intOf]; omega
              · obtain rfl : j = f.len := by omega
                have hq2 : Hid (f.tree t a false = true) := by
                  show _ = _
                  rw [hq.out, Fo.drop_len]; rfl
                clear hq
                go_wp2_with fail
                go_ret
                exact ⟨ret_bool (HD.out.trans hq2.out).symm, hb⟩
          · have b5 : (k == 5) = false := by rw [beq_eq_false_iff_ne]; exact h6
            clear hlen hq hnum hn hsh h5 h6
            go_enter Tryz.func108, Tryz.ntmps108
            go_wp2_with fail
            go_quiet ((go_at_call 135; exact Calls.quiet_of_same (KK.out _)))
            go_wp2_with fail
            go_loopw [5] (fun i wr => ∃ j : Nat, j ≤ f.len ∧ i = .int .i64 j ∧ Hid (f.tree t a false = (f.drop j).tree t a false) ∧ Below w.heap.size w wr ∧ Hid (wr.cell? ⟨w.heap.size, 0, none⟩ = some (.int .i64 t) ∧ wr.cell? ⟨w.heap.size, 1, none⟩ = some (.int .i64 a))) (fun i _ => f.len - (intOf i).toNat)
            case atStart => exact ⟨0, Nat.zero_le _, rfl, rfl, (by (repeat (with_reducible refine Below.trans ?_ (Joins.below_draws _ _ _))); go_grown), (by simp [go_sem] : _ ∧ _)⟩
            case round =>
              obtain ⟨j, hj, rfl, hq, hb, hbx⟩ := hrel
              obtain ⟨bx, bx'⟩ := hbx.out
              have g2 := kc hb h2
              by_cases hjl : j < f.len
              · obtain ⟨c, p, hA, hat⟩ := hl (by rintro rfl; simp [Fo.len] at hjl)
                first | subst hA | (obtain ⟨rfl, rfl⟩ : c = b' ∧ p = o' := by (simp at hA; exact ⟨hA.1.symm, hA.2.symm⟩))
                have hatr := hat.later (w' := wr) (fun b o hlt => hb.cell (p := ⟨b, o, none⟩) hlt)
                obtain ⟨k1, n1, ks, r, A1, C1, e1, e2, c0, c1, c2, hl1⟩ := Fo.Lies.row hatr hjl
                have hfd := Fo.fits_drop hf j
                have hnd := f.nodes_drop j
                rw [e1.out] at hfd hnd
                have hkf := hfd.2.1
                have hkn : ks.nodes < N ∧ ks.nodes ≤ 1048576 := by simp only [Fo.nodes] at hnd; omega
                have hq' : Hid (f.tree t a false = (treeE t a false k1 n1 ks && (f.drop (j + 1)).tree t a false)) := by
                  show _ = _
                  rw [hq.out, e1.out, e2.out, Fo.tree_cons]
                clear hfd hnd hq
                have hj0 : (0 : Int) ≤ (j : Int) := Int.natCast_nonneg _
                have hj1 : (j : Int) < (f.len : Int) := by omega
                obtain ⟨q2, hqe⟩ : ∃ q2 : Bool, q2 = treeE t a false k1 n1 ks := ⟨_, rfl⟩
                rw [← hqe] at hq'
                have KR : Hid (∀ W : World, (∀ b o, b < wr.heap.size → W.cell? ⟨b, o, none⟩ = wr.cell? ⟨b, o, none⟩) → Calls Tryz.prog 108 #[.agg #[.int .i64 t, .int .i64 a], .pointer (some ⟨c, p + j * 3, none⟩)] W fun e w' => e = .returned (.bool q2) ∧ Below W.heap.size W w') := by
                  intro W hW
                  have lc : c < wr.heap.size := World.block_lt_of_cell? _ _ c0
                  rw [hqe]
                  exact IH.out ks hkn.1 hkn.2 hkf t a k1 n1 A1 C1 c _ W ht0 ht1 ha0 ha1 (hl1.later hW) ((hW _ _ lc).trans c0) ((hW _ _ lc).trans c1) ((hW _ _ lc).trans c2)
                clear hqe
                have l1 : w.heap.size < wr.heap.size := World.block_lt_of_cell? _ _ bx
                have l2 : b < wr.heap.size := World.block_lt_of_cell? _ _ g2
                go_wp2_with fail
                go_region_held3 (fun w' => w'.cell? ⟨w.heap.size, 0, none⟩ = some (.int .i64 t) ∧ w'.cell? ⟨w.heap.size, 1, none⟩ = some (.int .i64 a) ∧ w'.cell? ⟨b, o + 2, none⟩ = some (.slice (some ⟨c, p, none⟩) f.len C))
                  (first | (refine ⟨?_, ?_, ?_⟩ <;> (first | exact (m1 _ _ l1).trans bx | exact (m1 _ _ l1).trans bx' | exact (m1 _ _ l2).trans g2)) | (go_keep; done))
                  (first | (go_at_call 108; refine (KR.out _ ?_).mono ?_; (intro b o hlt; rfl); rintro e w1 ⟨rfl, hb1⟩; obtain ⟨m1, m2, m3⟩ := bkeep hb1))
                have hb2 : Below w.heap.size w w1 := (Below.drew hb).trans (hb1.mono hb.size)
                have hbx2 : Hid (w1.cell? ⟨w.heap.size, 0, none⟩ = some (.int .i64 t) ∧ w1.cell? ⟨w.heap.size, 1, none⟩ = some (.int .i64 a)) := ⟨(m1 _ _ l1).trans bx, (m1 _ _ l1).trans bx'⟩
                clear hb hb1 m1 m2 m3 KR c0 c1 c2 hat hatr hl1 hbx bx bx' g2
                cases q2
                · go_wp2_with fail
                  go_ret
                  exact ⟨ret_bool (by rw [HD.out, hq'.out]; rfl), hb2⟩
                · have hq2 : Hid (f.tree t a false = (f.drop (j + 1)).tree t a false) := hq'.out
                  clear hq'
                  go_wp2_with fail
                  go_roundw
                  case rel => exact ⟨j + 1, by omega, by go_num, hq2, hb2, hbx2⟩
                  case measure => simp [intOf]; omega
              · obtain rfl : j = f.len := by omega
                have hq2 : Hid (f.tree t a false = true) := by
                  show _ = _
                  rw [hq.out, Fo.drop_len]; rfl
                clear hq
                go_wp2_with fail
                go_ret
                exact ⟨ret_bool (HD.out.trans hq2.out).symm, hb⟩
      · have bn : (n != 0) = true := by rw [bne_iff_ne]; exact hn
        have HD : Hid (treeE t a false k n f = false) := by
          show _ = _
          unfold treeE shapeB
          rw [hnum, decide_eq_false (by omega)]; rfl
        clear hlen hq hnum hn
        go_enter Tryz.func108, Tryz.ntmps108
        go_wp2_with fail
        go_quiet ((go_at_call 135; exact Calls.quiet_of_same (KK.out _)))
        go_wp2_with fail
        go_ret
        exact ⟨ret_bool HD.out.symm, Below.trans (b := _) (by go_grown) (Joins.below_draws _ _ nq)⟩
    · have tl : ((f.len : Int) != q) = true := by rw [bne_iff_ne]; exact hlen
      have HD : Hid (treeE t a false k n f = false) := by
        show _ = _
        unfold treeE
        rw [shape_no (by rw [← hq]; exact hlen)]; rfl
      clear hlen hq
      go_enter Tryz.func108, Tryz.ntmps108
      go_wp2_with fail
      go_quiet ((go_at_call 135; exact Calls.quiet_of_same (KK.out _)))
      go_wp2_with fail
      go_ret
      exact ⟨ret_bool HD.out.symm, Below.trans (b := _) (by go_grown) (Joins.below_draws _ _ nq)⟩

end Go.Proofs.YtcgbepmhfimbjaaGreatDoor
