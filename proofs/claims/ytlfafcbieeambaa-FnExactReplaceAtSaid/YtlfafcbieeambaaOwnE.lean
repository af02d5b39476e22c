/- Contract of spec.l01Own: a copy of an expression in memory of its own. -/
import Derived.Test.YtlfafcbieeambaaTurn
namespace Go.Proofs.Ytlfafcbieeambaa
open Go.RowKit



namespace Fo
theorem take_app (f : Fo) : ∀ (j : Nat) {k n : Int} {ks r : Fo}, f.drop j = .cons k n ks r → f.take (j + 1) = (f.take j).app (.cons k n ks .nil) := by
  induction f with
  | nil => intro j k n ks r h; cases j <;> cases h
  | cons k0 n0 ks0 r0 _ ih =>
    intro j k n ks r h
    cases j with
    | zero => cases h; simp [take, app, take_zero]
    | succ j => have := ih j h; simp only [take, app] at this ⊢; rw [this]
end Fo

set_option maxRecDepth 100000 in
set_option maxHeartbeats 4000000 in
theorem l01Own_any : ∀ (N : Nat) (f : Fo), f.nodes < N → f.nodes ≤ 1048576 → ∀ (k n : Int) (A : Option Addr) (C B o : Nat) (w : World), f.Lies w A →
      w.cell? ⟨B, o, none⟩ = some (.int .i64 k) → w.cell? ⟨B, o + 1, none⟩ = some (.int .i64 n) → w.cell? ⟨B, o + 2, none⟩ = some (.slice A f.len C) →
      Calls Try.prog 104 #[.pointer (some ⟨B, o, none⟩)] w fun e w' => ∃ A' C', e = .returned (.agg #[.int .i64 k, .int .i64 n, .slice A' f.len C']) ∧ f.LiesIn w' w.heap.size w'.heap.size A' ∧ Below w.heap.size w w' := by
  intro N
  induction N with
  | zero => intro f hN; exact absurd hN (Nat.not_lt_zero _)
  | succ N ih =>
    intro f hN hm k n A C B o w hl p0 p1 p2
    have IH := Lib.hid ih; clear ih
    have hln := f.len_le_nodes
    obtain ⟨i0, hi0, hz0, hs0, hb0⟩ := info_parts Try.infoX
    have HI := Lib.hid hi0; have HZ := Lib.hid hz0; have HS := Lib.hid hs0; have HB := Lib.hid hb0
    clear hi0 hz0 hs0 hb0
    have lB : B < w.heap.size := World.block_lt_of_cell? _ _ p0
    obtain ⟨W0, hW0⟩ : ∃ W0, W0 = w.alloc (.cells #[.int .i64 0, .int .i64 0, .slice none 0 0] 31) := ⟨_, rfl⟩
    have HS0 : Hid (St w [(B, o, .int .i64 k), (B, o + 1, .int .i64 n), (B, o + 2, .slice A f.len C)] W0) := by rw [hW0]; exact ⟨(by unfold Sees; go_grown), ka _ p0, ka _ p1, ka _ p2, trivial⟩
    have HB0 : Hid (W0.heap[w.heap.size]? = some (.cells #[.int .i64 0, .int .i64 0, .slice none 0 0] 31 (0, 0))) := by show _ = _; rw [hW0]; exact heap_new _ _ _ rfl
    have z0 : W0.heap.size = w.heap.size + 1 := by rw [hW0]; simp
    go_enter Try.func104, Try.ntmps104
    go_wp2_with fail
    rw [← hW0]
    clear hW0
    go_region_held3 (fun w' => Sees w w' ∧ w'.cell? ⟨B, o, none⟩ = some (.int .i64 k) ∧ w'.cell? ⟨B, o + 1, none⟩ = some (.int .i64 n) ∧ w'.cell? ⟨B, o + 2, none⟩ = some (.slice A f.len C) ∧ True) (first | exact HS0.out.drew | exact HS0.out.drew.alloc _ | exact (HS0.out.alloc _).drew | (go_keep; done)) (fail)
    go_wp2_with fail
    have MK : ∀ W : World, Sees w W → St w [(B, o + 2, .slice A f.len C)] W := fun W h => ⟨h, (h.cell (p := ⟨B, o + 2, none⟩) lB).trans p2, trivial⟩
    go_loopw [4] (fun i wr => ∃ (j : Nat) (v : Value), j ≤ f.len ∧ i = .int .i64 j ∧ Hid (Kids wr (w.heap.size + 2) (f.take j) v) ∧ Hid (wr.heap[w.heap.size + 1]? = some (.cells #[.int .i64 k, .int .i64 n, v] 31 (0, 0))) ∧ Hid (wr.heap[w.heap.size]? = some (.cells #[.int .i64 0, .int .i64 0, .slice none 0 0] 31 (0, 0))) ∧ Hid (Sees w wr)) (fun i _ => f.len - (intOf i).toNat)
    case atStart =>
      refine ⟨0, .slice none 0 0, Nat.zero_le _, rfl, ?_, ?_, ?_, ?_⟩
      · show Kids _ _ _ _; rw [Fo.take_zero]; exact Kids.nil _ _
      · show _ = _; exact heap_new _ _ _ (by simp [z0])
      · show _ = _; exact (Below.heap_alloc _ _ _ (by omega)).trans HB0.out
      · show Below _ _ _; exact (Below.alloc HS0.out.1 (by omega) _).drew
    case round =>
      obtain ⟨j, v, hj, rfl, hK, hBo, hBr, hSe⟩ := hrel
      clear HB0 HS0
      have e2 := (hSe.out.cell (p := ⟨B, o + 2, none⟩) lB).trans p2
      have e0 := (hSe.out.cell (p := ⟨B, o, none⟩) lB).trans p0
      by_cases hjl : j < f.len
      · obtain ⟨k1, n1, f1, r, hd, hd2⟩ := f.drop_lt j hjl
        have htk := Fo.take_app f j hd
        obtain ⟨b', o', rfl, hat⟩ := hl (by rintro rfl; simp [Fo.len] at hjl)
        have hat2 := Fo.at_drop hat j
        rw [hd] at hat2
        obtain ⟨c0, c1, ⟨A', C', c2, hl2'⟩, _⟩ := hat2
        have hl2 : f1.Lies w A' := hl2'
        have hnd := f.nodes_drop j
        rw [hd] at hnd
        have hkn : f1.nodes < N ∧ f1.nodes ≤ 1048576 := by simp only [Fo.nodes] at hnd; omega
        have lb : b' < w.heap.size := World.block_lt_of_cell? _ _ c0
        have KT : Hid (∀ W : World, Sees w W → Calls Try.prog 104 #[.pointer (some ⟨b', o' + j * 3, none⟩)] W fun e w' => ∃ A1 C1, e = .returned (.agg #[.int .i64 k1, .int .i64 n1, .slice A1 f1.len C1]) ∧ f1.LiesIn w' W.heap.size w'.heap.size A1 ∧ Below W.heap.size W w') := fun W h =>
          IH.out f1 hkn.1 hkn.2 k1 n1 A' C' b' (o' + j * 3) W (hl2.sees h) ((h.cell (p := ⟨b', o' + j * 3, none⟩) lb).trans c0) ((h.cell (p := ⟨b', o' + j * 3 + 1, none⟩) lb).trans c1) ((h.cell (p := ⟨b', o' + j * 3 + 2, none⟩) lb).trans c2)
        have HTK : Hid (f.take (j + 1) = (f.take j).app (.cons k1 n1 f1 .nil)) := htk
        have m0 : (0 : Int) ≤ (j : Int) := Int.natCast_nonneg _
        have m1 : (j : Int) < (f.len : Int) := by omega
        obtain ⟨xs, hx⟩ := hK.out.kx
        have HX := Lib.hid hx
        have hlen : (f.take j).len = j := Fo.take_le f j (by omega)
        have hsz : w.heap.size + 2 ≤ wr.heap.size := by have := (Array.getElem?_eq_some_iff.1 hBo.out).1; omega
        obtain ⟨x0, x1, x2, y0, y1, y2⟩ := cells3 hBo.out
        have JL := Lib.hid hjl
        clear hx hd hd2 htk hat c0 c1 c2 hl2' hl2 hnd hkn hK hjl
        have U0 : Sees w wr := hSe.out
        go_wp2_with fail
        go_region_law
          (first
            | (go_simp; go_at_call 104; refine (KT.out _ ?_).mono ?_; exact U0.drew; rintro e wa ⟨A1, C1, rfl, hL1, hb1⟩; have U1 := U0.drew.below hb1; have HX1 := Lib.hid (HX.out.drew.below hb1); have HB1 := (hb1.block _ (show w.heap.size + 1 < wr.heap.size by omega)).trans hBo.out; have HBr1 := (hb1.block _ (show w.heap.size < wr.heap.size by omega)).trans hBr.out; have HL1 := Lib.hid hL1; have HBB1 := Lib.hid hb1; have za : wr.heap.size ≤ wa.heap.size := hb1.size; obtain ⟨x0', x1', x2', y0', y1', y2'⟩ := cells3 HB1; have z1 : w.heap.size + 1 < wa.heap.size := (by omega); have z2 : wa.heap.size ≠ w.heap.size + 1 := (by omega); have z3 : w.heap.size + 1 ≠ wa.heap.size := (by omega); clear hL1 hb1; dsimp only)
            | (refine step_append_lies _ rfl (.tmp 24) (.tmp 32) 29 rfl (w.heap.size + 2) 31 i0 (.agg #[.int .i64 0, .int .i64 0, .slice none 0 0]) 3 40 Try.underlying29 HI.out HZ.out HS.out HB.out rfl (by decide) v (f.take j).len xs rfl (HX1.out.alloc _).own ⟨wa.heap.size, 0, none⟩ 1 1 [.int .i64 k1, .int .i64 n1, .slice A1 f1.len C1] rfl rfl (World.news_of_block (heap_new _ _ _ rfl)) (by intro u hu; simp at hu; rcases hu with rfl | rfl | rfl <;> rfl) (by decide) (by rw [hlen]; unfold maxLen; omega) (by rw [hlen]; omega) (by simp; omega) _ rfl ?_; intro g cap wb hown hgrow hat hlt; have HK2 : Hid (Kids wb (w.heap.size + 2) (f.take (j + 1)) (.slice (some ⟨g, 0, none⟩) (j + 1) cap)) := (by show Kids _ _ _ _; have hk := HX.out.drew.snoc (by simpa using hsz) HBB1.out HL1.out hown hgrow hat; rw [hlen] at hk; rw [HTK.out]; exact hk); have hvn : ∀ x, x < w.heap.size + 2 → some x ≠ v.ownBlock := (fun x hx he => absurd (HX1.out.own.lt x he.symm).1 (by omega)); have HB2 := (hgrow.block (w.heap.size + 1) (by simp; omega) (hvn _ (by omega))).trans ((Below.heap_alloc _ _ _ (by omega)).trans HB1); have HBr2 := (hgrow.block w.heap.size (by simp; omega) (hvn _ (by omega))).trans ((Below.heap_alloc _ _ _ (by omega)).trans HBr1); have U2 : Sees w wb := (Below.grown (U1.alloc _) hgrow (Below.size (U1.alloc _)) (fun x hx => (by have := (HX1.out.own.lt x hx).1; omega))); obtain ⟨x0'', x1'', x2'', y0'', y1'', y2''⟩ := cells3 HB2; clear hown hgrow hat hlt))
        all_goals
          go_wp2_with fail
          go_roundw
          case rel => exact ⟨j + 1, _, JL.out, by go_num, HK2.out.put (by omega) _, (Fo.block_setCell HB2 _).trans rfl, (Below.heap_setCell _ _ _ _ (by show w.heap.size ≠ w.heap.size + 1; omega)).trans HBr2, Below.setCell U2 (by show w.heap.size ≤ w.heap.size + 1; omega) _⟩
          case measure => have := JL.out; simp [intOf]; omega
      · obtain rfl : j = f.len := by omega
        obtain ⟨x0, x1, x2, y0, y1, y2⟩ := cells3 hBo.out
        obtain ⟨u0, u1, u2, v0, v1, v2⟩ := cells3 hBr.out
        rw [Fo.take_len] at hK
        obtain ⟨A1, C1, rfl, hL⟩ := hK.out.lies
        have HL := Lib.hid hL
        clear hK hL
        go_wp2_with fail
        have HBF : (((wr.setCell ⟨w.heap.size, 0, none⟩ (.int .i64 k)).setCell ⟨w.heap.size, 1, none⟩ (.int .i64 n)).setCell ⟨w.heap.size, 2, none⟩ (.slice A1 f.len C1)).heap[w.heap.size]? = some (.cells #[.int .i64 k, .int .i64 n, .slice A1 f.len C1] 31 (0, 0)) := by
          rw [Fo.block_setCell (Fo.block_setCell (Fo.block_setCell hBr.out _) _) _]; rfl
        obtain ⟨d0, d1, d2, _⟩ := cells3 HBF
        refine bodyPost_ret (v := .agg #[.int .i64 k, .int .i64 n, .slice A1 f.len C1]) (by simp [results, Try.results104, go_sem, d0, d1, d2]) rfl ⟨A1, C1, rfl, ?_, ?_⟩
        · refine (HL.out.agree (Fo.Agree.setCell (Fo.Agree.setCell (Fo.Agree.setCell (Fo.Agree.refl _ _ _) _ ?_ _) _ ?_ _) _ ?_ _)).mono (by omega) (by simp)
          all_goals (left; show w.heap.size < _; omega)
        · exact Below.setCell (Below.setCell (Below.setCell hSe.out (Nat.le_refl _) _) (Nat.le_refl _) _) (Nat.le_refl _) _
end Go.Proofs.Ytlfafcbieeambaa
