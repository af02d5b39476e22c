/- Contract of laws.markPremiseS: marks put into premises in blocks of their own. -/
import Derived.Test.YtmblgkpgfofceaaPrXT
import Derived.Test.YtmblgkpgfofceaaMarkE
namespace Go.Proofs.Ytmblgkpgfofceaa
open Go.RowKit
set_option linter.unusedVariables false

theorem markPremiseS_nil (k : Int) (A : Option Addr) (C : Nat) (w : World) :
      Calls Try.prog 16 #[.slice A 0 C, .int .i64 k] w fun e w' => e = .returned (.int .i64 k) ∧ w' = w := by
  go_enter Try.func16, Try.ntmps16
  go_wp2_with fail
  go_loopw [1, 5] (fun x i wr => x = .int .i64 k ∧ i = .int .i64 0 ∧ wr = w) (fun _ _ _ => 0)
  case atStart => exact ⟨rfl, rfl, rfl⟩
  case round =>
    obtain ⟨rfl, rfl, rfl⟩ := hrel
    go_wp2_with fail
    go_ret
    exact ⟨rfl, rfl⟩
/-- How far the marks have come ahead of the row j. -/
def pmUp (k : Int) (xs : List Pm) (j : Nat) : Int := k + 5 * (j : Int) + 2 * (pmNodes (xs.take j) : Int)
theorem pmUp_step (k : Int) {xs : List Pm} {j : Nat} (h : j < xs.length) : pmUp k xs (j + 1) = pmUp k xs j + 1 + 1 + 2 * (xs[j].pf.nodes : Int) + 1 + 1 + 1 + 2 * (xs[j].qf.nodes : Int) := by
  unfold pmUp
  rw [pmNodes_take xs h]
  omega
theorem pmUp_bd (k : Int) (xs : List Pm) (j : Nat) (h : j ≤ xs.length) : k ≤ pmUp k xs j ∧ pmUp k xs j ≤ k + 5 * (xs.length : Int) + 2 * (pmNodes xs : Int) := by
  have := pmNodes_bd xs j
  unfold pmUp
  omega
theorem pmUp_end (k : Int) (xs : List Pm) : pmUp k xs xs.length = k + 5 * (xs.length : Int) + 2 * (pmNodes xs : Int) := by
  unfold pmUp
  rw [List.take_length]
/-- The rows from j on are as they were, their conditions in blocks from mid on. -/
structure PmTo (xs : List Pm) (hi B : Nat) (wr : World) (j mid : Nat) : Prop where
  at' : PmAt wr (xs.drop j) mid hi B (j * 7)
  fr : ∀ i, wr.frozen? ⟨B, i, none⟩ = false
  bd : B + 1 ≤ mid ∧ hi ≤ wr.heap.size
theorem put_in {lo hi : Nat} {w W : World} (h : ButIn lo hi w W) {B o : Nat} (h1 : lo ≤ B) (h2 : B < hi) (u : Value) : ButIn lo hi w (W.setCell ⟨B, o, none⟩ u) :=
  h.trans ⟨rfl, rfl, rfl, by simp, fun x h3 h4 => Below.heap_setCell _ _ _ _ (by show x ≠ B; omega)⟩

set_option maxHeartbeats 4000000 in
set_option maxRecDepth 100000 in
theorem markPremiseS_any (xs : List Pm) (hm : tot Pm.cnt xs ≤ 1048576) (k : Int) (hk0 : 0 ≤ k) (hk1 : k ≤ 8388608) (lo hi : Nat) (A : Option Addr) (C : Nat) (w : World) (hX : PmX w xs lo hi A) (hz : hi ≤ w.heap.size) :
    Calls Try.prog 16 #[.slice A xs.length C, .int .i64 k] w fun e w' => e = .returned (.int .i64 (k + 5 * (xs.length : Int) + 2 * (pmNodes xs : Int))) ∧ ButIn lo hi w w' := by
  have hpl := pmNodes_le xs
  rcases hX with ⟨rfl, _⟩ | ⟨B, rfl, hB1, hB2, hfz, hX⟩
  · refine (markPremiseS_nil k A C w).mono ?_
    rintro e w' ⟨rfl, rfl⟩
    exact ⟨by simp [pmNodes], ButIn.refl _ _ _⟩
  · have hst : Hid (PmTo xs hi B w 0 (B + 1)) := ⟨hX, hfz, Nat.le_refl _, hz⟩
    clear hX hfz
    go_enter Try.func16, Try.ntmps16
    go_wp2_with fail
    go_loopw [1, 5] (fun y i wr => ∃ (j mid : Nat) (q : Int), j ≤ xs.length ∧ i = .int .i64 j ∧ y = .int .i64 q ∧ Hid (q = pmUp k xs j) ∧ Hid (PmTo xs hi B wr j mid) ∧ Hid (ButIn lo hi w wr)) (fun _ i _ => xs.length - (intOf i).toNat)
    case atStart => exact ⟨0, B + 1, k, Nat.zero_le _, rfl, rfl, (show k = pmUp k xs 0 by simp [pmUp, pmNodes]), hst, ButIn.refl _ _ _⟩
    case round =>
      clear hst
      obtain ⟨j, mid, q, hj, rfl, rfl, hq, hM, hbt⟩ := hrel
      by_cases hjl : j < xs.length
      · have hge := pm_ge (List.getElem_mem hjl)
        have hq1 := pmUp_bd k xs (j + 1) hjl
        have hs := pmUp_step k hjl
        have hq0 := pmUp_bd k xs j hj
        obtain ⟨hat, fz, hbd⟩ := hM.out
        rw [List.drop_eq_getElem_cons hjl] at hat
        obtain ⟨x, hx⟩ : ∃ x, x = xs[j] := ⟨_, rfl⟩
        rw [← hx] at hat hge hs
        obtain ⟨m1, m2, A1, C1, A2, C2, ⟨c0, c1, c2, c3, c4, c5, c6⟩, h1, h2, h3⟩ := hat
        have e1 := h1.1; have e2 := h2.1; have e3 := PmAt.le h3
        have hqb : 0 ≤ q ∧ (q + 1 + 1 + 2 * (x.pf.nodes : Int)) + 1 + 1 + 1 + 2 * (x.qf.nodes : Int) ≤ 14680064 := by rw [hq.out]; omega
        have HST : Hid ((q + 1 + 1 + 2 * (x.pf.nodes : Int)) + 1 + 1 + 1 + 2 * (x.qf.nodes : Int) = pmUp k xs (j + 1)) := by show _ = _; rw [hs, hq.out]
        have hnb : x.pf.nodes ≤ 1048576 ∧ x.qf.nodes ≤ 1048576 := by omega
        clear hge hq1 hs hq0 hx hM hq
        have wk1 : IntKind.i64.wrap (q + 1) = q + 1 := IntWalk.i64_in _ (by omega)
        have wk2 : IntKind.i64.wrap (q + 1 + 1) = q + 1 + 1 := IntWalk.i64_in _ (by omega)
        have wk3 : IntKind.i64.wrap ((q + 1 + 1 + 2 * (x.pf.nodes : Int)) + 1) = (q + 1 + 1 + 2 * (x.pf.nodes : Int)) + 1 := IntWalk.i64_in _ (by omega)
        have wk4 : IntKind.i64.wrap ((q + 1 + 1 + 2 * (x.pf.nodes : Int)) + 1 + 1) = (q + 1 + 1 + 2 * (x.pf.nodes : Int)) + 1 + 1 := IntWalk.i64_in _ (by omega)
        have wk5 : IntKind.i64.wrap ((q + 1 + 1 + 2 * (x.pf.nodes : Int)) + 1 + 1 + 1) = (q + 1 + 1 + 2 * (x.pf.nodes : Int)) + 1 + 1 + 1 := IntWalk.i64_in _ (by omega)
        obtain ⟨W1, hW1⟩ : ∃ W1, W1 = ((wr.setCell ⟨B, j * 7, none⟩ (.int .i64 q)).setCell ⟨B, j * 7 + 1, none⟩ (.int .i64 (q + 1))) := ⟨_, rfl⟩
        have z1 : W1.heap.size = wr.heap.size := by rw [hW1]; simp
        have a1 : ∀ lo' hi' : Nat, B + 1 ≤ lo' → Fo.Agree wr W1 lo' hi' := fun lo' hi' h => by rw [hW1]; exact Fo.agree_two (Or.inl h)
        have f1 : ∀ i, W1.frozen? ⟨B, i, none⟩ = false := fun i => by rw [hW1, World.frozen?_setCell, World.frozen?_setCell]; exact fz i
        have k1 : ∀ i, j * 7 + 1 < i → W1.cell? ⟨B, i, none⟩ = wr.cell? ⟨B, i, none⟩ := fun i hi => by
          rw [hW1, World.cell?_setCell_other (a := ⟨B, j * 7 + 1, none⟩) (b := ⟨B, i, none⟩) (h := fun h => by injection h; omega), World.cell?_setCell_other (a := ⟨B, j * 7, none⟩) (b := ⟨B, i, none⟩) (h := fun h => by injection h; omega)]
        have b1 : ButIn lo hi w W1 := by rw [hW1]; exact put_in (put_in hbt.out hB1 (by omega) _) hB1 (by omega) _
        have KS : Hid (Calls Try.prog 56 #[.slice A1 x.pf.len C1, .int .i64 (q + 1 + 1)] W1 fun e w' => e = .returned (.int .i64 (q + 1 + 1 + 2 * (x.pf.nodes : Int))) ∧ (x.pf.mark (q + 1 + 1)).XIn w' mid m1 A1 ∧ ButIn mid m1 W1 w') :=
          markExprS_any (x.pf.nodes + 1) x.pf (Nat.lt_succ_self _) hnb.1 (q + 1 + 1) (by omega) (by omega) mid m1 A1 C1 W1 (h1.agree (a1 _ _ hbd.1)) (by omega)
        have x2 : W1.cell? ⟨B, j * 7 + 2, none⟩ = some (.slice A1 x.pf.len C1) := (k1 _ (by omega)).trans c2
        have y3 := (k1 _ (by omega)).trans c3
        have y4 := (k1 _ (by omega)).trans c4
        have y5 := (k1 _ (by omega)).trans c5
        have y6 := (k1 _ (by omega)).trans c6
        have H2 := Lib.hid (h2.agree (a1 m1 m2 (by omega)))
        have H3 : Hid (PmAt W1 (xs.drop (j + 1)) m2 hi B ((j + 1) * 7)) := by
          have e : (j + 1) * 7 = j * 7 + 7 := by omega
          show PmAt _ _ _ _ _ _
          rw [e]
          exact h3.agree (fun c g1 g2 => k1 c (by omega)) (a1 _ _ (by omega))
        have fz1 := fz (j * 7); have fz2 := fz (j * 7 + 1)
        have HY := Lib.hid (And.intro y3 (And.intro y4 (And.intro y5 y6)))
        have HB := Lib.hid b1
        have HF := Lib.hid f1
        have HQ := Lib.hid hqb
        have HN := Lib.hid (And.intro hnb (And.intro hbd (And.intro e1 (And.intro e2 e3))))
        have HZ := Lib.hid z1
        clear h1 h2 h3 a1 k1 y3 y4 y5 y6 f1 b1 hqb hnb hbd e1 e2 e3 z1 c3 c4 c5 c6 hbt fz
        go_wp2_with fail
        rw [← hW1]
        clear hW1 c0 c1 c2 fz1 fz2
        go_wp2_with fail
        refine KS.out.mono ?_
        rintro e w2 ⟨rfl, _, hb2⟩
        obtain ⟨y3, y4, y5, y6⟩ := HY.out
        obtain ⟨hnb, hbd, e1, e2, e3⟩ := HN.out
        have hqb := HQ.out
        have z1 := HZ.out
        have z2 := hb2.size
        have kb : ∀ i, w2.cell? ⟨B, i, none⟩ = W1.cell? ⟨B, i, none⟩ := fun i => World.cell?_of_block (a := ⟨B, i, none⟩) (hb2.block B (by omega) (Or.inl (by omega)))
        have d3 := (kb _).trans y3; have d4 := (kb _).trans y4; have d5 := (kb _).trans y5; have d6 := (kb _).trans y6
        have f2 : ∀ i, w2.frozen? ⟨B, i, none⟩ = false := fun i => (World.frozen?_of_block (a := ⟨B, i, none⟩) (hb2.block B (by omega) (Or.inl (by omega)))).trans (HF.out i)
        have ag2 : Fo.Agree W1 w2 m1 hi := fun x g1 g2 => hb2.block x (by omega) (Or.inr g1)
        obtain ⟨W2, hW2⟩ : ∃ W2, W2 = (((w2.setCell ⟨B, j * 7 + 3, none⟩ (.int .i64 (q + 1 + 1 + 2 * (x.pf.nodes : Int)))).setCell ⟨B, j * 7 + 4, none⟩ (.int .i64 ((q + 1 + 1 + 2 * (x.pf.nodes : Int)) + 1))).setCell ⟨B, j * 7 + 5, none⟩ (.int .i64 ((q + 1 + 1 + 2 * (x.pf.nodes : Int)) + 1 + 1))) := ⟨_, rfl⟩
        have z3 : W2.heap.size = w2.heap.size := by rw [hW2]; simp
        have a3 : ∀ lo' hi' : Nat, B + 1 ≤ lo' → Fo.Agree w2 W2 lo' hi' := fun lo' hi' h => by rw [hW2]; exact Fo.Agree.setCell (Fo.agree_two (Or.inl h)) ⟨B, j * 7 + 5, none⟩ (Or.inl (by show B < lo'; omega)) _
        have f3 : ∀ i, W2.frozen? ⟨B, i, none⟩ = false := fun i => by rw [hW2, World.frozen?_setCell, World.frozen?_setCell, World.frozen?_setCell]; exact f2 i
        have k3 : ∀ i, j * 7 + 5 < i → W2.cell? ⟨B, i, none⟩ = w2.cell? ⟨B, i, none⟩ := fun i hi => by
          rw [hW2, World.cell?_setCell_other (a := ⟨B, j * 7 + 5, none⟩) (b := ⟨B, i, none⟩) (h := fun h => by injection h; omega), World.cell?_setCell_other (a := ⟨B, j * 7 + 4, none⟩) (b := ⟨B, i, none⟩) (h := fun h => by injection h; omega), World.cell?_setCell_other (a := ⟨B, j * 7 + 3, none⟩) (b := ⟨B, i, none⟩) (h := fun h => by injection h; omega)]
        have b2 : ButIn lo hi w w2 := HB.out.trans (hb2.mono (by omega) (by omega))
        have b3 : ButIn lo hi w W2 := by rw [hW2]; exact put_in (put_in (put_in b2 hB1 (by omega) _) hB1 (by omega) _) hB1 (by omega) _
        have x6 : W2.cell? ⟨B, j * 7 + 6, none⟩ = some (.slice A2 x.qf.len C2) := (k3 _ (by omega)).trans ((kb _).trans y6)
        have KT : Hid (Calls Try.prog 56 #[.slice A2 x.qf.len C2, .int .i64 ((q + 1 + 1 + 2 * (x.pf.nodes : Int)) + 1 + 1 + 1)] W2 fun e w' => e = .returned (.int .i64 ((q + 1 + 1 + 2 * (x.pf.nodes : Int)) + 1 + 1 + 1 + 2 * (x.qf.nodes : Int))) ∧ (x.qf.mark ((q + 1 + 1 + 2 * (x.pf.nodes : Int)) + 1 + 1 + 1)).XIn w' m1 m2 A2 ∧ ButIn m1 m2 W2 w') :=
          markExprS_any (x.qf.nodes + 1) x.qf (Nat.lt_succ_self _) hnb.2 ((q + 1 + 1 + 2 * (x.pf.nodes : Int)) + 1 + 1 + 1) (by omega) (by omega) m1 m2 A2 C2 W2 ((H2.out.agree (ag2.mono (Nat.le_refl _) (by omega))).agree (a3 _ _ (by omega))) (by omega)
        have H4 : Hid (PmAt W2 (xs.drop (j + 1)) m2 hi B ((j + 1) * 7)) :=
          (H3.out.agree (fun c _ _ => kb c) (ag2.mono (by omega) (Nat.le_refl _))).agree (fun c g1 g2 => k3 c (by omega)) (a3 _ _ (by omega))
        have g3 := f2 (j * 7 + 3); have g4 := f2 (j * 7 + 4); have g5 := f2 (j * 7 + 5)
        have HB3 := Lib.hid b3
        have HF3 := Lib.hid f3
        have HZ3 := Lib.hid (And.intro z1 (And.intro z2 z3))
        clear KS x2 hb2 y3 y4 y5 y6 kb f2 ag2 a3 f3 k3 b2 b3 z1 z2 z3 hqb hnb hbd e1 e2 e3 HY HB HF HQ HZ H2 H3
        go_wp2_with fail
        rw [← hW2]
        clear hW2 d3 d4 d5 d6 g3 g4 g5
        go_wp2_with fail
        refine KT.out.mono ?_
        rintro e w4 ⟨rfl, _, hb4⟩
        obtain ⟨hnb, hbd, e1, e2, e3⟩ := HN.out
        obtain ⟨z1, z2, z3⟩ := HZ3.out
        have z4 := hb4.size
        have HM : Hid (PmTo xs hi B w4 (j + 1) m2) := by
          refine ⟨H4.out.agree (fun c _ _ => World.cell?_of_block (a := ⟨B, c, none⟩) (hb4.block B (by omega) (Or.inl (by omega)))) (fun x g1 g2 => hb4.block x (by omega) (Or.inr g1)), fun i => (World.frozen?_of_block (a := ⟨B, i, none⟩) (hb4.block B (by omega) (Or.inl (by omega)))).trans (HF3.out i), by omega, by omega⟩
        have HB5 : Hid (ButIn lo hi w w4) := HB3.out.trans (hb4.mono (by omega) (by omega))
        clear KT hb4 hnb hbd e1 e2 e3 z1 z2 z3 z4 x6
        go_wp2_with fail
        go_roundw
        case rel => exact ⟨j + 1, m2, _, by omega, by go_num, rfl, HST, HM, HB5⟩
        case measure => simp [intOf]; omega
      · obtain rfl : j = xs.length := by omega
        have HQ : Hid (q = k + 5 * (xs.length : Int) + 2 * (pmNodes xs : Int)) := by show _ = _; rw [hq.out, pmUp_end]
        clear hq
        go_wp2_with fail
        go_ret
        exact ⟨ret_int HQ.out, hbt.out⟩
end Go.Proofs.Ytmblgkpgfofceaa
