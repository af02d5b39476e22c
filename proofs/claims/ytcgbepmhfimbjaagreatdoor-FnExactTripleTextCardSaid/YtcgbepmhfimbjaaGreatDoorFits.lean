/- Contracts of impl.kidCount, numCount, (*former).fits. -/
import Derived.Test.YtcgbepmhfimbjaaGreatDoorBut
import Derived.Test.YtcgbepmhfimbjaaGreatDoorValid
import Derived.Test.YtcgbepmhfimbjaaGreatDoorFill
namespace Go.Proofs.YtcgbepmhfimbjaaGreatDoor
open Go.RowKit

theorem kidCount_any (k : Int) (w : World) : Calls Tryz.prog 116 #[.int .i64 k] w fun e w' => e = .returned (.int .i64 (kidC k)) ∧ w = w' := by
  rcases kinds k with h | ⟨h0, h1, h2, h3, h4, h5, h6, h7, h8⟩
  · rcases h with rfl | rfl | rfl | rfl | rfl | rfl | rfl | rfl
    all_goals
      go_enter Tryz.func116, Tryz.ntmps116
      go_wp2
      go_ret
      exact ⟨rfl, rfl⟩
  · have H0 := Lib.hid h0; clear h0
    go_enter Tryz.func116, Tryz.ntmps116
    go_wp2
    go_ret
    exact ⟨ret_int H0.out.symm, rfl⟩

theorem numCount_any (t a k : Int) (w : World) : Calls Tryz.prog 117 #[.agg #[.int .i64 t, .int .i64 a], .int .i64 k] w fun e w' => e = .returned (.int .i64 (numC t a k)) ∧ Below w.heap.size w w' := by
  by_cases h3 : k = 3
  · subst h3
    go_enter Tryz.func117, Tryz.ntmps117
    go_wp2
    go_ret
    exact ⟨rfl, by go_grown⟩
  by_cases h4 : k = 4
  · subst h4
    go_enter Tryz.func117, Tryz.ntmps117
    go_wp2
    go_ret
    exact ⟨rfl, by go_grown⟩
  have H0 : Hid (numC t a k = 1) := by show _ = _; unfold numC; rw [if_neg h3, if_neg h4]
  have b3 : (k == 3) = false := by rw [beq_eq_false_iff_ne]; exact h3
  have b4 : (k == 4) = false := by rw [beq_eq_false_iff_ne]; exact h4
  clear h3 h4
  go_enter Tryz.func117, Tryz.ntmps117
  go_wp2
  go_ret
  exact ⟨ret_int H0.out.symm, by go_grown⟩

def FitsPost (t a c : Int) (r : Bool) (m sb : Nat) (W : World) (e : Ending) (W' : World) : Prop :=
  e = .returned (.bool r) ∧ But sb W.heap.size W W' ∧ ∃ c' : Int, W'.heap[sb]? = some (.cells #[.int .i64 t, .int .i64 a, .int .i64 c'] 157 (0, 0)) ∧ (r = true → c' = c - 1 - m)

def FitsSaid (f : Fo) : Prop := ∀ (t a c d k n : Int) (b : Bool) (A : Option Addr) (C sb : Nat) (w0 W : World), 0 ≤ c → c ≤ 200 → 0 ≤ d → d ≤ 40 → f.Lies w0 A → Sees w0 W → w0.heap.size ≤ sb →
      W.heap[sb]? = some (.cells #[.int .i64 t, .int .i64 a, .int .i64 c] 157 (0, 0)) →
      Calls Tryz.prog 81 #[.pointer (some ⟨sb, 0, none⟩), .agg #[.int .i64 k, .int .i64 n, .slice A f.len C], .int .i64 d, .bool b] W (FitsPost t a c (okE t a c d b k n f) f.nodes sb W)

theorem fits_w1 {W : World} {sb : Nat} {t a c : Int} (hB : W.heap[sb]? = some (.cells #[.int .i64 t, .int .i64 a, .int .i64 c] 157 (0, 0))) (o : Obj) :
    ((W.setCell ⟨sb, 2, none⟩ (.int .i64 (c - 1))).alloc o).heap[sb]? = some (.cells #[.int .i64 t, .int .i64 a, .int .i64 (c - 1)] 157 (0, 0)) ∧ But sb W.heap.size W ((W.setCell ⟨sb, 2, none⟩ (.int .i64 (c - 1))).alloc o) := by
  have lsb : sb < W.heap.size := (Array.getElem?_eq_some_iff.1 hB).1
  refine ⟨?_, But.alloc (But.setCell (But.refl sb W.heap.size W) (p := ⟨sb, 2, none⟩) (Or.inl rfl) (.int .i64 (c - 1))) (by simp) o⟩
  rw [Below.heap_alloc _ _ _ (by simpa using lsb), Fo.block_setCell hB]
  rfl

theorem fits_end {t a c : Int} {r : Bool} {m sb : Nat} {W W' : World} {e : Ending} {c' : Int} (he : e = .returned (.bool r)) (hr : r = false) (hb : But sb W.heap.size W W') (hB : W'.heap[sb]? = some (.cells #[.int .i64 t, .int .i64 a, .int .i64 c'] 157 (0, 0))) :
    FitsPost t a c r m sb W e W' := ⟨he, hb, c', hB, fun h => by rw [hr] at h; cases h⟩

set_option maxHeartbeats 2000000 in
theorem fits_kids (N : Nat) (f : Fo) (IH : Hid (∀ (f : Fo), f.nodes < N → f.nodes ≤ 1048576 → FitsSaid f)) (hN : f.nodes < N + 1) (hm : f.nodes ≤ 1048576) (t a c d k n : Int) (b : Bool) (A : Option Addr) (C sb : Nat) (w0 W : World)
      (hc0 : 1 ≤ c) (hc1 : c ≤ 200) (hd0 : 1 ≤ d) (hd1 : d ≤ 40) (hl : f.Lies w0 A) (hs : Sees w0 W) (hsb : w0.heap.size ≤ sb)
      (HB : Hid (W.heap[sb]? = some (.cells #[.int .i64 t, .int .i64 a, .int .i64 c] 157 (0, 0)))) (H3 : Hid ((f.len : Int) = kidC k)) (H4 : Hid ((b && !condK k) = false)) :
      Calls Tryz.prog 81 #[.pointer (some ⟨sb, 0, none⟩), .agg #[.int .i64 k, .int .i64 n, .slice A f.len C], .int .i64 d, .bool b] W (FitsPost t a c (okE t a c d b k n f) f.nodes sb W) := by
  have hln := f.len_le_nodes
  have lsb : sb < W.heap.size := (Array.getElem?_eq_some_iff.1 HB.out).1
  have g0 : W.cell? ⟨sb, 0, none⟩ = some (.int .i64 t) := Fo.cell_of_block HB.out 0
  have g1 : W.cell? ⟨sb, 1, none⟩ = some (.int .i64 a) := Fo.cell_of_block HB.out 1
  have g2 : W.cell? ⟨sb, 2, none⟩ = some (.int .i64 c) := Fo.cell_of_block HB.out 2
  have fz : W.frozen? ⟨sb, 2, none⟩ = false := Fo.unfrozen_of_block HB.out 2
  obtain ⟨q, hq⟩ : ∃ q : Int, q = kidC k := ⟨_, rfl⟩
  have KK : Hid (∀ W : World, Calls Tryz.prog 116 #[.int .i64 k] W fun e w' => e = .returned (.int .i64 q) ∧ w' = W) := fun W => by rw [hq]; exact (kidCount_any k W).mono fun e w' h => ⟨h.1, h.2.symm⟩
  have tl : ((f.len : Int) != q) = false := by rw [hq, ← H3.out]; simp
  clear hq
  have z1 : decide (c - 1 < 0) = false := decide_eq_false (by omega)
  have z2 : decide (d < 1) = false := decide_eq_false (by omega)
  obtain ⟨qn, hqn⟩ : ∃ qn : Int, qn = numC t a k := ⟨_, rfl⟩
  have KN : Hid (∀ W : World, Calls Tryz.prog 117 #[.agg #[.int .i64 t, .int .i64 a], .int .i64 k] W fun e w' => e = .returned (.int .i64 qn) ∧ Below W.heap.size W w') := fun W => by rw [hqn]; exact numCount_any t a k W
  obtain ⟨qb, hqb⟩ : ∃ qb : Bool, qb = belowB n qn := ⟨_, rfl⟩
  have KB : Hid (∀ W : World, Calls Tryz.prog 95 #[.int .i64 n, .int .i64 qn] W fun e w' => e = .returned (.bool qb) ∧ W = w') := fun W => by rw [hqb]; exact below_any n qn W
  have HN : Hid (qb = decide (0 ≤ n ∧ n < numC t a k)) := by show _ = _; rw [hqb, hqn]; rfl
  clear hqn hqb
  have KC : Hid (b = true → ∀ W : World, Calls Tryz.prog 112 #[.int .i64 k] W fun e w' => e = .returned (.bool true) ∧ W = w') := by
    intro hbt W
    have h := isConditionKind_any k W
    have h4 := H4.out
    rw [hbt] at h4
    rw [show condK k = true from by cases hc : condK k <;> simp_all] at h
    exact h
  obtain ⟨ob, hob⟩ : ∃ ob : Obj, ob = .cells #[.int .i64 k, .int .i64 n, .slice A f.len C] 38 := ⟨_, rfl⟩
  obtain ⟨W1, hW1⟩ : ∃ W1 : World, W1 = (W.setCell ⟨sb, 2, none⟩ (.int .i64 (c - 1))).alloc ob := ⟨_, rfl⟩
  have hB1 := fits_w1 HB.out ob
  rw [← hW1] at hB1
  have X0 : W1.cell? ⟨W.heap.size, 0, none⟩ = some (.int .i64 k) := by rw [hW1, hob]; simp [go_sem]
  have X1 : W1.cell? ⟨W.heap.size, 1, none⟩ = some (.int .i64 n) := by rw [hW1, hob]; simp [go_sem]
  have X2 : W1.cell? ⟨W.heap.size, 2, none⟩ = some (.slice A f.len C) := by rw [hW1, hob]; simp [go_sem]
  have Y0 : W1.cell? ⟨sb, 0, none⟩ = some (.int .i64 t) := Fo.cell_of_block hB1.1 0
  have Y1 : W1.cell? ⟨sb, 1, none⟩ = some (.int .i64 a) := Fo.cell_of_block hB1.1 1
  have HW1 := Lib.hid hW1
  have HO := Lib.hid hob
  clear hW1 hob
  have l1 : W.heap.size < W1.heap.size := World.block_lt_of_cell? _ _ X0
  have l2 : sb < W1.heap.size := World.block_lt_of_cell? _ _ Y0
  have hS1 : Sees w0 W1 := Below.trans hs (hB1.2.below hs.size hsb)
  obtain ⟨bb, hbb⟩ : ∃ bb : Bool, bb = (b || k == 5) := ⟨_, rfl⟩
  have HD0 : Hid (okE t a c d b k n f = (decide (0 ≤ n ∧ n < numC t a k) && okL t a (c - 1) (d - 1) bb f)) := by
    show _ = _
    by_cases hn : 0 ≤ n ∧ n < numC t a k
    · rw [decide_eq_true hn, okE_kids H3.out H4.out hn, hbb]; rfl
    · rw [decide_eq_false hn, okE_num hn]; rfl
  have HD : Hid (okE t a c d b k n f = (qb && okL t a (c - 1) (d - 1) bb f)) := by show _ = _; rw [HD0.out, HN.out]
  clear HD0 HN
  have hBB : Hid (W1.heap[sb]? = some (.cells #[.int .i64 t, .int .i64 a, .int .i64 (c - 1)] 157 (0, 0)) ∧ But sb W.heap.size W W1) := hB1
  clear hB1
  have KF : Hid (∀ (ks : Fo), ks.nodes < N → ks.nodes ≤ 1048576 → ∀ (cc k' n' : Int) (A' : Option Addr) (C' : Nat) (W' : World), 0 ≤ cc → cc ≤ 200 → ks.Lies W' A' → Sees w0 W' → ks.Lies w0 A' → W'.heap[sb]? = some (.cells #[.int .i64 t, .int .i64 a, .int .i64 cc] 157 (0, 0)) →
      Calls Tryz.prog 81 #[.pointer (some ⟨sb, 0, none⟩), .agg #[.int .i64 k', .int .i64 n', .slice A' ks.len C'], .int .i64 (d - 1), .bool bb] W' (FitsPost t a cc (okE t a cc (d - 1) bb k' n' ks) ks.nodes sb W')) :=
    fun ks h1 h2 cc k' n' A' C' W' hc0 hc1 _ hs' hl' hB' => IH.out ks h1 h2 t a cc (d - 1) k' n' bb A' C' sb w0 W' hc0 hc1 (by omega) (by omega) hl' hs' hsb hB'
  clear IH
  have HS := Lib.hid (show Sees w0 W from hs)
  clear hs
  cases b
  all_goals
    have hbb2 := hbb
    simp only [Bool.false_or, Bool.true_or] at hbb2
    clear hbb
  all_goals first | (have hk5 : (k == 5) = bb := hbb2.symm; clear hbb2) | subst hbb2
  all_goals
    go_enter Tryz.func81, Tryz.ntmps81
    go_wp2_with fail
    go_quiet ((go_at_call 116; exact Calls.quiet_of_same (KK.out _)))
    go_wp2_with fail
  all_goals
    try (refine (KC.out (by simp) _).mono ?_; rintro e w' ⟨rfl, rfl⟩; go_wp2_with fail)
  · rw [← HO.out, ← HW1.out]
    clear g0 g1 g2 fz HW1 HO KC KK
    go_region_held3 (fun w' => w'.cell? ⟨W.heap.size, 0, none⟩ = some (.int .i64 k) ∧ w'.cell? ⟨W.heap.size, 1, none⟩ = some (.int .i64 n) ∧ w'.cell? ⟨sb, 0, none⟩ = some (.int .i64 t) ∧ w'.cell? ⟨sb, 1, none⟩ = some (.int .i64 a))
      (first | (refine ⟨?_, ?_, ?_, ?_⟩ <;> (first | exact (m1 _ _ l1).trans X0 | exact (m1 _ _ l1).trans X1 | exact (m1 _ _ l2).trans Y0 | exact (m1 _ _ l2).trans Y1)) | (go_keep; done))
      (first | (go_at_call 117; refine (KN.out _).mono ?_; rintro e w2 ⟨rfl, hb2⟩; obtain ⟨m1, m2, m3⟩ := bkeep hb2) | (go_at_call 95; refine (KB.out _).mono ?_; rintro e w3 ⟨rfl, rfl⟩))
    have q0 : w2.cell? ⟨W.heap.size, 0, none⟩ = some (.int .i64 k) := (m1 _ _ l1).trans X0
    have q2 : w2.cell? ⟨W.heap.size, 2, none⟩ = some (.slice A f.len C) := (m1 _ _ l1).trans X2
    have hB2 : Hid (w2.heap[sb]? = some (.cells #[.int .i64 t, .int .i64 a, .int .i64 (c - 1)] 157 (0, 0))) := (hb2.block sb l2).trans hBB.out.1
    have hU2 : But sb W.heap.size W w2 := (hBB.out.2.drewN _).trans (But.of_below hb2 (Nat.le_of_lt l1))
    clear m1 m2 m3 hb2 X0 X1 X2 Y0 Y1 hBB
    cases qb
    · go_wp2_with fail
      go_ret
      exact fits_end (ret_bool HD.out.symm) HD.out hU2 hB2.out
    have HD2 : Hid (okE t a c d _ k n f = okL t a (c - 1) (d - 1) _ f) := HD.out
    clear HD
    go_wp2_with fail
    go_loopw [57] (fun i wr => ∃ (j : Nat) (cc : Int), j ≤ f.len ∧ i = .int .i64 j ∧ 0 ≤ cc ∧ cc ≤ 200 ∧ Hid (cc = c - 1 - f.nodes + (f.drop j).nodes ∧ okL t a (c - 1) (d - 1) bb f = okL t a cc (d - 1) bb (f.drop j)) ∧ But sb W.heap.size W wr ∧
        Hid (wr.heap[sb]? = some (.cells #[.int .i64 t, .int .i64 a, .int .i64 cc] 157 (0, 0))) ∧ Hid (wr.cell? ⟨W.heap.size, 0, none⟩ = some (.int .i64 k) ∧ wr.cell? ⟨W.heap.size, 2, none⟩ = some (.slice A f.len C))) (fun i _ => f.len - (intOf i).toNat)
    case atStart => exact ⟨0, c - 1, Nat.zero_le _, rfl, by omega, by omega, ⟨by simp only [Fo.drop]; omega, rfl⟩, hU2, hB2, ⟨q0, q2⟩⟩
    case round =>
      clear q0 q2 hB2 hU2
      obtain ⟨j, cc, hj, rfl, hcc0, hcc1, hq, hU, hB3, hX⟩ := hrel
      obtain ⟨q0, q2⟩ := hX.out
      by_cases hjl : j < f.len
      · have hSr : Sees w0 wr := Below.trans HS.out (hU.below HS.out.size hsb)
        have hzr := hU.size
        obtain ⟨b', o', rfl, hat⟩ := hl (by rintro rfl; simp [Fo.len] at hjl)
        obtain ⟨k', n', ks, r, A1, C1, e1, e2, c0, c1, c2, hl1⟩ := Fo.Lies.row hat hjl
        have c0 := kc hSr c0
        have c1 := kc hSr c1
        have c2 := kc hSr c2
        have hnd := f.nodes_drop j
        rw [e1.out] at hnd
        simp only [Fo.nodes] at hnd
        have hkn : ks.nodes < N ∧ ks.nodes ≤ 1048576 := by omega
        obtain ⟨qk, hqk⟩ : ∃ qk : Bool, qk = okE t a cc (d - 1) bb k' n' ks := ⟨_, rfl⟩
        have KR : Hid (∀ W' : World, Sees w0 W' → W'.heap[sb]? = some (.cells #[.int .i64 t, .int .i64 a, .int .i64 cc] 157 (0, 0)) →
            Calls Tryz.prog 81 #[.pointer (some ⟨sb, 0, none⟩), .agg #[.int .i64 k', .int .i64 n', .slice A1 ks.len C1], .int .i64 (d - 1), .bool bb] W' (FitsPost t a cc qk ks.nodes sb W')) :=
          fun W' h1 h2 => by rw [hqk]; exact KF.out ks hkn.1 hkn.2 cc k' n' A1 C1 W' hcc0 hcc1 (hl1.sees h1) h1 hl1 h2
        have hq1 : Hid (okL t a (c - 1) (d - 1) bb f = (qk && okL t a (cc - 1 - ks.nodes) (d - 1) bb (f.drop (j + 1))) ∧ (qk = true → (1 : Int) + ks.nodes ≤ cc) ∧ (cc - 1 - ks.nodes = c - 1 - f.nodes + (f.drop (j + 1)).nodes)) := by
          refine ⟨?_, fun h => okE_true (hqk.symm.trans h), ?_⟩
          · rw [hq.out.2, e1.out, okL_cons, ← hqk, e2.out]
          · have h := hq.out.1
            rw [e1.out] at h
            simp only [Fo.nodes] at h
            rw [e2.out]
            omega
        have lsr : sb < wr.heap.size := by omega
        have lwr : W.heap.size < wr.heap.size := World.block_lt_of_cell? _ _ q0
        clear hqk hq hnd hat
        go_wp2_with fail
        refine (KR.out _ (hSr.alloc _) ((Below.heap_alloc _ _ _ lsr).trans hB3.out)).mono ?_
        intro e w3 hp
        obtain ⟨rfl, hbut, c', hblk, hc'⟩ := hp
        have hU3 : But sb W.heap.size W w3 := (hU.alloc hzr _).trans (hbut.mono (by simp; omega))
        have hX3 : Hid (w3.cell? ⟨W.heap.size, 0, none⟩ = some (.int .i64 k) ∧ w3.cell? ⟨W.heap.size, 2, none⟩ = some (.slice (some ⟨b', o', none⟩) f.len C)) :=
          ⟨(hbut.cell (by simp; omega) (by omega)).trans (ka _ q0), (hbut.cell (by simp; omega) (by omega)).trans (ka _ q2)⟩
        have hB4 := Lib.hid hblk
        have hc2 := Lib.hid hc'
        clear hU hB3 hX q0 q2 c0 c1 c2 hblk hc' KR hbut hSr
        cases qk
        · go_wp2_with fail
          go_ret
          exact fits_end (ret_bool (by rw [HD2.out, hq1.out.1]; rfl)) (by rw [HD2.out, hq1.out.1]; rfl) hU3 hB4.out
        · have hcv := hc2.out rfl
          have hcl := hq1.out.2.1 rfl
          have hq2 : Hid (c' = c - 1 - f.nodes + (f.drop (j + 1)).nodes ∧ okL t a (c - 1) (d - 1) bb f = okL t a c' (d - 1) bb (f.drop (j + 1))) := by
            refine ⟨by rw [hcv]; exact hq1.out.2.2, ?_⟩
            rw [hq1.out.1, hcv]; rfl
          have hcr : 0 ≤ c' ∧ c' ≤ 200 := by omega
          clear hcv hcl hq1 hc2
          go_wp2_with fail
          go_roundw
          case rel => first | exact ⟨j + 1, c', by omega, by go_num, hcr.1, hcr.2, hq2, hU3, hB4, hX3⟩ | ((repeat apply Exists.intro); exact ⟨⟨j + 1, c', by omega, by go_num, hcr.1, hcr.2, hq2, hU3, hB4, hX3⟩, rfl⟩)
          case measure => simp [intOf]; omega
      · obtain rfl : j = f.len := by omega
        have hfin : Hid (okL t a (c - 1) (d - 1) bb f = true ∧ cc = c - 1 - f.nodes) := by
          have h := hq.out
          rw [Fo.drop_len] at h
          refine ⟨?_, by have := h.1; simp only [Fo.nodes] at this; omega⟩
          rw [h.2]
          unfold okL
          rw [decide_eq_true (by simp only [Fo.nodes]; omega), decide_eq_true (by simp only [Fo.deep]; omega)]
          rfl
        clear hq
        go_wp2_with fail
        go_ret
        exact ⟨ret_bool (HD2.out.trans hfin.out.1).symm, hU, cc, hB3.out, fun _ => hfin.out.2⟩
  · rw [← HO.out, ← HW1.out]
    clear g0 g1 g2 fz HW1 HO KC KK
    go_region_held3 (fun w' => w'.cell? ⟨W.heap.size, 0, none⟩ = some (.int .i64 k) ∧ w'.cell? ⟨W.heap.size, 1, none⟩ = some (.int .i64 n) ∧ w'.cell? ⟨sb, 0, none⟩ = some (.int .i64 t) ∧ w'.cell? ⟨sb, 1, none⟩ = some (.int .i64 a))
      (first | (refine ⟨?_, ?_, ?_, ?_⟩ <;> (first | exact (m1 _ _ l1).trans X0 | exact (m1 _ _ l1).trans X1 | exact (m1 _ _ l2).trans Y0 | exact (m1 _ _ l2).trans Y1)) | (go_keep; done))
      (first | (go_at_call 117; refine (KN.out _).mono ?_; rintro e w2 ⟨rfl, hb2⟩; obtain ⟨m1, m2, m3⟩ := bkeep hb2) | (go_at_call 95; refine (KB.out _).mono ?_; rintro e w3 ⟨rfl, rfl⟩))
    have q0 : w2.cell? ⟨W.heap.size, 0, none⟩ = some (.int .i64 k) := (m1 _ _ l1).trans X0
    have q2 : w2.cell? ⟨W.heap.size, 2, none⟩ = some (.slice A f.len C) := (m1 _ _ l1).trans X2
    have hB2 : Hid (w2.heap[sb]? = some (.cells #[.int .i64 t, .int .i64 a, .int .i64 (c - 1)] 157 (0, 0))) := (hb2.block sb l2).trans hBB.out.1
    have hU2 : But sb W.heap.size W w2 := (hBB.out.2.drewN _).trans (But.of_below hb2 (Nat.le_of_lt l1))
    clear m1 m2 m3 hb2 X0 X1 X2 Y0 Y1 hBB
    cases qb
    · go_wp2_with fail
      go_ret
      exact fits_end (ret_bool HD.out.symm) HD.out hU2 hB2.out
    have HD2 : Hid (okE t a c d _ k n f = okL t a (c - 1) (d - 1) _ f) := HD.out
    clear HD
    go_wp2_with fail
    go_loopw [57] (fun i wr => ∃ (j : Nat) (cc : Int), j ≤ f.len ∧ i = .int .i64 j ∧ 0 ≤ cc ∧ cc ≤ 200 ∧ Hid (cc = c - 1 - f.nodes + (f.drop j).nodes ∧ okL t a (c - 1) (d - 1) true f = okL t a cc (d - 1) true (f.drop j)) ∧ But sb W.heap.size W wr ∧
        Hid (wr.heap[sb]? = some (.cells #[.int .i64 t, .int .i64 a, .int .i64 cc] 157 (0, 0))) ∧ Hid (wr.cell? ⟨W.heap.size, 0, none⟩ = some (.int .i64 k) ∧ wr.cell? ⟨W.heap.size, 2, none⟩ = some (.slice A f.len C))) (fun i _ => f.len - (intOf i).toNat)
    case atStart => exact ⟨0, c - 1, Nat.zero_le _, rfl, by omega, by omega, ⟨by simp only [Fo.drop]; omega, rfl⟩, hU2, hB2, ⟨q0, q2⟩⟩
    case round =>
      clear q0 q2 hB2 hU2
      obtain ⟨j, cc, hj, rfl, hcc0, hcc1, hq, hU, hB3, hX⟩ := hrel
      obtain ⟨q0, q2⟩ := hX.out
      by_cases hjl : j < f.len
      · have hSr : Sees w0 wr := Below.trans HS.out (hU.below HS.out.size hsb)
        have hzr := hU.size
        obtain ⟨b', o', rfl, hat⟩ := hl (by rintro rfl; simp [Fo.len] at hjl)
        obtain ⟨k', n', ks, r, A1, C1, e1, e2, c0, c1, c2, hl1⟩ := Fo.Lies.row hat hjl
        have c0 := kc hSr c0
        have c1 := kc hSr c1
        have c2 := kc hSr c2
        have hnd := f.nodes_drop j
        rw [e1.out] at hnd
        simp only [Fo.nodes] at hnd
        have hkn : ks.nodes < N ∧ ks.nodes ≤ 1048576 := by omega
        obtain ⟨qk, hqk⟩ : ∃ qk : Bool, qk = okE t a cc (d - 1) true k' n' ks := ⟨_, rfl⟩
        have KR : Hid (∀ W' : World, Sees w0 W' → W'.heap[sb]? = some (.cells #[.int .i64 t, .int .i64 a, .int .i64 cc] 157 (0, 0)) →
            Calls Tryz.prog 81 #[.pointer (some ⟨sb, 0, none⟩), .agg #[.int .i64 k', .int .i64 n', .slice A1 ks.len C1], .int .i64 (d - 1), .bool true] W' (FitsPost t a cc qk ks.nodes sb W')) :=
          fun W' h1 h2 => by rw [hqk]; exact KF.out ks hkn.1 hkn.2 cc k' n' A1 C1 W' hcc0 hcc1 (hl1.sees h1) h1 hl1 h2
        have hq1 : Hid (okL t a (c - 1) (d - 1) true f = (qk && okL t a (cc - 1 - ks.nodes) (d - 1) true (f.drop (j + 1))) ∧ (qk = true → (1 : Int) + ks.nodes ≤ cc) ∧ (cc - 1 - ks.nodes = c - 1 - f.nodes + (f.drop (j + 1)).nodes)) := by
          refine ⟨?_, fun h => okE_true (hqk.symm.trans h), ?_⟩
          · rw [hq.out.2, e1.out, okL_cons, ← hqk, e2.out]
          · have h := hq.out.1
            rw [e1.out] at h
            simp only [Fo.nodes] at h
            rw [e2.out]
            omega
        have lsr : sb < wr.heap.size := by omega
        have lwr : W.heap.size < wr.heap.size := World.block_lt_of_cell? _ _ q0
        clear hqk hq hnd hat
        go_wp2_with fail
        refine (KR.out _ (hSr.alloc _) ((Below.heap_alloc _ _ _ lsr).trans hB3.out)).mono ?_
        intro e w3 hp
        obtain ⟨rfl, hbut, c', hblk, hc'⟩ := hp
        have hU3 : But sb W.heap.size W w3 := (hU.alloc hzr _).trans (hbut.mono (by simp; omega))
        have hX3 : Hid (w3.cell? ⟨W.heap.size, 0, none⟩ = some (.int .i64 k) ∧ w3.cell? ⟨W.heap.size, 2, none⟩ = some (.slice (some ⟨b', o', none⟩) f.len C)) :=
          ⟨(hbut.cell (by simp; omega) (by omega)).trans (ka _ q0), (hbut.cell (by simp; omega) (by omega)).trans (ka _ q2)⟩
        have hB4 := Lib.hid hblk
        have hc2 := Lib.hid hc'
        clear hU hB3 hX q0 q2 c0 c1 c2 hblk hc' KR hbut hSr
        cases qk
        · go_wp2_with fail
          go_ret
          exact fits_end (ret_bool (by rw [HD2.out, hq1.out.1]; rfl)) (by rw [HD2.out, hq1.out.1]; rfl) hU3 hB4.out
        · have hcv := hc2.out rfl
          have hcl := hq1.out.2.1 rfl
          have hq2 : Hid (c' = c - 1 - f.nodes + (f.drop (j + 1)).nodes ∧ okL t a (c - 1) (d - 1) true f = okL t a c' (d - 1) true (f.drop (j + 1))) := by
            refine ⟨by rw [hcv]; exact hq1.out.2.2, ?_⟩
            rw [hq1.out.1, hcv]; rfl
          have hcr : 0 ≤ c' ∧ c' ≤ 200 := by omega
          clear hcv hcl hq1 hc2
          go_wp2_with fail
          go_roundw
          case rel => first | exact ⟨j + 1, c', by omega, by go_num, hcr.1, hcr.2, hq2, hU3, hB4, hX3⟩ | ((repeat apply Exists.intro); exact ⟨⟨j + 1, c', by omega, by go_num, hcr.1, hcr.2, hq2, hU3, hB4, hX3⟩, rfl⟩)
          case measure => simp [intOf]; omega
      · obtain rfl : j = f.len := by omega
        have hfin : Hid (okL t a (c - 1) (d - 1) true f = true ∧ cc = c - 1 - f.nodes) := by
          have h := hq.out
          rw [Fo.drop_len] at h
          refine ⟨?_, by have := h.1; simp only [Fo.nodes] at this; omega⟩
          rw [h.2]
          unfold okL
          rw [decide_eq_true (by simp only [Fo.nodes]; omega), decide_eq_true (by simp only [Fo.deep]; omega)]
          rfl
        clear hq
        go_wp2_with fail
        go_ret
        exact ⟨ret_bool (HD2.out.trans hfin.out.1).symm, hU, cc, hB3.out, fun _ => hfin.out.2⟩

set_option maxHeartbeats 1000000 in
theorem fits_any : ∀ (N : Nat) (f : Fo), f.nodes < N → f.nodes ≤ 1048576 → FitsSaid f := by
  intro N
  induction N with
  | zero => intro f hN; exact absurd hN (Nat.not_lt_zero _)
  | succ N ih =>
    intro f hN hm t a c d k n b A C sb w0 W hc0 hc1 hd0 hd1 hl hs hsb hB
    have IH := Lib.hid ih; clear ih
    have hln := f.len_le_nodes
    have HB := Lib.hid hB
    have lsb : sb < W.heap.size := by
      have := Array.getElem?_eq_some_iff.1 hB
      exact this.1
    have g0 : W.cell? ⟨sb, 0, none⟩ = some (.int .i64 t) := Fo.cell_of_block hB 0
    have g1 : W.cell? ⟨sb, 1, none⟩ = some (.int .i64 a) := Fo.cell_of_block hB 1
    have g2 : W.cell? ⟨sb, 2, none⟩ = some (.int .i64 c) := Fo.cell_of_block hB 2
    have fz : W.frozen? ⟨sb, 2, none⟩ = false := Fo.unfrozen_of_block hB 2
    clear hB
    by_cases hcc : c < 1
    · have HD := Lib.hid (okE_few (t := t) (a := a) (d := d) (b := b) (k := k) (n := n) (f := f) hcc)
      have hcz : (c - 1 < 0) := by omega
      go_enter Tryz.func81, Tryz.ntmps81
      go_wp2_with fail
      go_quiet (fail)
      go_wp2_with fail
      go_ret
      exact fits_end (ret_bool HD.out.symm) HD.out ((fits_w1 HB.out _).2.drewN _) (fits_w1 HB.out _).1
    have hcz : decide (c - 1 < 0) = false := decide_eq_false (by omega)
    by_cases hdd : d < 1
    · have HD := Lib.hid (okE_flat (t := t) (a := a) (c := c) (b := b) (k := k) (n := n) (f := f) hdd)
      go_enter Tryz.func81, Tryz.ntmps81
      go_wp2_with fail
      go_quiet (fail)
      go_wp2_with fail
      go_ret
      exact fits_end (ret_bool HD.out.symm) HD.out ((fits_w1 HB.out _).2.drewN _) (fits_w1 HB.out _).1
    have hdz : decide (d < 1) = false := decide_eq_false hdd
    obtain ⟨q, hq⟩ : ∃ q : Int, q = kidC k := ⟨_, rfl⟩
    have KK : Hid (∀ W : World, Calls Tryz.prog 116 #[.int .i64 k] W fun e w' => e = .returned (.int .i64 q) ∧ w' = W) := fun W => by rw [hq]; exact (kidCount_any k W).mono fun e w' h => ⟨h.1, h.2.symm⟩
    by_cases hlen : (f.len : Int) = q
    case neg =>
      have tl : ((f.len : Int) != q) = true := by rw [bne_iff_ne]; exact hlen
      have HD := Lib.hid (okE_len (t := t) (a := a) (c := c) (d := d) (b := b) (n := n) (f := f) (fun h => hlen (h.trans hq.symm)))
      clear hlen hq
      go_enter Tryz.func81, Tryz.ntmps81
      go_wp2_with fail
      go_quiet ((go_at_call 116; exact Calls.quiet_of_same (KK.out _)))
      go_wp2_with fail
      go_ret
      exact fits_end (ret_bool HD.out.symm) HD.out ((fits_w1 HB.out _).2.drewN _) (fits_w1 HB.out _).1
    have tl : ((f.len : Int) != q) = false := by simp [hlen]
    have H3 := Lib.hid (hlen.trans hq); clear hlen hq
    obtain ⟨qc, hqc⟩ : ∃ qc : Bool, qc = condK k := ⟨_, rfl⟩
    have KC : Hid (∀ W : World, Calls Tryz.prog 112 #[.int .i64 k] W fun e w' => e = .returned (.bool qc) ∧ W = w') := fun W => by rw [hqc]; exact isConditionKind_any k W
    have HQ := Lib.hid hqc; clear hqc
    by_cases hbc : b = true ∧ qc = false
    · obtain ⟨rfl, rfl⟩ := hbc
      have HD := Lib.hid (okE_not (t := t) (a := a) (c := c) (d := d) (n := n) (f := f) HQ.out.symm)
      go_enter Tryz.func81, Tryz.ntmps81
      go_wp2_with fail
      go_quiet ((go_at_call 116; exact Calls.quiet_of_same (KK.out _)))
      go_wp2_with fail
      refine (KC.out _).mono ?_
      rintro e w' ⟨rfl, rfl⟩
      go_wp2_with fail
      go_ret
      exact fits_end (ret_bool HD.out.symm) HD.out ((fits_w1 HB.out _).2.drewN _) (fits_w1 HB.out _).1
    have H4 : Hid ((b && !condK k) = false) := by
      show _ = _
      rw [← HQ.out]
      cases b <;> cases qc <;> simp_all
    exact fits_kids N f IH hN hm t a c d k n b A C sb w0 W (by omega) hc1 (by omega) hd1 hl hs hsb HB.out H3 H4

end Go.Proofs.YtcgbepmhfimbjaaGreatDoor
