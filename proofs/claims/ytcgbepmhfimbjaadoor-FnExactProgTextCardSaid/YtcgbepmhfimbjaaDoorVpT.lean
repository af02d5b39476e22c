/- Contract of spec.l06Tree. -/
import Derived.Test.YtcgbepmhfimbjaaDoorVpK
import Derived.Test.YtcgbepmhfimbjaaDoorQuietC
import Derived.Deep.RegionHeld3
import Derived.Lib.SmallJoins
namespace Go.Proofs.YtcgbepmhfimbjaaDoor
open Go.RowKit
set_option linter.unusedVariables false

set_option maxHeartbeats 8000000 in
set_option maxRecDepth 100000 in
theorem l06Tree_any : ∀ (N : Nat) (f : Pg), f.nodes < N → f.nodes ≤ 1048576 → f.Fits → ∀ (cf : Fo), cf.nodes ≤ 1048576 → cf.Fits → ∀ (t a k n ck cn : Int) (A B : Option Addr) (C D b o : Nat) (w : World), 0 ≤ t → t ≤ 3 → 0 ≤ a → a ≤ 4 → cf.Lies w A → f.Lies w B →
      w.cell? ⟨b, o, none⟩ = some (.int .i64 k) → w.cell? ⟨b, o + 1, none⟩ = some (.int .i64 n) → w.cell? ⟨b, o + 2, none⟩ = some (.int .i64 ck) → w.cell? ⟨b, o + 3, none⟩ = some (.int .i64 cn) → w.cell? ⟨b, o + 4, none⟩ = some (.slice A cf.len C) → w.cell? ⟨b, o + 5, none⟩ = some (.slice B f.len D) →
      Calls Tryd.prog 40 #[.agg #[.int .i64 t, .int .i64 a], .pointer (some ⟨b, o, none⟩)] w fun e w' => e = .returned (.bool (ptreeE t a k n ck cn cf f)) ∧ Below w.heap.size w w' := by
  intro N
  induction N with
  | zero => intro f hN; exact absurd hN (Nat.not_lt_zero _)
  | succ N ih =>
    intro f hN hm hf cf hcm hcf t a k n ck cn A B C D b o w ht0 ht1 ha0 ha1 hA0 hB0 g0 g1 g2 g3 g4 g5
    have IH := Lib.hid ih; clear ih
    have hln := f.len_le_nodes
    obtain ⟨w0, hw0⟩ : ∃ w0, w0 = w.alloc (.cells #[.int .i64 t, .int .i64 a] 36) := ⟨_, rfl⟩
    have B0 : Sees w w0 := by rw [hw0]; exact (Sees.refl w).alloc _
    have hs0 : w0.heap[w.heap.size]? = some (.cells #[.int .i64 t, .int .i64 a] 36 (0, 0)) := by rw [hw0]; exact heap_new _ _ _ rfl
    have hA := hA0.sees B0; have hB := hB0.sees B0
    have H0 : Hid (St w0 [(w.heap.size, 0, .int .i64 t), (w.heap.size, 1, .int .i64 a), (b, o, .int .i64 k), (b, o + 1, .int .i64 n), (b, o + 2, .int .i64 ck), (b, o + 3, .int .i64 cn), (b, o + 4, .slice A cf.len C), (b, o + 5, .slice B f.len D)] w0) := ⟨Sees.refl _, Fo.cell_of_block hs0 0, Fo.cell_of_block hs0 1, kc B0 g0, kc B0 g1, kc B0 g2, kc B0 g3, kc B0 g4, kc B0 g5, trivial⟩
    have FIN : Hid (∀ W : World, Sees w0 W → Below w.heap.size w W) := fun W h => B0.below h
    obtain ⟨qk, hqk⟩ : ∃ q : Int, q = pkidC k := ⟨_, rfl⟩
    obtain ⟨qa, hqa⟩ : ∃ q : Bool, q = askB k := ⟨_, rfl⟩
    obtain ⟨qc, hqc⟩ : ∃ q : Bool, q = condV t a ck cn cf := ⟨_, rfl⟩
    obtain ⟨qn, hqn⟩ : ∃ q : Bool, q = noneC ck cn cf := ⟨_, rfl⟩
    obtain ⟨qi, hqi⟩ : ∃ q : Bool, q = inB n 0 (a - 1) := ⟨_, rfl⟩
    have HE : Hid (ptreeE t a k n ck cn cf f = (decide ((f.len : Int) = qk) && (((if k = 3 then qi else decide (n = 0)) && (if qa = true then qc else qn)) && f.tree t a))) := by
      show _ = _
      unfold ptreeE pform fieldV
      rw [← hqk, ← hqa, ← hqc, ← hqn]
      have e : belowB n (pnumC a k) = if k = 3 then qi else decide (n = 0) := by
        unfold belowB pnumC
        split
        · rw [hqi]; unfold inB; rw [decide_eq_decide]; omega
        · rw [decide_eq_decide]; omega
      rw [e, Bool.and_assoc]
    have KK : Hid (∀ W : World, Sees w0 W → Calls Tryd.prog 68 #[.int .i64 k] W fun e w' => e = .returned (.int .i64 qk) ∧ Below W.heap.size W w') := fun W _ => by rw [hqk]; exact (l06Kids_any k W).mono fun e w' h => ⟨h.1, by rw [← h.2]; exact Below.refl _ _⟩
    have KA : Hid (∀ W : World, Sees w0 W → Calls Tryd.prog 69 #[.int .i64 k] W fun e w' => e = .returned (.bool qa) ∧ Below W.heap.size W w') := fun W _ => by rw [hqa]; exact (l06Asks_any k W).mono fun e w' h => ⟨h.1, by rw [← h.2]; exact Below.refl _ _⟩
    have KI : Hid (∀ W : World, Sees w0 W → Calls Tryd.prog 66 #[.int .i64 n, .int .i64 0, .int .i64 (a - 1)] W fun e w' => e = .returned (.bool qi) ∧ Below W.heap.size W w') := fun W _ => by rw [hqi]; exact (in_any n 0 (a - 1) W).mono fun e w' h => ⟨h.1, by rw [← h.2]; exact Below.refl _ _⟩
    have KC : Hid (∀ W : World, Sees w0 W → Calls Tryd.prog 70 #[.agg #[.int .i64 t, .int .i64 a], .pointer (some ⟨b, o + 2, none⟩)] W fun e w' => e = .returned (.bool qc) ∧ Below W.heap.size W w') := fun W h => by rw [hqc]; exact l06Cond_any t a ck cn cf hcm hcf A C b (o + 2) W (hA.sees h) (kc h (kc B0 g2)) (kc h (kc B0 g3)) (kc h (kc B0 g4))
    have KN : Hid (∀ W : World, Sees w0 W → Calls Tryd.prog 71 #[.pointer (some ⟨b, o + 2, none⟩)] W fun e w' => e = .returned (.bool qn) ∧ Below W.heap.size W w') := fun W h => by rw [hqn]; exact l06None_any ck cn cf A C b (o + 2) W (kc h (kc B0 g2)) (kc h (kc B0 g3)) (kc h (kc B0 g4))
    have HB := Lib.hid hB; have HF := Lib.hid hf; have HT := Lib.hid (And.intro ht0 (And.intro ht1 (And.intro ha0 ha1)))
    have wa : IntKind.i64.wrap (a - 1) = a - 1 := IntWalk.i64_in _ (by omega)
    clear hA hB hA0 hB0 hcm hcf hf g0 g1 g2 g3 g4 g5 hqk hqa hqc hqn hqi B0 hs0 ht0 ht1 ha0 ha1
    go_enter Tryd.func40, Tryd.ntmps40
    have HW0 := Lib.hid hw0
    go_wp2_with fail
    rw [← hw0]
    clear hw0
    by_cases hlen : (f.len : Int) = qk
    case neg =>
      have tl : ((f.len : Int) != qk) = true := by rw [bne_iff_ne]; exact hlen
      have HX : Hid (decide ((f.len : Int) = qk) = false) := decide_eq_false hlen
      clear hlen
      refine wp_region_quietC w0 [(w.heap.size, 0, .int .i64 t), (w.heap.size, 1, .int .i64 a), (b, o, .int .i64 k), (b, o + 1, .int .i64 n), (b, o + 2, .int .i64 ck), (b, o + 3, .int .i64 cn), (b, o + 4, .slice A cf.len C), (b, o + 5, .slice B f.len D)] (by kernel_rfl) (by kernel_rfl) H0.out ?_
      repeat (first | go_big_quiet_skip | (go_big_quiet_want; apply Exists.intro; refine ⟨fun W hW => ?_, ?_⟩; focus (have hK := Lib.hid hW; obtain ⟨hs, hc⟩ := hW; simp only [Has, and_true] at hc; go_simp; (first | rfl | exact ⟨rfl, rfl⟩ | exact quietC_call hK.out (KK.out _ hs)))) | (go_simp; go_big_quiet_on))
      refine wpQuiet_nil ?_
      intro w1 Hw1
      go_wp2_with fail
      go_ret
      exact ⟨ret_bool (by rw [HE.out]; rw [HX.out]; rfl), FIN.out _ Hw1.1⟩
    have tl : ((f.len : Int) != qk) = false := by simp [hlen]
    have HX : Hid (decide ((f.len : Int) = qk) = true) := decide_eq_true hlen
    clear hlen
    refine wp_region_quietC w0 [(w.heap.size, 0, .int .i64 t), (w.heap.size, 1, .int .i64 a), (b, o, .int .i64 k), (b, o + 1, .int .i64 n), (b, o + 2, .int .i64 ck), (b, o + 3, .int .i64 cn), (b, o + 4, .slice A cf.len C), (b, o + 5, .slice B f.len D)] (by kernel_rfl) (by kernel_rfl) H0.out ?_
    repeat (first | go_big_quiet_skip | (go_big_quiet_want; apply Exists.intro; refine ⟨fun W hW => ?_, ?_⟩; focus (have hK := Lib.hid hW; obtain ⟨hs, hc⟩ := hW; simp only [Has, and_true] at hc; go_simp; (first | rfl | exact ⟨rfl, rfl⟩ | exact quietC_call hK.out (KK.out _ hs)))) | (go_simp; go_big_quiet_on))
    refine wpQuiet_nil ?_
    intro w1 Hw1
    have G1 := Lib.hid Hw1
    clear Hw1 tl KK H0
    go_wp2_with fail
    obtain ⟨qx, hqx⟩ : ∃ q : Bool, q = if k = 3 then qi else decide (n = 0) := ⟨_, rfl⟩
    have hR3 : ((k == 3) = true ∧ (k != 3) = false ∧ qi = qx) ∨ (k == 3) = false ∧ (k != 3) = true ∧ (n != 0) = !qx := by
      by_cases h3 : k = 3
      · left; rw [hqx, if_pos h3]; exact ⟨by simp [h3], by simp [h3], rfl⟩
      · right; rw [hqx, if_neg h3]; refine ⟨by rw [beq_eq_false_iff_ne]; exact h3, by rw [bne_iff_ne]; exact h3, ?_⟩; by_cases h0 : n = 0 <;> simp [h0]
    have HQX : Hid ((if k = 3 then qi else decide (n = 0)) = qx) := hqx.symm
    clear hqx
    cases qx
    case false =>
      rcases hR3 with ⟨h3, h3', hi⟩ | ⟨h3, h3', hi⟩
      · subst hi
        refine wp_region_quietC w0 [(w.heap.size, 0, .int .i64 t), (w.heap.size, 1, .int .i64 a), (b, o, .int .i64 k), (b, o + 1, .int .i64 n), (b, o + 2, .int .i64 ck), (b, o + 3, .int .i64 cn), (b, o + 4, .slice A cf.len C), (b, o + 5, .slice B f.len D)] (by kernel_rfl) (by kernel_rfl) G1.out ?_
        repeat (first | go_big_quiet_skip | (go_big_quiet_want; apply Exists.intro; refine ⟨fun W hW => ?_, ?_⟩; focus (have hK := Lib.hid hW; obtain ⟨hs, hc⟩ := hW; simp only [Has, and_true] at hc; go_simp; (first | rfl | exact ⟨rfl, rfl⟩ | exact quietC_call hK.out (KI.out _ hs)))) | (go_simp; go_big_quiet_on))
        refine wpQuiet_nil ?_
        intro w2 Hw2
        go_wp2_with fail
        go_ret
        exact ⟨ret_bool (by rw [HE.out]; rw [HX.out, HQX.out]; rfl), FIN.out _ Hw2.1⟩
      · have hn : (n != 0) = true := hi; clear hi
        refine wp_region_quietC w0 [(w.heap.size, 0, .int .i64 t), (w.heap.size, 1, .int .i64 a), (b, o, .int .i64 k), (b, o + 1, .int .i64 n), (b, o + 2, .int .i64 ck), (b, o + 3, .int .i64 cn), (b, o + 4, .slice A cf.len C), (b, o + 5, .slice B f.len D)] (by kernel_rfl) (by kernel_rfl) G1.out ?_
        repeat (first | go_big_quiet_skip | (go_big_quiet_want; apply Exists.intro; refine ⟨fun W hW => ?_, ?_⟩; focus (have hK := Lib.hid hW; obtain ⟨hs, hc⟩ := hW; simp only [Has, and_true] at hc; go_simp; (first | rfl | exact ⟨rfl, rfl⟩ | exact quietC_call hK.out (KI.out _ hs)))) | (go_simp; go_big_quiet_on))
        refine wpQuiet_nil ?_
        intro w2 Hw2
        go_wp2_with fail
        go_ret
        exact ⟨ret_bool (by rw [HE.out]; rw [HX.out, HQX.out]; rfl), FIN.out _ Hw2.1⟩
    have HR3 := Lib.hid hR3
    clear hR3
    rcases HR3.out with ⟨h3, h3', hi⟩ | ⟨h3, h3', hi⟩
    · subst hi
      refine wp_region_quietC w0 [(w.heap.size, 0, .int .i64 t), (w.heap.size, 1, .int .i64 a), (b, o, .int .i64 k), (b, o + 1, .int .i64 n), (b, o + 2, .int .i64 ck), (b, o + 3, .int .i64 cn), (b, o + 4, .slice A cf.len C), (b, o + 5, .slice B f.len D)] (by kernel_rfl) (by kernel_rfl) G1.out ?_
      repeat (first | go_big_quiet_skip | (go_big_quiet_want; apply Exists.intro; refine ⟨fun W hW => ?_, ?_⟩; focus (have hK := Lib.hid hW; obtain ⟨hs, hc⟩ := hW; simp only [Has, and_true] at hc; go_simp; (first | rfl | exact ⟨rfl, rfl⟩ | exact quietC_call hK.out (KI.out _ hs)))) | (go_simp; go_big_quiet_on))
      refine wpQuiet_nil ?_
      intro w2 Hw2
      have G2 := Lib.hid Hw2
      clear Hw2
      go_wp2_with fail
      cases qa
      · cases qn
        · skip
          refine wp_region_quietC w0 [(w.heap.size, 0, .int .i64 t), (w.heap.size, 1, .int .i64 a), (b, o, .int .i64 k), (b, o + 1, .int .i64 n), (b, o + 2, .int .i64 ck), (b, o + 3, .int .i64 cn), (b, o + 4, .slice A cf.len C), (b, o + 5, .slice B f.len D)] (by kernel_rfl) (by kernel_rfl) G2.out ?_
          repeat (first | go_big_quiet_skip | (go_big_quiet_want; apply Exists.intro; refine ⟨fun W hW => ?_, ?_⟩; focus (have hK := Lib.hid hW; obtain ⟨hs, hc⟩ := hW; simp only [Has, and_true] at hc; go_simp; (first | rfl | exact ⟨rfl, rfl⟩ | exact quietC_call hK.out (KA.out _ hs) | exact quietC_call hK.out (KN.out _ hs)))) | (go_simp; go_big_quiet_on))
          refine wpQuiet_nil ?_
          intro w3 Hw3
          go_wp2_with fail
          go_ret
          exact ⟨ret_bool (by rw [HE.out]; rw [HX.out, HQX.out]; rfl), FIN.out _ Hw3.1⟩
        · skip
          refine wp_region_quietC w0 [(w.heap.size, 0, .int .i64 t), (w.heap.size, 1, .int .i64 a), (b, o, .int .i64 k), (b, o + 1, .int .i64 n), (b, o + 2, .int .i64 ck), (b, o + 3, .int .i64 cn), (b, o + 4, .slice A cf.len C), (b, o + 5, .slice B f.len D)] (by kernel_rfl) (by kernel_rfl) G2.out ?_
          repeat (first | go_big_quiet_skip | (go_big_quiet_want; apply Exists.intro; refine ⟨fun W hW => ?_, ?_⟩; focus (have hK := Lib.hid hW; obtain ⟨hs, hc⟩ := hW; simp only [Has, and_true] at hc; go_simp; (first | rfl | exact ⟨rfl, rfl⟩ | exact quietC_call hK.out (KA.out _ hs) | exact quietC_call hK.out (KN.out _ hs)))) | (go_simp; go_big_quiet_on))
          refine wpQuiet_nil ?_
          intro w3 Hw3
          have HD : Hid (ptreeE t a k n ck cn cf f = f.tree t a) := by show _ = _; rw [HE.out, HX.out, HQX.out]; rfl
          have G3 := Lib.hid Hw3
          clear Hw3 HE HX HQX KA KC KN KI G1 G2
          obtain ⟨_, z0, z1, z2, z3, z4, z5, z6, z7, _⟩ := G3.out
          go_wp2_with fail
          clear z0 z1 z2 z3 z4 z5 z6 z7
          go_loopw [5] (fun i wr => ∃ j : Nat, j ≤ f.len ∧ i = .int .i64 j ∧ Hid (f.tree t a = (f.drop j).tree t a) ∧ Hid (St w0 [(w.heap.size, 0, .int .i64 t), (w.heap.size, 1, .int .i64 a), (b, o, .int .i64 k), (b, o + 1, .int .i64 n), (b, o + 2, .int .i64 ck), (b, o + 3, .int .i64 cn), (b, o + 4, .slice A cf.len C), (b, o + 5, .slice B f.len D)] wr)) (fun i _ => f.len - (intOf i).toNat)
          case atStart => exact ⟨0, Nat.zero_le _, rfl, rfl, G3.out⟩
          case round =>
            obtain ⟨j, hj, rfl, hq, G⟩ := hrel
            clear G3
            obtain ⟨_, z0, z1, z2, z3, z4, z5, z6, z7, _⟩ := G.out
            by_cases hjl : j < f.len
            · obtain ⟨b', o', rfl, hat⟩ := (HB.out.sees G.out.1) (by rintro rfl; simp [Pg.len] at hjl)
              obtain ⟨k', n', ck', cn', cf', ks, r, A1, C1, B1, D1, e1, e2, c0, c1, c2, c3, c4, hl1, c5, hl2⟩ := Pg.Lies.row hat hjl
              have hfd := Pg.fits_drop HF.out j
              have hnd := f.nodes_drop j
              rw [e1.out] at hfd hnd
              simp only [Pg.nodes] at hnd
              have hq' : Hid (f.tree t a = (ptreeE t a k' n' ck' cn' cf' ks && (f.drop (j + 1)).tree t a)) := by show _ = _; rw [hq.out, e1.out, e2.out, Pg.tree_cons]
              obtain ⟨q2, hqe⟩ : ∃ q2 : Bool, q2 = ptreeE t a k' n' ck' cn' cf' ks := ⟨_, rfl⟩
              rw [← hqe] at hq'
              have KR : Hid (∀ W : World, Sees wr W → Calls Tryd.prog 40 #[.agg #[.int .i64 t, .int .i64 a], .pointer (some ⟨b', o' + j * 6, none⟩)] W fun e w' => e = .returned (.bool q2) ∧ Below W.heap.size W w') := fun W h => by
                rw [hqe]
                exact IH.out ks (by omega) (by omega) hfd.2.2.1 cf' (by omega) hfd.1.2 t a k' n' ck' cn' A1 B1 C1 D1 b' _ W HT.out.1 HT.out.2.1 HT.out.2.2.1 HT.out.2.2.2 (hl1.sees h) (hl2.sees h) (kc h c0) (kc h c1) (kc h c2) (kc h c3) (kc h c4) (kc h c5)
              have j0 : (0 : Int) ≤ (j : Int) := Int.natCast_nonneg _
              have j1 : (j : Int) < (f.len : Int) := by omega
              have JL := Lib.hid hjl
              have GG : Hid (St wr [(w.heap.size, 0, .int .i64 t), (w.heap.size, 1, .int .i64 a), (b, o, .int .i64 k), (b, o + 1, .int .i64 n), (b, o + 2, .int .i64 ck), (b, o + 3, .int .i64 cn), (b, o + 4, .slice A cf.len C), (b, o + 5, .slice (some ⟨b', o', none⟩) f.len D)] wr) := ⟨Sees.refl _, z0, z1, z2, z3, z4, z5, z6, z7, trivial⟩
              clear hqe hq hfd hnd c0 c1 c2 c3 c4 c5 hl1 hl2 hat hjl e1 e2
              go_wp2_with fail
              clear z0 z1 z2 z3 z4 z5 z6 z7
              cases q2
              · skip
                refine wp_region_quietC wr [(w.heap.size, 0, .int .i64 t), (w.heap.size, 1, .int .i64 a), (b, o, .int .i64 k), (b, o + 1, .int .i64 n), (b, o + 2, .int .i64 ck), (b, o + 3, .int .i64 cn), (b, o + 4, .slice A cf.len C), (b, o + 5, .slice (some ⟨b', o', none⟩) f.len D)] (by kernel_rfl) (by kernel_rfl) GG.out ?_
                repeat (first | go_big_quiet_skip | (go_big_quiet_want; apply Exists.intro; refine ⟨fun W hW => ?_, ?_⟩; focus (have hK := Lib.hid hW; obtain ⟨hs, hc⟩ := hW; simp only [Has, and_true] at hc; go_simp; (first | rfl | exact ⟨rfl, rfl⟩ | exact quietC_call hK.out (KR.out _ hs)))) | (go_simp; go_big_quiet_on))
                refine wpQuiet_nil ?_
                intro w4 Hw4
                have HX4 := Lib.hid (G.out.1.below Hw4.1)
                clear Hw4
                go_wp2_with fail
                go_ret
                exact ⟨ret_bool (by rw [HD.out, hq'.out]; rfl), FIN.out _ HX4.out⟩
              · skip
                refine wp_region_quietC wr [(w.heap.size, 0, .int .i64 t), (w.heap.size, 1, .int .i64 a), (b, o, .int .i64 k), (b, o + 1, .int .i64 n), (b, o + 2, .int .i64 ck), (b, o + 3, .int .i64 cn), (b, o + 4, .slice A cf.len C), (b, o + 5, .slice (some ⟨b', o', none⟩) f.len D)] (by kernel_rfl) (by kernel_rfl) GG.out ?_
                repeat (first | go_big_quiet_skip | (go_big_quiet_want; apply Exists.intro; refine ⟨fun W hW => ?_, ?_⟩; focus (have hK := Lib.hid hW; obtain ⟨hs, hc⟩ := hW; simp only [Has, and_true] at hc; go_simp; (first | rfl | exact ⟨rfl, rfl⟩ | exact quietC_call hK.out (KR.out _ hs)))) | (go_simp; go_big_quiet_on))
                refine wpQuiet_nil ?_
                intro w4 Hw4
                have G5 : Hid (St w0 [(w.heap.size, 0, .int .i64 t), (w.heap.size, 1, .int .i64 a), (b, o, .int .i64 k), (b, o + 1, .int .i64 n), (b, o + 2, .int .i64 ck), (b, o + 3, .int .i64 cn), (b, o + 4, .slice A cf.len C), (b, o + 5, .slice (some ⟨b', o', none⟩) f.len D)] w4) := St.below G.out Hw4.1
                have hq2 : Hid (f.tree t a = (f.drop (j + 1)).tree t a) := hq'.out
                clear Hw4 hq'
                go_wp2_with fail
                go_roundw
                case rel => exact ⟨j + 1, JL.out, by go_num, hq2, G5.out⟩
                case measure => have := JL.out; simp [intOf]; omega
            · obtain rfl : j = f.len := by omega
              have hq2 : Hid (f.tree t a = true) := by show _ = _; rw [hq.out, Pg.drop_len]; rfl
              clear hq
              go_wp2_with fail
              go_ret
              exact ⟨ret_bool (HD.out.trans hq2.out).symm, FIN.out _ G.out.1⟩
      · cases qc
        · skip
          refine wp_region_quietC w0 [(w.heap.size, 0, .int .i64 t), (w.heap.size, 1, .int .i64 a), (b, o, .int .i64 k), (b, o + 1, .int .i64 n), (b, o + 2, .int .i64 ck), (b, o + 3, .int .i64 cn), (b, o + 4, .slice A cf.len C), (b, o + 5, .slice B f.len D)] (by kernel_rfl) (by kernel_rfl) G2.out ?_
          repeat (first | go_big_quiet_skip | (go_big_quiet_want; apply Exists.intro; refine ⟨fun W hW => ?_, ?_⟩; focus (have hK := Lib.hid hW; obtain ⟨hs, hc⟩ := hW; simp only [Has, and_true] at hc; go_simp; (first | rfl | exact ⟨rfl, rfl⟩ | exact quietC_call hK.out (KA.out _ hs) | exact quietC_call hK.out (KC.out _ hs)))) | (go_simp; go_big_quiet_on))
          refine wpQuiet_nil ?_
          intro w3 Hw3
          go_wp2_with fail
          go_ret
          exact ⟨ret_bool (by rw [HE.out]; rw [HX.out, HQX.out]; rfl), FIN.out _ Hw3.1⟩
        · skip
          refine wp_region_quietC w0 [(w.heap.size, 0, .int .i64 t), (w.heap.size, 1, .int .i64 a), (b, o, .int .i64 k), (b, o + 1, .int .i64 n), (b, o + 2, .int .i64 ck), (b, o + 3, .int .i64 cn), (b, o + 4, .slice A cf.len C), (b, o + 5, .slice B f.len D)] (by kernel_rfl) (by kernel_rfl) G2.out ?_
          repeat (first | go_big_quiet_skip | (go_big_quiet_want; apply Exists.intro; refine ⟨fun W hW => ?_, ?_⟩; focus (have hK := Lib.hid hW; obtain ⟨hs, hc⟩ := hW; simp only [Has, and_true] at hc; go_simp; (first | rfl | exact ⟨rfl, rfl⟩ | exact quietC_call hK.out (KA.out _ hs) | exact quietC_call hK.out (KC.out _ hs)))) | (go_simp; go_big_quiet_on))
          refine wpQuiet_nil ?_
          intro w3 Hw3
          have HD : Hid (ptreeE t a k n ck cn cf f = f.tree t a) := by show _ = _; rw [HE.out, HX.out, HQX.out]; rfl
          have G3 := Lib.hid Hw3
          clear Hw3 HE HX HQX KA KC KN KI G1 G2
          obtain ⟨_, z0, z1, z2, z3, z4, z5, z6, z7, _⟩ := G3.out
          go_wp2_with fail
          clear z0 z1 z2 z3 z4 z5 z6 z7
          go_loopw [5] (fun i wr => ∃ j : Nat, j ≤ f.len ∧ i = .int .i64 j ∧ Hid (f.tree t a = (f.drop j).tree t a) ∧ Hid (St w0 [(w.heap.size, 0, .int .i64 t), (w.heap.size, 1, .int .i64 a), (b, o, .int .i64 k), (b, o + 1, .int .i64 n), (b, o + 2, .int .i64 ck), (b, o + 3, .int .i64 cn), (b, o + 4, .slice A cf.len C), (b, o + 5, .slice B f.len D)] wr)) (fun i _ => f.len - (intOf i).toNat)
          case atStart => exact ⟨0, Nat.zero_le _, rfl, rfl, G3.out⟩
          case round =>
            obtain ⟨j, hj, rfl, hq, G⟩ := hrel
            clear G3
            obtain ⟨_, z0, z1, z2, z3, z4, z5, z6, z7, _⟩ := G.out
            by_cases hjl : j < f.len
            · obtain ⟨b', o', rfl, hat⟩ := (HB.out.sees G.out.1) (by rintro rfl; simp [Pg.len] at hjl)
              obtain ⟨k', n', ck', cn', cf', ks, r, A1, C1, B1, D1, e1, e2, c0, c1, c2, c3, c4, hl1, c5, hl2⟩ := Pg.Lies.row hat hjl
              have hfd := Pg.fits_drop HF.out j
              have hnd := f.nodes_drop j
              rw [e1.out] at hfd hnd
              simp only [Pg.nodes] at hnd
              have hq' : Hid (f.tree t a = (ptreeE t a k' n' ck' cn' cf' ks && (f.drop (j + 1)).tree t a)) := by show _ = _; rw [hq.out, e1.out, e2.out, Pg.tree_cons]
              obtain ⟨q2, hqe⟩ : ∃ q2 : Bool, q2 = ptreeE t a k' n' ck' cn' cf' ks := ⟨_, rfl⟩
              rw [← hqe] at hq'
              have KR : Hid (∀ W : World, Sees wr W → Calls Tryd.prog 40 #[.agg #[.int .i64 t, .int .i64 a], .pointer (some ⟨b', o' + j * 6, none⟩)] W fun e w' => e = .returned (.bool q2) ∧ Below W.heap.size W w') := fun W h => by
                rw [hqe]
                exact IH.out ks (by omega) (by omega) hfd.2.2.1 cf' (by omega) hfd.1.2 t a k' n' ck' cn' A1 B1 C1 D1 b' _ W HT.out.1 HT.out.2.1 HT.out.2.2.1 HT.out.2.2.2 (hl1.sees h) (hl2.sees h) (kc h c0) (kc h c1) (kc h c2) (kc h c3) (kc h c4) (kc h c5)
              have j0 : (0 : Int) ≤ (j : Int) := Int.natCast_nonneg _
              have j1 : (j : Int) < (f.len : Int) := by omega
              have JL := Lib.hid hjl
              have GG : Hid (St wr [(w.heap.size, 0, .int .i64 t), (w.heap.size, 1, .int .i64 a), (b, o, .int .i64 k), (b, o + 1, .int .i64 n), (b, o + 2, .int .i64 ck), (b, o + 3, .int .i64 cn), (b, o + 4, .slice A cf.len C), (b, o + 5, .slice (some ⟨b', o', none⟩) f.len D)] wr) := ⟨Sees.refl _, z0, z1, z2, z3, z4, z5, z6, z7, trivial⟩
              clear hqe hq hfd hnd c0 c1 c2 c3 c4 c5 hl1 hl2 hat hjl e1 e2
              go_wp2_with fail
              clear z0 z1 z2 z3 z4 z5 z6 z7
              cases q2
              · skip
                refine wp_region_quietC wr [(w.heap.size, 0, .int .i64 t), (w.heap.size, 1, .int .i64 a), (b, o, .int .i64 k), (b, o + 1, .int .i64 n), (b, o + 2, .int .i64 ck), (b, o + 3, .int .i64 cn), (b, o + 4, .slice A cf.len C), (b, o + 5, .slice (some ⟨b', o', none⟩) f.len D)] (by kernel_rfl) (by kernel_rfl) GG.out ?_
                repeat (first | go_big_quiet_skip | (go_big_quiet_want; apply Exists.intro; refine ⟨fun W hW => ?_, ?_⟩; focus (have hK := Lib.hid hW; obtain ⟨hs, hc⟩ := hW; simp only [Has, and_true] at hc; go_simp; (first | rfl | exact ⟨rfl, rfl⟩ | exact quietC_call hK.out (KR.out _ hs)))) | (go_simp; go_big_quiet_on))
                refine wpQuiet_nil ?_
                intro w4 Hw4
                have HX4 := Lib.hid (G.out.1.below Hw4.1)
                clear Hw4
                go_wp2_with fail
                go_ret
                exact ⟨ret_bool (by rw [HD.out, hq'.out]; rfl), FIN.out _ HX4.out⟩
              · skip
                refine wp_region_quietC wr [(w.heap.size, 0, .int .i64 t), (w.heap.size, 1, .int .i64 a), (b, o, .int .i64 k), (b, o + 1, .int .i64 n), (b, o + 2, .int .i64 ck), (b, o + 3, .int .i64 cn), (b, o + 4, .slice A cf.len C), (b, o + 5, .slice (some ⟨b', o', none⟩) f.len D)] (by kernel_rfl) (by kernel_rfl) GG.out ?_
                repeat (first | go_big_quiet_skip | (go_big_quiet_want; apply Exists.intro; refine ⟨fun W hW => ?_, ?_⟩; focus (have hK := Lib.hid hW; obtain ⟨hs, hc⟩ := hW; simp only [Has, and_true] at hc; go_simp; (first | rfl | exact ⟨rfl, rfl⟩ | exact quietC_call hK.out (KR.out _ hs)))) | (go_simp; go_big_quiet_on))
                refine wpQuiet_nil ?_
                intro w4 Hw4
                have G5 : Hid (St w0 [(w.heap.size, 0, .int .i64 t), (w.heap.size, 1, .int .i64 a), (b, o, .int .i64 k), (b, o + 1, .int .i64 n), (b, o + 2, .int .i64 ck), (b, o + 3, .int .i64 cn), (b, o + 4, .slice A cf.len C), (b, o + 5, .slice (some ⟨b', o', none⟩) f.len D)] w4) := St.below G.out Hw4.1
                have hq2 : Hid (f.tree t a = (f.drop (j + 1)).tree t a) := hq'.out
                clear Hw4 hq'
                go_wp2_with fail
                go_roundw
                case rel => exact ⟨j + 1, JL.out, by go_num, hq2, G5.out⟩
                case measure => have := JL.out; simp [intOf]; omega
            · obtain rfl : j = f.len := by omega
              have hq2 : Hid (f.tree t a = true) := by show _ = _; rw [hq.out, Pg.drop_len]; rfl
              clear hq
              go_wp2_with fail
              go_ret
              exact ⟨ret_bool (HD.out.trans hq2.out).symm, FIN.out _ G.out.1⟩
    · have hn : (n != 0) = false := hi; clear hi
      refine wp_region_quietC w0 [(w.heap.size, 0, .int .i64 t), (w.heap.size, 1, .int .i64 a), (b, o, .int .i64 k), (b, o + 1, .int .i64 n), (b, o + 2, .int .i64 ck), (b, o + 3, .int .i64 cn), (b, o + 4, .slice A cf.len C), (b, o + 5, .slice B f.len D)] (by kernel_rfl) (by kernel_rfl) G1.out ?_
      repeat (first | go_big_quiet_skip | (go_big_quiet_want; apply Exists.intro; refine ⟨fun W hW => ?_, ?_⟩; focus (have hK := Lib.hid hW; obtain ⟨hs, hc⟩ := hW; simp only [Has, and_true] at hc; go_simp; (first | rfl | exact ⟨rfl, rfl⟩ | exact quietC_call hK.out (KI.out _ hs)))) | (go_simp; go_big_quiet_on))
      refine wpQuiet_nil ?_
      intro w2 Hw2
      have G2 := Lib.hid Hw2
      clear Hw2
      go_wp2_with fail
      cases qa
      · cases qn
        · skip
          refine wp_region_quietC w0 [(w.heap.size, 0, .int .i64 t), (w.heap.size, 1, .int .i64 a), (b, o, .int .i64 k), (b, o + 1, .int .i64 n), (b, o + 2, .int .i64 ck), (b, o + 3, .int .i64 cn), (b, o + 4, .slice A cf.len C), (b, o + 5, .slice B f.len D)] (by kernel_rfl) (by kernel_rfl) G2.out ?_
          repeat (first | go_big_quiet_skip | (go_big_quiet_want; apply Exists.intro; refine ⟨fun W hW => ?_, ?_⟩; focus (have hK := Lib.hid hW; obtain ⟨hs, hc⟩ := hW; simp only [Has, and_true] at hc; go_simp; (first | rfl | exact ⟨rfl, rfl⟩ | exact quietC_call hK.out (KA.out _ hs) | exact quietC_call hK.out (KN.out _ hs)))) | (go_simp; go_big_quiet_on))
          refine wpQuiet_nil ?_
          intro w3 Hw3
          go_wp2_with fail
          go_ret
          exact ⟨ret_bool (by rw [HE.out]; rw [HX.out, HQX.out]; rfl), FIN.out _ Hw3.1⟩
        · skip
          refine wp_region_quietC w0 [(w.heap.size, 0, .int .i64 t), (w.heap.size, 1, .int .i64 a), (b, o, .int .i64 k), (b, o + 1, .int .i64 n), (b, o + 2, .int .i64 ck), (b, o + 3, .int .i64 cn), (b, o + 4, .slice A cf.len C), (b, o + 5, .slice B f.len D)] (by kernel_rfl) (by kernel_rfl) G2.out ?_
          repeat (first | go_big_quiet_skip | (go_big_quiet_want; apply Exists.intro; refine ⟨fun W hW => ?_, ?_⟩; focus (have hK := Lib.hid hW; obtain ⟨hs, hc⟩ := hW; simp only [Has, and_true] at hc; go_simp; (first | rfl | exact ⟨rfl, rfl⟩ | exact quietC_call hK.out (KA.out _ hs) | exact quietC_call hK.out (KN.out _ hs)))) | (go_simp; go_big_quiet_on))
          refine wpQuiet_nil ?_
          intro w3 Hw3
          have HD : Hid (ptreeE t a k n ck cn cf f = f.tree t a) := by show _ = _; rw [HE.out, HX.out, HQX.out]; rfl
          have G3 := Lib.hid Hw3
          clear Hw3 HE HX HQX KA KC KN KI G1 G2
          obtain ⟨_, z0, z1, z2, z3, z4, z5, z6, z7, _⟩ := G3.out
          go_wp2_with fail
          clear z0 z1 z2 z3 z4 z5 z6 z7
          go_loopw [5] (fun i wr => ∃ j : Nat, j ≤ f.len ∧ i = .int .i64 j ∧ Hid (f.tree t a = (f.drop j).tree t a) ∧ Hid (St w0 [(w.heap.size, 0, .int .i64 t), (w.heap.size, 1, .int .i64 a), (b, o, .int .i64 k), (b, o + 1, .int .i64 n), (b, o + 2, .int .i64 ck), (b, o + 3, .int .i64 cn), (b, o + 4, .slice A cf.len C), (b, o + 5, .slice B f.len D)] wr)) (fun i _ => f.len - (intOf i).toNat)
          case atStart => exact ⟨0, Nat.zero_le _, rfl, rfl, G3.out⟩
          case round =>
            obtain ⟨j, hj, rfl, hq, G⟩ := hrel
            clear G3
            obtain ⟨_, z0, z1, z2, z3, z4, z5, z6, z7, _⟩ := G.out
            by_cases hjl : j < f.len
            · obtain ⟨b', o', rfl, hat⟩ := (HB.out.sees G.out.1) (by rintro rfl; simp [Pg.len] at hjl)
              obtain ⟨k', n', ck', cn', cf', ks, r, A1, C1, B1, D1, e1, e2, c0, c1, c2, c3, c4, hl1, c5, hl2⟩ := Pg.Lies.row hat hjl
              have hfd := Pg.fits_drop HF.out j
              have hnd := f.nodes_drop j
              rw [e1.out] at hfd hnd
              simp only [Pg.nodes] at hnd
              have hq' : Hid (f.tree t a = (ptreeE t a k' n' ck' cn' cf' ks && (f.drop (j + 1)).tree t a)) := by show _ = _; rw [hq.out, e1.out, e2.out, Pg.tree_cons]
              obtain ⟨q2, hqe⟩ : ∃ q2 : Bool, q2 = ptreeE t a k' n' ck' cn' cf' ks := ⟨_, rfl⟩
              rw [← hqe] at hq'
              have KR : Hid (∀ W : World, Sees wr W → Calls Tryd.prog 40 #[.agg #[.int .i64 t, .int .i64 a], .pointer (some ⟨b', o' + j * 6, none⟩)] W fun e w' => e = .returned (.bool q2) ∧ Below W.heap.size W w') := fun W h => by
                rw [hqe]
                exact IH.out ks (by omega) (by omega) hfd.2.2.1 cf' (by omega) hfd.1.2 t a k' n' ck' cn' A1 B1 C1 D1 b' _ W HT.out.1 HT.out.2.1 HT.out.2.2.1 HT.out.2.2.2 (hl1.sees h) (hl2.sees h) (kc h c0) (kc h c1) (kc h c2) (kc h c3) (kc h c4) (kc h c5)
              have j0 : (0 : Int) ≤ (j : Int) := Int.natCast_nonneg _
              have j1 : (j : Int) < (f.len : Int) := by omega
              have JL := Lib.hid hjl
              have GG : Hid (St wr [(w.heap.size, 0, .int .i64 t), (w.heap.size, 1, .int .i64 a), (b, o, .int .i64 k), (b, o + 1, .int .i64 n), (b, o + 2, .int .i64 ck), (b, o + 3, .int .i64 cn), (b, o + 4, .slice A cf.len C), (b, o + 5, .slice (some ⟨b', o', none⟩) f.len D)] wr) := ⟨Sees.refl _, z0, z1, z2, z3, z4, z5, z6, z7, trivial⟩
              clear hqe hq hfd hnd c0 c1 c2 c3 c4 c5 hl1 hl2 hat hjl e1 e2
              go_wp2_with fail
              clear z0 z1 z2 z3 z4 z5 z6 z7
              cases q2
              · skip
                refine wp_region_quietC wr [(w.heap.size, 0, .int .i64 t), (w.heap.size, 1, .int .i64 a), (b, o, .int .i64 k), (b, o + 1, .int .i64 n), (b, o + 2, .int .i64 ck), (b, o + 3, .int .i64 cn), (b, o + 4, .slice A cf.len C), (b, o + 5, .slice (some ⟨b', o', none⟩) f.len D)] (by kernel_rfl) (by kernel_rfl) GG.out ?_
                repeat (first | go_big_quiet_skip | (go_big_quiet_want; apply Exists.intro; refine ⟨fun W hW => ?_, ?_⟩; focus (have hK := Lib.hid hW; obtain ⟨hs, hc⟩ := hW; simp only [Has, and_true] at hc; go_simp; (first | rfl | exact ⟨rfl, rfl⟩ | exact quietC_call hK.out (KR.out _ hs)))) | (go_simp; go_big_quiet_on))
                refine wpQuiet_nil ?_
                intro w4 Hw4
                have HX4 := Lib.hid (G.out.1.below Hw4.1)
                clear Hw4
                go_wp2_with fail
                go_ret
                exact ⟨ret_bool (by rw [HD.out, hq'.out]; rfl), FIN.out _ HX4.out⟩
              · skip
                refine wp_region_quietC wr [(w.heap.size, 0, .int .i64 t), (w.heap.size, 1, .int .i64 a), (b, o, .int .i64 k), (b, o + 1, .int .i64 n), (b, o + 2, .int .i64 ck), (b, o + 3, .int .i64 cn), (b, o + 4, .slice A cf.len C), (b, o + 5, .slice (some ⟨b', o', none⟩) f.len D)] (by kernel_rfl) (by kernel_rfl) GG.out ?_
                repeat (first | go_big_quiet_skip | (go_big_quiet_want; apply Exists.intro; refine ⟨fun W hW => ?_, ?_⟩; focus (have hK := Lib.hid hW; obtain ⟨hs, hc⟩ := hW; simp only [Has, and_true] at hc; go_simp; (first | rfl | exact ⟨rfl, rfl⟩ | exact quietC_call hK.out (KR.out _ hs)))) | (go_simp; go_big_quiet_on))
                refine wpQuiet_nil ?_
                intro w4 Hw4
                have G5 : Hid (St w0 [(w.heap.size, 0, .int .i64 t), (w.heap.size, 1, .int .i64 a), (b, o, .int .i64 k), (b, o + 1, .int .i64 n), (b, o + 2, .int .i64 ck), (b, o + 3, .int .i64 cn), (b, o + 4, .slice A cf.len C), (b, o + 5, .slice (some ⟨b', o', none⟩) f.len D)] w4) := St.below G.out Hw4.1
                have hq2 : Hid (f.tree t a = (f.drop (j + 1)).tree t a) := hq'.out
                clear Hw4 hq'
                go_wp2_with fail
                go_roundw
                case rel => exact ⟨j + 1, JL.out, by go_num, hq2, G5.out⟩
                case measure => have := JL.out; simp [intOf]; omega
            · obtain rfl : j = f.len := by omega
              have hq2 : Hid (f.tree t a = true) := by show _ = _; rw [hq.out, Pg.drop_len]; rfl
              clear hq
              go_wp2_with fail
              go_ret
              exact ⟨ret_bool (HD.out.trans hq2.out).symm, FIN.out _ G.out.1⟩
      · cases qc
        · skip
          refine wp_region_quietC w0 [(w.heap.size, 0, .int .i64 t), (w.heap.size, 1, .int .i64 a), (b, o, .int .i64 k), (b, o + 1, .int .i64 n), (b, o + 2, .int .i64 ck), (b, o + 3, .int .i64 cn), (b, o + 4, .slice A cf.len C), (b, o + 5, .slice B f.len D)] (by kernel_rfl) (by kernel_rfl) G2.out ?_
          repeat (first | go_big_quiet_skip | (go_big_quiet_want; apply Exists.intro; refine ⟨fun W hW => ?_, ?_⟩; focus (have hK := Lib.hid hW; obtain ⟨hs, hc⟩ := hW; simp only [Has, and_true] at hc; go_simp; (first | rfl | exact ⟨rfl, rfl⟩ | exact quietC_call hK.out (KA.out _ hs) | exact quietC_call hK.out (KC.out _ hs)))) | (go_simp; go_big_quiet_on))
          refine wpQuiet_nil ?_
          intro w3 Hw3
          go_wp2_with fail
          go_ret
          exact ⟨ret_bool (by rw [HE.out]; rw [HX.out, HQX.out]; rfl), FIN.out _ Hw3.1⟩
        · skip
          refine wp_region_quietC w0 [(w.heap.size, 0, .int .i64 t), (w.heap.size, 1, .int .i64 a), (b, o, .int .i64 k), (b, o + 1, .int .i64 n), (b, o + 2, .int .i64 ck), (b, o + 3, .int .i64 cn), (b, o + 4, .slice A cf.len C), (b, o + 5, .slice B f.len D)] (by kernel_rfl) (by kernel_rfl) G2.out ?_
          repeat (first | go_big_quiet_skip | (go_big_quiet_want; apply Exists.intro; refine ⟨fun W hW => ?_, ?_⟩; focus (have hK := Lib.hid hW; obtain ⟨hs, hc⟩ := hW; simp only [Has, and_true] at hc; go_simp; (first | rfl | exact ⟨rfl, rfl⟩ | exact quietC_call hK.out (KA.out _ hs) | exact quietC_call hK.out (KC.out _ hs)))) | (go_simp; go_big_quiet_on))
          refine wpQuiet_nil ?_
          intro w3 Hw3
          have HD : Hid (ptreeE t a k n ck cn cf f = f.tree t a) := by show _ = _; rw [HE.out, HX.out, HQX.out]; rfl
          have G3 := Lib.hid Hw3
          clear Hw3 HE HX HQX KA KC KN KI G1 G2
          obtain ⟨_, z0, z1, z2, z3, z4, z5, z6, z7, _⟩ := G3.out
          go_wp2_with fail
          clear z0 z1 z2 z3 z4 z5 z6 z7
          go_loopw [5] (fun i wr => ∃ j : Nat, j ≤ f.len ∧ i = .int .i64 j ∧ Hid (f.tree t a = (f.drop j).tree t a) ∧ Hid (St w0 [(w.heap.size, 0, .int .i64 t), (w.heap.size, 1, .int .i64 a), (b, o, .int .i64 k), (b, o + 1, .int .i64 n), (b, o + 2, .int .i64 ck), (b, o + 3, .int .i64 cn), (b, o + 4, .slice A cf.len C), (b, o + 5, .slice B f.len D)] wr)) (fun i _ => f.len - (intOf i).toNat)
          case atStart => exact ⟨0, Nat.zero_le _, rfl, rfl, G3.out⟩
          case round =>
            obtain ⟨j, hj, rfl, hq, G⟩ := hrel
            clear G3
            obtain ⟨_, z0, z1, z2, z3, z4, z5, z6, z7, _⟩ := G.out
            by_cases hjl : j < f.len
            · obtain ⟨b', o', rfl, hat⟩ := (HB.out.sees G.out.1) (by rintro rfl; simp [Pg.len] at hjl)
              obtain ⟨k', n', ck', cn', cf', ks, r, A1, C1, B1, D1, e1, e2, c0, c1, c2, c3, c4, hl1, c5, hl2⟩ := Pg.Lies.row hat hjl
              have hfd := Pg.fits_drop HF.out j
              have hnd := f.nodes_drop j
              rw [e1.out] at hfd hnd
              simp only [Pg.nodes] at hnd
              have hq' : Hid (f.tree t a = (ptreeE t a k' n' ck' cn' cf' ks && (f.drop (j + 1)).tree t a)) := by show _ = _; rw [hq.out, e1.out, e2.out, Pg.tree_cons]
              obtain ⟨q2, hqe⟩ : ∃ q2 : Bool, q2 = ptreeE t a k' n' ck' cn' cf' ks := ⟨_, rfl⟩
              rw [← hqe] at hq'
              have KR : Hid (∀ W : World, Sees wr W → Calls Tryd.prog 40 #[.agg #[.int .i64 t, .int .i64 a], .pointer (some ⟨b', o' + j * 6, none⟩)] W fun e w' => e = .returned (.bool q2) ∧ Below W.heap.size W w') := fun W h => by
                rw [hqe]
                exact IH.out ks (by omega) (by omega) hfd.2.2.1 cf' (by omega) hfd.1.2 t a k' n' ck' cn' A1 B1 C1 D1 b' _ W HT.out.1 HT.out.2.1 HT.out.2.2.1 HT.out.2.2.2 (hl1.sees h) (hl2.sees h) (kc h c0) (kc h c1) (kc h c2) (kc h c3) (kc h c4) (kc h c5)
              have j0 : (0 : Int) ≤ (j : Int) := Int.natCast_nonneg _
              have j1 : (j : Int) < (f.len : Int) := by omega
              have JL := Lib.hid hjl
              have GG : Hid (St wr [(w.heap.size, 0, .int .i64 t), (w.heap.size, 1, .int .i64 a), (b, o, .int .i64 k), (b, o + 1, .int .i64 n), (b, o + 2, .int .i64 ck), (b, o + 3, .int .i64 cn), (b, o + 4, .slice A cf.len C), (b, o + 5, .slice (some ⟨b', o', none⟩) f.len D)] wr) := ⟨Sees.refl _, z0, z1, z2, z3, z4, z5, z6, z7, trivial⟩
              clear hqe hq hfd hnd c0 c1 c2 c3 c4 c5 hl1 hl2 hat hjl e1 e2
              go_wp2_with fail
              clear z0 z1 z2 z3 z4 z5 z6 z7
              cases q2
              · skip
                refine wp_region_quietC wr [(w.heap.size, 0, .int .i64 t), (w.heap.size, 1, .int .i64 a), (b, o, .int .i64 k), (b, o + 1, .int .i64 n), (b, o + 2, .int .i64 ck), (b, o + 3, .int .i64 cn), (b, o + 4, .slice A cf.len C), (b, o + 5, .slice (some ⟨b', o', none⟩) f.len D)] (by kernel_rfl) (by kernel_rfl) GG.out ?_
                repeat (first | go_big_quiet_skip | (go_big_quiet_want; apply Exists.intro; refine ⟨fun W hW => ?_, ?_⟩; focus (have hK := Lib.hid hW; obtain ⟨hs, hc⟩ := hW; simp only [Has, and_true] at hc; go_simp; (first | rfl | exact ⟨rfl, rfl⟩ | exact quietC_call hK.out (KR.out _ hs)))) | (go_simp; go_big_quiet_on))
                refine wpQuiet_nil ?_
                intro w4 Hw4
                have HX4 := Lib.hid (G.out.1.below Hw4.1)
                clear Hw4
                go_wp2_with fail
                go_ret
                exact ⟨ret_bool (by rw [HD.out, hq'.out]; rfl), FIN.out _ HX4.out⟩
              · skip
                refine wp_region_quietC wr [(w.heap.size, 0, .int .i64 t), (w.heap.size, 1, .int .i64 a), (b, o, .int .i64 k), (b, o + 1, .int .i64 n), (b, o + 2, .int .i64 ck), (b, o + 3, .int .i64 cn), (b, o + 4, .slice A cf.len C), (b, o + 5, .slice (some ⟨b', o', none⟩) f.len D)] (by kernel_rfl) (by kernel_rfl) GG.out ?_
                repeat (first | go_big_quiet_skip | (go_big_quiet_want; apply Exists.intro; refine ⟨fun W hW => ?_, ?_⟩; focus (have hK := Lib.hid hW; obtain ⟨hs, hc⟩ := hW; simp only [Has, and_true] at hc; go_simp; (first | rfl | exact ⟨rfl, rfl⟩ | exact quietC_call hK.out (KR.out _ hs)))) | (go_simp; go_big_quiet_on))
                refine wpQuiet_nil ?_
                intro w4 Hw4
                have G5 : Hid (St w0 [(w.heap.size, 0, .int .i64 t), (w.heap.size, 1, .int .i64 a), (b, o, .int .i64 k), (b, o + 1, .int .i64 n), (b, o + 2, .int .i64 ck), (b, o + 3, .int .i64 cn), (b, o + 4, .slice A cf.len C), (b, o + 5, .slice (some ⟨b', o', none⟩) f.len D)] w4) := St.below G.out Hw4.1
                have hq2 : Hid (f.tree t a = (f.drop (j + 1)).tree t a) := hq'.out
                clear Hw4 hq'
                go_wp2_with fail
                go_roundw
                case rel => exact ⟨j + 1, JL.out, by go_num, hq2, G5.out⟩
                case measure => have := JL.out; simp [intOf]; omega
            · obtain rfl : j = f.len := by omega
              have hq2 : Hid (f.tree t a = true) := by show _ = _; rw [hq.out, Pg.drop_len]; rfl
              clear hq
              go_wp2_with fail
              go_ret
              exact ⟨ret_bool (HD.out.trans hq2.out).symm, FIN.out _ G.out.1⟩
end Go.Proofs.YtcgbepmhfimbjaaDoor
