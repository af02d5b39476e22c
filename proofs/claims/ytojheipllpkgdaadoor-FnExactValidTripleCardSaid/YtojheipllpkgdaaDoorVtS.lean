/- Contracts of spec.l07Triple, spec.ValidTriple. -/
import Derived.Test.YtojheipllpkgdaaDoorVpO
import Derived.Test.YtojheipllpkgdaaDoorQuietC
namespace Go.Proofs.YtojheipllpkgdaaDoor
open Go.RowKit
set_option linter.unusedVariables false

/-- Whether a triple is valid. -/
def tripV (t a pk pn : Int) (pf : Fo) (gk gn gck gcn : Int) (gcf : Fo) (gks : Pg) (qk qn : Int) (qf : Fo) : Bool := condV t a pk pn pf && (condV t a qk qn qf && validP t a gk gn gck gcn gcf gks)

set_option maxHeartbeats 2000000 in
set_option maxRecDepth 100000 in
theorem l07Triple_any (t a pk pn : Int) (pf : Fo) (gk gn gck gcn : Int) (gcf : Fo) (gks : Pg) (qk qn : Int) (qf : Fo) (hsz : pf.nodes + gcf.nodes + gks.nodes + qf.nodes ≤ 1048576) (hpf : pf.Fits) (hgcf : gcf.Fits) (hgks : gks.Fits) (hqf : qf.Fits) (Ap Ac Ag Aq : Option Addr) (Cp Cc Cg Cq b o : Nat) (w : World) (hA : pf.Lies w Ap) (hB : gcf.Lies w Ac) (hC : gks.Lies w Ag) (hD : qf.Lies w Aq) (h0 : w.cell? ⟨b, o, none⟩ = some (.int .i64 pk)) (h1 : w.cell? ⟨b, o + 1, none⟩ = some (.int .i64 pn)) (h2 : w.cell? ⟨b, o + 2, none⟩ = some (.slice Ap pf.len Cp)) (h3 : w.cell? ⟨b, o + 3, none⟩ = some (.int .i64 gk)) (h4 : w.cell? ⟨b, o + 4, none⟩ = some (.int .i64 gn)) (h5 : w.cell? ⟨b, o + 5, none⟩ = some (.int .i64 gck)) (h6 : w.cell? ⟨b, o + 6, none⟩ = some (.int .i64 gcn)) (h7 : w.cell? ⟨b, o + 7, none⟩ = some (.slice Ac gcf.len Cc)) (h8 : w.cell? ⟨b, o + 8, none⟩ = some (.slice Ag gks.len Cg)) (h9 : w.cell? ⟨b, o + 9, none⟩ = some (.int .i64 qk)) (h10 : w.cell? ⟨b, o + 10, none⟩ = some (.int .i64 qn)) (h11 : w.cell? ⟨b, o + 11, none⟩ = some (.slice Aq qf.len Cq)) :
    Calls Tryd.prog 42 #[.agg #[.int .i64 t, .int .i64 a], .pointer (some ⟨b, o, none⟩)] w fun e w' => e = .returned (.bool (tripV t a pk pn pf gk gn gck gcn gcf gks qk qn qf)) ∧ Below w.heap.size w w' := by
  obtain ⟨q1, hq1⟩ : ∃ q : Bool, q = condV t a pk pn pf := ⟨_, rfl⟩
  obtain ⟨q2, hq2⟩ : ∃ q : Bool, q = condV t a qk qn qf := ⟨_, rfl⟩
  obtain ⟨q3, hq3⟩ : ∃ q : Bool, q = validP t a gk gn gck gcn gcf gks := ⟨_, rfl⟩
  have K1 : Hid (∀ W : World, Sees w W → Calls Tryd.prog 75 #[.agg #[.int .i64 t, .int .i64 a], .pointer (some ⟨b, o, none⟩)] W fun e w' => e = .returned (.bool q1) ∧ Below W.heap.size W w') := fun W h => by
    rw [hq1]
    exact l06Cond_any t a pk pn pf (by omega) hpf Ap Cp b o W (hA.sees h) (kc h h0) (kc h h1) (kc h h2)
  have K2 : Hid (∀ W : World, Sees w W → Calls Tryd.prog 75 #[.agg #[.int .i64 t, .int .i64 a], .pointer (some ⟨b, o + 9, none⟩)] W fun e w' => e = .returned (.bool q2) ∧ Below W.heap.size W w') := fun W h => by
    rw [hq2]
    exact l06Cond_any t a qk qn qf (by omega) hqf Aq Cq b (o + 9) W (hD.sees h) (kc h h9) (kc h (by rw [Nat.add_assoc]; exact h10)) (kc h (by rw [Nat.add_assoc]; exact h11))
  have K3 : Hid (∀ W : World, Sees w W → Calls Tryd.prog 34 #[.agg #[.int .i64 t, .int .i64 a], .pointer (some ⟨b, o + 3, none⟩)] W fun e w' => e = .returned (.bool q3) ∧ Below W.heap.size W w') := fun W h => by
    rw [hq3]
    exact l06Ok_any gks (by omega) hgks gcf (by omega) hgcf t a gk gn gck gcn Ac Ag Cc Cg b (o + 3) W (hB.sees h) (hC.sees h) (kc h h3) (kc h (by rw [Nat.add_assoc]; exact h4)) (kc h (by rw [Nat.add_assoc]; exact h5)) (kc h (by rw [Nat.add_assoc]; exact h6)) (kc h (by rw [Nat.add_assoc]; exact h7)) (kc h (by rw [Nat.add_assoc]; exact h8))
  have HD : Hid (tripV t a pk pn pf gk gn gck gcn gcf gks qk qn qf = (q1 && (q2 && q3))) := by show _ = _; unfold tripV; rw [hq1, hq2, hq3]
  clear hq1 hq2 hq3 hA hB hC hD hpf hgcf hgks hqf hsz h0 h1 h2 h3 h4 h5 h6 h7 h8 h9 h10 h11
  have S1 : Sees w (w.alloc (.cells #[.int .i64 t, .int .i64 a] 32)) := (Sees.refl w).alloc _
  obtain ⟨w1, hw1⟩ : ∃ w1, w1 = w.alloc (.cells #[.int .i64 t, .int .i64 a] 32) := ⟨_, rfl⟩
  have s0 : w1.cell? ⟨w.heap.size, 0, none⟩ = some (.int .i64 t) := by rw [hw1]; simp [go_sem]
  have s1 : w1.cell? ⟨w.heap.size, 1, none⟩ = some (.int .i64 a) := by rw [hw1]; simp [go_sem]
  rw [← hw1] at S1
  cases q1
  · clear K2 K3
    go_enter Tryd.func42, Tryd.ntmps42
    go_wp2_with fail
    rw [← hw1]
    clear hw1
    refine wp_region_quietC w1 [(w.heap.size, 0, .int .i64 t), (w.heap.size, 1, .int .i64 a)] (by kernel_rfl) (by kernel_rfl) ⟨Below.refl _ _, s0, s1, trivial⟩ ?_
    repeat (first | go_big_quiet_skip | (go_big_quiet_want; apply Exists.intro; refine ⟨fun W hW => ?_, ?_⟩; focus (have hK := Lib.hid hW; obtain ⟨hs, hc⟩ := hW; simp only [Has, and_true] at hc; go_simp; (first | rfl | exact ⟨rfl, rfl⟩ | ((with_reducible refine quietC_call hK.out (K1.out _ ?_)); exact Sees.below S1 hs)))) | (go_simp; go_big_quiet_on))
    refine wpQuiet_nil ?_
    intro w2 H1
    have hb : Sees w w2 := Sees.below S1 H1.1
    clear H1
    go_wp2_with fail
    go_ret
    exact ⟨ret_bool HD.out.symm, hb⟩
  cases q2
  · clear K3
    go_enter Tryd.func42, Tryd.ntmps42
    go_wp2_with fail
    rw [← hw1]
    clear hw1
    refine wp_region_quietC w1 [(w.heap.size, 0, .int .i64 t), (w.heap.size, 1, .int .i64 a)] (by kernel_rfl) (by kernel_rfl) ⟨Below.refl _ _, s0, s1, trivial⟩ ?_
    repeat (first | go_big_quiet_skip | (go_big_quiet_want; apply Exists.intro; refine ⟨fun W hW => ?_, ?_⟩; focus (have hK := Lib.hid hW; obtain ⟨hs, hc⟩ := hW; simp only [Has, and_true] at hc; go_simp; (first | rfl | exact ⟨rfl, rfl⟩ | ((with_reducible refine quietC_call hK.out (K1.out _ ?_)); exact Sees.below S1 hs) | ((with_reducible refine quietC_call hK.out (K2.out _ ?_)); exact Sees.below S1 hs)))) | (go_simp; go_big_quiet_on))
    refine wpQuiet_nil ?_
    intro w2 H1
    have hb : Sees w w2 := Sees.below S1 H1.1
    clear H1
    go_wp2_with fail
    go_ret
    exact ⟨ret_bool HD.out.symm, hb⟩
  cases q3
  · skip
    go_enter Tryd.func42, Tryd.ntmps42
    go_wp2_with fail
    rw [← hw1]
    clear hw1
    refine wp_region_quietC w1 [(w.heap.size, 0, .int .i64 t), (w.heap.size, 1, .int .i64 a)] (by kernel_rfl) (by kernel_rfl) ⟨Below.refl _ _, s0, s1, trivial⟩ ?_
    repeat (first | go_big_quiet_skip | (go_big_quiet_want; apply Exists.intro; refine ⟨fun W hW => ?_, ?_⟩; focus (have hK := Lib.hid hW; obtain ⟨hs, hc⟩ := hW; simp only [Has, and_true] at hc; go_simp; (first | rfl | exact ⟨rfl, rfl⟩ | ((with_reducible refine quietC_call hK.out (K1.out _ ?_)); exact Sees.below S1 hs) | ((with_reducible refine quietC_call hK.out (K2.out _ ?_)); exact Sees.below S1 hs) | ((with_reducible refine quietC_call hK.out (K3.out _ ?_)); exact Sees.below S1 hs)))) | (go_simp; go_big_quiet_on))
    refine wpQuiet_nil ?_
    intro w2 H1
    have hb : Sees w w2 := Sees.below S1 H1.1
    clear H1
    go_wp2_with fail
    go_ret
    exact ⟨ret_bool HD.out.symm, hb⟩
  · skip
    go_enter Tryd.func42, Tryd.ntmps42
    go_wp2_with fail
    rw [← hw1]
    clear hw1
    refine wp_region_quietC w1 [(w.heap.size, 0, .int .i64 t), (w.heap.size, 1, .int .i64 a)] (by kernel_rfl) (by kernel_rfl) ⟨Below.refl _ _, s0, s1, trivial⟩ ?_
    repeat (first | go_big_quiet_skip | (go_big_quiet_want; apply Exists.intro; refine ⟨fun W hW => ?_, ?_⟩; focus (have hK := Lib.hid hW; obtain ⟨hs, hc⟩ := hW; simp only [Has, and_true] at hc; go_simp; (first | rfl | exact ⟨rfl, rfl⟩ | ((with_reducible refine quietC_call hK.out (K1.out _ ?_)); exact Sees.below S1 hs) | ((with_reducible refine quietC_call hK.out (K2.out _ ?_)); exact Sees.below S1 hs) | ((with_reducible refine quietC_call hK.out (K3.out _ ?_)); exact Sees.below S1 hs)))) | (go_simp; go_big_quiet_on))
    refine wpQuiet_nil ?_
    intro w2 H1
    have hb : Sees w w2 := Sees.below S1 H1.1
    clear H1
    go_wp2_with fail
    go_ret
    exact ⟨ret_bool HD.out.symm, hb⟩

set_option maxHeartbeats 400000 in
theorem specValidTriple_any (t a pk pn : Int) (pf : Fo) (gk gn gck gcn : Int) (gcf : Fo) (gks : Pg) (qk qn : Int) (qf : Fo) (hsz : pf.nodes + gcf.nodes + gks.nodes + qf.nodes ≤ 1048576) (hpf : pf.Fits) (hgcf : gcf.Fits) (hgks : gks.Fits) (hqf : qf.Fits) (Ap Ac Ag Aq : Option Addr) (Cp Cc Cg Cq : Nat) (w : World) (hA : pf.Lies w Ap) (hB : gcf.Lies w Ac) (hC : gks.Lies w Ag) (hD : qf.Lies w Aq) :
    Calls Tryd.prog 15 #[.agg #[.int .i64 t, .int .i64 a], .agg #[.int .i64 pk, .int .i64 pn, .slice Ap pf.len Cp, .int .i64 gk, .int .i64 gn, .int .i64 gck, .int .i64 gcn, .slice Ac gcf.len Cc, .slice Ag gks.len Cg, .int .i64 qk, .int .i64 qn, .slice Aq qf.len Cq]] w fun e w' => e = .returned (.bool (tripV t a pk pn pf gk gn gck gcn gcf gks qk qn qf)) ∧ Below w.heap.size w w' := by
  obtain ⟨q, hq⟩ : ∃ q : Bool, q = tripV t a pk pn pf gk gn gck gcn gcf gks qk qn qf := ⟨_, rfl⟩
  obtain ⟨w0, hw0⟩ : ∃ w0, w0 = (w.alloc (.cells #[.int .i64 t, .int .i64 a] 32)).alloc (.cells #[.int .i64 pk, .int .i64 pn, .slice Ap pf.len Cp, .int .i64 gk, .int .i64 gn, .int .i64 gck, .int .i64 gcn, .slice Ac gcf.len Cc, .slice Ag gks.len Cg, .int .i64 qk, .int .i64 qn, .slice Aq qf.len Cq] 48) := ⟨_, rfl⟩
  have B0 : Sees w w0 := by rw [hw0]; exact ((Sees.refl w).alloc _).alloc _
  have hb0 : w0.heap[w.heap.size + 1]? = some (.cells #[.int .i64 pk, .int .i64 pn, .slice Ap pf.len Cp, .int .i64 gk, .int .i64 gn, .int .i64 gck, .int .i64 gcn, .slice Ac gcf.len Cc, .slice Ag gks.len Cg, .int .i64 qk, .int .i64 qn, .slice Aq qf.len Cq] 48 (0, 0)) := by rw [hw0]; exact heap_new _ _ _ (by simp)
  have HC : Hid (Calls Tryd.prog 42 #[.agg #[.int .i64 t, .int .i64 a], .pointer (some ⟨w.heap.size + 1, 0, none⟩)] w0 fun e w' => e = .returned (.bool q) ∧ Below w0.heap.size w0 w') := by
    rw [hq]
    exact l07Triple_any t a pk pn pf gk gn gck gcn gcf gks qk qn qf hsz hpf hgcf hgks hqf Ap Ac Ag Aq Cp Cc Cg Cq (w.heap.size + 1) 0 w0 (hA.sees B0) (hB.sees B0) (hC.sees B0) (hD.sees B0) (Fo.cell_of_block hb0 0) (Fo.cell_of_block hb0 1) (Fo.cell_of_block hb0 2) (Fo.cell_of_block hb0 3) (Fo.cell_of_block hb0 4) (Fo.cell_of_block hb0 5) (Fo.cell_of_block hb0 6) (Fo.cell_of_block hb0 7) (Fo.cell_of_block hb0 8) (Fo.cell_of_block hb0 9) (Fo.cell_of_block hb0 10) (Fo.cell_of_block hb0 11)
  have FIN : Hid (∀ W : World, Below w0.heap.size w0 W → Below w.heap.size w W) := fun W h => B0.below h
  rw [← hq]
  clear hq hb0 B0 hA hB hC hD hpf hgcf hgks hqf
  go_enter Tryd.func15, Tryd.ntmps15
  go_wp2_with fail
  rw [← hw0]
  refine HC.out.mono ?_
  rintro e w1 ⟨rfl, hb⟩
  have B1 := Lib.hid (FIN.out _ hb)
  clear hb hw0
  go_wp2_with fail
  go_ret
  exact ⟨rfl, B1.out⟩

end Go.Proofs.YtojheipllpkgdaaDoor
