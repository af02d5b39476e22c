/- Contract of spec.ProgText. -/
import Derived.Test.YtcgbepmhfimbjaaDoorPtS
import Derived.Test.YtcgbepmhfimbjaaDoorVpO
namespace Go.Proofs.YtcgbepmhfimbjaaDoor
open Go.RowKit
set_option linter.unusedVariables false

set_option maxRecDepth 100000 in
set_option maxHeartbeats 4000000 in
theorem specProgText_any (t a k n ck cn : Int) (cf : Fo) (f : Pg) (hm : cf.nodes + f.nodes ≤ 1048576) (hcf : cf.Fits) (hf : f.Fits) (A B : Option Addr) (C D : Nat) (w : World) (hA : cf.Lies w A) (hB : f.Lies w B) :
    Calls Tryd.prog 15 #[.agg #[.int .i64 t, .int .i64 a], .agg #[.int .i64 k, .int .i64 n, .int .i64 ck, .int .i64 cn, .slice A cf.len C, .slice B f.len D]] w fun e w' => e = .returned (.string ⟨(pgT t a k n ck cn cf f).toArray⟩) ∧ Below w.heap.size w w' := by
  obtain ⟨q1, hq1⟩ : ∃ q1 : Bool, q1 = validP t a k n ck cn cf f := ⟨_, rfl⟩
  have K1 : Hid (∀ W : World, St w [(w.heap.size, 0, .int .i64 t), (w.heap.size, 1, .int .i64 a), (w.heap.size + 1, 0, .int .i64 k), (w.heap.size + 1, 1, .int .i64 n), (w.heap.size + 1, 2, .int .i64 ck), (w.heap.size + 1, 3, .int .i64 cn), (w.heap.size + 1, 4, .slice A cf.len C), (w.heap.size + 1, 5, .slice B f.len D)] W → Calls Tryd.prog 19 #[.agg #[.int .i64 t, .int .i64 a], .pointer (some ⟨w.heap.size + 1, 0, none⟩)] W fun e w' => e = .returned (.bool q1) ∧ Below W.heap.size W w') :=
    fun W h => by rw [hq1]; exact l06Ok_any f (by omega) hf cf (by omega) hcf t a k n ck cn A B C D (w.heap.size + 1) 0 W (hA.sees h.1) (hB.sees h.1) h.2.2.2.1 h.2.2.2.2.1 h.2.2.2.2.2.1 h.2.2.2.2.2.2.1 h.2.2.2.2.2.2.2.1 h.2.2.2.2.2.2.2.2.1
  cases q1
  · have HD : Hid (pgT t a k n ck cn cf f = []) := by show _ = _; unfold pgT; rw [← hq1]; rfl
    rw [HD.out]
    clear hq1 HD hA hB
    go_enter Tryd.func15, Tryd.ntmps15
    go_wp2_with fail
    refine (K1.out _ ⟨(by unfold Sees; go_grown), (by simp [go_sem]), (by simp [go_sem]), (by simp [go_sem]), (by simp [go_sem]), (by simp [go_sem]), (by simp [go_sem]), (by simp [go_sem]), (by simp [go_sem]), trivial⟩).mono ?_
    rintro e w1 ⟨rfl, hb⟩
    have H1 : Hid (St w [(w.heap.size, 0, .int .i64 t), (w.heap.size, 1, .int .i64 a), (w.heap.size + 1, 0, .int .i64 k), (w.heap.size + 1, 1, .int .i64 n), (w.heap.size + 1, 2, .int .i64 ck), (w.heap.size + 1, 3, .int .i64 cn), (w.heap.size + 1, 4, .slice A cf.len C), (w.heap.size + 1, 5, .slice B f.len D)] w1) := St.below (l := [(w.heap.size, 0, .int .i64 t), (w.heap.size, 1, .int .i64 a), (w.heap.size + 1, 0, .int .i64 k), (w.heap.size + 1, 1, .int .i64 n), (w.heap.size + 1, 2, .int .i64 ck), (w.heap.size + 1, 3, .int .i64 cn), (w.heap.size + 1, 4, .slice A cf.len C), (w.heap.size + 1, 5, .slice B f.len D)]) ⟨(by unfold Sees; go_grown), (by simp [go_sem]), (by simp [go_sem]), (by simp [go_sem]), (by simp [go_sem]), (by simp [go_sem]), (by simp [go_sem]), (by simp [go_sem]), (by simp [go_sem]), trivial⟩ hb
    clear hb K1
    obtain ⟨sS, s0, s1, s2, s3, s4, s5, s6, s7, _⟩ := H1.out
    go_wp2_with fail
    go_ret
    exact ⟨rfl, sS⟩
  · have hv := validP_parts hq1.symm
    have HD : Hid (pgT t a k n ck cn cf f = ptE k n ck cn cf f) := by show _ = _; unfold pgT; rw [← hq1]; rfl
    rw [HD.out]
    obtain ⟨sv, hsv⟩ : ∃ s : ByteArray, s = ⟨(ptE k n ck cn cf f).toArray⟩ := ⟨_, rfl⟩
    have KT : Hid (∀ W : World, St w [(w.heap.size, 0, .int .i64 t), (w.heap.size, 1, .int .i64 a), (w.heap.size + 1, 0, .int .i64 k), (w.heap.size + 1, 1, .int .i64 n), (w.heap.size + 1, 2, .int .i64 ck), (w.heap.size + 1, 3, .int .i64 cn), (w.heap.size + 1, 4, .slice A cf.len C), (w.heap.size + 1, 5, .slice B f.len D)] W → Calls Tryd.prog 33 #[.pointer (some ⟨w.heap.size + 1, 0, none⟩)] W fun e w' => e = .returned (.string sv) ∧ Below W.heap.size W w') := fun W h => by
      rw [hsv]; exact l06Text_any t a hv.2.1 (cf.nodes + f.nodes + 1) cf f (Nat.lt_succ_self _) hm k n ck cn A B C D (w.heap.size + 1) 0 W (hA.sees h.1) (hB.sees h.1) hv.2.2 h.2.2.2.1 h.2.2.2.2.1 h.2.2.2.2.2.1 h.2.2.2.2.2.2.1 h.2.2.2.2.2.2.2.1 h.2.2.2.2.2.2.2.2.1
    rw [← hsv]
    clear hq1 HD hv hsv hA hB
    go_enter Tryd.func15, Tryd.ntmps15
    go_wp2_with fail
    refine (K1.out _ ⟨(by unfold Sees; go_grown), (by simp [go_sem]), (by simp [go_sem]), (by simp [go_sem]), (by simp [go_sem]), (by simp [go_sem]), (by simp [go_sem]), (by simp [go_sem]), (by simp [go_sem]), trivial⟩).mono ?_
    rintro e w1 ⟨rfl, hb⟩
    have H1 : Hid (St w [(w.heap.size, 0, .int .i64 t), (w.heap.size, 1, .int .i64 a), (w.heap.size + 1, 0, .int .i64 k), (w.heap.size + 1, 1, .int .i64 n), (w.heap.size + 1, 2, .int .i64 ck), (w.heap.size + 1, 3, .int .i64 cn), (w.heap.size + 1, 4, .slice A cf.len C), (w.heap.size + 1, 5, .slice B f.len D)] w1) := St.below (l := [(w.heap.size, 0, .int .i64 t), (w.heap.size, 1, .int .i64 a), (w.heap.size + 1, 0, .int .i64 k), (w.heap.size + 1, 1, .int .i64 n), (w.heap.size + 1, 2, .int .i64 ck), (w.heap.size + 1, 3, .int .i64 cn), (w.heap.size + 1, 4, .slice A cf.len C), (w.heap.size + 1, 5, .slice B f.len D)]) ⟨(by unfold Sees; go_grown), (by simp [go_sem]), (by simp [go_sem]), (by simp [go_sem]), (by simp [go_sem]), (by simp [go_sem]), (by simp [go_sem]), (by simp [go_sem]), (by simp [go_sem]), trivial⟩ hb
    clear hb K1
    obtain ⟨sS, s0, s1, s2, s3, s4, s5, s6, s7, _⟩ := H1.out
    go_wp2_with fail
    refine (KT.out _ H1.out).mono ?_
    rintro e w2 ⟨rfl, hb⟩
    have S2 := sS.below hb
    go_wp2_with fail
    go_ret
    exact ⟨rfl, S2⟩
end Go.Proofs.YtcgbepmhfimbjaaDoor
