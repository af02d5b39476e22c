/- Contract of impl.AtomsOf. -/
import Derived.Test.YtlpgkhdecccmlaaRAtL
import Derived.Test.YtlpgkhdecccmlaaRImpI
namespace Go.Proofs.YtlpgkhdecccmlaaR
open Go.RowKit

set_option maxRecDepth 100000 in
set_option maxHeartbeats 4000000 in
theorem implAtomsOf_any (t a k n : Int) (f : Fo) (hf : f.Fits) (hm : f.nodes ≤ 1048576) (A : Option Addr) (C : Nat) (w : World) (hl : f.Lies w A) :
    Calls Try.prog 16 #[.agg #[.int .i64 t, .int .i64 a], .agg #[.int .i64 k, .int .i64 n, .slice A f.len C]] w (IEnd (atR t a k n f) (atC t a k n f) w) := by
  obtain ⟨R, hR⟩ : ∃ R, R = atR t a k n f := ⟨_, rfl⟩
  obtain ⟨c, hc⟩ : ∃ c, c = atC t a k n f := ⟨_, rfl⟩
  obtain ⟨q1, hq1⟩ : ∃ q : Bool, q = validE t a k n f := ⟨_, rfl⟩
  obtain ⟨c1, hc1⟩ : ∃ q : Bool, q = (condK k && f.cond) := ⟨_, rfl⟩
  have K1 : Hid (∀ W : World, St w [(w.heap.size, 0, .int .i64 t), (w.heap.size, 1, .int .i64 a), (w.heap.size + 1, 0, .int .i64 k), (w.heap.size + 1, 1, .int .i64 n), (w.heap.size + 1, 2, .slice A f.len C)] W → Calls Try.prog 64 #[.agg #[.int .i64 t, .int .i64 a], .agg #[.int .i64 k, .int .i64 n, .slice A f.len C]] W fun e w' => e = .returned (.bool q1) ∧ Below W.heap.size W w') := fun W h => by
    rw [hq1]; exact implValidExpr_any t a k n f hm A C W (hl.sees h.1)
  have K3 : Hid (∀ W : World, St w [(w.heap.size, 0, .int .i64 t), (w.heap.size, 1, .int .i64 a), (w.heap.size + 1, 0, .int .i64 k), (w.heap.size + 1, 1, .int .i64 n), (w.heap.size + 1, 2, .slice A f.len C)] W → Calls Try.prog 65 #[.agg #[.int .i64 k, .int .i64 n, .slice A f.len C]] W fun e w' => e = .returned (.bool c1) ∧ Below W.heap.size W w') := fun W h => by
    rw [hc1]; exact implIsCondition_aux (f.nodes + 1) f (Nat.lt_succ_self _) (Nat.le_trans f.len_le_nodes (by omega)) hf k n A C W (hl.sees h.1)
  rw [← hR, ← hc]
  cases q1
  · have HD := Lib.hid (show R = [] ∧ c = 1 by rw [hR, hc]; exact at_1 hq1.symm)
    clear hq1 hc1 hR hc
    go_enter Try.func16, Try.ntmps16
    go_wp2_with fail
    refine (K1.out _ ⟨(by unfold Sees; go_grown), (by simp [go_sem]), (by simp [go_sem]), (by simp [go_sem]), (by simp [go_sem]), (by simp [go_sem]), trivial⟩).mono ?_
    rintro e w1 ⟨rfl, hb⟩
    have H1 : Hid (St w [(w.heap.size, 0, .int .i64 t), (w.heap.size, 1, .int .i64 a), (w.heap.size + 1, 0, .int .i64 k), (w.heap.size + 1, 1, .int .i64 n), (w.heap.size + 1, 2, .slice A f.len C)] w1) := St.below (l := [(w.heap.size, 0, .int .i64 t), (w.heap.size, 1, .int .i64 a), (w.heap.size + 1, 0, .int .i64 k), (w.heap.size + 1, 1, .int .i64 n), (w.heap.size + 1, 2, .slice A f.len C)]) ⟨(by unfold Sees; go_grown), (by simp [go_sem]), (by simp [go_sem]), (by simp [go_sem]), (by simp [go_sem]), (by simp [go_sem]), trivial⟩ hb
    clear hb
    obtain ⟨sS, s0, s1, s2, s3, s4, _⟩ := H1.out
    go_wp2_with fail
    go_ret2
    exact iend_nil HD.out sS
  cases c1
  · have HD := Lib.hid (show R = [] ∧ c = 4 by rw [hR, hc]; exact at_4 hq1.symm hc1.symm)
    clear hq1 hc1 hR hc
    go_enter Try.func16, Try.ntmps16
    go_wp2_with fail
    refine (K1.out _ ⟨(by unfold Sees; go_grown), (by simp [go_sem]), (by simp [go_sem]), (by simp [go_sem]), (by simp [go_sem]), (by simp [go_sem]), trivial⟩).mono ?_
    rintro e w1 ⟨rfl, hb⟩
    have H1 : Hid (St w [(w.heap.size, 0, .int .i64 t), (w.heap.size, 1, .int .i64 a), (w.heap.size + 1, 0, .int .i64 k), (w.heap.size + 1, 1, .int .i64 n), (w.heap.size + 1, 2, .slice A f.len C)] w1) := St.below (l := [(w.heap.size, 0, .int .i64 t), (w.heap.size, 1, .int .i64 a), (w.heap.size + 1, 0, .int .i64 k), (w.heap.size + 1, 1, .int .i64 n), (w.heap.size + 1, 2, .slice A f.len C)]) ⟨(by unfold Sees; go_grown), (by simp [go_sem]), (by simp [go_sem]), (by simp [go_sem]), (by simp [go_sem]), (by simp [go_sem]), trivial⟩ hb
    clear hb
    obtain ⟨sS, s0, s1, s2, s3, s4, _⟩ := H1.out
    go_wp2_with fail
    refine (K3.out _ ⟨sS, s0, s1, s2, s3, s4, trivial⟩).mono ?_
    rintro e w2 ⟨rfl, hb⟩
    have H2 := Lib.hid (St.below H1.out hb)
    clear hb sS s0 s1 s2 s3 s4
    obtain ⟨sS, s0, s1, s2, s3, s4, _⟩ := H2.out
    go_wp2_with fail
    go_ret2
    exact iend_nil HD.out sS
  obtain ⟨P, hP⟩ : ∃ P : List Int, P = pickA (fun i : Nat => (ndE f k n).emptyB (i : Int)) (atomsNat t) := ⟨_, rfl⟩
  have HD := Lib.hid (show R = P ∧ c = 0 by rw [hR, hc, hP]; exact at_0 hq1.symm hc1.symm)
  have hv := validE_parts hq1.symm
  obtain ⟨S1, hS1⟩ : ∃ S : Nat → Bool, S = setOfG (atomsNat t) (fun i => (ndE f k n).emptyB (i : Int)) := ⟨_, rfl⟩
  have K5 : Hid (∀ W : World, Sees w W → Calls Try.prog 66 #[.agg #[.int .i64 t, .int .i64 a], .agg #[.int .i64 k, .int .i64 n, .slice A f.len C]] W fun e w' => e = .returned (.agg (arr8 S1)) ∧ Below W.heap.size W w') := fun W h => by rw [hS1]; exact atomsOf_any t a k n f hm hv A C W (hl.sees h)
  have hP2 : P = pickA S1 8 := by rw [hP, hS1, pickA_set _ (atomsNat_forms t)]
  have K6 : Hid (∀ W : World, Calls Try.prog 67 #[.agg (arr8 S1)] W fun e w' => ∃ A C, e = .returned (.slice A P.length C) ∧ IntsIn w' P W.heap.size w'.heap.size A ∧ Below W.heap.size W w') := fun W => by
    rw [hP2]
    exact list_any S1 W
  clear hq1 hc1 hv hR hc hP hP2 hS1
  go_enter Try.func16, Try.ntmps16
  go_wp2_with fail
  refine (K1.out _ ⟨(by unfold Sees; go_grown), (by simp [go_sem]), (by simp [go_sem]), (by simp [go_sem]), (by simp [go_sem]), (by simp [go_sem]), trivial⟩).mono ?_
  rintro e w1 ⟨rfl, hb⟩
  have H1 : Hid (St w [(w.heap.size, 0, .int .i64 t), (w.heap.size, 1, .int .i64 a), (w.heap.size + 1, 0, .int .i64 k), (w.heap.size + 1, 1, .int .i64 n), (w.heap.size + 1, 2, .slice A f.len C)] w1) := St.below (l := [(w.heap.size, 0, .int .i64 t), (w.heap.size, 1, .int .i64 a), (w.heap.size + 1, 0, .int .i64 k), (w.heap.size + 1, 1, .int .i64 n), (w.heap.size + 1, 2, .slice A f.len C)]) ⟨(by unfold Sees; go_grown), (by simp [go_sem]), (by simp [go_sem]), (by simp [go_sem]), (by simp [go_sem]), (by simp [go_sem]), trivial⟩ hb
  clear hb
  obtain ⟨sS, s0, s1, s2, s3, s4, _⟩ := H1.out
  go_wp2_with fail
  refine (K3.out _ ⟨sS, s0, s1, s2, s3, s4, trivial⟩).mono ?_
  rintro e w2 ⟨rfl, hb⟩
  have H2 := Lib.hid (St.below H1.out hb)
  clear hb sS s0 s1 s2 s3 s4
  obtain ⟨sS, s0, s1, s2, s3, s4, _⟩ := H2.out
  go_wp2_with fail
  refine (K5.out _ sS).mono ?_
  rintro e w3 ⟨rfl, hb⟩
  have hS3 := Sees.below sS hb
  clear hb sS s0 s1 s2 s3 s4
  go_wp2_with fail
  refine (K6.out _).mono ?_
  rintro e w4 ⟨Z, D, rfl, hI, hb⟩
  have hI2 := Lib.hid (hI.mono hS3.size (Nat.le_refl _))
  have hS4 := Lib.hid (Sees.below hS3 hb)
  clear hb hI hS3
  go_wp2_with fail
  go_ret2
  exact iend_of HD.out hI2.out hS4.out
end Go.Proofs.YtlpgkhdecccmlaaR
