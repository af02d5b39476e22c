/- Contract of impl.TruthAt. -/
import Derived.Test.YtpoikhilhgijoaaTruthT
import Derived.Test.YtpoikhilhgijoaaValidI
import Derived.Test.YtpoikhilhgijoaaCondI
namespace Go.Proofs.Ytpoikhilhgijoaa
open Go.RowKit

set_option maxRecDepth 100000 in
set_option maxHeartbeats 2000000 in
theorem implTruthAt_any (t a k n : Int) (f : Fo) (hm : f.len ≤ 9223372036854775807) (hf : f.Fits) (h0 : f.nodes ≤ 1048576) (x : Int) (_wx : (Lit.int .i64 x).wf = true) (A : Option Addr) (C : Nat) (w : World) (hl : f.Lies w A) :
    Calls Try.prog 19 #[.agg #[.int .i64 t, .int .i64 a], .agg #[.int .i64 k, .int .i64 n, .slice A f.len C], .int .i64 x] w fun e w' => e = .returned (.tuple #[.bool (truthB t a k n f x), .int .i64 (truthC t a k n f x)]) ∧ Below w.heap.size w w' := by
  obtain ⟨q1, hq1⟩ : ∃ q1 : Bool, q1 = validE t a k n f := ⟨_, rfl⟩
  have K1 : Hid (∀ W : World, Sees w W → Calls Try.prog 56 #[.agg #[.int .i64 t, .int .i64 a], .agg #[.int .i64 k, .int .i64 n, .slice A f.len C]] W fun e w' => e = .returned (.bool q1) ∧ Below W.heap.size W w') :=
    fun W h => by rw [hq1]; exact implValidExpr_any t a k n f h0 A C W (hl.sees h)
  cases q1
  · have HD := Lib.hid (truth_1 (x := x) hq1.symm)
    clear hq1
    go_enter Try.func19, Try.ntmps19
    go_wp2_with fail
    refine (K1.out _ (by unfold Sees; go_grown)).mono ?_
    rintro e w1 ⟨rfl, hb⟩
    have B1 : Sees w w1 := Sees.below (by unfold Sees; go_grown) hb
    clear hb
    go_wp2_with fail
    go_ret2
    exact ⟨ret_bi HD.out.1.symm HD.out.2.symm, B1⟩
  obtain ⟨q2, hq2⟩ : ∃ q2 : Bool, q2 = (condK k && f.cond) := ⟨_, rfl⟩
  have K2 : Hid (∀ W : World, Sees w W → Calls Try.prog 66 #[.agg #[.int .i64 k, .int .i64 n, .slice A f.len C]] W fun e w' => e = .returned (.bool q2) ∧ Below W.heap.size W w') :=
    fun W h => by rw [hq2]; exact implIsCondition_aux (f.nodes + 1) f (Nat.lt_succ_self _) hm hf k n A C W (hl.sees h)
  cases q2
  · have HD := Lib.hid (truth_4 (x := x) hq1.symm hq2.symm)
    clear hq1 hq2
    go_enter Try.func19, Try.ntmps19
    go_wp2_with fail
    refine (K1.out _ (by unfold Sees; go_grown)).mono ?_
    rintro e w1 ⟨rfl, hb⟩
    have H1 : Hid (St w [(w.heap.size, 0, .int .i64 t), (w.heap.size, 1, .int .i64 a), (w.heap.size + 1, 0, .int .i64 k), (w.heap.size + 1, 1, .int .i64 n), (w.heap.size + 1, 2, .slice A f.len C)] w1) := St.below (l := [(w.heap.size, 0, .int .i64 t), (w.heap.size, 1, .int .i64 a), (w.heap.size + 1, 0, .int .i64 k), (w.heap.size + 1, 1, .int .i64 n), (w.heap.size + 1, 2, .slice A f.len C)]) ⟨(by unfold Sees; go_grown), (by simp [go_sem]), (by simp [go_sem]), (by simp [go_sem]), (by simp [go_sem]), (by simp [go_sem]), trivial⟩ hb
    clear hb
    obtain ⟨sS, s0, s1, s2, s3, s4, _⟩ := H1.out
    go_wp2_with fail
    refine (K2.out _ sS).mono ?_
    rintro e w2 ⟨rfl, hb⟩
    have H2 := St.below H1.out hb
    clear hb s0 s1 s2 s3 s4 sS H1
    go_wp2_with fail
    go_ret2
    exact ⟨ret_bi HD.out.1.symm HD.out.2.symm, H2.1⟩
  have hv := validE_parts hq1.symm
  obtain ⟨na, hna, hn1, hn8⟩ : ∃ na : Int, na = atomsN t ∧ 1 ≤ na ∧ na ≤ 8 := ⟨_, rfl, (atomsN_bd t).1, (atomsN_bd t).2⟩
  have KA : Hid (∀ W : World, Calls Try.prog 58 #[.agg #[.int .i64 t, .int .i64 a]] W fun e w' => e = .returned (.int .i64 na) ∧ Below W.heap.size W w') := fun W => by rw [hna]; exact atomCount_any t a W hv.1 hv.2.1
  obtain ⟨q3, hq3⟩ : ∃ q3 : Bool, q3 = belowB x (atomsN t) := ⟨_, rfl⟩
  have K3 : Hid (∀ W : World, Calls Try.prog 57 #[.int .i64 x, .int .i64 na] W fun e w' => e = .returned (.bool q3) ∧ Below W.heap.size W w') := fun W => (below_any x na W).mono fun e w' h => ⟨by rw [hq3, ← hna]; exact h.1, by rw [← h.2]; exact Below.refl _ _⟩
  cases q3
  · have HD := Lib.hid (truth_2 hq1.symm hq2.symm hq3.symm)
    clear hq1 hq2 hq3 hna hn1 hn8 hv
    go_enter Try.func19, Try.ntmps19
    go_wp2_with fail
    refine (K1.out _ (by unfold Sees; go_grown)).mono ?_
    rintro e w1 ⟨rfl, hb⟩
    have H1 : Hid (St w [(w.heap.size, 0, .int .i64 t), (w.heap.size, 1, .int .i64 a), (w.heap.size + 1, 0, .int .i64 k), (w.heap.size + 1, 1, .int .i64 n), (w.heap.size + 1, 2, .slice A f.len C)] w1) := St.below (l := [(w.heap.size, 0, .int .i64 t), (w.heap.size, 1, .int .i64 a), (w.heap.size + 1, 0, .int .i64 k), (w.heap.size + 1, 1, .int .i64 n), (w.heap.size + 1, 2, .slice A f.len C)]) ⟨(by unfold Sees; go_grown), (by simp [go_sem]), (by simp [go_sem]), (by simp [go_sem]), (by simp [go_sem]), (by simp [go_sem]), trivial⟩ hb
    clear hb
    obtain ⟨sS, s0, s1, s2, s3, s4, _⟩ := H1.out
    go_wp2_with fail
    refine (K2.out _ sS).mono ?_
    rintro e w2 ⟨rfl, hb⟩
    have H2 := St.below H1.out hb
    clear hb s0 s1 s2 s3 s4 sS H1
    obtain ⟨sS, s0, s1, s2, s3, s4, _⟩ := H2
    go_wp2_with fail
    refine (KA.out _).mono ?_
    rintro e w3 ⟨rfl, hb⟩
    have H3 : St w [(w.heap.size, 0, .int .i64 t), (w.heap.size, 1, .int .i64 a), (w.heap.size + 1, 0, .int .i64 k), (w.heap.size + 1, 1, .int .i64 n), (w.heap.size + 1, 2, .slice A f.len C)] w3 := St.below ⟨sS, s0, s1, s2, s3, s4, trivial⟩ hb
    clear hb s0 s1 s2 s3 s4 sS
    go_wp2_with fail
    refine (K3.out _).mono ?_
    rintro e w4 ⟨rfl, hb⟩
    have H4 := St.below H3 hb
    clear hb H3
    go_wp2_with fail
    go_ret2
    exact ⟨ret_bi HD.out.1.symm HD.out.2.symm, H4.1⟩
  · have HD := Lib.hid (truth_0 hq1.symm hq2.symm hq3.symm)
    obtain ⟨q5, hq5⟩ : ∃ q5 : Bool, q5 = (ndE f k n).emptyB x := ⟨_, rfl⟩
    obtain ⟨T1, x1, h1⟩ := val_iface (ndE f k n)
    rw [← hq5] at HD
    have K4 : Hid (∀ W : World, Sees w W → Calls Try.prog 60 #[.agg #[.int .i64 k, .int .i64 n, .slice A f.len C]] W fun e w' => e = .returned (.iface T1 x1) ∧ Below W.heap.size W w') :=
      fun W h => by rw [← h1]; exact nodeOf_any (f.nodes + 1) f (Nat.lt_succ_self _) h0 t a false k n A C W (hl.sees h) hv.2.2.2.2
    have K5 : Hid (∀ W : World, Calls Try.prog 59 #[.iface T1 x1, .int .i64 x] W fun e w' => e = .returned (.bool q5) ∧ Below W.heap.size W w') :=
      fun W => by rw [hq5, ← h1]; exact emptyAt_any x (below_atoms hq3.symm).1 (below_atoms hq3.symm).2 (ndE f k n) W (ndE_okT t a hv.2.1 (f.nodes + 1) f (Nat.lt_succ_self _) false k n hv.2.2.2.2)
    clear hq1 hq2 hq3 hq5 hna hn1 hn8 hv h1
    go_enter Try.func19, Try.ntmps19
    go_wp2_with fail
    refine (K1.out _ (by unfold Sees; go_grown)).mono ?_
    rintro e w1 ⟨rfl, hb⟩
    have H1 : Hid (St w [(w.heap.size, 0, .int .i64 t), (w.heap.size, 1, .int .i64 a), (w.heap.size + 1, 0, .int .i64 k), (w.heap.size + 1, 1, .int .i64 n), (w.heap.size + 1, 2, .slice A f.len C)] w1) := St.below (l := [(w.heap.size, 0, .int .i64 t), (w.heap.size, 1, .int .i64 a), (w.heap.size + 1, 0, .int .i64 k), (w.heap.size + 1, 1, .int .i64 n), (w.heap.size + 1, 2, .slice A f.len C)]) ⟨(by unfold Sees; go_grown), (by simp [go_sem]), (by simp [go_sem]), (by simp [go_sem]), (by simp [go_sem]), (by simp [go_sem]), trivial⟩ hb
    clear hb
    obtain ⟨sS, s0, s1, s2, s3, s4, _⟩ := H1.out
    go_wp2_with fail
    refine (K2.out _ sS).mono ?_
    rintro e w2 ⟨rfl, hb⟩
    have H2 := St.below H1.out hb
    clear hb s0 s1 s2 s3 s4 sS H1
    obtain ⟨sS, s0, s1, s2, s3, s4, _⟩ := H2
    go_wp2_with fail
    refine (KA.out _).mono ?_
    rintro e w3 ⟨rfl, hb⟩
    have H3 : St w [(w.heap.size, 0, .int .i64 t), (w.heap.size, 1, .int .i64 a), (w.heap.size + 1, 0, .int .i64 k), (w.heap.size + 1, 1, .int .i64 n), (w.heap.size + 1, 2, .slice A f.len C)] w3 := St.below ⟨sS, s0, s1, s2, s3, s4, trivial⟩ hb
    clear hb s0 s1 s2 s3 s4 sS
    go_wp2_with fail
    refine (K3.out _).mono ?_
    rintro e w4 ⟨rfl, hb⟩
    have H4 := St.below H3 hb
    clear hb H3
    obtain ⟨sS, s0, s1, s2, s3, s4, _⟩ := H4
    go_wp2_with fail
    refine (K4.out _ sS).mono ?_
    rintro e w5 ⟨rfl, hb⟩
    have B5 := sS.below hb
    clear hb s0 s1 s2 s3 s4
    go_wp2_with fail
    refine (K5.out _).mono ?_
    rintro e w6 ⟨rfl, hb⟩
    have B6 := B5.below hb
    clear hb
    go_wp2_with fail
    go_ret2
    exact ⟨ret_bi HD.out.1.symm HD.out.2.symm, B6⟩

end Go.Proofs.Ytpoikhilhgijoaa
