/- Contract of spec.TruthAt. -/
import Derived.Test.YtpoikhilhgijoaaTruthS
import Derived.Test.YtpoikhilhgijoaaVWord
namespace Go.Proofs.Ytpoikhilhgijoaa
open Go.RowKit

/-- What TruthAt answers. -/
def truthB (t a k n : Int) (f : Fo) (x : Int) : Bool := if validE t a k n f = true ∧ (condK k && f.cond) = true ∧ belowB x (atomsN t) = true then (ndE f k n).emptyB x else false
def truthC (t a k n : Int) (f : Fo) (x : Int) : Int := if validE t a k n f = false then 1 else if (condK k && f.cond) = false then 4 else if belowB x (atomsN t) = false then 2 else 0
theorem ret_bi {a b : Bool} {x y : Int} (h : a = b) (h' : x = y) : Ending.returned (.tuple #[.bool a, .int .i64 x]) = .returned (.tuple #[.bool b, .int .i64 y]) := by rw [h, h']
theorem truth_1 {t a k n : Int} {f : Fo} {x : Int} (h : validE t a k n f = false) : truthB t a k n f x = false ∧ truthC t a k n f x = 1 := by
  unfold truthB truthC; rw [h]; simp
theorem truth_4 {t a k n : Int} {f : Fo} {x : Int} (h : validE t a k n f = true) (h2 : (condK k && f.cond) = false) : truthB t a k n f x = false ∧ truthC t a k n f x = 4 := by
  unfold truthB truthC; rw [h, h2]; simp
theorem truth_2 {t a k n : Int} {f : Fo} {x : Int} (h : validE t a k n f = true) (h2 : (condK k && f.cond) = true) (h3 : belowB x (atomsN t) = false) : truthB t a k n f x = false ∧ truthC t a k n f x = 2 := by
  unfold truthB truthC; rw [h, h2, h3]; simp
theorem truth_0 {t a k n : Int} {f : Fo} {x : Int} (h : validE t a k n f = true) (h2 : (condK k && f.cond) = true) (h3 : belowB x (atomsN t) = true) : truthB t a k n f x = (ndE f k n).emptyB x ∧ truthC t a k n f x = 0 := by
  unfold truthB truthC; rw [h, h2, h3]; simp
theorem validE_parts {t a k n : Int} {f : Fo} (h : validE t a k n f = true) : 0 ≤ t ∧ t ≤ 3 ∧ 0 ≤ a ∧ a ≤ 4 ∧ treeE t a false k n f = true := by
  unfold validE at h
  simp only [Bool.and_eq_true] at h
  have := sigOk_of h.1.1.1
  exact ⟨this.1, this.2.1, this.2.2.1, this.2.2.2, h.2⟩
theorem below_atoms {t x : Int} (h : belowB x (atomsN t) = true) : 0 ≤ x ∧ x ≤ 7 := by
  have h1 := of_decide_eq_true h
  have h2 := atomsN_bd t
  omega

set_option maxRecDepth 100000 in
set_option maxHeartbeats 2000000 in
theorem specTruthAt_any (t a k n : Int) (f : Fo) (hm : f.len ≤ 9223372036854775807) (hf : f.Fits) (h0 : f.nodes ≤ 1048576) (x : Int) (_wx : (Lit.int .i64 x).wf = true) (A : Option Addr) (C : Nat) (w : World) (hl : f.Lies w A) :
    Calls Try.prog 18 #[.agg #[.int .i64 t, .int .i64 a], .agg #[.int .i64 k, .int .i64 n, .slice A f.len C], .int .i64 x] w fun e w' => e = .returned (.tuple #[.bool (truthB t a k n f x), .int .i64 (truthC t a k n f x)]) ∧ Below w.heap.size w w' := by
  obtain ⟨q1, hq1⟩ : ∃ q1 : Bool, q1 = validE t a k n f := ⟨_, rfl⟩
  have K1 : Hid (∀ W : World, St w [(w.heap.size, 0, .int .i64 t), (w.heap.size, 1, .int .i64 a), (w.heap.size + 1, 0, .int .i64 k), (w.heap.size + 1, 1, .int .i64 n), (w.heap.size + 1, 2, .slice A f.len C)] W → Calls Try.prog 52 #[.agg #[.int .i64 t, .int .i64 a], .pointer (some ⟨w.heap.size + 1, 0, none⟩)] W fun e w' => e = .returned (.bool q1) ∧ Below W.heap.size W w') :=
    fun W h => by rw [hq1]; exact l01Ok_any f h0 hf t a k n A C (w.heap.size + 1) 0 W (hl.sees h.1) h.2.2.2.1 h.2.2.2.2.1 h.2.2.2.2.2.1
  cases q1
  · have HD := Lib.hid (truth_1 (x := x) hq1.symm)
    clear hq1
    go_enter Try.func18, Try.ntmps18
    go_wp2_with fail
    refine (K1.out _ ⟨(by unfold Sees; go_grown), (by simp [go_sem]), (by simp [go_sem]), (by simp [go_sem]), (by simp [go_sem]), (by simp [go_sem]), trivial⟩).mono ?_
    rintro e w1 ⟨rfl, hb⟩
    have B1 : Sees w w1 := Sees.below (by unfold Sees; go_grown) hb
    clear hb
    go_wp2_with fail
    go_ret2
    exact ⟨ret_bi HD.out.1.symm HD.out.2.symm, B1⟩
  obtain ⟨q2, hq2⟩ : ∃ q2 : Bool, q2 = (condK k && f.cond) := ⟨_, rfl⟩
  have K2 : Hid (∀ W : World, St w [(w.heap.size, 0, .int .i64 t), (w.heap.size, 1, .int .i64 a), (w.heap.size + 1, 0, .int .i64 k), (w.heap.size + 1, 1, .int .i64 n), (w.heap.size + 1, 2, .slice A f.len C)] W → Calls Try.prog 62 #[.pointer (some ⟨w.heap.size + 1, 0, none⟩)] W fun e w' => e = .returned (.bool q2) ∧ W = w') :=
    fun W h => by rw [hq2]; exact l01Condition_any (f.nodes + 1) f (Nat.lt_succ_self _) hm hf k A C (w.heap.size + 1) 0 W (hl.sees h.1) h.2.2.2.1 h.2.2.2.2.2.1
  cases q2
  · have HD := Lib.hid (truth_4 (x := x) hq1.symm hq2.symm)
    clear hq1 hq2
    go_enter Try.func18, Try.ntmps18
    go_wp2_with fail
    refine (K1.out _ ⟨(by unfold Sees; go_grown), (by simp [go_sem]), (by simp [go_sem]), (by simp [go_sem]), (by simp [go_sem]), (by simp [go_sem]), trivial⟩).mono ?_
    rintro e w1 ⟨rfl, hb⟩
    have H1 : Hid (St w [(w.heap.size, 0, .int .i64 t), (w.heap.size, 1, .int .i64 a), (w.heap.size + 1, 0, .int .i64 k), (w.heap.size + 1, 1, .int .i64 n), (w.heap.size + 1, 2, .slice A f.len C)] w1) := St.below (l := [(w.heap.size, 0, .int .i64 t), (w.heap.size, 1, .int .i64 a), (w.heap.size + 1, 0, .int .i64 k), (w.heap.size + 1, 1, .int .i64 n), (w.heap.size + 1, 2, .slice A f.len C)]) ⟨(by unfold Sees; go_grown), (by simp [go_sem]), (by simp [go_sem]), (by simp [go_sem]), (by simp [go_sem]), (by simp [go_sem]), trivial⟩ hb
    clear hb
    go_wp2_with fail
    refine (K2.out _ H1.out).mono ?_
    rintro e w' ⟨rfl, rfl⟩
    go_wp2_with fail
    go_ret2
    exact ⟨ret_bi HD.out.1.symm HD.out.2.symm, H1.out.1⟩
  have hv := validE_parts hq1.symm
  obtain ⟨na, hna, hn1, hn8⟩ : ∃ na : Int, na = atomsN t ∧ 1 ≤ na ∧ na ≤ 8 := ⟨_, rfl, (atomsN_bd t).1, (atomsN_bd t).2⟩
  have KA : Hid (∀ W : World, Calls Try.prog 64 #[.agg #[.int .i64 t, .int .i64 a]] W fun e w' => e = .returned (.int .i64 na) ∧ Below W.heap.size W w') := fun W => by rw [hna]; exact atoms_any t a W hv.1 hv.2.1
  obtain ⟨q3, hq3⟩ : ∃ q3 : Bool, q3 = belowB x (atomsN t) := ⟨_, rfl⟩
  have K3 : Hid (∀ W : World, Calls Try.prog 63 #[.int .i64 x, .int .i64 0, .int .i64 (na - 1)] W fun e w' => e = .returned (.bool q3) ∧ Below W.heap.size W w') := fun W => (in_any x 0 (na - 1) W).mono fun e w' h => ⟨by rw [hq3, ← atomB_below, atomB, ← hna]; exact h.1, by rw [← h.2]; exact Below.refl _ _⟩
  have wn : IntKind.i64.wrap (na - 1) = na - 1 := IntWalk.i64_in _ (by omega)
  cases q3
  · have HD := Lib.hid (truth_2 hq1.symm hq2.symm hq3.symm)
    clear hq1 hq2 hq3 hna hn1 hn8 hv
    go_enter Try.func18, Try.ntmps18
    go_wp2_with fail
    refine (K1.out _ ⟨(by unfold Sees; go_grown), (by simp [go_sem]), (by simp [go_sem]), (by simp [go_sem]), (by simp [go_sem]), (by simp [go_sem]), trivial⟩).mono ?_
    rintro e w1 ⟨rfl, hb⟩
    have H1 : Hid (St w [(w.heap.size, 0, .int .i64 t), (w.heap.size, 1, .int .i64 a), (w.heap.size + 1, 0, .int .i64 k), (w.heap.size + 1, 1, .int .i64 n), (w.heap.size + 1, 2, .slice A f.len C)] w1) := St.below (l := [(w.heap.size, 0, .int .i64 t), (w.heap.size, 1, .int .i64 a), (w.heap.size + 1, 0, .int .i64 k), (w.heap.size + 1, 1, .int .i64 n), (w.heap.size + 1, 2, .slice A f.len C)]) ⟨(by unfold Sees; go_grown), (by simp [go_sem]), (by simp [go_sem]), (by simp [go_sem]), (by simp [go_sem]), (by simp [go_sem]), trivial⟩ hb
    clear hb
    go_wp2_with fail
    refine (K2.out _ H1.out).mono ?_
    rintro e w' ⟨rfl, rfl⟩
    obtain ⟨sS, s0, s1, s2, s3, s4, _⟩ := H1.out
    go_wp2_with fail
    refine (KA.out _).mono ?_
    rintro e w2 ⟨rfl, hb⟩
    have H2a := St.below H1.out hb
    clear hb s0 s1 s2 s3 s4 sS
    go_wp2_with fail
    refine (K3.out _).mono ?_
    rintro e w3 ⟨rfl, hb⟩
    have H2 := St.below H2a hb
    clear hb H2a
    have H3 := Lib.hid H2
    go_wp2_with fail
    go_ret2
    exact ⟨ret_bi HD.out.1.symm HD.out.2.symm, H2.1⟩
  · have HD := Lib.hid (truth_0 hq1.symm hq2.symm hq3.symm)
    obtain ⟨q5, hq5⟩ : ∃ q5 : Bool, q5 = (ndE f k n).emptyB x := ⟨_, rfl⟩
    rw [← hq5] at HD
    have K5 : Hid (∀ W : World, St w [(w.heap.size, 0, .int .i64 t), (w.heap.size, 1, .int .i64 a), (w.heap.size + 1, 0, .int .i64 k), (w.heap.size + 1, 1, .int .i64 n), (w.heap.size + 1, 2, .slice A f.len C)] W → Calls Try.prog 65 #[.pointer (some ⟨w.heap.size + 1, 0, none⟩), .int .i64 x] W fun e w' => e = .returned (.bool q5) ∧ Below W.heap.size W w') :=
      fun W h => by rw [hq5]; exact l01True_any x (below_atoms hq3.symm).1 (below_atoms hq3.symm).2 (f.nodes + 1) f (Nat.lt_succ_self _) t a k n false A C (w.heap.size + 1) 0 W hv.2.1 (hl.sees h.1) hv.2.2.2.2 hq2.symm h.2.2.2.1 h.2.2.2.2.1 h.2.2.2.2.2.1
    clear hq1 hq2 hq3 hq5 hna hn1 hn8 hv
    go_enter Try.func18, Try.ntmps18
    go_wp2_with fail
    refine (K1.out _ ⟨(by unfold Sees; go_grown), (by simp [go_sem]), (by simp [go_sem]), (by simp [go_sem]), (by simp [go_sem]), (by simp [go_sem]), trivial⟩).mono ?_
    rintro e w1 ⟨rfl, hb⟩
    have H1 : Hid (St w [(w.heap.size, 0, .int .i64 t), (w.heap.size, 1, .int .i64 a), (w.heap.size + 1, 0, .int .i64 k), (w.heap.size + 1, 1, .int .i64 n), (w.heap.size + 1, 2, .slice A f.len C)] w1) := St.below (l := [(w.heap.size, 0, .int .i64 t), (w.heap.size, 1, .int .i64 a), (w.heap.size + 1, 0, .int .i64 k), (w.heap.size + 1, 1, .int .i64 n), (w.heap.size + 1, 2, .slice A f.len C)]) ⟨(by unfold Sees; go_grown), (by simp [go_sem]), (by simp [go_sem]), (by simp [go_sem]), (by simp [go_sem]), (by simp [go_sem]), trivial⟩ hb
    clear hb
    go_wp2_with fail
    refine (K2.out _ H1.out).mono ?_
    rintro e w' ⟨rfl, rfl⟩
    obtain ⟨sS, s0, s1, s2, s3, s4, _⟩ := H1.out
    go_wp2_with fail
    refine (KA.out _).mono ?_
    rintro e w2 ⟨rfl, hb⟩
    have H2a := St.below H1.out hb
    clear hb s0 s1 s2 s3 s4 sS
    go_wp2_with fail
    refine (K3.out _).mono ?_
    rintro e w3 ⟨rfl, hb⟩
    have H2 := St.below H2a hb
    clear hb H2a
    have H3 := Lib.hid H2
    go_wp2_with fail
    refine (K5.out _ H2).mono ?_
    rintro e w3 ⟨rfl, hb⟩
    have B3 := H2.1.below hb
    clear hb
    go_wp2_with fail
    go_ret2
    exact ⟨ret_bi HD.out.1.symm HD.out.2.symm, B3⟩

end Go.Proofs.Ytpoikhilhgijoaa
