/- Contract of spec.EmptyAt. -/
import Derived.Test.YtpoikhilhgijoaaEmpS
import Derived.Test.YtpoikhilhgijoaaOk
namespace Go.Proofs.Ytpoikhilhgijoaa
open Go.RowKit

/-- What EmptyAt answers. -/
def emptyAtB (t a k n : Int) (f : Fo) (x : Int) : Bool := if validE t a k n f = true ∧ belowB x (atomsN t) = true then (ndE f k n).emptyB x else false
def emptyAtC (t a k n : Int) (f : Fo) (x : Int) : Int := if validE t a k n f = false then 1 else if belowB x (atomsN t) = false then 2 else 0
theorem empty_1 {t a k n : Int} {f : Fo} {x : Int} (h : validE t a k n f = false) : emptyAtB t a k n f x = false ∧ emptyAtC t a k n f x = 1 := by
  unfold emptyAtB emptyAtC; rw [h]; simp
theorem empty_2 {t a k n : Int} {f : Fo} {x : Int} (h : validE t a k n f = true) (h3 : belowB x (atomsN t) = false) : emptyAtB t a k n f x = false ∧ emptyAtC t a k n f x = 2 := by
  unfold emptyAtB emptyAtC; rw [h, h3]; simp
theorem empty_0 {t a k n : Int} {f : Fo} {x : Int} (h : validE t a k n f = true) (h3 : belowB x (atomsN t) = true) : emptyAtB t a k n f x = (ndE f k n).emptyB x ∧ emptyAtC t a k n f x = 0 := by
  unfold emptyAtB emptyAtC; rw [h, h3]; simp

set_option maxRecDepth 100000 in
set_option maxHeartbeats 2000000 in
theorem specEmptyAt_any (t a k n : Int) (f : Fo) (_hm : f.len ≤ 9223372036854775807) (hf : f.Fits) (h0 : f.nodes ≤ 1048576) (x : Int) (_wx : (Lit.int .i64 x).wf = true) (A : Option Addr) (C : Nat) (w : World) (hl : f.Lies w A) :
    Calls Try.prog 13 #[.agg #[.int .i64 t, .int .i64 a], .agg #[.int .i64 k, .int .i64 n, .slice A f.len C], .int .i64 x] w fun e w' => e = .returned (.tuple #[.bool (emptyAtB t a k n f x), .int .i64 (emptyAtC t a k n f x)]) ∧ Below w.heap.size w w' := by
  obtain ⟨q1, hq1⟩ : ∃ q1 : Bool, q1 = validE t a k n f := ⟨_, rfl⟩
  have K1 : Hid (∀ W : World, St w [(w.heap.size, 0, .int .i64 t), (w.heap.size, 1, .int .i64 a), (w.heap.size + 1, 0, .int .i64 k), (w.heap.size + 1, 1, .int .i64 n), (w.heap.size + 1, 2, .slice A f.len C)] W → Calls Try.prog 52 #[.agg #[.int .i64 t, .int .i64 a], .pointer (some ⟨w.heap.size + 1, 0, none⟩)] W fun e w' => e = .returned (.bool q1) ∧ Below W.heap.size W w') :=
    fun W h => by rw [hq1]; exact l01Ok_any f h0 hf t a k n A C (w.heap.size + 1) 0 W (hl.sees h.1) h.2.2.2.1 h.2.2.2.2.1 h.2.2.2.2.2.1
  cases q1
  · have HD := Lib.hid (empty_1 (x := x) hq1.symm)
    clear hq1
    go_enter Try.func13, Try.ntmps13
    go_wp2_with fail
    refine (K1.out _ ⟨(by unfold Sees; go_grown), (by simp [go_sem]), (by simp [go_sem]), (by simp [go_sem]), (by simp [go_sem]), (by simp [go_sem]), trivial⟩).mono ?_
    rintro e w1 ⟨rfl, hb⟩
    have H1 : Hid (St w [(w.heap.size, 0, .int .i64 t), (w.heap.size, 1, .int .i64 a), (w.heap.size + 1, 0, .int .i64 k), (w.heap.size + 1, 1, .int .i64 n), (w.heap.size + 1, 2, .slice A f.len C)] w1) := St.below (l := [(w.heap.size, 0, .int .i64 t), (w.heap.size, 1, .int .i64 a), (w.heap.size + 1, 0, .int .i64 k), (w.heap.size + 1, 1, .int .i64 n), (w.heap.size + 1, 2, .slice A f.len C)]) ⟨(by unfold Sees; go_grown), (by simp [go_sem]), (by simp [go_sem]), (by simp [go_sem]), (by simp [go_sem]), (by simp [go_sem]), trivial⟩ hb
    clear hb
    obtain ⟨sS, s0, s1, s2, s3, s4, _⟩ := H1.out
    go_wp2_with fail
    go_ret2
    exact ⟨ret_bi HD.out.1.symm HD.out.2.symm, sS⟩
  have hv := validE_parts hq1.symm
  obtain ⟨na, hna, hn1, hn8⟩ : ∃ na : Int, na = atomsN t ∧ 1 ≤ na ∧ na ≤ 8 := ⟨_, rfl, (atomsN_bd t).1, (atomsN_bd t).2⟩
  obtain ⟨q3, hq3⟩ : ∃ q3 : Bool, q3 = belowB x (atomsN t) := ⟨_, rfl⟩
  have K3 : Hid (∀ W : World, Calls Try.prog 53 #[.agg #[.int .i64 t, .int .i64 a], .int .i64 x] W fun e w' => e = .returned (.bool q3) ∧ Below W.heap.size W w') := fun W => by rw [hq3]; exact l02Atom_any t a x W hv.1 hv.2.1
  cases q3
  · have HD := Lib.hid (empty_2 hq1.symm hq3.symm)
    clear hq1 hq3 hna hn1 hn8 hv
    go_enter Try.func13, Try.ntmps13
    go_wp2_with fail
    refine (K1.out _ ⟨(by unfold Sees; go_grown), (by simp [go_sem]), (by simp [go_sem]), (by simp [go_sem]), (by simp [go_sem]), (by simp [go_sem]), trivial⟩).mono ?_
    rintro e w1 ⟨rfl, hb⟩
    have H1 : Hid (St w [(w.heap.size, 0, .int .i64 t), (w.heap.size, 1, .int .i64 a), (w.heap.size + 1, 0, .int .i64 k), (w.heap.size + 1, 1, .int .i64 n), (w.heap.size + 1, 2, .slice A f.len C)] w1) := St.below (l := [(w.heap.size, 0, .int .i64 t), (w.heap.size, 1, .int .i64 a), (w.heap.size + 1, 0, .int .i64 k), (w.heap.size + 1, 1, .int .i64 n), (w.heap.size + 1, 2, .slice A f.len C)]) ⟨(by unfold Sees; go_grown), (by simp [go_sem]), (by simp [go_sem]), (by simp [go_sem]), (by simp [go_sem]), (by simp [go_sem]), trivial⟩ hb
    clear hb
    obtain ⟨sS, s0, s1, s2, s3, s4, _⟩ := H1.out
    go_wp2_with fail
    refine (K3.out _).mono ?_
    rintro e w3 ⟨rfl, hb⟩
    have H4 := St.below H1.out hb
    clear hb s0 s1 s2 s3 s4 sS H1
    obtain ⟨sS, s0, s1, s2, s3, s4, _⟩ := H4
    go_wp2_with fail
    go_ret2
    exact ⟨ret_bi HD.out.1.symm HD.out.2.symm, sS⟩
  · have HD := Lib.hid (empty_0 hq1.symm hq3.symm)
    obtain ⟨q5, hq5⟩ : ∃ q5 : Bool, q5 = (ndE f k n).emptyB x := ⟨_, rfl⟩
    rw [← hq5] at HD
    have K5 : Hid (∀ W : World, St w [(w.heap.size, 0, .int .i64 t), (w.heap.size, 1, .int .i64 a), (w.heap.size + 1, 0, .int .i64 k), (w.heap.size + 1, 1, .int .i64 n), (w.heap.size + 1, 2, .slice A f.len C)] W → Calls Try.prog 54 #[.pointer (some ⟨w.heap.size + 1, 0, none⟩), .int .i64 x] W fun e w' => e = .returned (.bool q5) ∧ Below W.heap.size W w') :=
      fun W h => by rw [hq5]; exact l02Empty_any x (below_atoms hq3.symm).1 (below_atoms hq3.symm).2 (f.nodes + 1) f (Nat.lt_succ_self _) t a k n false A C (w.heap.size + 1) 0 W hv.2.1 (hl.sees h.1) hv.2.2.2.2 h.2.2.2.1 h.2.2.2.2.1 h.2.2.2.2.2.1
    clear hq1 hq3 hq5 hna hn1 hn8 hv
    go_enter Try.func13, Try.ntmps13
    go_wp2_with fail
    refine (K1.out _ ⟨(by unfold Sees; go_grown), (by simp [go_sem]), (by simp [go_sem]), (by simp [go_sem]), (by simp [go_sem]), (by simp [go_sem]), trivial⟩).mono ?_
    rintro e w1 ⟨rfl, hb⟩
    have H1 : Hid (St w [(w.heap.size, 0, .int .i64 t), (w.heap.size, 1, .int .i64 a), (w.heap.size + 1, 0, .int .i64 k), (w.heap.size + 1, 1, .int .i64 n), (w.heap.size + 1, 2, .slice A f.len C)] w1) := St.below (l := [(w.heap.size, 0, .int .i64 t), (w.heap.size, 1, .int .i64 a), (w.heap.size + 1, 0, .int .i64 k), (w.heap.size + 1, 1, .int .i64 n), (w.heap.size + 1, 2, .slice A f.len C)]) ⟨(by unfold Sees; go_grown), (by simp [go_sem]), (by simp [go_sem]), (by simp [go_sem]), (by simp [go_sem]), (by simp [go_sem]), trivial⟩ hb
    clear hb
    obtain ⟨sS, s0, s1, s2, s3, s4, _⟩ := H1.out
    go_wp2_with fail
    refine (K3.out _).mono ?_
    rintro e w3 ⟨rfl, hb⟩
    have H4 := St.below H1.out hb
    clear hb s0 s1 s2 s3 s4 sS H1
    obtain ⟨sS, s0, s1, s2, s3, s4, _⟩ := H4
    go_wp2_with fail
    refine (K5.out _ ⟨sS, s0, s1, s2, s3, s4, trivial⟩).mono ?_
    rintro e w6 ⟨rfl, hb⟩
    have B6 := sS.below hb
    clear hb
    go_wp2_with fail
    go_ret2
    exact ⟨ret_bi HD.out.1.symm HD.out.2.symm, B6⟩

end Go.Proofs.Ytpoikhilhgijoaa
