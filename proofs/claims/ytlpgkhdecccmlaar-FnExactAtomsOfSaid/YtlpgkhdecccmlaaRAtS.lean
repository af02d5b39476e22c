/- Contracts of spec.l07Atoms, spec.AtomsOf. -/
import Derived.Test.YtlpgkhdecccmlaaRAtD
import Derived.Test.YtlpgkhdecccmlaaROneI
import Derived.Test.YtlpgkhdecccmlaaRTruthS
import Derived.Test.YtlpgkhdecccmlaaROk
import Derived.Test.YtlpgkhdecccmlaaRCondI
import Derived.WalkSpells
namespace Go.Proofs.YtlpgkhdecccmlaaR
open Go.RowKit

set_option maxRecDepth 100000 in
set_option maxHeartbeats 2000000 in
theorem l07Atoms_any (t a : Int) (h0 : 0 ≤ t) (h1 : t ≤ 3) (pb : Addr) (G : Nat → Bool) (w : World)
    (KB : ∀ (W : World) (j : Nat), Sees w W → j < atomsNat t → Calls Try.prog 127 #[.pointer (some pb), .int .i64 (j : Int)] W fun e w' => e = .returned (.bool (G j)) ∧ Below W.heap.size W w') :
    Calls Try.prog 62 #[.agg #[.int .i64 t, .int .i64 a], .pointer (some pb)] w fun e w' => ∃ A C, e = .returned (.slice A (pickA G (atomsNat t)).length C) ∧ IntsIn w' (pickA G (atomsNat t)) w.heap.size w'.heap.size A ∧ Below w.heap.size w w' := by
  obtain ⟨m, hm⟩ : ∃ m, m = atomsNat t := ⟨_, rfl⟩
  have hm8 : 1 ≤ m ∧ m ≤ 8 := by rw [hm]; exact atomsNat_bd t
  have KA : Hid (∀ W : World, Calls Try.prog 72 #[.agg #[.int .i64 t, .int .i64 a]] W fun e w' => e = .returned (.int .i64 (m : Int)) ∧ Below W.heap.size W w') := fun W => by rw [hm, atomsNat_cast]; exact atoms_any t a W h0 h1
  have HB := Lib.hid KB
  rw [← hm] at HB ⊢
  clear hm KB h0 h1
  obtain ⟨W0, hW0⟩ : ∃ W0, W0 = w.alloc (.cells #[.int .i64 t, .int .i64 a] 31) := ⟨_, rfl⟩
  have g0 : W0.cell? ⟨w.heap.size, 0, none⟩ = some (.int .i64 t) := by rw [hW0]; simp [go_sem]
  have g1 : W0.cell? ⟨w.heap.size, 1, none⟩ = some (.int .i64 a) := by rw [hW0]; simp [go_sem]
  have hz0 : W0.heap.size = w.heap.size + 1 := by rw [hW0]; simp
  have HW : Hid (Sees w W0) := by show Sees _ _; rw [hW0]; exact (Sees.refl w).alloc _
  go_enter Try.func62, Try.ntmps62
  go_wp2_with fail
  rw [← hW0]
  clear hW0
  have HG0 := Lib.hid g0; have HG1 := Lib.hid g1; have HZ0 := Lib.hid hz0
  clear g0 g1 hz0
  go_loopw [5, 6] (fun v i wr => ∃ j : Nat, j ≤ m ∧ i = .int .i64 j ∧ Hid (OwnI wr W0.heap.size v (pickA G j)) ∧ Hid (Sees W0 wr)) (fun _ i _ => m - (intOf i).toNat)
  case atStart => exact ⟨0, Nat.zero_le _, rfl, by show OwnI _ _ _ _; rw [← HZ0.out]; simpa [OwnI, encs, pickA] using World.ownsRow_made (e := 2) (size := 1) W0 #[] 0 (Nat.le_refl _) (Nat.zero_le _) rfl, (Sees.refl W0).alloc _⟩
  case round =>
    obtain ⟨j, hj, rfl, hO, hS⟩ := hrel
    have y0 := kc hS.out HG0.out; have y1 := kc hS.out HG1.out
    have wj : IntKind.i64.wrap ((j : Int) + 1) = (j : Int) + 1 := IntWalk.i64_in _ (by omega)
    go_wp2_with fail
    refine (KA.out _).mono ?_
    rintro e w1 ⟨rfl, hb1⟩
    have hS1 := Lib.hid (Sees.below hS.out hb1)
    have hO1 := Lib.hid (hO.out.below hb1)
    clear hb1 y0 y1 hS hO
    by_cases hjl : j < m
    · have K1 := Lib.hid (HB.out w1 j (Sees.below HW.out hS1.out) hjl)
      obtain ⟨q, hq⟩ : ∃ q : Bool, q = G j := ⟨_, rfl⟩
      rw [← hq] at K1
      have tj : decide ((j : Int) < (m : Int)) = true := decide_eq_true (by omega)
      have hjm := Lib.hid hjl
      have hln : Hid ((pickA G j).length < 4194304) := by have := pickA_len G j; show _ < _; omega
      clear hjl
      cases q
      · have hP : Hid (pickA G (j + 1) = pickA G j) := pickA_no hq.symm
        clear hq
        go_wp2_with fail
        refine K1.out.mono ?_
        rintro e w2 ⟨rfl, hb1⟩
        have hS2 := Lib.hid (Sees.below hS1.out hb1)
        have hO2 := Lib.hid (show OwnI w2 W0.heap.size _ (pickA G (j + 1)) by rw [hP.out]; exact hO1.out.below hb1)
        clear hb1
        go_wp2_with fail
        go_roundw
        case rel => exact ⟨j + 1, by have := hjm.out; omega, by go_num, hO2, hS2⟩
        case measure => (have := hjm.out; simp [intOf]; omega)
      · have hP : Hid (pickA G (j + 1) = pickA G j ++ [(j : Int)]) := pickA_yes hq.symm
        clear hq
        go_wp2_with fail
        refine K1.out.mono ?_
        rintro e w2 ⟨rfl, hb1⟩
        have hS2 := Lib.hid (Sees.below hS1.out hb1)
        have hO2 := Lib.hid (hO1.out.below hb1)
        clear hb1
        have hsz := hS2.out.size
        go_wp2_with (at_builtin; refine wpList_append_one w2 (by rfl) _ _ (by rfl) W0.heap.size _ (pickA G j) (j : Int) (by rfl) (by rfl) hO2.out hln.out hsz (by rfl) ?_)
        intro v' w3 hO3 hB3
        have hO4 : Hid (OwnI w3 W0.heap.size v' (pickA G (j + 1))) := by show OwnI _ _ _ _; rw [hP.out]; exact hO3
        have hS4 : Hid (Sees W0 w3) := hB3 W0 rfl hS2.out
        clear hO3 hB3
        go_wp2_with fail
        go_roundw
        case rel => exact ⟨j + 1, by have := hjm.out; omega, by go_num, hO4, hS4⟩
        case measure => (have := hjm.out; simp [intOf]; omega)
    · obtain rfl : j = m := by omega
      have tj : decide ((j : Int) < (j : Int)) = false := decide_eq_false (by omega)
      obtain ⟨A, C, hv, hI⟩ := hO1.out.ints hS1.out.size
      subst hv
      have hI := Lib.hid (hI.mono HW.out.size (Nat.le_refl _))
      have hb := Lib.hid (Sees.below HW.out hS1.out)
      clear hjl wj
      go_wp2_with fail
      go_ret
      exact ⟨A, C, rfl, hI.out, hb.out⟩

set_option maxRecDepth 100000 in
set_option maxHeartbeats 4000000 in
theorem specAtomsOf_any (t a k n : Int) (f : Fo) (hf : f.Fits) (hm : f.nodes ≤ 1048576) (A : Option Addr) (C : Nat) (w : World) (hl : f.Lies w A) :
    Calls Try.prog 13 #[.agg #[.int .i64 t, .int .i64 a], .agg #[.int .i64 k, .int .i64 n, .slice A f.len C]] w (IEnd (atR t a k n f) (atC t a k n f) w) := by
  obtain ⟨R, hR⟩ : ∃ R, R = atR t a k n f := ⟨_, rfl⟩
  obtain ⟨c, hc⟩ : ∃ c, c = atC t a k n f := ⟨_, rfl⟩
  obtain ⟨q1, hq1⟩ : ∃ q : Bool, q = validE t a k n f := ⟨_, rfl⟩
  obtain ⟨c1, hc1⟩ : ∃ q : Bool, q = (condK k && f.cond) := ⟨_, rfl⟩
  have K1 : Hid (∀ W : World, St w [(w.heap.size, 0, .int .i64 t), (w.heap.size, 1, .int .i64 a), (w.heap.size + 1, 0, .int .i64 k), (w.heap.size + 1, 1, .int .i64 n), (w.heap.size + 1, 2, .slice A f.len C)] W → Calls Try.prog 60 #[.agg #[.int .i64 t, .int .i64 a], .pointer (some ⟨w.heap.size + 1, 0, none⟩)] W fun e w' => e = .returned (.bool q1) ∧ Below W.heap.size W w') := fun W h => by
    obtain ⟨hS, _, _, h2, h3, h4, _⟩ := h
    rw [hq1]; exact l01Ok_any f hm hf t a k n A C _ 0 W (hl.sees hS) h2 h3 h4
  have K3 : Hid (∀ W : World, St w [(w.heap.size, 0, .int .i64 t), (w.heap.size, 1, .int .i64 a), (w.heap.size + 1, 0, .int .i64 k), (w.heap.size + 1, 1, .int .i64 n), (w.heap.size + 1, 2, .slice A f.len C)] W → Calls Try.prog 61 #[.pointer (some ⟨w.heap.size + 1, 0, none⟩)] W fun e w' => e = .returned (.bool c1) ∧ Below W.heap.size W w') := fun W h => by
    obtain ⟨hS, _, _, h2, _, h4, _⟩ := h
    rw [hc1]; exact (l01Condition_any (f.nodes + 1) f (Nat.lt_succ_self _) (Nat.le_trans f.len_le_nodes (by omega)) hf k A C _ 0 W (hl.sees hS) h2 h4).mono fun e w' ⟨he, hw⟩ => ⟨he, by rw [← hw]; exact Below.refl _ _⟩
  rw [← hR, ← hc]
  cases q1
  · have HD := Lib.hid (show R = [] ∧ c = 1 by rw [hR, hc]; exact at_1 hq1.symm)
    clear hq1 hc1 hR hc
    go_enter Try.func13, Try.ntmps13
    go_wp2_with fail
    refine (K1.out _ ⟨(by unfold Sees; go_grown), (by simp [go_sem]), (by simp [go_sem]), (by simp [go_sem]), (by simp [go_sem]), (by simp [go_sem]), trivial⟩).mono ?_
    rintro e w1 ⟨rfl, hb⟩
    have H1 : Hid (St w [(w.heap.size, 0, .int .i64 t), (w.heap.size, 1, .int .i64 a), (w.heap.size + 1, 0, .int .i64 k), (w.heap.size + 1, 1, .int .i64 n), (w.heap.size + 1, 2, .slice A f.len C)] w1) := St.below (l := [(w.heap.size, 0, .int .i64 t), (w.heap.size, 1, .int .i64 a), (w.heap.size + 1, 0, .int .i64 k), (w.heap.size + 1, 1, .int .i64 n), (w.heap.size + 1, 2, .slice A f.len C)]) ⟨(by unfold Sees; go_grown), (by simp [go_sem]), (by simp [go_sem]), (by simp [go_sem]), (by simp [go_sem]), (by simp [go_sem]), trivial⟩ hb
    clear hb
    obtain ⟨sS, s0, s1, s2, s3, s4, _⟩ := H1.out
    go_wp2_with fail
    go_ret2
    exact iend_nil HD.out (Below.alloc sS sS.size _)
  cases c1
  · have HD := Lib.hid (show R = [] ∧ c = 4 by rw [hR, hc]; exact at_4 hq1.symm hc1.symm)
    clear hq1 hc1 hR hc
    go_enter Try.func13, Try.ntmps13
    go_wp2_with fail
    refine (K1.out _ ⟨(by unfold Sees; go_grown), (by simp [go_sem]), (by simp [go_sem]), (by simp [go_sem]), (by simp [go_sem]), (by simp [go_sem]), trivial⟩).mono ?_
    rintro e w1 ⟨rfl, hb⟩
    have H1 : Hid (St w [(w.heap.size, 0, .int .i64 t), (w.heap.size, 1, .int .i64 a), (w.heap.size + 1, 0, .int .i64 k), (w.heap.size + 1, 1, .int .i64 n), (w.heap.size + 1, 2, .slice A f.len C)] w1) := St.below (l := [(w.heap.size, 0, .int .i64 t), (w.heap.size, 1, .int .i64 a), (w.heap.size + 1, 0, .int .i64 k), (w.heap.size + 1, 1, .int .i64 n), (w.heap.size + 1, 2, .slice A f.len C)]) ⟨(by unfold Sees; go_grown), (by simp [go_sem]), (by simp [go_sem]), (by simp [go_sem]), (by simp [go_sem]), (by simp [go_sem]), trivial⟩ hb
    clear hb
    obtain ⟨sS, s0, s1, s2, s3, s4, _⟩ := H1.out
    go_wp2_with fail
    refine (K3.out _ ⟨sS, s0, s1, s2, s3, s4, trivial⟩).mono ?_
    rintro e w2 ⟨rfl, hb⟩
    have H2 := Lib.hid (St.below H1.out hb)
    clear hb sS s0 s1 s2 s3 s4
    obtain ⟨sS, s0, s1, s2, s3, s4, _⟩ := H2.out
    go_wp2_with fail
    go_ret2
    exact iend_nil HD.out (Below.alloc sS sS.size _)
  obtain ⟨P, hP⟩ : ∃ P : List Int, P = pickA (fun i : Nat => (ndE f k n).emptyB (i : Int)) (atomsNat t) := ⟨_, rfl⟩
  have HD := Lib.hid (show R = P ∧ c = 0 by rw [hR, hc, hP]; exact at_0 hq1.symm hc1.symm)
  have hv := validE_parts hq1.symm
  have K5 : Hid (∀ W : World, St w [(w.heap.size, 0, .int .i64 t), (w.heap.size, 1, .int .i64 a), (w.heap.size + 1, 0, .int .i64 k), (w.heap.size + 1, 1, .int .i64 n), (w.heap.size + 1, 2, .slice A f.len C)] W → Calls Try.prog 62 #[.agg #[.int .i64 t, .int .i64 a], .pointer (some ⟨w.heap.size + 1, 0, none⟩)] W fun e w' => ∃ A C, e = .returned (.slice A P.length C) ∧ IntsIn w' P W.heap.size w'.heap.size A ∧ Below W.heap.size W w') := fun W h => by
    obtain ⟨hS, _, _, h2, h3, h4, _⟩ := h
    rw [hP]
    exact l07Atoms_any t a hv.1 hv.2.1 _ (fun i => (ndE f k n).emptyB (i : Int)) W
      (fun W2 j s hj => l01True_any j (Int.natCast_nonneg _) (by have := (atomsNat_bd t).2; omega) (f.nodes + 1) f (Nat.lt_succ_self _) t a k n false A C _ 0 W2 hv.2.1 (hl.sees (hS.below s)) hv.2.2.2.2 hc1.symm (kc s h2) (kc s h3) (kc s h4))
  clear hq1 hc1 hv hR hc hP
  go_enter Try.func13, Try.ntmps13
  go_wp2_with fail
  refine (K1.out _ ⟨(by unfold Sees; go_grown), (by simp [go_sem]), (by simp [go_sem]), (by simp [go_sem]), (by simp [go_sem]), (by simp [go_sem]), trivial⟩).mono ?_
  rintro e w1 ⟨rfl, hb⟩
  have H1 : Hid (St w [(w.heap.size, 0, .int .i64 t), (w.heap.size, 1, .int .i64 a), (w.heap.size + 1, 0, .int .i64 k), (w.heap.size + 1, 1, .int .i64 n), (w.heap.size + 1, 2, .slice A f.len C)] w1) := St.below (l := [(w.heap.size, 0, .int .i64 t), (w.heap.size, 1, .int .i64 a), (w.heap.size + 1, 0, .int .i64 k), (w.heap.size + 1, 1, .int .i64 n), (w.heap.size + 1, 2, .slice A f.len C)]) ⟨(by unfold Sees; go_grown), (by simp [go_sem]), (by simp [go_sem]), (by simp [go_sem]), (by simp [go_sem]), (by simp [go_sem]), trivial⟩ hb
  clear hb
  obtain ⟨sS, s0, s1, s2, s3, s4, _⟩ := H1.out
  go_wp2_with fail
  refine (K3.out _ ⟨sS, s0, s1, s2, s3, s4, trivial⟩).mono ?_
  rintro e w2 ⟨rfl, hb⟩
  have H2 := Lib.hid (St.below H1.out hb)
  clear hb sS s0 s1 s2 s3 s4
  obtain ⟨sS, s0, s1, s2, s3, s4, _⟩ := H2.out
  go_wp2_with fail
  refine (K5.out _ ⟨sS, s0, s1, s2, s3, s4, trivial⟩).mono ?_
  rintro e w3 ⟨Z, D, rfl, hI, hb⟩
  have hI2 := Lib.hid (hI.mono sS.size (Nat.le_refl _))
  have hS3 := Lib.hid (Sees.below sS hb)
  clear hb hI sS s0 s1 s2 s3 s4
  go_wp2_with fail
  go_ret2
  exact iend_of HD.out hI2.out hS3.out
end Go.Proofs.YtlpgkhdecccmlaaR
