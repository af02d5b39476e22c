/- What Implies answers; contracts of spec.l07Implies, spec.Implies. -/
import Derived.Test.YtpoikhilhgijoaaSet8D
import Derived.Test.YtpoikhilhgijoaaTruthS
import Derived.Test.YtpoikhilhgijoaaOk
import Derived.Test.YtpoikhilhgijoaaCondI
namespace Go.Proofs.Ytpoikhilhgijoaa
open Go.RowKit

/-- What Implies answers. -/
def impB (t a k n : Int) (f : Fo) (k' n' : Int) (f' : Fo) : Bool := ((validE t a k n f && validE t a k' n' f') && ((condK k && f.cond) && (condK k' && f'.cond))) && (List.range (atomsNat t)).all (fun i => !((ndE f k n).emptyB (i : Int)) || (ndE f' k' n').emptyB (i : Int))
def impC (t a k n : Int) (f : Fo) (k' n' : Int) (f' : Fo) : Int := if (validE t a k n f && validE t a k' n' f') = false then 1 else if ((condK k && f.cond) && (condK k' && f'.cond)) = false then 4 else 0
section
variable {t a k n : Int} {f : Fo} {k' n' : Int} {f' : Fo}
theorem imp_1 (h : (validE t a k n f && validE t a k' n' f') = false) : impB t a k n f k' n' f' = false ∧ impC t a k n f k' n' f' = 1 := by
  unfold impB impC
  rw [h, if_pos rfl]
  exact ⟨rfl, rfl⟩
theorem imp_4 (h1 : (validE t a k n f && validE t a k' n' f') = true) (h : ((condK k && f.cond) && (condK k' && f'.cond)) = false) : impB t a k n f k' n' f' = false ∧ impC t a k n f k' n' f' = 4 := by
  unfold impB impC
  rw [h1, h, if_neg (by simp), if_pos rfl]
  exact ⟨rfl, rfl⟩
theorem imp_0 (h1 : (validE t a k n f && validE t a k' n' f') = true) (h2 : ((condK k && f.cond) && (condK k' && f'.cond)) = true) :
    impB t a k n f k' n' f' = (List.range (atomsNat t)).all (fun i => !((ndE f k n).emptyB (i : Int)) || (ndE f' k' n').emptyB (i : Int)) ∧ impC t a k n f k' n' f' = 0 := by
  unfold impB impC
  rw [h1, h2, if_neg (by simp), if_neg (by simp)]
  exact ⟨rfl, rfl⟩
end

set_option maxRecDepth 100000 in
set_option maxHeartbeats 2000000 in
theorem l07Implies_any (t a : Int) (h0 : 0 ≤ t) (h1 : t ≤ 3) (pb pc : Addr) (G H : Nat → Bool) (w : World)
    (KB : ∀ (W : World) (j : Nat), Sees w W → j < atomsNat t → Calls Try.prog 65 #[.pointer (some pb), .int .i64 (j : Int)] W fun e w' => e = .returned (.bool (G j)) ∧ Below W.heap.size W w')
    (KC : ∀ (W : World) (j : Nat), Sees w W → j < atomsNat t → Calls Try.prog 65 #[.pointer (some pc), .int .i64 (j : Int)] W fun e w' => e = .returned (.bool (H j)) ∧ Below W.heap.size W w') :
    Calls Try.prog 79 #[.agg #[.int .i64 t, .int .i64 a], .pointer (some pb), .pointer (some pc)] w fun e w' => e = .returned (.bool ((List.range (atomsNat t)).all (fun i => !(G i) || H i))) ∧ Below w.heap.size w w' := by
  obtain ⟨m, hm⟩ : ∃ m, m = atomsNat t := ⟨_, rfl⟩
  have hm8 : 1 ≤ m ∧ m ≤ 8 := by rw [hm]; exact atomsNat_bd t
  have KA : Hid (∀ W : World, Calls Try.prog 64 #[.agg #[.int .i64 t, .int .i64 a]] W fun e w' => e = .returned (.int .i64 (m : Int)) ∧ Below W.heap.size W w') := fun W => by rw [hm, atomsNat_cast]; exact atoms_any t a W h0 h1
  have HB := Lib.hid KB; have HC := Lib.hid KC
  rw [← hm] at HB HC ⊢
  clear hm KB KC h0 h1
  have HS0 : Hid (St w [(w.heap.size, 0, .int .i64 t), (w.heap.size, 1, .int .i64 a)] (w.alloc (.cells #[.int .i64 t, .int .i64 a] 30))) := ⟨(Sees.refl w).alloc _, (by simp [go_sem]), (by simp [go_sem]), trivial⟩
  have hA0 : Hid ((List.range 0).all (fun i => !(G i) || H i) = true) := rfl
  go_enter Try.func79, Try.ntmps79
  go_wp2_with fail
  go_loopw [7] (fun i wr => ∃ j : Nat, j ≤ m ∧ i = .int .i64 j ∧ Hid ((List.range j).all (fun i => !(G i) || H i) = true) ∧ Hid (St w [(w.heap.size, 0, .int .i64 t), (w.heap.size, 1, .int .i64 a)] wr)) (fun i _ => m - (intOf i).toNat)
  case atStart => exact ⟨0, Nat.zero_le _, rfl, hA0, HS0⟩
  case round =>
    obtain ⟨j, hj, rfl, hA, hS⟩ := hrel
    clear HS0 hA0
    obtain ⟨hb, y0, y1, _⟩ := hS.out
    have wj : IntKind.i64.wrap ((j : Int) + 1) = (j : Int) + 1 := IntWalk.i64_in _ (by omega)
    go_wp2_with fail
    refine (KA.out _).mono ?_
    rintro e w1 ⟨rfl, hb1⟩
    have hS1 := Lib.hid (St.below hS.out hb1)
    clear hb hb1 y0 y1 hS
    obtain ⟨hb, y0, y1, _⟩ := hS1.out
    by_cases hjl : j < m
    · have K1 := Lib.hid (HB.out w1 j hb hjl)
      obtain ⟨q, hq⟩ : ∃ q : Bool, q = G j := ⟨_, rfl⟩
      obtain ⟨r, hr⟩ : ∃ r : Bool, r = H j := ⟨_, rfl⟩
      rw [← hq] at K1
      have tj : decide ((j : Int) < (m : Int)) = true := decide_eq_true (by omega)
      have K2 : Hid (∀ W : World, Sees w W → Calls Try.prog 65 #[.pointer (some pc), .int .i64 (j : Int)] W fun e w' => e = .returned (.bool r) ∧ Below W.heap.size W w') := fun W h => by rw [hr]; exact HC.out W j h hjl
      have hG : Hid ((!q || r) = true → (List.range (j + 1)).all (fun i => !(G i) || H i) = true) := fun h => range_all_step hA.out (by rw [← hq, ← hr]; exact h)
      have hN : Hid ((!q || r) = false → (List.range m).all (fun i => !(G i) || H i) = false) := fun h => range_all_no hjl (by rw [← hq, ← hr]; exact h)
      have hjm := Lib.hid hjl
      clear hq hr hjl
      cases q
      · go_wp2_with fail
        refine K1.out.mono ?_
        rintro e w2 ⟨rfl, hb1⟩
        have hS2 := Lib.hid (St.below hS1.out hb1)
        clear hb hb1 y0 y1
        obtain ⟨hb, y0, y1, _⟩ := hS2.out
        go_wp2_with fail
        go_roundw
        case rel => exact ⟨j + 1, by have := hjm.out; omega, by go_num, hG.out rfl, hS2⟩
        case measure => (have := hjm.out; simp [intOf]; omega)
      · cases r
        · have HE := Lib.hid (hN.out rfl)
          go_wp2_with fail
          refine K1.out.mono ?_
          rintro e w2 ⟨rfl, hb1⟩
          have hb2 := Sees.below hb hb1
          clear hb hb1 y0 y1
          go_wp2_with fail
          refine (K2.out _ hb2).mono ?_
          rintro e w3 ⟨rfl, hb1⟩
          have hb3 := Sees.below hb2 hb1
          clear hb2 hb1
          go_wp2_with fail
          go_ret
          exact ⟨ret_bool HE.out.symm, hb3⟩
        · go_wp2_with fail
          refine K1.out.mono ?_
          rintro e w2 ⟨rfl, hb1⟩
          have hS2 := Lib.hid (St.below hS1.out hb1)
          clear hb hb1 y0 y1
          obtain ⟨hb, y0, y1, _⟩ := hS2.out
          go_wp2_with fail
          refine (K2.out _ hb).mono ?_
          rintro e w3 ⟨rfl, hb1⟩
          have hS3 := Lib.hid (St.below hS2.out hb1)
          clear hb hb1 y0 y1
          obtain ⟨hb, y0, y1, _⟩ := hS3.out
          go_wp2_with fail
          go_roundw
          case rel => exact ⟨j + 1, by have := hjm.out; omega, by go_num, hG.out rfl, hS3⟩
          case measure => (have := hjm.out; simp [intOf]; omega)
    · obtain rfl : j = m := by omega
      have tj : decide ((j : Int) < (j : Int)) = false := decide_eq_false (by omega)
      clear hjl wj
      go_wp2_with fail
      go_ret
      exact ⟨ret_bool hA.out.symm, hb⟩

set_option maxRecDepth 100000 in
set_option maxHeartbeats 4000000 in
theorem specImplies_any (t a k n : Int) (f : Fo) (k' n' : Int) (f' : Fo) (hf : f.Fits) (hf' : f'.Fits) (hm : f.nodes ≤ 1048576) (hm' : f'.nodes ≤ 1048576) (A B : Option Addr) (C D : Nat) (w : World) (hl : f.Lies w A) (hl' : f'.Lies w B) :
    Calls Try.prog 30 #[.agg #[.int .i64 t, .int .i64 a], .agg #[.int .i64 k, .int .i64 n, .slice A f.len C], .agg #[.int .i64 k', .int .i64 n', .slice B f'.len D]] w fun e w' => e = .returned (.tuple #[.bool (impB t a k n f k' n' f'), .int .i64 (impC t a k n f k' n' f')]) ∧ Below w.heap.size w w' := by
  obtain ⟨q1, hq1⟩ : ∃ q : Bool, q = validE t a k n f := ⟨_, rfl⟩
  obtain ⟨q2, hq2⟩ : ∃ q : Bool, q = validE t a k' n' f' := ⟨_, rfl⟩
  obtain ⟨c1, hc1⟩ : ∃ q : Bool, q = (condK k && f.cond) := ⟨_, rfl⟩
  obtain ⟨c2, hc2⟩ : ∃ q : Bool, q = (condK k' && f'.cond) := ⟨_, rfl⟩
  have K1 : Hid (∀ W : World, St w [(w.heap.size, 0, .int .i64 t), (w.heap.size, 1, .int .i64 a), (w.heap.size + 1, 0, .int .i64 k), (w.heap.size + 1, 1, .int .i64 n), (w.heap.size + 1, 2, .slice A f.len C), (w.heap.size + 1 + 1, 0, .int .i64 k'), (w.heap.size + 1 + 1, 1, .int .i64 n'), (w.heap.size + 1 + 1, 2, .slice B f'.len D)] W → Calls Try.prog 52 #[.agg #[.int .i64 t, .int .i64 a], .pointer (some ⟨w.heap.size + 1, 0, none⟩)] W fun e w' => e = .returned (.bool q1) ∧ Below W.heap.size W w') := fun W h => by
    obtain ⟨hS, _, _, h2, h3, h4, _⟩ := h
    rw [hq1]; exact l01Ok_any f hm hf t a k n A C _ 0 W (hl.sees hS) h2 h3 h4
  have K2 : Hid (∀ W : World, St w [(w.heap.size, 0, .int .i64 t), (w.heap.size, 1, .int .i64 a), (w.heap.size + 1, 0, .int .i64 k), (w.heap.size + 1, 1, .int .i64 n), (w.heap.size + 1, 2, .slice A f.len C), (w.heap.size + 1 + 1, 0, .int .i64 k'), (w.heap.size + 1 + 1, 1, .int .i64 n'), (w.heap.size + 1 + 1, 2, .slice B f'.len D)] W → Calls Try.prog 52 #[.agg #[.int .i64 t, .int .i64 a], .pointer (some ⟨w.heap.size + 1 + 1, 0, none⟩)] W fun e w' => e = .returned (.bool q2) ∧ Below W.heap.size W w') := fun W h => by
    obtain ⟨hS, _, _, _, _, _, h5, h6, h7, _⟩ := h
    rw [hq2]; exact l01Ok_any f' hm' hf' t a k' n' B D _ 0 W (hl'.sees hS) h5 h6 h7
  have K3 : Hid (∀ W : World, St w [(w.heap.size, 0, .int .i64 t), (w.heap.size, 1, .int .i64 a), (w.heap.size + 1, 0, .int .i64 k), (w.heap.size + 1, 1, .int .i64 n), (w.heap.size + 1, 2, .slice A f.len C), (w.heap.size + 1 + 1, 0, .int .i64 k'), (w.heap.size + 1 + 1, 1, .int .i64 n'), (w.heap.size + 1 + 1, 2, .slice B f'.len D)] W → Calls Try.prog 62 #[.pointer (some ⟨w.heap.size + 1, 0, none⟩)] W fun e w' => e = .returned (.bool c1) ∧ Below W.heap.size W w') := fun W h => by
    obtain ⟨hS, _, _, h2, _, h4, _⟩ := h
    rw [hc1]; exact (l01Condition_any (f.nodes + 1) f (Nat.lt_succ_self _) (Nat.le_trans f.len_le_nodes (by omega)) hf k A C _ 0 W (hl.sees hS) h2 h4).mono fun e w' ⟨he, hw⟩ => ⟨he, by rw [← hw]; exact Below.refl _ _⟩
  have K4 : Hid (∀ W : World, St w [(w.heap.size, 0, .int .i64 t), (w.heap.size, 1, .int .i64 a), (w.heap.size + 1, 0, .int .i64 k), (w.heap.size + 1, 1, .int .i64 n), (w.heap.size + 1, 2, .slice A f.len C), (w.heap.size + 1 + 1, 0, .int .i64 k'), (w.heap.size + 1 + 1, 1, .int .i64 n'), (w.heap.size + 1 + 1, 2, .slice B f'.len D)] W → Calls Try.prog 62 #[.pointer (some ⟨w.heap.size + 1 + 1, 0, none⟩)] W fun e w' => e = .returned (.bool c2) ∧ Below W.heap.size W w') := fun W h => by
    obtain ⟨hS, _, _, _, _, _, h5, _, h7, _⟩ := h
    rw [hc2]; exact (l01Condition_any (f'.nodes + 1) f' (Nat.lt_succ_self _) (Nat.le_trans f'.len_le_nodes (by omega)) hf' k' B D _ 0 W (hl'.sees hS) h5 h7).mono fun e w' ⟨he, hw⟩ => ⟨he, by rw [← hw]; exact Below.refl _ _⟩
  cases q1
  · have HD := Lib.hid (imp_1 (show (validE t a k n f && validE t a k' n' f') = false by rw [← hq1]; rfl))
    clear hq1 hq2 hc1 hc2
    go_enter Try.func30, Try.ntmps30
    go_wp2_with fail
    refine (K1.out _ ⟨(by unfold Sees; go_grown), (by simp [go_sem]), (by simp [go_sem]), (by simp [go_sem]), (by simp [go_sem]), (by simp [go_sem]), (by simp [go_sem]), (by simp [go_sem]), (by simp [go_sem]), trivial⟩).mono ?_
    rintro e w1 ⟨rfl, hb⟩
    have H1 : Hid (St w [(w.heap.size, 0, .int .i64 t), (w.heap.size, 1, .int .i64 a), (w.heap.size + 1, 0, .int .i64 k), (w.heap.size + 1, 1, .int .i64 n), (w.heap.size + 1, 2, .slice A f.len C), (w.heap.size + 1 + 1, 0, .int .i64 k'), (w.heap.size + 1 + 1, 1, .int .i64 n'), (w.heap.size + 1 + 1, 2, .slice B f'.len D)] w1) := St.below (l := [(w.heap.size, 0, .int .i64 t), (w.heap.size, 1, .int .i64 a), (w.heap.size + 1, 0, .int .i64 k), (w.heap.size + 1, 1, .int .i64 n), (w.heap.size + 1, 2, .slice A f.len C), (w.heap.size + 1 + 1, 0, .int .i64 k'), (w.heap.size + 1 + 1, 1, .int .i64 n'), (w.heap.size + 1 + 1, 2, .slice B f'.len D)]) ⟨(by unfold Sees; go_grown), (by simp [go_sem]), (by simp [go_sem]), (by simp [go_sem]), (by simp [go_sem]), (by simp [go_sem]), (by simp [go_sem]), (by simp [go_sem]), (by simp [go_sem]), trivial⟩ hb
    clear hb
    obtain ⟨sS, s0, s1, s2, s3, s4, s5, s6, s7, _⟩ := H1.out
    go_wp2_with fail
    go_ret2
    exact ⟨ret_bi HD.out.1.symm HD.out.2.symm, sS⟩
  cases q2
  · have HD := Lib.hid (imp_1 (show (validE t a k n f && validE t a k' n' f') = false by rw [← hq1, ← hq2]; rfl))
    clear hq1 hq2 hc1 hc2
    go_enter Try.func30, Try.ntmps30
    go_wp2_with fail
    refine (K1.out _ ⟨(by unfold Sees; go_grown), (by simp [go_sem]), (by simp [go_sem]), (by simp [go_sem]), (by simp [go_sem]), (by simp [go_sem]), (by simp [go_sem]), (by simp [go_sem]), (by simp [go_sem]), trivial⟩).mono ?_
    rintro e w1 ⟨rfl, hb⟩
    have H1 : Hid (St w [(w.heap.size, 0, .int .i64 t), (w.heap.size, 1, .int .i64 a), (w.heap.size + 1, 0, .int .i64 k), (w.heap.size + 1, 1, .int .i64 n), (w.heap.size + 1, 2, .slice A f.len C), (w.heap.size + 1 + 1, 0, .int .i64 k'), (w.heap.size + 1 + 1, 1, .int .i64 n'), (w.heap.size + 1 + 1, 2, .slice B f'.len D)] w1) := St.below (l := [(w.heap.size, 0, .int .i64 t), (w.heap.size, 1, .int .i64 a), (w.heap.size + 1, 0, .int .i64 k), (w.heap.size + 1, 1, .int .i64 n), (w.heap.size + 1, 2, .slice A f.len C), (w.heap.size + 1 + 1, 0, .int .i64 k'), (w.heap.size + 1 + 1, 1, .int .i64 n'), (w.heap.size + 1 + 1, 2, .slice B f'.len D)]) ⟨(by unfold Sees; go_grown), (by simp [go_sem]), (by simp [go_sem]), (by simp [go_sem]), (by simp [go_sem]), (by simp [go_sem]), (by simp [go_sem]), (by simp [go_sem]), (by simp [go_sem]), trivial⟩ hb
    clear hb
    obtain ⟨sS, s0, s1, s2, s3, s4, s5, s6, s7, _⟩ := H1.out
    go_wp2_with fail
    refine (K2.out _ ⟨sS, s0, s1, s2, s3, s4, s5, s6, s7, trivial⟩).mono ?_
    rintro e w2 ⟨rfl, hb⟩
    have H2 := Lib.hid (St.below H1.out hb)
    clear hb sS s0 s1 s2 s3 s4 s5 s6 s7
    obtain ⟨sS, s0, s1, s2, s3, s4, s5, s6, s7, _⟩ := H2.out
    go_wp2_with fail
    go_ret2
    exact ⟨ret_bi HD.out.1.symm HD.out.2.symm, sS⟩
  cases c1
  · have HD := Lib.hid (imp_4 (show (validE t a k n f && validE t a k' n' f') = true by rw [← hq1, ← hq2]; rfl) (show ((condK k && f.cond) && (condK k' && f'.cond)) = false by rw [← hc1]; rfl))
    clear hq1 hq2 hc1 hc2
    go_enter Try.func30, Try.ntmps30
    go_wp2_with fail
    refine (K1.out _ ⟨(by unfold Sees; go_grown), (by simp [go_sem]), (by simp [go_sem]), (by simp [go_sem]), (by simp [go_sem]), (by simp [go_sem]), (by simp [go_sem]), (by simp [go_sem]), (by simp [go_sem]), trivial⟩).mono ?_
    rintro e w1 ⟨rfl, hb⟩
    have H1 : Hid (St w [(w.heap.size, 0, .int .i64 t), (w.heap.size, 1, .int .i64 a), (w.heap.size + 1, 0, .int .i64 k), (w.heap.size + 1, 1, .int .i64 n), (w.heap.size + 1, 2, .slice A f.len C), (w.heap.size + 1 + 1, 0, .int .i64 k'), (w.heap.size + 1 + 1, 1, .int .i64 n'), (w.heap.size + 1 + 1, 2, .slice B f'.len D)] w1) := St.below (l := [(w.heap.size, 0, .int .i64 t), (w.heap.size, 1, .int .i64 a), (w.heap.size + 1, 0, .int .i64 k), (w.heap.size + 1, 1, .int .i64 n), (w.heap.size + 1, 2, .slice A f.len C), (w.heap.size + 1 + 1, 0, .int .i64 k'), (w.heap.size + 1 + 1, 1, .int .i64 n'), (w.heap.size + 1 + 1, 2, .slice B f'.len D)]) ⟨(by unfold Sees; go_grown), (by simp [go_sem]), (by simp [go_sem]), (by simp [go_sem]), (by simp [go_sem]), (by simp [go_sem]), (by simp [go_sem]), (by simp [go_sem]), (by simp [go_sem]), trivial⟩ hb
    clear hb
    obtain ⟨sS, s0, s1, s2, s3, s4, s5, s6, s7, _⟩ := H1.out
    go_wp2_with fail
    refine (K2.out _ ⟨sS, s0, s1, s2, s3, s4, s5, s6, s7, trivial⟩).mono ?_
    rintro e w2 ⟨rfl, hb⟩
    have H2 := Lib.hid (St.below H1.out hb)
    clear hb sS s0 s1 s2 s3 s4 s5 s6 s7
    obtain ⟨sS, s0, s1, s2, s3, s4, s5, s6, s7, _⟩ := H2.out
    go_wp2_with fail
    refine (K3.out _ ⟨sS, s0, s1, s2, s3, s4, s5, s6, s7, trivial⟩).mono ?_
    rintro e w3 ⟨rfl, hb⟩
    have H3 := Lib.hid (St.below H2.out hb)
    clear hb sS s0 s1 s2 s3 s4 s5 s6 s7
    obtain ⟨sS, s0, s1, s2, s3, s4, s5, s6, s7, _⟩ := H3.out
    go_wp2_with fail
    go_ret2
    exact ⟨ret_bi HD.out.1.symm HD.out.2.symm, sS⟩
  cases c2
  · have HD := Lib.hid (imp_4 (show (validE t a k n f && validE t a k' n' f') = true by rw [← hq1, ← hq2]; rfl) (show ((condK k && f.cond) && (condK k' && f'.cond)) = false by rw [← hc1, ← hc2]; rfl))
    clear hq1 hq2 hc1 hc2
    go_enter Try.func30, Try.ntmps30
    go_wp2_with fail
    refine (K1.out _ ⟨(by unfold Sees; go_grown), (by simp [go_sem]), (by simp [go_sem]), (by simp [go_sem]), (by simp [go_sem]), (by simp [go_sem]), (by simp [go_sem]), (by simp [go_sem]), (by simp [go_sem]), trivial⟩).mono ?_
    rintro e w1 ⟨rfl, hb⟩
    have H1 : Hid (St w [(w.heap.size, 0, .int .i64 t), (w.heap.size, 1, .int .i64 a), (w.heap.size + 1, 0, .int .i64 k), (w.heap.size + 1, 1, .int .i64 n), (w.heap.size + 1, 2, .slice A f.len C), (w.heap.size + 1 + 1, 0, .int .i64 k'), (w.heap.size + 1 + 1, 1, .int .i64 n'), (w.heap.size + 1 + 1, 2, .slice B f'.len D)] w1) := St.below (l := [(w.heap.size, 0, .int .i64 t), (w.heap.size, 1, .int .i64 a), (w.heap.size + 1, 0, .int .i64 k), (w.heap.size + 1, 1, .int .i64 n), (w.heap.size + 1, 2, .slice A f.len C), (w.heap.size + 1 + 1, 0, .int .i64 k'), (w.heap.size + 1 + 1, 1, .int .i64 n'), (w.heap.size + 1 + 1, 2, .slice B f'.len D)]) ⟨(by unfold Sees; go_grown), (by simp [go_sem]), (by simp [go_sem]), (by simp [go_sem]), (by simp [go_sem]), (by simp [go_sem]), (by simp [go_sem]), (by simp [go_sem]), (by simp [go_sem]), trivial⟩ hb
    clear hb
    obtain ⟨sS, s0, s1, s2, s3, s4, s5, s6, s7, _⟩ := H1.out
    go_wp2_with fail
    refine (K2.out _ ⟨sS, s0, s1, s2, s3, s4, s5, s6, s7, trivial⟩).mono ?_
    rintro e w2 ⟨rfl, hb⟩
    have H2 := Lib.hid (St.below H1.out hb)
    clear hb sS s0 s1 s2 s3 s4 s5 s6 s7
    obtain ⟨sS, s0, s1, s2, s3, s4, s5, s6, s7, _⟩ := H2.out
    go_wp2_with fail
    refine (K3.out _ ⟨sS, s0, s1, s2, s3, s4, s5, s6, s7, trivial⟩).mono ?_
    rintro e w3 ⟨rfl, hb⟩
    have H3 := Lib.hid (St.below H2.out hb)
    clear hb sS s0 s1 s2 s3 s4 s5 s6 s7
    obtain ⟨sS, s0, s1, s2, s3, s4, s5, s6, s7, _⟩ := H3.out
    go_wp2_with fail
    refine (K4.out _ ⟨sS, s0, s1, s2, s3, s4, s5, s6, s7, trivial⟩).mono ?_
    rintro e w4 ⟨rfl, hb⟩
    have H4 := Lib.hid (St.below H3.out hb)
    clear hb sS s0 s1 s2 s3 s4 s5 s6 s7
    obtain ⟨sS, s0, s1, s2, s3, s4, s5, s6, s7, _⟩ := H4.out
    go_wp2_with fail
    go_ret2
    exact ⟨ret_bi HD.out.1.symm HD.out.2.symm, sS⟩
  have HD := Lib.hid (imp_0 (show (validE t a k n f && validE t a k' n' f') = true by rw [← hq1, ← hq2]; rfl) (show ((condK k && f.cond) && (condK k' && f'.cond)) = true by rw [← hc1, ← hc2]; rfl))
  have hv := validE_parts hq1.symm
  have hv' := validE_parts hq2.symm
  obtain ⟨R, hR⟩ : ∃ R : Bool, R = (List.range (atomsNat t)).all (fun i => !((ndE f k n).emptyB (i : Int)) || (ndE f' k' n').emptyB (i : Int)) := ⟨_, rfl⟩
  rw [← hR] at HD
  have K5 : Hid (∀ W : World, St w [(w.heap.size, 0, .int .i64 t), (w.heap.size, 1, .int .i64 a), (w.heap.size + 1, 0, .int .i64 k), (w.heap.size + 1, 1, .int .i64 n), (w.heap.size + 1, 2, .slice A f.len C), (w.heap.size + 1 + 1, 0, .int .i64 k'), (w.heap.size + 1 + 1, 1, .int .i64 n'), (w.heap.size + 1 + 1, 2, .slice B f'.len D)] W → Calls Try.prog 79 #[.agg #[.int .i64 t, .int .i64 a], .pointer (some ⟨w.heap.size + 1, 0, none⟩), .pointer (some ⟨w.heap.size + 1 + 1, 0, none⟩)] W fun e w' => e = .returned (.bool R) ∧ Below W.heap.size W w') := fun W h => by
    obtain ⟨hS, _, _, h2, h3, h4, h5, h6, h7, _⟩ := h
    rw [hR]
    exact l07Implies_any t a hv.1 hv.2.1 _ _ (fun i => (ndE f k n).emptyB (i : Int)) (fun i => (ndE f' k' n').emptyB (i : Int)) W
      (fun W2 j s hj => l01True_any j (Int.natCast_nonneg _) (by have := (atomsNat_bd t).2; omega) (f.nodes + 1) f (Nat.lt_succ_self _) t a k n false A C _ 0 W2 hv.2.1 (hl.sees (hS.below s)) hv.2.2.2.2 hc1.symm (kc s h2) (kc s h3) (kc s h4))
      (fun W2 j s hj => l01True_any j (Int.natCast_nonneg _) (by have := (atomsNat_bd t).2; omega) (f'.nodes + 1) f' (Nat.lt_succ_self _) t a k' n' false B D _ 0 W2 hv.2.1 (hl'.sees (hS.below s)) hv'.2.2.2.2 hc2.symm (kc s h5) (kc s h6) (kc s h7))
  clear hq1 hq2 hc1 hc2 hR hv hv'
  go_enter Try.func30, Try.ntmps30
  go_wp2_with fail
  refine (K1.out _ ⟨(by unfold Sees; go_grown), (by simp [go_sem]), (by simp [go_sem]), (by simp [go_sem]), (by simp [go_sem]), (by simp [go_sem]), (by simp [go_sem]), (by simp [go_sem]), (by simp [go_sem]), trivial⟩).mono ?_
  rintro e w1 ⟨rfl, hb⟩
  have H1 : Hid (St w [(w.heap.size, 0, .int .i64 t), (w.heap.size, 1, .int .i64 a), (w.heap.size + 1, 0, .int .i64 k), (w.heap.size + 1, 1, .int .i64 n), (w.heap.size + 1, 2, .slice A f.len C), (w.heap.size + 1 + 1, 0, .int .i64 k'), (w.heap.size + 1 + 1, 1, .int .i64 n'), (w.heap.size + 1 + 1, 2, .slice B f'.len D)] w1) := St.below (l := [(w.heap.size, 0, .int .i64 t), (w.heap.size, 1, .int .i64 a), (w.heap.size + 1, 0, .int .i64 k), (w.heap.size + 1, 1, .int .i64 n), (w.heap.size + 1, 2, .slice A f.len C), (w.heap.size + 1 + 1, 0, .int .i64 k'), (w.heap.size + 1 + 1, 1, .int .i64 n'), (w.heap.size + 1 + 1, 2, .slice B f'.len D)]) ⟨(by unfold Sees; go_grown), (by simp [go_sem]), (by simp [go_sem]), (by simp [go_sem]), (by simp [go_sem]), (by simp [go_sem]), (by simp [go_sem]), (by simp [go_sem]), (by simp [go_sem]), trivial⟩ hb
  clear hb
  obtain ⟨sS, s0, s1, s2, s3, s4, s5, s6, s7, _⟩ := H1.out
  go_wp2_with fail
  refine (K2.out _ ⟨sS, s0, s1, s2, s3, s4, s5, s6, s7, trivial⟩).mono ?_
  rintro e w2 ⟨rfl, hb⟩
  have H2 := Lib.hid (St.below H1.out hb)
  clear hb sS s0 s1 s2 s3 s4 s5 s6 s7
  obtain ⟨sS, s0, s1, s2, s3, s4, s5, s6, s7, _⟩ := H2.out
  go_wp2_with fail
  refine (K3.out _ ⟨sS, s0, s1, s2, s3, s4, s5, s6, s7, trivial⟩).mono ?_
  rintro e w3 ⟨rfl, hb⟩
  have H3 := Lib.hid (St.below H2.out hb)
  clear hb sS s0 s1 s2 s3 s4 s5 s6 s7
  obtain ⟨sS, s0, s1, s2, s3, s4, s5, s6, s7, _⟩ := H3.out
  go_wp2_with fail
  refine (K4.out _ ⟨sS, s0, s1, s2, s3, s4, s5, s6, s7, trivial⟩).mono ?_
  rintro e w4 ⟨rfl, hb⟩
  have H4 := Lib.hid (St.below H3.out hb)
  clear hb sS s0 s1 s2 s3 s4 s5 s6 s7
  obtain ⟨sS, s0, s1, s2, s3, s4, s5, s6, s7, _⟩ := H4.out
  go_wp2_with fail
  refine (K5.out _ ⟨sS, s0, s1, s2, s3, s4, s5, s6, s7, trivial⟩).mono ?_
  rintro e w5 ⟨rfl, hb⟩
  have H5 := Lib.hid (St.below H4.out hb)
  clear hb sS s0 s1 s2 s3 s4 s5 s6 s7
  obtain ⟨sS, s0, s1, s2, s3, s4, s5, s6, s7, _⟩ := H5.out
  go_wp2_with fail
  go_ret2
  exact ⟨ret_bi HD.out.1.symm HD.out.2.symm, sS⟩

end Go.Proofs.Ytpoikhilhgijoaa
