/- Contracts of spec.l02Empty, spec.l02Atom. -/
import Derived.Test.YtpoikhilhgijoaaTruthT
namespace Go.Proofs.Ytpoikhilhgijoaa
open Go.RowKit

theorem l02Atom_any (t a x : Int) (w : World) (h0 : 0 ≤ t) (h1 : t ≤ 3) : Calls Try.prog 53 #[.agg #[.int .i64 t, .int .i64 a], .int .i64 x] w fun e w' => e = .returned (.bool (belowB x (atomsN t))) ∧ Below w.heap.size w w' := by
  obtain ⟨na, hna, hn1, hn8⟩ : ∃ na : Int, na = atomsN t ∧ 1 ≤ na ∧ na ≤ 8 := ⟨_, rfl, (atomsN_bd t).1, (atomsN_bd t).2⟩
  have KA : Hid (∀ W : World, Calls Try.prog 64 #[.agg #[.int .i64 t, .int .i64 a]] W fun e w' => e = .returned (.int .i64 na) ∧ Below W.heap.size W w') := fun W => by rw [hna]; exact atoms_any t a W h0 h1
  obtain ⟨q3, hq3⟩ : ∃ q3 : Bool, q3 = belowB x (atomsN t) := ⟨_, rfl⟩
  have K3 : Hid (∀ W : World, Calls Try.prog 63 #[.int .i64 x, .int .i64 0, .int .i64 (na - 1)] W fun e w' => e = .returned (.bool q3) ∧ Below W.heap.size W w') := fun W => (in_any x 0 (na - 1) W).mono fun e w' h => ⟨by rw [hq3, ← atomB_below, atomB, ← hna]; exact h.1, by rw [← h.2]; exact Below.refl _ _⟩
  have wn : IntKind.i64.wrap (na - 1) = na - 1 := IntWalk.i64_in _ (by omega)
  have HQ := Lib.hid hq3
  clear hq3 hna hn1 hn8
  go_enter Try.func53, Try.ntmps53
  go_wp2_with fail
  refine (KA.out _).mono ?_
  rintro e w2 ⟨rfl, hb⟩
  have B1 : Sees w w2 := Sees.below (by unfold Sees; go_grown) hb
  clear hb
  go_wp2_with fail
  refine (K3.out _).mono ?_
  rintro e w3 ⟨rfl, hb⟩
  have B2 := B1.below hb
  clear hb
  go_wp2_with fail
  go_ret
  exact ⟨ret_bool HQ.out, B2⟩

set_option maxRecDepth 100000 in
set_option maxHeartbeats 1000000 in
theorem l02Empty_any (x : Int) (hx0 : 0 ≤ x) (hx1 : x ≤ 7) : ∀ (N : Nat) (f : Fo), f.nodes < N → ∀ (t a k n : Int) (b : Bool) (A : Option Addr) (C bb o : Nat) (w : World), t ≤ 3 → f.Lies w A → treeE t a b k n f = true →
      w.cell? ⟨bb, o, none⟩ = some (.int .i64 k) → w.cell? ⟨bb, o + 1, none⟩ = some (.int .i64 n) → w.cell? ⟨bb, o + 2, none⟩ = some (.slice A f.len C) →
      Calls Try.prog 54 #[.pointer (some ⟨bb, o, none⟩), .int .i64 x] w fun e w' => e = .returned (.bool ((ndE f k n).emptyB x)) ∧ Below w.heap.size w w' := by
  intro N
  induction N with
  | zero => intro f hN; exact absurd hN (Nat.not_lt_zero _)
  | succ N ih =>
    intro f hN t a k n b A C bb o w ht hl hv h0 h1 h2
    have KT : Hid ((condK k && f.cond) = true → ∀ W : World, Sees w W → Calls Try.prog 65 #[.pointer (some ⟨bb, o, none⟩), .int .i64 x] W fun e w' => e = .returned (.bool ((ndE f k n).emptyB x)) ∧ Below W.heap.size W w') :=
      fun hc W hW => l01True_any x hx0 hx1 (f.nodes + 1) f (Nat.lt_succ_self _) t a k n b A C bb o W ht (hl.sees hW) hv hc (kc hW h0) (kc hW h1) (kc hW h2)
    rcases tree_forms hv with ⟨rfl, hk⟩ | ⟨k1, n1, f1, rfl, hk, v1⟩ | ⟨k1, n1, f1, k2, n2, f2, rfl, hk, v1, v2⟩
    · clear ih hN hv hl
      by_cases h4 : k = 4
      · subst h4
        clear KT hk
        go_enter Try.func54, Try.ntmps54
        go_wp2_with fail
        go_ret
        exact ⟨rfl, by go_grown⟩
      · have hk' : k = 1 ∨ k = 2 ∨ k = 3 := by omega
        have hc : (condK k && Fo.cond .nil) = true := by rcases hk' with rfl | rfl | rfl <;> rfl
        have KT2 := Lib.hid (KT.out hc)
        clear KT hk h4 hc
        obtain ⟨q, hq⟩ : ∃ q : Bool, q = (ndE .nil k n).emptyB x := ⟨_, rfl⟩
        rw [← hq] at KT2 ⊢
        clear hq
        rcases hk' with rfl | rfl | rfl
        all_goals
          go_enter Try.func54, Try.ntmps54
          go_wp2_with fail
          refine (KT2.out _ (by unfold Sees; go_grown)).mono ?_
          rintro e w1 ⟨rfl, hb⟩
          have B1 : Sees w w1 := Sees.below (by unfold Sees; go_grown) hb
          clear hb
          go_wp2_with fail
          go_ret
          exact ⟨rfl, B1⟩
    · rcases hk with rfl | rfl
      · have hc : (condK 5 && Fo.cond (.cons k1 n1 f1 .nil)) = true := by
          have h3 := v1
          unfold treeE at h3
          simp only [Bool.and_eq_true, Bool.or_eq_true, Bool.or_true, Bool.true_or, beq_self_eq_true, Bool.not_true, Bool.false_eq_true, false_or, Fo.tree_true] at h3
          simp only [Fo.cond, Bool.and_eq_true, Bool.and_true]
          exact ⟨rfl, h3.1.2, h3.2.2⟩
        have KT2 := Lib.hid (KT.out hc)
        clear KT hc ih hN hv v1 hl
        obtain ⟨q, hq⟩ : ∃ q : Bool, q = (ndE (.cons k1 n1 f1 .nil) 5 n).emptyB x := ⟨_, rfl⟩
        rw [← hq] at KT2 ⊢
        clear hq
        simp only [Fo.len] at h2
        go_enter Try.func54, Try.ntmps54
        go_wp2_with fail
        refine (KT2.out _ (by unfold Sees; go_grown)).mono ?_
        rintro e w1 ⟨rfl, hb⟩
        have B1 : Sees w w1 := Sees.below (by unfold Sees; go_grown) hb
        clear hb
        go_wp2_with fail
        go_ret
        exact ⟨rfl, B1⟩
      · have HD : Hid ((ndE (.cons k1 n1 f1 .nil) 8 n).emptyB x = true) := rfl
        clear KT ih hN hv v1 hl
        simp only [Fo.len] at h2
        go_enter Try.func54, Try.ntmps54
        go_wp2_with fail
        go_ret
        exact ⟨ret_bool HD.out.symm, by go_grown⟩
    · clear KT
      obtain ⟨b1, o1, rfl, hat⟩ := hl (by intro h; cases h)
      obtain ⟨d0, d1, ⟨A1, C1, d2, l1⟩, g0, g1, ⟨A2, C2, g2, l2⟩, _⟩ := hat
      obtain ⟨q, hq⟩ : ∃ q : Bool, q = (ndE f1 k1 n1).emptyB x := ⟨_, rfl⟩
      obtain ⟨r, hr⟩ : ∃ r : Bool, r = (ndE f2 k2 n2).emptyB x := ⟨_, rfl⟩
      have K1 : Hid (∀ W : World, Sees w W → Calls Try.prog 54 #[.pointer (some ⟨b1, o1, none⟩), .int .i64 x] W fun e w' => e = .returned (.bool q) ∧ Below W.heap.size W w') :=
        fun W hW => by rw [hq]; exact ih f1 (by simp only [Fo.nodes] at hN; omega) t a k1 n1 _ A1 C1 b1 o1 W ht (Fo.Lies.sees (w := w) l1 hW) v1 (kc hW d0) (kc hW d1) (kc hW d2)
      have K2 : Hid (∀ W : World, Sees w W → Calls Try.prog 54 #[.pointer (some ⟨b1, o1 + 3, none⟩), .int .i64 x] W fun e w' => e = .returned (.bool r) ∧ Below W.heap.size W w') :=
        fun W hW => by rw [hr]; exact ih f2 (by simp only [Fo.nodes] at hN; omega) t a k2 n2 _ A2 C2 b1 (o1 + 3) W ht (Fo.Lies.sees (w := w) l2 hW) v2 (kc hW g0) (kc hW g1) (kc hW g2)
      clear ih hN hv v1 v2 d0 d1 d2 g0 g1 g2 l1 l2 ht
      simp only [Fo.len] at h2
      rcases hk with rfl | rfl
      · have HD : Hid ((ndE (.cons k1 n1 f1 (.cons k2 n2 f2 .nil)) 6 n).emptyB x = (q || r)) := by show _ = _; rw [hq, hr]; rfl
        clear hq hr
        cases q
        all_goals
          go_enter Try.func54, Try.ntmps54
          go_wp2_with fail
          refine (K1.out _ (by unfold Sees; go_grown)).mono ?_
          rintro e w1 ⟨rfl, hb⟩
          have B1 : Sees w w1 := Sees.below (by unfold Sees; go_grown) hb
          have y2 := kc B1 h2
          clear hb
          go_wp2_with fail
        · refine (K2.out _ B1).mono ?_
          rintro e w2 ⟨rfl, hb⟩
          have B2 := B1.below hb
          clear hb
          go_wp2_with fail
          go_ret
          exact ⟨ret_bool HD.out.symm, B2⟩
        · go_ret
          exact ⟨ret_bool HD.out.symm, B1⟩
      · have HD : Hid ((ndE (.cons k1 n1 f1 (.cons k2 n2 f2 .nil)) 7 n).emptyB x = (q && r)) := by show _ = _; rw [hq, hr]; rfl
        clear hq hr
        cases q
        all_goals
          go_enter Try.func54, Try.ntmps54
          go_wp2_with fail
          refine (K1.out _ (by unfold Sees; go_grown)).mono ?_
          rintro e w1 ⟨rfl, hb⟩
          have B1 : Sees w w1 := Sees.below (by unfold Sees; go_grown) hb
          have y2 := kc B1 h2
          clear hb
          go_wp2_with fail
        · go_ret
          exact ⟨ret_bool HD.out.symm, B1⟩
        · refine (K2.out _ B1).mono ?_
          rintro e w2 ⟨rfl, hb⟩
          have B2 := B1.below hb
          clear hb
          go_wp2_with fail
          go_ret
          exact ⟨ret_bool HD.out.symm, B2⟩

end Go.Proofs.Ytpoikhilhgijoaa
