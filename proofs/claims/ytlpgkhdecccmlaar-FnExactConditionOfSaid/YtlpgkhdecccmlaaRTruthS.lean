/- Contracts of spec.l01True, spec.TruthAt. -/
import Derived.Test.YtlpgkhdecccmlaaRTruth
import Derived.Test.YtlpgkhdecccmlaaROk
import Derived.Test.YtlpgkhdecccmlaaRCond
namespace Go.Proofs.YtlpgkhdecccmlaaR
open Go.RowKit

theorem ndE_cond_forms {t a : Int} {b : Bool} {k n : Int} {f : Fo} (h : treeE t a b k n f = true) (hc : (condK k && f.cond) = true) :
    (f = .nil ∧ (k = 1 ∨ k = 2 ∨ (k = 3 ∧ 0 ≤ n ∧ n < t))) ∨
    (∃ k1 n1 f1, f = .cons k1 n1 f1 .nil ∧ k = 5 ∧ treeE t a (b || k == 5) k1 n1 f1 = true ∧ (condK k1 && f1.cond) = true) ∨
    (∃ k1 n1 f1 k2 n2 f2, f = .cons k1 n1 f1 (.cons k2 n2 f2 .nil) ∧ (k = 6 ∨ k = 7) ∧ treeE t a b k1 n1 f1 = true ∧ treeE t a b k2 n2 f2 = true ∧ (condK k1 && f1.cond) = true ∧ (condK k2 && f2.cond) = true) := by
  simp only [Bool.and_eq_true] at hc
  obtain ⟨hk, hf⟩ := hc
  have hk' := of_decide_eq_true hk
  rcases tree_forms h with ⟨rfl, h1⟩ | ⟨k1, n1, f1, rfl, h1, h2⟩ | ⟨k1, n1, f1, k2, n2, f2, rfl, h1, h2, h3⟩
  · refine Or.inl ⟨rfl, ?_⟩
    omega
  · refine Or.inr (Or.inl ⟨k1, n1, f1, rfl, by omega, h2, ?_⟩)
    simpa [Fo.cond] using hf
  · refine Or.inr (Or.inr ⟨k1, n1, f1, k2, n2, f2, rfl, h1, h2, h3, ?_⟩)
    simpa [Fo.cond, and_assoc] using hf

set_option maxRecDepth 100000 in
set_option maxHeartbeats 1000000 in
theorem l01True_any (x : Int) (hx0 : 0 ≤ x) (hx1 : x ≤ 7) : ∀ (N : Nat) (f : Fo), f.nodes < N → ∀ (t a k n : Int) (b : Bool) (A : Option Addr) (C bb o : Nat) (w : World), t ≤ 3 → f.Lies w A → treeE t a b k n f = true → (condK k && f.cond) = true →
      w.cell? ⟨bb, o, none⟩ = some (.int .i64 k) → w.cell? ⟨bb, o + 1, none⟩ = some (.int .i64 n) → w.cell? ⟨bb, o + 2, none⟩ = some (.slice A f.len C) →
      Calls Try.prog 127 #[.pointer (some ⟨bb, o, none⟩), .int .i64 x] w fun e w' => e = .returned (.bool ((ndE f k n).emptyB x)) ∧ Below w.heap.size w w' := by
  intro N
  induction N with
  | zero => intro f hN; exact absurd hN (Nat.not_lt_zero _)
  | succ N ih =>
    intro f hN t a k n b A C bb o w ht hl hv hc h0 h1 h2
    rcases ndE_cond_forms hv hc with ⟨rfl, hk⟩ | ⟨k1, n1, f1, rfl, rfl, v1, c1⟩ | ⟨k1, n1, f1, k2, n2, f2, rfl, hk, v1, v2, c1, c2⟩
    · clear ih hN hv hc hl
      rcases hk with rfl | rfl | ⟨rfl, hn0, hn1⟩
      · go_enter Try.func127, Try.ntmps127
        go_wp2_with fail
        go_ret
        exact ⟨rfl, by go_grown⟩
      · go_enter Try.func127, Try.ntmps127
        go_wp2_with fail
        go_ret
        exact ⟨rfl, by go_grown⟩
      · have hn : n = 0 ∨ n = 1 ∨ n = 2 := by omega
        have hx : x = 0 ∨ x = 1 ∨ x = 2 ∨ x = 3 ∨ x = 4 ∨ x = 5 ∨ x = 6 ∨ x = 7 := by omega
        clear hn0 hn1 hx0 hx1 ht
        rcases hn with rfl | rfl | rfl <;> rcases hx with rfl | rfl | rfl | rfl | rfl | rfl | rfl | rfl
        all_goals
          go_enter Try.func127, Try.ntmps127
          go_wp2_with fail
          go_ret
          exact ⟨by first | rfl | (simp [ndE, leaf, Nd.emptyB, bitB]; done) | decide, by go_grown⟩
    · obtain ⟨b1, o1, rfl, hat⟩ := hl (by intro h; cases h)
      obtain ⟨d0, d1, ⟨A1, C1, d2, l1⟩, _⟩ := hat
      obtain ⟨q, hq⟩ : ∃ q : Bool, q = (ndE f1 k1 n1).emptyB x := ⟨_, rfl⟩
      have K1 : Hid (∀ W : World, Sees w W → Calls Try.prog 127 #[.pointer (some ⟨b1, o1, none⟩), .int .i64 x] W fun e w' => e = .returned (.bool q) ∧ Below W.heap.size W w') :=
        fun W hW => by rw [hq]; exact ih f1 (by simp only [Fo.nodes] at hN; omega) t a k1 n1 _ A1 C1 b1 o1 W ht (Fo.Lies.sees (w := w) l1 hW) v1 c1 (kc hW d0) (kc hW d1) (kc hW d2)
      have HD : Hid ((ndE (.cons k1 n1 f1 .nil) 5 n).emptyB x = !q) := by show _ = _; rw [hq]; rfl
      clear ih hN hv hc v1 c1 hq d0 d1 d2 l1 ht
      simp only [Fo.len] at h2
      go_enter Try.func127, Try.ntmps127
      go_wp2_with fail
      refine (K1.out _ (by unfold Sees; go_grown)).mono ?_
      rintro e w1 ⟨rfl, hb⟩
      have B1 : Sees w w1 := Sees.below (by unfold Sees; go_grown) hb
      clear hb
      go_wp2_with fail
      go_ret
      exact ⟨ret_bool HD.out.symm, B1⟩
    · obtain ⟨b1, o1, rfl, hat⟩ := hl (by intro h; cases h)
      obtain ⟨d0, d1, ⟨A1, C1, d2, l1⟩, g0, g1, ⟨A2, C2, g2, l2⟩, _⟩ := hat
      obtain ⟨q, hq⟩ : ∃ q : Bool, q = (ndE f1 k1 n1).emptyB x := ⟨_, rfl⟩
      obtain ⟨r, hr⟩ : ∃ r : Bool, r = (ndE f2 k2 n2).emptyB x := ⟨_, rfl⟩
      have K1 : Hid (∀ W : World, Sees w W → Calls Try.prog 127 #[.pointer (some ⟨b1, o1, none⟩), .int .i64 x] W fun e w' => e = .returned (.bool q) ∧ Below W.heap.size W w') :=
        fun W hW => by rw [hq]; exact ih f1 (by simp only [Fo.nodes] at hN; omega) t a k1 n1 _ A1 C1 b1 o1 W ht (Fo.Lies.sees (w := w) l1 hW) v1 c1 (kc hW d0) (kc hW d1) (kc hW d2)
      have K2 : Hid (∀ W : World, Sees w W → Calls Try.prog 127 #[.pointer (some ⟨b1, o1 + 3, none⟩), .int .i64 x] W fun e w' => e = .returned (.bool r) ∧ Below W.heap.size W w') :=
        fun W hW => by rw [hr]; exact ih f2 (by simp only [Fo.nodes] at hN; omega) t a k2 n2 _ A2 C2 b1 (o1 + 3) W ht (Fo.Lies.sees (w := w) l2 hW) v2 c2 (kc hW g0) (kc hW g1) (kc hW g2)
      clear ih hN hv hc v1 v2 c1 c2 d0 d1 d2 g0 g1 g2 l1 l2 ht
      simp only [Fo.len] at h2
      rcases hk with rfl | rfl
      · have HD : Hid ((ndE (.cons k1 n1 f1 (.cons k2 n2 f2 .nil)) 6 n).emptyB x = (q || r)) := by show _ = _; rw [hq, hr]; rfl
        clear hq hr
        cases q
        all_goals
          go_enter Try.func127, Try.ntmps127
          go_wp2_with fail
          refine (K1.out _ (by unfold Sees; go_grown)).mono ?_
          rintro e w1 ⟨rfl, hb⟩
          have B1 : Sees w w1 := Sees.below (by unfold Sees; go_grown) hb
          have y2 := kc B1 h2
          clear hb
          go_wp2_with fail
        · refine (K2.out _ B1).mono ?_
          rintro e w2 ⟨rfl, hb⟩
          have B2 := B1.below hb
          clear hb
          go_wp2_with fail
          go_ret
          exact ⟨ret_bool HD.out.symm, B2⟩
        · go_ret
          exact ⟨ret_bool HD.out.symm, B1⟩
      · have HD : Hid ((ndE (.cons k1 n1 f1 (.cons k2 n2 f2 .nil)) 7 n).emptyB x = (q && r)) := by show _ = _; rw [hq, hr]; rfl
        clear hq hr
        cases q
        all_goals
          go_enter Try.func127, Try.ntmps127
          go_wp2_with fail
          refine (K1.out _ (by unfold Sees; go_grown)).mono ?_
          rintro e w1 ⟨rfl, hb⟩
          have B1 : Sees w w1 := Sees.below (by unfold Sees; go_grown) hb
          have y2 := kc B1 h2
          clear hb
          go_wp2_with fail
        · go_ret
          exact ⟨ret_bool HD.out.symm, B1⟩
        · refine (K2.out _ B1).mono ?_
          rintro e w2 ⟨rfl, hb⟩
          have B2 := B1.below hb
          clear hb
          go_wp2_with fail
          go_ret
          exact ⟨ret_bool HD.out.symm, B2⟩

end Go.Proofs.YtlpgkhdecccmlaaR
