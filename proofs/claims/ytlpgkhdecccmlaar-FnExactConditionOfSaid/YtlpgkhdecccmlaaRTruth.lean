/- Contracts of spec.l01True, impl.emptyAt. -/
import Derived.Test.YtlpgkhdecccmlaaRAssert
namespace Go.Proofs.YtlpgkhdecccmlaaR
open Go.RowKit

/-- Whether a test holds at an atom. -/
def bitB (x n : Int) : Bool := decide (x / 2 ^ n.toNat % 2 = 1)
namespace Nd
/-- Whether a node has the word of length 0 with an atom. -/
def emptyB (x : Int) : Nd → Bool
  | zero | act _ => false
  | one | star _ => true
  | test n => bitB x n
  | not a => !a.emptyB x
  | sum a b => a.emptyB x || b.emptyB x
  | dot a b => a.emptyB x && b.emptyB x
/-- All tests are among the first three. -/
def okT : Nd → Prop
  | zero | one | act _ => True
  | test n => 0 ≤ n ∧ n ≤ 2
  | not a | star a => a.okT
  | sum a b | dot a b => a.okT ∧ b.okT
end Nd

theorem ndE_okT (t a : Int) (ht : t ≤ 3) : ∀ (N : Nat) (f : Fo), f.nodes < N → ∀ (b : Bool) (k n : Int), treeE t a b k n f = true → (ndE f k n).okT := by
  intro N
  induction N with
  | zero => intro f hN; exact absurd hN (Nat.not_lt_zero _)
  | succ N ih =>
    intro f hN b k n h
    rcases tree_forms h with ⟨rfl, hk⟩ | ⟨k1, n1, f1, rfl, hk, h1⟩ | ⟨k1, n1, f1, k2, n2, f2, rfl, hk, h1, h2⟩
    · rcases hk with rfl | rfl | ⟨rfl, hn, hn'⟩ | ⟨rfl, _, _⟩
      · trivial
      · trivial
      · show 0 ≤ n ∧ n ≤ 2; omega
      · trivial
    · have := ih f1 (by simp only [Fo.nodes] at hN; omega) _ k1 n1 h1
      rcases hk with rfl | rfl <;> exact this
    · have g1 := ih f1 (by simp only [Fo.nodes] at hN; omega) _ k1 n1 h1
      have g2 := ih f2 (by simp only [Fo.nodes] at hN; omega) _ k2 n2 h2
      rcases hk with rfl | rfl <;> exact ⟨g1, g2⟩

theorem val_iface (a : Nd) : ∃ (T : TypeId) (x : Value), a.val = .iface T x := by
  cases a <;> exact ⟨_, _, rfl⟩

set_option maxRecDepth 100000 in
set_option maxHeartbeats 1000000 in
theorem holdsAt_any (n x : Int) (hn0 : 0 ≤ n) (hn1 : n ≤ 2) (hx0 : 0 ≤ x) (hx1 : x ≤ 7) (w : World) : Calls Try.prog 180 #[.int .i64 n, .int .i64 x] w fun e w' => e = .returned (.bool (bitB x n)) ∧ Below w.heap.size w w' := by
  have hn : n = 0 ∨ n = 1 ∨ n = 2 := by omega
  have hx : x = 0 ∨ x = 1 ∨ x = 2 ∨ x = 3 ∨ x = 4 ∨ x = 5 ∨ x = 6 ∨ x = 7 := by omega
  clear hn0 hn1 hx0 hx1
  rcases hn with rfl | rfl | rfl <;> rcases hx with rfl | rfl | rfl | rfl | rfl | rfl | rfl | rfl
  all_goals
    go_enter Try.func180, Try.ntmps180
    go_wp2_with fail
    go_ret
    exact ⟨by first | rfl | (simp [bitB]; done) | decide, by go_grown⟩

set_option maxRecDepth 100000 in
set_option maxHeartbeats 2000000 in
theorem emptyAt_any (x : Int) (hx0 : 0 ≤ x) (hx1 : x ≤ 7) : ∀ (d : Nd) (w : World), d.okT → Calls Try.prog 133 #[d.val, .int .i64 x] w fun e w' => e = .returned (.bool (d.emptyB x)) ∧ Below w.heap.size w w' := by
  intro d
  induction d with
  | zero =>
    intro w _
    show Calls Try.prog 133 #[.iface 197 (.agg #[]), .int .i64 x] w _
    have q_one := is_zero_one
    have q_star := is_zero_star
    have q_test := is_zero_test
    have q_not := is_zero_not
    have q_sum := is_zero_sum
    have q_dot := is_zero_dot
    go_enter Try.func133, Try.ntmps133
    go_wp2_with fail
    go_ret
    exact ⟨rfl, by go_grown⟩
  | one =>
    intro w _
    show Calls Try.prog 133 #[.iface 249 (.agg #[]), .int .i64 x] w _
    have q_one := is_one_one
    have q_star := is_one_star
    go_enter Try.func133, Try.ntmps133
    go_wp2_with fail
    go_ret
    exact ⟨rfl, by go_grown⟩
  | act n =>
    intro w _
    show Calls Try.prog 133 #[.iface 252 (.agg #[.int .i64 n]), .int .i64 x] w _
    have q_one := is_act_one
    have q_star := is_act_star
    have q_test := is_act_test
    have q_not := is_act_not
    have q_sum := is_act_sum
    have q_dot := is_act_dot
    go_enter Try.func133, Try.ntmps133
    go_wp2_with fail
    go_ret
    exact ⟨rfl, by go_grown⟩
  | star a _ =>
    intro w _
    show Calls Try.prog 133 #[.iface 255 (.agg #[a.val, .int .i64 (1 + a.size : Nat)]), .int .i64 x] w _
    generalize a.val = v
    generalize ((1 + a.size : Nat) : Int) = z
    have q_one := is_star_one
    have q_star := is_star_star
    go_enter Try.func133, Try.ntmps133
    go_wp2_with fail
    go_ret
    exact ⟨rfl, by go_grown⟩
  | test n =>
    intro w hn
    obtain ⟨q, hq⟩ : ∃ q : Bool, q = bitB x n := ⟨_, rfl⟩
    have K1 : Hid (∀ W : World, Calls Try.prog 180 #[.int .i64 n, .int .i64 x] W fun e w' => e = .returned (.bool q) ∧ Below W.heap.size W w') := fun W => by rw [hq]; exact holdsAt_any n x hn.1 hn.2 hx0 hx1 W
    have HD : Hid ((Nd.test n).emptyB x = q) := by show _ = _; rw [hq]; rfl
    clear hq hn
    show Calls Try.prog 133 #[.iface 251 (.agg #[.int .i64 n]), .int .i64 x] w _
    have q_one := is_test_one
    have q_star := is_test_star
    have q_test := is_test_test
    go_enter Try.func133, Try.ntmps133
    go_wp2_with fail
    refine (K1.out _).mono ?_
    rintro e w1 ⟨rfl, hb⟩
    have B1 : Sees w w1 := Sees.below (by unfold Sees; go_grown) hb
    clear hb
    go_wp2_with fail
    go_ret
    exact ⟨ret_bool HD.out.symm, B1⟩
  | not a ih =>
    intro w hn
    obtain ⟨q, hq⟩ : ∃ q : Bool, q = a.emptyB x := ⟨_, rfl⟩
    have K1 : Hid (∀ W : World, Calls Try.prog 133 #[a.val, .int .i64 x] W fun e w' => e = .returned (.bool q) ∧ Below W.heap.size W w') := fun W => by rw [hq]; exact ih W hn
    have HD : Hid ((Nd.not a).emptyB x = !q) := by show _ = _; rw [hq]; rfl
    clear ih hq
    show Calls Try.prog 133 #[.iface 256 (.agg #[a.val, .int .i64 (1 + a.size : Nat)]), .int .i64 x] w _
    obtain ⟨T1, x1, h1⟩ := val_iface a
    rw [h1] at K1 ⊢
    clear h1
    generalize ((1 + a.size : Nat) : Int) = z
    have q_one := is_not_one
    have q_star := is_not_star
    have q_test := is_not_test
    have q_not := is_not_not
    go_enter Try.func133, Try.ntmps133
    go_wp2_with fail
    refine (K1.out _).mono ?_
    rintro e w1 ⟨rfl, hb⟩
    have B1 : Sees w w1 := Sees.below (by unfold Sees; go_grown) hb
    clear hb
    go_wp2_with fail
    go_ret
    exact ⟨ret_bool HD.out.symm, B1⟩
  | sum a b iha ihb =>
    intro w hn
    obtain ⟨q, hq⟩ : ∃ q : Bool, q = a.emptyB x := ⟨_, rfl⟩
    obtain ⟨r, hr⟩ : ∃ r : Bool, r = b.emptyB x := ⟨_, rfl⟩
    have K1 : Hid (∀ W : World, Calls Try.prog 133 #[a.val, .int .i64 x] W fun e w' => e = .returned (.bool q) ∧ Below W.heap.size W w') := fun W => by rw [hq]; exact iha W hn.1
    have K2 : Hid (∀ W : World, Calls Try.prog 133 #[b.val, .int .i64 x] W fun e w' => e = .returned (.bool r) ∧ Below W.heap.size W w') := fun W => by rw [hr]; exact ihb W hn.2
    have HD : Hid ((Nd.sum a b).emptyB x = (q || r)) := by show _ = _; rw [hq, hr]; rfl
    clear iha ihb hq hr hn
    show Calls Try.prog 133 #[.iface 258 (.agg #[a.val, b.val, .int .i64 (1 + a.size + b.size : Nat)]), .int .i64 x] w _
    obtain ⟨T1, x1, h1⟩ := val_iface a
    obtain ⟨T2, x2, h2⟩ := val_iface b
    rw [h1] at K1 ⊢
    rw [h2] at K2 ⊢
    clear h1 h2
    generalize ((1 + a.size + b.size : Nat) : Int) = z
    cases q
    all_goals
      have q_one := is_sum_one
      have q_star := is_sum_star
      have q_test := is_sum_test
      have q_not := is_sum_not
      have q_sum := is_sum_sum
      go_enter Try.func133, Try.ntmps133
      go_wp2_with fail
      refine (K1.out _).mono ?_
      rintro e w1 ⟨rfl, hb⟩
      have y1 := kc (b := w.heap.size) (o := 1) (v := .iface T2 x2) hb (by simp [go_sem])
      have B1 : Sees w w1 := Sees.below (by unfold Sees; go_grown) hb
      clear hb
      go_wp2_with fail
    · refine (K2.out _).mono ?_
      rintro e w2 ⟨rfl, hb⟩
      have B2 := B1.below hb
      clear hb
      go_wp2_with fail
      go_ret
      exact ⟨ret_bool HD.out.symm, B2⟩
    · go_ret
      exact ⟨ret_bool HD.out.symm, B1⟩
  | dot a b iha ihb =>
    intro w hn
    obtain ⟨q, hq⟩ : ∃ q : Bool, q = a.emptyB x := ⟨_, rfl⟩
    obtain ⟨r, hr⟩ : ∃ r : Bool, r = b.emptyB x := ⟨_, rfl⟩
    have K1 : Hid (∀ W : World, Calls Try.prog 133 #[a.val, .int .i64 x] W fun e w' => e = .returned (.bool q) ∧ Below W.heap.size W w') := fun W => by rw [hq]; exact iha W hn.1
    have K2 : Hid (∀ W : World, Calls Try.prog 133 #[b.val, .int .i64 x] W fun e w' => e = .returned (.bool r) ∧ Below W.heap.size W w') := fun W => by rw [hr]; exact ihb W hn.2
    have HD : Hid ((Nd.dot a b).emptyB x = (q && r)) := by show _ = _; rw [hq, hr]; rfl
    clear iha ihb hq hr hn
    show Calls Try.prog 133 #[.iface 259 (.agg #[a.val, b.val, .int .i64 (1 + a.size + b.size : Nat)]), .int .i64 x] w _
    obtain ⟨T1, x1, h1⟩ := val_iface a
    obtain ⟨T2, x2, h2⟩ := val_iface b
    rw [h1] at K1 ⊢
    rw [h2] at K2 ⊢
    clear h1 h2
    generalize ((1 + a.size + b.size : Nat) : Int) = z
    cases q
    all_goals
      have q_one := is_dot_one
      have q_star := is_dot_star
      have q_test := is_dot_test
      have q_not := is_dot_not
      have q_sum := is_dot_sum
      have q_dot := is_dot_dot
      go_enter Try.func133, Try.ntmps133
      go_wp2_with fail
      refine (K1.out _).mono ?_
      rintro e w1 ⟨rfl, hb⟩
      have y1 := kc (b := w.heap.size) (o := 1) (v := .iface T2 x2) hb (by simp [go_sem])
      have B1 : Sees w w1 := Sees.below (by unfold Sees; go_grown) hb
      clear hb
      go_wp2_with fail
    · go_ret
      exact ⟨ret_bool HD.out.symm, B1⟩
    · refine (K2.out _).mono ?_
      rintro e w2 ⟨rfl, hb⟩
      have B2 := B1.below hb
      clear hb
      go_wp2_with fail
      go_ret
      exact ⟨ret_bool HD.out.symm, B2⟩

end Go.Proofs.YtlpgkhdecccmlaaR
