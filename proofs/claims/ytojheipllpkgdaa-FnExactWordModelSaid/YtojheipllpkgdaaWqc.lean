/- Facts on assertions that a node is of a type. Closed facts, one a pair of types. Contracts of spec.l01True, impl.emptyAt. WordModel: what it answers. Plain facts. WordModel: contract of the model's. -/
import Derived.Test.YtojheipllpkgdaaWqb
import Derived.Test.YtojheipllpkgdaaRsP
import Derived.Test.YtojheipllpkgdaaVWordI
import Derived.Deep.RegionLaw
namespace Go.Proofs.Ytojheipllpkgdaa
open Go.RowKit

theorem is_zero_one (v : Value) (w : World) : (Instr.typeAssert (.iface 186 v) 114 171 true).run Try.prog w = .ok (.tuple #[.agg #[], .bool false]) w := by kernel_rfl
theorem is_zero_star (v : Value) (w : World) : (Instr.typeAssert (.iface 186 v) 114 182 true).run Try.prog w = .ok (.tuple #[.agg #[.nilIface, .int .i64 0], .bool false]) w := by kernel_rfl
theorem is_zero_test (v : Value) (w : World) : (Instr.typeAssert (.iface 186 v) 114 173 true).run Try.prog w = .ok (.tuple #[.agg #[.int .i64 0], .bool false]) w := by kernel_rfl
theorem is_zero_not (v : Value) (w : World) : (Instr.typeAssert (.iface 186 v) 114 175 true).run Try.prog w = .ok (.tuple #[.agg #[.nilIface, .int .i64 0], .bool false]) w := by kernel_rfl
theorem is_zero_sum (v : Value) (w : World) : (Instr.typeAssert (.iface 186 v) 114 179 true).run Try.prog w = .ok (.tuple #[.agg #[.nilIface, .nilIface, .int .i64 0], .bool false]) w := by kernel_rfl
theorem is_zero_dot (v : Value) (w : World) : (Instr.typeAssert (.iface 186 v) 114 181 true).run Try.prog w = .ok (.tuple #[.agg #[.nilIface, .nilIface, .int .i64 0], .bool false]) w := by kernel_rfl
theorem is_one_one (v : Value) (w : World) : (Instr.typeAssert (.iface 171 v) 114 171 true).run Try.prog w = .ok (.tuple #[v, .bool true]) w := by kernel_rfl
theorem is_one_star (v : Value) (w : World) : (Instr.typeAssert (.iface 171 v) 114 182 true).run Try.prog w = .ok (.tuple #[.agg #[.nilIface, .int .i64 0], .bool false]) w := by kernel_rfl
theorem is_one_test (v : Value) (w : World) : (Instr.typeAssert (.iface 171 v) 114 173 true).run Try.prog w = .ok (.tuple #[.agg #[.int .i64 0], .bool false]) w := by kernel_rfl
theorem is_one_not (v : Value) (w : World) : (Instr.typeAssert (.iface 171 v) 114 175 true).run Try.prog w = .ok (.tuple #[.agg #[.nilIface, .int .i64 0], .bool false]) w := by kernel_rfl
theorem is_one_sum (v : Value) (w : World) : (Instr.typeAssert (.iface 171 v) 114 179 true).run Try.prog w = .ok (.tuple #[.agg #[.nilIface, .nilIface, .int .i64 0], .bool false]) w := by kernel_rfl
theorem is_one_dot (v : Value) (w : World) : (Instr.typeAssert (.iface 171 v) 114 181 true).run Try.prog w = .ok (.tuple #[.agg #[.nilIface, .nilIface, .int .i64 0], .bool false]) w := by kernel_rfl
theorem is_test_one (v : Value) (w : World) : (Instr.typeAssert (.iface 173 v) 114 171 true).run Try.prog w = .ok (.tuple #[.agg #[], .bool false]) w := by kernel_rfl
theorem is_test_star (v : Value) (w : World) : (Instr.typeAssert (.iface 173 v) 114 182 true).run Try.prog w = .ok (.tuple #[.agg #[.nilIface, .int .i64 0], .bool false]) w := by kernel_rfl
theorem is_test_test (v : Value) (w : World) : (Instr.typeAssert (.iface 173 v) 114 173 true).run Try.prog w = .ok (.tuple #[v, .bool true]) w := by kernel_rfl
theorem is_test_not (v : Value) (w : World) : (Instr.typeAssert (.iface 173 v) 114 175 true).run Try.prog w = .ok (.tuple #[.agg #[.nilIface, .int .i64 0], .bool false]) w := by kernel_rfl
theorem is_test_sum (v : Value) (w : World) : (Instr.typeAssert (.iface 173 v) 114 179 true).run Try.prog w = .ok (.tuple #[.agg #[.nilIface, .nilIface, .int .i64 0], .bool false]) w := by kernel_rfl
theorem is_test_dot (v : Value) (w : World) : (Instr.typeAssert (.iface 173 v) 114 181 true).run Try.prog w = .ok (.tuple #[.agg #[.nilIface, .nilIface, .int .i64 0], .bool false]) w := by kernel_rfl
theorem is_act_one (v : Value) (w : World) : (Instr.typeAssert (.iface 177 v) 114 171 true).run Try.prog w = .ok (.tuple #[.agg #[], .bool false]) w := by kernel_rfl
theorem is_act_star (v : Value) (w : World) : (Instr.typeAssert (.iface 177 v) 114 182 true).run Try.prog w = .ok (.tuple #[.agg #[.nilIface, .int .i64 0], .bool false]) w := by kernel_rfl
theorem is_act_test (v : Value) (w : World) : (Instr.typeAssert (.iface 177 v) 114 173 true).run Try.prog w = .ok (.tuple #[.agg #[.int .i64 0], .bool false]) w := by kernel_rfl
theorem is_act_not (v : Value) (w : World) : (Instr.typeAssert (.iface 177 v) 114 175 true).run Try.prog w = .ok (.tuple #[.agg #[.nilIface, .int .i64 0], .bool false]) w := by kernel_rfl
theorem is_act_sum (v : Value) (w : World) : (Instr.typeAssert (.iface 177 v) 114 179 true).run Try.prog w = .ok (.tuple #[.agg #[.nilIface, .nilIface, .int .i64 0], .bool false]) w := by kernel_rfl
theorem is_act_dot (v : Value) (w : World) : (Instr.typeAssert (.iface 177 v) 114 181 true).run Try.prog w = .ok (.tuple #[.agg #[.nilIface, .nilIface, .int .i64 0], .bool false]) w := by kernel_rfl
theorem is_not_one (v : Value) (w : World) : (Instr.typeAssert (.iface 175 v) 114 171 true).run Try.prog w = .ok (.tuple #[.agg #[], .bool false]) w := by kernel_rfl
theorem is_not_star (v : Value) (w : World) : (Instr.typeAssert (.iface 175 v) 114 182 true).run Try.prog w = .ok (.tuple #[.agg #[.nilIface, .int .i64 0], .bool false]) w := by kernel_rfl
theorem is_not_test (v : Value) (w : World) : (Instr.typeAssert (.iface 175 v) 114 173 true).run Try.prog w = .ok (.tuple #[.agg #[.int .i64 0], .bool false]) w := by kernel_rfl
theorem is_not_not (v : Value) (w : World) : (Instr.typeAssert (.iface 175 v) 114 175 true).run Try.prog w = .ok (.tuple #[v, .bool true]) w := by kernel_rfl
theorem is_not_sum (v : Value) (w : World) : (Instr.typeAssert (.iface 175 v) 114 179 true).run Try.prog w = .ok (.tuple #[.agg #[.nilIface, .nilIface, .int .i64 0], .bool false]) w := by kernel_rfl
theorem is_not_dot (v : Value) (w : World) : (Instr.typeAssert (.iface 175 v) 114 181 true).run Try.prog w = .ok (.tuple #[.agg #[.nilIface, .nilIface, .int .i64 0], .bool false]) w := by kernel_rfl
theorem is_sum_one (v : Value) (w : World) : (Instr.typeAssert (.iface 179 v) 114 171 true).run Try.prog w = .ok (.tuple #[.agg #[], .bool false]) w := by kernel_rfl
theorem is_sum_star (v : Value) (w : World) : (Instr.typeAssert (.iface 179 v) 114 182 true).run Try.prog w = .ok (.tuple #[.agg #[.nilIface, .int .i64 0], .bool false]) w := by kernel_rfl
theorem is_sum_test (v : Value) (w : World) : (Instr.typeAssert (.iface 179 v) 114 173 true).run Try.prog w = .ok (.tuple #[.agg #[.int .i64 0], .bool false]) w := by kernel_rfl
theorem is_sum_not (v : Value) (w : World) : (Instr.typeAssert (.iface 179 v) 114 175 true).run Try.prog w = .ok (.tuple #[.agg #[.nilIface, .int .i64 0], .bool false]) w := by kernel_rfl
theorem is_sum_sum (v : Value) (w : World) : (Instr.typeAssert (.iface 179 v) 114 179 true).run Try.prog w = .ok (.tuple #[v, .bool true]) w := by kernel_rfl
theorem is_sum_dot (v : Value) (w : World) : (Instr.typeAssert (.iface 179 v) 114 181 true).run Try.prog w = .ok (.tuple #[.agg #[.nilIface, .nilIface, .int .i64 0], .bool false]) w := by kernel_rfl
theorem is_dot_one (v : Value) (w : World) : (Instr.typeAssert (.iface 181 v) 114 171 true).run Try.prog w = .ok (.tuple #[.agg #[], .bool false]) w := by kernel_rfl
theorem is_dot_star (v : Value) (w : World) : (Instr.typeAssert (.iface 181 v) 114 182 true).run Try.prog w = .ok (.tuple #[.agg #[.nilIface, .int .i64 0], .bool false]) w := by kernel_rfl
theorem is_dot_test (v : Value) (w : World) : (Instr.typeAssert (.iface 181 v) 114 173 true).run Try.prog w = .ok (.tuple #[.agg #[.int .i64 0], .bool false]) w := by kernel_rfl
theorem is_dot_not (v : Value) (w : World) : (Instr.typeAssert (.iface 181 v) 114 175 true).run Try.prog w = .ok (.tuple #[.agg #[.nilIface, .int .i64 0], .bool false]) w := by kernel_rfl
theorem is_dot_sum (v : Value) (w : World) : (Instr.typeAssert (.iface 181 v) 114 179 true).run Try.prog w = .ok (.tuple #[.agg #[.nilIface, .nilIface, .int .i64 0], .bool false]) w := by kernel_rfl
theorem is_dot_dot (v : Value) (w : World) : (Instr.typeAssert (.iface 181 v) 114 181 true).run Try.prog w = .ok (.tuple #[v, .bool true]) w := by kernel_rfl
theorem is_star_one (v : Value) (w : World) : (Instr.typeAssert (.iface 182 v) 114 171 true).run Try.prog w = .ok (.tuple #[.agg #[], .bool false]) w := by kernel_rfl
theorem is_star_star (v : Value) (w : World) : (Instr.typeAssert (.iface 182 v) 114 182 true).run Try.prog w = .ok (.tuple #[v, .bool true]) w := by kernel_rfl
theorem is_star_test (v : Value) (w : World) : (Instr.typeAssert (.iface 182 v) 114 173 true).run Try.prog w = .ok (.tuple #[.agg #[.int .i64 0], .bool false]) w := by kernel_rfl
theorem is_star_not (v : Value) (w : World) : (Instr.typeAssert (.iface 182 v) 114 175 true).run Try.prog w = .ok (.tuple #[.agg #[.nilIface, .int .i64 0], .bool false]) w := by kernel_rfl
theorem is_star_sum (v : Value) (w : World) : (Instr.typeAssert (.iface 182 v) 114 179 true).run Try.prog w = .ok (.tuple #[.agg #[.nilIface, .nilIface, .int .i64 0], .bool false]) w := by kernel_rfl
theorem is_star_dot (v : Value) (w : World) : (Instr.typeAssert (.iface 182 v) 114 181 true).run Try.prog w = .ok (.tuple #[.agg #[.nilIface, .nilIface, .int .i64 0], .bool false]) w := by kernel_rfl
end Go.Proofs.Ytojheipllpkgdaa

namespace Go.Proofs.Ytojheipllpkgdaa
open Go.RowKit

/-- Whether a test holds at an atom. -/
def bitB (x n : Int) : Bool := decide (x / 2 ^ n.toNat % 2 = 1)
namespace Nd
/-- Whether a node has the word of length 0 with an atom. -/
def emptyB (x : Int) : Nd → Bool
  | zero | act _ => false
  | one | star _ => true
  | test n => bitB x n
  | not a => !a.emptyB x
  | sum a b => a.emptyB x || b.emptyB x
  | dot a b => a.emptyB x && b.emptyB x
/-- All tests are among the first three. -/
def okT : Nd → Prop
  | zero | one | act _ => True
  | test n => 0 ≤ n ∧ n ≤ 2
  | not a | star a => a.okT
  | sum a b | dot a b => a.okT ∧ b.okT
end Nd

theorem ndE_okT (t a : Int) (ht : t ≤ 3) : ∀ (N : Nat) (f : Fo), f.nodes < N → ∀ (b : Bool) (k n : Int), treeE t a b k n f = true → (ndE f k n).okT := by
  intro N
  induction N with
  | zero => intro f hN; exact absurd hN (Nat.not_lt_zero _)
  | succ N ih =>
    intro f hN b k n h
    rcases tree_forms h with ⟨rfl, hk⟩ | ⟨k1, n1, f1, rfl, hk, h1⟩ | ⟨k1, n1, f1, k2, n2, f2, rfl, hk, h1, h2⟩
    · rcases hk with rfl | rfl | ⟨rfl, hn, hn'⟩ | ⟨rfl, _, _⟩
      · trivial
      · trivial
      · show 0 ≤ n ∧ n ≤ 2; omega
      · trivial
    · have := ih f1 (by simp only [Fo.nodes] at hN; omega) _ k1 n1 h1
      rcases hk with rfl | rfl <;> exact this
    · have g1 := ih f1 (by simp only [Fo.nodes] at hN; omega) _ k1 n1 h1
      have g2 := ih f2 (by simp only [Fo.nodes] at hN; omega) _ k2 n2 h2
      rcases hk with rfl | rfl <;> exact ⟨g1, g2⟩

theorem val_iface (a : Nd) : ∃ (T : TypeId) (x : Value), a.val = .iface T x := by
  cases a <;> exact ⟨_, _, rfl⟩

set_option maxRecDepth 100000 in
set_option maxHeartbeats 1000000 in
theorem holdsAt_any (n x : Int) (hn0 : 0 ≤ n) (hn1 : n ≤ 2) (hx0 : 0 ≤ x) (hx1 : x ≤ 7) (w : World) : Calls Try.prog 57 #[.int .i64 n, .int .i64 x] w fun e w' => e = .returned (.bool (bitB x n)) ∧ Below w.heap.size w w' := by
  have hn : n = 0 ∨ n = 1 ∨ n = 2 := by omega
  have hx : x = 0 ∨ x = 1 ∨ x = 2 ∨ x = 3 ∨ x = 4 ∨ x = 5 ∨ x = 6 ∨ x = 7 := by omega
  clear hn0 hn1 hx0 hx1
  rcases hn with rfl | rfl | rfl <;> rcases hx with rfl | rfl | rfl | rfl | rfl | rfl | rfl | rfl
  all_goals
    go_enter Try.func57, Try.ntmps57
    go_wp2_with fail
    go_ret
    exact ⟨by first | rfl | (simp [bitB]; done) | decide, by go_grown⟩

set_option maxRecDepth 100000 in
set_option maxHeartbeats 2000000 in
theorem emptyAt_any (x : Int) (hx0 : 0 ≤ x) (hx1 : x ≤ 7) : ∀ (d : Nd) (w : World), d.okT → Calls Try.prog 131 #[d.val, .int .i64 x] w fun e w' => e = .returned (.bool (d.emptyB x)) ∧ Below w.heap.size w w' := by
  intro d
  induction d with
  | zero =>
    intro w _
    show Calls Try.prog 131 #[.iface 186 (.agg #[]), .int .i64 x] w _
    have q_one := is_zero_one
    have q_star := is_zero_star
    have q_test := is_zero_test
    have q_not := is_zero_not
    have q_sum := is_zero_sum
    have q_dot := is_zero_dot
    go_enter Try.func131, Try.ntmps131
    go_wp2_with fail
    go_ret
    exact ⟨rfl, by go_grown⟩
  | one =>
    intro w _
    show Calls Try.prog 131 #[.iface 171 (.agg #[]), .int .i64 x] w _
    have q_one := is_one_one
    have q_star := is_one_star
    go_enter Try.func131, Try.ntmps131
    go_wp2_with fail
    go_ret
    exact ⟨rfl, by go_grown⟩
  | act n =>
    intro w _
    show Calls Try.prog 131 #[.iface 177 (.agg #[.int .i64 n]), .int .i64 x] w _
    have q_one := is_act_one
    have q_star := is_act_star
    have q_test := is_act_test
    have q_not := is_act_not
    have q_sum := is_act_sum
    have q_dot := is_act_dot
    go_enter Try.func131, Try.ntmps131
    go_wp2_with fail
    go_ret
    exact ⟨rfl, by go_grown⟩
  | star a _ =>
    intro w _
    show Calls Try.prog 131 #[.iface 182 (.agg #[a.val, .int .i64 (1 + a.size : Nat)]), .int .i64 x] w _
    generalize a.val = v
    generalize ((1 + a.size : Nat) : Int) = z
    have q_one := is_star_one
    have q_star := is_star_star
    go_enter Try.func131, Try.ntmps131
    go_wp2_with fail
    go_ret
    exact ⟨rfl, by go_grown⟩
  | test n =>
    intro w hn
    obtain ⟨q, hq⟩ : ∃ q : Bool, q = bitB x n := ⟨_, rfl⟩
    have K1 : Hid (∀ W : World, Calls Try.prog 57 #[.int .i64 n, .int .i64 x] W fun e w' => e = .returned (.bool q) ∧ Below W.heap.size W w') := fun W => by rw [hq]; exact holdsAt_any n x hn.1 hn.2 hx0 hx1 W
    have HD : Hid ((Nd.test n).emptyB x = q) := by show _ = _; rw [hq]; rfl
    clear hq hn
    show Calls Try.prog 131 #[.iface 173 (.agg #[.int .i64 n]), .int .i64 x] w _
    have q_one := is_test_one
    have q_star := is_test_star
    have q_test := is_test_test
    go_enter Try.func131, Try.ntmps131
    go_wp2_with fail
    refine (K1.out _).mono ?_
    rintro e w1 ⟨rfl, hb⟩
    have B1 : Sees w w1 := Sees.below (by unfold Sees; go_grown) hb
    clear hb
    go_wp2_with fail
    go_ret
    exact ⟨ret_bool HD.out.symm, B1⟩
  | not a ih =>
    intro w hn
    obtain ⟨q, hq⟩ : ∃ q : Bool, q = a.emptyB x := ⟨_, rfl⟩
    have K1 : Hid (∀ W : World, Calls Try.prog 131 #[a.val, .int .i64 x] W fun e w' => e = .returned (.bool q) ∧ Below W.heap.size W w') := fun W => by rw [hq]; exact ih W hn
    have HD : Hid ((Nd.not a).emptyB x = !q) := by show _ = _; rw [hq]; rfl
    clear ih hq
    show Calls Try.prog 131 #[.iface 175 (.agg #[a.val, .int .i64 (1 + a.size : Nat)]), .int .i64 x] w _
    obtain ⟨T1, x1, h1⟩ := val_iface a
    rw [h1] at K1 ⊢
    clear h1
    generalize ((1 + a.size : Nat) : Int) = z
    have q_one := is_not_one
    have q_star := is_not_star
    have q_test := is_not_test
    have q_not := is_not_not
    go_enter Try.func131, Try.ntmps131
    go_wp2_with fail
    refine (K1.out _).mono ?_
    rintro e w1 ⟨rfl, hb⟩
    have B1 : Sees w w1 := Sees.below (by unfold Sees; go_grown) hb
    clear hb
    go_wp2_with fail
    go_ret
    exact ⟨ret_bool HD.out.symm, B1⟩
  | sum a b iha ihb =>
    intro w hn
    obtain ⟨q, hq⟩ : ∃ q : Bool, q = a.emptyB x := ⟨_, rfl⟩
    obtain ⟨r, hr⟩ : ∃ r : Bool, r = b.emptyB x := ⟨_, rfl⟩
    have K1 : Hid (∀ W : World, Calls Try.prog 131 #[a.val, .int .i64 x] W fun e w' => e = .returned (.bool q) ∧ Below W.heap.size W w') := fun W => by rw [hq]; exact iha W hn.1
    have K2 : Hid (∀ W : World, Calls Try.prog 131 #[b.val, .int .i64 x] W fun e w' => e = .returned (.bool r) ∧ Below W.heap.size W w') := fun W => by rw [hr]; exact ihb W hn.2
    have HD : Hid ((Nd.sum a b).emptyB x = (q || r)) := by show _ = _; rw [hq, hr]; rfl
    clear iha ihb hq hr hn
    show Calls Try.prog 131 #[.iface 179 (.agg #[a.val, b.val, .int .i64 (1 + a.size + b.size : Nat)]), .int .i64 x] w _
    obtain ⟨T1, x1, h1⟩ := val_iface a
    obtain ⟨T2, x2, h2⟩ := val_iface b
    rw [h1] at K1 ⊢
    rw [h2] at K2 ⊢
    clear h1 h2
    generalize ((1 + a.size + b.size : Nat) : Int) = z
    cases q
    all_goals
      have q_one := is_sum_one
      have q_star := is_sum_star
      have q_test := is_sum_test
      have q_not := is_sum_not
      have q_sum := is_sum_sum
      go_enter Try.func131, Try.ntmps131
      go_wp2_with fail
      refine (K1.out _).mono ?_
      rintro e w1 ⟨rfl, hb⟩
      have y1 := kc (b := w.heap.size) (o := 1) (v := .iface T2 x2) hb (by simp [go_sem])
      have B1 : Sees w w1 := Sees.below (by unfold Sees; go_grown) hb
      clear hb
      go_wp2_with fail
    · refine (K2.out _).mono ?_
      rintro e w2 ⟨rfl, hb⟩
      have B2 := B1.below hb
      clear hb
      go_wp2_with fail
      go_ret
      exact ⟨ret_bool HD.out.symm, B2⟩
    · go_ret
      exact ⟨ret_bool HD.out.symm, B1⟩
  | dot a b iha ihb =>
    intro w hn
    obtain ⟨q, hq⟩ : ∃ q : Bool, q = a.emptyB x := ⟨_, rfl⟩
    obtain ⟨r, hr⟩ : ∃ r : Bool, r = b.emptyB x := ⟨_, rfl⟩
    have K1 : Hid (∀ W : World, Calls Try.prog 131 #[a.val, .int .i64 x] W fun e w' => e = .returned (.bool q) ∧ Below W.heap.size W w') := fun W => by rw [hq]; exact iha W hn.1
    have K2 : Hid (∀ W : World, Calls Try.prog 131 #[b.val, .int .i64 x] W fun e w' => e = .returned (.bool r) ∧ Below W.heap.size W w') := fun W => by rw [hr]; exact ihb W hn.2
    have HD : Hid ((Nd.dot a b).emptyB x = (q && r)) := by show _ = _; rw [hq, hr]; rfl
    clear iha ihb hq hr hn
    show Calls Try.prog 131 #[.iface 181 (.agg #[a.val, b.val, .int .i64 (1 + a.size + b.size : Nat)]), .int .i64 x] w _
    obtain ⟨T1, x1, h1⟩ := val_iface a
    obtain ⟨T2, x2, h2⟩ := val_iface b
    rw [h1] at K1 ⊢
    rw [h2] at K2 ⊢
    clear h1 h2
    generalize ((1 + a.size + b.size : Nat) : Int) = z
    cases q
    all_goals
      have q_one := is_dot_one
      have q_star := is_dot_star
      have q_test := is_dot_test
      have q_not := is_dot_not
      have q_sum := is_dot_sum
      have q_dot := is_dot_dot
      go_enter Try.func131, Try.ntmps131
      go_wp2_with fail
      refine (K1.out _).mono ?_
      rintro e w1 ⟨rfl, hb⟩
      have y1 := kc (b := w.heap.size) (o := 1) (v := .iface T2 x2) hb (by simp [go_sem])
      have B1 : Sees w w1 := Sees.below (by unfold Sees; go_grown) hb
      clear hb
      go_wp2_with fail
    · go_ret
      exact ⟨ret_bool HD.out.symm, B1⟩
    · refine (K2.out _).mono ?_
      rintro e w2 ⟨rfl, hb⟩
      have B2 := B1.below hb
      clear hb
      go_wp2_with fail
      go_ret
      exact ⟨ret_bool HD.out.symm, B2⟩

end Go.Proofs.Ytojheipllpkgdaa

namespace Go.Proofs.Ytojheipllpkgdaa
open Go.RowKit
set_option linter.unusedVariables false

def wmT (t : Nat) (p : List Int) : List (List Bool) := tab t p.length fun i x => bitB (nth p x) i
def wmF (n : Nat) (r : List Int) (c : Nat) (x y : Nat) : Bool := decide (x + 1 < n) && (decide (y = x + 1) && decide (nth r x = (c : Int)))
def wmR (n : Nat) (r : List Int) (c : Nat) : List (List Bool) := tab n n (wmF n r c)
def wmA (a n : Nat) (r : List Int) : List (List (List Bool)) := (List.range a).map (wmR n r)
theorem wmT_len (t : Nat) (p : List Int) : (wmT t p).length = t := tab_len _ _ _
theorem wmA_len (a n : Nat) (r : List Int) : (wmA a n r).length = a := by simp [wmA]
theorem wmT_step {t : Nat} {p : List Int} {j : Nat} (h : j < t) : (wmT t p).take (j + 1) = (wmT t p).take j ++ [(List.range p.length).map fun x => bitB (nth p x) j] := by
  have h1 : j < (wmT t p).length := by rw [wmT_len]; exact h
  rw [List.take_succ_eq_append_getElem h1]
  have e : (wmT t p)[j] = (List.range p.length).map fun x => bitB (nth p x) j := tab_row _ _ _ h1
  rw [e]
theorem wmA_step {a n : Nat} {r : List Int} {j : Nat} (h : j < a) : (wmA a n r).take (j + 1) = (wmA a n r).take j ++ [wmR n r j] := by
  have h1 : j < (wmA a n r).length := by rw [wmA_len]; exact h
  rw [List.take_succ_eq_append_getElem h1]
  simp [wmA]
/-- A table of an action filled up to row x. -/
def wmU (n : Nat) (r : List Int) (c x : Nat) : List (List Bool) := tab n n fun i j => decide (i < x) && wmF n r c i j
theorem wmU_len (n : Nat) (r : List Int) (c x : Nat) : (wmU n r c x).length = n := tab_len _ _ _
theorem wmU_at {n : Nat} {r : List Int} {c x i : Nat} (h : i < (wmU n r c x).length) : (wmU n r c x)[i] = (List.range n).map fun j => decide (i < x) && wmF n r c i j := tab_row _ _ _ h
theorem wmU_zero (n : Nat) (r : List Int) (c : Nat) : wmU n r c 0 = List.replicate n (List.replicate n false) := by
  unfold wmU tab
  simp [List.map_const']
theorem wmU_all {n : Nat} {r : List Int} {c x : Nat} (h : n ≤ x + 1) : wmU n r c x = wmR n r c := tab_ext fun i j hi hj => by
  by_cases hx : i < x
  · simp [hx]
  · have h2 : ¬ i + 1 < n := by omega
    simp [wmF, h2]
theorem wmU_set {n : Nat} {r : List Int} {c x : Nat} (hx : x + 1 < n) (hl : x < (wmU n r c x).length) : (wmU n r c x).set x ((wmU n r c x)[x].set (x + 1) (decide (nth r x = (c : Int)))) = wmU n r c (x + 1) := by
  refine List.ext_getElem (by simp [wmU_len]) fun i h1 h2 => ?_
  rw [wmU_at h2, List.getElem_set]
  by_cases hix : x = i
  · rw [if_pos hix]
    subst hix
    rw [wmU_at hl]
    refine List.ext_getElem (by simp) fun j h3 h4 => ?_
    rw [List.getElem_set]
    simp only [List.getElem_map, List.getElem_range]
    by_cases hjy : x + 1 = j
    · subst hjy
      simp [wmF, hx]
    · rw [if_neg hjy]
      have h5 : ¬ j = x + 1 := fun h => hjy h.symm
      simp [wmF, h5]
  · rw [if_neg hix]
    have h5 : i < (wmU n r c x).length := by rw [wmU_len] at h2 ⊢; exact h2
    rw [wmU_at h5]
    refine List.map_congr_left fun j _ => ?_
    by_cases h : i < x
    · have h6 : i < x + 1 := by omega
      simp [h, h6]
    · have h6 : ¬ i < x + 1 := by omega
      simp [h, h6]
theorem wmU_put {n x : Nat} {r : List Int} {c : Nat} {W : World} {A : Option Addr} {F : FP} (h : BBF W (wmU n r c x) A F) (hx : x + 1 < n) :
    ∃ b q C old, A = some ⟨b, 0, none⟩ ∧ F b ∧ F q ∧ W.cell? ⟨b, x, none⟩ = some (.slice (some ⟨q, 0, none⟩) n C) ∧ W.cell? ⟨q, x + 1, none⟩ = some (.bool old) ∧ W.frozen? ⟨q, x + 1, none⟩ = false ∧ BBF (W.setCell ⟨q, x + 1, none⟩ (.bool (decide (nth r x = (c : Int))))) (wmU n r c (x + 1)) A F := by
  have hl : x < (wmU n r c x).length := by rw [wmU_len]; omega
  have hrl : (wmU n r c x)[x].length = n := by rw [wmU_at hl]; simp
  obtain ⟨b, q, C, h1, h2, h3, h4, h5, h6, h7⟩ := BBF.put h hl (y := x + 1) (by rw [hrl]; exact hx)
  rw [hrl] at h4
  exact ⟨b, q, C, _, h1, h2, h3, h4, h5, h6, by rw [← wmU_set hx hl]; exact h7 _⟩
/-- A table within a list of tables: the cell's way, and the list behind a store there. -/
theorem BBBF.put {w : World} {xs : List (List (List Bool))} {A : Option Addr} {F : FP} (h : BBBF w xs A F) {i x y : Nat} (hi : i < xs.length) (hx : x < xs[i].length) (hy : y < xs[i][x].length) :
    ∃ a b r C D, A = some ⟨a, 0, none⟩ ∧ F a ∧ F b ∧ F r ∧ w.cell? ⟨a, i, none⟩ = some (.slice (some ⟨b, 0, none⟩) xs[i].length D) ∧ w.cell? ⟨b, x, none⟩ = some (.slice (some ⟨r, 0, none⟩) xs[i][x].length C) ∧ w.cell? ⟨r, y, none⟩ = some (.bool xs[i][x][y]) ∧ w.frozen? ⟨r, y, none⟩ = false ∧
      ∀ v : Bool, BBBF (w.setCell ⟨r, y, none⟩ (.bool v)) (xs.set i (xs[i].set x (xs[i][x].set y v))) A F := by
  rcases h with h | ⟨a, G, hA, ha, hf, hrow, hG, hdis⟩
  · subst h; simp at hi
  obtain ⟨B, D, hc, hQ⟩ := hrow i xs[i] (List.getElem?_eq_getElem hi)
  obtain ⟨b, r, C, hB, hb, hr, h4, h5, h6, h7⟩ := BBF.put hQ hx hy
  subst hB
  have hra : r ≠ a := (hG i r hr).2
  refine ⟨a, b, r, C, D, hA, ha, (hG i b hb).1, (hG i r hr).1, hc, h4, h5, h6, fun v => ?_⟩
  have hk : ∀ k, k ≠ r → (w.setCell ⟨r, y, none⟩ (.bool v)).heap[k]? = w.heap[k]? := fun k hk => Below.heap_setCell _ _ _ _ hk
  refine Or.inr ⟨a, G, hA, ha, fun j => by rw [World.frozen?_setCell]; exact hf j, fun j z hz => ?_, hG, hdis⟩
  have hcb : (w.setCell ⟨r, y, none⟩ (.bool v)).cell? ⟨a, j, none⟩ = w.cell? ⟨a, j, none⟩ := World.cell?_of_block (a := ⟨a, j, none⟩) (hk a (fun h => hra h.symm))
  rw [hcb]
  by_cases hji : j = i
  · subst hji
    have hz2 : z = xs[j].set x (xs[j][x].set y v) := by
      rw [List.getElem?_set_self hi] at hz
      exact (Option.some.inj hz).symm
    subst hz2
    exact ⟨some ⟨b, 0, none⟩, D, by rw [List.length_set]; exact hc, h7 v⟩
  · rw [List.getElem?_set_ne (fun h => hji h.symm)] at hz
    obtain ⟨B2, C2, g1, g2⟩ := hrow j z hz
    exact ⟨B2, C2, g1, bbF_ok.keep g2 fun k hk2 => hk k (fun he => hji (hdis j i k hk2 (he ▸ hr)))⟩
/-- What WordModel answers. -/
def wmO (t a : Int) (p r : List Int) : Int × Int × Int × List (List Bool) × List (List (List Bool)) × Int :=
  if validW t a p r = true then if p.length ≤ 8 then (t, a, p.length, wmT t.toNat p, wmA a.toNat p.length r, 0) else (0, 0, 0, [], [], 3) else (0, 0, 0, [], [], 1)
def WEnd (t a : Int) (p r : List Int) (w : World) : Ending → World → Prop :=
  MEnd (wmO t a p r).1 (wmO t a p r).2.1 (wmO t a p r).2.2.1 (wmO t a p r).2.2.2.1 (wmO t a p r).2.2.2.2.1 (wmO t a p r).2.2.2.2.2 w
theorem WEnd.yes {t a : Nat} {p r : List Int} {w w' : World} {e : Ending} (hv : validW t a p r = true) (hp : p.length ≤ 8) (h : MEnd t a p.length (wmT t p) (wmA a p.length r) 0 w e w') : WEnd t a p r w e w' := by
  unfold WEnd wmO
  rw [if_pos hv, if_pos hp]
  exact h
theorem WEnd.far {t a : Int} {p r : List Int} {w w' : World} {e : Ending} (hv : validW t a p r = true) (hp : ¬ p.length ≤ 8) (h : MEnd 0 0 0 [] [] 3 w e w') : WEnd t a p r w e w' := by
  unfold WEnd wmO
  rw [if_pos hv, if_neg hp]
  exact h
theorem WEnd.no {t a : Int} {p r : List Int} {w w' : World} {e : Ending} (hv : validW t a p r = false) (h : MEnd 0 0 0 [] [] 1 w e w') : WEnd t a p r w e w' := by
  unfold WEnd wmO
  rw [if_neg (by rw [hv]; decide)]
  exact h
structure WmOk (t a : Int) (p r : List Int) : Prop where
  t0 : 0 ≤ t
  t3 : t ≤ 3
  a0 : 0 ≤ a
  a4 : a ≤ 4
  len : p.length = r.length + 1
  pb : ∀ x, x < p.length → 0 ≤ nth p x ∧ nth p x ≤ 7
  rb : ∀ x, x < r.length → 0 ≤ nth r x ∧ nth r x < a
theorem all_nth {f : Int → Bool} {xs : List Int} (h : xs.all f = true) {x : Nat} (hx : x < xs.length) : f (nth xs x) = true := by
  have h1 := List.all_eq_true.1 h xs[x] (List.getElem_mem hx)
  have h2 : nth xs x = xs[x] := by simp [nth, List.getD, hx]
  rw [h2]; exact h1
theorem wmOk_of {t a : Int} {p r : List Int} (h : validW t a p r = true) : WmOk t a p r := by
  unfold validW at h
  simp only [Bool.and_eq_true, decide_eq_true_eq] at h
  obtain ⟨⟨⟨⟨h1, h2⟩, h3⟩, h4⟩, h5⟩ := h
  obtain ⟨t0, t3, a0, a4⟩ := sigOk_of h1
  refine ⟨t0, t3, a0, a4, h3, fun x hx => ?_, fun x hx => ?_⟩
  · have h6 := all_nth h4 hx
    unfold atomB inB at h6
    simp only [decide_eq_true_eq] at h6
    have h7 : atomsN t ≤ 8 := by unfold atomsN; split <;> (try split) <;> (try split) <;> omega
    omega
  · have h6 := all_nth h5 hx
    unfold actB inB at h6
    simp only [decide_eq_true_eq] at h6
    omega
theorem wmO_small (t a : Int) (p r : List Int) : modN (wmO t a p r).2.2.2.1 (wmO t a p r).2.2.2.2.1 ≤ 1048576 := by
  unfold wmO
  split
  · rename_i hv
    split
    · rename_i hp
      obtain ⟨t0, t3, a0, a4, _, _, _⟩ := wmOk_of hv
      have h1 : tot List.length (wmT t.toNat p) ≤ 3 + 3 * 8 := tot_le List.length (fun x hx => by rw [tab_rows hx]; omega) (by rw [wmT_len]; omega)
      have h2 : tot (tot List.length) (wmA a.toNat p.length r) ≤ 4 + 4 * (8 + 8 * 8) := tot_le (tot List.length) (fun x hx => by
        obtain ⟨c, _, rfl⟩ := List.mem_map.1 hx
        exact tot_le List.length (fun y hy => by rw [tab_rows hy]; omega) (by rw [show wmR p.length r c = tab p.length p.length (wmF p.length r c) from rfl, tab_len]; omega)) (by rw [wmA_len]; omega)
      show modN (wmT t.toNat p) (wmA a.toNat p.length r) ≤ _
      unfold modN
      omega
    · show modN [] [] ≤ _
      decide
  · show modN [] [] ≤ _
    decide
/-- The impl's stores: every row so far, in all tables at once. -/
def wmV (a n : Nat) (r : List Int) (x : Nat) : List (List (List Bool)) := (List.range a).map fun c => wmU n r c x
theorem wmV_len (a n : Nat) (r : List Int) (x : Nat) : (wmV a n r x).length = a := by simp [wmV]
theorem wmV_zero (a n : Nat) (r : List Int) : wmV a n r 0 = List.replicate a (tab n n fun _ _ => false) := by
  unfold wmV
  have : ∀ c, wmU n r c 0 = tab n n fun _ _ => false := fun c => tab_ext fun i j _ _ => by simp
  rw [List.map_congr_left (fun c _ => this c)]
  simp [List.map_const']
theorem wmV_all {a n : Nat} {r : List Int} {x : Nat} (h : n ≤ x + 1) : wmV a n r x = wmA a n r := List.map_congr_left fun c _ => wmU_all h
theorem wmV_at {a n : Nat} {r : List Int} {x c : Nat} (h : c < (wmV a n r x).length) : (wmV a n r x)[c] = wmU n r c x := by simp [wmV]
theorem wmU_off {n : Nat} {r : List Int} {c x : Nat} (h : nth r x ≠ (c : Int)) : wmU n r c (x + 1) = wmU n r c x := tab_ext fun i j _ _ => by
  by_cases h1 : i < x
  · have h2 : i < x + 1 := by omega
    simp [h1, h2]
  · by_cases h3 : i = x
    · subst h3; simp [wmF, h]
    · have h4 : ¬ i < x + 1 := by omega
      simp [h1, h4]
theorem wmV_set {a n : Nat} {r : List Int} {x c : Nat} (hx : x + 1 < n) (hc : nth r x = (c : Int)) (hca : c < (wmV a n r x).length) (hl : x < (wmV a n r x)[c].length) : (wmV a n r x).set c ((wmV a n r x)[c].set x ((wmV a n r x)[c][x].set (x + 1) true)) = wmV a n r (x + 1) := by
  refine List.ext_getElem (by simp [wmV_len]) fun i h1 h2 => ?_
  rw [wmV_at h2, List.getElem_set]
  by_cases hic : c = i
  · subst hic
    rw [if_pos rfl]
    have e := wmV_at hca
    have hl2 : x < (wmU n r c x).length := by rw [wmU_len]; omega
    have h3 := wmU_set (c := c) hx hl2
    rw [decide_eq_true hc] at h3
    simp only [e]
    exact h3
  · rw [if_neg hic]
    have h5 : i < (wmV a n r x).length := by rw [wmV_len] at h2 ⊢; exact h2
    rw [wmV_at h5, wmU_off (by rw [hc]; omega)]
theorem wmV_put {a n x c : Nat} {r : List Int} {W : World} {A : Option Addr} {F : FP} (h : BBBF W (wmV a n r x) A F) (hx : x + 1 < n) (hc : nth r x = (c : Int)) (hca : c < a) :
    ∃ a1 b q C D old, A = some ⟨a1, 0, none⟩ ∧ F a1 ∧ F b ∧ F q ∧ W.cell? ⟨a1, c, none⟩ = some (.slice (some ⟨b, 0, none⟩) n D) ∧ W.cell? ⟨b, x, none⟩ = some (.slice (some ⟨q, 0, none⟩) n C) ∧ W.cell? ⟨q, x + 1, none⟩ = some (.bool old) ∧ W.frozen? ⟨q, x + 1, none⟩ = false ∧ BBBF (W.setCell ⟨q, x + 1, none⟩ (.bool true)) (wmV a n r (x + 1)) A F := by
  have hl : c < (wmV a n r x).length := by rw [wmV_len]; exact hca
  have h1 : (wmV a n r x)[c].length = n := by rw [wmV_at hl, wmU_len]
  have hx1 : x < (wmV a n r x)[c].length := by rw [h1]; omega
  have h2 : (wmV a n r x)[c][x].length = n := by
    have : (wmV a n r x)[c][x] = (wmU n r c x)[x]'(by rw [wmU_len]; omega) := by simp only [wmV_at hl]
    rw [this, wmU_at]; simp
  obtain ⟨a1, b, q, C, D, g1, g2, g3, g4, g5, g6, g7, g8, g9⟩ := BBBF.put h hl hx1 (y := x + 1) (by rw [h2]; exact hx)
  rw [h1] at g5
  rw [h2] at g6
  exact ⟨a1, b, q, C, D, _, g1, g2, g3, g4, g5, g6, g7, g8, by rw [← wmV_set hx hc hl hx1]; exact g9 _⟩
end Go.Proofs.Ytojheipllpkgdaa

namespace Go.Proofs.Ytojheipllpkgdaa
open Go.RowKit
set_option linter.unusedVariables false

set_option maxRecDepth 100000 in
theorem wmBit : ∀ j : Nat, j ≤ 2 → ∀ v : Nat, v ≤ 7 → (bits BinOp.and IntKind.i64 ((v : Int) / 2 ^ j) 1 == 1) = bitB (v : Int) (j : Int) := by decide +kernel

set_option maxHeartbeats 8000000 in
set_option maxRecDepth 100000 in
theorem l05WordModel_any (t a : Nat) (p r : List Int) (ok : WmOk t a p r) (h8 : p.length ≤ 8) (A B : Option Addr) (C D bw : Nat) (w : World) (hA : Ints w p A) (hB : Ints w r B)
    (g0 : w.cell? ⟨bw, 0, none⟩ = some (.slice A p.length C)) (g1 : w.cell? ⟨bw, 1, none⟩ = some (.slice B r.length D)) :
    Calls Try.prog 51 #[.agg #[.int .i64 (t : Int), .int .i64 (a : Int)], .pointer (some ⟨bw, 0, none⟩)] w (MRet t a p.length (wmT t p) (wmA a p.length r) w) := by
  obtain ⟨_, ht3, _, ha4, hlen0, hpb, hrb⟩ := ok
  obtain ⟨n, hn⟩ : ∃ n, n = p.length := ⟨_, rfl⟩
  rw [← hn] at g0 h8 ⊢
  have hn8 : n ≤ 8 := h8
  have HN8 := Lib.hid hn8; have HPB := Lib.hid hpb; have HRB := Lib.hid hrb; have HA := Lib.hid hA; have HB := Lib.hid hB; have HT3 := Lib.hid ht3; have HA4 := Lib.hid ha4; have HL0 := Lib.hid hlen0
  have HG := Lib.hid (And.intro g0 g1)
  have lbm : bw < w.heap.size := World.block_lt_of_cell? _ _ g0
  obtain ⟨w1, hw1⟩ : ∃ w1, w1 = (w.alloc (.cells #[.int .i64 (t : Int), .int .i64 (a : Int)] 28)).alloc (.cells #[.int .i64 0, .int .i64 0, .int .i64 0, .slice none 0 0, .slice none 0 0] 32) := ⟨_, rfl⟩
  have hs1 : w1.heap[w.heap.size]? = some (.cells #[.int .i64 (t : Int), .int .i64 (a : Int)] 28 (0, 0)) := by rw [hw1]; exact (Below.heap_alloc _ _ _ (by simp)).trans (heap_new _ _ _ rfl)
  have hr1 : w1.heap[w.heap.size + 1]? = some (.cells #[.int .i64 0, .int .i64 0, .int .i64 0, .slice none 0 0, .slice none 0 0] 32 (0, 0)) := by rw [hw1]; exact heap_new _ _ _ (by simp)
  have HS1B := Lib.hid hs1; have HR1 := Lib.hid hr1
  have S1 : Sees w w1 := by rw [hw1]; exact ((Sees.refl w).alloc _).alloc _
  have HS1 := Lib.hid S1
  have z1 : w1.heap.size = w.heap.size + 1 + 1 := by rw [hw1]; simp
  obtain ⟨w2, hw2⟩ : ∃ w2, w2 = w1.alloc (.cells #[.int .i64 (t : Int), .int .i64 (a : Int), .int .i64 (n : Int), .slice none 0 0, .slice none 0 0] 32) := ⟨_, rfl⟩
  have hb2 : Below w1.heap.size w1 w2 := by rw [hw2]; exact (Below.refl _ _).alloc (Nat.le_refl _) _
  have HB2_ := Lib.hid hb2
  have hz2 : w1.heap.size < w2.heap.size := by rw [hw2]; simp
  have HZ2 := Lib.hid hz2
  have H2 : Hid (BA 91 BoolsF List.length (fun v => #[.int .i64 (t : Int), .int .i64 (a : Int), .int .i64 (n : Int), v, .slice none 0 0]) w1.heap.size w2 ((wmT t p).take 0) (.slice none 0 0) w2) := ⟨by rw [hw2]; exact heap_new _ _ _ rfl, Acc.start, ButF.refl _ _, hz2⟩
  have HN := Lib.hid hn
  have k0 := kc S1 g0
  have s0 := Fo.cell_of_block hs1 0; have s1 := Fo.cell_of_block hs1 1
  rw [hw1] at k0 s0 s1
  clear hA hB hpb hrb ha4 ht3 hlen0 g0 g1 hb2 hz2 hr1 hs1 h8 hn
  go_enter Try.func51, Try.ntmps51
  go_wp2_with fail
  rw [← hw1, ← hw2, ← z1]
  have HZ1 := Lib.hid z1
  clear hw1 hw2 k0 s0 s1 S1 z1
  go_loopw [7] (fun i wr => ∃ (j : Nat) (v : Value), j ≤ t ∧ i = .int .i64 j ∧ Hid (BA 91 BoolsF List.length (fun v => #[.int .i64 (t : Int), .int .i64 (a : Int), .int .i64 (n : Int), v, .slice none 0 0]) w1.heap.size w2 ((wmT t p).take j) v wr)) (fun i _ => t - (intOf i).toNat)
  case atStart => exact ⟨0, _, Nat.zero_le _, rfl, H2.out⟩
  case round =>
    obtain ⟨j, v, hj, rfl, hS⟩ := hrel
    clear H2
    obtain ⟨w3, rfl⟩ : ∃ w3, w3 = wr := ⟨_, rfl⟩
    have B3 := Lib.hid (hS.out.but.old HB2_.out)
    have S3 : Sees w w3 := HS1.out.below B3.out
    have HS3 := Lib.hid S3
    have lw1 : w.heap.size < w1.heap.size := by rw [HZ1.out]; omega
    have HSG := Lib.hid ((B3.out.block w.heap.size lw1).trans HS1B.out)
    have e0 := Fo.cell_of_block HSG.out 0
    by_cases hjt : j < t
    · have JL := Lib.hid hjt
      obtain ⟨TT, hTT⟩ : ∃ TT : Nat → Bool, TT = fun x => bitB (nth p x) j := ⟨_, rfl⟩
      have hstep := wmT_step (p := p) hjt
      rw [← hTT, ← HN.out] at hstep
      have HTT := Lib.hid hTT
      have HST := Lib.hid hstep
      have j0 : (0 : Int) ≤ (j : Int) := Int.natCast_nonneg _
      have j1 : (j : Int) < (t : Int) := by omega
      have j4 : j ≤ 1048576 := by have := HT3.out; omega
      have j2 : j ≤ 2 := by have := HT3.out; omega
      clear hstep hTT S3 hjt
      go_wp2_with fail
      clear e0
      go_loopw [8, 9] (fun sv i wr => ∃ (x : Nat) (rv : Value), x ≤ n ∧ i = .int .i64 x ∧ rv = sv ∧ Hid (OwnB wr w3.heap.size rv ((List.range x).map TT)) ∧ Hid (Below w3.heap.size w3 wr)) (fun _ i _ => n - (intOf i).toNat)
      case atStart => exact ⟨0, _, Nat.zero_le _, rfl, rfl, OwnB.made w3, (Below.refl _ _).alloc (Nat.le_refl _) _⟩
      case round =>
        obtain ⟨x, rv, hx, rfl, rfl, hO, hBw⟩ := hrel
        obtain ⟨wq, rfl⟩ : ∃ wq, wq = wr := ⟨_, rfl⟩
        by_cases hxn : x < n
        · have hxp : x < p.length := by rw [← HN.out]; exact hxn
          obtain ⟨v0, hv0⟩ : ∃ v0 : Nat, nth p x = (v0 : Int) := ⟨(nth p x).toNat, by have := HPB.out x hxp; omega⟩
          have hv7 : v0 ≤ 7 := by have := HPB.out x hxp; omega
          obtain ⟨q, hq⟩ : ∃ q, q = bitB (v0 : Int) (j : Int) := ⟨_, rfl⟩
          have HTQ : Hid (TT x = q) := by show _ = _; rw [hq, HTT.out, ← hv0]
          have hbit := wmBit j j2 v0 hv7
          rw [← hq] at hbit
          obtain ⟨yo, zo, hOe, hato⟩ := HA.out (by rintro rfl; simp at hxp)
          have co := hato x hxp
          rw [hv0] at co
          subst hOe
          have SW : Sees w wq := HS3.out.below hBw.out
          have d0 := kc SW HG.out.1; have d1 := kc SW co
          have x0 : (0 : Int) ≤ (x : Int) := Int.natCast_nonneg _
          have x1 : (x : Int) < (n : Int) := by omega
          have XL_ := Lib.hid hxn
          have HO2 : Hid (OwnB (wq.alloc (.cells #[.bool q] 4)) w3.heap.size rv ((List.range x).map TT)) := hO.out.keep ((Below.refl _ _).alloc (Nat.le_refl _) _)
          clear hq hxp hv0 hv7 hato co SW hxn hO
          go_wp2_with (at_builtin; refine wpList_one Try.elB _ rfl _ _ rfl w3.heap.size ((List.range x).map TT).length wq.heap.size rv (.bool q) _ rfl ?hx HO2.out ?hc rfl ?hn ?hz ?_)
          case hx => (first | rfl | simp)
          case hc => simp [go_sem]
          case hn => have := XL_.out; have := HN8.out; simp; omega
          case hz => have := hBw.out.size; simp; omega
          intro v' w' ho hg hat
          have HO4 : Hid (OwnB w' w3.heap.size v' ((List.range (x + 1)).map TT)) := by show OwnB _ _ _ _; rw [range_map_step, HTQ.out]; exact OwnB.push (by simpa using ho)
          have HB4 : Hid (Below w3.heap.size w3 w') := (hBw.out.alloc hBw.out.size _).grown hg (by have := hBw.out.size; simp; omega) (fun k hk => (World.ownsRow.lt HO2.out k hk).1)
          clear ho hg hat
          go_wp2_with fail
          go_roundw
          case rel => exact ⟨x + 1, v', XL_.out, by go_num, rfl, HO4.out, HB4.out⟩
          case measure => have := XL_.out; simp [intOf]; omega
        · have hex : x = n := by omega
          clear hxn hx
          rw [hex] at hO
          obtain ⟨A2, C2, hv2, hbools⟩ := hO.out.done
          simp only [List.length_map, List.length_range] at hv2
          subst hv2
          have hsa := hBw.out
          have hU := hS.out.grow boolsF_ok hsa
          obtain ⟨vals, hvl, hown, hpp⟩ := Acc.push boolsF_ok hS.out.acc hS.out.but.size hsa hbools (Wa := wq.alloc (.cells #[.slice A2 n C2] 91)) (C := C2) ((Below.refl _ _).alloc (Nat.le_refl _) _)
          have hlen : ((wmT t p).take j).length = j := by rw [List.length_take, wmT_len]; have := JL.out; omega
          have hln : List.length ((List.range n).map TT) = n := by simp
          rw [hln, hlen] at hpp
          rw [hlen] at hown
          have HU := Lib.hid hU; have HOWN := Lib.hid hown; have HPP := Lib.hid hpp
          obtain ⟨p0, p1, p2, p3, p4, o0, o1, o2, o3, o4⟩ := five_facts HU.out.box
          clear hsa hbools hU hown hpp hvl hlen hln hO hBw
          have HEX := Lib.hid hex
          obtain ⟨X, hX⟩ : ∃ X : Int, X = (x : Int) := ⟨_, rfl⟩
          have hX1 : decide (X < (n : Int)) = false := decide_eq_false (by rw [hX]; omega)
          rw [← hX]
          clear hex hX
          go_wp2_with (at_builtin; refine wpList_one Try.elBB _ rfl _ _ rfl w2.heap.size j wq.heap.size v (.slice A2 n C2) vals rfl ?hx HOWN.out ?hc rfl ?hn ?hz ?_)
          case hx => (first | rfl | simp)
          case hc => simp [go_sem]
          case hn => exact j4
          case hz => have := HU.out.but.size; simp; omega
          intro v' w' ho hg hat
          have hacc := HPP.out v' w' ho hg (by simpa using hat)
          obtain ⟨Zv, lv, Cv, hvf⟩ := accForm hacc
          subst hvf
          obtain ⟨hX, hbx⟩ := BA.push (i := 3) boolsF_ok (fun _ _ => rfl) (HU.out.grow boolsF_ok ((Below.refl _ _).alloc (Nat.le_refl _) (.cells #[.slice A2 n C2] 91))) hacc hg
          obtain ⟨q0, q1, q2, q3, q4, t0, t1, t2, t3, t4⟩ := five_facts hbx
          have HX2 : Hid (BA 91 BoolsF List.length (fun v => #[.int .i64 (t : Int), .int .i64 (a : Int), .int .i64 (n : Int), v, .slice none 0 0]) w1.heap.size w2 ((wmT t p).take (j + 1)) (.slice Zv lv Cv) (w'.setCell ⟨w1.heap.size, 3, none⟩ (.slice Zv lv Cv))) := by rw [HST.out]; exact hX
          clear hX hacc ho hg hat p0 p1 p2 p3 p4 o0 o1 o2 o3 o4 hbx
          go_wp2_with fail
          go_roundw
          case rel => exact ⟨j + 1, _, JL.out, by go_num, HX2.out⟩
          case measure => have := JL.out; simp [intOf]; omega
    · obtain rfl : t = j := by omega
      have hall : (wmT t p).take t = wmT t p := List.take_of_length_le (by rw [wmT_len]; exact Nat.le_refl _)
      rw [hall] at hS
      obtain ⟨A1, C1, hv1, hR1⟩ := hS.out.acc.done
      rw [wmT_len] at hv1
      subst hv1
      have B23 : Hid (w2.heap.size ≤ w3.heap.size) := hS.out.but.size
      have z3 : w1.heap.size < w3.heap.size := Nat.lt_of_lt_of_le HZ2.out hS.out.but.size
      have HTT3 : Hid (BBF w3 (wmT t p) A1 (rng w2.heap.size w3.heap.size)) := hR1
      have H3 : Hid (BA 29 BBF List.length (fun v => #[.int .i64 (t : Int), .int .i64 (a : Int), .int .i64 (n : Int), .slice A1 t C1, v]) w1.heap.size w3 ((wmA a n r).take 0) (.slice none 0 0) w3) := ⟨hS.out.box, Acc.start, ButF.refl _ _, z3⟩
      have j1 : decide ((t : Int) < (t : Int)) = false := by simp
      clear hR1 hall hS
      go_wp2_with fail
      clear e0 S3
      go_loopw [10] (fun i wr => ∃ (j : Nat) (v : Value), j ≤ a ∧ i = .int .i64 j ∧ Hid (BA 29 BBF List.length (fun v => #[.int .i64 (t : Int), .int .i64 (a : Int), .int .i64 (n : Int), .slice A1 t C1, v]) w1.heap.size w3 ((wmA a n r).take j) v wr)) (fun i _ => a - (intOf i).toNat)
      case atStart => exact ⟨0, _, Nat.zero_le _, rfl, H3.out⟩
      case round =>
        obtain ⟨j, v, hj, rfl, hS⟩ := hrel
        clear H3
        obtain ⟨w5, rfl⟩ : ∃ w5, w5 = wr := ⟨_, rfl⟩
        have B5 := Lib.hid (hS.out.but.old B3.out)
        have S5 := Lib.hid (HS1.out.below B5.out)
        have z5 : w1.heap.size < w5.heap.size := Nat.lt_of_lt_of_le z3 hS.out.but.size
        have e1 := Fo.cell_of_block ((B5.out.block w.heap.size lw1).trans HS1B.out) 1
        by_cases hjn : j < a
        · have HST := Lib.hid (wmA_step (n := n) (r := r) hjn)
          have j4 : j ≤ 1048576 := by have := HA4.out; omega
          have JL := Lib.hid hjn
          have j0 : (0 : Int) ≤ (j : Int) := Int.natCast_nonneg _
          have j1 : (j : Int) < (a : Int) := by omega
          clear hjn
          go_wp2_with fail
          refine (l05None_any n hn8 _).mono ?_
          rintro e w4 ⟨A2, C2, rfl, hN, hb4⟩
          have B4 := Lib.hid hb4
          have P0 : Hid (BBF w4 (wmU n r j 0) A2 (rng w5.heap.size w4.heap.size)) := by show BBF _ _ _ _; rw [wmU_zero]; exact hN
          have z4 : w5.heap.size ≤ w4.heap.size := hb4.size
          clear hN hb4 e1
          go_wp2_with fail
          go_loopw [12] (fun i wr => ∃ x : Nat, (x + 1 ≤ n ∨ x = 0) ∧ i = .int .i64 x ∧ Hid (BBF wr (wmU n r j x) A2 (rng w5.heap.size w4.heap.size)) ∧ Hid (ButF (rng w5.heap.size w4.heap.size) w4 wr)) (fun i _ => n - (intOf i).toNat)
          case atStart => exact ⟨0, Or.inr rfl, rfl, P0.out, ButF.refl _ _⟩
          case round =>
            obtain ⟨x, hx, rfl, hP, hW⟩ := hrel
            clear P0
            obtain ⟨w6, rfl⟩ : ∃ w6, w6 = wr := ⟨_, rfl⟩
            have x0 : (0 : Int) ≤ (x : Int) := Int.natCast_nonneg _
            have x9 : IntKind.i64.wrap ((x : Int) + 1) = (x : Int) + 1 := IntWalk.i64_in _ (by omega)
            by_cases hxp : x + 1 < n
            · have XP := Lib.hid hxp
              have hxr : x < r.length := by have := HL0.out; have := HN.out; omega
              have s5 : Below w5.heap.size w5 w6 := but_young hW.out B4.out
              obtain ⟨q, hq⟩ : ∃ q, q = decide (nth r x = (j : Int)) := ⟨_, rfl⟩
              obtain ⟨yo, zo, hOe, hato⟩ := HB.out (by rintro rfl; simp at hxr)
              have co := hato x hxr
              obtain ⟨rx, hrx⟩ : ∃ rx, rx = nth r x := ⟨_, rfl⟩
              rw [← hrx] at co hq
              have hbit : (rx == (j : Int)) = q := by rw [hq]; rfl
              have SW : Sees w w6 := S5.out.below s5
              subst hOe
              have d0 := kc SW HG.out.2; have d1 := kc SW co
              obtain ⟨b, r1, C3, old, hA2, hF1, hF2, e0, e1, e2, hput⟩ := wmU_put hP.out hxp
              rw [← hrx, ← hq] at hput
              have HPUT := Lib.hid hput
              have HBUT := Lib.hid (hW.out.set (i := x + 1) hF2 (.bool q))
              have x1 : (x : Int) + 1 < (n : Int) := by omega
              have x2 : (x : Int) < (n : Int) := by omega
              have x3 : (x : Int) < (r.length : Int) := by omega
              have x4 : (0 : Int) ≤ (x : Int) + 1 := by omega
              subst hA2
              clear hato co hq hrx hxr hF1 hF2 hput s5 SW hP hW hxp hx
              go_wp2_with fail
              go_region
              all_goals
                go_wp2_with fail
                go_roundw
                case rel => exact ⟨x + 1, Or.inl XP.out, by go_num, HPUT.out, HBUT.out.draws⟩
                case measure => have := XP.out; simp [intOf]; omega
            · have x1 : decide ((x : Int) + 1 < (n : Int)) = false := decide_eq_false (by omega)
              have hsa : Below w5.heap.size w5 w6 := but_young hW.out B4.out
              have h0 : BBF w6 (wmR n r j) A2 (rng w5.heap.size w4.heap.size) := by rw [← wmU_all (x := x) (by omega)]; exact hP.out
              have hQ2 : BBF w6 (wmR n r j) A2 (rng w5.heap.size w6.heap.size) := bbF_ok.mono h0 fun k hk => ⟨hk.1, Nat.lt_of_lt_of_le hk.2 hW.out.size⟩
              have hU := hS.out.grow bbF_ok hsa
              obtain ⟨vals, hvl, hown, hpp⟩ := Acc.push bbF_ok hS.out.acc hS.out.but.size hsa hQ2 (Wa := w6.alloc (.cells #[.slice A2 n C2] 29)) (C := C2) ((Below.refl _ _).alloc (Nat.le_refl _) _)
              have hlen : ((wmA a n r).take j).length = j := by rw [List.length_take, wmA_len]; have := JL.out; omega
              have hln : List.length (wmR n r j) = n := tab_len _ _ _
              rw [hln, hlen] at hpp
              rw [hlen] at hown
              have HU := Lib.hid hU; have HOWN := Lib.hid hown; have HPP := Lib.hid hpp
              obtain ⟨p0, p1, p2, p3, p4, o0, o1, o2, o3, o4⟩ := five_facts HU.out.box
              clear h0 hsa hQ2 hU hown hpp hvl hlen hln hP hW hxp hx
              go_wp2_with (at_builtin; refine wpList_one Try.elBBB _ rfl _ _ rfl w3.heap.size j w6.heap.size v (.slice A2 n C2) vals rfl ?hx HOWN.out ?hc rfl ?hn ?hz ?_)
              case hx => (first | rfl | simp)
              case hc => simp [go_sem]
              case hn => have := JL.out; have := HA4.out; omega
              case hz => have := HU.out.but.size; simp; omega
              intro v' w' ho hg hat
              have hacc := HPP.out v' w' ho hg (by simpa using hat)
              obtain ⟨Zv, lv, Cv, hvf⟩ := accForm hacc
              subst hvf
              obtain ⟨hX, hbx⟩ := BA.push (i := 4) bbF_ok (fun _ _ => rfl) (HU.out.grow bbF_ok ((Below.refl _ _).alloc (Nat.le_refl _) (.cells #[.slice A2 n C2] 29))) hacc hg
              obtain ⟨q0, q1, q2, q3, q4, t0, t1, t2, t3, t4⟩ := five_facts hbx
              have HX2 : Hid (BA 29 BBF List.length (fun v => #[.int .i64 (t : Int), .int .i64 (a : Int), .int .i64 (n : Int), .slice A1 t C1, v]) w1.heap.size w3 ((wmA a n r).take (j + 1)) (.slice Zv lv Cv) (w'.setCell ⟨w1.heap.size, 4, none⟩ (.slice Zv lv Cv))) := by rw [HST.out]; exact hX
              clear hX hacc ho hg hat p0 p1 p2 p3 p4 o0 o1 o2 o3 o4 hbx
              go_wp2_with fail
              go_roundw
              case rel => exact ⟨j + 1, _, JL.out, by go_num, HX2.out⟩
              case measure => have := JL.out; simp [intOf]; omega
        · have hja : j = a := by omega
          subst hja
          have HR5 := (B5.out.block (w.heap.size + 1) (by rw [HZ1.out]; omega)).trans HR1.out
          obtain ⟨u0, u1, u2, u3, u4, x0, x1, x2, x3, x4⟩ := five_facts HR5
          have hall : (wmA j n r).take j = wmA j n r := List.take_of_length_le (by rw [wmA_len]; exact Nat.le_refl _)
          rw [hall] at hS
          obtain ⟨A2, C2, hv2, hR2⟩ := hS.out.acc.done
          rw [wmA_len] at hv2
          subst hv2
          obtain ⟨m0, m1, m2, m3, m4, n0, n1, n2, n3, n4⟩ := five_facts hS.out.box
          have HR2 := Lib.hid hR2
          have HT5 : Hid (BBF w5 (wmT t p) A1 (rng w2.heap.size w3.heap.size)) := bbF_ok.keep HTT3.out fun k hk => hS.out.but.block k hk.2 (by have := hk.1; have := HZ2.out; show k ≠ _; omega)
          have hzz := hS.out.but.size
          have j1 : decide ((j : Int) < (j : Int)) = false := by simp
          clear hR2
          go_wp2_with fail
          obtain ⟨y0, y1, y2, y3, y4, _, _, _, _, _⟩ := five_facts (five_block HR5 (.int .i64 (t : Int)) (.int .i64 (j : Int)) (.int .i64 (n : Int)) (.slice A1 t C1) (.slice A2 j C2))
          refine bodyPost_ret (v := .agg #[.int .i64 (t : Int), .int .i64 (j : Int), .int .i64 (n : Int), .slice A1 t C1, .slice A2 j C2]) (by simp [results, Try.results51, go_sem, y0, y1, y2, y3, y4]) rfl ?_
          exact mret5 HT5.out HR2.out (S5.out) (show w.heap.size ≤ w.heap.size + 1 by omega) (by have := HZ2.out; have := HZ1.out; omega) B23.out hzz (wmT_len _ _) (wmA_len _ _ _) _ _ _ _ _
end Go.Proofs.Ytojheipllpkgdaa
