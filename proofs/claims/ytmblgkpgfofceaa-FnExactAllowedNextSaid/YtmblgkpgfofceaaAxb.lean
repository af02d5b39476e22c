/- Facts on assertions that a node is of a type. Closed facts, one a pair of types. Contracts of spec.l01True, impl.emptyAt. Contracts of spec.l01True, spec.TruthAt. What a call hands back that answers an expression and a code. Plain facts, no walk. -/
import Derived.Test.YtmblgkpgfofceaaAxa
import Derived.Test.YtmblgkpgfofceaaOk
import Derived.Test.YtmblgkpgfofceaaCond
import Derived.Test.YtmblgkpgfofceaaGen
import Derived.Test.YtmblgkpgfofceaaTreeD
namespace Go.Proofs.Ytmblgkpgfofceaa
open Go.RowKit

theorem is_zero_one (v : Value) (w : World) : (Instr.typeAssert (.iface 193 v) 160 181 true).run Try.prog w = .ok (.tuple #[.agg #[], .bool false]) w := by kernel_rfl
theorem is_zero_star (v : Value) (w : World) : (Instr.typeAssert (.iface 193 v) 160 190 true).run Try.prog w = .ok (.tuple #[.agg #[.nilIface, .int .i64 0], .bool false]) w := by kernel_rfl
theorem is_zero_test (v : Value) (w : World) : (Instr.typeAssert (.iface 193 v) 160 183 true).run Try.prog w = .ok (.tuple #[.agg #[.int .i64 0], .bool false]) w := by kernel_rfl
theorem is_zero_not (v : Value) (w : World) : (Instr.typeAssert (.iface 193 v) 160 186 true).run Try.prog w = .ok (.tuple #[.agg #[.nilIface, .int .i64 0], .bool false]) w := by kernel_rfl
theorem is_zero_sum (v : Value) (w : World) : (Instr.typeAssert (.iface 193 v) 160 188 true).run Try.prog w = .ok (.tuple #[.agg #[.nilIface, .nilIface, .int .i64 0], .bool false]) w := by kernel_rfl
theorem is_zero_dot (v : Value) (w : World) : (Instr.typeAssert (.iface 193 v) 160 189 true).run Try.prog w = .ok (.tuple #[.agg #[.nilIface, .nilIface, .int .i64 0], .bool false]) w := by kernel_rfl
theorem is_one_one (v : Value) (w : World) : (Instr.typeAssert (.iface 181 v) 160 181 true).run Try.prog w = .ok (.tuple #[v, .bool true]) w := by kernel_rfl
theorem is_one_star (v : Value) (w : World) : (Instr.typeAssert (.iface 181 v) 160 190 true).run Try.prog w = .ok (.tuple #[.agg #[.nilIface, .int .i64 0], .bool false]) w := by kernel_rfl
theorem is_one_test (v : Value) (w : World) : (Instr.typeAssert (.iface 181 v) 160 183 true).run Try.prog w = .ok (.tuple #[.agg #[.int .i64 0], .bool false]) w := by kernel_rfl
theorem is_one_not (v : Value) (w : World) : (Instr.typeAssert (.iface 181 v) 160 186 true).run Try.prog w = .ok (.tuple #[.agg #[.nilIface, .int .i64 0], .bool false]) w := by kernel_rfl
theorem is_one_sum (v : Value) (w : World) : (Instr.typeAssert (.iface 181 v) 160 188 true).run Try.prog w = .ok (.tuple #[.agg #[.nilIface, .nilIface, .int .i64 0], .bool false]) w := by kernel_rfl
theorem is_one_dot (v : Value) (w : World) : (Instr.typeAssert (.iface 181 v) 160 189 true).run Try.prog w = .ok (.tuple #[.agg #[.nilIface, .nilIface, .int .i64 0], .bool false]) w := by kernel_rfl
theorem is_test_one (v : Value) (w : World) : (Instr.typeAssert (.iface 183 v) 160 181 true).run Try.prog w = .ok (.tuple #[.agg #[], .bool false]) w := by kernel_rfl
theorem is_test_star (v : Value) (w : World) : (Instr.typeAssert (.iface 183 v) 160 190 true).run Try.prog w = .ok (.tuple #[.agg #[.nilIface, .int .i64 0], .bool false]) w := by kernel_rfl
theorem is_test_test (v : Value) (w : World) : (Instr.typeAssert (.iface 183 v) 160 183 true).run Try.prog w = .ok (.tuple #[v, .bool true]) w := by kernel_rfl
theorem is_test_not (v : Value) (w : World) : (Instr.typeAssert (.iface 183 v) 160 186 true).run Try.prog w = .ok (.tuple #[.agg #[.nilIface, .int .i64 0], .bool false]) w := by kernel_rfl
theorem is_test_sum (v : Value) (w : World) : (Instr.typeAssert (.iface 183 v) 160 188 true).run Try.prog w = .ok (.tuple #[.agg #[.nilIface, .nilIface, .int .i64 0], .bool false]) w := by kernel_rfl
theorem is_test_dot (v : Value) (w : World) : (Instr.typeAssert (.iface 183 v) 160 189 true).run Try.prog w = .ok (.tuple #[.agg #[.nilIface, .nilIface, .int .i64 0], .bool false]) w := by kernel_rfl
theorem is_act_one (v : Value) (w : World) : (Instr.typeAssert (.iface 184 v) 160 181 true).run Try.prog w = .ok (.tuple #[.agg #[], .bool false]) w := by kernel_rfl
theorem is_act_star (v : Value) (w : World) : (Instr.typeAssert (.iface 184 v) 160 190 true).run Try.prog w = .ok (.tuple #[.agg #[.nilIface, .int .i64 0], .bool false]) w := by kernel_rfl
theorem is_act_test (v : Value) (w : World) : (Instr.typeAssert (.iface 184 v) 160 183 true).run Try.prog w = .ok (.tuple #[.agg #[.int .i64 0], .bool false]) w := by kernel_rfl
theorem is_act_not (v : Value) (w : World) : (Instr.typeAssert (.iface 184 v) 160 186 true).run Try.prog w = .ok (.tuple #[.agg #[.nilIface, .int .i64 0], .bool false]) w := by kernel_rfl
theorem is_act_sum (v : Value) (w : World) : (Instr.typeAssert (.iface 184 v) 160 188 true).run Try.prog w = .ok (.tuple #[.agg #[.nilIface, .nilIface, .int .i64 0], .bool false]) w := by kernel_rfl
theorem is_act_dot (v : Value) (w : World) : (Instr.typeAssert (.iface 184 v) 160 189 true).run Try.prog w = .ok (.tuple #[.agg #[.nilIface, .nilIface, .int .i64 0], .bool false]) w := by kernel_rfl
theorem is_not_one (v : Value) (w : World) : (Instr.typeAssert (.iface 186 v) 160 181 true).run Try.prog w = .ok (.tuple #[.agg #[], .bool false]) w := by kernel_rfl
theorem is_not_star (v : Value) (w : World) : (Instr.typeAssert (.iface 186 v) 160 190 true).run Try.prog w = .ok (.tuple #[.agg #[.nilIface, .int .i64 0], .bool false]) w := by kernel_rfl
theorem is_not_test (v : Value) (w : World) : (Instr.typeAssert (.iface 186 v) 160 183 true).run Try.prog w = .ok (.tuple #[.agg #[.int .i64 0], .bool false]) w := by kernel_rfl
theorem is_not_not (v : Value) (w : World) : (Instr.typeAssert (.iface 186 v) 160 186 true).run Try.prog w = .ok (.tuple #[v, .bool true]) w := by kernel_rfl
theorem is_not_sum (v : Value) (w : World) : (Instr.typeAssert (.iface 186 v) 160 188 true).run Try.prog w = .ok (.tuple #[.agg #[.nilIface, .nilIface, .int .i64 0], .bool false]) w := by kernel_rfl
theorem is_not_dot (v : Value) (w : World) : (Instr.typeAssert (.iface 186 v) 160 189 true).run Try.prog w = .ok (.tuple #[.agg #[.nilIface, .nilIface, .int .i64 0], .bool false]) w := by kernel_rfl
theorem is_sum_one (v : Value) (w : World) : (Instr.typeAssert (.iface 188 v) 160 181 true).run Try.prog w = .ok (.tuple #[.agg #[], .bool false]) w := by kernel_rfl
theorem is_sum_star (v : Value) (w : World) : (Instr.typeAssert (.iface 188 v) 160 190 true).run Try.prog w = .ok (.tuple #[.agg #[.nilIface, .int .i64 0], .bool false]) w := by kernel_rfl
theorem is_sum_test (v : Value) (w : World) : (Instr.typeAssert (.iface 188 v) 160 183 true).run Try.prog w = .ok (.tuple #[.agg #[.int .i64 0], .bool false]) w := by kernel_rfl
theorem is_sum_not (v : Value) (w : World) : (Instr.typeAssert (.iface 188 v) 160 186 true).run Try.prog w = .ok (.tuple #[.agg #[.nilIface, .int .i64 0], .bool false]) w := by kernel_rfl
theorem is_sum_sum (v : Value) (w : World) : (Instr.typeAssert (.iface 188 v) 160 188 true).run Try.prog w = .ok (.tuple #[v, .bool true]) w := by kernel_rfl
theorem is_sum_dot (v : Value) (w : World) : (Instr.typeAssert (.iface 188 v) 160 189 true).run Try.prog w = .ok (.tuple #[.agg #[.nilIface, .nilIface, .int .i64 0], .bool false]) w := by kernel_rfl
theorem is_dot_one (v : Value) (w : World) : (Instr.typeAssert (.iface 189 v) 160 181 true).run Try.prog w = .ok (.tuple #[.agg #[], .bool false]) w := by kernel_rfl
theorem is_dot_star (v : Value) (w : World) : (Instr.typeAssert (.iface 189 v) 160 190 true).run Try.prog w = .ok (.tuple #[.agg #[.nilIface, .int .i64 0], .bool false]) w := by kernel_rfl
theorem is_dot_test (v : Value) (w : World) : (Instr.typeAssert (.iface 189 v) 160 183 true).run Try.prog w = .ok (.tuple #[.agg #[.int .i64 0], .bool false]) w := by kernel_rfl
theorem is_dot_not (v : Value) (w : World) : (Instr.typeAssert (.iface 189 v) 160 186 true).run Try.prog w = .ok (.tuple #[.agg #[.nilIface, .int .i64 0], .bool false]) w := by kernel_rfl
theorem is_dot_sum (v : Value) (w : World) : (Instr.typeAssert (.iface 189 v) 160 188 true).run Try.prog w = .ok (.tuple #[.agg #[.nilIface, .nilIface, .int .i64 0], .bool false]) w := by kernel_rfl
theorem is_dot_dot (v : Value) (w : World) : (Instr.typeAssert (.iface 189 v) 160 189 true).run Try.prog w = .ok (.tuple #[v, .bool true]) w := by kernel_rfl
theorem is_star_one (v : Value) (w : World) : (Instr.typeAssert (.iface 190 v) 160 181 true).run Try.prog w = .ok (.tuple #[.agg #[], .bool false]) w := by kernel_rfl
theorem is_star_star (v : Value) (w : World) : (Instr.typeAssert (.iface 190 v) 160 190 true).run Try.prog w = .ok (.tuple #[v, .bool true]) w := by kernel_rfl
theorem is_star_test (v : Value) (w : World) : (Instr.typeAssert (.iface 190 v) 160 183 true).run Try.prog w = .ok (.tuple #[.agg #[.int .i64 0], .bool false]) w := by kernel_rfl
theorem is_star_not (v : Value) (w : World) : (Instr.typeAssert (.iface 190 v) 160 186 true).run Try.prog w = .ok (.tuple #[.agg #[.nilIface, .int .i64 0], .bool false]) w := by kernel_rfl
theorem is_star_sum (v : Value) (w : World) : (Instr.typeAssert (.iface 190 v) 160 188 true).run Try.prog w = .ok (.tuple #[.agg #[.nilIface, .nilIface, .int .i64 0], .bool false]) w := by kernel_rfl
theorem is_star_dot (v : Value) (w : World) : (Instr.typeAssert (.iface 190 v) 160 189 true).run Try.prog w = .ok (.tuple #[.agg #[.nilIface, .nilIface, .int .i64 0], .bool false]) w := by kernel_rfl
end Go.Proofs.Ytmblgkpgfofceaa

namespace Go.Proofs.Ytmblgkpgfofceaa
open Go.RowKit

/-- Whether a test holds at an atom. -/
def bitB (x n : Int) : Bool := decide (x / 2 ^ n.toNat % 2 = 1)
namespace Nd
/-- Whether a node has the word of length 0 with an atom. -/
def emptyB (x : Int) : Nd → Bool
  | zero | act _ => false
  | one | star _ => true
  | test n => bitB x n
  | not a => !a.emptyB x
  | sum a b => a.emptyB x || b.emptyB x
  | dot a b => a.emptyB x && b.emptyB x
/-- All tests are among the first three. -/
def okT : Nd → Prop
  | zero | one | act _ => True
  | test n => 0 ≤ n ∧ n ≤ 2
  | not a | star a => a.okT
  | sum a b | dot a b => a.okT ∧ b.okT
end Nd

theorem ndE_okT (t a : Int) (ht : t ≤ 3) : ∀ (N : Nat) (f : Fo), f.nodes < N → ∀ (b : Bool) (k n : Int), treeE t a b k n f = true → (ndE f k n).okT := by
  intro N
  induction N with
  | zero => intro f hN; exact absurd hN (Nat.not_lt_zero _)
  | succ N ih =>
    intro f hN b k n h
    rcases tree_forms h with ⟨rfl, hk⟩ | ⟨k1, n1, f1, rfl, hk, h1⟩ | ⟨k1, n1, f1, k2, n2, f2, rfl, hk, h1, h2⟩
    · rcases hk with rfl | rfl | ⟨rfl, hn, hn'⟩ | ⟨rfl, _, _⟩
      · trivial
      · trivial
      · show 0 ≤ n ∧ n ≤ 2; omega
      · trivial
    · have := ih f1 (by simp only [Fo.nodes] at hN; omega) _ k1 n1 h1
      rcases hk with rfl | rfl <;> exact this
    · have g1 := ih f1 (by simp only [Fo.nodes] at hN; omega) _ k1 n1 h1
      have g2 := ih f2 (by simp only [Fo.nodes] at hN; omega) _ k2 n2 h2
      rcases hk with rfl | rfl <;> exact ⟨g1, g2⟩

theorem val_iface (a : Nd) : ∃ (T : TypeId) (x : Value), a.val = .iface T x := by
  cases a <;> exact ⟨_, _, rfl⟩

set_option maxRecDepth 100000 in
set_option maxHeartbeats 1000000 in
theorem holdsAt_any (n x : Int) (hn0 : 0 ≤ n) (hn1 : n ≤ 2) (hx0 : 0 ≤ x) (hx1 : x ≤ 7) (w : World) : Calls Try.prog 97 #[.int .i64 n, .int .i64 x] w fun e w' => e = .returned (.bool (bitB x n)) ∧ Below w.heap.size w w' := by
  have hn : n = 0 ∨ n = 1 ∨ n = 2 := by omega
  have hx : x = 0 ∨ x = 1 ∨ x = 2 ∨ x = 3 ∨ x = 4 ∨ x = 5 ∨ x = 6 ∨ x = 7 := by omega
  clear hn0 hn1 hx0 hx1
  rcases hn with rfl | rfl | rfl <;> rcases hx with rfl | rfl | rfl | rfl | rfl | rfl | rfl | rfl
  all_goals
    go_enter Try.func97, Try.ntmps97
    go_wp2_with fail
    go_ret
    exact ⟨by first | rfl | (simp [bitB]; done) | decide, by go_grown⟩

set_option maxRecDepth 100000 in
set_option maxHeartbeats 2000000 in
theorem emptyAt_any (x : Int) (hx0 : 0 ≤ x) (hx1 : x ≤ 7) : ∀ (d : Nd) (w : World), d.okT → Calls Try.prog 168 #[d.val, .int .i64 x] w fun e w' => e = .returned (.bool (d.emptyB x)) ∧ Below w.heap.size w w' := by
  intro d
  induction d with
  | zero =>
    intro w _
    show Calls Try.prog 168 #[.iface 193 (.agg #[]), .int .i64 x] w _
    have q_one := is_zero_one
    have q_star := is_zero_star
    have q_test := is_zero_test
    have q_not := is_zero_not
    have q_sum := is_zero_sum
    have q_dot := is_zero_dot
    go_enter Try.func168, Try.ntmps168
    go_wp2_with fail
    go_ret
    exact ⟨rfl, by go_grown⟩
  | one =>
    intro w _
    show Calls Try.prog 168 #[.iface 181 (.agg #[]), .int .i64 x] w _
    have q_one := is_one_one
    have q_star := is_one_star
    go_enter Try.func168, Try.ntmps168
    go_wp2_with fail
    go_ret
    exact ⟨rfl, by go_grown⟩
  | act n =>
    intro w _
    show Calls Try.prog 168 #[.iface 184 (.agg #[.int .i64 n]), .int .i64 x] w _
    have q_one := is_act_one
    have q_star := is_act_star
    have q_test := is_act_test
    have q_not := is_act_not
    have q_sum := is_act_sum
    have q_dot := is_act_dot
    go_enter Try.func168, Try.ntmps168
    go_wp2_with fail
    go_ret
    exact ⟨rfl, by go_grown⟩
  | star a _ =>
    intro w _
    show Calls Try.prog 168 #[.iface 190 (.agg #[a.val, .int .i64 (1 + a.size : Nat)]), .int .i64 x] w _
    generalize a.val = v
    generalize ((1 + a.size : Nat) : Int) = z
    have q_one := is_star_one
    have q_star := is_star_star
    go_enter Try.func168, Try.ntmps168
    go_wp2_with fail
    go_ret
    exact ⟨rfl, by go_grown⟩
  | test n =>
    intro w hn
    obtain ⟨q, hq⟩ : ∃ q : Bool, q = bitB x n := ⟨_, rfl⟩
    have K1 : Hid (∀ W : World, Calls Try.prog 97 #[.int .i64 n, .int .i64 x] W fun e w' => e = .returned (.bool q) ∧ Below W.heap.size W w') := fun W => by rw [hq]; exact holdsAt_any n x hn.1 hn.2 hx0 hx1 W
    have HD : Hid ((Nd.test n).emptyB x = q) := by show _ = _; rw [hq]; rfl
    clear hq hn
    show Calls Try.prog 168 #[.iface 183 (.agg #[.int .i64 n]), .int .i64 x] w _
    have q_one := is_test_one
    have q_star := is_test_star
    have q_test := is_test_test
    go_enter Try.func168, Try.ntmps168
    go_wp2_with fail
    refine (K1.out _).mono ?_
    rintro e w1 ⟨rfl, hb⟩
    have B1 : Sees w w1 := Sees.below (by unfold Sees; go_grown) hb
    clear hb
    go_wp2_with fail
    go_ret
    exact ⟨ret_bool HD.out.symm, B1⟩
  | not a ih =>
    intro w hn
    obtain ⟨q, hq⟩ : ∃ q : Bool, q = a.emptyB x := ⟨_, rfl⟩
    have K1 : Hid (∀ W : World, Calls Try.prog 168 #[a.val, .int .i64 x] W fun e w' => e = .returned (.bool q) ∧ Below W.heap.size W w') := fun W => by rw [hq]; exact ih W hn
    have HD : Hid ((Nd.not a).emptyB x = !q) := by show _ = _; rw [hq]; rfl
    clear ih hq
    show Calls Try.prog 168 #[.iface 186 (.agg #[a.val, .int .i64 (1 + a.size : Nat)]), .int .i64 x] w _
    obtain ⟨T1, x1, h1⟩ := val_iface a
    rw [h1] at K1 ⊢
    clear h1
    generalize ((1 + a.size : Nat) : Int) = z
    have q_one := is_not_one
    have q_star := is_not_star
    have q_test := is_not_test
    have q_not := is_not_not
    go_enter Try.func168, Try.ntmps168
    go_wp2_with fail
    refine (K1.out _).mono ?_
    rintro e w1 ⟨rfl, hb⟩
    have B1 : Sees w w1 := Sees.below (by unfold Sees; go_grown) hb
    clear hb
    go_wp2_with fail
    go_ret
    exact ⟨ret_bool HD.out.symm, B1⟩
  | sum a b iha ihb =>
    intro w hn
    obtain ⟨q, hq⟩ : ∃ q : Bool, q = a.emptyB x := ⟨_, rfl⟩
    obtain ⟨r, hr⟩ : ∃ r : Bool, r = b.emptyB x := ⟨_, rfl⟩
    have K1 : Hid (∀ W : World, Calls Try.prog 168 #[a.val, .int .i64 x] W fun e w' => e = .returned (.bool q) ∧ Below W.heap.size W w') := fun W => by rw [hq]; exact iha W hn.1
    have K2 : Hid (∀ W : World, Calls Try.prog 168 #[b.val, .int .i64 x] W fun e w' => e = .returned (.bool r) ∧ Below W.heap.size W w') := fun W => by rw [hr]; exact ihb W hn.2
    have HD : Hid ((Nd.sum a b).emptyB x = (q || r)) := by show _ = _; rw [hq, hr]; rfl
    clear iha ihb hq hr hn
    show Calls Try.prog 168 #[.iface 188 (.agg #[a.val, b.val, .int .i64 (1 + a.size + b.size : Nat)]), .int .i64 x] w _
    obtain ⟨T1, x1, h1⟩ := val_iface a
    obtain ⟨T2, x2, h2⟩ := val_iface b
    rw [h1] at K1 ⊢
    rw [h2] at K2 ⊢
    clear h1 h2
    generalize ((1 + a.size + b.size : Nat) : Int) = z
    cases q
    all_goals
      have q_one := is_sum_one
      have q_star := is_sum_star
      have q_test := is_sum_test
      have q_not := is_sum_not
      have q_sum := is_sum_sum
      go_enter Try.func168, Try.ntmps168
      go_wp2_with fail
      refine (K1.out _).mono ?_
      rintro e w1 ⟨rfl, hb⟩
      have y1 := kc (b := w.heap.size) (o := 1) (v := .iface T2 x2) hb (by simp [go_sem])
      have B1 : Sees w w1 := Sees.below (by unfold Sees; go_grown) hb
      clear hb
      go_wp2_with fail
    · refine (K2.out _).mono ?_
      rintro e w2 ⟨rfl, hb⟩
      have B2 := B1.below hb
      clear hb
      go_wp2_with fail
      go_ret
      exact ⟨ret_bool HD.out.symm, B2⟩
    · go_ret
      exact ⟨ret_bool HD.out.symm, B1⟩
  | dot a b iha ihb =>
    intro w hn
    obtain ⟨q, hq⟩ : ∃ q : Bool, q = a.emptyB x := ⟨_, rfl⟩
    obtain ⟨r, hr⟩ : ∃ r : Bool, r = b.emptyB x := ⟨_, rfl⟩
    have K1 : Hid (∀ W : World, Calls Try.prog 168 #[a.val, .int .i64 x] W fun e w' => e = .returned (.bool q) ∧ Below W.heap.size W w') := fun W => by rw [hq]; exact iha W hn.1
    have K2 : Hid (∀ W : World, Calls Try.prog 168 #[b.val, .int .i64 x] W fun e w' => e = .returned (.bool r) ∧ Below W.heap.size W w') := fun W => by rw [hr]; exact ihb W hn.2
    have HD : Hid ((Nd.dot a b).emptyB x = (q && r)) := by show _ = _; rw [hq, hr]; rfl
    clear iha ihb hq hr hn
    show Calls Try.prog 168 #[.iface 189 (.agg #[a.val, b.val, .int .i64 (1 + a.size + b.size : Nat)]), .int .i64 x] w _
    obtain ⟨T1, x1, h1⟩ := val_iface a
    obtain ⟨T2, x2, h2⟩ := val_iface b
    rw [h1] at K1 ⊢
    rw [h2] at K2 ⊢
    clear h1 h2
    generalize ((1 + a.size + b.size : Nat) : Int) = z
    cases q
    all_goals
      have q_one := is_dot_one
      have q_star := is_dot_star
      have q_test := is_dot_test
      have q_not := is_dot_not
      have q_sum := is_dot_sum
      have q_dot := is_dot_dot
      go_enter Try.func168, Try.ntmps168
      go_wp2_with fail
      refine (K1.out _).mono ?_
      rintro e w1 ⟨rfl, hb⟩
      have y1 := kc (b := w.heap.size) (o := 1) (v := .iface T2 x2) hb (by simp [go_sem])
      have B1 : Sees w w1 := Sees.below (by unfold Sees; go_grown) hb
      clear hb
      go_wp2_with fail
    · go_ret
      exact ⟨ret_bool HD.out.symm, B1⟩
    · refine (K2.out _).mono ?_
      rintro e w2 ⟨rfl, hb⟩
      have B2 := B1.below hb
      clear hb
      go_wp2_with fail
      go_ret
      exact ⟨ret_bool HD.out.symm, B2⟩

end Go.Proofs.Ytmblgkpgfofceaa

namespace Go.Proofs.Ytmblgkpgfofceaa
open Go.RowKit

theorem ndE_cond_forms {t a : Int} {b : Bool} {k n : Int} {f : Fo} (h : treeE t a b k n f = true) (hc : (condK k && f.cond) = true) :
    (f = .nil ∧ (k = 1 ∨ k = 2 ∨ (k = 3 ∧ 0 ≤ n ∧ n < t))) ∨
    (∃ k1 n1 f1, f = .cons k1 n1 f1 .nil ∧ k = 5 ∧ treeE t a (b || k == 5) k1 n1 f1 = true ∧ (condK k1 && f1.cond) = true) ∨
    (∃ k1 n1 f1 k2 n2 f2, f = .cons k1 n1 f1 (.cons k2 n2 f2 .nil) ∧ (k = 6 ∨ k = 7) ∧ treeE t a b k1 n1 f1 = true ∧ treeE t a b k2 n2 f2 = true ∧ (condK k1 && f1.cond) = true ∧ (condK k2 && f2.cond) = true) := by
  simp only [Bool.and_eq_true] at hc
  obtain ⟨hk, hf⟩ := hc
  have hk' := of_decide_eq_true hk
  rcases tree_forms h with ⟨rfl, h1⟩ | ⟨k1, n1, f1, rfl, h1, h2⟩ | ⟨k1, n1, f1, k2, n2, f2, rfl, h1, h2, h3⟩
  · refine Or.inl ⟨rfl, ?_⟩
    omega
  · refine Or.inr (Or.inl ⟨k1, n1, f1, rfl, by omega, h2, ?_⟩)
    simpa [Fo.cond] using hf
  · refine Or.inr (Or.inr ⟨k1, n1, f1, k2, n2, f2, rfl, h1, h2, h3, ?_⟩)
    simpa [Fo.cond, and_assoc] using hf

set_option maxRecDepth 100000 in
set_option maxHeartbeats 1000000 in
theorem l01True_any (x : Int) (hx0 : 0 ≤ x) (hx1 : x ≤ 7) : ∀ (N : Nat) (f : Fo), f.nodes < N → ∀ (t a k n : Int) (b : Bool) (A : Option Addr) (C bb o : Nat) (w : World), t ≤ 3 → f.Lies w A → treeE t a b k n f = true → (condK k && f.cond) = true →
      w.cell? ⟨bb, o, none⟩ = some (.int .i64 k) → w.cell? ⟨bb, o + 1, none⟩ = some (.int .i64 n) → w.cell? ⟨bb, o + 2, none⟩ = some (.slice A f.len C) →
      Calls Try.prog 139 #[.pointer (some ⟨bb, o, none⟩), .int .i64 x] w fun e w' => e = .returned (.bool ((ndE f k n).emptyB x)) ∧ Below w.heap.size w w' := by
  intro N
  induction N with
  | zero => intro f hN; exact absurd hN (Nat.not_lt_zero _)
  | succ N ih =>
    intro f hN t a k n b A C bb o w ht hl hv hc h0 h1 h2
    rcases ndE_cond_forms hv hc with ⟨rfl, hk⟩ | ⟨k1, n1, f1, rfl, rfl, v1, c1⟩ | ⟨k1, n1, f1, k2, n2, f2, rfl, hk, v1, v2, c1, c2⟩
    · clear ih hN hv hc hl
      rcases hk with rfl | rfl | ⟨rfl, hn0, hn1⟩
      · go_enter Try.func139, Try.ntmps139
        go_wp2_with fail
        go_ret
        exact ⟨rfl, by go_grown⟩
      · go_enter Try.func139, Try.ntmps139
        go_wp2_with fail
        go_ret
        exact ⟨rfl, by go_grown⟩
      · have hn : n = 0 ∨ n = 1 ∨ n = 2 := by omega
        have hx : x = 0 ∨ x = 1 ∨ x = 2 ∨ x = 3 ∨ x = 4 ∨ x = 5 ∨ x = 6 ∨ x = 7 := by omega
        clear hn0 hn1 hx0 hx1 ht
        rcases hn with rfl | rfl | rfl <;> rcases hx with rfl | rfl | rfl | rfl | rfl | rfl | rfl | rfl
        all_goals
          go_enter Try.func139, Try.ntmps139
          go_wp2_with fail
          go_ret
          exact ⟨by first | rfl | (simp [ndE, leaf, Nd.emptyB, bitB]; done) | decide, by go_grown⟩
    · obtain ⟨b1, o1, rfl, hat⟩ := hl (by intro h; cases h)
      obtain ⟨d0, d1, ⟨A1, C1, d2, l1⟩, _⟩ := hat
      obtain ⟨q, hq⟩ : ∃ q : Bool, q = (ndE f1 k1 n1).emptyB x := ⟨_, rfl⟩
      have K1 : Hid (∀ W : World, Sees w W → Calls Try.prog 139 #[.pointer (some ⟨b1, o1, none⟩), .int .i64 x] W fun e w' => e = .returned (.bool q) ∧ Below W.heap.size W w') :=
        fun W hW => by rw [hq]; exact ih f1 (by simp only [Fo.nodes] at hN; omega) t a k1 n1 _ A1 C1 b1 o1 W ht (Fo.Lies.sees (w := w) l1 hW) v1 c1 (kc hW d0) (kc hW d1) (kc hW d2)
      have HD : Hid ((ndE (.cons k1 n1 f1 .nil) 5 n).emptyB x = !q) := by show _ = _; rw [hq]; rfl
      clear ih hN hv hc v1 c1 hq d0 d1 d2 l1 ht
      simp only [Fo.len] at h2
      go_enter Try.func139, Try.ntmps139
      go_wp2_with fail
      refine (K1.out _ (by unfold Sees; go_grown)).mono ?_
      rintro e w1 ⟨rfl, hb⟩
      have B1 : Sees w w1 := Sees.below (by unfold Sees; go_grown) hb
      clear hb
      go_wp2_with fail
      go_ret
      exact ⟨ret_bool HD.out.symm, B1⟩
    · obtain ⟨b1, o1, rfl, hat⟩ := hl (by intro h; cases h)
      obtain ⟨d0, d1, ⟨A1, C1, d2, l1⟩, g0, g1, ⟨A2, C2, g2, l2⟩, _⟩ := hat
      obtain ⟨q, hq⟩ : ∃ q : Bool, q = (ndE f1 k1 n1).emptyB x := ⟨_, rfl⟩
      obtain ⟨r, hr⟩ : ∃ r : Bool, r = (ndE f2 k2 n2).emptyB x := ⟨_, rfl⟩
      have K1 : Hid (∀ W : World, Sees w W → Calls Try.prog 139 #[.pointer (some ⟨b1, o1, none⟩), .int .i64 x] W fun e w' => e = .returned (.bool q) ∧ Below W.heap.size W w') :=
        fun W hW => by rw [hq]; exact ih f1 (by simp only [Fo.nodes] at hN; omega) t a k1 n1 _ A1 C1 b1 o1 W ht (Fo.Lies.sees (w := w) l1 hW) v1 c1 (kc hW d0) (kc hW d1) (kc hW d2)
      have K2 : Hid (∀ W : World, Sees w W → Calls Try.prog 139 #[.pointer (some ⟨b1, o1 + 3, none⟩), .int .i64 x] W fun e w' => e = .returned (.bool r) ∧ Below W.heap.size W w') :=
        fun W hW => by rw [hr]; exact ih f2 (by simp only [Fo.nodes] at hN; omega) t a k2 n2 _ A2 C2 b1 (o1 + 3) W ht (Fo.Lies.sees (w := w) l2 hW) v2 c2 (kc hW g0) (kc hW g1) (kc hW g2)
      clear ih hN hv hc v1 v2 c1 c2 d0 d1 d2 g0 g1 g2 l1 l2 ht
      simp only [Fo.len] at h2
      rcases hk with rfl | rfl
      · have HD : Hid ((ndE (.cons k1 n1 f1 (.cons k2 n2 f2 .nil)) 6 n).emptyB x = (q || r)) := by show _ = _; rw [hq, hr]; rfl
        clear hq hr
        cases q
        all_goals
          go_enter Try.func139, Try.ntmps139
          go_wp2_with fail
          refine (K1.out _ (by unfold Sees; go_grown)).mono ?_
          rintro e w1 ⟨rfl, hb⟩
          have B1 : Sees w w1 := Sees.below (by unfold Sees; go_grown) hb
          have y2 := kc B1 h2
          clear hb
          go_wp2_with fail
        · refine (K2.out _ B1).mono ?_
          rintro e w2 ⟨rfl, hb⟩
          have B2 := B1.below hb
          clear hb
          go_wp2_with fail
          go_ret
          exact ⟨ret_bool HD.out.symm, B2⟩
        · go_ret
          exact ⟨ret_bool HD.out.symm, B1⟩
      · have HD : Hid ((ndE (.cons k1 n1 f1 (.cons k2 n2 f2 .nil)) 7 n).emptyB x = (q && r)) := by show _ = _; rw [hq, hr]; rfl
        clear hq hr
        cases q
        all_goals
          go_enter Try.func139, Try.ntmps139
          go_wp2_with fail
          refine (K1.out _ (by unfold Sees; go_grown)).mono ?_
          rintro e w1 ⟨rfl, hb⟩
          have B1 : Sees w w1 := Sees.below (by unfold Sees; go_grown) hb
          have y2 := kc B1 h2
          clear hb
          go_wp2_with fail
        · go_ret
          exact ⟨ret_bool HD.out.symm, B1⟩
        · refine (K2.out _ B1).mono ?_
          rintro e w2 ⟨rfl, hb⟩
          have B2 := B1.below hb
          clear hb
          go_wp2_with fail
          go_ret
          exact ⟨ret_bool HD.out.symm, B2⟩

end Go.Proofs.Ytmblgkpgfofceaa

namespace Go.Proofs.Ytmblgkpgfofceaa
open Go.RowKit

/-- .. in memory that the call made. -/
def LEnd (k n : Int) (f : Fo) (q : Int) (w : World) (e : Ending) (w' : World) : Prop := ∃ A C, e = .returned (.tuple #[.agg #[.int .i64 k, .int .i64 n, .slice A f.len C], .int .i64 q]) ∧ f.LiesIn w' w.heap.size w'.heap.size A ∧ Below w.heap.size w w'
/-- .. all kids in blocks of their own. -/
def XEnd (k n : Int) (f : Fo) (q : Int) (w : World) (e : Ending) (w' : World) : Prop := ∃ A C, e = .returned (.tuple #[.agg #[.int .i64 k, .int .i64 n, .slice A f.len C], .int .i64 q]) ∧ f.XIn w' w.heap.size w'.heap.size A ∧ Below w.heap.size w w'
theorem validE_parts0 {t a k n : Int} {f : Fo} (h : validE t a k n f = true) : treeE t a false k n f = true := by
  unfold validE at h
  simp only [Bool.and_eq_true] at h
  exact h.2
end Go.Proofs.Ytmblgkpgfofceaa
