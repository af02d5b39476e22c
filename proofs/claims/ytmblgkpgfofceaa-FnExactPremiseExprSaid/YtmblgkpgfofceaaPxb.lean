/- Facts on assertions that a node is of a type. Closed facts, one a pair of types. Assertions that a node is an action. Closed facts. Expressions of nodes; reversed nodes. Plain facts, no walk. Contract of impl.exprOf. -/
import Derived.Test.YtmblgkpgfofceaaPxa
import Derived.Test.YtmblgkpgfofceaaFoIn
import Derived.Test.YtmblgkpgfofceaaSig
import Derived.Lib.Hide
import Derived.Deep.RegionHeld3
import Derived.Deep.DeepCutAuto
namespace Go.Proofs.Ytmblgkpgfofceaa
open Go.RowKit

theorem is_zero_one (v : Value) (w : World) : (Instr.typeAssert (.iface 193 v) 160 181 true).run Try.prog w = .ok (.tuple #[.agg #[], .bool false]) w := by kernel_rfl
theorem is_zero_star (v : Value) (w : World) : (Instr.typeAssert (.iface 193 v) 160 190 true).run Try.prog w = .ok (.tuple #[.agg #[.nilIface, .int .i64 0], .bool false]) w := by kernel_rfl
theorem is_zero_test (v : Value) (w : World) : (Instr.typeAssert (.iface 193 v) 160 183 true).run Try.prog w = .ok (.tuple #[.agg #[.int .i64 0], .bool false]) w := by kernel_rfl
theorem is_zero_not (v : Value) (w : World) : (Instr.typeAssert (.iface 193 v) 160 186 true).run Try.prog w = .ok (.tuple #[.agg #[.nilIface, .int .i64 0], .bool false]) w := by kernel_rfl
theorem is_zero_sum (v : Value) (w : World) : (Instr.typeAssert (.iface 193 v) 160 188 true).run Try.prog w = .ok (.tuple #[.agg #[.nilIface, .nilIface, .int .i64 0], .bool false]) w := by kernel_rfl
theorem is_zero_dot (v : Value) (w : World) : (Instr.typeAssert (.iface 193 v) 160 189 true).run Try.prog w = .ok (.tuple #[.agg #[.nilIface, .nilIface, .int .i64 0], .bool false]) w := by kernel_rfl
theorem is_one_one (v : Value) (w : World) : (Instr.typeAssert (.iface 181 v) 160 181 true).run Try.prog w = .ok (.tuple #[v, .bool true]) w := by kernel_rfl
theorem is_one_star (v : Value) (w : World) : (Instr.typeAssert (.iface 181 v) 160 190 true).run Try.prog w = .ok (.tuple #[.agg #[.nilIface, .int .i64 0], .bool false]) w := by kernel_rfl
theorem is_one_test (v : Value) (w : World) : (Instr.typeAssert (.iface 181 v) 160 183 true).run Try.prog w = .ok (.tuple #[.agg #[.int .i64 0], .bool false]) w := by kernel_rfl
theorem is_one_not (v : Value) (w : World) : (Instr.typeAssert (.iface 181 v) 160 186 true).run Try.prog w = .ok (.tuple #[.agg #[.nilIface, .int .i64 0], .bool false]) w := by kernel_rfl
theorem is_one_sum (v : Value) (w : World) : (Instr.typeAssert (.iface 181 v) 160 188 true).run Try.prog w = .ok (.tuple #[.agg #[.nilIface, .nilIface, .int .i64 0], .bool false]) w := by kernel_rfl
theorem is_one_dot (v : Value) (w : World) : (Instr.typeAssert (.iface 181 v) 160 189 true).run Try.prog w = .ok (.tuple #[.agg #[.nilIface, .nilIface, .int .i64 0], .bool false]) w := by kernel_rfl
theorem is_test_one (v : Value) (w : World) : (Instr.typeAssert (.iface 183 v) 160 181 true).run Try.prog w = .ok (.tuple #[.agg #[], .bool false]) w := by kernel_rfl
theorem is_test_star (v : Value) (w : World) : (Instr.typeAssert (.iface 183 v) 160 190 true).run Try.prog w = .ok (.tuple #[.agg #[.nilIface, .int .i64 0], .bool false]) w := by kernel_rfl
theorem is_test_test (v : Value) (w : World) : (Instr.typeAssert (.iface 183 v) 160 183 true).run Try.prog w = .ok (.tuple #[v, .bool true]) w := by kernel_rfl
theorem is_test_not (v : Value) (w : World) : (Instr.typeAssert (.iface 183 v) 160 186 true).run Try.prog w = .ok (.tuple #[.agg #[.nilIface, .int .i64 0], .bool false]) w := by kernel_rfl
theorem is_test_sum (v : Value) (w : World) : (Instr.typeAssert (.iface 183 v) 160 188 true).run Try.prog w = .ok (.tuple #[.agg #[.nilIface, .nilIface, .int .i64 0], .bool false]) w := by kernel_rfl
theorem is_test_dot (v : Value) (w : World) : (Instr.typeAssert (.iface 183 v) 160 189 true).run Try.prog w = .ok (.tuple #[.agg #[.nilIface, .nilIface, .int .i64 0], .bool false]) w := by kernel_rfl
theorem is_act_one (v : Value) (w : World) : (Instr.typeAssert (.iface 184 v) 160 181 true).run Try.prog w = .ok (.tuple #[.agg #[], .bool false]) w := by kernel_rfl
theorem is_act_star (v : Value) (w : World) : (Instr.typeAssert (.iface 184 v) 160 190 true).run Try.prog w = .ok (.tuple #[.agg #[.nilIface, .int .i64 0], .bool false]) w := by kernel_rfl
theorem is_act_test (v : Value) (w : World) : (Instr.typeAssert (.iface 184 v) 160 183 true).run Try.prog w = .ok (.tuple #[.agg #[.int .i64 0], .bool false]) w := by kernel_rfl
theorem is_act_not (v : Value) (w : World) : (Instr.typeAssert (.iface 184 v) 160 186 true).run Try.prog w = .ok (.tuple #[.agg #[.nilIface, .int .i64 0], .bool false]) w := by kernel_rfl
theorem is_act_sum (v : Value) (w : World) : (Instr.typeAssert (.iface 184 v) 160 188 true).run Try.prog w = .ok (.tuple #[.agg #[.nilIface, .nilIface, .int .i64 0], .bool false]) w := by kernel_rfl
theorem is_act_dot (v : Value) (w : World) : (Instr.typeAssert (.iface 184 v) 160 189 true).run Try.prog w = .ok (.tuple #[.agg #[.nilIface, .nilIface, .int .i64 0], .bool false]) w := by kernel_rfl
theorem is_not_one (v : Value) (w : World) : (Instr.typeAssert (.iface 186 v) 160 181 true).run Try.prog w = .ok (.tuple #[.agg #[], .bool false]) w := by kernel_rfl
theorem is_not_star (v : Value) (w : World) : (Instr.typeAssert (.iface 186 v) 160 190 true).run Try.prog w = .ok (.tuple #[.agg #[.nilIface, .int .i64 0], .bool false]) w := by kernel_rfl
theorem is_not_test (v : Value) (w : World) : (Instr.typeAssert (.iface 186 v) 160 183 true).run Try.prog w = .ok (.tuple #[.agg #[.int .i64 0], .bool false]) w := by kernel_rfl
theorem is_not_not (v : Value) (w : World) : (Instr.typeAssert (.iface 186 v) 160 186 true).run Try.prog w = .ok (.tuple #[v, .bool true]) w := by kernel_rfl
theorem is_not_sum (v : Value) (w : World) : (Instr.typeAssert (.iface 186 v) 160 188 true).run Try.prog w = .ok (.tuple #[.agg #[.nilIface, .nilIface, .int .i64 0], .bool false]) w := by kernel_rfl
theorem is_not_dot (v : Value) (w : World) : (Instr.typeAssert (.iface 186 v) 160 189 true).run Try.prog w = .ok (.tuple #[.agg #[.nilIface, .nilIface, .int .i64 0], .bool false]) w := by kernel_rfl
theorem is_sum_one (v : Value) (w : World) : (Instr.typeAssert (.iface 188 v) 160 181 true).run Try.prog w = .ok (.tuple #[.agg #[], .bool false]) w := by kernel_rfl
theorem is_sum_star (v : Value) (w : World) : (Instr.typeAssert (.iface 188 v) 160 190 true).run Try.prog w = .ok (.tuple #[.agg #[.nilIface, .int .i64 0], .bool false]) w := by kernel_rfl
theorem is_sum_test (v : Value) (w : World) : (Instr.typeAssert (.iface 188 v) 160 183 true).run Try.prog w = .ok (.tuple #[.agg #[.int .i64 0], .bool false]) w := by kernel_rfl
theorem is_sum_not (v : Value) (w : World) : (Instr.typeAssert (.iface 188 v) 160 186 true).run Try.prog w = .ok (.tuple #[.agg #[.nilIface, .int .i64 0], .bool false]) w := by kernel_rfl
theorem is_sum_sum (v : Value) (w : World) : (Instr.typeAssert (.iface 188 v) 160 188 true).run Try.prog w = .ok (.tuple #[v, .bool true]) w := by kernel_rfl
theorem is_sum_dot (v : Value) (w : World) : (Instr.typeAssert (.iface 188 v) 160 189 true).run Try.prog w = .ok (.tuple #[.agg #[.nilIface, .nilIface, .int .i64 0], .bool false]) w := by kernel_rfl
theorem is_dot_one (v : Value) (w : World) : (Instr.typeAssert (.iface 189 v) 160 181 true).run Try.prog w = .ok (.tuple #[.agg #[], .bool false]) w := by kernel_rfl
theorem is_dot_star (v : Value) (w : World) : (Instr.typeAssert (.iface 189 v) 160 190 true).run Try.prog w = .ok (.tuple #[.agg #[.nilIface, .int .i64 0], .bool false]) w := by kernel_rfl
theorem is_dot_test (v : Value) (w : World) : (Instr.typeAssert (.iface 189 v) 160 183 true).run Try.prog w = .ok (.tuple #[.agg #[.int .i64 0], .bool false]) w := by kernel_rfl
theorem is_dot_not (v : Value) (w : World) : (Instr.typeAssert (.iface 189 v) 160 186 true).run Try.prog w = .ok (.tuple #[.agg #[.nilIface, .int .i64 0], .bool false]) w := by kernel_rfl
theorem is_dot_sum (v : Value) (w : World) : (Instr.typeAssert (.iface 189 v) 160 188 true).run Try.prog w = .ok (.tuple #[.agg #[.nilIface, .nilIface, .int .i64 0], .bool false]) w := by kernel_rfl
theorem is_dot_dot (v : Value) (w : World) : (Instr.typeAssert (.iface 189 v) 160 189 true).run Try.prog w = .ok (.tuple #[v, .bool true]) w := by kernel_rfl
theorem is_star_one (v : Value) (w : World) : (Instr.typeAssert (.iface 190 v) 160 181 true).run Try.prog w = .ok (.tuple #[.agg #[], .bool false]) w := by kernel_rfl
theorem is_star_star (v : Value) (w : World) : (Instr.typeAssert (.iface 190 v) 160 190 true).run Try.prog w = .ok (.tuple #[v, .bool true]) w := by kernel_rfl
theorem is_star_test (v : Value) (w : World) : (Instr.typeAssert (.iface 190 v) 160 183 true).run Try.prog w = .ok (.tuple #[.agg #[.int .i64 0], .bool false]) w := by kernel_rfl
theorem is_star_not (v : Value) (w : World) : (Instr.typeAssert (.iface 190 v) 160 186 true).run Try.prog w = .ok (.tuple #[.agg #[.nilIface, .int .i64 0], .bool false]) w := by kernel_rfl
theorem is_star_sum (v : Value) (w : World) : (Instr.typeAssert (.iface 190 v) 160 188 true).run Try.prog w = .ok (.tuple #[.agg #[.nilIface, .nilIface, .int .i64 0], .bool false]) w := by kernel_rfl
theorem is_star_dot (v : Value) (w : World) : (Instr.typeAssert (.iface 190 v) 160 189 true).run Try.prog w = .ok (.tuple #[.agg #[.nilIface, .nilIface, .int .i64 0], .bool false]) w := by kernel_rfl
end Go.Proofs.Ytmblgkpgfofceaa

namespace Go.Proofs.Ytmblgkpgfofceaa
open Go.RowKit
theorem is_zero_act (v : Value) (w : World) : (Instr.typeAssert (.iface 193 v) 160 184 true).run Try.prog w = .ok (.tuple #[.agg #[.int .i64 0], .bool false]) w := by kernel_rfl
theorem is_one_act (v : Value) (w : World) : (Instr.typeAssert (.iface 181 v) 160 184 true).run Try.prog w = .ok (.tuple #[.agg #[.int .i64 0], .bool false]) w := by kernel_rfl
theorem is_test_act (v : Value) (w : World) : (Instr.typeAssert (.iface 183 v) 160 184 true).run Try.prog w = .ok (.tuple #[.agg #[.int .i64 0], .bool false]) w := by kernel_rfl
theorem is_act_act (v : Value) (w : World) : (Instr.typeAssert (.iface 184 v) 160 184 true).run Try.prog w = .ok (.tuple #[v, .bool true]) w := by kernel_rfl
theorem is_not_act (v : Value) (w : World) : (Instr.typeAssert (.iface 186 v) 160 184 true).run Try.prog w = .ok (.tuple #[.agg #[.int .i64 0], .bool false]) w := by kernel_rfl
theorem is_sum_act (v : Value) (w : World) : (Instr.typeAssert (.iface 188 v) 160 184 true).run Try.prog w = .ok (.tuple #[.agg #[.int .i64 0], .bool false]) w := by kernel_rfl
theorem is_dot_act (v : Value) (w : World) : (Instr.typeAssert (.iface 189 v) 160 184 true).run Try.prog w = .ok (.tuple #[.agg #[.int .i64 0], .bool false]) w := by kernel_rfl
theorem is_star_act (v : Value) (w : World) : (Instr.typeAssert (.iface 190 v) 160 184 true).run Try.prog w = .ok (.tuple #[.agg #[.int .i64 0], .bool false]) w := by kernel_rfl
theorem Nd.val_if (a : Nd) : ∃ (T : TypeId) (x : Value), a.val = .iface T x := by
  cases a <;> exact ⟨_, _, rfl⟩
end Go.Proofs.Ytmblgkpgfofceaa

namespace Go.Proofs.Ytmblgkpgfofceaa
open Go.RowKit
namespace Nd
/-- The kind, the number and the kids of a node's expression. -/
def kd : Nd → Int
  | zero => 1
  | one => 2
  | test _ => 3
  | act _ => 4
  | not _ => 5
  | sum _ _ => 6
  | dot _ _ => 7
  | star _ => 8
def nm : Nd → Int
  | test n | act n => n
  | _ => 0
def ks : Nd → Fo
  | not a | star a => .cons a.kd a.nm a.ks .nil
  | sum a b | dot a b => .cons a.kd a.nm a.ks (.cons b.kd b.nm b.ks .nil)
  | _ => .nil
/-- The node of the reversed words. -/
def rev : Nd → Nd
  | not a => .not a.rev
  | star a => .star a.rev
  | sum a b => .sum a.rev b.rev
  | dot a b => .dot b.rev a.rev
  | zero => .zero
  | one => .one
  | test n => .test n
  | act n => .act n

theorem ks_nodes (a : Nd) : 1 + a.ks.nodes = a.size := by
  induction a with
  | not a ih | star a ih => simp only [ks, size, Fo.nodes]; omega
  | sum a b iha ihb | dot a b iha ihb => simp only [ks, size, Fo.nodes]; omega
  | _ => rfl
theorem rev_size (a : Nd) : a.rev.size = a.size := by
  induction a with
  | not a ih | star a ih => simp only [rev, size]; omega
  | sum a b iha ihb | dot a b iha ihb => simp only [rev, size]; omega
  | _ => rfl
theorem rev_kd (a : Nd) : a.rev.kd = a.kd := by cases a <;> rfl
theorem rev_nm (a : Nd) : a.rev.nm = a.nm := by cases a <;> rfl
theorem rev_len (a : Nd) : a.rev.ks.len = a.ks.len := by cases a <;> rfl
end Nd

/-- An expression of the table is that of its node. -/
theorem ndE_parts {t a : Int} : ∀ (N : Nat) (f : Fo), f.nodes < N → ∀ (b : Bool) (k n : Int), treeE t a b k n f = true → (ndE f k n).kd = k ∧ (ndE f k n).nm = n ∧ (ndE f k n).ks = f := by
  intro N
  induction N with
  | zero => intro f hN; exact absurd hN (Nat.not_lt_zero _)
  | succ N ih =>
    intro f hN b k n h
    have hz : k ≠ 3 → k ≠ 4 → n = 0 := by
      intro h3 h4
      unfold treeE shapeB at h
      simp only [Bool.and_eq_true, decide_eq_true_eq] at h
      obtain ⟨⟨⟨_, h5, h6⟩, _⟩, _⟩ := h
      unfold numC at h6
      rw [if_neg h3, if_neg h4] at h6
      omega
    rcases tree_forms h with ⟨rfl, hk⟩ | ⟨k1, n1, f1, rfl, hk, h1⟩ | ⟨k1, n1, f1, k2, n2, f2, rfl, hk, h1, h2⟩
    · rcases hk with rfl | rfl | ⟨rfl, _, _⟩ | ⟨rfl, _, _⟩
      · exact ⟨rfl, (hz (by decide) (by decide)).symm, rfl⟩
      · exact ⟨rfl, (hz (by decide) (by decide)).symm, rfl⟩
      · exact ⟨rfl, rfl, rfl⟩
      · exact ⟨rfl, rfl, rfl⟩
    · obtain ⟨e1, e2, e3⟩ := ih f1 (by simp only [Fo.nodes] at hN; omega) _ k1 n1 h1
      rcases hk with rfl | rfl
      · exact ⟨rfl, (hz (by decide) (by decide)).symm, by show Fo.cons _ _ _ _ = _; rw [e1, e2, e3]⟩
      · exact ⟨rfl, (hz (by decide) (by decide)).symm, by show Fo.cons _ _ _ _ = _; rw [e1, e2, e3]⟩
    · obtain ⟨e1, e2, e3⟩ := ih f1 (by simp only [Fo.nodes] at hN; omega) _ k1 n1 h1
      obtain ⟨g1, g2, g3⟩ := ih f2 (by simp only [Fo.nodes] at hN; omega) _ k2 n2 h2
      rcases hk with rfl | rfl
      · exact ⟨rfl, (hz (by decide) (by decide)).symm, by show Fo.cons _ _ _ (Fo.cons _ _ _ _) = _; rw [e1, e2, e3, g1, g2, g3]⟩
      · exact ⟨rfl, (hz (by decide) (by decide)).symm, by show Fo.cons _ _ _ (Fo.cons _ _ _ _) = _; rw [e1, e2, e3, g1, g2, g3]⟩
theorem ndE_all {t a : Int} {f : Fo} {b : Bool} {k n : Int} (h : treeE t a b k n f = true) : (ndE f k n).kd = k ∧ (ndE f k n).nm = n ∧ (ndE f k n).ks = f := ndE_parts (f.nodes + 1) f (Nat.lt_succ_self _) b k n h
theorem rev_len_of {t a : Int} {f : Fo} {b : Bool} {k n : Int} (h : treeE t a b k n f = true) : (ndE f k n).rev.ks.len = f.len := by rw [Nd.rev_len, (ndE_all h).2.2]

namespace Fo
/-- A row in a new block behind its kids. -/
theorem XIn.one {W W' : World} {lo mid hi b : Nat} {k n : Int} {ks : Fo} {A : Option Addr} {C : Nat} {T : TypeId} (h : ks.XIn W lo mid A) (hd : Agree W W' lo mid) (hb : W'.heap[b]? = some (.cells #[.int .i64 k, .int .i64 n, .slice A ks.len C] T (0, 0))) (h1 : mid ≤ b) (h2 : b < hi) :
    (cons k n ks .nil).XIn W' lo hi (some ⟨b, 0, none⟩) := by
  have h' := h.agree hd
  have hle := h.1
  refine ⟨by omega, Or.inr ⟨b, rfl, by omega, h2, fun i => Fo.unfrozen_of_block hb i, lo, mid, A, C, Nat.le_refl _, hle, Or.inr h1, ?_, ?_, ?_, h'.2, by show mid ≤ hi; omega⟩⟩
  all_goals (rw [Fo.cell_of_block hb]; rfl)
/-- Two rows in a new block behind their kids. -/
theorem XIn.two {W W' : World} {lo mid top hi b : Nat} {k n : Int} {ks : Fo} {A : Option Addr} {C : Nat} {k2 n2 : Int} {ks2 : Fo} {A2 : Option Addr} {C2 : Nat} {T : TypeId} (h : ks.XIn W lo mid A) (g : ks2.XIn W mid top A2) (hd : Agree W W' lo top)
    (hb : W'.heap[b]? = some (.cells #[.int .i64 k, .int .i64 n, .slice A ks.len C, .int .i64 k2, .int .i64 n2, .slice A2 ks2.len C2] T (0, 0))) (h1 : top ≤ b) (h2 : b < hi) :
    (cons k n ks (cons k2 n2 ks2 .nil)).XIn W' lo hi (some ⟨b, 0, none⟩) := by
  have hle := h.1
  have gle := g.1
  have h' := h.agree (w' := W') (fun x a c => hd x a (by omega))
  have g' := g.agree (w' := W') (fun x a c => hd x (by omega) c)
  refine ⟨by omega, Or.inr ⟨b, rfl, by omega, h2, fun i => Fo.unfrozen_of_block hb i, lo, mid, A, C, Nat.le_refl _, hle, Or.inr (by omega), ?_, ?_, ?_, h'.2, mid, top, A2, C2, Nat.le_refl _, gle, Or.inr h1, ?_, ?_, ?_, g'.2, by show top ≤ hi; omega⟩⟩
  all_goals (rw [Fo.cell_of_block hb]; rfl)

def app : Fo → Fo → Fo
  | nil, g => g
  | cons k n ks r, g => cons k n ks (r.app g)
theorem app_len (f g : Fo) : (f.app g).len = f.len + g.len := by
  induction f with
  | nil => simp [app, len]
  | cons _ _ _ r _ ihr => simp only [app, len, ihr]; omega

/-- Rows as they stand in a list, with all their kids in ranges without a block. -/
def RowsIn (W : World) (lo : Nat) (blk : Option Nat) : Fo → List Value → Prop
  | nil, xs => xs = []
  | cons k n ks r, xs => ∃ (l m : Nat) (A : Option Addr) (C : Nat) (ys : List Value), xs = .int .i64 k :: .int .i64 n :: .slice A ks.len C :: ys ∧ lo ≤ l ∧ m ≤ W.heap.size ∧ (∀ g, blk = some g → g < l ∨ m ≤ g) ∧ ks.LiesIn W l m A ∧ r.RowsIn W lo blk ys

theorem RowsIn.keep {W W' : World} {lo : Nat} {blk blk' : Option Nat} (hs : W.heap.size ≤ W'.heap.size) (hb : ∀ x, lo ≤ x → x < W.heap.size → blk ≠ some x → W'.heap[x]? = W.heap[x]?) (hB : blk' = blk ∨ ∀ g, blk' = some g → W.heap.size ≤ g) {f : Fo} : ∀ {xs : List Value}, f.RowsIn W lo blk xs → f.RowsIn W' lo blk' xs := by
  induction f with
  | nil => intro xs h; exact h
  | cons k n ks r _ ihr =>
    intro xs ⟨l, m, A, C, ys, e, h1, h2, h3, h4, h5⟩
    refine ⟨l, m, A, C, ys, e, h1, by omega, fun g hg => ?_, h4.agree (fun x a c => hb x (by omega) (by omega) (fun hx => ?_)), ihr h5⟩
    · rcases hB with rfl | hB
      · exact h3 g hg
      · have := hB g hg; omega
    · have := h3 x hx; omega
theorem RowsIn.app {W : World} {lo : Nat} {blk : Option Nat} {f g : Fo} : ∀ {xs ys : List Value}, f.RowsIn W lo blk xs → g.RowsIn W lo blk ys → (f.app g).RowsIn W lo blk (xs ++ ys) := by
  induction f with
  | nil => intro xs ys h h'; subst h; exact h'
  | cons k n ks r _ ihr =>
    intro xs ys ⟨l, m, A, C, zs, e, h1, h2, h3, h4, h5⟩ h'
    subst e
    exact ⟨l, m, A, C, zs ++ ys, rfl, h1, h2, h3, h4, ihr h5 h'⟩
theorem RowsIn.atIn {W : World} {lo : Nat} {blk : Option Nat} {b : Nat} {f : Fo} : ∀ {xs : List Value} {o : Nat}, f.RowsIn W lo blk xs → (∀ i u, xs[i]? = some u → W.cell? ⟨b, o + i, none⟩ = some u) → f.AtIn W lo W.heap.size b o := by
  induction f with
  | nil => intro xs o _ _; trivial
  | cons k n ks r _ ihr =>
    intro xs o ⟨l, m, A, C, ys, e, h1, h2, h3, h4, h5⟩ hc
    subst e
    refine ⟨hc 0 _ rfl, hc 1 _ rfl, ⟨A, C, hc 2 _ rfl, fun hn => ?_⟩, ihr h5 (fun i u hi => ?_)⟩
    · obtain ⟨b', o', hA, l1, l2, hat⟩ := h4 hn
      exact ⟨b', o', hA, by omega, by omega, hat.mono (by omega) (by omega)⟩
    · have := hc (i + 3) u hi
      rw [show o + (i + 3) = o + 3 + i from by omega] at this
      exact this
end Fo

/-- A list of expressions that a call has made by append. -/
def Kids (W : World) (lo : Nat) (f : Fo) (v : Value) : Prop := ∃ xs, W.ownsRow lo 46 3 v f.len xs ∧ f.RowsIn W lo v.ownBlock xs
theorem Kids.nil (W : World) (lo : Nat) : Kids W lo .nil (.slice none 0 0) := ⟨[], World.ownsRow_nil _ _ _ _, rfl⟩
theorem Kids.lt {W : World} {lo : Nat} {f : Fo} {v : Value} (h : Kids W lo f v) : ∀ g, v.ownBlock = some g → lo ≤ g ∧ g < W.heap.size := by
  obtain ⟨xs, h1, _⟩ := h
  exact h1.lt
theorem Kids.below {W W' : World} {lo : Nat} {f : Fo} {v : Value} (h : Kids W lo f v) (hb : Below W.heap.size W W') : Kids W' lo f v := by
  obtain ⟨xs, h1, h2⟩ := h
  exact ⟨xs, h1.kept ⟨hb.os, hb.tape, hb.output, hb.size, fun k hk _ => hb.block k hk⟩ (row := none) (by cases hv : v.ownBlock <;> simp), h2.keep hb.size (fun x _ hx _ => hb.block x hx) (Or.inl rfl)⟩
theorem Kids.put {W : World} {lo : Nat} {f : Fo} {v : Value} (h : Kids W lo f v) {b o : Nat} (hb : b < lo) (u : Value) : Kids (W.setCell ⟨b, o, none⟩ u) lo f v := by
  obtain ⟨xs, h1, h2⟩ := h
  exact ⟨xs, ownsRow_setCell_below h1 hb u, h2.keep (by simp) (fun x hx _ _ => Below.heap_setCell _ _ _ _ (by show x ≠ b; omega)) (Or.inl rfl)⟩
theorem Kids.drew {W : World} {lo : Nat} {f : Fo} {v : Value} (h : Kids W lo f v) : Kids W.drew lo f v := h.below ⟨rfl, rfl, rfl, Nat.le_refl _, fun _ _ => rfl⟩
theorem Kids.alloc {W : World} {lo : Nat} {f : Fo} {v : Value} (h : Kids W lo f v) (o : Obj) : Kids (W.alloc o) lo f v := h.below ((Below.refl _ _).alloc (Nat.le_refl _) _)
/-- One more row. -/
theorem Kids.snoc {W w1 : World} {lo : Nat} {f : Fo} {v v' : Value} {xs : List Value} {k n : Int} {ks : Fo} {A : Option Addr} {C l m : Nat} (h2 : f.RowsIn W lo v.ownBlock xs) (hk : ks.LiesIn W l m A) (hl : lo ≤ l) (hm : m ≤ W.heap.size) (hv : ∀ g, v.ownBlock = some g → g < l ∨ m ≤ g)
    (hown : w1.ownsRow lo 46 3 v' (f.len + 1) (xs ++ [.int .i64 k, .int .i64 n, .slice A ks.len C])) (hg : W.grownBy w1 v.ownBlock) (hor : v'.ownBlock = v.ownBlock ∨ v'.ownBlock = some W.heap.size) : Kids w1 lo (f.app (.cons k n ks .nil)) v' := by
  have hB : v'.ownBlock = v.ownBlock ∨ ∀ g, v'.ownBlock = some g → W.heap.size ≤ g := by
    rcases hor with h | h
    · exact Or.inl h
    · refine Or.inr fun g hg => ?_
      rw [h] at hg
      have := Option.some.inj hg
      omega
  refine ⟨_, by rw [Fo.app_len]; exact hown, ?_⟩
  refine (h2.keep hg.size (fun x _ hx hn => hg.block x hx (fun h => hn h.symm)) hB).app ?_
  refine ⟨l, m, A, C, [], rfl, hl, Nat.le_trans hm hg.size, fun g hg' => ?_, hk.agree (fun x a c => hg.block x (by omega) (fun hx => ?_)), rfl⟩
  · rcases hB with hB | hB
    · exact hv g (hB ▸ hg')
    · have := hB g hg'; omega
  · have := hv x hx.symm; omega
theorem Kids.lies {W : World} {lo : Nat} {f : Fo} {v : Value} (h : Kids W lo f v) : ∃ A C, v = .slice A f.len C ∧ f.LiesIn W lo W.heap.size A := by
  obtain ⟨xs, h1, h2⟩ := h
  rcases h1.2 with ⟨rfl, h0⟩ | ⟨g, cap, cur, hv, hg, hh, hn, _, hs, ht⟩
  · obtain rfl := Fo.nil_of_len h0
    exact ⟨none, 0, rfl, Fo.LiesIn.nil _ _ _⟩
  · refine ⟨some ⟨g, 0, none⟩, cap, hv, fun _ => ⟨g, 0, rfl, hg, (Array.getElem?_eq_some_iff.1 hh).1, h2.atIn fun i u hi => ?_⟩⟩
    rw [Nat.zero_add, Fo.cell_of_block hh, ← Array.getElem?_toList]
    have h3 : (cur.toList.take (f.len * 3))[i]? = xs[i]? := by rw [ht]
    have hx : i < f.len * 3 := by rw [← h1.1]; exact (List.getElem?_eq_some_iff.1 hi).1
    rw [List.getElem?_take, if_pos hx] at h3
    rw [h3]; exact hi
end Go.Proofs.Ytmblgkpgfofceaa

namespace Go.Proofs.Ytmblgkpgfofceaa
open Go.RowKit

/-- What a call hands back that makes an expression with these kids in blocks of its own. -/
def ExEnd (k n : Int) (ks : Fo) (w : World) (e : Ending) (w' : World) : Prop := ∃ A, e = .returned (.agg #[.int .i64 k, .int .i64 n, .slice A ks.len ks.len]) ∧ ks.XIn w' w.heap.size w'.heap.size A ∧ Below w.heap.size w w'
theorem cells3 {W : World} {b : Nat} {x y z : Value} {T : TypeId} (h : W.heap[b]? = some (.cells #[x, y, z] T (0, 0))) : W.cell? ⟨b, 0, none⟩ = some x ∧ W.cell? ⟨b, 1, none⟩ = some y ∧ W.cell? ⟨b, 2, none⟩ = some z ∧ W.frozen? ⟨b, 0, none⟩ = false ∧ W.frozen? ⟨b, 1, none⟩ = false ∧ W.frozen? ⟨b, 2, none⟩ = false :=
  ⟨Fo.cell_of_block h 0, Fo.cell_of_block h 1, Fo.cell_of_block h 2, Fo.unfrozen_of_block h 0, Fo.unfrozen_of_block h 1, Fo.unfrozen_of_block h 2⟩
section
variable {w W : World} {s : Nat} {x y z a b c : Value} {T : TypeId}
/-- Three cells are written, and a block is made. -/
theorem store3 (h : W.heap[s]? = some (.cells #[x, y, z] T (0, 0))) (o : Obj) : ((((W.setCell ⟨s, 0, none⟩ a).setCell ⟨s, 1, none⟩ b).setCell ⟨s, 2, none⟩ c).alloc o).heap[s]? = some (.cells #[a, b, c] T (0, 0)) := by
  rw [Below.heap_alloc _ _ _ (by simpa using (Array.getElem?_eq_some_iff.1 h).1), Fo.block_setCell (Fo.block_setCell (Fo.block_setCell h _) _) _]
  rfl
theorem store3_agree {lo : Nat} (hs : s < lo) (o : Obj) : Fo.Agree W ((((W.setCell ⟨s, 0, none⟩ a).setCell ⟨s, 1, none⟩ b).setCell ⟨s, 2, none⟩ c).alloc o) lo W.heap.size := by
  intro k h1 h2
  rw [Below.heap_alloc _ _ _ (by simpa using h2), Below.heap_setCell _ _ _ _ (by show k ≠ s; omega), Below.heap_setCell _ _ _ _ (by show k ≠ s; omega), Below.heap_setCell _ _ _ _ (by show k ≠ s; omega)]
theorem store3_new (n : Nat) (hn : n = W.heap.size) (o : Obj) : ((((W.setCell ⟨s, 0, none⟩ a).setCell ⟨s, 1, none⟩ b).setCell ⟨s, 2, none⟩ c).alloc o).heap[n]? = some o := heap_new _ _ _ (by simp [hn])
theorem store3_sees (h : Sees w W) (hs : w.heap.size ≤ s) (o : Obj) : Sees w ((((W.setCell ⟨s, 0, none⟩ a).setCell ⟨s, 1, none⟩ b).setCell ⟨s, 2, none⟩ c).alloc o) :=
  Sees.alloc (Below.setCell (Below.setCell (Below.setCell h hs _) hs _) hs _) _
theorem Has.same {W' : World} : ∀ {L : List (Nat × Nat × Value)}, (∀ c ∈ L, W'.heap[c.1]? = W.heap[c.1]?) → Has W L → Has W' L
  | [], _, _ => trivial
  | c :: L, hn, h => ⟨(World.cell?_of_block (a := ⟨c.1, c.2.1, none⟩) (hn c (by simp))).trans h.1, Has.same (fun d hd => hn d (by simp [hd])) h.2⟩
theorem store3_st {L : List (Nat × Nat × Value)} (h : St w L W) (hs : w.heap.size ≤ s) (hn : ∀ c ∈ L, s < c.1 ∧ c.1 < W.heap.size) (o : Obj) : St w L ((((W.setCell ⟨s, 0, none⟩ a).setCell ⟨s, 1, none⟩ b).setCell ⟨s, 2, none⟩ c).alloc o) :=
  ⟨store3_sees h.1 hs o, Has.same (fun c hc => store3_agree (lo := c.1) (hn c hc).1 o c.1 (Nat.le_refl _) (hn c hc).2) h.2⟩
end

set_option maxRecDepth 100000 in
set_option maxHeartbeats 2000000 in
theorem exprOf_any : ∀ (d : Nd) (w : World), d.size ≤ 4194304 → Calls Try.prog 122 #[d.val] w (ExEnd d.kd d.nm d.ks w) := by
  intro d
  induction d with
  | zero =>
    intro w _
    show Calls Try.prog 122 #[.iface 193 (.agg #[])] w _
    have q_one := is_zero_one
    have q_test := is_zero_test
    have q_act := is_zero_act
    have q_not := is_zero_not
    have q_sum := is_zero_sum
    have q_dot := is_zero_dot
    have q_star := is_zero_star
    go_enter Try.func122, Try.ntmps122
    go_wp2_with fail
    refine bodyPost_ret (v := .agg #[.int .i64 1, .int .i64 0, .slice none 0 0]) (by simp [results, Try.results122, go_sem]) rfl ⟨none, rfl, Fo.XIn.nil (by simp <;> omega) _, by go_grown⟩
  | one =>
    intro w _
    show Calls Try.prog 122 #[.iface 181 (.agg #[])] w _
    have q_one := is_one_one
    go_enter Try.func122, Try.ntmps122
    go_wp2_with fail
    refine bodyPost_ret (v := .agg #[.int .i64 2, .int .i64 0, .slice none 0 0]) (by simp [results, Try.results122, go_sem]) rfl ⟨none, rfl, Fo.XIn.nil (by simp <;> omega) _, by go_grown⟩
  | test n =>
    intro w _
    show Calls Try.prog 122 #[.iface 183 (.agg #[.int .i64 n])] w _
    have q_one := is_test_one
    have q_test := is_test_test
    go_enter Try.func122, Try.ntmps122
    go_wp2_with fail
    refine bodyPost_ret (v := .agg #[.int .i64 3, .int .i64 n, .slice none 0 0]) (by simp [results, Try.results122, go_sem]) rfl ⟨none, rfl, Fo.XIn.nil (by simp <;> omega) _, by go_grown⟩
  | act n =>
    intro w _
    show Calls Try.prog 122 #[.iface 184 (.agg #[.int .i64 n])] w _
    have q_one := is_act_one
    have q_test := is_act_test
    have q_act := is_act_act
    go_enter Try.func122, Try.ntmps122
    go_wp2_with fail
    refine bodyPost_ret (v := .agg #[.int .i64 4, .int .i64 n, .slice none 0 0]) (by simp [results, Try.results122, go_sem]) rfl ⟨none, rfl, Fo.XIn.nil (by simp <;> omega) _, by go_grown⟩
  | not a ih =>
    intro w hs
    have hsa : a.size ≤ 4194304 := by simp only [Nd.size] at hs; omega
    have K1 : Hid (∀ W : World, Calls Try.prog 122 #[a.val] W (ExEnd a.kd a.nm a.ks W)) := fun W => ih W hsa
    clear ih hsa hs
    show Calls Try.prog 122 #[.iface 186 (.agg #[a.val, .int .i64 (1 + a.size : Nat)])] w (ExEnd 5 0 (.cons a.kd a.nm a.ks .nil) w)
    obtain ⟨T1, x1, h1⟩ := Nd.val_if a
    rw [h1] at K1 ⊢
    clear h1
    generalize ((1 + a.size : Nat) : Int) = z
    generalize a.kd = k1 at K1 ⊢
    generalize a.nm = n1 at K1 ⊢
    generalize a.ks = f1 at K1 ⊢
    have q_one := is_not_one
    have q_test := is_not_test
    have q_act := is_not_act
    have q_not := is_not_not
    go_enter Try.func122, Try.ntmps122
    go_wp2_with fail
    refine (K1.out _).mono ?_
    rintro e w1 ⟨A1, rfl, hX, hb⟩
    have B1 : Sees w w1 := Below.trans (by go_grown) (hb.mono (B' := w.heap.size) (by simp; omega))
    simp only [World.size_alloc] at hX hb
    have hbk : w1.heap[w.heap.size]? = some (.cells #[.int .i64 0, .int .i64 0, .slice none 0 0] 46 (0, 0)) := (hb.block _ (by omega)).trans (by rw [Below.heap_alloc _ _ _ (by simp)]; exact heap_new _ _ _ rfl)
    obtain ⟨c0, c1, c2, f0, f1', f2⟩ := cells3 hbk
    have HX := Lib.hid hX; have hz := hb.size
    simp only [World.size_alloc] at hz
    have z1 : w.heap.size < w1.heap.size := by omega
    have z2 : w1.heap.size ≠ w.heap.size := by omega
    have z3 : w.heap.size ≠ w1.heap.size := by omega
    clear hX hb hz
    go_wp2_with fail
    obtain ⟨d0, d1, d2, _⟩ := cells3 (store3 (a := .int .i64 5) (b := .int .i64 0) (c := .slice (some ⟨w1.heap.size, 0, none⟩) 1 1) hbk (.cells #[.int .i64 k1, .int .i64 n1, .slice A1 f1.len f1.len] 46))
    refine bodyPost_ret (v := .agg #[.int .i64 5, .int .i64 0, .slice (some ⟨w1.heap.size, 0, none⟩) 1 1]) (by simp [results, Try.results122, go_sem, d0, d1, d2]) rfl ⟨_, rfl, ?_, store3_sees B1 (Nat.le_refl _) _⟩
    exact ((HX.out.mono (lo' := w.heap.size + 1) (by omega) (Nat.le_refl _)).one (store3_agree (by omega) _) (store3_new _ rfl _) (Nat.le_refl _) (by simp)).mono (by omega) (Nat.le_refl _)
  | sum a b iha ihb =>
    intro w hs
    have hsa : a.size ≤ 4194304 ∧ b.size ≤ 4194304 := by simp only [Nd.size] at hs; omega
    have K1 : Hid (∀ W : World, Calls Try.prog 122 #[a.val] W (ExEnd a.kd a.nm a.ks W)) := fun W => iha W hsa.1
    have K2 : Hid (∀ W : World, Calls Try.prog 122 #[b.val] W (ExEnd b.kd b.nm b.ks W)) := fun W => ihb W hsa.2
    clear iha ihb hsa hs
    show Calls Try.prog 122 #[.iface 188 (.agg #[a.val, b.val, .int .i64 (1 + a.size + b.size : Nat)])] w (ExEnd 6 0 (.cons a.kd a.nm a.ks (.cons b.kd b.nm b.ks .nil)) w)
    obtain ⟨T1, x1, h1⟩ := Nd.val_if a
    obtain ⟨T2, x2, h2⟩ := Nd.val_if b
    rw [h1] at K1 ⊢
    rw [h2] at K2 ⊢
    clear h1 h2
    generalize ((1 + a.size + b.size : Nat) : Int) = z
    generalize a.kd = k1 at K1 ⊢
    generalize a.nm = n1 at K1 ⊢
    generalize a.ks = g1 at K1 ⊢
    generalize b.kd = k2 at K2 ⊢
    generalize b.nm = n2 at K2 ⊢
    generalize b.ks = g2 at K2 ⊢
    have q_one := is_sum_one
    have q_test := is_sum_test
    have q_act := is_sum_act
    have q_not := is_sum_not
    have q_sum := is_sum_sum
    go_enter Try.func122, Try.ntmps122
    go_wp2_with fail
    obtain ⟨W0, hW0⟩ : ∃ W0, W0 = (w.alloc (.cells #[.int .i64 0, .int .i64 0, .slice none 0 0] 46)).alloc (.cells #[.iface T1 x1, .iface T2 x2, .int .i64 z] 188) := ⟨_, rfl⟩
    rw [← hW0]
    have HS : Hid (St w [(w.heap.size + 1, 0, .iface T1 x1), (w.heap.size + 1, 1, .iface T2 x2)] W0) := by rw [hW0]; exact ⟨(by unfold Sees; go_grown), (by simp [go_sem]), (by simp [go_sem]), trivial⟩
    have HB0 : Hid (W0.heap[w.heap.size]? = some (.cells #[.int .i64 0, .int .i64 0, .slice none 0 0] 46 (0, 0))) := by show _ = _; rw [hW0, Below.heap_alloc _ _ _ (by simp)]; exact heap_new _ _ _ rfl
    have z0 : W0.heap.size = w.heap.size + 1 + 1 := by rw [hW0]; simp
    clear hW0
    go_region_held3 (fun w' => Sees w w' ∧ w'.cell? ⟨w.heap.size + 1, 0, none⟩ = some (.iface T1 x1) ∧ w'.cell? ⟨w.heap.size + 1, 1, none⟩ = some (.iface T2 x2) ∧ True)
      (first | exact HS.out.drew | exact UA | exact UB | exact UB.alloc _ | exact UBS _ _ _ _ | (go_keep; done))
      (first | (go_at_call_of 122 (Value.iface T1 x1); refine (K1.out _).mono ?_; rintro e wa ⟨A1, rfl, IA, hba⟩; have UA := HS.out.drew.below hba; have HBA := (hba.block _ (show w.heap.size < W0.heap.size by omega)).trans HB0.out; have zA : W0.heap.size ≤ wa.heap.size := hba.size; have HIA := Lib.hid IA; clear IA hba) | (go_at_call_of 122 (Value.iface T2 x2); refine (K2.out _).mono ?_; rintro e wb ⟨A2, rfl, IB, hbb⟩; have UB := UA.below hbb; have HBB := (hbb.block _ (show w.heap.size < wa.heap.size by omega)).trans HBA; obtain ⟨c0, c1, c2, f0, f1', f2⟩ := cells3 HBB; have zB := hbb.size; have z1 : w.heap.size < wb.heap.size := (by omega); have z2 : wb.heap.size ≠ w.heap.size := (by omega); have z3 : w.heap.size ≠ wb.heap.size := (by omega); have HX1 := Lib.hid (HIA.out.agree (Fo.Agree.of_below hbb)); have HX2 := Lib.hid IB; have UBS := fun (p q r : Value) (ob : Obj) => store3_st (a := p) (b := q) (c := r) UB (Nat.le_refl _) (by simp; omega) ob; clear IB hbb))
    go_wp2_with fail
    obtain ⟨d0, d1, d2, _⟩ := cells3 (store3 (a := .int .i64 6) (b := .int .i64 0) (c := .slice (some ⟨wb.heap.size, 0, none⟩) 2 2) HBB (.cells #[.int .i64 k1, .int .i64 n1, .slice A1 g1.len g1.len, .int .i64 k2, .int .i64 n2, .slice A2 g2.len g2.len] 46))
    refine bodyPost_ret (v := .agg #[.int .i64 6, .int .i64 0, .slice (some ⟨wb.heap.size, 0, none⟩) 2 2]) (by simp [results, Try.results122, go_sem, d0, d1, d2]) rfl ⟨_, rfl, ?_, store3_sees UB.1 (Nat.le_refl _) _⟩
    exact ((HX1.out.mono (lo' := w.heap.size + 1) (by show _ ≤ W0.heap.size; omega) (Nat.le_refl _)).two HX2.out (store3_agree (by omega) _) (store3_new _ rfl _) (Nat.le_refl _) (by simp)).mono (by omega) (Nat.le_refl _)
  | dot a b iha ihb =>
    intro w hs
    have hsa : a.size ≤ 4194304 ∧ b.size ≤ 4194304 := by simp only [Nd.size] at hs; omega
    have K1 : Hid (∀ W : World, Calls Try.prog 122 #[a.val] W (ExEnd a.kd a.nm a.ks W)) := fun W => iha W hsa.1
    have K2 : Hid (∀ W : World, Calls Try.prog 122 #[b.val] W (ExEnd b.kd b.nm b.ks W)) := fun W => ihb W hsa.2
    clear iha ihb hsa hs
    show Calls Try.prog 122 #[.iface 189 (.agg #[a.val, b.val, .int .i64 (1 + a.size + b.size : Nat)])] w (ExEnd 7 0 (.cons a.kd a.nm a.ks (.cons b.kd b.nm b.ks .nil)) w)
    obtain ⟨T1, x1, h1⟩ := Nd.val_if a
    obtain ⟨T2, x2, h2⟩ := Nd.val_if b
    rw [h1] at K1 ⊢
    rw [h2] at K2 ⊢
    clear h1 h2
    generalize ((1 + a.size + b.size : Nat) : Int) = z
    generalize a.kd = k1 at K1 ⊢
    generalize a.nm = n1 at K1 ⊢
    generalize a.ks = g1 at K1 ⊢
    generalize b.kd = k2 at K2 ⊢
    generalize b.nm = n2 at K2 ⊢
    generalize b.ks = g2 at K2 ⊢
    have q_one := is_dot_one
    have q_test := is_dot_test
    have q_act := is_dot_act
    have q_not := is_dot_not
    have q_sum := is_dot_sum
    have q_dot := is_dot_dot
    go_enter Try.func122, Try.ntmps122
    go_wp2_with fail
    obtain ⟨W0, hW0⟩ : ∃ W0, W0 = (w.alloc (.cells #[.int .i64 0, .int .i64 0, .slice none 0 0] 46)).alloc (.cells #[.iface T1 x1, .iface T2 x2, .int .i64 z] 189) := ⟨_, rfl⟩
    rw [← hW0]
    have HS : Hid (St w [(w.heap.size + 1, 0, .iface T1 x1), (w.heap.size + 1, 1, .iface T2 x2)] W0) := by rw [hW0]; exact ⟨(by unfold Sees; go_grown), (by simp [go_sem]), (by simp [go_sem]), trivial⟩
    have HB0 : Hid (W0.heap[w.heap.size]? = some (.cells #[.int .i64 0, .int .i64 0, .slice none 0 0] 46 (0, 0))) := by show _ = _; rw [hW0, Below.heap_alloc _ _ _ (by simp)]; exact heap_new _ _ _ rfl
    have z0 : W0.heap.size = w.heap.size + 1 + 1 := by rw [hW0]; simp
    clear hW0
    go_region_held3 (fun w' => Sees w w' ∧ w'.cell? ⟨w.heap.size + 1, 0, none⟩ = some (.iface T1 x1) ∧ w'.cell? ⟨w.heap.size + 1, 1, none⟩ = some (.iface T2 x2) ∧ True)
      (first | exact HS.out.drew | exact UA | exact UB | exact UB.alloc _ | exact UBS _ _ _ _ | (go_keep; done))
      (first | (go_at_call_of 122 (Value.iface T1 x1); refine (K1.out _).mono ?_; rintro e wa ⟨A1, rfl, IA, hba⟩; have UA := HS.out.drew.below hba; have HBA := (hba.block _ (show w.heap.size < W0.heap.size by omega)).trans HB0.out; have zA : W0.heap.size ≤ wa.heap.size := hba.size; have HIA := Lib.hid IA; clear IA hba) | (go_at_call_of 122 (Value.iface T2 x2); refine (K2.out _).mono ?_; rintro e wb ⟨A2, rfl, IB, hbb⟩; have UB := UA.below hbb; have HBB := (hbb.block _ (show w.heap.size < wa.heap.size by omega)).trans HBA; obtain ⟨c0, c1, c2, f0, f1', f2⟩ := cells3 HBB; have zB := hbb.size; have z1 : w.heap.size < wb.heap.size := (by omega); have z2 : wb.heap.size ≠ w.heap.size := (by omega); have z3 : w.heap.size ≠ wb.heap.size := (by omega); have HX1 := Lib.hid (HIA.out.agree (Fo.Agree.of_below hbb)); have HX2 := Lib.hid IB; have UBS := fun (p q r : Value) (ob : Obj) => store3_st (a := p) (b := q) (c := r) UB (Nat.le_refl _) (by simp; omega) ob; clear IB hbb))
    go_wp2_with fail
    obtain ⟨d0, d1, d2, _⟩ := cells3 (store3 (a := .int .i64 7) (b := .int .i64 0) (c := .slice (some ⟨wb.heap.size, 0, none⟩) 2 2) HBB (.cells #[.int .i64 k1, .int .i64 n1, .slice A1 g1.len g1.len, .int .i64 k2, .int .i64 n2, .slice A2 g2.len g2.len] 46))
    refine bodyPost_ret (v := .agg #[.int .i64 7, .int .i64 0, .slice (some ⟨wb.heap.size, 0, none⟩) 2 2]) (by simp [results, Try.results122, go_sem, d0, d1, d2]) rfl ⟨_, rfl, ?_, store3_sees UB.1 (Nat.le_refl _) _⟩
    exact ((HX1.out.mono (lo' := w.heap.size + 1) (by show _ ≤ W0.heap.size; omega) (Nat.le_refl _)).two HX2.out (store3_agree (by omega) _) (store3_new _ rfl _) (Nat.le_refl _) (by simp)).mono (by omega) (Nat.le_refl _)
  | star a ih =>
    intro w hs
    have hsa : a.size ≤ 4194304 := by simp only [Nd.size] at hs; omega
    have K1 : Hid (∀ W : World, Calls Try.prog 122 #[a.val] W (ExEnd a.kd a.nm a.ks W)) := fun W => ih W hsa
    clear ih hsa hs
    show Calls Try.prog 122 #[.iface 190 (.agg #[a.val, .int .i64 (1 + a.size : Nat)])] w (ExEnd 8 0 (.cons a.kd a.nm a.ks .nil) w)
    obtain ⟨T1, x1, h1⟩ := Nd.val_if a
    rw [h1] at K1 ⊢
    clear h1
    generalize ((1 + a.size : Nat) : Int) = z
    generalize a.kd = k1 at K1 ⊢
    generalize a.nm = n1 at K1 ⊢
    generalize a.ks = f1 at K1 ⊢
    have q_one := is_star_one
    have q_test := is_star_test
    have q_act := is_star_act
    have q_not := is_star_not
    have q_sum := is_star_sum
    have q_dot := is_star_dot
    have q_star := is_star_star
    go_enter Try.func122, Try.ntmps122
    go_wp2_with fail
    refine (K1.out _).mono ?_
    rintro e w1 ⟨A1, rfl, hX, hb⟩
    have B1 : Sees w w1 := Below.trans (by go_grown) (hb.mono (B' := w.heap.size) (by simp; omega))
    simp only [World.size_alloc] at hX hb
    have hbk : w1.heap[w.heap.size]? = some (.cells #[.int .i64 0, .int .i64 0, .slice none 0 0] 46 (0, 0)) := (hb.block _ (by omega)).trans (by rw [Below.heap_alloc _ _ _ (by simp)]; exact heap_new _ _ _ rfl)
    obtain ⟨c0, c1, c2, f0, f1', f2⟩ := cells3 hbk
    have HX := Lib.hid hX; have hz := hb.size
    simp only [World.size_alloc] at hz
    have z1 : w.heap.size < w1.heap.size := by omega
    have z2 : w1.heap.size ≠ w.heap.size := by omega
    have z3 : w.heap.size ≠ w1.heap.size := by omega
    clear hX hb hz
    go_wp2_with fail
    obtain ⟨d0, d1, d2, _⟩ := cells3 (store3 (a := .int .i64 8) (b := .int .i64 0) (c := .slice (some ⟨w1.heap.size, 0, none⟩) 1 1) hbk (.cells #[.int .i64 k1, .int .i64 n1, .slice A1 f1.len f1.len] 46))
    refine bodyPost_ret (v := .agg #[.int .i64 8, .int .i64 0, .slice (some ⟨w1.heap.size, 0, none⟩) 1 1]) (by simp [results, Try.results122, go_sem, d0, d1, d2]) rfl ⟨_, rfl, ?_, store3_sees B1 (Nat.le_refl _) _⟩
    exact ((HX.out.mono (lo' := w.heap.size + 1) (by omega) (Nat.le_refl _)).one (store3_agree (by omega) _) (store3_new _ rfl _) (Nat.le_refl _) (by simp)).mono (by omega) (Nat.le_refl _)
end Go.Proofs.Ytmblgkpgfofceaa
