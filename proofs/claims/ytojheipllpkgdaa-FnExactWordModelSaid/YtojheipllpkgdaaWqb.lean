/- A model under way: its box at a block of its own, its table of tests somewhere beside it, its actions grown by append. Plain facts. Nodes: what impl's node values are. Plain facts, no walk. Contracts of the nodes' sizes and of impl.newNot, newSum, newDot, newStar. Contract of impl.nodeOf. -/
import Derived.Test.YtojheipllpkgdaaWqa
import Derived.Test.YtojheipllpkgdaaTreeD
import Derived.Test.YtojheipllpkgdaaSep
import Derived.Lib.Hide
import Derived.Test.YtojheipllpkgdaaQuietC
import Derived.Deep.RegionWith
namespace Go.Proofs.Ytojheipllpkgdaa
open Go.RowKit
set_option linter.unusedVariables false

/-- The state of a loop that appends actions to a model in block bm; w1 is the world ahead of the model, s2 where the actions' blocks begin. -/
structure Emp (w1 : World) (bm s2 t a p : Nat) (ts : List (List Bool)) (A1 : Option Addr) (acts : List (List (List Bool))) (v : Value) (W : World) : Prop where
  box : W.heap[bm]? = some (.cells #[.int .i64 (t : Int), .int .i64 (a : Int), .int .i64 (p : Int), .slice A1 t t, v] 32 (0, 0))
  acc : Acc 29 BBF List.length s2 W v acts
  tests : ∃ G : FP, BBF W ts A1 G ∧ ∀ k, G k → w1.heap.size ≤ k ∧ k < s2 ∧ k ≠ bm
  below : Below w1.heap.size w1 W
  size : s2 ≤ W.heap.size
  low : w1.heap.size ≤ bm ∧ bm < s2
theorem Emp.grow {w1 W W' : World} {bm s2 t a p : Nat} {ts : List (List Bool)} {A1 : Option Addr} {acts : List (List (List Bool))} {v : Value} (h : Emp w1 bm s2 t a p ts A1 acts v W) (hb : Below W.heap.size W W') : Emp w1 bm s2 t a p ts A1 acts v W' := by
  obtain ⟨G, hG, hk⟩ := h.tests
  exact ⟨(hb.block _ (by have := h.size; have := h.low; omega)).trans h.box, h.acc.below bbF_ok hb, ⟨G, bbF_ok.keep hG fun k hg => hb.block k (by have := hk k hg; have := h.size; omega), hk⟩, h.below.trans (hb.mono h.below.size), Nat.le_trans h.size hb.size, h.low⟩
/-- With no action: the table made first, or the box made first. -/
theorem Emp.start {w1 W : World} {bm t a p : Nat} {ts : List (List Bool)} {A1 : Option Addr} {G : FP} (hbx : W.heap[bm]? = some (.cells #[.int .i64 (t : Int), .int .i64 (a : Int), .int .i64 (p : Int), .slice A1 t t, .slice none 0 0] 32 (0, 0))) (hG : BBF W ts A1 G) (hk : ∀ k, G k → w1.heap.size ≤ k ∧ k < W.heap.size ∧ k ≠ bm) (hb : Below w1.heap.size w1 W) (hl : w1.heap.size ≤ bm) : Emp w1 bm W.heap.size t a p ts A1 [] (.slice none 0 0) W :=
  ⟨hbx, Acc.start, ⟨G, hG, hk⟩, hb, Nat.le_refl _, hl, (Array.getElem?_eq_some_iff.1 hbx).1⟩
theorem Emp.boxfirst {w0 wa : World} {t a p lo : Nat} {ts : List (List Bool)} {A1 : Option Addr} {u0 u1 u2 u3 u4 : Value} (hbx : wa.heap[w0.heap.size]? = some (.cells #[u0, u1, u2, u3, u4] 32 (0, 0))) (hQ : BBF wa ts A1 (rng lo wa.heap.size)) (hlo : w0.heap.size < lo) (hs : Sees w0 wa) :
    Emp w0 w0.heap.size (((((wa.setCell ⟨w0.heap.size, 0, none⟩ (.int .i64 (t : Int))).setCell ⟨w0.heap.size, 1, none⟩ (.int .i64 (a : Int))).setCell ⟨w0.heap.size, 2, none⟩ (.int .i64 (p : Int))).setCell ⟨w0.heap.size, 3, none⟩ (.slice A1 t t)).setCell ⟨w0.heap.size, 4, none⟩ (.slice none 0 0)).heap.size t a p ts A1 [] (.slice none 0 0) (((((wa.setCell ⟨w0.heap.size, 0, none⟩ (.int .i64 (t : Int))).setCell ⟨w0.heap.size, 1, none⟩ (.int .i64 (a : Int))).setCell ⟨w0.heap.size, 2, none⟩ (.int .i64 (p : Int))).setCell ⟨w0.heap.size, 3, none⟩ (.slice A1 t t)).setCell ⟨w0.heap.size, 4, none⟩ (.slice none 0 0)) :=
  Emp.start (five_block hbx _ _ _ _ _) (bbF_ok.keep hQ fun k hk => five_keep wa w0.heap.size k _ _ _ _ _ (by have := hk.1; omega)) (fun k hk => ⟨by have := hk.1; omega, by simpa using hk.2, by have := hk.1; omega⟩) (five_below hs (Nat.le_refl _) _ _ _ _ _) (Nat.le_refl _)
theorem Emp.tabfirst {w0 wa : World} {t a p lo : Nat} {ts : List (List Bool)} {A1 : Option Addr} (hQ : BBF wa ts A1 (rng lo wa.heap.size)) (hlo : w0.heap.size ≤ lo) (hs : Sees w0 wa) :
    Emp w0 wa.heap.size (wa.alloc (.cells #[.int .i64 (t : Int), .int .i64 (a : Int), .int .i64 (p : Int), .slice A1 t t, .slice none 0 0] 32)).heap.size t a p ts A1 [] (.slice none 0 0) (wa.alloc (.cells #[.int .i64 (t : Int), .int .i64 (a : Int), .int .i64 (p : Int), .slice A1 t t, .slice none 0 0] 32)) :=
  Emp.start (heap_new _ _ _ rfl) (bbF_ok.keep hQ fun k hk => Below.heap_alloc _ _ _ hk.2) (fun k hk => ⟨by have := hk.1; omega, by have := hk.2; simp; omega, by have := hk.2; omega⟩) (hs.alloc _) hs.size
theorem Emp.tabfirst' {w0 wa : World} {t a p lo : Nat} {ts : List (List Bool)} {A1 : Option Addr} {u0 u1 u2 u3 u4 : Value} (hQ : BBF wa ts A1 (rng lo wa.heap.size)) (hlo : w0.heap.size ≤ lo) (hs : Sees w0 wa) :
    Emp w0 wa.heap.size ((((((wa.alloc (.cells #[u0, u1, u2, u3, u4] 32)).setCell ⟨wa.heap.size, 0, none⟩ (.int .i64 (t : Int))).setCell ⟨wa.heap.size, 1, none⟩ (.int .i64 (a : Int))).setCell ⟨wa.heap.size, 2, none⟩ (.int .i64 (p : Int))).setCell ⟨wa.heap.size, 3, none⟩ (.slice A1 t t)).setCell ⟨wa.heap.size, 4, none⟩ (.slice none 0 0)).heap.size t a p ts A1 [] (.slice none 0 0) ((((((wa.alloc (.cells #[u0, u1, u2, u3, u4] 32)).setCell ⟨wa.heap.size, 0, none⟩ (.int .i64 (t : Int))).setCell ⟨wa.heap.size, 1, none⟩ (.int .i64 (a : Int))).setCell ⟨wa.heap.size, 2, none⟩ (.int .i64 (p : Int))).setCell ⟨wa.heap.size, 3, none⟩ (.slice A1 t t)).setCell ⟨wa.heap.size, 4, none⟩ (.slice none 0 0)) :=
  Emp.start (five_block (heap_new wa _ _ rfl) _ _ _ _ _) (bbF_ok.keep hQ fun k hk => (five_keep _ wa.heap.size k _ _ _ _ _ (by have := hk.2; omega)).trans (Below.heap_alloc _ _ _ hk.2)) (fun k hk => ⟨by have := hk.1; omega, by have := hk.2; simp; omega, by have := hk.2; omega⟩) (five_below (hs.alloc _) hs.size _ _ _ _ _) hs.size
theorem Emp.push {w1 Wa w' : World} {bm s2 t a p : Nat} {ts : List (List Bool)} {A1 : Option Addr} {acts acts' : List (List (List Bool))} {v v' : Value} (h : Emp w1 bm s2 t a p ts A1 acts v Wa) (hacc : Acc 29 BBF List.length s2 w' v' acts') (hg : Wa.grownBy w' v.ownBlock) :
    Emp w1 bm s2 t a p ts A1 acts' v' (w'.setCell ⟨bm, 4, none⟩ v') ∧ w'.heap[bm]? = some (.cells #[.int .i64 (t : Int), .int .i64 (a : Int), .int .i64 (p : Int), .slice A1 t t, v] 32 (0, 0)) := by
  obtain ⟨vals, G, h1, _⟩ := h.acc
  obtain ⟨G0, hG0, hk0⟩ := h.tests
  have hlt := h1.lt
  have z1 := h.size; have z2 := h.low; have z3 := hg.size
  have hk : ∀ k, k < s2 → w'.heap[k]? = Wa.heap[k]? := fun k hk => hg.block k (by omega) (fun he => by have := (hlt k he.symm).1; omega)
  have hbx := (hk bm (by omega)).trans h.box
  have hks : ∀ k, k ≠ bm → (w'.setCell ⟨bm, 4, none⟩ v').heap[k]? = w'.heap[k]? := fun k hk2 => Below.heap_setCell _ _ _ _ hk2
  have hsz : (w'.setCell ⟨bm, 4, none⟩ v').heap.size = w'.heap.size := by simp
  refine ⟨⟨by rw [Fo.block_setCell hbx _]; rfl, hacc.keep bbF_ok (by rw [hsz]; exact Nat.le_refl _) (fun k hk2 _ => hks k (by omega)), ⟨G0, bbF_ok.keep hG0 fun k hg0 => (hks k (hk0 k hg0).2.2).trans (hk k (hk0 k hg0).2.1), hk0⟩, ?_, by rw [hsz]; omega, h.low⟩, hbx⟩
  exact Below.setCell (h.below.trans ⟨hg.os, hg.tape, hg.output, hg.size, fun k hk2 => hk k (by omega)⟩) h.low.1 _
/-- Copied into the result's box b, which lies ahead of w1. -/
theorem Emp.mret {w1 W : World} {bm s2 t a p n b : Nat} {ts : List (List Bool)} {A1 A2 : Option Addr} {acts : List (List (List Bool))} {v : Value} {w : World} (h : Emp w1 bm s2 t a p ts A1 acts v W) (hR : RowsF BBF List.length W acts A2 (rng s2 W.heap.size)) (hn : w.heap.size ≤ b) (hb : b < w1.heap.size) (hw : Below w.heap.size w W) (v0 v1 v2 v3 v4 : Value) {C1 C2 : Nat} (ht : ts.length = t) (ha : acts.length = n) :
    MRet t a p ts acts w (.returned (.agg #[.int .i64 (t : Int), .int .i64 (a : Int), .int .i64 (p : Int), .slice A1 t C1, .slice A2 n C2])) (((((W.setCell ⟨b, 0, none⟩ v0).setCell ⟨b, 1, none⟩ v1).setCell ⟨b, 2, none⟩ v2).setCell ⟨b, 3, none⟩ v3).setCell ⟨b, 4, none⟩ v4) := by
  subst ha
  obtain ⟨G, hG, hk⟩ := h.tests
  have z1 := h.low; have z2 := h.size
  have zs : (((((W.setCell ⟨b, 0, none⟩ v0).setCell ⟨b, 1, none⟩ v1).setCell ⟨b, 2, none⟩ v2).setCell ⟨b, 3, none⟩ v3).setCell ⟨b, 4, none⟩ v4).heap.size = W.heap.size := by simp
  refine ⟨A1, A2, C1, C2, s2, by rw [ht], by omega, by rw [zs]; omega, bbF_ok.mono (bbF_ok.keep hG fun k hg => five_keep W b k _ _ _ _ _ (by have := hk k hg; omega)) (fun k hg => ⟨by have := hk k hg; omega, (hk k hg).2.1⟩), ?_, five_below hw hn _ _ _ _ _⟩
  rw [zs]
  exact (rowsF_ok bbF_ok List.length).keep hR fun k hk => five_keep W b k _ _ _ _ _ (by have := hk.1; omega)
end Go.Proofs.Ytojheipllpkgdaa

namespace Go.Proofs.Ytojheipllpkgdaa
open Go.RowKit

inductive Nd where
  | zero
  | one
  | test (n : Int)
  | act (n : Int)
  | not (a : Nd)
  | sum (a b : Nd)
  | dot (a b : Nd)
  | star (a : Nd)
deriving DecidableEq, Inhabited

namespace Nd
def size : Nd → Nat
  | zero | one | test _ | act _ => 1
  | not a | star a => 1 + a.size
  | sum a b | dot a b => 1 + a.size + b.size
def val : Nd → Value
  | zero => .iface 186 (.agg #[])
  | one => .iface 171 (.agg #[])
  | test n => .iface 173 (.agg #[.int .i64 n])
  | act n => .iface 177 (.agg #[.int .i64 n])
  | not a => .iface 175 (.agg #[a.val, .int .i64 (1 + a.size : Nat)])
  | sum a b => .iface 179 (.agg #[a.val, b.val, .int .i64 (1 + a.size + b.size : Nat)])
  | dot a b => .iface 181 (.agg #[a.val, b.val, .int .i64 (1 + a.size + b.size : Nat)])
  | star a => .iface 182 (.agg #[a.val, .int .i64 (1 + a.size : Nat)])
end Nd

/-- The node of an expression without kids. -/
def leaf (k n : Int) : Nd := if k = 2 then .one else if k = 3 then .test n else if k = 4 then .act n else .zero
/-- The node of an expression. -/
def ndE : Fo → Int → Int → Nd
  | .nil, k, n => leaf k n
  | .cons k1 n1 f1 .nil, k, n => if k = 5 then .not (ndE f1 k1 n1) else if k = 8 then .star (ndE f1 k1 n1) else leaf k n
  | .cons k1 n1 f1 (.cons k2 n2 f2 _), k, n => if k = 6 then .sum (ndE f1 k1 n1) (ndE f2 k2 n2) else if k = 7 then .dot (ndE f1 k1 n1) (ndE f2 k2 n2) else leaf k n

/-- The forms that an expression of the table has. -/
theorem tree_forms {t a : Int} {b : Bool} {k n : Int} {f : Fo} (h : treeE t a b k n f = true) :
    (f = .nil ∧ (k = 1 ∨ k = 2 ∨ (k = 3 ∧ 0 ≤ n ∧ n < t) ∨ (k = 4 ∧ 0 ≤ n ∧ n < a))) ∨
    (∃ k1 n1 f1, f = .cons k1 n1 f1 .nil ∧ (k = 5 ∨ k = 8) ∧ treeE t a (b || k == 5) k1 n1 f1 = true) ∨
    (∃ k1 n1 f1 k2 n2 f2, f = .cons k1 n1 f1 (.cons k2 n2 f2 .nil) ∧ (k = 6 ∨ k = 7) ∧ treeE t a b k1 n1 f1 = true ∧ treeE t a b k2 n2 f2 = true) := by
  have h0 := h
  unfold treeE shapeB at h
  simp only [Bool.and_eq_true, decide_eq_true_eq] at h
  obtain ⟨⟨⟨h1, h2, h3⟩, h4⟩, h5⟩ := h
  have hk : (1 ≤ k ∧ k ≤ 4 ∧ f.len = 0) ∨ ((k = 5 ∨ k = 8) ∧ f.len = 1) ∨ ((k = 6 ∨ k = 7) ∧ f.len = 2) := by
    unfold kidC at h1
    split at h1
    · left; omega
    · split at h1
      · right; left; omega
      · split at h1
        · right; right; omega
        · omega
  rcases hk with ⟨hk1, hk2, hl⟩ | ⟨hk, hl⟩ | ⟨hk, hl⟩
  · left
    refine ⟨Fo.nil_of_len hl, ?_⟩
    unfold numC at h3
    split at h3
    · right; right; left; omega
    · split at h3
      · right; right; right; omega
      · omega
  · right; left
    match f, hl with
    | .cons k1 n1 f1 r, hl =>
      have hr : r = .nil := Fo.nil_of_len (by simp [Fo.len] at hl; omega)
      subst hr
      refine ⟨k1, n1, f1, rfl, hk, ?_⟩
      rw [Fo.tree_cons] at h5
      simp only [Bool.and_eq_true] at h5
      exact h5.1
  · right; right
    have hk5 : (k == 5) = false := by rw [beq_eq_false_iff_ne]; omega
    match f, hl with
    | .cons k1 n1 f1 (.cons k2 n2 f2 r), hl =>
      have hr : r = .nil := Fo.nil_of_len (by simp [Fo.len] at hl; omega)
      subst hr
      refine ⟨k1, n1, f1, k2, n2, f2, rfl, hk, ?_⟩
      rw [hk5, Bool.or_false, Fo.tree_cons, Fo.tree_cons] at h5
      simp only [Bool.and_eq_true] at h5
      exact ⟨h5.1, h5.2.1⟩
    | .cons _ _ _ .nil, hl => simp [Fo.len] at hl

theorem leaf_size (k n : Int) : (leaf k n).size = 1 := by
  unfold leaf; split
  · rfl
  · split
    · rfl
    · split <;> rfl
theorem ndE_size : ∀ (f : Fo) (k n : Int), (ndE f k n).size ≤ 1 + f.nodes
  | .nil, k, n => by simp [ndE, leaf_size, Fo.nodes]
  | .cons k1 n1 f1 .nil, k, n => by
    have h1 := ndE_size f1 k1 n1
    unfold ndE
    split
    · simp only [Nd.size, Fo.nodes]; omega
    · split
      · simp only [Nd.size, Fo.nodes]; omega
      · rw [leaf_size]; omega
  | .cons k1 n1 f1 (.cons k2 n2 f2 r), k, n => by
    have h1 := ndE_size f1 k1 n1
    have h2 := ndE_size f2 k2 n2
    unfold ndE
    split
    · simp only [Nd.size, Fo.nodes]; omega
    · split
      · simp only [Nd.size, Fo.nodes]; omega
      · rw [leaf_size]; omega
end Go.Proofs.Ytojheipllpkgdaa

namespace Go.Proofs.Ytojheipllpkgdaa
open Go.RowKit

theorem zeroNode_size  (w : World) : Calls Try.prog 211 #[.agg #[]] w fun e w' => e = .returned (.int .i64 1) ∧ Below w.heap.size w w' := by
  go_enter Try.func211, Try.ntmps211
  go_wp2_with fail
  go_ret
  exact ⟨rfl, by go_grown⟩

theorem oneNode_size  (w : World) : Calls Try.prog 204 #[.agg #[]] w fun e w' => e = .returned (.int .i64 1) ∧ Below w.heap.size w w' := by
  go_enter Try.func204, Try.ntmps204
  go_wp2_with fail
  go_ret
  exact ⟨rfl, by go_grown⟩

theorem testNode_size (n : Int) (w : World) : Calls Try.prog 205 #[.agg #[.int .i64 n]] w fun e w' => e = .returned (.int .i64 1) ∧ Below w.heap.size w w' := by
  go_enter Try.func205, Try.ntmps205
  go_wp2_with fail
  go_ret
  exact ⟨rfl, by go_grown⟩

theorem actNode_size (n : Int) (w : World) : Calls Try.prog 207 #[.agg #[.int .i64 n]] w fun e w' => e = .returned (.int .i64 1) ∧ Below w.heap.size w w' := by
  go_enter Try.func207, Try.ntmps207
  go_wp2_with fail
  go_ret
  exact ⟨rfl, by go_grown⟩

theorem notNode_size (v : Value) (n : Int) (w : World) : Calls Try.prog 206 #[.agg #[v, .int .i64 n]] w fun e w' => e = .returned (.int .i64 n) ∧ Below w.heap.size w w' := by
  go_enter Try.func206, Try.ntmps206
  go_wp2_with fail
  go_ret
  exact ⟨rfl, by go_grown⟩

theorem starNode_size (v : Value) (n : Int) (w : World) : Calls Try.prog 210 #[.agg #[v, .int .i64 n]] w fun e w' => e = .returned (.int .i64 n) ∧ Below w.heap.size w w' := by
  go_enter Try.func210, Try.ntmps210
  go_wp2_with fail
  go_ret
  exact ⟨rfl, by go_grown⟩

theorem sumNode_size (v u : Value) (n : Int) (w : World) : Calls Try.prog 208 #[.agg #[v, u, .int .i64 n]] w fun e w' => e = .returned (.int .i64 n) ∧ Below w.heap.size w w' := by
  go_enter Try.func208, Try.ntmps208
  go_wp2_with fail
  go_ret
  exact ⟨rfl, by go_grown⟩

theorem dotNode_size (v u : Value) (n : Int) (w : World) : Calls Try.prog 209 #[.agg #[v, u, .int .i64 n]] w fun e w' => e = .returned (.int .i64 n) ∧ Below w.heap.size w w' := by
  go_enter Try.func209, Try.ntmps209
  go_wp2_with fail
  go_ret
  exact ⟨rfl, by go_grown⟩

/-- Each node answers its size. -/
theorem node_size (a : Nd) : ∃ (T : TypeId) (x : Value) (F : FuncId), a.val = .iface T x ∧ (∀ w, (method 345 T x "loop.example/g01101/impl.size").run Try.prog w = .ok (F, x) w) ∧ (∀ w, (callFunc F #[x]).run Try.prog w = .ok (.enter F #[x]) w) ∧
    ∀ w : World, Calls Try.prog F #[x] w fun e w' => e = .returned (.int .i64 (a.size : Int)) ∧ Below w.heap.size w w' := by
  cases a with
  | zero => exact ⟨186, _, 211, rfl, fun _ => by kernel_rfl, fun _ => by kernel_rfl, fun w => zeroNode_size w⟩
  | one => exact ⟨171, _, 204, rfl, fun _ => by kernel_rfl, fun _ => by kernel_rfl, fun w => oneNode_size w⟩
  | test n => exact ⟨173, _, 205, rfl, fun _ => by kernel_rfl, fun _ => by kernel_rfl, fun w => testNode_size n w⟩
  | act n => exact ⟨177, _, 207, rfl, fun _ => by kernel_rfl, fun _ => by kernel_rfl, fun w => actNode_size n w⟩
  | not a => exact ⟨175, _, 206, rfl, fun _ => by kernel_rfl, fun _ => by kernel_rfl, fun w => notNode_size _ _ w⟩
  | sum a b => exact ⟨179, _, 208, rfl, fun _ => by kernel_rfl, fun _ => by kernel_rfl, fun w => sumNode_size _ _ _ w⟩
  | dot a b => exact ⟨181, _, 209, rfl, fun _ => by kernel_rfl, fun _ => by kernel_rfl, fun w => dotNode_size _ _ _ w⟩
  | star a => exact ⟨182, _, 210, rfl, fun _ => by kernel_rfl, fun _ => by kernel_rfl, fun w => starNode_size _ _ w⟩

set_option maxRecDepth 100000 in
set_option maxHeartbeats 1000000 in
theorem newNot_any (a : Nd) (w : World) (h : 1 + a.size ≤ 4194304) : Calls Try.prog 135 #[a.val] w fun e w' => e = .returned ((Nd.not a).val) ∧ Below w.heap.size w w' := by
  obtain ⟨T1, x1, F1, hv1, hm1, he1, hc1⟩ := node_size a
  have HV : Hid ((Nd.not a).val = .iface 175 (.agg #[.iface T1 x1, .int .i64 (1 + (a.size : Int))])) := by
    have e0 : (Nd.not a).val = .iface 175 (.agg #[a.val, .int .i64 ((1 + a.size : Nat) : Int)]) := rfl
    show _ = _
    rw [e0, hv1, show ((1 + a.size : Nat) : Int) = 1 + (a.size : Int) from by omega]
  rw [hv1]
  have K1 := Lib.hid hc1
  clear hv1 hc1
  go_enter Try.func135, Try.ntmps135
  go_wp2_with fail
  refine (K1.out _).mono ?_
  rintro e w1 ⟨rfl, hb1⟩
  go_wp2_with fail
  go_ret
  refine ⟨by rw [HV.out]; rfl, hb1⟩

set_option maxRecDepth 100000 in
set_option maxHeartbeats 1000000 in
theorem newStar_any (a : Nd) (w : World) (h : 1 + a.size ≤ 4194304) : Calls Try.prog 138 #[a.val] w fun e w' => e = .returned ((Nd.star a).val) ∧ Below w.heap.size w w' := by
  obtain ⟨T1, x1, F1, hv1, hm1, he1, hc1⟩ := node_size a
  have HV : Hid ((Nd.star a).val = .iface 182 (.agg #[.iface T1 x1, .int .i64 (1 + (a.size : Int))])) := by
    have e0 : (Nd.star a).val = .iface 182 (.agg #[a.val, .int .i64 ((1 + a.size : Nat) : Int)]) := rfl
    show _ = _
    rw [e0, hv1, show ((1 + a.size : Nat) : Int) = 1 + (a.size : Int) from by omega]
  rw [hv1]
  have K1 := Lib.hid hc1
  clear hv1 hc1
  go_enter Try.func138, Try.ntmps138
  go_wp2_with fail
  refine (K1.out _).mono ?_
  rintro e w1 ⟨rfl, hb1⟩
  go_wp2_with fail
  go_ret
  refine ⟨by rw [HV.out]; rfl, hb1⟩

set_option maxRecDepth 100000 in
set_option maxHeartbeats 1000000 in
theorem newSum_any (a b : Nd) (w : World) (h : 1 + a.size + b.size ≤ 4194304) : Calls Try.prog 136 #[a.val, b.val] w fun e w' => e = .returned ((Nd.sum a b).val) ∧ Below w.heap.size w w' := by
  obtain ⟨T1, x1, F1, hv1, hm1, he1, hc1⟩ := node_size a
  obtain ⟨T2, x2, F2, hv2, hm2, he2, hc2⟩ := node_size b
  have HV : Hid ((Nd.sum a b).val = .iface 179 (.agg #[.iface T1 x1, .iface T2 x2, .int .i64 (1 + (a.size : Int) + b.size)])) := by
    have e0 : (Nd.sum a b).val = .iface 179 (.agg #[a.val, b.val, .int .i64 ((1 + a.size + b.size : Nat) : Int)]) := rfl
    show _ = _
    rw [e0, hv1, hv2, show ((1 + a.size + b.size : Nat) : Int) = 1 + (a.size : Int) + b.size from by omega]
  rw [hv1, hv2]
  have K1 := Lib.hid hc1
  have K2 := Lib.hid hc2
  clear hv1 hv2 hc1 hc2
  go_enter Try.func136, Try.ntmps136
  go_wp2_with fail
  refine (K1.out _).mono ?_
  rintro e w1 ⟨rfl, hb1⟩
  go_wp2_with fail
  refine (K2.out _).mono ?_
  rintro e w2 ⟨rfl, hb2⟩
  go_wp2_with fail
  go_ret
  refine ⟨by rw [HV.out]; rfl, hb1.trans (hb2.mono hb1.size)⟩

set_option maxRecDepth 100000 in
set_option maxHeartbeats 1000000 in
theorem newDot_any (a b : Nd) (w : World) (h : 1 + a.size + b.size ≤ 4194304) : Calls Try.prog 137 #[a.val, b.val] w fun e w' => e = .returned ((Nd.dot a b).val) ∧ Below w.heap.size w w' := by
  obtain ⟨T1, x1, F1, hv1, hm1, he1, hc1⟩ := node_size a
  obtain ⟨T2, x2, F2, hv2, hm2, he2, hc2⟩ := node_size b
  have HV : Hid ((Nd.dot a b).val = .iface 181 (.agg #[.iface T1 x1, .iface T2 x2, .int .i64 (1 + (a.size : Int) + b.size)])) := by
    have e0 : (Nd.dot a b).val = .iface 181 (.agg #[a.val, b.val, .int .i64 ((1 + a.size + b.size : Nat) : Int)]) := rfl
    show _ = _
    rw [e0, hv1, hv2, show ((1 + a.size + b.size : Nat) : Int) = 1 + (a.size : Int) + b.size from by omega]
  rw [hv1, hv2]
  have K1 := Lib.hid hc1
  have K2 := Lib.hid hc2
  clear hv1 hv2 hc1 hc2
  go_enter Try.func137, Try.ntmps137
  go_wp2_with fail
  refine (K1.out _).mono ?_
  rintro e w1 ⟨rfl, hb1⟩
  go_wp2_with fail
  refine (K2.out _).mono ?_
  rintro e w2 ⟨rfl, hb2⟩
  go_wp2_with fail
  go_ret
  refine ⟨by rw [HV.out]; rfl, hb1.trans (hb2.mono hb1.size)⟩

end Go.Proofs.Ytojheipllpkgdaa

namespace Go.Proofs.Ytojheipllpkgdaa
open Go.RowKit

set_option maxRecDepth 100000 in
set_option maxHeartbeats 2000000 in
theorem nodeOf_any : ∀ (N : Nat) (f : Fo), f.nodes < N → f.nodes ≤ 1048576 → ∀ (t a : Int) (b : Bool) (k n : Int) (A : Option Addr) (C : Nat) (w : World), f.Lies w A → treeE t a b k n f = true →
      Calls Try.prog 79 #[.agg #[.int .i64 k, .int .i64 n, .slice A f.len C]] w fun e w' => e = .returned ((ndE f k n).val) ∧ Below w.heap.size w w' := by
  intro N
  induction N with
  | zero => intro f hN; exact absurd hN (Nat.not_lt_zero _)
  | succ N ih =>
    intro f hN hm t a b k n A C w hl ht
    have IH := Lib.hid ih; clear ih
    rcases tree_forms ht with ⟨rfl, hk⟩ | ⟨k1, n1, f1, rfl, hk, ht1⟩ | ⟨k1, n1, f1, k2, n2, f2, rfl, hk, ht1, ht2⟩
    · clear ht IH
      rcases hk with rfl | rfl | ⟨rfl, _, _⟩ | ⟨rfl, _, _⟩
      all_goals
        go_enter Try.func79, Try.ntmps79
        go_wp2_with fail
        go_ret
        exact ⟨rfl, by go_grown⟩
    all_goals
      obtain ⟨b', o', rfl, hat⟩ := hl (by simp)
      clear hl
    · have hkn : f1.nodes < N ∧ f1.nodes ≤ 1048576 := by simp only [Fo.nodes] at hN hm; omega
      obtain ⟨c0, c1, ⟨A1, C1, c2, hl1'⟩, _⟩ := hat
      have hl1 : f1.Lies w A1 := hl1'
      have lb : b' < w.heap.size := World.block_lt_of_cell? _ _ c0
      have hln : (Fo.cons k1 n1 f1 .nil).len = 1 := rfl
      have HL := Lib.hid hln
      rw [hln]
      clear hln hl1' ht
      rcases hk with rfl | rfl
      · -- not
        have HE : Hid (ndE (.cons k1 n1 f1 .nil) 5 n = .not (ndE f1 k1 n1)) := rfl
        have hsz := ndE_size f1 k1 n1
        obtain ⟨v1, hv1⟩ : ∃ v1 : Value, v1 = (ndE f1 k1 n1).val := ⟨_, rfl⟩
        have KR : Hid (∀ W : World, Sees w W → Calls Try.prog 79 #[.agg #[.int .i64 k1, .int .i64 n1, .slice A1 f1.len C1]] W fun e w' => e = .returned v1 ∧ Below W.heap.size W w') := fun W h => by rw [hv1]; exact IH.out f1 hkn.1 hkn.2 t a _ k1 n1 A1 C1 W (hl1.sees h) ht1
        obtain ⟨v2, hv2⟩ : ∃ v2 : Value, v2 = (Nd.not (ndE f1 k1 n1)).val := ⟨_, rfl⟩
        have KN : Hid (∀ W : World, Calls Try.prog 135 #[v1] W fun e w' => e = .returned v2 ∧ Below W.heap.size W w') := fun W => by rw [hv1, hv2]; exact newNot_any _ W (by omega)
        have HV : Hid ((ndE (.cons k1 n1 f1 .nil) 5 n).val = v2) := by show _ = _; rw [HE.out, hv2]
        clear hv1 hv2 hsz HE IH
        go_enter Try.func79, Try.ntmps79
        go_wp2_with fail
        refine (KR.out _ (by unfold Sees; go_grown)).mono ?_
        rintro e w1 ⟨rfl, hb⟩
        have B1 : Sees w w1 := Sees.below (by unfold Sees; go_grown) hb
        clear hb
        go_wp2_with fail
        refine (KN.out _).mono ?_
        rintro e w2 ⟨rfl, hb⟩
        have B2 := B1.below hb
        clear hb
        go_wp2_with fail
        go_ret
        exact ⟨by rw [HV.out]; rfl, B2⟩
      · -- star
        have HE : Hid (ndE (.cons k1 n1 f1 .nil) 8 n = .star (ndE f1 k1 n1)) := rfl
        have hsz := ndE_size f1 k1 n1
        obtain ⟨v1, hv1⟩ : ∃ v1 : Value, v1 = (ndE f1 k1 n1).val := ⟨_, rfl⟩
        have KR : Hid (∀ W : World, Sees w W → Calls Try.prog 79 #[.agg #[.int .i64 k1, .int .i64 n1, .slice A1 f1.len C1]] W fun e w' => e = .returned v1 ∧ Below W.heap.size W w') := fun W h => by rw [hv1]; exact IH.out f1 hkn.1 hkn.2 t a _ k1 n1 A1 C1 W (hl1.sees h) ht1
        obtain ⟨v2, hv2⟩ : ∃ v2 : Value, v2 = (Nd.star (ndE f1 k1 n1)).val := ⟨_, rfl⟩
        have KN : Hid (∀ W : World, Calls Try.prog 138 #[v1] W fun e w' => e = .returned v2 ∧ Below W.heap.size W w') := fun W => by rw [hv1, hv2]; exact newStar_any _ W (by omega)
        have HV : Hid ((ndE (.cons k1 n1 f1 .nil) 8 n).val = v2) := by show _ = _; rw [HE.out, hv2]
        clear hv1 hv2 hsz HE IH
        go_enter Try.func79, Try.ntmps79
        go_wp2_with fail
        refine (KR.out _ (by unfold Sees; go_grown)).mono ?_
        rintro e w1 ⟨rfl, hb⟩
        have B1 : Sees w w1 := Sees.below (by unfold Sees; go_grown) hb
        clear hb
        go_wp2_with fail
        refine (KN.out _).mono ?_
        rintro e w2 ⟨rfl, hb⟩
        have B2 := B1.below hb
        clear hb
        go_wp2_with fail
        go_ret
        exact ⟨by rw [HV.out]; rfl, B2⟩
    · have hkn : f1.nodes < N ∧ f2.nodes < N ∧ f1.nodes + f2.nodes ≤ 1048576 := by simp only [Fo.nodes] at hN hm; omega
      obtain ⟨c0, c1, ⟨A1, C1, c2, hl1'⟩, d0, d1, ⟨A2, C2, d2, hl2'⟩, _⟩ := hat
      have hl1 : f1.Lies w A1 := hl1'
      have hl2 : f2.Lies w A2 := hl2'
      have lb : b' < w.heap.size := World.block_lt_of_cell? _ _ c0
      have hln : (Fo.cons k1 n1 f1 (.cons k2 n2 f2 .nil)).len = 2 := rfl
      rw [hln]
      clear hl1' hl2' ht hln
      rcases hk with rfl | rfl
      · -- sum
        have HE : Hid (ndE (.cons k1 n1 f1 (.cons k2 n2 f2 .nil)) 6 n = .sum (ndE f1 k1 n1) (ndE f2 k2 n2)) := rfl
        have hsz := ndE_size f1 k1 n1
        have hsz2 := ndE_size f2 k2 n2
        obtain ⟨v1, hv1⟩ : ∃ v1 : Value, v1 = (ndE f1 k1 n1).val := ⟨_, rfl⟩
        obtain ⟨u1, hu1⟩ : ∃ u1 : Value, u1 = (ndE f2 k2 n2).val := ⟨_, rfl⟩
        have KR : Hid (∀ W : World, Sees w W → Calls Try.prog 79 #[.agg #[.int .i64 k1, .int .i64 n1, .slice A1 f1.len C1]] W fun e w' => e = .returned v1 ∧ Below W.heap.size W w') := fun W h => by rw [hv1]; exact IH.out f1 hkn.1 (by omega) t a _ k1 n1 A1 C1 W (hl1.sees h) ht1
        have KR2 : Hid (∀ W : World, Sees w W → Calls Try.prog 79 #[.agg #[.int .i64 k2, .int .i64 n2, .slice A2 f2.len C2]] W fun e w' => e = .returned u1 ∧ Below W.heap.size W w') := fun W h => by rw [hu1]; exact IH.out f2 hkn.2.1 (by omega) t a _ k2 n2 A2 C2 W (hl2.sees h) ht2
        obtain ⟨v2, hv2⟩ : ∃ v2 : Value, v2 = (Nd.sum (ndE f1 k1 n1) (ndE f2 k2 n2)).val := ⟨_, rfl⟩
        have KN : Hid (∀ W : World, Calls Try.prog 136 #[v1, u1] W fun e w' => e = .returned v2 ∧ Below W.heap.size W w') := fun W => by rw [hv1, hu1, hv2]; exact newSum_any _ _ W (by omega)
        have HV : Hid ((ndE (.cons k1 n1 f1 (.cons k2 n2 f2 .nil)) 6 n).val = v2) := by show _ = _; rw [HE.out, hv2]
        have hX : Hid (St w [(w.heap.size, 2, .slice (some ⟨b', o', none⟩) 2 C), (b', o', .int .i64 k1), (b', o' + 1, .int .i64 n1), (b', o' + 2, .slice A1 f1.len C1), (b', o' + 3, .int .i64 k2), (b', o' + 4, .int .i64 n2), (b', o' + 5, .slice A2 f2.len C2)] (w.alloc (.cells #[.int .i64 6, .int .i64 n, .slice (some ⟨b', o', none⟩) 2 C] 57))) := ⟨(by unfold Sees; go_grown), (by simp [go_sem]), ka _ c0, ka _ c1, ka _ c2, ka _ d0, ka _ d1, ka _ d2, trivial⟩
        clear hv1 hu1 hv2 hsz hsz2 HE IH c0 c1 c2 d0 d1 d2
        go_enter Try.func79, Try.ntmps79
        go_wp2_with fail
        refine wp_region_quietC w [(w.heap.size, 2, .slice (some ⟨b', o', none⟩) 2 C), (b', o', .int .i64 k1), (b', o' + 1, .int .i64 n1), (b', o' + 2, .slice A1 f1.len C1), (b', o' + 3, .int .i64 k2), (b', o' + 4, .int .i64 n2), (b', o' + 5, .slice A2 f2.len C2)] (by kernel_rfl) (by kernel_rfl) hX.out ?_
        repeat (first | go_big_quiet_skip | (go_big_quiet_want; apply Exists.intro; refine ⟨fun W hW => ?_, ?_⟩; focus (have hK := Lib.hid hW; obtain ⟨hs, hc⟩ := hW; simp only [Has, and_true] at hc; go_simp; (first | (go_at_call_of 79 A1; exact quietC_call hK.out (KR.out _ hK.out.1)) | (go_at_call_of 79 A2; exact quietC_call hK.out (KR2.out _ hK.out.1)) | (go_at_call 136; exact quietC_call hK.out (KN.out _)) | rfl))) | (go_simp; go_big_quiet_on))
        refine wpQuiet_nil ?_
        intro w1 H1
        go_wp2_with fail
        go_ret
        exact ⟨by rw [HV.out]; rfl, H1.1⟩
      · -- dot
        have HE : Hid (ndE (.cons k1 n1 f1 (.cons k2 n2 f2 .nil)) 7 n = .dot (ndE f1 k1 n1) (ndE f2 k2 n2)) := rfl
        have hsz := ndE_size f1 k1 n1
        have hsz2 := ndE_size f2 k2 n2
        obtain ⟨v1, hv1⟩ : ∃ v1 : Value, v1 = (ndE f1 k1 n1).val := ⟨_, rfl⟩
        obtain ⟨u1, hu1⟩ : ∃ u1 : Value, u1 = (ndE f2 k2 n2).val := ⟨_, rfl⟩
        have KR : Hid (∀ W : World, Sees w W → Calls Try.prog 79 #[.agg #[.int .i64 k1, .int .i64 n1, .slice A1 f1.len C1]] W fun e w' => e = .returned v1 ∧ Below W.heap.size W w') := fun W h => by rw [hv1]; exact IH.out f1 hkn.1 (by omega) t a _ k1 n1 A1 C1 W (hl1.sees h) ht1
        have KR2 : Hid (∀ W : World, Sees w W → Calls Try.prog 79 #[.agg #[.int .i64 k2, .int .i64 n2, .slice A2 f2.len C2]] W fun e w' => e = .returned u1 ∧ Below W.heap.size W w') := fun W h => by rw [hu1]; exact IH.out f2 hkn.2.1 (by omega) t a _ k2 n2 A2 C2 W (hl2.sees h) ht2
        obtain ⟨v2, hv2⟩ : ∃ v2 : Value, v2 = (Nd.dot (ndE f1 k1 n1) (ndE f2 k2 n2)).val := ⟨_, rfl⟩
        have KN : Hid (∀ W : World, Calls Try.prog 137 #[v1, u1] W fun e w' => e = .returned v2 ∧ Below W.heap.size W w') := fun W => by rw [hv1, hu1, hv2]; exact newDot_any _ _ W (by omega)
        have HV : Hid ((ndE (.cons k1 n1 f1 (.cons k2 n2 f2 .nil)) 7 n).val = v2) := by show _ = _; rw [HE.out, hv2]
        have hX : Hid (St w [(w.heap.size, 2, .slice (some ⟨b', o', none⟩) 2 C), (b', o', .int .i64 k1), (b', o' + 1, .int .i64 n1), (b', o' + 2, .slice A1 f1.len C1), (b', o' + 3, .int .i64 k2), (b', o' + 4, .int .i64 n2), (b', o' + 5, .slice A2 f2.len C2)] (w.alloc (.cells #[.int .i64 7, .int .i64 n, .slice (some ⟨b', o', none⟩) 2 C] 57))) := ⟨(by unfold Sees; go_grown), (by simp [go_sem]), ka _ c0, ka _ c1, ka _ c2, ka _ d0, ka _ d1, ka _ d2, trivial⟩
        clear hv1 hu1 hv2 hsz hsz2 HE IH c0 c1 c2 d0 d1 d2
        go_enter Try.func79, Try.ntmps79
        go_wp2_with fail
        refine wp_region_quietC w [(w.heap.size, 2, .slice (some ⟨b', o', none⟩) 2 C), (b', o', .int .i64 k1), (b', o' + 1, .int .i64 n1), (b', o' + 2, .slice A1 f1.len C1), (b', o' + 3, .int .i64 k2), (b', o' + 4, .int .i64 n2), (b', o' + 5, .slice A2 f2.len C2)] (by kernel_rfl) (by kernel_rfl) hX.out ?_
        repeat (first | go_big_quiet_skip | (go_big_quiet_want; apply Exists.intro; refine ⟨fun W hW => ?_, ?_⟩; focus (have hK := Lib.hid hW; obtain ⟨hs, hc⟩ := hW; simp only [Has, and_true] at hc; go_simp; (first | (go_at_call_of 79 A1; exact quietC_call hK.out (KR.out _ hK.out.1)) | (go_at_call_of 79 A2; exact quietC_call hK.out (KR2.out _ hK.out.1)) | (go_at_call 137; exact quietC_call hK.out (KN.out _)) | rfl))) | (go_simp; go_big_quiet_on))
        refine wpQuiet_nil ?_
        intro w1 H1
        go_wp2_with fail
        go_ret
        exact ⟨by rw [HV.out]; rfl, H1.1⟩

end Go.Proofs.Ytojheipllpkgdaa
