/- Nodes: what impl's node values are. Plain facts, no walk. Contracts of the nodes' sizes and of impl.newNot, newSum, newDot, newStar. A region that draws its order, whose operations read and whose calls make memory alone: one walk of the text's order serves every order. Contract of impl.nodeOf. -/
import Derived.Test.YtmblgkpgfofceaaTreeD
import Derived.Test.YtmblgkpgfofceaaSep
import Derived.Lib.Hide
import Derived.Deep.QuietTactic
import Derived.BigQuiet
import Derived.Deep.RegionWith
namespace Go.Proofs.Ytmblgkpgfofceaa
open Go.RowKit

inductive Nd where
  | zero
  | one
  | test (n : Int)
  | act (n : Int)
  | not (a : Nd)
  | sum (a b : Nd)
  | dot (a b : Nd)
  | star (a : Nd)
deriving DecidableEq, Inhabited

namespace Nd
def size : Nd → Nat
  | zero | one | test _ | act _ => 1
  | not a | star a => 1 + a.size
  | sum a b | dot a b => 1 + a.size + b.size
def val : Nd → Value
  | zero => .iface 193 (.agg #[])
  | one => .iface 181 (.agg #[])
  | test n => .iface 183 (.agg #[.int .i64 n])
  | act n => .iface 184 (.agg #[.int .i64 n])
  | not a => .iface 186 (.agg #[a.val, .int .i64 (1 + a.size : Nat)])
  | sum a b => .iface 188 (.agg #[a.val, b.val, .int .i64 (1 + a.size + b.size : Nat)])
  | dot a b => .iface 189 (.agg #[a.val, b.val, .int .i64 (1 + a.size + b.size : Nat)])
  | star a => .iface 190 (.agg #[a.val, .int .i64 (1 + a.size : Nat)])
end Nd

/-- The node of an expression without kids. -/
def leaf (k n : Int) : Nd := if k = 2 then .one else if k = 3 then .test n else if k = 4 then .act n else .zero
/-- The node of an expression. -/
def ndE : Fo → Int → Int → Nd
  | .nil, k, n => leaf k n
  | .cons k1 n1 f1 .nil, k, n => if k = 5 then .not (ndE f1 k1 n1) else if k = 8 then .star (ndE f1 k1 n1) else leaf k n
  | .cons k1 n1 f1 (.cons k2 n2 f2 _), k, n => if k = 6 then .sum (ndE f1 k1 n1) (ndE f2 k2 n2) else if k = 7 then .dot (ndE f1 k1 n1) (ndE f2 k2 n2) else leaf k n

/-- The forms that an expression of the table has. -/
theorem tree_forms {t a : Int} {b : Bool} {k n : Int} {f : Fo} (h : treeE t a b k n f = true) :
    (f = .nil ∧ (k = 1 ∨ k = 2 ∨ (k = 3 ∧ 0 ≤ n ∧ n < t) ∨ (k = 4 ∧ 0 ≤ n ∧ n < a))) ∨
    (∃ k1 n1 f1, f = .cons k1 n1 f1 .nil ∧ (k = 5 ∨ k = 8) ∧ treeE t a (b || k == 5) k1 n1 f1 = true) ∨
    (∃ k1 n1 f1 k2 n2 f2, f = .cons k1 n1 f1 (.cons k2 n2 f2 .nil) ∧ (k = 6 ∨ k = 7) ∧ treeE t a b k1 n1 f1 = true ∧ treeE t a b k2 n2 f2 = true) := by
  have h0 := h
  unfold treeE shapeB at h
  simp only [Bool.and_eq_true, decide_eq_true_eq] at h
  obtain ⟨⟨⟨h1, h2, h3⟩, h4⟩, h5⟩ := h
  have hk : (1 ≤ k ∧ k ≤ 4 ∧ f.len = 0) ∨ ((k = 5 ∨ k = 8) ∧ f.len = 1) ∨ ((k = 6 ∨ k = 7) ∧ f.len = 2) := by
    unfold kidC at h1
    split at h1
    · left; omega
    · split at h1
      · right; left; omega
      · split at h1
        · right; right; omega
        · omega
  rcases hk with ⟨hk1, hk2, hl⟩ | ⟨hk, hl⟩ | ⟨hk, hl⟩
  · left
    refine ⟨Fo.nil_of_len hl, ?_⟩
    unfold numC at h3
    split at h3
    · right; right; left; omega
    · split at h3
      · right; right; right; omega
      · omega
  · right; left
    match f, hl with
    | .cons k1 n1 f1 r, hl =>
      have hr : r = .nil := Fo.nil_of_len (by simp [Fo.len] at hl; omega)
      subst hr
      refine ⟨k1, n1, f1, rfl, hk, ?_⟩
      rw [Fo.tree_cons] at h5
      simp only [Bool.and_eq_true] at h5
      exact h5.1
  · right; right
    have hk5 : (k == 5) = false := by rw [beq_eq_false_iff_ne]; omega
    match f, hl with
    | .cons k1 n1 f1 (.cons k2 n2 f2 r), hl =>
      have hr : r = .nil := Fo.nil_of_len (by simp [Fo.len] at hl; omega)
      subst hr
      refine ⟨k1, n1, f1, k2, n2, f2, rfl, hk, ?_⟩
      rw [hk5, Bool.or_false, Fo.tree_cons, Fo.tree_cons] at h5
      simp only [Bool.and_eq_true] at h5
      exact ⟨h5.1, h5.2.1⟩
    | .cons _ _ _ .nil, hl => simp [Fo.len] at hl

theorem leaf_size (k n : Int) : (leaf k n).size = 1 := by
  unfold leaf; split
  · rfl
  · split
    · rfl
    · split <;> rfl
theorem ndE_size : ∀ (f : Fo) (k n : Int), (ndE f k n).size ≤ 1 + f.nodes
  | .nil, k, n => by simp [ndE, leaf_size, Fo.nodes]
  | .cons k1 n1 f1 .nil, k, n => by
    have h1 := ndE_size f1 k1 n1
    unfold ndE
    split
    · simp only [Nd.size, Fo.nodes]; omega
    · split
      · simp only [Nd.size, Fo.nodes]; omega
      · rw [leaf_size]; omega
  | .cons k1 n1 f1 (.cons k2 n2 f2 r), k, n => by
    have h1 := ndE_size f1 k1 n1
    have h2 := ndE_size f2 k2 n2
    unfold ndE
    split
    · simp only [Nd.size, Fo.nodes]; omega
    · split
      · simp only [Nd.size, Fo.nodes]; omega
      · rw [leaf_size]; omega
end Go.Proofs.Ytmblgkpgfofceaa

namespace Go.Proofs.Ytmblgkpgfofceaa
open Go.RowKit

theorem zeroNode_size  (w : World) : Calls Try.prog 221 #[.agg #[]] w fun e w' => e = .returned (.int .i64 1) ∧ Below w.heap.size w w' := by
  go_enter Try.func221, Try.ntmps221
  go_wp2_with fail
  go_ret
  exact ⟨rfl, by go_grown⟩

theorem oneNode_size  (w : World) : Calls Try.prog 214 #[.agg #[]] w fun e w' => e = .returned (.int .i64 1) ∧ Below w.heap.size w w' := by
  go_enter Try.func214, Try.ntmps214
  go_wp2_with fail
  go_ret
  exact ⟨rfl, by go_grown⟩

theorem testNode_size (n : Int) (w : World) : Calls Try.prog 215 #[.agg #[.int .i64 n]] w fun e w' => e = .returned (.int .i64 1) ∧ Below w.heap.size w w' := by
  go_enter Try.func215, Try.ntmps215
  go_wp2_with fail
  go_ret
  exact ⟨rfl, by go_grown⟩

theorem actNode_size (n : Int) (w : World) : Calls Try.prog 216 #[.agg #[.int .i64 n]] w fun e w' => e = .returned (.int .i64 1) ∧ Below w.heap.size w w' := by
  go_enter Try.func216, Try.ntmps216
  go_wp2_with fail
  go_ret
  exact ⟨rfl, by go_grown⟩

theorem notNode_size (v : Value) (n : Int) (w : World) : Calls Try.prog 217 #[.agg #[v, .int .i64 n]] w fun e w' => e = .returned (.int .i64 n) ∧ Below w.heap.size w w' := by
  go_enter Try.func217, Try.ntmps217
  go_wp2_with fail
  go_ret
  exact ⟨rfl, by go_grown⟩

theorem starNode_size (v : Value) (n : Int) (w : World) : Calls Try.prog 220 #[.agg #[v, .int .i64 n]] w fun e w' => e = .returned (.int .i64 n) ∧ Below w.heap.size w w' := by
  go_enter Try.func220, Try.ntmps220
  go_wp2_with fail
  go_ret
  exact ⟨rfl, by go_grown⟩

theorem sumNode_size (v u : Value) (n : Int) (w : World) : Calls Try.prog 218 #[.agg #[v, u, .int .i64 n]] w fun e w' => e = .returned (.int .i64 n) ∧ Below w.heap.size w w' := by
  go_enter Try.func218, Try.ntmps218
  go_wp2_with fail
  go_ret
  exact ⟨rfl, by go_grown⟩

theorem dotNode_size (v u : Value) (n : Int) (w : World) : Calls Try.prog 219 #[.agg #[v, u, .int .i64 n]] w fun e w' => e = .returned (.int .i64 n) ∧ Below w.heap.size w w' := by
  go_enter Try.func219, Try.ntmps219
  go_wp2_with fail
  go_ret
  exact ⟨rfl, by go_grown⟩

/-- Each node answers its size. -/
theorem node_size (a : Nd) : ∃ (T : TypeId) (x : Value) (F : FuncId), a.val = .iface T x ∧ (∀ w, (method 347 T x "loop.example/g01101/impl.size").run Try.prog w = .ok (F, x) w) ∧ (∀ w, (callFunc F #[x]).run Try.prog w = .ok (.enter F #[x]) w) ∧
    ∀ w : World, Calls Try.prog F #[x] w fun e w' => e = .returned (.int .i64 (a.size : Int)) ∧ Below w.heap.size w w' := by
  cases a with
  | zero => exact ⟨193, _, 221, rfl, fun _ => by kernel_rfl, fun _ => by kernel_rfl, fun w => zeroNode_size w⟩
  | one => exact ⟨181, _, 214, rfl, fun _ => by kernel_rfl, fun _ => by kernel_rfl, fun w => oneNode_size w⟩
  | test n => exact ⟨183, _, 215, rfl, fun _ => by kernel_rfl, fun _ => by kernel_rfl, fun w => testNode_size n w⟩
  | act n => exact ⟨184, _, 216, rfl, fun _ => by kernel_rfl, fun _ => by kernel_rfl, fun w => actNode_size n w⟩
  | not a => exact ⟨186, _, 217, rfl, fun _ => by kernel_rfl, fun _ => by kernel_rfl, fun w => notNode_size _ _ w⟩
  | sum a b => exact ⟨188, _, 218, rfl, fun _ => by kernel_rfl, fun _ => by kernel_rfl, fun w => sumNode_size _ _ _ w⟩
  | dot a b => exact ⟨189, _, 219, rfl, fun _ => by kernel_rfl, fun _ => by kernel_rfl, fun w => dotNode_size _ _ _ w⟩
  | star a => exact ⟨190, _, 220, rfl, fun _ => by kernel_rfl, fun _ => by kernel_rfl, fun w => starNode_size _ _ w⟩

set_option maxRecDepth 100000 in
set_option maxHeartbeats 1000000 in
theorem newNot_any (a : Nd) (w : World) (h : 1 + a.size ≤ 4194304) : Calls Try.prog 152 #[a.val] w fun e w' => e = .returned ((Nd.not a).val) ∧ Below w.heap.size w w' := by
  obtain ⟨T1, x1, F1, hv1, hm1, he1, hc1⟩ := node_size a
  have HV : Hid ((Nd.not a).val = .iface 186 (.agg #[.iface T1 x1, .int .i64 (1 + (a.size : Int))])) := by
    have e0 : (Nd.not a).val = .iface 186 (.agg #[a.val, .int .i64 ((1 + a.size : Nat) : Int)]) := rfl
    show _ = _
    rw [e0, hv1, show ((1 + a.size : Nat) : Int) = 1 + (a.size : Int) from by omega]
  rw [hv1]
  have K1 := Lib.hid hc1
  clear hv1 hc1
  go_enter Try.func152, Try.ntmps152
  go_wp2_with fail
  refine (K1.out _).mono ?_
  rintro e w1 ⟨rfl, hb1⟩
  go_wp2_with fail
  go_ret
  refine ⟨by rw [HV.out]; rfl, hb1⟩

set_option maxRecDepth 100000 in
set_option maxHeartbeats 1000000 in
theorem newStar_any (a : Nd) (w : World) (h : 1 + a.size ≤ 4194304) : Calls Try.prog 155 #[a.val] w fun e w' => e = .returned ((Nd.star a).val) ∧ Below w.heap.size w w' := by
  obtain ⟨T1, x1, F1, hv1, hm1, he1, hc1⟩ := node_size a
  have HV : Hid ((Nd.star a).val = .iface 190 (.agg #[.iface T1 x1, .int .i64 (1 + (a.size : Int))])) := by
    have e0 : (Nd.star a).val = .iface 190 (.agg #[a.val, .int .i64 ((1 + a.size : Nat) : Int)]) := rfl
    show _ = _
    rw [e0, hv1, show ((1 + a.size : Nat) : Int) = 1 + (a.size : Int) from by omega]
  rw [hv1]
  have K1 := Lib.hid hc1
  clear hv1 hc1
  go_enter Try.func155, Try.ntmps155
  go_wp2_with fail
  refine (K1.out _).mono ?_
  rintro e w1 ⟨rfl, hb1⟩
  go_wp2_with fail
  go_ret
  refine ⟨by rw [HV.out]; rfl, hb1⟩

set_option maxRecDepth 100000 in
set_option maxHeartbeats 1000000 in
theorem newSum_any (a b : Nd) (w : World) (h : 1 + a.size + b.size ≤ 4194304) : Calls Try.prog 153 #[a.val, b.val] w fun e w' => e = .returned ((Nd.sum a b).val) ∧ Below w.heap.size w w' := by
  obtain ⟨T1, x1, F1, hv1, hm1, he1, hc1⟩ := node_size a
  obtain ⟨T2, x2, F2, hv2, hm2, he2, hc2⟩ := node_size b
  have HV : Hid ((Nd.sum a b).val = .iface 188 (.agg #[.iface T1 x1, .iface T2 x2, .int .i64 (1 + (a.size : Int) + b.size)])) := by
    have e0 : (Nd.sum a b).val = .iface 188 (.agg #[a.val, b.val, .int .i64 ((1 + a.size + b.size : Nat) : Int)]) := rfl
    show _ = _
    rw [e0, hv1, hv2, show ((1 + a.size + b.size : Nat) : Int) = 1 + (a.size : Int) + b.size from by omega]
  rw [hv1, hv2]
  have K1 := Lib.hid hc1
  have K2 := Lib.hid hc2
  clear hv1 hv2 hc1 hc2
  go_enter Try.func153, Try.ntmps153
  go_wp2_with fail
  refine (K1.out _).mono ?_
  rintro e w1 ⟨rfl, hb1⟩
  go_wp2_with fail
  refine (K2.out _).mono ?_
  rintro e w2 ⟨rfl, hb2⟩
  go_wp2_with fail
  go_ret
  refine ⟨by rw [HV.out]; rfl, hb1.trans (hb2.mono hb1.size)⟩

set_option maxRecDepth 100000 in
set_option maxHeartbeats 1000000 in
theorem newDot_any (a b : Nd) (w : World) (h : 1 + a.size + b.size ≤ 4194304) : Calls Try.prog 154 #[a.val, b.val] w fun e w' => e = .returned ((Nd.dot a b).val) ∧ Below w.heap.size w w' := by
  obtain ⟨T1, x1, F1, hv1, hm1, he1, hc1⟩ := node_size a
  obtain ⟨T2, x2, F2, hv2, hm2, he2, hc2⟩ := node_size b
  have HV : Hid ((Nd.dot a b).val = .iface 189 (.agg #[.iface T1 x1, .iface T2 x2, .int .i64 (1 + (a.size : Int) + b.size)])) := by
    have e0 : (Nd.dot a b).val = .iface 189 (.agg #[a.val, b.val, .int .i64 ((1 + a.size + b.size : Nat) : Int)]) := rfl
    show _ = _
    rw [e0, hv1, hv2, show ((1 + a.size + b.size : Nat) : Int) = 1 + (a.size : Int) + b.size from by omega]
  rw [hv1, hv2]
  have K1 := Lib.hid hc1
  have K2 := Lib.hid hc2
  clear hv1 hv2 hc1 hc2
  go_enter Try.func154, Try.ntmps154
  go_wp2_with fail
  refine (K1.out _).mono ?_
  rintro e w1 ⟨rfl, hb1⟩
  go_wp2_with fail
  refine (K2.out _).mono ?_
  rintro e w2 ⟨rfl, hb2⟩
  go_wp2_with fail
  go_ret
  refine ⟨by rw [HV.out]; rfl, hb1.trans (hb2.mono hb1.size)⟩

end Go.Proofs.Ytmblgkpgfofceaa

namespace Go.Proofs.Ytmblgkpgfofceaa
open Go.RowKit

theorem wp_region_quietC (w0 : World) (L : List (Nat × Nat × Value)) {P : Program} {id : Nat} {Q : Exit → Act → World → Prop} {a : Act} {w : World} {l : List Oper} (hm : P.follows .mixedOrders = true) (hB : Region.lexB .any l.toArray = true) (hC : St w0 L w)
    (h : wpQuiet P l.toArray (St w0 L) (fun a' => ∀ w', St w0 L w' → Q .normal a' w') l a) : (Code.region id l.toArray true).wp P Q a w :=
  wp_region_quiet (C := St w0 L) hm hB hC.drew (by simpa using h)

/-- One operation: what it yields in every world of the class. -/
theorem quietC_op {P : Program} {o : Oper} {a : Act} {C : World → Prop} {K : Act → Prop} (v : Value) (h : ∀ W, C W → o.quietAt P a C W v) (hk : K (a.put o.dst v)) : o.quiet P a C K := ⟨v, h, hk⟩

/-- A call: what it answers, wherever it is made in the class. -/
theorem quietC_call {P : Program} {w0 : World} {L : List (Nat × Nat × Value)} {f : FuncId} {args : Array Value} {W : World} {v : Value} (hW : St w0 L W) (h : Calls P f args W fun e w' => e = .returned v ∧ Below W.heap.size W w') :
    Calls P f args W fun e w' => e = .returned v ∧ St w0 L w' := h.mono fun _ _ ⟨he, hb⟩ => ⟨he, hW.below hb⟩

end Go.Proofs.Ytmblgkpgfofceaa

namespace Go.Proofs.Ytmblgkpgfofceaa
open Go.RowKit

set_option maxRecDepth 100000 in
set_option maxHeartbeats 2000000 in
theorem nodeOf_any : ∀ (N : Nat) (f : Fo), f.nodes < N → f.nodes ≤ 1048576 → ∀ (t a : Int) (b : Bool) (k n : Int) (A : Option Addr) (C : Nat) (w : World), f.Lies w A → treeE t a b k n f = true →
      Calls Try.prog 123 #[.agg #[.int .i64 k, .int .i64 n, .slice A f.len C]] w fun e w' => e = .returned ((ndE f k n).val) ∧ Below w.heap.size w w' := by
  intro N
  induction N with
  | zero => intro f hN; exact absurd hN (Nat.not_lt_zero _)
  | succ N ih =>
    intro f hN hm t a b k n A C w hl ht
    have IH := Lib.hid ih; clear ih
    rcases tree_forms ht with ⟨rfl, hk⟩ | ⟨k1, n1, f1, rfl, hk, ht1⟩ | ⟨k1, n1, f1, k2, n2, f2, rfl, hk, ht1, ht2⟩
    · clear ht IH
      rcases hk with rfl | rfl | ⟨rfl, _, _⟩ | ⟨rfl, _, _⟩
      all_goals
        go_enter Try.func123, Try.ntmps123
        go_wp2_with fail
        go_ret
        exact ⟨rfl, by go_grown⟩
    all_goals
      obtain ⟨b', o', rfl, hat⟩ := hl (by simp)
      clear hl
    · have hkn : f1.nodes < N ∧ f1.nodes ≤ 1048576 := by simp only [Fo.nodes] at hN hm; omega
      obtain ⟨c0, c1, ⟨A1, C1, c2, hl1'⟩, _⟩ := hat
      have hl1 : f1.Lies w A1 := hl1'
      have lb : b' < w.heap.size := World.block_lt_of_cell? _ _ c0
      have hln : (Fo.cons k1 n1 f1 .nil).len = 1 := rfl
      have HL := Lib.hid hln
      rw [hln]
      clear hln hl1' ht
      rcases hk with rfl | rfl
      · -- not
        have HE : Hid (ndE (.cons k1 n1 f1 .nil) 5 n = .not (ndE f1 k1 n1)) := rfl
        have hsz := ndE_size f1 k1 n1
        obtain ⟨v1, hv1⟩ : ∃ v1 : Value, v1 = (ndE f1 k1 n1).val := ⟨_, rfl⟩
        have KR : Hid (∀ W : World, Sees w W → Calls Try.prog 123 #[.agg #[.int .i64 k1, .int .i64 n1, .slice A1 f1.len C1]] W fun e w' => e = .returned v1 ∧ Below W.heap.size W w') := fun W h => by rw [hv1]; exact IH.out f1 hkn.1 hkn.2 t a _ k1 n1 A1 C1 W (hl1.sees h) ht1
        obtain ⟨v2, hv2⟩ : ∃ v2 : Value, v2 = (Nd.not (ndE f1 k1 n1)).val := ⟨_, rfl⟩
        have KN : Hid (∀ W : World, Calls Try.prog 152 #[v1] W fun e w' => e = .returned v2 ∧ Below W.heap.size W w') := fun W => by rw [hv1, hv2]; exact newNot_any _ W (by omega)
        have HV : Hid ((ndE (.cons k1 n1 f1 .nil) 5 n).val = v2) := by show _ = _; rw [HE.out, hv2]
        clear hv1 hv2 hsz HE IH
        go_enter Try.func123, Try.ntmps123
        go_wp2_with fail
        refine (KR.out _ (by unfold Sees; go_grown)).mono ?_
        rintro e w1 ⟨rfl, hb⟩
        have B1 : Sees w w1 := Sees.below (by unfold Sees; go_grown) hb
        clear hb
        go_wp2_with fail
        refine (KN.out _).mono ?_
        rintro e w2 ⟨rfl, hb⟩
        have B2 := B1.below hb
        clear hb
        go_wp2_with fail
        go_ret
        exact ⟨by rw [HV.out]; rfl, B2⟩
      · -- star
        have HE : Hid (ndE (.cons k1 n1 f1 .nil) 8 n = .star (ndE f1 k1 n1)) := rfl
        have hsz := ndE_size f1 k1 n1
        obtain ⟨v1, hv1⟩ : ∃ v1 : Value, v1 = (ndE f1 k1 n1).val := ⟨_, rfl⟩
        have KR : Hid (∀ W : World, Sees w W → Calls Try.prog 123 #[.agg #[.int .i64 k1, .int .i64 n1, .slice A1 f1.len C1]] W fun e w' => e = .returned v1 ∧ Below W.heap.size W w') := fun W h => by rw [hv1]; exact IH.out f1 hkn.1 hkn.2 t a _ k1 n1 A1 C1 W (hl1.sees h) ht1
        obtain ⟨v2, hv2⟩ : ∃ v2 : Value, v2 = (Nd.star (ndE f1 k1 n1)).val := ⟨_, rfl⟩
        have KN : Hid (∀ W : World, Calls Try.prog 155 #[v1] W fun e w' => e = .returned v2 ∧ Below W.heap.size W w') := fun W => by rw [hv1, hv2]; exact newStar_any _ W (by omega)
        have HV : Hid ((ndE (.cons k1 n1 f1 .nil) 8 n).val = v2) := by show _ = _; rw [HE.out, hv2]
        clear hv1 hv2 hsz HE IH
        go_enter Try.func123, Try.ntmps123
        go_wp2_with fail
        refine (KR.out _ (by unfold Sees; go_grown)).mono ?_
        rintro e w1 ⟨rfl, hb⟩
        have B1 : Sees w w1 := Sees.below (by unfold Sees; go_grown) hb
        clear hb
        go_wp2_with fail
        refine (KN.out _).mono ?_
        rintro e w2 ⟨rfl, hb⟩
        have B2 := B1.below hb
        clear hb
        go_wp2_with fail
        go_ret
        exact ⟨by rw [HV.out]; rfl, B2⟩
    · have hkn : f1.nodes < N ∧ f2.nodes < N ∧ f1.nodes + f2.nodes ≤ 1048576 := by simp only [Fo.nodes] at hN hm; omega
      obtain ⟨c0, c1, ⟨A1, C1, c2, hl1'⟩, d0, d1, ⟨A2, C2, d2, hl2'⟩, _⟩ := hat
      have hl1 : f1.Lies w A1 := hl1'
      have hl2 : f2.Lies w A2 := hl2'
      have lb : b' < w.heap.size := World.block_lt_of_cell? _ _ c0
      have hln : (Fo.cons k1 n1 f1 (.cons k2 n2 f2 .nil)).len = 2 := rfl
      rw [hln]
      clear hl1' hl2' ht hln
      rcases hk with rfl | rfl
      · -- sum
        have HE : Hid (ndE (.cons k1 n1 f1 (.cons k2 n2 f2 .nil)) 6 n = .sum (ndE f1 k1 n1) (ndE f2 k2 n2)) := rfl
        have hsz := ndE_size f1 k1 n1
        have hsz2 := ndE_size f2 k2 n2
        obtain ⟨v1, hv1⟩ : ∃ v1 : Value, v1 = (ndE f1 k1 n1).val := ⟨_, rfl⟩
        obtain ⟨u1, hu1⟩ : ∃ u1 : Value, u1 = (ndE f2 k2 n2).val := ⟨_, rfl⟩
        have KR : Hid (∀ W : World, Sees w W → Calls Try.prog 123 #[.agg #[.int .i64 k1, .int .i64 n1, .slice A1 f1.len C1]] W fun e w' => e = .returned v1 ∧ Below W.heap.size W w') := fun W h => by rw [hv1]; exact IH.out f1 hkn.1 (by omega) t a _ k1 n1 A1 C1 W (hl1.sees h) ht1
        have KR2 : Hid (∀ W : World, Sees w W → Calls Try.prog 123 #[.agg #[.int .i64 k2, .int .i64 n2, .slice A2 f2.len C2]] W fun e w' => e = .returned u1 ∧ Below W.heap.size W w') := fun W h => by rw [hu1]; exact IH.out f2 hkn.2.1 (by omega) t a _ k2 n2 A2 C2 W (hl2.sees h) ht2
        obtain ⟨v2, hv2⟩ : ∃ v2 : Value, v2 = (Nd.sum (ndE f1 k1 n1) (ndE f2 k2 n2)).val := ⟨_, rfl⟩
        have KN : Hid (∀ W : World, Calls Try.prog 153 #[v1, u1] W fun e w' => e = .returned v2 ∧ Below W.heap.size W w') := fun W => by rw [hv1, hu1, hv2]; exact newSum_any _ _ W (by omega)
        have HV : Hid ((ndE (.cons k1 n1 f1 (.cons k2 n2 f2 .nil)) 6 n).val = v2) := by show _ = _; rw [HE.out, hv2]
        have hX : Hid (St w [(w.heap.size, 2, .slice (some ⟨b', o', none⟩) 2 C), (b', o', .int .i64 k1), (b', o' + 1, .int .i64 n1), (b', o' + 2, .slice A1 f1.len C1), (b', o' + 3, .int .i64 k2), (b', o' + 4, .int .i64 n2), (b', o' + 5, .slice A2 f2.len C2)] (w.alloc (.cells #[.int .i64 6, .int .i64 n, .slice (some ⟨b', o', none⟩) 2 C] 46))) := ⟨(by unfold Sees; go_grown), (by simp [go_sem]), ka _ c0, ka _ c1, ka _ c2, ka _ d0, ka _ d1, ka _ d2, trivial⟩
        clear hv1 hu1 hv2 hsz hsz2 HE IH c0 c1 c2 d0 d1 d2
        go_enter Try.func123, Try.ntmps123
        go_wp2_with fail
        refine wp_region_quietC w [(w.heap.size, 2, .slice (some ⟨b', o', none⟩) 2 C), (b', o', .int .i64 k1), (b', o' + 1, .int .i64 n1), (b', o' + 2, .slice A1 f1.len C1), (b', o' + 3, .int .i64 k2), (b', o' + 4, .int .i64 n2), (b', o' + 5, .slice A2 f2.len C2)] (by kernel_rfl) (by kernel_rfl) hX.out ?_
        repeat (first | go_big_quiet_skip | (go_big_quiet_want; apply Exists.intro; refine ⟨fun W hW => ?_, ?_⟩; focus (have hK := Lib.hid hW; obtain ⟨hs, hc⟩ := hW; simp only [Has, and_true] at hc; go_simp; (first | (go_at_call_of 123 A1; exact quietC_call hK.out (KR.out _ hK.out.1)) | (go_at_call_of 123 A2; exact quietC_call hK.out (KR2.out _ hK.out.1)) | (go_at_call 153; exact quietC_call hK.out (KN.out _)) | rfl))) | (go_simp; go_big_quiet_on))
        refine wpQuiet_nil ?_
        intro w1 H1
        go_wp2_with fail
        go_ret
        exact ⟨by rw [HV.out]; rfl, H1.1⟩
      · -- dot
        have HE : Hid (ndE (.cons k1 n1 f1 (.cons k2 n2 f2 .nil)) 7 n = .dot (ndE f1 k1 n1) (ndE f2 k2 n2)) := rfl
        have hsz := ndE_size f1 k1 n1
        have hsz2 := ndE_size f2 k2 n2
        obtain ⟨v1, hv1⟩ : ∃ v1 : Value, v1 = (ndE f1 k1 n1).val := ⟨_, rfl⟩
        obtain ⟨u1, hu1⟩ : ∃ u1 : Value, u1 = (ndE f2 k2 n2).val := ⟨_, rfl⟩
        have KR : Hid (∀ W : World, Sees w W → Calls Try.prog 123 #[.agg #[.int .i64 k1, .int .i64 n1, .slice A1 f1.len C1]] W fun e w' => e = .returned v1 ∧ Below W.heap.size W w') := fun W h => by rw [hv1]; exact IH.out f1 hkn.1 (by omega) t a _ k1 n1 A1 C1 W (hl1.sees h) ht1
        have KR2 : Hid (∀ W : World, Sees w W → Calls Try.prog 123 #[.agg #[.int .i64 k2, .int .i64 n2, .slice A2 f2.len C2]] W fun e w' => e = .returned u1 ∧ Below W.heap.size W w') := fun W h => by rw [hu1]; exact IH.out f2 hkn.2.1 (by omega) t a _ k2 n2 A2 C2 W (hl2.sees h) ht2
        obtain ⟨v2, hv2⟩ : ∃ v2 : Value, v2 = (Nd.dot (ndE f1 k1 n1) (ndE f2 k2 n2)).val := ⟨_, rfl⟩
        have KN : Hid (∀ W : World, Calls Try.prog 154 #[v1, u1] W fun e w' => e = .returned v2 ∧ Below W.heap.size W w') := fun W => by rw [hv1, hu1, hv2]; exact newDot_any _ _ W (by omega)
        have HV : Hid ((ndE (.cons k1 n1 f1 (.cons k2 n2 f2 .nil)) 7 n).val = v2) := by show _ = _; rw [HE.out, hv2]
        have hX : Hid (St w [(w.heap.size, 2, .slice (some ⟨b', o', none⟩) 2 C), (b', o', .int .i64 k1), (b', o' + 1, .int .i64 n1), (b', o' + 2, .slice A1 f1.len C1), (b', o' + 3, .int .i64 k2), (b', o' + 4, .int .i64 n2), (b', o' + 5, .slice A2 f2.len C2)] (w.alloc (.cells #[.int .i64 7, .int .i64 n, .slice (some ⟨b', o', none⟩) 2 C] 46))) := ⟨(by unfold Sees; go_grown), (by simp [go_sem]), ka _ c0, ka _ c1, ka _ c2, ka _ d0, ka _ d1, ka _ d2, trivial⟩
        clear hv1 hu1 hv2 hsz hsz2 HE IH c0 c1 c2 d0 d1 d2
        go_enter Try.func123, Try.ntmps123
        go_wp2_with fail
        refine wp_region_quietC w [(w.heap.size, 2, .slice (some ⟨b', o', none⟩) 2 C), (b', o', .int .i64 k1), (b', o' + 1, .int .i64 n1), (b', o' + 2, .slice A1 f1.len C1), (b', o' + 3, .int .i64 k2), (b', o' + 4, .int .i64 n2), (b', o' + 5, .slice A2 f2.len C2)] (by kernel_rfl) (by kernel_rfl) hX.out ?_
        repeat (first | go_big_quiet_skip | (go_big_quiet_want; apply Exists.intro; refine ⟨fun W hW => ?_, ?_⟩; focus (have hK := Lib.hid hW; obtain ⟨hs, hc⟩ := hW; simp only [Has, and_true] at hc; go_simp; (first | (go_at_call_of 123 A1; exact quietC_call hK.out (KR.out _ hK.out.1)) | (go_at_call_of 123 A2; exact quietC_call hK.out (KR2.out _ hK.out.1)) | (go_at_call 154; exact quietC_call hK.out (KN.out _)) | rfl))) | (go_simp; go_big_quiet_on))
        refine wpQuiet_nil ?_
        intro w1 H1
        go_wp2_with fail
        go_ret
        exact ⟨by rw [HV.out]; rfl, H1.1⟩

end Go.Proofs.Ytmblgkpgfofceaa
