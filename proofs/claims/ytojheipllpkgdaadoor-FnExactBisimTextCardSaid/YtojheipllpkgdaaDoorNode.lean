/- Contracts of the nodes' sizes and of impl.newNot, newSum, newDot, newStar. -/
import Derived.Test.YtojheipllpkgdaaDoorNd
import Derived.Test.YtojheipllpkgdaaDoorSep
import Derived.Lib.Hide
namespace Go.Proofs.YtojheipllpkgdaaDoor
open Go.RowKit

theorem zeroNode_size  (w : World) : Calls Tryd.prog 150 #[.agg #[]] w fun e w' => e = .returned (.int .i64 1) ∧ Below w.heap.size w w' := by
  go_enter Tryd.func150, Tryd.ntmps150
  go_wp2_with fail
  go_ret
  exact ⟨rfl, by go_grown⟩

theorem oneNode_size  (w : World) : Calls Tryd.prog 143 #[.agg #[]] w fun e w' => e = .returned (.int .i64 1) ∧ Below w.heap.size w w' := by
  go_enter Tryd.func143, Tryd.ntmps143
  go_wp2_with fail
  go_ret
  exact ⟨rfl, by go_grown⟩

theorem testNode_size (n : Int) (w : World) : Calls Tryd.prog 144 #[.agg #[.int .i64 n]] w fun e w' => e = .returned (.int .i64 1) ∧ Below w.heap.size w w' := by
  go_enter Tryd.func144, Tryd.ntmps144
  go_wp2_with fail
  go_ret
  exact ⟨rfl, by go_grown⟩

theorem actNode_size (n : Int) (w : World) : Calls Tryd.prog 145 #[.agg #[.int .i64 n]] w fun e w' => e = .returned (.int .i64 1) ∧ Below w.heap.size w w' := by
  go_enter Tryd.func145, Tryd.ntmps145
  go_wp2_with fail
  go_ret
  exact ⟨rfl, by go_grown⟩

theorem notNode_size (v : Value) (n : Int) (w : World) : Calls Tryd.prog 146 #[.agg #[v, .int .i64 n]] w fun e w' => e = .returned (.int .i64 n) ∧ Below w.heap.size w w' := by
  go_enter Tryd.func146, Tryd.ntmps146
  go_wp2_with fail
  go_ret
  exact ⟨rfl, by go_grown⟩

theorem starNode_size (v : Value) (n : Int) (w : World) : Calls Tryd.prog 149 #[.agg #[v, .int .i64 n]] w fun e w' => e = .returned (.int .i64 n) ∧ Below w.heap.size w w' := by
  go_enter Tryd.func149, Tryd.ntmps149
  go_wp2_with fail
  go_ret
  exact ⟨rfl, by go_grown⟩

theorem sumNode_size (v u : Value) (n : Int) (w : World) : Calls Tryd.prog 147 #[.agg #[v, u, .int .i64 n]] w fun e w' => e = .returned (.int .i64 n) ∧ Below w.heap.size w w' := by
  go_enter Tryd.func147, Tryd.ntmps147
  go_wp2_with fail
  go_ret
  exact ⟨rfl, by go_grown⟩

theorem dotNode_size (v u : Value) (n : Int) (w : World) : Calls Tryd.prog 148 #[.agg #[v, u, .int .i64 n]] w fun e w' => e = .returned (.int .i64 n) ∧ Below w.heap.size w w' := by
  go_enter Tryd.func148, Tryd.ntmps148
  go_wp2_with fail
  go_ret
  exact ⟨rfl, by go_grown⟩

/-- Each node answers its size. -/
theorem node_size (a : Nd) : ∃ (T : TypeId) (x : Value) (F : FuncId), a.val = .iface T x ∧ (∀ w, (method 309 T x "loop.example/g01101/impl.size").run Tryd.prog w = .ok (F, x) w) ∧ (∀ w, (callFunc F #[x]).run Tryd.prog w = .ok (.enter F #[x]) w) ∧
    ∀ w : World, Calls Tryd.prog F #[x] w fun e w' => e = .returned (.int .i64 (a.size : Int)) ∧ Below w.heap.size w w' := by
  cases a with
  | zero => exact ⟨151, _, 150, rfl, fun _ => by kernel_rfl, fun _ => by kernel_rfl, fun w => zeroNode_size w⟩
  | one => exact ⟨139, _, 143, rfl, fun _ => by kernel_rfl, fun _ => by kernel_rfl, fun w => oneNode_size w⟩
  | test n => exact ⟨141, _, 144, rfl, fun _ => by kernel_rfl, fun _ => by kernel_rfl, fun w => testNode_size n w⟩
  | act n => exact ⟨142, _, 145, rfl, fun _ => by kernel_rfl, fun _ => by kernel_rfl, fun w => actNode_size n w⟩
  | not a => exact ⟨144, _, 146, rfl, fun _ => by kernel_rfl, fun _ => by kernel_rfl, fun w => notNode_size _ _ w⟩
  | sum a b => exact ⟨146, _, 147, rfl, fun _ => by kernel_rfl, fun _ => by kernel_rfl, fun w => sumNode_size _ _ _ w⟩
  | dot a b => exact ⟨147, _, 148, rfl, fun _ => by kernel_rfl, fun _ => by kernel_rfl, fun w => dotNode_size _ _ _ w⟩
  | star a => exact ⟨148, _, 149, rfl, fun _ => by kernel_rfl, fun _ => by kernel_rfl, fun w => starNode_size _ _ w⟩

set_option maxRecDepth 100000 in
set_option maxHeartbeats 1000000 in
theorem newNot_any (a : Nd) (w : World) (h : 1 + a.size ≤ 4194304) : Calls Tryd.prog 87 #[a.val] w fun e w' => e = .returned ((Nd.not a).val) ∧ Below w.heap.size w w' := by
  obtain ⟨T1, x1, F1, hv1, hm1, he1, hc1⟩ := node_size a
  have HV : Hid ((Nd.not a).val = .iface 144 (.agg #[.iface T1 x1, .int .i64 (1 + (a.size : Int))])) := by
    have e0 : (Nd.not a).val = .iface 144 (.agg #[a.val, .int .i64 ((1 + a.size : Nat) : Int)]) := rfl
    show _ = _
    rw [e0, hv1, show ((1 + a.size : Nat) : Int) = 1 + (a.size : Int) from by omega]
  rw [hv1]
  have K1 := Lib.hid hc1
  clear hv1 hc1
  go_enter Tryd.func87, Tryd.ntmps87
  go_wp2_with fail
  refine (K1.out _).mono ?_
  rintro e w1 ⟨rfl, hb1⟩
  go_wp2_with fail
  go_ret
  refine ⟨by rw [HV.out]; rfl, hb1⟩

set_option maxRecDepth 100000 in
set_option maxHeartbeats 1000000 in
theorem newStar_any (a : Nd) (w : World) (h : 1 + a.size ≤ 4194304) : Calls Tryd.prog 88 #[a.val] w fun e w' => e = .returned ((Nd.star a).val) ∧ Below w.heap.size w w' := by
  obtain ⟨T1, x1, F1, hv1, hm1, he1, hc1⟩ := node_size a
  have HV : Hid ((Nd.star a).val = .iface 148 (.agg #[.iface T1 x1, .int .i64 (1 + (a.size : Int))])) := by
    have e0 : (Nd.star a).val = .iface 148 (.agg #[a.val, .int .i64 ((1 + a.size : Nat) : Int)]) := rfl
    show _ = _
    rw [e0, hv1, show ((1 + a.size : Nat) : Int) = 1 + (a.size : Int) from by omega]
  rw [hv1]
  have K1 := Lib.hid hc1
  clear hv1 hc1
  go_enter Tryd.func88, Tryd.ntmps88
  go_wp2_with fail
  refine (K1.out _).mono ?_
  rintro e w1 ⟨rfl, hb1⟩
  go_wp2_with fail
  go_ret
  refine ⟨by rw [HV.out]; rfl, hb1⟩

set_option maxRecDepth 100000 in
set_option maxHeartbeats 1000000 in
theorem newSum_any (a b : Nd) (w : World) (h : 1 + a.size + b.size ≤ 4194304) : Calls Tryd.prog 86 #[a.val, b.val] w fun e w' => e = .returned ((Nd.sum a b).val) ∧ Below w.heap.size w w' := by
  obtain ⟨T1, x1, F1, hv1, hm1, he1, hc1⟩ := node_size a
  obtain ⟨T2, x2, F2, hv2, hm2, he2, hc2⟩ := node_size b
  have HV : Hid ((Nd.sum a b).val = .iface 146 (.agg #[.iface T1 x1, .iface T2 x2, .int .i64 (1 + (a.size : Int) + b.size)])) := by
    have e0 : (Nd.sum a b).val = .iface 146 (.agg #[a.val, b.val, .int .i64 ((1 + a.size + b.size : Nat) : Int)]) := rfl
    show _ = _
    rw [e0, hv1, hv2, show ((1 + a.size + b.size : Nat) : Int) = 1 + (a.size : Int) + b.size from by omega]
  rw [hv1, hv2]
  have K1 := Lib.hid hc1
  have K2 := Lib.hid hc2
  clear hv1 hv2 hc1 hc2
  go_enter Tryd.func86, Tryd.ntmps86
  go_wp2_with fail
  refine (K1.out _).mono ?_
  rintro e w1 ⟨rfl, hb1⟩
  go_wp2_with fail
  refine (K2.out _).mono ?_
  rintro e w2 ⟨rfl, hb2⟩
  go_wp2_with fail
  go_ret
  refine ⟨by rw [HV.out]; rfl, hb1.trans (hb2.mono hb1.size)⟩

set_option maxRecDepth 100000 in
set_option maxHeartbeats 1000000 in
theorem newDot_any (a b : Nd) (w : World) (h : 1 + a.size + b.size ≤ 4194304) : Calls Tryd.prog 85 #[a.val, b.val] w fun e w' => e = .returned ((Nd.dot a b).val) ∧ Below w.heap.size w w' := by
  obtain ⟨T1, x1, F1, hv1, hm1, he1, hc1⟩ := node_size a
  obtain ⟨T2, x2, F2, hv2, hm2, he2, hc2⟩ := node_size b
  have HV : Hid ((Nd.dot a b).val = .iface 147 (.agg #[.iface T1 x1, .iface T2 x2, .int .i64 (1 + (a.size : Int) + b.size)])) := by
    have e0 : (Nd.dot a b).val = .iface 147 (.agg #[a.val, b.val, .int .i64 ((1 + a.size + b.size : Nat) : Int)]) := rfl
    show _ = _
    rw [e0, hv1, hv2, show ((1 + a.size + b.size : Nat) : Int) = 1 + (a.size : Int) + b.size from by omega]
  rw [hv1, hv2]
  have K1 := Lib.hid hc1
  have K2 := Lib.hid hc2
  clear hv1 hv2 hc1 hc2
  go_enter Tryd.func85, Tryd.ntmps85
  go_wp2_with fail
  refine (K1.out _).mono ?_
  rintro e w1 ⟨rfl, hb1⟩
  go_wp2_with fail
  refine (K2.out _).mono ?_
  rintro e w2 ⟨rfl, hb2⟩
  go_wp2_with fail
  go_ret
  refine ⟨by rw [HV.out]; rfl, hb1.trans (hb2.mono hb1.size)⟩

end Go.Proofs.YtojheipllpkgdaaDoor
