/- Contracts of the nodes' sizes and of impl.newNot, newSum, newDot, newStar. -/
import Derived.Test.YtmblgkpgfofceaaDoorNd
import Derived.Test.YtmblgkpgfofceaaDoorSep
import Derived.Lib.Hide
namespace Go.Proofs.YtmblgkpgfofceaaDoor
open Go.RowKit

theorem zeroNode_size  (w : World) : Calls Tryd.prog 100 #[.agg #[]] w fun e w' => e = .returned (.int .i64 1) ∧ Below w.heap.size w w' := by
  go_enter Tryd.func100, Tryd.ntmps100
  go_wp2_with fail
  go_ret
  exact ⟨rfl, by go_grown⟩

theorem oneNode_size  (w : World) : Calls Tryd.prog 101 #[.agg #[]] w fun e w' => e = .returned (.int .i64 1) ∧ Below w.heap.size w w' := by
  go_enter Tryd.func101, Tryd.ntmps101
  go_wp2_with fail
  go_ret
  exact ⟨rfl, by go_grown⟩

theorem testNode_size (n : Int) (w : World) : Calls Tryd.prog 102 #[.agg #[.int .i64 n]] w fun e w' => e = .returned (.int .i64 1) ∧ Below w.heap.size w w' := by
  go_enter Tryd.func102, Tryd.ntmps102
  go_wp2_with fail
  go_ret
  exact ⟨rfl, by go_grown⟩

theorem actNode_size (n : Int) (w : World) : Calls Tryd.prog 103 #[.agg #[.int .i64 n]] w fun e w' => e = .returned (.int .i64 1) ∧ Below w.heap.size w w' := by
  go_enter Tryd.func103, Tryd.ntmps103
  go_wp2_with fail
  go_ret
  exact ⟨rfl, by go_grown⟩

theorem notNode_size (v : Value) (n : Int) (w : World) : Calls Tryd.prog 104 #[.agg #[v, .int .i64 n]] w fun e w' => e = .returned (.int .i64 n) ∧ Below w.heap.size w w' := by
  go_enter Tryd.func104, Tryd.ntmps104
  go_wp2_with fail
  go_ret
  exact ⟨rfl, by go_grown⟩

theorem starNode_size (v : Value) (n : Int) (w : World) : Calls Tryd.prog 107 #[.agg #[v, .int .i64 n]] w fun e w' => e = .returned (.int .i64 n) ∧ Below w.heap.size w w' := by
  go_enter Tryd.func107, Tryd.ntmps107
  go_wp2_with fail
  go_ret
  exact ⟨rfl, by go_grown⟩

theorem sumNode_size (v u : Value) (n : Int) (w : World) : Calls Tryd.prog 105 #[.agg #[v, u, .int .i64 n]] w fun e w' => e = .returned (.int .i64 n) ∧ Below w.heap.size w w' := by
  go_enter Tryd.func105, Tryd.ntmps105
  go_wp2_with fail
  go_ret
  exact ⟨rfl, by go_grown⟩

theorem dotNode_size (v u : Value) (n : Int) (w : World) : Calls Tryd.prog 106 #[.agg #[v, u, .int .i64 n]] w fun e w' => e = .returned (.int .i64 n) ∧ Below w.heap.size w w' := by
  go_enter Tryd.func106, Tryd.ntmps106
  go_wp2_with fail
  go_ret
  exact ⟨rfl, by go_grown⟩

/-- Each node answers its size. -/
theorem node_size (a : Nd) : ∃ (T : TypeId) (x : Value) (F : FuncId), a.val = .iface T x ∧ (∀ w, (method 258 T x "loop.example/g01101/impl.size").run Tryd.prog w = .ok (F, x) w) ∧ (∀ w, (callFunc F #[x]).run Tryd.prog w = .ok (.enter F #[x]) w) ∧
    ∀ w : World, Calls Tryd.prog F #[x] w fun e w' => e = .returned (.int .i64 (a.size : Int)) ∧ Below w.heap.size w w' := by
  cases a with
  | zero => exact ⟨92, _, 100, rfl, fun _ => by kernel_rfl, fun _ => by kernel_rfl, fun w => zeroNode_size w⟩
  | one => exact ⟨93, _, 101, rfl, fun _ => by kernel_rfl, fun _ => by kernel_rfl, fun w => oneNode_size w⟩
  | test n => exact ⟨95, _, 102, rfl, fun _ => by kernel_rfl, fun _ => by kernel_rfl, fun w => testNode_size n w⟩
  | act n => exact ⟨96, _, 103, rfl, fun _ => by kernel_rfl, fun _ => by kernel_rfl, fun w => actNode_size n w⟩
  | not a => exact ⟨98, _, 104, rfl, fun _ => by kernel_rfl, fun _ => by kernel_rfl, fun w => notNode_size _ _ w⟩
  | sum a b => exact ⟨100, _, 105, rfl, fun _ => by kernel_rfl, fun _ => by kernel_rfl, fun w => sumNode_size _ _ _ w⟩
  | dot a b => exact ⟨102, _, 106, rfl, fun _ => by kernel_rfl, fun _ => by kernel_rfl, fun w => dotNode_size _ _ _ w⟩
  | star a => exact ⟨103, _, 107, rfl, fun _ => by kernel_rfl, fun _ => by kernel_rfl, fun w => starNode_size _ _ w⟩

set_option maxRecDepth 100000 in
set_option maxHeartbeats 1000000 in
theorem newNot_any (a : Nd) (w : World) (h : 1 + a.size ≤ 4194304) : Calls Tryd.prog 46 #[a.val] w fun e w' => e = .returned ((Nd.not a).val) ∧ Below w.heap.size w w' := by
  obtain ⟨T1, x1, F1, hv1, hm1, he1, hc1⟩ := node_size a
  have HV : Hid ((Nd.not a).val = .iface 98 (.agg #[.iface T1 x1, .int .i64 (1 + (a.size : Int))])) := by
    have e0 : (Nd.not a).val = .iface 98 (.agg #[a.val, .int .i64 ((1 + a.size : Nat) : Int)]) := rfl
    show _ = _
    rw [e0, hv1, show ((1 + a.size : Nat) : Int) = 1 + (a.size : Int) from by omega]
  rw [hv1]
  have K1 := Lib.hid hc1
  clear hv1 hc1
  go_enter Tryd.func46, Tryd.ntmps46
  go_wp2_with fail
  refine (K1.out _).mono ?_
  rintro e w1 ⟨rfl, hb1⟩
  go_wp2_with fail
  go_ret
  refine ⟨by rw [HV.out]; rfl, hb1⟩

set_option maxRecDepth 100000 in
set_option maxHeartbeats 1000000 in
theorem newStar_any (a : Nd) (w : World) (h : 1 + a.size ≤ 4194304) : Calls Tryd.prog 49 #[a.val] w fun e w' => e = .returned ((Nd.star a).val) ∧ Below w.heap.size w w' := by
  obtain ⟨T1, x1, F1, hv1, hm1, he1, hc1⟩ := node_size a
  have HV : Hid ((Nd.star a).val = .iface 103 (.agg #[.iface T1 x1, .int .i64 (1 + (a.size : Int))])) := by
    have e0 : (Nd.star a).val = .iface 103 (.agg #[a.val, .int .i64 ((1 + a.size : Nat) : Int)]) := rfl
    show _ = _
    rw [e0, hv1, show ((1 + a.size : Nat) : Int) = 1 + (a.size : Int) from by omega]
  rw [hv1]
  have K1 := Lib.hid hc1
  clear hv1 hc1
  go_enter Tryd.func49, Tryd.ntmps49
  go_wp2_with fail
  refine (K1.out _).mono ?_
  rintro e w1 ⟨rfl, hb1⟩
  go_wp2_with fail
  go_ret
  refine ⟨by rw [HV.out]; rfl, hb1⟩

set_option maxRecDepth 100000 in
set_option maxHeartbeats 1000000 in
theorem newSum_any (a b : Nd) (w : World) (h : 1 + a.size + b.size ≤ 4194304) : Calls Tryd.prog 47 #[a.val, b.val] w fun e w' => e = .returned ((Nd.sum a b).val) ∧ Below w.heap.size w w' := by
  obtain ⟨T1, x1, F1, hv1, hm1, he1, hc1⟩ := node_size a
  obtain ⟨T2, x2, F2, hv2, hm2, he2, hc2⟩ := node_size b
  have HV : Hid ((Nd.sum a b).val = .iface 100 (.agg #[.iface T1 x1, .iface T2 x2, .int .i64 (1 + (a.size : Int) + b.size)])) := by
    have e0 : (Nd.sum a b).val = .iface 100 (.agg #[a.val, b.val, .int .i64 ((1 + a.size + b.size : Nat) : Int)]) := rfl
    show _ = _
    rw [e0, hv1, hv2, show ((1 + a.size + b.size : Nat) : Int) = 1 + (a.size : Int) + b.size from by omega]
  rw [hv1, hv2]
  have K1 := Lib.hid hc1
  have K2 := Lib.hid hc2
  clear hv1 hv2 hc1 hc2
  go_enter Tryd.func47, Tryd.ntmps47
  go_wp2_with fail
  refine (K1.out _).mono ?_
  rintro e w1 ⟨rfl, hb1⟩
  go_wp2_with fail
  refine (K2.out _).mono ?_
  rintro e w2 ⟨rfl, hb2⟩
  go_wp2_with fail
  go_ret
  refine ⟨by rw [HV.out]; rfl, hb1.trans (hb2.mono hb1.size)⟩

set_option maxRecDepth 100000 in
set_option maxHeartbeats 1000000 in
theorem newDot_any (a b : Nd) (w : World) (h : 1 + a.size + b.size ≤ 4194304) : Calls Tryd.prog 48 #[a.val, b.val] w fun e w' => e = .returned ((Nd.dot a b).val) ∧ Below w.heap.size w w' := by
  obtain ⟨T1, x1, F1, hv1, hm1, he1, hc1⟩ := node_size a
  obtain ⟨T2, x2, F2, hv2, hm2, he2, hc2⟩ := node_size b
  have HV : Hid ((Nd.dot a b).val = .iface 102 (.agg #[.iface T1 x1, .iface T2 x2, .int .i64 (1 + (a.size : Int) + b.size)])) := by
    have e0 : (Nd.dot a b).val = .iface 102 (.agg #[a.val, b.val, .int .i64 ((1 + a.size + b.size : Nat) : Int)]) := rfl
    show _ = _
    rw [e0, hv1, hv2, show ((1 + a.size + b.size : Nat) : Int) = 1 + (a.size : Int) + b.size from by omega]
  rw [hv1, hv2]
  have K1 := Lib.hid hc1
  have K2 := Lib.hid hc2
  clear hv1 hv2 hc1 hc2
  go_enter Tryd.func48, Tryd.ntmps48
  go_wp2_with fail
  refine (K1.out _).mono ?_
  rintro e w1 ⟨rfl, hb1⟩
  go_wp2_with fail
  refine (K2.out _).mono ?_
  rintro e w2 ⟨rfl, hb2⟩
  go_wp2_with fail
  go_ret
  refine ⟨by rw [HV.out]; rfl, hb1.trans (hb2.mono hb1.size)⟩

end Go.Proofs.YtmblgkpgfofceaaDoor
