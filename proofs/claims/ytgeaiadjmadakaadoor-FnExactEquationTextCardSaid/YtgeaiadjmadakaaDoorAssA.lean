/- Assertions that a node is an action. Closed facts. -/
import Derived.Test.YtgeaiadjmadakaaDoorAssert
namespace Go.Proofs.YtgeaiadjmadakaaDoor
open Go.RowKit
theorem is_zero_act (v : Value) (w : World) : (Instr.typeAssert (.iface 127 v) 101 131 true).run Tryd.prog w = .ok (.tuple #[.agg #[.int .i64 0], .bool false]) w := by kernel_rfl
theorem is_one_act (v : Value) (w : World) : (Instr.typeAssert (.iface 128 v) 101 131 true).run Tryd.prog w = .ok (.tuple #[.agg #[.int .i64 0], .bool false]) w := by kernel_rfl
theorem is_test_act (v : Value) (w : World) : (Instr.typeAssert (.iface 130 v) 101 131 true).run Tryd.prog w = .ok (.tuple #[.agg #[.int .i64 0], .bool false]) w := by kernel_rfl
theorem is_act_act (v : Value) (w : World) : (Instr.typeAssert (.iface 131 v) 101 131 true).run Tryd.prog w = .ok (.tuple #[v, .bool true]) w := by kernel_rfl
theorem is_not_act (v : Value) (w : World) : (Instr.typeAssert (.iface 133 v) 101 131 true).run Tryd.prog w = .ok (.tuple #[.agg #[.int .i64 0], .bool false]) w := by kernel_rfl
theorem is_sum_act (v : Value) (w : World) : (Instr.typeAssert (.iface 135 v) 101 131 true).run Tryd.prog w = .ok (.tuple #[.agg #[.int .i64 0], .bool false]) w := by kernel_rfl
theorem is_dot_act (v : Value) (w : World) : (Instr.typeAssert (.iface 137 v) 101 131 true).run Tryd.prog w = .ok (.tuple #[.agg #[.int .i64 0], .bool false]) w := by kernel_rfl
theorem is_star_act (v : Value) (w : World) : (Instr.typeAssert (.iface 138 v) 101 131 true).run Tryd.prog w = .ok (.tuple #[.agg #[.int .i64 0], .bool false]) w := by kernel_rfl
theorem Nd.val_if (a : Nd) : ∃ (T : TypeId) (x : Value), a.val = .iface T x := by
  cases a <;> exact ⟨_, _, rfl⟩
end Go.Proofs.YtgeaiadjmadakaaDoor
