/- Assertions that a node is an action. Closed facts. -/
import Derived.Test.YtojheipllpkgdaaDoorAssert
namespace Go.Proofs.YtojheipllpkgdaaDoor
open Go.RowKit
theorem is_zero_act (v : Value) (w : World) : (Instr.typeAssert (.iface 151 v) 90 142 true).run Tryd.prog w = .ok (.tuple #[.agg #[.int .i64 0], .bool false]) w := by kernel_rfl
theorem is_one_act (v : Value) (w : World) : (Instr.typeAssert (.iface 139 v) 90 142 true).run Tryd.prog w = .ok (.tuple #[.agg #[.int .i64 0], .bool false]) w := by kernel_rfl
theorem is_test_act (v : Value) (w : World) : (Instr.typeAssert (.iface 141 v) 90 142 true).run Tryd.prog w = .ok (.tuple #[.agg #[.int .i64 0], .bool false]) w := by kernel_rfl
theorem is_act_act (v : Value) (w : World) : (Instr.typeAssert (.iface 142 v) 90 142 true).run Tryd.prog w = .ok (.tuple #[v, .bool true]) w := by kernel_rfl
theorem is_not_act (v : Value) (w : World) : (Instr.typeAssert (.iface 144 v) 90 142 true).run Tryd.prog w = .ok (.tuple #[.agg #[.int .i64 0], .bool false]) w := by kernel_rfl
theorem is_sum_act (v : Value) (w : World) : (Instr.typeAssert (.iface 146 v) 90 142 true).run Tryd.prog w = .ok (.tuple #[.agg #[.int .i64 0], .bool false]) w := by kernel_rfl
theorem is_dot_act (v : Value) (w : World) : (Instr.typeAssert (.iface 147 v) 90 142 true).run Tryd.prog w = .ok (.tuple #[.agg #[.int .i64 0], .bool false]) w := by kernel_rfl
theorem is_star_act (v : Value) (w : World) : (Instr.typeAssert (.iface 148 v) 90 142 true).run Tryd.prog w = .ok (.tuple #[.agg #[.int .i64 0], .bool false]) w := by kernel_rfl
theorem Nd.val_if (a : Nd) : ∃ (T : TypeId) (x : Value), a.val = .iface T x := by
  cases a <;> exact ⟨_, _, rfl⟩
end Go.Proofs.YtojheipllpkgdaaDoor
