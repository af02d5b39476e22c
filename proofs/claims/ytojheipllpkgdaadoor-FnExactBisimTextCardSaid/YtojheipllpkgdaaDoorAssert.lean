/- Facts on assertions that a node is of a type. Closed facts, one a pair of types. -/
import Derived.Test.YtojheipllpkgdaaDoorNodeOf
namespace Go.Proofs.YtojheipllpkgdaaDoor
open Go.RowKit

theorem is_zero_one (v : Value) (w : World) : (Instr.typeAssert (.iface 151 v) 90 139 true).run Tryd.prog w = .ok (.tuple #[.agg #[], .bool false]) w := by kernel_rfl
theorem is_zero_star (v : Value) (w : World) : (Instr.typeAssert (.iface 151 v) 90 148 true).run Tryd.prog w = .ok (.tuple #[.agg #[.nilIface, .int .i64 0], .bool false]) w := by kernel_rfl
theorem is_zero_test (v : Value) (w : World) : (Instr.typeAssert (.iface 151 v) 90 141 true).run Tryd.prog w = .ok (.tuple #[.agg #[.int .i64 0], .bool false]) w := by kernel_rfl
theorem is_zero_not (v : Value) (w : World) : (Instr.typeAssert (.iface 151 v) 90 144 true).run Tryd.prog w = .ok (.tuple #[.agg #[.nilIface, .int .i64 0], .bool false]) w := by kernel_rfl
theorem is_zero_sum (v : Value) (w : World) : (Instr.typeAssert (.iface 151 v) 90 146 true).run Tryd.prog w = .ok (.tuple #[.agg #[.nilIface, .nilIface, .int .i64 0], .bool false]) w := by kernel_rfl
theorem is_zero_dot (v : Value) (w : World) : (Instr.typeAssert (.iface 151 v) 90 147 true).run Tryd.prog w = .ok (.tuple #[.agg #[.nilIface, .nilIface, .int .i64 0], .bool false]) w := by kernel_rfl
theorem is_one_one (v : Value) (w : World) : (Instr.typeAssert (.iface 139 v) 90 139 true).run Tryd.prog w = .ok (.tuple #[v, .bool true]) w := by kernel_rfl
theorem is_one_star (v : Value) (w : World) : (Instr.typeAssert (.iface 139 v) 90 148 true).run Tryd.prog w = .ok (.tuple #[.agg #[.nilIface, .int .i64 0], .bool false]) w := by kernel_rfl
theorem is_one_test (v : Value) (w : World) : (Instr.typeAssert (.iface 139 v) 90 141 true).run Tryd.prog w = .ok (.tuple #[.agg #[.int .i64 0], .bool false]) w := by kernel_rfl
theorem is_one_not (v : Value) (w : World) : (Instr.typeAssert (.iface 139 v) 90 144 true).run Tryd.prog w = .ok (.tuple #[.agg #[.nilIface, .int .i64 0], .bool false]) w := by kernel_rfl
theorem is_one_sum (v : Value) (w : World) : (Instr.typeAssert (.iface 139 v) 90 146 true).run Tryd.prog w = .ok (.tuple #[.agg #[.nilIface, .nilIface, .int .i64 0], .bool false]) w := by kernel_rfl
theorem is_one_dot (v : Value) (w : World) : (Instr.typeAssert (.iface 139 v) 90 147 true).run Tryd.prog w = .ok (.tuple #[.agg #[.nilIface, .nilIface, .int .i64 0], .bool false]) w := by kernel_rfl
theorem is_test_one (v : Value) (w : World) : (Instr.typeAssert (.iface 141 v) 90 139 true).run Tryd.prog w = .ok (.tuple #[.agg #[], .bool false]) w := by kernel_rfl
theorem is_test_star (v : Value) (w : World) : (Instr.typeAssert (.iface 141 v) 90 148 true).run Tryd.prog w = .ok (.tuple #[.agg #[.nilIface, .int .i64 0], .bool false]) w := by kernel_rfl
theorem is_test_test (v : Value) (w : World) : (Instr.typeAssert (.iface 141 v) 90 141 true).run Tryd.prog w = .ok (.tuple #[v, .bool true]) w := by kernel_rfl
theorem is_test_not (v : Value) (w : World) : (Instr.typeAssert (.iface 141 v) 90 144 true).run Tryd.prog w = .ok (.tuple #[.agg #[.nilIface, .int .i64 0], .bool false]) w := by kernel_rfl
theorem is_test_sum (v : Value) (w : World) : (Instr.typeAssert (.iface 141 v) 90 146 true).run Tryd.prog w = .ok (.tuple #[.agg #[.nilIface, .nilIface, .int .i64 0], .bool false]) w := by kernel_rfl
theorem is_test_dot (v : Value) (w : World) : (Instr.typeAssert (.iface 141 v) 90 147 true).run Tryd.prog w = .ok (.tuple #[.agg #[.nilIface, .nilIface, .int .i64 0], .bool false]) w := by kernel_rfl
theorem is_act_one (v : Value) (w : World) : (Instr.typeAssert (.iface 142 v) 90 139 true).run Tryd.prog w = .ok (.tuple #[.agg #[], .bool false]) w := by kernel_rfl
theorem is_act_star (v : Value) (w : World) : (Instr.typeAssert (.iface 142 v) 90 148 true).run Tryd.prog w = .ok (.tuple #[.agg #[.nilIface, .int .i64 0], .bool false]) w := by kernel_rfl
theorem is_act_test (v : Value) (w : World) : (Instr.typeAssert (.iface 142 v) 90 141 true).run Tryd.prog w = .ok (.tuple #[.agg #[.int .i64 0], .bool false]) w := by kernel_rfl
theorem is_act_not (v : Value) (w : World) : (Instr.typeAssert (.iface 142 v) 90 144 true).run Tryd.prog w = .ok (.tuple #[.agg #[.nilIface, .int .i64 0], .bool false]) w := by kernel_rfl
theorem is_act_sum (v : Value) (w : World) : (Instr.typeAssert (.iface 142 v) 90 146 true).run Tryd.prog w = .ok (.tuple #[.agg #[.nilIface, .nilIface, .int .i64 0], .bool false]) w := by kernel_rfl
theorem is_act_dot (v : Value) (w : World) : (Instr.typeAssert (.iface 142 v) 90 147 true).run Tryd.prog w = .ok (.tuple #[.agg #[.nilIface, .nilIface, .int .i64 0], .bool false]) w := by kernel_rfl
theorem is_not_one (v : Value) (w : World) : (Instr.typeAssert (.iface 144 v) 90 139 true).run Tryd.prog w = .ok (.tuple #[.agg #[], .bool false]) w := by kernel_rfl
theorem is_not_star (v : Value) (w : World) : (Instr.typeAssert (.iface 144 v) 90 148 true).run Tryd.prog w = .ok (.tuple #[.agg #[.nilIface, .int .i64 0], .bool false]) w := by kernel_rfl
theorem is_not_test (v : Value) (w : World) : (Instr.typeAssert (.iface 144 v) 90 141 true).run Tryd.prog w = .ok (.tuple #[.agg #[.int .i64 0], .bool false]) w := by kernel_rfl
theorem is_not_not (v : Value) (w : World) : (Instr.typeAssert (.iface 144 v) 90 144 true).run Tryd.prog w = .ok (.tuple #[v, .bool true]) w := by kernel_rfl
theorem is_not_sum (v : Value) (w : World) : (Instr.typeAssert (.iface 144 v) 90 146 true).run Tryd.prog w = .ok (.tuple #[.agg #[.nilIface, .nilIface, .int .i64 0], .bool false]) w := by kernel_rfl
theorem is_not_dot (v : Value) (w : World) : (Instr.typeAssert (.iface 144 v) 90 147 true).run Tryd.prog w = .ok (.tuple #[.agg #[.nilIface, .nilIface, .int .i64 0], .bool false]) w := by kernel_rfl
theorem is_sum_one (v : Value) (w : World) : (Instr.typeAssert (.iface 146 v) 90 139 true).run Tryd.prog w = .ok (.tuple #[.agg #[], .bool false]) w := by kernel_rfl
theorem is_sum_star (v : Value) (w : World) : (Instr.typeAssert (.iface 146 v) 90 148 true).run Tryd.prog w = .ok (.tuple #[.agg #[.nilIface, .int .i64 0], .bool false]) w := by kernel_rfl
theorem is_sum_test (v : Value) (w : World) : (Instr.typeAssert (.iface 146 v) 90 141 true).run Tryd.prog w = .ok (.tuple #[.agg #[.int .i64 0], .bool false]) w := by kernel_rfl
theorem is_sum_not (v : Value) (w : World) : (Instr.typeAssert (.iface 146 v) 90 144 true).run Tryd.prog w = .ok (.tuple #[.agg #[.nilIface, .int .i64 0], .bool false]) w := by kernel_rfl
theorem is_sum_sum (v : Value) (w : World) : (Instr.typeAssert (.iface 146 v) 90 146 true).run Tryd.prog w = .ok (.tuple #[v, .bool true]) w := by kernel_rfl
theorem is_sum_dot (v : Value) (w : World) : (Instr.typeAssert (.iface 146 v) 90 147 true).run Tryd.prog w = .ok (.tuple #[.agg #[.nilIface, .nilIface, .int .i64 0], .bool false]) w := by kernel_rfl
theorem is_dot_one (v : Value) (w : World) : (Instr.typeAssert (.iface 147 v) 90 139 true).run Tryd.prog w = .ok (.tuple #[.agg #[], .bool false]) w := by kernel_rfl
theorem is_dot_star (v : Value) (w : World) : (Instr.typeAssert (.iface 147 v) 90 148 true).run Tryd.prog w = .ok (.tuple #[.agg #[.nilIface, .int .i64 0], .bool false]) w := by kernel_rfl
theorem is_dot_test (v : Value) (w : World) : (Instr.typeAssert (.iface 147 v) 90 141 true).run Tryd.prog w = .ok (.tuple #[.agg #[.int .i64 0], .bool false]) w := by kernel_rfl
theorem is_dot_not (v : Value) (w : World) : (Instr.typeAssert (.iface 147 v) 90 144 true).run Tryd.prog w = .ok (.tuple #[.agg #[.nilIface, .int .i64 0], .bool false]) w := by kernel_rfl
theorem is_dot_sum (v : Value) (w : World) : (Instr.typeAssert (.iface 147 v) 90 146 true).run Tryd.prog w = .ok (.tuple #[.agg #[.nilIface, .nilIface, .int .i64 0], .bool false]) w := by kernel_rfl
theorem is_dot_dot (v : Value) (w : World) : (Instr.typeAssert (.iface 147 v) 90 147 true).run Tryd.prog w = .ok (.tuple #[v, .bool true]) w := by kernel_rfl
theorem is_star_one (v : Value) (w : World) : (Instr.typeAssert (.iface 148 v) 90 139 true).run Tryd.prog w = .ok (.tuple #[.agg #[], .bool false]) w := by kernel_rfl
theorem is_star_star (v : Value) (w : World) : (Instr.typeAssert (.iface 148 v) 90 148 true).run Tryd.prog w = .ok (.tuple #[v, .bool true]) w := by kernel_rfl
theorem is_star_test (v : Value) (w : World) : (Instr.typeAssert (.iface 148 v) 90 141 true).run Tryd.prog w = .ok (.tuple #[.agg #[.int .i64 0], .bool false]) w := by kernel_rfl
theorem is_star_not (v : Value) (w : World) : (Instr.typeAssert (.iface 148 v) 90 144 true).run Tryd.prog w = .ok (.tuple #[.agg #[.nilIface, .int .i64 0], .bool false]) w := by kernel_rfl
theorem is_star_sum (v : Value) (w : World) : (Instr.typeAssert (.iface 148 v) 90 146 true).run Tryd.prog w = .ok (.tuple #[.agg #[.nilIface, .nilIface, .int .i64 0], .bool false]) w := by kernel_rfl
theorem is_star_dot (v : Value) (w : World) : (Instr.typeAssert (.iface 148 v) 90 147 true).run Tryd.prog w = .ok (.tuple #[.agg #[.nilIface, .nilIface, .int .i64 0], .bool false]) w := by kernel_rfl
end Go.Proofs.YtojheipllpkgdaaDoor
