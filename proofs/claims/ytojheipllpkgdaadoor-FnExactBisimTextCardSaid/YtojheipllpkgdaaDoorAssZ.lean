/- Assertions that a node is the one of zero. Closed facts. -/
import Derived.Test.YtojheipllpkgdaaDoorAssA
namespace Go.Proofs.YtojheipllpkgdaaDoor
open Go.RowKit
theorem is_zero_zero (v : Value) (w : World) : (Instr.typeAssert (.iface 151 v) 90 151 true).run Tryd.prog w = .ok (.tuple #[v, .bool true]) w := by kernel_rfl
theorem is_one_zero (v : Value) (w : World) : (Instr.typeAssert (.iface 139 v) 90 151 true).run Tryd.prog w = .ok (.tuple #[.agg #[], .bool false]) w := by kernel_rfl
theorem is_test_zero (v : Value) (w : World) : (Instr.typeAssert (.iface 141 v) 90 151 true).run Tryd.prog w = .ok (.tuple #[.agg #[], .bool false]) w := by kernel_rfl
theorem is_act_zero (v : Value) (w : World) : (Instr.typeAssert (.iface 142 v) 90 151 true).run Tryd.prog w = .ok (.tuple #[.agg #[], .bool false]) w := by kernel_rfl
theorem is_not_zero (v : Value) (w : World) : (Instr.typeAssert (.iface 144 v) 90 151 true).run Tryd.prog w = .ok (.tuple #[.agg #[], .bool false]) w := by kernel_rfl
theorem is_sum_zero (v : Value) (w : World) : (Instr.typeAssert (.iface 146 v) 90 151 true).run Tryd.prog w = .ok (.tuple #[.agg #[], .bool false]) w := by kernel_rfl
theorem is_dot_zero (v : Value) (w : World) : (Instr.typeAssert (.iface 147 v) 90 151 true).run Tryd.prog w = .ok (.tuple #[.agg #[], .bool false]) w := by kernel_rfl
theorem is_star_zero (v : Value) (w : World) : (Instr.typeAssert (.iface 148 v) 90 151 true).run Tryd.prog w = .ok (.tuple #[.agg #[], .bool false]) w := by kernel_rfl
end Go.Proofs.YtojheipllpkgdaaDoor
