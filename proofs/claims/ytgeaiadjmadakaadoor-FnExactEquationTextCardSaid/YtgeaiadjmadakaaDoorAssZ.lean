/- Assertions that a node is the one of zero. Closed facts. -/
import Derived.Test.YtgeaiadjmadakaaDoorAssA
namespace Go.Proofs.YtgeaiadjmadakaaDoor
open Go.RowKit
theorem is_zero_zero (v : Value) (w : World) : (Instr.typeAssert (.iface 127 v) 101 127 true).run Tryd.prog w = .ok (.tuple #[v, .bool true]) w := by kernel_rfl
theorem is_one_zero (v : Value) (w : World) : (Instr.typeAssert (.iface 128 v) 101 127 true).run Tryd.prog w = .ok (.tuple #[.agg #[], .bool false]) w := by kernel_rfl
theorem is_test_zero (v : Value) (w : World) : (Instr.typeAssert (.iface 130 v) 101 127 true).run Tryd.prog w = .ok (.tuple #[.agg #[], .bool false]) w := by kernel_rfl
theorem is_act_zero (v : Value) (w : World) : (Instr.typeAssert (.iface 131 v) 101 127 true).run Tryd.prog w = .ok (.tuple #[.agg #[], .bool false]) w := by kernel_rfl
theorem is_not_zero (v : Value) (w : World) : (Instr.typeAssert (.iface 133 v) 101 127 true).run Tryd.prog w = .ok (.tuple #[.agg #[], .bool false]) w := by kernel_rfl
theorem is_sum_zero (v : Value) (w : World) : (Instr.typeAssert (.iface 135 v) 101 127 true).run Tryd.prog w = .ok (.tuple #[.agg #[], .bool false]) w := by kernel_rfl
theorem is_dot_zero (v : Value) (w : World) : (Instr.typeAssert (.iface 137 v) 101 127 true).run Tryd.prog w = .ok (.tuple #[.agg #[], .bool false]) w := by kernel_rfl
theorem is_star_zero (v : Value) (w : World) : (Instr.typeAssert (.iface 138 v) 101 127 true).run Tryd.prog w = .ok (.tuple #[.agg #[], .bool false]) w := by kernel_rfl
end Go.Proofs.YtgeaiadjmadakaaDoor
