/- Assertions that a node is the one of zero. Closed facts. -/
import Derived.Test.YtnlkhlffdnkceaaDoorAssA
namespace Go.Proofs.YtnlkhlffdnkceaaDoor
open Go.RowKit
theorem is_zero_zero (v : Value) (w : World) : (Instr.typeAssert (.iface 129 v) 72 129 true).run Tryd.prog w = .ok (.tuple #[v, .bool true]) w := by kernel_rfl
theorem is_one_zero (v : Value) (w : World) : (Instr.typeAssert (.iface 123 v) 72 129 true).run Tryd.prog w = .ok (.tuple #[.agg #[], .bool false]) w := by kernel_rfl
theorem is_test_zero (v : Value) (w : World) : (Instr.typeAssert (.iface 125 v) 72 129 true).run Tryd.prog w = .ok (.tuple #[.agg #[], .bool false]) w := by kernel_rfl
theorem is_act_zero (v : Value) (w : World) : (Instr.typeAssert (.iface 126 v) 72 129 true).run Tryd.prog w = .ok (.tuple #[.agg #[], .bool false]) w := by kernel_rfl
theorem is_not_zero (v : Value) (w : World) : (Instr.typeAssert (.iface 143 v) 72 129 true).run Tryd.prog w = .ok (.tuple #[.agg #[], .bool false]) w := by kernel_rfl
theorem is_sum_zero (v : Value) (w : World) : (Instr.typeAssert (.iface 145 v) 72 129 true).run Tryd.prog w = .ok (.tuple #[.agg #[], .bool false]) w := by kernel_rfl
theorem is_dot_zero (v : Value) (w : World) : (Instr.typeAssert (.iface 147 v) 72 129 true).run Tryd.prog w = .ok (.tuple #[.agg #[], .bool false]) w := by kernel_rfl
theorem is_star_zero (v : Value) (w : World) : (Instr.typeAssert (.iface 148 v) 72 129 true).run Tryd.prog w = .ok (.tuple #[.agg #[], .bool false]) w := by kernel_rfl
end Go.Proofs.YtnlkhlffdnkceaaDoor
