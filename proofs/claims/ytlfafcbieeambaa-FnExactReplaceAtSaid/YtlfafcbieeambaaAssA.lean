/- Assertions that a node is an action. Closed facts. -/
import Derived.Test.YtlfafcbieeambaaAssert
namespace Go.Proofs.Ytlfafcbieeambaa
open Go.RowKit
theorem is_zero_act (v : Value) (w : World) : (Instr.typeAssert (.iface 202 v) 159 193 true).run Try.prog w = .ok (.tuple #[.agg #[.int .i64 0], .bool false]) w := by kernel_rfl
theorem is_one_act (v : Value) (w : World) : (Instr.typeAssert (.iface 190 v) 159 193 true).run Try.prog w = .ok (.tuple #[.agg #[.int .i64 0], .bool false]) w := by kernel_rfl
theorem is_test_act (v : Value) (w : World) : (Instr.typeAssert (.iface 192 v) 159 193 true).run Try.prog w = .ok (.tuple #[.agg #[.int .i64 0], .bool false]) w := by kernel_rfl
theorem is_act_act (v : Value) (w : World) : (Instr.typeAssert (.iface 193 v) 159 193 true).run Try.prog w = .ok (.tuple #[v, .bool true]) w := by kernel_rfl
theorem is_not_act (v : Value) (w : World) : (Instr.typeAssert (.iface 195 v) 159 193 true).run Try.prog w = .ok (.tuple #[.agg #[.int .i64 0], .bool false]) w := by kernel_rfl
theorem is_sum_act (v : Value) (w : World) : (Instr.typeAssert (.iface 197 v) 159 193 true).run Try.prog w = .ok (.tuple #[.agg #[.int .i64 0], .bool false]) w := by kernel_rfl
theorem is_dot_act (v : Value) (w : World) : (Instr.typeAssert (.iface 198 v) 159 193 true).run Try.prog w = .ok (.tuple #[.agg #[.int .i64 0], .bool false]) w := by kernel_rfl
theorem is_star_act (v : Value) (w : World) : (Instr.typeAssert (.iface 199 v) 159 193 true).run Try.prog w = .ok (.tuple #[.agg #[.int .i64 0], .bool false]) w := by kernel_rfl
theorem Nd.val_if (a : Nd) : ∃ (T : TypeId) (x : Value), a.val = .iface T x := by
  cases a <;> exact ⟨_, _, rfl⟩
end Go.Proofs.Ytlfafcbieeambaa
