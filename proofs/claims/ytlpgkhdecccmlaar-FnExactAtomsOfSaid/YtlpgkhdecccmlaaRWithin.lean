/- Contract of impl.atomSet.isWithin. -/
import Derived.Test.YtlpgkhdecccmlaaRSet8D
import Derived.DeepKeys
import Derived.Deep.DeepCutAuto
namespace Go.Proofs.YtlpgkhdecccmlaaR
open Go.RowKit

/-- The common part of both sets below j, the first one from j on. -/
def mixF (j : Nat) (f g : Nat → Bool) (i : Nat) : Bool := if i < j then f i && g i else f i

theorem lits8 (a0 a1 a2 a3 a4 a5 a6 a7 : Bool) : Try.prog.keyLits 20 121 (Value.cells (.agg #[.bool a0, .bool a1, .bool a2, .bool a3, .bool a4, .bool a5, .bool a6, .bool a7])).toList = some [.bool a0, .bool a1, .bool a2, .bool a3, .bool a4, .bool a5, .bool a6, .bool a7] := by kernel_rfl
theorem formed8 (a0 a1 a2 a3 a4 a5 a6 a7 : Bool) : Value.formed Try.prog 121 (.agg #[.bool a0, .bool a1, .bool a2, .bool a3, .bool a4, .bool a5, .bool a6, .bool a7]) = true := by kernel_rfl
theorem equal8_run (a0 a1 a2 a3 a4 a5 a6 a7 b0 b1 b2 b3 b4 b5 b6 b7 : Bool) (w : World) : (Op.equalIn 10000 121 (.agg #[.bool a0, .bool a1, .bool a2, .bool a3, .bool a4, .bool a5, .bool a6, .bool a7]) (.agg #[.bool b0, .bool b1, .bool b2, .bool b3, .bool b4, .bool b5, .bool b6, .bool b7])).run Try.prog w = .ok ((a0 == b0) && (a1 == b1) && (a2 == b2) && (a3 == b3) && (a4 == b4) && (a5 == b5) && (a6 == b6) && (a7 == b7)) w := by
  obtain ⟨r, hr, hiff⟩ := run_equalIn_deep (P := Try.prog) 9990 10 121 (by kernel_rfl) w 20 20 _ _ _ _ (formed8 a0 a1 a2 a3 a4 a5 a6 a7) (formed8 b0 b1 b2 b3 b4 b5 b6 b7) (lits8 a0 a1 a2 a3 a4 a5 a6 a7) (lits8 b0 b1 b2 b3 b4 b5 b6 b7)
  have hr2 : r = ((a0 == b0) && (a1 == b1) && (a2 == b2) && (a3 == b3) && (a4 == b4) && (a5 == b5) && (a6 == b6) && (a7 == b7)) := by
    rw [Bool.eq_iff_iff, hiff]
    simp [and_assoc]
  rw [← hr2]
  exact hr
theorem mix_eq (p q : Bool) : ((p && q) == p) = (!p || q) := by cases p <;> cases q <;> rfl
theorem index8_0 (v0 v1 v2 v3 v4 v5 v6 v7 : Value) (w : World) : (Instr.index 121 (.agg #[v0, v1, v2, v3, v4, v5, v6, v7]) (.int .i64 0)).run Try.prog w = .ok v0 w := by kernel_rfl
theorem index8_1 (v0 v1 v2 v3 v4 v5 v6 v7 : Value) (w : World) : (Instr.index 121 (.agg #[v0, v1, v2, v3, v4, v5, v6, v7]) (.int .i64 1)).run Try.prog w = .ok v1 w := by kernel_rfl
theorem index8_2 (v0 v1 v2 v3 v4 v5 v6 v7 : Value) (w : World) : (Instr.index 121 (.agg #[v0, v1, v2, v3, v4, v5, v6, v7]) (.int .i64 2)).run Try.prog w = .ok v2 w := by kernel_rfl
theorem index8_3 (v0 v1 v2 v3 v4 v5 v6 v7 : Value) (w : World) : (Instr.index 121 (.agg #[v0, v1, v2, v3, v4, v5, v6, v7]) (.int .i64 3)).run Try.prog w = .ok v3 w := by kernel_rfl
theorem index8_4 (v0 v1 v2 v3 v4 v5 v6 v7 : Value) (w : World) : (Instr.index 121 (.agg #[v0, v1, v2, v3, v4, v5, v6, v7]) (.int .i64 4)).run Try.prog w = .ok v4 w := by kernel_rfl
theorem index8_5 (v0 v1 v2 v3 v4 v5 v6 v7 : Value) (w : World) : (Instr.index 121 (.agg #[v0, v1, v2, v3, v4, v5, v6, v7]) (.int .i64 5)).run Try.prog w = .ok v5 w := by kernel_rfl
theorem index8_6 (v0 v1 v2 v3 v4 v5 v6 v7 : Value) (w : World) : (Instr.index 121 (.agg #[v0, v1, v2, v3, v4, v5, v6, v7]) (.int .i64 6)).run Try.prog w = .ok v6 w := by kernel_rfl
theorem index8_7 (v0 v1 v2 v3 v4 v5 v6 v7 : Value) (w : World) : (Instr.index 121 (.agg #[v0, v1, v2, v3, v4, v5, v6, v7]) (.int .i64 7)).run Try.prog w = .ok v7 w := by kernel_rfl

end Go.Proofs.YtlpgkhdecccmlaaR
