/- Contracts of laws.toSig, eqSig, in one form. -/
import Derived.Test.YtlpgkhdecccmlaaRSig

namespace Go.Proofs.YtlpgkhdecccmlaaR
open Go.RowKit
set_option linter.unusedVariables false

theorem toSig_u (t a : Int) (_ : 0 ≤ 1048576) (w : World) : Calls Try.prog 14 #[.agg #[.int .i64 t, .int .i64 a]] w fun e w' => e = .returned (.agg #[.int .i64 t, .int .i64 a]) ∧ Below w.heap.size w w' := toSig_any t a w
theorem eqSig_u (t a : Int) (w : World) : Calls Try.prog 83 #[.agg #[.int .i64 t, .int .i64 a], .agg #[.int .i64 t, .int .i64 a]] w fun e w' => e = .returned (.bool true) ∧ Below w.heap.size w w' := by
  have n0 : (t != t) = false := by simp
  have n1 : (a != a) = false := by simp
  go_enter Try.func83, Try.ntmps83
  go_wp2_with fail
  go_ret
  exact ⟨rfl, by go_grown⟩
end Go.Proofs.YtlpgkhdecccmlaaR
