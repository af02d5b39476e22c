/-
  DERIVED. GIVEN WITH THE SEED: THE PROGRAM's TIES (one call each: nine closed facts by the kernel) AND EACH ROW's TIE, after the 31st guide's Derived/Test/Toyas{Tie, Card}.lean. No idea stands in it: it is a product of the set-up. Laid BY PROGRAM, IN A SANDBOX (cutbox-door.mjs). By AI agents, Wed Nov 11 2026. No macro, syntax, notation, axiom, sorry.
-/
import Derived.Test.YtlfafcbieeambaaDoorRows
import Derived.LaidByTextLater
import Derived.SevenTiedAt
import Derived.LaidSub
import Derived.LaidOnce
namespace Go.Proofs.YtlfafcbieeambaaDoor
open Go
set_option maxRecDepth 100000
theorem seatTie1 : Tryd.prog.laidByTextLater [("loop.example/g01101/impl.progForms", Rows.laid_loop_example_g01101_impl_progForms), ("loop.example/g01101/impl.errFailed", Rows.laid_loop_example_g01101_impl_errFailed)] [.widerDeep, .sentinel] true :=
  Program.laidByTextLater_by_one 47 8 33 (by kernel_rfl) (by kernel_rfl) (by kernel_rfl) (by kernel_rfl) (by kernel_rfl) (by kernel_rfl) (fun _ _ => by kernel_rfl)
theorem noOwnUnsafe : Tryd.pinned.checked.prog.headLifts.contains "ownunsafe" = false := by kernel_rfl
theorem tie : Tryd.prog.laidByTextLater [("loop.example/g01101/impl.progForms", Rows.laid_loop_example_g01101_impl_progForms)] [.widerDeep] true :=
  Program.laidByTextLater.sub seatTie1 ["loop.example/g01101/impl.progForms"] (by kernel_rfl) (by kernel_rfl)
theorem fnExactValidProg_row_tie : Rows.fnExactValidProgRow.laidByTextAt .later Tryd.pinned [.widerDeep] true :=
  OpenClaim.laidByTextAt_later rfl rfl tie noOwnUnsafe
theorem fnExactProgExpr_row_tie : Rows.fnExactProgExprRow.laidByTextAt .later Tryd.pinned [.widerDeep] true :=
  OpenClaim.laidByTextAt_later rfl rfl tie noOwnUnsafe
theorem tie2 : Tryd.prog.laidByTextLater [("loop.example/g01101/impl.errFailed", Rows.laid_loop_example_g01101_impl_errFailed)] [.sentinel] true :=
  Program.laidByTextLater.sub seatTie1 ["loop.example/g01101/impl.errFailed"] (by kernel_rfl) (by kernel_rfl)
theorem fnExactFollowWord_row_tie : Rows.fnExactFollowWordRow.laidByTextAt .later Tryd.pinned [.sentinel] true :=
  OpenClaim.laidByTextAt_later rfl rfl tie2 noOwnUnsafe
theorem fnExactValidProgUpto_row_tie : Rows.fnExactValidProgUptoRow.laidByTextAt .later Tryd.pinned [.widerDeep] true :=
  OpenClaim.laidByTextAt_later rfl rfl tie noOwnUnsafe
theorem fnExactFollowWordUpto_row_tie : Rows.fnExactFollowWordUptoRow.laidByTextAt .later Tryd.pinned [.sentinel] true :=
  OpenClaim.laidByTextAt_later rfl rfl tie2 noOwnUnsafe
theorem fnExactProgExprUpto_row_tie : Rows.fnExactProgExprUptoRow.laidByTextAt .later Tryd.pinned [.widerDeep] true :=
  OpenClaim.laidByTextAt_later rfl rfl tie noOwnUnsafe
end Go.Proofs.YtlfafcbieeambaaDoor
