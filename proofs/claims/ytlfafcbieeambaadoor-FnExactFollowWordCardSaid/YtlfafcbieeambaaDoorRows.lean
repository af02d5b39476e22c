/-
  NARROWER THAN 'FOR EVERY INPUT', by the rows' own cells (each row's printed sentence says how): FnExactValidProg: loops, laid · FnExactFollowWord: ifaces, laid · FnExactProgExpr: loops, laid.
  DERIVED. THE GIVEN ROWS OF THIS SEAT. 3 by the template 'for every input the law returns true; each argument reads behind the call as it read before'; 0 by the template 'total and deterministic' (their statements: YtlfafcbieeambaaDoorTotals.lean).
  GIVEN WITH THE SEED: the statements are not yours to turn. If you find one false, say at which input.
  Laid BY PROGRAM, IN A SANDBOX (cutbox-rows.mjs): the forced cells as the released guide's own fill.sh prints them over the translation ad399f6659e5b011… (all of the seat's roots in one cut). By AI agents, Wed Nov 11 2026. No macro, syntax, notation, axiom, sorry.
-/
import Derived.Test.YtlfafcbieeambaaDoorChecked
import GoSem.Claim
import GoSem.ClaimJoined
import GoSem.ClaimMapViews
import Derived.JoinedTies
import Derived.KernelRfl
namespace Go.Proofs.YtlfafcbieeambaaDoor
/- THE CELL 'sum', in the pinned program and in every row, IS THE sha256 OF THE DUMP (.gsa) THAT YtlfafcbieeambaaDoorProg.lean LOADS. Nothing in Lean hashes anything: it is a label: what it is worth is what the hold of that sum in a sandbox is worth. -/
noncomputable def Tryd.pinned : Pinned := { name := "ytlfafcbieeambaadoor", sum := "ad399f6659e5b0111d5e7a84c0b9a3784db61aab8360d70747864ea681619b92", checked := Tryd.checked }
namespace Rows
def none {H : Type} : Left H := { results := [], args := [] }

/- WHAT THE LISTED PACKAGE-LEVEL VARIABLES READ AS WHEN THE CALL BEGINS. Each datum BY PROGRAM (the guide's laid-datum.mjs) off the statement by which the dump's own 'gosem.cut.vars' lays the variable. In a bare row this is a premise. The card (YtlfafcbieeambaaDoorCards.lean) ties it to the program's text. -/
def laid_loop_example_g01101_impl_progForms {H : Type} : DataW H := .agg [.agg [.nil, .lit (.bool false), .lit (.bool false), .lit (.int .i64 0)], .agg [.slice [.lit (.string [115, 107, 105, 112])] [], .lit (.bool false), .lit (.bool false), .lit (.int .i64 0)], .agg [.slice [.lit (.string [102, 97, 105, 108])] [], .lit (.bool false), .lit (.bool false), .lit (.int .i64 0)], .agg [.slice [.lit (.string [97]), .lit (.string [])] [], .lit (.bool true), .lit (.bool false), .lit (.int .i64 0)], .agg [.slice [.lit (.string [97, 115, 115, 101, 114, 116, 32]), .lit (.string [])] [], .lit (.bool false), .lit (.bool true), .lit (.int .i64 0)], .agg [.slice [.lit (.string [123]), .lit (.string [59, 32]), .lit (.string [125])] [], .lit (.bool false), .lit (.bool false), .lit (.int .i64 2)], .agg [.slice [.lit (.string [105, 102, 32]), .lit (.string [32, 116, 104, 101, 110, 32]), .lit (.string [32, 101, 108, 115, 101, 32]), .lit (.string [32, 102, 105])] [], .lit (.bool false), .lit (.bool true), .lit (.int .i64 2)], .agg [.slice [.lit (.string [119, 104, 105, 108, 101, 32]), .lit (.string [32, 100, 111, 32]), .lit (.string [32, 111, 100])] [], .lit (.bool false), .lit (.bool true), .lit (.int .i64 1)]]
def laid_loop_example_g01101_impl_errFailed {H : Type} : DataW H := .iface "*errors.errorString" (.ptr (.agg [.lit (.string [97, 32, 115, 116, 101, 112, 32, 102, 97, 105, 108, 115])]))

/-- 'laws.FnExactValidProg': WHATEVER THE INPUT: true; the input reads as it did. -/
def fnExactValidProgSpec : ChangeSpec := { name := "fnExactValidProg", vars := ["loop.example/g01101/impl.progForms"], fn := fun _ => fun
  | [d1, d2, g1] => { results := [.lit (.bool true)], args := [d1, d2], vars := [g1] }
  | _ => none }
def fnExactValidProgRow : OpenClaim := { program := "ytlfafcbieeambaadoor", sum := "ad399f6659e5b0111d5e7a84c0b9a3784db61aab8360d70747864ea681619b92", func := "loop.example/g01101/laws.FnExactValidProg", spec := "fnExactValidProg", unfollowed := true, recurses := true, named := ["loop.example/g01101/impl.progForms"], loops := true, apart := false, laid := [("loop.example/g01101/impl.progForms", laid_loop_example_g01101_impl_progForms)] }
def FnExactValidProgSaid : Prop := fnExactValidProgRow.holds Tryd.pinned (OpenSpec.ofChange fnExactValidProgSpec)

/-- ITS FALSE NEIGHBOUR: 'it returns false'. Refute it at one input. -/
def fnExactValidProgWrong : ChangeSpec := { name := "fnExactValidProg", vars := ["loop.example/g01101/impl.progForms"], fn := fun _ => fun
  | [d1, d2, g1] => { results := [.lit (.bool false)], args := [d1, d2], vars := [g1] }
  | _ => none }
def FnExactValidProgWrongFalsely : Prop := fnExactValidProgRow.holds Tryd.pinned (OpenSpec.ofChange fnExactValidProgWrong)

/-- 'laws.FnExactFollowWord': WHATEVER THE INPUT: true; the input reads as it did. -/
def fnExactFollowWordSpec : ChangeSpec := { name := "fnExactFollowWord", vars := ["loop.example/g01101/impl.errFailed"], fn := fun _ => fun
  | [d1, d2, d3, d4, g1] => { results := [.lit (.bool true)], args := [d1, d2, d3, d4], vars := [g1] }
  | _ => none }
def fnExactFollowWordRow : OpenClaim := { program := "ytlfafcbieeambaadoor", sum := "ad399f6659e5b0111d5e7a84c0b9a3784db61aab8360d70747864ea681619b92", func := "loop.example/g01101/laws.FnExactFollowWord", spec := "fnExactFollowWord", unfollowed := true, recurses := true, named := ["loop.example/g01101/impl.errFailed"], ifaces := true, apart := false, laid := [("loop.example/g01101/impl.errFailed", laid_loop_example_g01101_impl_errFailed)] }
def FnExactFollowWordSaid : Prop := fnExactFollowWordRow.holds Tryd.pinned (OpenSpec.ofChange fnExactFollowWordSpec)

/-- ITS FALSE NEIGHBOUR: 'it returns false'. Refute it at one input. -/
def fnExactFollowWordWrong : ChangeSpec := { name := "fnExactFollowWord", vars := ["loop.example/g01101/impl.errFailed"], fn := fun _ => fun
  | [d1, d2, d3, d4, g1] => { results := [.lit (.bool false)], args := [d1, d2, d3, d4], vars := [g1] }
  | _ => none }
def FnExactFollowWordWrongFalsely : Prop := fnExactFollowWordRow.holds Tryd.pinned (OpenSpec.ofChange fnExactFollowWordWrong)

/-- 'laws.FnExactProgExpr': WHATEVER THE INPUT: true; the input reads as it did. -/
def fnExactProgExprSpec : ChangeSpec := { name := "fnExactProgExpr", vars := ["loop.example/g01101/impl.progForms"], fn := fun _ => fun
  | [d1, d2, g1] => { results := [.lit (.bool true)], args := [d1, d2], vars := [g1] }
  | _ => none }
def fnExactProgExprRow : OpenClaim := { program := "ytlfafcbieeambaadoor", sum := "ad399f6659e5b0111d5e7a84c0b9a3784db61aab8360d70747864ea681619b92", func := "loop.example/g01101/laws.FnExactProgExpr", spec := "fnExactProgExpr", unfollowed := true, recurses := true, named := ["loop.example/g01101/impl.progForms"], loops := true, apart := false, laid := [("loop.example/g01101/impl.progForms", laid_loop_example_g01101_impl_progForms)] }
def FnExactProgExprSaid : Prop := fnExactProgExprRow.holds Tryd.pinned (OpenSpec.ofChange fnExactProgExprSpec)

/-- ITS FALSE NEIGHBOUR: 'it returns false'. Refute it at one input. -/
def fnExactProgExprWrong : ChangeSpec := { name := "fnExactProgExpr", vars := ["loop.example/g01101/impl.progForms"], fn := fun _ => fun
  | [d1, d2, g1] => { results := [.lit (.bool false)], args := [d1, d2], vars := [g1] }
  | _ => none }
def FnExactProgExprWrongFalsely : Prop := fnExactProgExprRow.holds Tryd.pinned (OpenSpec.ofChange fnExactProgExprWrong)

/- THE SECOND FORM. 'bulk': how many values and letters a reading holds, each counted each time it is reached (what is shared counts as often as it is met; a slice's spare places count too). A statement '..UptoSaid' is the law's where the arguments, and the package variables that the reading takes, are together of bulk at most 1048576: NARROWER than '..Said'. Prove '..Said' where nothing that the law and all that it calls make is longer than what came in: it says more and counts as full. Else prove '..UptoSaid'. A law counts once. -/
mutual
def uptoBulk {H : Type} : DataW H → Nat
  | .lit (.string bytes) => bytes.length + 1
  | .lit _ => 1
  | .nil => 1
  | .ptr d => uptoBulk d + 1
  | .slice elems spare => uptoBulkAll elems + uptoBulkAll spare + 1
  | .agg parts => uptoBulkAll parts + 1
  | .iface _ d => uptoBulk d + 1
  | .map entries => uptoBulkEntries entries + 1
  | .held _ => 1
def uptoBulkAll {H : Type} : List (DataW H) → Nat
  | [] => 0
  | d :: r => uptoBulk d + uptoBulkAll r
def uptoBulkEntries {H : Type} : List (Lit × DataW H) → Nat
  | [] => 0
  | x :: r => uptoBulkEntry x + uptoBulkEntries r
def uptoBulkEntry {H : Type} : Lit × DataW H → Nat
  | (.string bytes, d) => bytes.length + uptoBulk d + 1
  | (_, d) => uptoBulk d + 1
 end
def uptoSmall : (H : Type) → List (DataW H) → Bool := fun _ ds => decide (uptoBulkAll ds ≤ 1048576)
def OpenSpec.upto (s : _root_.Go.ChangeSpec) : _root_.Go.OpenSpec := { _root_.Go.OpenSpec.ofChange s with cond := some uptoSmall }

/-- 'laws.FnExactValidProg', WHERE WHAT IT READS IS OF BULK AT MOST 1048576: true; the input reads as it did. -/
def fnExactValidProgUptoRow : OpenClaim := { program := "ytlfafcbieeambaadoor", sum := "ad399f6659e5b0111d5e7a84c0b9a3784db61aab8360d70747864ea681619b92", func := "loop.example/g01101/laws.FnExactValidProg", spec := "fnExactValidProg", unfollowed := true, recurses := true, named := ["loop.example/g01101/impl.progForms"], loops := true, apart := false, laid := [("loop.example/g01101/impl.progForms", laid_loop_example_g01101_impl_progForms)], narrowed := true }
def FnExactValidProgUptoSaid : Prop := fnExactValidProgUptoRow.holds Tryd.pinned (OpenSpec.upto fnExactValidProgSpec)

/-- 'laws.FnExactFollowWord', WHERE WHAT IT READS IS OF BULK AT MOST 1048576: true; the input reads as it did. -/
def fnExactFollowWordUptoRow : OpenClaim := { program := "ytlfafcbieeambaadoor", sum := "ad399f6659e5b0111d5e7a84c0b9a3784db61aab8360d70747864ea681619b92", func := "loop.example/g01101/laws.FnExactFollowWord", spec := "fnExactFollowWord", unfollowed := true, recurses := true, named := ["loop.example/g01101/impl.errFailed"], ifaces := true, apart := false, laid := [("loop.example/g01101/impl.errFailed", laid_loop_example_g01101_impl_errFailed)], narrowed := true }
def FnExactFollowWordUptoSaid : Prop := fnExactFollowWordUptoRow.holds Tryd.pinned (OpenSpec.upto fnExactFollowWordSpec)

/-- 'laws.FnExactProgExpr', WHERE WHAT IT READS IS OF BULK AT MOST 1048576: true; the input reads as it did. -/
def fnExactProgExprUptoRow : OpenClaim := { program := "ytlfafcbieeambaadoor", sum := "ad399f6659e5b0111d5e7a84c0b9a3784db61aab8360d70747864ea681619b92", func := "loop.example/g01101/laws.FnExactProgExpr", spec := "fnExactProgExpr", unfollowed := true, recurses := true, named := ["loop.example/g01101/impl.progForms"], loops := true, apart := false, laid := [("loop.example/g01101/impl.progForms", laid_loop_example_g01101_impl_progForms)], narrowed := true }
def FnExactProgExprUptoSaid : Prop := fnExactProgExprUptoRow.holds Tryd.pinned (OpenSpec.upto fnExactProgExprSpec)

end Rows
end Go.Proofs.YtlfafcbieeambaaDoor
