/-
  NARROWER THAN 'FOR EVERY INPUT', by the rows' own cells (each row's printed sentence says how): FnExactEmptyAt: loops · FnExactTruthAt: loops · FnExactValidPremises: loops · FnExactDerivationSize: loops · FnExactImplies: loops · FnExactAtomsOf: loops · FnExactAllowedNext: loops · FnExactPremiseExpr: loops.
  DERIVED. THE GIVEN ROWS OF THIS SEAT. 9 by the template 'for every input the law returns true; each argument reads behind the call as it read before'; 0 by the template 'total and deterministic' (their statements: YtpoikhilhgijoaaTotals.lean).
  GIVEN WITH THE SEED: the statements are not yours to turn. If you find one false, say at which input.
  Laid BY PROGRAM, IN A SANDBOX (cutbox-rows.mjs): the forced cells as the released guide's own fill.sh prints them over the translation 38c95a7575ad75fe… (all of the seat's roots in one cut). By AI agents, Wed Nov 11 2026. No macro, syntax, notation, axiom, sorry.
-/
import Derived.Test.YtpoikhilhgijoaaChecked
import GoSem.Claim
import GoSem.ClaimJoined
import GoSem.ClaimMapViews
import Derived.JoinedTies
import Derived.KernelRfl
namespace Go.Proofs.Ytpoikhilhgijoaa
/- THE CELL 'sum', in the pinned program and in every row, IS THE sha256 OF THE DUMP (.gsa) THAT YtpoikhilhgijoaaProg.lean LOADS. Nothing in Lean hashes anything: it is a label: what it is worth is what the hold of that sum in a sandbox is worth. -/
noncomputable def Try.pinned : Pinned := { name := "ytpoikhilhgijoaa", sum := "38c95a7575ad75fe3756f3bf5e77ba59601589b23cd46d6accb12c2f4de8116a", checked := Try.checked }
namespace Rows
def none {H : Type} : Left H := { results := [], args := [] }

/-- 'laws.FnExactEmptyAt': WHATEVER THE INPUT: true; the input reads as it did. -/
def fnExactEmptyAtSpec : ChangeSpec := { name := "fnExactEmptyAt", fn := fun _ => fun
  | [d1, d2, d3] => { results := [.lit (.bool true)], args := [d1, d2, d3] }
  | _ => none }
def fnExactEmptyAtRow : OpenClaim := { program := "ytpoikhilhgijoaa", sum := "38c95a7575ad75fe3756f3bf5e77ba59601589b23cd46d6accb12c2f4de8116a", func := "loop.example/g01101/laws.FnExactEmptyAt", spec := "fnExactEmptyAt", unfollowed := true, recurses := true, loops := true, apart := false }
def FnExactEmptyAtSaid : Prop := fnExactEmptyAtRow.holds Try.pinned (OpenSpec.ofChange fnExactEmptyAtSpec)

/-- ITS FALSE NEIGHBOUR: 'it returns false'. Refute it at one input. -/
def fnExactEmptyAtWrong : ChangeSpec := { name := "fnExactEmptyAt", fn := fun _ => fun
  | [d1, d2, d3] => { results := [.lit (.bool false)], args := [d1, d2, d3] }
  | _ => none }
def FnExactEmptyAtWrongFalsely : Prop := fnExactEmptyAtRow.holds Try.pinned (OpenSpec.ofChange fnExactEmptyAtWrong)

/-- 'laws.FnExactTruthAt': WHATEVER THE INPUT: true; the input reads as it did. -/
def fnExactTruthAtSpec : ChangeSpec := { name := "fnExactTruthAt", fn := fun _ => fun
  | [d1, d2, d3] => { results := [.lit (.bool true)], args := [d1, d2, d3] }
  | _ => none }
def fnExactTruthAtRow : OpenClaim := { program := "ytpoikhilhgijoaa", sum := "38c95a7575ad75fe3756f3bf5e77ba59601589b23cd46d6accb12c2f4de8116a", func := "loop.example/g01101/laws.FnExactTruthAt", spec := "fnExactTruthAt", unfollowed := true, recurses := true, loops := true, apart := false }
def FnExactTruthAtSaid : Prop := fnExactTruthAtRow.holds Try.pinned (OpenSpec.ofChange fnExactTruthAtSpec)

/-- ITS FALSE NEIGHBOUR: 'it returns false'. Refute it at one input. -/
def fnExactTruthAtWrong : ChangeSpec := { name := "fnExactTruthAt", fn := fun _ => fun
  | [d1, d2, d3] => { results := [.lit (.bool false)], args := [d1, d2, d3] }
  | _ => none }
def FnExactTruthAtWrongFalsely : Prop := fnExactTruthAtRow.holds Try.pinned (OpenSpec.ofChange fnExactTruthAtWrong)

/-- 'laws.FnExactValidPremises': WHATEVER THE INPUT: true; the input reads as it did. -/
def fnExactValidPremisesSpec : ChangeSpec := { name := "fnExactValidPremises", fn := fun _ => fun
  | [d1, d2] => { results := [.lit (.bool true)], args := [d1, d2] }
  | _ => none }
def fnExactValidPremisesRow : OpenClaim := { program := "ytpoikhilhgijoaa", sum := "38c95a7575ad75fe3756f3bf5e77ba59601589b23cd46d6accb12c2f4de8116a", func := "loop.example/g01101/laws.FnExactValidPremises", spec := "fnExactValidPremises", unfollowed := true, recurses := true, loops := true, apart := false }
def FnExactValidPremisesSaid : Prop := fnExactValidPremisesRow.holds Try.pinned (OpenSpec.ofChange fnExactValidPremisesSpec)

/-- ITS FALSE NEIGHBOUR: 'it returns false'. Refute it at one input. -/
def fnExactValidPremisesWrong : ChangeSpec := { name := "fnExactValidPremises", fn := fun _ => fun
  | [d1, d2] => { results := [.lit (.bool false)], args := [d1, d2] }
  | _ => none }
def FnExactValidPremisesWrongFalsely : Prop := fnExactValidPremisesRow.holds Try.pinned (OpenSpec.ofChange fnExactValidPremisesWrong)

/-- 'laws.FnExactDerivationSize': WHATEVER THE INPUT: true; the input reads as it did. -/
def fnExactDerivationSizeSpec : ChangeSpec := { name := "fnExactDerivationSize", fn := fun _ => fun
  | [d] => { results := [.lit (.bool true)], args := [d] }
  | _ => none }
def fnExactDerivationSizeRow : OpenClaim := { program := "ytpoikhilhgijoaa", sum := "38c95a7575ad75fe3756f3bf5e77ba59601589b23cd46d6accb12c2f4de8116a", func := "loop.example/g01101/laws.FnExactDerivationSize", spec := "fnExactDerivationSize", recurses := true, loops := true, apart := false }
def FnExactDerivationSizeSaid : Prop := fnExactDerivationSizeRow.holds Try.pinned (OpenSpec.ofChange fnExactDerivationSizeSpec)

/-- ITS FALSE NEIGHBOUR: 'it returns false'. Refute it at one input. -/
def fnExactDerivationSizeWrong : ChangeSpec := { name := "fnExactDerivationSize", fn := fun _ => fun
  | [d] => { results := [.lit (.bool false)], args := [d] }
  | _ => none }
def FnExactDerivationSizeWrongFalsely : Prop := fnExactDerivationSizeRow.holds Try.pinned (OpenSpec.ofChange fnExactDerivationSizeWrong)

/-- 'laws.FnExactImplies': WHATEVER THE INPUT: true; the input reads as it did. -/
def fnExactImpliesSpec : ChangeSpec := { name := "fnExactImplies", fn := fun _ => fun
  | [d1, d2, d3] => { results := [.lit (.bool true)], args := [d1, d2, d3] }
  | _ => none }
def fnExactImpliesRow : OpenClaim := { program := "ytpoikhilhgijoaa", sum := "38c95a7575ad75fe3756f3bf5e77ba59601589b23cd46d6accb12c2f4de8116a", func := "loop.example/g01101/laws.FnExactImplies", spec := "fnExactImplies", unfollowed := true, recurses := true, loops := true, apart := false }
def FnExactImpliesSaid : Prop := fnExactImpliesRow.holds Try.pinned (OpenSpec.ofChange fnExactImpliesSpec)

/-- ITS FALSE NEIGHBOUR: 'it returns false'. Refute it at one input. -/
def fnExactImpliesWrong : ChangeSpec := { name := "fnExactImplies", fn := fun _ => fun
  | [d1, d2, d3] => { results := [.lit (.bool false)], args := [d1, d2, d3] }
  | _ => none }
def FnExactImpliesWrongFalsely : Prop := fnExactImpliesRow.holds Try.pinned (OpenSpec.ofChange fnExactImpliesWrong)

/-- 'laws.FnExactAtomsOf': WHATEVER THE INPUT: true; the input reads as it did. -/
def fnExactAtomsOfSpec : ChangeSpec := { name := "fnExactAtomsOf", fn := fun _ => fun
  | [d1, d2] => { results := [.lit (.bool true)], args := [d1, d2] }
  | _ => none }
def fnExactAtomsOfRow : OpenClaim := { program := "ytpoikhilhgijoaa", sum := "38c95a7575ad75fe3756f3bf5e77ba59601589b23cd46d6accb12c2f4de8116a", func := "loop.example/g01101/laws.FnExactAtomsOf", spec := "fnExactAtomsOf", unfollowed := true, recurses := true, loops := true, apart := false }
def FnExactAtomsOfSaid : Prop := fnExactAtomsOfRow.holds Try.pinned (OpenSpec.ofChange fnExactAtomsOfSpec)

/-- ITS FALSE NEIGHBOUR: 'it returns false'. Refute it at one input. -/
def fnExactAtomsOfWrong : ChangeSpec := { name := "fnExactAtomsOf", fn := fun _ => fun
  | [d1, d2] => { results := [.lit (.bool false)], args := [d1, d2] }
  | _ => none }
def FnExactAtomsOfWrongFalsely : Prop := fnExactAtomsOfRow.holds Try.pinned (OpenSpec.ofChange fnExactAtomsOfWrong)

/-- 'laws.FnExactConditionOf': WHATEVER THE INPUT: true; the input reads as it did. -/
def fnExactConditionOfSpec : ChangeSpec := { name := "fnExactConditionOf", fn := fun _ => fun
  | [d1, d2] => { results := [.lit (.bool true)], args := [d1, d2] }
  | _ => none }
def fnExactConditionOfRow : OpenClaim := { program := "ytpoikhilhgijoaa", sum := "38c95a7575ad75fe3756f3bf5e77ba59601589b23cd46d6accb12c2f4de8116a", func := "loop.example/g01101/laws.FnExactConditionOf", spec := "fnExactConditionOf", unfollowed := true, recurses := true, apart := false }
def FnExactConditionOfSaid : Prop := fnExactConditionOfRow.holds Try.pinned (OpenSpec.ofChange fnExactConditionOfSpec)

/-- ITS FALSE NEIGHBOUR: 'it returns false'. Refute it at one input. -/
def fnExactConditionOfWrong : ChangeSpec := { name := "fnExactConditionOf", fn := fun _ => fun
  | [d1, d2] => { results := [.lit (.bool false)], args := [d1, d2] }
  | _ => none }
def FnExactConditionOfWrongFalsely : Prop := fnExactConditionOfRow.holds Try.pinned (OpenSpec.ofChange fnExactConditionOfWrong)

/-- 'laws.FnExactAllowedNext': WHATEVER THE INPUT: true; the input reads as it did. -/
def fnExactAllowedNextSpec : ChangeSpec := { name := "fnExactAllowedNext", fn := fun _ => fun
  | [d1, d2, d3, d4] => { results := [.lit (.bool true)], args := [d1, d2, d3, d4] }
  | _ => none }
def fnExactAllowedNextRow : OpenClaim := { program := "ytpoikhilhgijoaa", sum := "38c95a7575ad75fe3756f3bf5e77ba59601589b23cd46d6accb12c2f4de8116a", func := "loop.example/g01101/laws.FnExactAllowedNext", spec := "fnExactAllowedNext", unfollowed := true, recurses := true, loops := true, apart := false }
def FnExactAllowedNextSaid : Prop := fnExactAllowedNextRow.holds Try.pinned (OpenSpec.ofChange fnExactAllowedNextSpec)

/-- ITS FALSE NEIGHBOUR: 'it returns false'. Refute it at one input. -/
def fnExactAllowedNextWrong : ChangeSpec := { name := "fnExactAllowedNext", fn := fun _ => fun
  | [d1, d2, d3, d4] => { results := [.lit (.bool false)], args := [d1, d2, d3, d4] }
  | _ => none }
def FnExactAllowedNextWrongFalsely : Prop := fnExactAllowedNextRow.holds Try.pinned (OpenSpec.ofChange fnExactAllowedNextWrong)

/-- 'laws.FnExactPremiseExpr': WHATEVER THE INPUT: true; the input reads as it did. -/
def fnExactPremiseExprSpec : ChangeSpec := { name := "fnExactPremiseExpr", fn := fun _ => fun
  | [d1, d2] => { results := [.lit (.bool true)], args := [d1, d2] }
  | _ => none }
def fnExactPremiseExprRow : OpenClaim := { program := "ytpoikhilhgijoaa", sum := "38c95a7575ad75fe3756f3bf5e77ba59601589b23cd46d6accb12c2f4de8116a", func := "loop.example/g01101/laws.FnExactPremiseExpr", spec := "fnExactPremiseExpr", unfollowed := true, recurses := true, loops := true, apart := false }
def FnExactPremiseExprSaid : Prop := fnExactPremiseExprRow.holds Try.pinned (OpenSpec.ofChange fnExactPremiseExprSpec)

/-- ITS FALSE NEIGHBOUR: 'it returns false'. Refute it at one input. -/
def fnExactPremiseExprWrong : ChangeSpec := { name := "fnExactPremiseExpr", fn := fun _ => fun
  | [d1, d2] => { results := [.lit (.bool false)], args := [d1, d2] }
  | _ => none }
def FnExactPremiseExprWrongFalsely : Prop := fnExactPremiseExprRow.holds Try.pinned (OpenSpec.ofChange fnExactPremiseExprWrong)

/- THE SECOND FORM. 'bulk': how many values and letters a reading holds, each counted each time it is reached (what is shared counts as often as it is met; a slice's spare places count too). A statement '..UptoSaid' is the law's where the arguments, and the package variables that the reading takes, are together of bulk at most 1048576: NARROWER than '..Said'. Prove '..Said' where nothing that the law and all that it calls make is longer than what came in: it says more and counts as full. Else prove '..UptoSaid'. A law counts once. -/
mutual
def uptoBulk {H : Type} : DataW H → Nat
  | .lit (.string bytes) => bytes.length + 1
  | .lit _ => 1
  | .nil => 1
  | .ptr d => uptoBulk d + 1
  | .slice elems spare => uptoBulkAll elems + uptoBulkAll spare + 1
  | .agg parts => uptoBulkAll parts + 1
  | .iface _ d => uptoBulk d + 1
  | .map entries => uptoBulkEntries entries + 1
  | .held _ => 1
def uptoBulkAll {H : Type} : List (DataW H) → Nat
  | [] => 0
  | d :: r => uptoBulk d + uptoBulkAll r
def uptoBulkEntries {H : Type} : List (Lit × DataW H) → Nat
  | [] => 0
  | x :: r => uptoBulkEntry x + uptoBulkEntries r
def uptoBulkEntry {H : Type} : Lit × DataW H → Nat
  | (.string bytes, d) => bytes.length + uptoBulk d + 1
  | (_, d) => uptoBulk d + 1
 end
def uptoSmall : (H : Type) → List (DataW H) → Bool := fun _ ds => decide (uptoBulkAll ds ≤ 1048576)
def OpenSpec.upto (s : _root_.Go.ChangeSpec) : _root_.Go.OpenSpec := { _root_.Go.OpenSpec.ofChange s with cond := some uptoSmall }

/-- 'laws.FnExactEmptyAt', WHERE WHAT IT READS IS OF BULK AT MOST 1048576: true; the input reads as it did. -/
def fnExactEmptyAtUptoRow : OpenClaim := { program := "ytpoikhilhgijoaa", sum := "38c95a7575ad75fe3756f3bf5e77ba59601589b23cd46d6accb12c2f4de8116a", func := "loop.example/g01101/laws.FnExactEmptyAt", spec := "fnExactEmptyAt", unfollowed := true, recurses := true, loops := true, apart := false, narrowed := true }
def FnExactEmptyAtUptoSaid : Prop := fnExactEmptyAtUptoRow.holds Try.pinned (OpenSpec.upto fnExactEmptyAtSpec)

/-- 'laws.FnExactTruthAt', WHERE WHAT IT READS IS OF BULK AT MOST 1048576: true; the input reads as it did. -/
def fnExactTruthAtUptoRow : OpenClaim := { program := "ytpoikhilhgijoaa", sum := "38c95a7575ad75fe3756f3bf5e77ba59601589b23cd46d6accb12c2f4de8116a", func := "loop.example/g01101/laws.FnExactTruthAt", spec := "fnExactTruthAt", unfollowed := true, recurses := true, loops := true, apart := false, narrowed := true }
def FnExactTruthAtUptoSaid : Prop := fnExactTruthAtUptoRow.holds Try.pinned (OpenSpec.upto fnExactTruthAtSpec)

/-- 'laws.FnExactValidPremises', WHERE WHAT IT READS IS OF BULK AT MOST 1048576: true; the input reads as it did. -/
def fnExactValidPremisesUptoRow : OpenClaim := { program := "ytpoikhilhgijoaa", sum := "38c95a7575ad75fe3756f3bf5e77ba59601589b23cd46d6accb12c2f4de8116a", func := "loop.example/g01101/laws.FnExactValidPremises", spec := "fnExactValidPremises", unfollowed := true, recurses := true, loops := true, apart := false, narrowed := true }
def FnExactValidPremisesUptoSaid : Prop := fnExactValidPremisesUptoRow.holds Try.pinned (OpenSpec.upto fnExactValidPremisesSpec)

/-- 'laws.FnExactDerivationSize', WHERE WHAT IT READS IS OF BULK AT MOST 1048576: true; the input reads as it did. -/
def fnExactDerivationSizeUptoRow : OpenClaim := { program := "ytpoikhilhgijoaa", sum := "38c95a7575ad75fe3756f3bf5e77ba59601589b23cd46d6accb12c2f4de8116a", func := "loop.example/g01101/laws.FnExactDerivationSize", spec := "fnExactDerivationSize", recurses := true, loops := true, apart := false, narrowed := true }
def FnExactDerivationSizeUptoSaid : Prop := fnExactDerivationSizeUptoRow.holds Try.pinned (OpenSpec.upto fnExactDerivationSizeSpec)

/-- 'laws.FnExactImplies', WHERE WHAT IT READS IS OF BULK AT MOST 1048576: true; the input reads as it did. -/
def fnExactImpliesUptoRow : OpenClaim := { program := "ytpoikhilhgijoaa", sum := "38c95a7575ad75fe3756f3bf5e77ba59601589b23cd46d6accb12c2f4de8116a", func := "loop.example/g01101/laws.FnExactImplies", spec := "fnExactImplies", unfollowed := true, recurses := true, loops := true, apart := false, narrowed := true }
def FnExactImpliesUptoSaid : Prop := fnExactImpliesUptoRow.holds Try.pinned (OpenSpec.upto fnExactImpliesSpec)

/-- 'laws.FnExactAtomsOf', WHERE WHAT IT READS IS OF BULK AT MOST 1048576: true; the input reads as it did. -/
def fnExactAtomsOfUptoRow : OpenClaim := { program := "ytpoikhilhgijoaa", sum := "38c95a7575ad75fe3756f3bf5e77ba59601589b23cd46d6accb12c2f4de8116a", func := "loop.example/g01101/laws.FnExactAtomsOf", spec := "fnExactAtomsOf", unfollowed := true, recurses := true, loops := true, apart := false, narrowed := true }
def FnExactAtomsOfUptoSaid : Prop := fnExactAtomsOfUptoRow.holds Try.pinned (OpenSpec.upto fnExactAtomsOfSpec)

/-- 'laws.FnExactConditionOf', WHERE WHAT IT READS IS OF BULK AT MOST 1048576: true; the input reads as it did. -/
def fnExactConditionOfUptoRow : OpenClaim := { program := "ytpoikhilhgijoaa", sum := "38c95a7575ad75fe3756f3bf5e77ba59601589b23cd46d6accb12c2f4de8116a", func := "loop.example/g01101/laws.FnExactConditionOf", spec := "fnExactConditionOf", unfollowed := true, recurses := true, apart := false, narrowed := true }
def FnExactConditionOfUptoSaid : Prop := fnExactConditionOfUptoRow.holds Try.pinned (OpenSpec.upto fnExactConditionOfSpec)

/-- 'laws.FnExactAllowedNext', WHERE WHAT IT READS IS OF BULK AT MOST 1048576: true; the input reads as it did. -/
def fnExactAllowedNextUptoRow : OpenClaim := { program := "ytpoikhilhgijoaa", sum := "38c95a7575ad75fe3756f3bf5e77ba59601589b23cd46d6accb12c2f4de8116a", func := "loop.example/g01101/laws.FnExactAllowedNext", spec := "fnExactAllowedNext", unfollowed := true, recurses := true, loops := true, apart := false, narrowed := true }
def FnExactAllowedNextUptoSaid : Prop := fnExactAllowedNextUptoRow.holds Try.pinned (OpenSpec.upto fnExactAllowedNextSpec)

/-- 'laws.FnExactPremiseExpr', WHERE WHAT IT READS IS OF BULK AT MOST 1048576: true; the input reads as it did. -/
def fnExactPremiseExprUptoRow : OpenClaim := { program := "ytpoikhilhgijoaa", sum := "38c95a7575ad75fe3756f3bf5e77ba59601589b23cd46d6accb12c2f4de8116a", func := "loop.example/g01101/laws.FnExactPremiseExpr", spec := "fnExactPremiseExpr", unfollowed := true, recurses := true, loops := true, apart := false, narrowed := true }
def FnExactPremiseExprUptoSaid : Prop := fnExactPremiseExprUptoRow.holds Try.pinned (OpenSpec.upto fnExactPremiseExprSpec)

end Rows
end Go.Proofs.Ytpoikhilhgijoaa
