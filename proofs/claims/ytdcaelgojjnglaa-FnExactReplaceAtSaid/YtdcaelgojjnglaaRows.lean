/-
  NARROWER THAN 'FOR EVERY INPUT', by the rows' own cells (each row's printed sentence says how): FnExactValidEquation: loops · FnExactSubtermAt: loops · FnExactReplaceAt: loops · FnExactReplaceActions: loops · FnExactSubstitute: loops · FnExactFitExpr: loops · FnExactValidProof: loops · FnExactSameProof: loops · FnExactReverseExpr: loops · FnExactValidExpr: loops.
  DERIVED. THE GIVEN ROWS OF THIS SEAT. 10 by the template 'for every input the law returns true; each argument reads behind the call as it read before'; 0 by the template 'total and deterministic' (their statements: YtdcaelgojjnglaaTotals.lean).
  GIVEN WITH THE SEED: the statements are not yours to turn. If you find one false, say at which input.
  Laid BY PROGRAM, IN A SANDBOX (cutbox-rows.mjs): the forced cells as the released guide's own fill.sh prints them over the translation 1fa7664b01fd3b9e… (all of the seat's roots in one cut). By AI agents, Wed Nov 11 2026. No macro, syntax, notation, axiom, sorry.
-/
import Derived.Test.YtdcaelgojjnglaaChecked
import GoSem.Claim
import GoSem.ClaimJoined
import GoSem.ClaimMapViews
import Derived.JoinedTies
import Derived.KernelRfl
namespace Go.Proofs.Ytdcaelgojjnglaa
/- THE CELL 'sum', in the pinned program and in every row, IS THE sha256 OF THE DUMP (.gsa) THAT YtdcaelgojjnglaaProg.lean LOADS. Nothing in Lean hashes anything: it is a label: what it is worth is what the hold of that sum in a sandbox is worth. -/
noncomputable def Try.pinned : Pinned := { name := "ytdcaelgojjnglaa", sum := "1fa7664b01fd3b9e270aaddf2debdd61279b788c25e393d7e8e86c5f2f95a02c", checked := Try.checked }
namespace Rows
def none {H : Type} : Left H := { results := [], args := [] }

/-- 'laws.FnExactValidEquation': WHATEVER THE INPUT: true; the input reads as it did. -/
def fnExactValidEquationSpec : ChangeSpec := { name := "fnExactValidEquation", fn := fun _ => fun
  | [d1, d2] => { results := [.lit (.bool true)], args := [d1, d2] }
  | _ => none }
def fnExactValidEquationRow : OpenClaim := { program := "ytdcaelgojjnglaa", sum := "1fa7664b01fd3b9e270aaddf2debdd61279b788c25e393d7e8e86c5f2f95a02c", func := "loop.example/g01101/laws.FnExactValidEquation", spec := "fnExactValidEquation", recurses := true, loops := true, apart := false }
def FnExactValidEquationSaid : Prop := fnExactValidEquationRow.holds Try.pinned (OpenSpec.ofChange fnExactValidEquationSpec)

/-- ITS FALSE NEIGHBOUR: 'it returns false'. Refute it at one input. -/
def fnExactValidEquationWrong : ChangeSpec := { name := "fnExactValidEquation", fn := fun _ => fun
  | [d1, d2] => { results := [.lit (.bool false)], args := [d1, d2] }
  | _ => none }
def FnExactValidEquationWrongFalsely : Prop := fnExactValidEquationRow.holds Try.pinned (OpenSpec.ofChange fnExactValidEquationWrong)

/-- 'laws.FnExactSubtermAt': WHATEVER THE INPUT: true; the input reads as it did. -/
def fnExactSubtermAtSpec : ChangeSpec := { name := "fnExactSubtermAt", fn := fun _ => fun
  | [d1, d2, d3] => { results := [.lit (.bool true)], args := [d1, d2, d3] }
  | _ => none }
def fnExactSubtermAtRow : OpenClaim := { program := "ytdcaelgojjnglaa", sum := "1fa7664b01fd3b9e270aaddf2debdd61279b788c25e393d7e8e86c5f2f95a02c", func := "loop.example/g01101/laws.FnExactSubtermAt", spec := "fnExactSubtermAt", unfollowed := true, recurses := true, loops := true, apart := false }
def FnExactSubtermAtSaid : Prop := fnExactSubtermAtRow.holds Try.pinned (OpenSpec.ofChange fnExactSubtermAtSpec)

/-- ITS FALSE NEIGHBOUR: 'it returns false'. Refute it at one input. -/
def fnExactSubtermAtWrong : ChangeSpec := { name := "fnExactSubtermAt", fn := fun _ => fun
  | [d1, d2, d3] => { results := [.lit (.bool false)], args := [d1, d2, d3] }
  | _ => none }
def FnExactSubtermAtWrongFalsely : Prop := fnExactSubtermAtRow.holds Try.pinned (OpenSpec.ofChange fnExactSubtermAtWrong)

/-- 'laws.FnExactReplaceAt': WHATEVER THE INPUT: true; the input reads as it did. -/
def fnExactReplaceAtSpec : ChangeSpec := { name := "fnExactReplaceAt", fn := fun _ => fun
  | [d1, d2, d3, d4] => { results := [.lit (.bool true)], args := [d1, d2, d3, d4] }
  | _ => none }
def fnExactReplaceAtRow : OpenClaim := { program := "ytdcaelgojjnglaa", sum := "1fa7664b01fd3b9e270aaddf2debdd61279b788c25e393d7e8e86c5f2f95a02c", func := "loop.example/g01101/laws.FnExactReplaceAt", spec := "fnExactReplaceAt", unfollowed := true, recurses := true, loops := true, apart := false }
def FnExactReplaceAtSaid : Prop := fnExactReplaceAtRow.holds Try.pinned (OpenSpec.ofChange fnExactReplaceAtSpec)

/-- ITS FALSE NEIGHBOUR: 'it returns false'. Refute it at one input. -/
def fnExactReplaceAtWrong : ChangeSpec := { name := "fnExactReplaceAt", fn := fun _ => fun
  | [d1, d2, d3, d4] => { results := [.lit (.bool false)], args := [d1, d2, d3, d4] }
  | _ => none }
def FnExactReplaceAtWrongFalsely : Prop := fnExactReplaceAtRow.holds Try.pinned (OpenSpec.ofChange fnExactReplaceAtWrong)

/-- 'laws.FnExactReplaceActions': WHATEVER THE INPUT: true; the input reads as it did. -/
def fnExactReplaceActionsSpec : ChangeSpec := { name := "fnExactReplaceActions", fn := fun _ => fun
  | [d1, d2, d3] => { results := [.lit (.bool true)], args := [d1, d2, d3] }
  | _ => none }
def fnExactReplaceActionsRow : OpenClaim := { program := "ytdcaelgojjnglaa", sum := "1fa7664b01fd3b9e270aaddf2debdd61279b788c25e393d7e8e86c5f2f95a02c", func := "loop.example/g01101/laws.FnExactReplaceActions", spec := "fnExactReplaceActions", unfollowed := true, recurses := true, loops := true, apart := false }
def FnExactReplaceActionsSaid : Prop := fnExactReplaceActionsRow.holds Try.pinned (OpenSpec.ofChange fnExactReplaceActionsSpec)

/-- ITS FALSE NEIGHBOUR: 'it returns false'. Refute it at one input. -/
def fnExactReplaceActionsWrong : ChangeSpec := { name := "fnExactReplaceActions", fn := fun _ => fun
  | [d1, d2, d3] => { results := [.lit (.bool false)], args := [d1, d2, d3] }
  | _ => none }
def FnExactReplaceActionsWrongFalsely : Prop := fnExactReplaceActionsRow.holds Try.pinned (OpenSpec.ofChange fnExactReplaceActionsWrong)

/-- 'laws.FnExactSubstitute': WHATEVER THE INPUT: true; the input reads as it did. -/
def fnExactSubstituteSpec : ChangeSpec := { name := "fnExactSubstitute", fn := fun _ => fun
  | [d1, d2, d3, d4] => { results := [.lit (.bool true)], args := [d1, d2, d3, d4] }
  | _ => none }
def fnExactSubstituteRow : OpenClaim := { program := "ytdcaelgojjnglaa", sum := "1fa7664b01fd3b9e270aaddf2debdd61279b788c25e393d7e8e86c5f2f95a02c", func := "loop.example/g01101/laws.FnExactSubstitute", spec := "fnExactSubstitute", unfollowed := true, recurses := true, loops := true, apart := false }
def FnExactSubstituteSaid : Prop := fnExactSubstituteRow.holds Try.pinned (OpenSpec.ofChange fnExactSubstituteSpec)

/-- ITS FALSE NEIGHBOUR: 'it returns false'. Refute it at one input. -/
def fnExactSubstituteWrong : ChangeSpec := { name := "fnExactSubstitute", fn := fun _ => fun
  | [d1, d2, d3, d4] => { results := [.lit (.bool false)], args := [d1, d2, d3, d4] }
  | _ => none }
def FnExactSubstituteWrongFalsely : Prop := fnExactSubstituteRow.holds Try.pinned (OpenSpec.ofChange fnExactSubstituteWrong)

/-- 'laws.FnExactFitExpr': WHATEVER THE INPUT: true; the input reads as it did. -/
def fnExactFitExprSpec : ChangeSpec := { name := "fnExactFitExpr", fn := fun _ => fun
  | [d1, d2, d3] => { results := [.lit (.bool true)], args := [d1, d2, d3] }
  | _ => none }
def fnExactFitExprRow : OpenClaim := { program := "ytdcaelgojjnglaa", sum := "1fa7664b01fd3b9e270aaddf2debdd61279b788c25e393d7e8e86c5f2f95a02c", func := "loop.example/g01101/laws.FnExactFitExpr", spec := "fnExactFitExpr", unfollowed := true, recurses := true, loops := true, apart := false }
def FnExactFitExprSaid : Prop := fnExactFitExprRow.holds Try.pinned (OpenSpec.ofChange fnExactFitExprSpec)

/-- ITS FALSE NEIGHBOUR: 'it returns false'. Refute it at one input. -/
def fnExactFitExprWrong : ChangeSpec := { name := "fnExactFitExpr", fn := fun _ => fun
  | [d1, d2, d3] => { results := [.lit (.bool false)], args := [d1, d2, d3] }
  | _ => none }
def FnExactFitExprWrongFalsely : Prop := fnExactFitExprRow.holds Try.pinned (OpenSpec.ofChange fnExactFitExprWrong)

/-- 'laws.FnExactValidProof': WHATEVER THE INPUT: true; the input reads as it did. -/
def fnExactValidProofSpec : ChangeSpec := { name := "fnExactValidProof", fn := fun _ => fun
  | [d] => { results := [.lit (.bool true)], args := [d] }
  | _ => none }
def fnExactValidProofRow : OpenClaim := { program := "ytdcaelgojjnglaa", sum := "1fa7664b01fd3b9e270aaddf2debdd61279b788c25e393d7e8e86c5f2f95a02c", func := "loop.example/g01101/laws.FnExactValidProof", spec := "fnExactValidProof", unfollowed := true, recurses := true, loops := true, apart := false }
def FnExactValidProofSaid : Prop := fnExactValidProofRow.holds Try.pinned (OpenSpec.ofChange fnExactValidProofSpec)

/-- ITS FALSE NEIGHBOUR: 'it returns false'. Refute it at one input. -/
def fnExactValidProofWrong : ChangeSpec := { name := "fnExactValidProof", fn := fun _ => fun
  | [d] => { results := [.lit (.bool false)], args := [d] }
  | _ => none }
def FnExactValidProofWrongFalsely : Prop := fnExactValidProofRow.holds Try.pinned (OpenSpec.ofChange fnExactValidProofWrong)

/-- 'laws.FnExactSameProof': WHATEVER THE INPUT: true; the input reads as it did. -/
def fnExactSameProofSpec : ChangeSpec := { name := "fnExactSameProof", fn := fun _ => fun
  | [d1, d2] => { results := [.lit (.bool true)], args := [d1, d2] }
  | _ => none }
def fnExactSameProofRow : OpenClaim := { program := "ytdcaelgojjnglaa", sum := "1fa7664b01fd3b9e270aaddf2debdd61279b788c25e393d7e8e86c5f2f95a02c", func := "loop.example/g01101/laws.FnExactSameProof", spec := "fnExactSameProof", unfollowed := true, recurses := true, loops := true, apart := false }
def FnExactSameProofSaid : Prop := fnExactSameProofRow.holds Try.pinned (OpenSpec.ofChange fnExactSameProofSpec)

/-- ITS FALSE NEIGHBOUR: 'it returns false'. Refute it at one input. -/
def fnExactSameProofWrong : ChangeSpec := { name := "fnExactSameProof", fn := fun _ => fun
  | [d1, d2] => { results := [.lit (.bool false)], args := [d1, d2] }
  | _ => none }
def FnExactSameProofWrongFalsely : Prop := fnExactSameProofRow.holds Try.pinned (OpenSpec.ofChange fnExactSameProofWrong)

/-- 'laws.FnExactReverseExpr': WHATEVER THE INPUT: true; the input reads as it did. -/
def fnExactReverseExprSpec : ChangeSpec := { name := "fnExactReverseExpr", fn := fun _ => fun
  | [d1, d2] => { results := [.lit (.bool true)], args := [d1, d2] }
  | _ => none }
def fnExactReverseExprRow : OpenClaim := { program := "ytdcaelgojjnglaa", sum := "1fa7664b01fd3b9e270aaddf2debdd61279b788c25e393d7e8e86c5f2f95a02c", func := "loop.example/g01101/laws.FnExactReverseExpr", spec := "fnExactReverseExpr", unfollowed := true, recurses := true, loops := true, apart := false }
def FnExactReverseExprSaid : Prop := fnExactReverseExprRow.holds Try.pinned (OpenSpec.ofChange fnExactReverseExprSpec)

/-- ITS FALSE NEIGHBOUR: 'it returns false'. Refute it at one input. -/
def fnExactReverseExprWrong : ChangeSpec := { name := "fnExactReverseExpr", fn := fun _ => fun
  | [d1, d2] => { results := [.lit (.bool false)], args := [d1, d2] }
  | _ => none }
def FnExactReverseExprWrongFalsely : Prop := fnExactReverseExprRow.holds Try.pinned (OpenSpec.ofChange fnExactReverseExprWrong)

/-- 'laws.FnExactValidExpr': WHATEVER THE INPUT: true; the input reads as it did. -/
def fnExactValidExprSpec : ChangeSpec := { name := "fnExactValidExpr", fn := fun _ => fun
  | [d1, d2] => { results := [.lit (.bool true)], args := [d1, d2] }
  | _ => none }
def fnExactValidExprRow : OpenClaim := { program := "ytdcaelgojjnglaa", sum := "1fa7664b01fd3b9e270aaddf2debdd61279b788c25e393d7e8e86c5f2f95a02c", func := "loop.example/g01101/laws.FnExactValidExpr", spec := "fnExactValidExpr", recurses := true, loops := true, apart := false }
def FnExactValidExprSaid : Prop := fnExactValidExprRow.holds Try.pinned (OpenSpec.ofChange fnExactValidExprSpec)

/-- ITS FALSE NEIGHBOUR: 'it returns false'. Refute it at one input. -/
def fnExactValidExprWrong : ChangeSpec := { name := "fnExactValidExpr", fn := fun _ => fun
  | [d1, d2] => { results := [.lit (.bool false)], args := [d1, d2] }
  | _ => none }
def FnExactValidExprWrongFalsely : Prop := fnExactValidExprRow.holds Try.pinned (OpenSpec.ofChange fnExactValidExprWrong)

/- THE SECOND FORM. 'bulk': how many values and letters a reading holds, each counted each time it is reached (what is shared counts as often as it is met; a slice's spare places count too). A statement '..UptoSaid' is the law's where the arguments, and the package variables that the reading takes, are together of bulk at most 1048576: NARROWER than '..Said'. Prove '..Said' where nothing that the law and all that it calls make is longer than what came in: it says more and counts as full. Else prove '..UptoSaid'. A law counts once. -/
mutual
def uptoBulk {H : Type} : DataW H → Nat
  | .lit (.string bytes) => bytes.length + 1
  | .lit _ => 1
  | .nil => 1
  | .ptr d => uptoBulk d + 1
  | .slice elems spare => uptoBulkAll elems + uptoBulkAll spare + 1
  | .agg parts => uptoBulkAll parts + 1
  | .iface _ d => uptoBulk d + 1
  | .map entries => uptoBulkEntries entries + 1
  | .held _ => 1
def uptoBulkAll {H : Type} : List (DataW H) → Nat
  | [] => 0
  | d :: r => uptoBulk d + uptoBulkAll r
def uptoBulkEntries {H : Type} : List (Lit × DataW H) → Nat
  | [] => 0
  | x :: r => uptoBulkEntry x + uptoBulkEntries r
def uptoBulkEntry {H : Type} : Lit × DataW H → Nat
  | (.string bytes, d) => bytes.length + uptoBulk d + 1
  | (_, d) => uptoBulk d + 1
 end
def uptoSmall : (H : Type) → List (DataW H) → Bool := fun _ ds => decide (uptoBulkAll ds ≤ 1048576)
def OpenSpec.upto (s : _root_.Go.ChangeSpec) : _root_.Go.OpenSpec := { _root_.Go.OpenSpec.ofChange s with cond := some uptoSmall }

/-- 'laws.FnExactValidEquation', WHERE WHAT IT READS IS OF BULK AT MOST 1048576: true; the input reads as it did. -/
def fnExactValidEquationUptoRow : OpenClaim := { program := "ytdcaelgojjnglaa", sum := "1fa7664b01fd3b9e270aaddf2debdd61279b788c25e393d7e8e86c5f2f95a02c", func := "loop.example/g01101/laws.FnExactValidEquation", spec := "fnExactValidEquation", recurses := true, loops := true, apart := false, narrowed := true }
def FnExactValidEquationUptoSaid : Prop := fnExactValidEquationUptoRow.holds Try.pinned (OpenSpec.upto fnExactValidEquationSpec)

/-- 'laws.FnExactSubtermAt', WHERE WHAT IT READS IS OF BULK AT MOST 1048576: true; the input reads as it did. -/
def fnExactSubtermAtUptoRow : OpenClaim := { program := "ytdcaelgojjnglaa", sum := "1fa7664b01fd3b9e270aaddf2debdd61279b788c25e393d7e8e86c5f2f95a02c", func := "loop.example/g01101/laws.FnExactSubtermAt", spec := "fnExactSubtermAt", unfollowed := true, recurses := true, loops := true, apart := false, narrowed := true }
def FnExactSubtermAtUptoSaid : Prop := fnExactSubtermAtUptoRow.holds Try.pinned (OpenSpec.upto fnExactSubtermAtSpec)

/-- 'laws.FnExactReplaceAt', WHERE WHAT IT READS IS OF BULK AT MOST 1048576: true; the input reads as it did. -/
def fnExactReplaceAtUptoRow : OpenClaim := { program := "ytdcaelgojjnglaa", sum := "1fa7664b01fd3b9e270aaddf2debdd61279b788c25e393d7e8e86c5f2f95a02c", func := "loop.example/g01101/laws.FnExactReplaceAt", spec := "fnExactReplaceAt", unfollowed := true, recurses := true, loops := true, apart := false, narrowed := true }
def FnExactReplaceAtUptoSaid : Prop := fnExactReplaceAtUptoRow.holds Try.pinned (OpenSpec.upto fnExactReplaceAtSpec)

/-- 'laws.FnExactReplaceActions', WHERE WHAT IT READS IS OF BULK AT MOST 1048576: true; the input reads as it did. -/
def fnExactReplaceActionsUptoRow : OpenClaim := { program := "ytdcaelgojjnglaa", sum := "1fa7664b01fd3b9e270aaddf2debdd61279b788c25e393d7e8e86c5f2f95a02c", func := "loop.example/g01101/laws.FnExactReplaceActions", spec := "fnExactReplaceActions", unfollowed := true, recurses := true, loops := true, apart := false, narrowed := true }
def FnExactReplaceActionsUptoSaid : Prop := fnExactReplaceActionsUptoRow.holds Try.pinned (OpenSpec.upto fnExactReplaceActionsSpec)

/-- 'laws.FnExactSubstitute', WHERE WHAT IT READS IS OF BULK AT MOST 1048576: true; the input reads as it did. -/
def fnExactSubstituteUptoRow : OpenClaim := { program := "ytdcaelgojjnglaa", sum := "1fa7664b01fd3b9e270aaddf2debdd61279b788c25e393d7e8e86c5f2f95a02c", func := "loop.example/g01101/laws.FnExactSubstitute", spec := "fnExactSubstitute", unfollowed := true, recurses := true, loops := true, apart := false, narrowed := true }
def FnExactSubstituteUptoSaid : Prop := fnExactSubstituteUptoRow.holds Try.pinned (OpenSpec.upto fnExactSubstituteSpec)

/-- 'laws.FnExactFitExpr', WHERE WHAT IT READS IS OF BULK AT MOST 1048576: true; the input reads as it did. -/
def fnExactFitExprUptoRow : OpenClaim := { program := "ytdcaelgojjnglaa", sum := "1fa7664b01fd3b9e270aaddf2debdd61279b788c25e393d7e8e86c5f2f95a02c", func := "loop.example/g01101/laws.FnExactFitExpr", spec := "fnExactFitExpr", unfollowed := true, recurses := true, loops := true, apart := false, narrowed := true }
def FnExactFitExprUptoSaid : Prop := fnExactFitExprUptoRow.holds Try.pinned (OpenSpec.upto fnExactFitExprSpec)

/-- 'laws.FnExactValidProof', WHERE WHAT IT READS IS OF BULK AT MOST 1048576: true; the input reads as it did. -/
def fnExactValidProofUptoRow : OpenClaim := { program := "ytdcaelgojjnglaa", sum := "1fa7664b01fd3b9e270aaddf2debdd61279b788c25e393d7e8e86c5f2f95a02c", func := "loop.example/g01101/laws.FnExactValidProof", spec := "fnExactValidProof", unfollowed := true, recurses := true, loops := true, apart := false, narrowed := true }
def FnExactValidProofUptoSaid : Prop := fnExactValidProofUptoRow.holds Try.pinned (OpenSpec.upto fnExactValidProofSpec)

/-- 'laws.FnExactSameProof', WHERE WHAT IT READS IS OF BULK AT MOST 1048576: true; the input reads as it did. -/
def fnExactSameProofUptoRow : OpenClaim := { program := "ytdcaelgojjnglaa", sum := "1fa7664b01fd3b9e270aaddf2debdd61279b788c25e393d7e8e86c5f2f95a02c", func := "loop.example/g01101/laws.FnExactSameProof", spec := "fnExactSameProof", unfollowed := true, recurses := true, loops := true, apart := false, narrowed := true }
def FnExactSameProofUptoSaid : Prop := fnExactSameProofUptoRow.holds Try.pinned (OpenSpec.upto fnExactSameProofSpec)

/-- 'laws.FnExactReverseExpr', WHERE WHAT IT READS IS OF BULK AT MOST 1048576: true; the input reads as it did. -/
def fnExactReverseExprUptoRow : OpenClaim := { program := "ytdcaelgojjnglaa", sum := "1fa7664b01fd3b9e270aaddf2debdd61279b788c25e393d7e8e86c5f2f95a02c", func := "loop.example/g01101/laws.FnExactReverseExpr", spec := "fnExactReverseExpr", unfollowed := true, recurses := true, loops := true, apart := false, narrowed := true }
def FnExactReverseExprUptoSaid : Prop := fnExactReverseExprUptoRow.holds Try.pinned (OpenSpec.upto fnExactReverseExprSpec)

/-- 'laws.FnExactValidExpr', WHERE WHAT IT READS IS OF BULK AT MOST 1048576: true; the input reads as it did. -/
def fnExactValidExprUptoRow : OpenClaim := { program := "ytdcaelgojjnglaa", sum := "1fa7664b01fd3b9e270aaddf2debdd61279b788c25e393d7e8e86c5f2f95a02c", func := "loop.example/g01101/laws.FnExactValidExpr", spec := "fnExactValidExpr", recurses := true, loops := true, apart := false, narrowed := true }
def FnExactValidExprUptoSaid : Prop := fnExactValidExprUptoRow.holds Try.pinned (OpenSpec.upto fnExactValidExprSpec)

end Rows
end Go.Proofs.Ytdcaelgojjnglaa
