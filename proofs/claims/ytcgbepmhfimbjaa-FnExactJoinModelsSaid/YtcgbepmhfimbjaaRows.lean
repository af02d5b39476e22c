/-
  NARROWER THAN 'FOR EVERY INPUT', by the rows' own cells (each row's printed sentence says how): FnExactMatches: loops · FnExactSubstitute: loops · FnExactFitExpr: loops.
  DERIVED. THE GIVEN ROWS OF THIS SEAT. 7 by the template 'for every input the law returns true; each argument reads behind the call as it read before'; 0 by the template 'total and deterministic' (their statements: YtcgbepmhfimbjaaTotals.lean).
  GIVEN WITH THE SEED: the statements are not yours to turn. If you find one false, say at which input.
  Laid BY PROGRAM, IN A SANDBOX (cutbox-rows.mjs): the forced cells as the released guide's own fill.sh prints them over the translation fe84ae164c7c7525… (all of the seat's roots in one cut). By AI agents, Wed Nov 11 2026. No macro, syntax, notation, axiom, sorry.
-/
import Derived.Test.YtcgbepmhfimbjaaChecked
import GoSem.Claim
import GoSem.ClaimJoined
import GoSem.ClaimMapViews
import Derived.JoinedTies
import Derived.KernelRfl
namespace Go.Proofs.Ytcgbepmhfimbjaa
/- THE CELL 'sum', in the pinned program and in every row, IS THE sha256 OF THE DUMP (.gsa) THAT YtcgbepmhfimbjaaProg.lean LOADS. Nothing in Lean hashes anything: it is a label: what it is worth is what the hold of that sum in a sandbox is worth. -/
noncomputable def Try.pinned : Pinned := { name := "ytcgbepmhfimbjaa", sum := "fe84ae164c7c7525ab3212fc5776e8d67998aecb9807df6433e4b1fe494ab781", checked := Try.checked }
namespace Rows
def none {H : Type} : Left H := { results := [], args := [] }

/-- 'laws.FnExactJoinModels': WHATEVER THE INPUT: true; the input reads as it did. -/
def fnExactJoinModelsSpec : ChangeSpec := { name := "fnExactJoinModels", fn := fun _ => fun
  | [d1, d2] => { results := [.lit (.bool true)], args := [d1, d2] }
  | _ => none }
def fnExactJoinModelsRow : OpenClaim := { program := "ytcgbepmhfimbjaa", sum := "fe84ae164c7c7525ab3212fc5776e8d67998aecb9807df6433e4b1fe494ab781", func := "loop.example/g01101/laws.FnExactJoinModels", spec := "fnExactJoinModels", unfollowed := true, recurses := true, plainKeys := false, apart := false }
def FnExactJoinModelsSaid : Prop := fnExactJoinModelsRow.holds Try.pinned (OpenSpec.ofChange fnExactJoinModelsSpec)

/-- ITS FALSE NEIGHBOUR: 'it returns false'. Refute it at one input. -/
def fnExactJoinModelsWrong : ChangeSpec := { name := "fnExactJoinModels", fn := fun _ => fun
  | [d1, d2] => { results := [.lit (.bool false)], args := [d1, d2] }
  | _ => none }
def FnExactJoinModelsWrongFalsely : Prop := fnExactJoinModelsRow.holds Try.pinned (OpenSpec.ofChange fnExactJoinModelsWrong)

/-- 'laws.FnExactMatches': WHATEVER THE INPUT: true; the input reads as it did. -/
def fnExactMatchesSpec : ChangeSpec := { name := "fnExactMatches", fn := fun _ => fun
  | [d1, d2, d3] => { results := [.lit (.bool true)], args := [d1, d2, d3] }
  | _ => none }
def fnExactMatchesRow : OpenClaim := { program := "ytcgbepmhfimbjaa", sum := "fe84ae164c7c7525ab3212fc5776e8d67998aecb9807df6433e4b1fe494ab781", func := "loop.example/g01101/laws.FnExactMatches", spec := "fnExactMatches", unfollowed := true, recurses := true, loops := true, plainKeys := false, apart := false }
def FnExactMatchesSaid : Prop := fnExactMatchesRow.holds Try.pinned (OpenSpec.ofChange fnExactMatchesSpec)

/-- ITS FALSE NEIGHBOUR: 'it returns false'. Refute it at one input. -/
def fnExactMatchesWrong : ChangeSpec := { name := "fnExactMatches", fn := fun _ => fun
  | [d1, d2, d3] => { results := [.lit (.bool false)], args := [d1, d2, d3] }
  | _ => none }
def FnExactMatchesWrongFalsely : Prop := fnExactMatchesRow.holds Try.pinned (OpenSpec.ofChange fnExactMatchesWrong)

/-- 'laws.FnExactSubstitute': WHATEVER THE INPUT: true; the input reads as it did. -/
def fnExactSubstituteSpec : ChangeSpec := { name := "fnExactSubstitute", fn := fun _ => fun
  | [d1, d2, d3, d4] => { results := [.lit (.bool true)], args := [d1, d2, d3, d4] }
  | _ => none }
def fnExactSubstituteRow : OpenClaim := { program := "ytcgbepmhfimbjaa", sum := "fe84ae164c7c7525ab3212fc5776e8d67998aecb9807df6433e4b1fe494ab781", func := "loop.example/g01101/laws.FnExactSubstitute", spec := "fnExactSubstitute", unfollowed := true, recurses := true, loops := true, plainKeys := false, apart := false }
def FnExactSubstituteSaid : Prop := fnExactSubstituteRow.holds Try.pinned (OpenSpec.ofChange fnExactSubstituteSpec)

/-- ITS FALSE NEIGHBOUR: 'it returns false'. Refute it at one input. -/
def fnExactSubstituteWrong : ChangeSpec := { name := "fnExactSubstitute", fn := fun _ => fun
  | [d1, d2, d3, d4] => { results := [.lit (.bool false)], args := [d1, d2, d3, d4] }
  | _ => none }
def FnExactSubstituteWrongFalsely : Prop := fnExactSubstituteRow.holds Try.pinned (OpenSpec.ofChange fnExactSubstituteWrong)

/-- 'laws.FnExactFitExpr': WHATEVER THE INPUT: true; the input reads as it did. -/
def fnExactFitExprSpec : ChangeSpec := { name := "fnExactFitExpr", fn := fun _ => fun
  | [d1, d2, d3] => { results := [.lit (.bool true)], args := [d1, d2, d3] }
  | _ => none }
def fnExactFitExprRow : OpenClaim := { program := "ytcgbepmhfimbjaa", sum := "fe84ae164c7c7525ab3212fc5776e8d67998aecb9807df6433e4b1fe494ab781", func := "loop.example/g01101/laws.FnExactFitExpr", spec := "fnExactFitExpr", unfollowed := true, recurses := true, loops := true, plainKeys := false, apart := false }
def FnExactFitExprSaid : Prop := fnExactFitExprRow.holds Try.pinned (OpenSpec.ofChange fnExactFitExprSpec)

/-- ITS FALSE NEIGHBOUR: 'it returns false'. Refute it at one input. -/
def fnExactFitExprWrong : ChangeSpec := { name := "fnExactFitExpr", fn := fun _ => fun
  | [d1, d2, d3] => { results := [.lit (.bool false)], args := [d1, d2, d3] }
  | _ => none }
def FnExactFitExprWrongFalsely : Prop := fnExactFitExprRow.holds Try.pinned (OpenSpec.ofChange fnExactFitExprWrong)

/-- 'laws.FnExactMixAutomata': WHATEVER THE INPUT: true; the input reads as it did. -/
def fnExactMixAutomataSpec : ChangeSpec := { name := "fnExactMixAutomata", fn := fun _ => fun
  | [d1, d2, d3] => { results := [.lit (.bool true)], args := [d1, d2, d3] }
  | _ => none }
def fnExactMixAutomataRow : OpenClaim := { program := "ytcgbepmhfimbjaa", sum := "fe84ae164c7c7525ab3212fc5776e8d67998aecb9807df6433e4b1fe494ab781", func := "loop.example/g01101/laws.FnExactMixAutomata", spec := "fnExactMixAutomata", unfollowed := true, recurses := true, plainKeys := false, apart := false }
def FnExactMixAutomataSaid : Prop := fnExactMixAutomataRow.holds Try.pinned (OpenSpec.ofChange fnExactMixAutomataSpec)

/-- ITS FALSE NEIGHBOUR: 'it returns false'. Refute it at one input. -/
def fnExactMixAutomataWrong : ChangeSpec := { name := "fnExactMixAutomata", fn := fun _ => fun
  | [d1, d2, d3] => { results := [.lit (.bool false)], args := [d1, d2, d3] }
  | _ => none }
def FnExactMixAutomataWrongFalsely : Prop := fnExactMixAutomataRow.holds Try.pinned (OpenSpec.ofChange fnExactMixAutomataWrong)

/-- 'laws.FnExactNewArchive': WHATEVER THE INPUT: true; the input reads as it did. -/
def fnExactNewArchiveSpec : ChangeSpec := { name := "fnExactNewArchive", fn := fun _ => fun
  | [d1, d2] => { results := [.lit (.bool true)], args := [d1, d2] }
  | _ => none }
def fnExactNewArchiveRow : OpenClaim := { program := "ytcgbepmhfimbjaa", sum := "fe84ae164c7c7525ab3212fc5776e8d67998aecb9807df6433e4b1fe494ab781", func := "loop.example/g01101/laws.FnExactNewArchive", spec := "fnExactNewArchive", recurses := true, plainKeys := false, apart := false }
def FnExactNewArchiveSaid : Prop := fnExactNewArchiveRow.holds Try.pinned (OpenSpec.ofChange fnExactNewArchiveSpec)

/-- ITS FALSE NEIGHBOUR: 'it returns false'. Refute it at one input. -/
def fnExactNewArchiveWrong : ChangeSpec := { name := "fnExactNewArchive", fn := fun _ => fun
  | [d1, d2] => { results := [.lit (.bool false)], args := [d1, d2] }
  | _ => none }
def FnExactNewArchiveWrongFalsely : Prop := fnExactNewArchiveRow.holds Try.pinned (OpenSpec.ofChange fnExactNewArchiveWrong)

/-- 'laws.FnReplaced': WHATEVER THE INPUT: true; the input reads as it did. -/
def fnReplacedSpec : ChangeSpec := { name := "fnReplaced", fn := fun _ => fun
  | [d1, d2] => { results := [.lit (.bool true)], args := [d1, d2] }
  | _ => none }
def fnReplacedRow : OpenClaim := { program := "ytcgbepmhfimbjaa", sum := "fe84ae164c7c7525ab3212fc5776e8d67998aecb9807df6433e4b1fe494ab781", func := "loop.example/g01101/laws.FnReplaced", spec := "fnReplaced", unfollowed := true, recurses := true, plainKeys := false, apart := false }
def FnReplacedSaid : Prop := fnReplacedRow.holds Try.pinned (OpenSpec.ofChange fnReplacedSpec)

/-- ITS FALSE NEIGHBOUR: 'it returns false'. Refute it at one input. -/
def fnReplacedWrong : ChangeSpec := { name := "fnReplaced", fn := fun _ => fun
  | [d1, d2] => { results := [.lit (.bool false)], args := [d1, d2] }
  | _ => none }
def FnReplacedWrongFalsely : Prop := fnReplacedRow.holds Try.pinned (OpenSpec.ofChange fnReplacedWrong)

/- THE SECOND FORM. 'bulk': how many values and letters a reading holds, each counted each time it is reached (what is shared counts as often as it is met; a slice's spare places count too). A statement '..UptoSaid' is the law's where the arguments, and the package variables that the reading takes, are together of bulk at most 1048576: NARROWER than '..Said'. Prove '..Said' where nothing that the law and all that it calls make is longer than what came in: it says more and counts as full. Else prove '..UptoSaid'. A law counts once. -/
mutual
def uptoBulk {H : Type} : DataW H → Nat
  | .lit (.string bytes) => bytes.length + 1
  | .lit _ => 1
  | .nil => 1
  | .ptr d => uptoBulk d + 1
  | .slice elems spare => uptoBulkAll elems + uptoBulkAll spare + 1
  | .agg parts => uptoBulkAll parts + 1
  | .iface _ d => uptoBulk d + 1
  | .map entries => uptoBulkEntries entries + 1
  | .held _ => 1
def uptoBulkAll {H : Type} : List (DataW H) → Nat
  | [] => 0
  | d :: r => uptoBulk d + uptoBulkAll r
def uptoBulkEntries {H : Type} : List (Lit × DataW H) → Nat
  | [] => 0
  | x :: r => uptoBulkEntry x + uptoBulkEntries r
def uptoBulkEntry {H : Type} : Lit × DataW H → Nat
  | (.string bytes, d) => bytes.length + uptoBulk d + 1
  | (_, d) => uptoBulk d + 1
 end
def uptoSmall : (H : Type) → List (DataW H) → Bool := fun _ ds => decide (uptoBulkAll ds ≤ 1048576)
def OpenSpec.upto (s : _root_.Go.ChangeSpec) : _root_.Go.OpenSpec := { _root_.Go.OpenSpec.ofChange s with cond := some uptoSmall }

/-- 'laws.FnExactJoinModels', WHERE WHAT IT READS IS OF BULK AT MOST 1048576: true; the input reads as it did. -/
def fnExactJoinModelsUptoRow : OpenClaim := { program := "ytcgbepmhfimbjaa", sum := "fe84ae164c7c7525ab3212fc5776e8d67998aecb9807df6433e4b1fe494ab781", func := "loop.example/g01101/laws.FnExactJoinModels", spec := "fnExactJoinModels", unfollowed := true, recurses := true, plainKeys := false, apart := false, narrowed := true }
def FnExactJoinModelsUptoSaid : Prop := fnExactJoinModelsUptoRow.holds Try.pinned (OpenSpec.upto fnExactJoinModelsSpec)

/-- 'laws.FnExactMatches', WHERE WHAT IT READS IS OF BULK AT MOST 1048576: true; the input reads as it did. -/
def fnExactMatchesUptoRow : OpenClaim := { program := "ytcgbepmhfimbjaa", sum := "fe84ae164c7c7525ab3212fc5776e8d67998aecb9807df6433e4b1fe494ab781", func := "loop.example/g01101/laws.FnExactMatches", spec := "fnExactMatches", unfollowed := true, recurses := true, loops := true, plainKeys := false, apart := false, narrowed := true }
def FnExactMatchesUptoSaid : Prop := fnExactMatchesUptoRow.holds Try.pinned (OpenSpec.upto fnExactMatchesSpec)

/-- 'laws.FnExactSubstitute', WHERE WHAT IT READS IS OF BULK AT MOST 1048576: true; the input reads as it did. -/
def fnExactSubstituteUptoRow : OpenClaim := { program := "ytcgbepmhfimbjaa", sum := "fe84ae164c7c7525ab3212fc5776e8d67998aecb9807df6433e4b1fe494ab781", func := "loop.example/g01101/laws.FnExactSubstitute", spec := "fnExactSubstitute", unfollowed := true, recurses := true, loops := true, plainKeys := false, apart := false, narrowed := true }
def FnExactSubstituteUptoSaid : Prop := fnExactSubstituteUptoRow.holds Try.pinned (OpenSpec.upto fnExactSubstituteSpec)

/-- 'laws.FnExactFitExpr', WHERE WHAT IT READS IS OF BULK AT MOST 1048576: true; the input reads as it did. -/
def fnExactFitExprUptoRow : OpenClaim := { program := "ytcgbepmhfimbjaa", sum := "fe84ae164c7c7525ab3212fc5776e8d67998aecb9807df6433e4b1fe494ab781", func := "loop.example/g01101/laws.FnExactFitExpr", spec := "fnExactFitExpr", unfollowed := true, recurses := true, loops := true, plainKeys := false, apart := false, narrowed := true }
def FnExactFitExprUptoSaid : Prop := fnExactFitExprUptoRow.holds Try.pinned (OpenSpec.upto fnExactFitExprSpec)

/-- 'laws.FnExactMixAutomata', WHERE WHAT IT READS IS OF BULK AT MOST 1048576: true; the input reads as it did. -/
def fnExactMixAutomataUptoRow : OpenClaim := { program := "ytcgbepmhfimbjaa", sum := "fe84ae164c7c7525ab3212fc5776e8d67998aecb9807df6433e4b1fe494ab781", func := "loop.example/g01101/laws.FnExactMixAutomata", spec := "fnExactMixAutomata", unfollowed := true, recurses := true, plainKeys := false, apart := false, narrowed := true }
def FnExactMixAutomataUptoSaid : Prop := fnExactMixAutomataUptoRow.holds Try.pinned (OpenSpec.upto fnExactMixAutomataSpec)

/-- 'laws.FnExactNewArchive', WHERE WHAT IT READS IS OF BULK AT MOST 1048576: true; the input reads as it did. -/
def fnExactNewArchiveUptoRow : OpenClaim := { program := "ytcgbepmhfimbjaa", sum := "fe84ae164c7c7525ab3212fc5776e8d67998aecb9807df6433e4b1fe494ab781", func := "loop.example/g01101/laws.FnExactNewArchive", spec := "fnExactNewArchive", recurses := true, plainKeys := false, apart := false, narrowed := true }
def FnExactNewArchiveUptoSaid : Prop := fnExactNewArchiveUptoRow.holds Try.pinned (OpenSpec.upto fnExactNewArchiveSpec)

/-- 'laws.FnReplaced', WHERE WHAT IT READS IS OF BULK AT MOST 1048576: true; the input reads as it did. -/
def fnReplacedUptoRow : OpenClaim := { program := "ytcgbepmhfimbjaa", sum := "fe84ae164c7c7525ab3212fc5776e8d67998aecb9807df6433e4b1fe494ab781", func := "loop.example/g01101/laws.FnReplaced", spec := "fnReplaced", unfollowed := true, recurses := true, plainKeys := false, apart := false, narrowed := true }
def FnReplacedUptoSaid : Prop := fnReplacedUptoRow.holds Try.pinned (OpenSpec.upto fnReplacedSpec)

end Rows
end Go.Proofs.Ytcgbepmhfimbjaa
