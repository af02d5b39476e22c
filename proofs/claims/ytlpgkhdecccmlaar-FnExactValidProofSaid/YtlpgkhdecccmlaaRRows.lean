/-
  NARROWER THAN 'FOR EVERY INPUT', by the rows' own cells (each row's printed sentence says how): FnExactAtomsOf: loops · FnExactSameProof: loops · FnExactValidProof: loops · FnExactDerivationSize: loops · FnExactAllowedNext: loops · FnExactPremiseExpr: loops.
  DERIVED. THE GIVEN ROWS OF THIS SEAT. 9 by the template 'for every input the law returns true; each argument reads behind the call as it read before'; 0 by the template 'total and deterministic' (their statements: YtlpgkhdecccmlaaRTotals.lean).
  GIVEN WITH THE SEED: the statements are not yours to turn. If you find one false, say at which input.
  Laid BY PROGRAM, IN A SANDBOX (cutbox-rows.mjs): the forced cells as the released guide's own fill.sh prints them over the translation bbf64c6986b97c45… (all of the seat's roots in one cut). By AI agents, Wed Nov 11 2026. No macro, syntax, notation, axiom, sorry.
-/
import Derived.Test.YtlpgkhdecccmlaaRChecked
import GoSem.Claim
import GoSem.ClaimJoined
import GoSem.ClaimMapViews
import Derived.JoinedTies
import Derived.KernelRfl
namespace Go.Proofs.YtlpgkhdecccmlaaR
/- THE CELL 'sum', in the pinned program and in every row, IS THE sha256 OF THE DUMP (.gsa) THAT YtlpgkhdecccmlaaRProg.lean LOADS. Nothing in Lean hashes anything: it is a label: what it is worth is what the hold of that sum in a sandbox is worth. -/
noncomputable def Try.pinned : Pinned := { name := "ytlpgkhdecccmlaar", sum := "bbf64c6986b97c459b54555b8ddddcb3346457be8674d36f07fdaa02d3576b13", checked := Try.checked }
namespace Rows
def none {H : Type} : Left H := { results := [], args := [] }

/-- 'laws.FnExactAtomsOf': WHATEVER THE INPUT: true; the input reads as it did. -/
def fnExactAtomsOfSpec : ChangeSpec := { name := "fnExactAtomsOf", fn := fun _ => fun
  | [d1, d2] => { results := [.lit (.bool true)], args := [d1, d2] }
  | _ => none }
def fnExactAtomsOfRow : OpenClaim := { program := "ytlpgkhdecccmlaar", sum := "bbf64c6986b97c459b54555b8ddddcb3346457be8674d36f07fdaa02d3576b13", func := "loop.example/g01101/laws.FnExactAtomsOf", spec := "fnExactAtomsOf", unfollowed := true, recurses := true, loops := true, apart := false }
def FnExactAtomsOfSaid : Prop := fnExactAtomsOfRow.holds Try.pinned (OpenSpec.ofChange fnExactAtomsOfSpec)

/-- ITS FALSE NEIGHBOUR: 'it returns false'. Refute it at one input. -/
def fnExactAtomsOfWrong : ChangeSpec := { name := "fnExactAtomsOf", fn := fun _ => fun
  | [d1, d2] => { results := [.lit (.bool false)], args := [d1, d2] }
  | _ => none }
def FnExactAtomsOfWrongFalsely : Prop := fnExactAtomsOfRow.holds Try.pinned (OpenSpec.ofChange fnExactAtomsOfWrong)

/-- 'laws.FnExactConditionOf': WHATEVER THE INPUT: true; the input reads as it did. -/
def fnExactConditionOfSpec : ChangeSpec := { name := "fnExactConditionOf", fn := fun _ => fun
  | [d1, d2] => { results := [.lit (.bool true)], args := [d1, d2] }
  | _ => none }
def fnExactConditionOfRow : OpenClaim := { program := "ytlpgkhdecccmlaar", sum := "bbf64c6986b97c459b54555b8ddddcb3346457be8674d36f07fdaa02d3576b13", func := "loop.example/g01101/laws.FnExactConditionOf", spec := "fnExactConditionOf", unfollowed := true, recurses := true, apart := false }
def FnExactConditionOfSaid : Prop := fnExactConditionOfRow.holds Try.pinned (OpenSpec.ofChange fnExactConditionOfSpec)

/-- ITS FALSE NEIGHBOUR: 'it returns false'. Refute it at one input. -/
def fnExactConditionOfWrong : ChangeSpec := { name := "fnExactConditionOf", fn := fun _ => fun
  | [d1, d2] => { results := [.lit (.bool false)], args := [d1, d2] }
  | _ => none }
def FnExactConditionOfWrongFalsely : Prop := fnExactConditionOfRow.holds Try.pinned (OpenSpec.ofChange fnExactConditionOfWrong)

/-- 'laws.FnExactCountVotes': WHATEVER THE INPUT: true; the input reads as it did. -/
def fnExactCountVotesSpec : ChangeSpec := { name := "fnExactCountVotes", fn := fun _ => fun
  | [d] => { results := [.lit (.bool true)], args := [d] }
  | _ => none }
def fnExactCountVotesRow : OpenClaim := { program := "ytlpgkhdecccmlaar", sum := "bbf64c6986b97c459b54555b8ddddcb3346457be8674d36f07fdaa02d3576b13", func := "loop.example/g01101/laws.FnExactCountVotes", spec := "fnExactCountVotes", apart := false }
def FnExactCountVotesSaid : Prop := fnExactCountVotesRow.holds Try.pinned (OpenSpec.ofChange fnExactCountVotesSpec)

/-- ITS FALSE NEIGHBOUR: 'it returns false'. Refute it at one input. -/
def fnExactCountVotesWrong : ChangeSpec := { name := "fnExactCountVotes", fn := fun _ => fun
  | [d] => { results := [.lit (.bool false)], args := [d] }
  | _ => none }
def FnExactCountVotesWrongFalsely : Prop := fnExactCountVotesRow.holds Try.pinned (OpenSpec.ofChange fnExactCountVotesWrong)

/-- 'laws.FnExactNewArchive': WHATEVER THE INPUT: true; the input reads as it did. -/
def fnExactNewArchiveSpec : ChangeSpec := { name := "fnExactNewArchive", fn := fun _ => fun
  | [d1, d2] => { results := [.lit (.bool true)], args := [d1, d2] }
  | _ => none }
def fnExactNewArchiveRow : OpenClaim := { program := "ytlpgkhdecccmlaar", sum := "bbf64c6986b97c459b54555b8ddddcb3346457be8674d36f07fdaa02d3576b13", func := "loop.example/g01101/laws.FnExactNewArchive", spec := "fnExactNewArchive", recurses := true, apart := false }
def FnExactNewArchiveSaid : Prop := fnExactNewArchiveRow.holds Try.pinned (OpenSpec.ofChange fnExactNewArchiveSpec)

/-- ITS FALSE NEIGHBOUR: 'it returns false'. Refute it at one input. -/
def fnExactNewArchiveWrong : ChangeSpec := { name := "fnExactNewArchive", fn := fun _ => fun
  | [d1, d2] => { results := [.lit (.bool false)], args := [d1, d2] }
  | _ => none }
def FnExactNewArchiveWrongFalsely : Prop := fnExactNewArchiveRow.holds Try.pinned (OpenSpec.ofChange fnExactNewArchiveWrong)

/-- 'laws.FnExactSameProof': WHATEVER THE INPUT: true; the input reads as it did. -/
def fnExactSameProofSpec : ChangeSpec := { name := "fnExactSameProof", fn := fun _ => fun
  | [d1, d2] => { results := [.lit (.bool true)], args := [d1, d2] }
  | _ => none }
def fnExactSameProofRow : OpenClaim := { program := "ytlpgkhdecccmlaar", sum := "bbf64c6986b97c459b54555b8ddddcb3346457be8674d36f07fdaa02d3576b13", func := "loop.example/g01101/laws.FnExactSameProof", spec := "fnExactSameProof", unfollowed := true, recurses := true, loops := true, apart := false }
def FnExactSameProofSaid : Prop := fnExactSameProofRow.holds Try.pinned (OpenSpec.ofChange fnExactSameProofSpec)

/-- ITS FALSE NEIGHBOUR: 'it returns false'. Refute it at one input. -/
def fnExactSameProofWrong : ChangeSpec := { name := "fnExactSameProof", fn := fun _ => fun
  | [d1, d2] => { results := [.lit (.bool false)], args := [d1, d2] }
  | _ => none }
def FnExactSameProofWrongFalsely : Prop := fnExactSameProofRow.holds Try.pinned (OpenSpec.ofChange fnExactSameProofWrong)

/-- 'laws.FnExactValidProof': WHATEVER THE INPUT: true; the input reads as it did. -/
def fnExactValidProofSpec : ChangeSpec := { name := "fnExactValidProof", fn := fun _ => fun
  | [d] => { results := [.lit (.bool true)], args := [d] }
  | _ => none }
def fnExactValidProofRow : OpenClaim := { program := "ytlpgkhdecccmlaar", sum := "bbf64c6986b97c459b54555b8ddddcb3346457be8674d36f07fdaa02d3576b13", func := "loop.example/g01101/laws.FnExactValidProof", spec := "fnExactValidProof", unfollowed := true, recurses := true, loops := true, apart := false }
def FnExactValidProofSaid : Prop := fnExactValidProofRow.holds Try.pinned (OpenSpec.ofChange fnExactValidProofSpec)

/-- ITS FALSE NEIGHBOUR: 'it returns false'. Refute it at one input. -/
def fnExactValidProofWrong : ChangeSpec := { name := "fnExactValidProof", fn := fun _ => fun
  | [d] => { results := [.lit (.bool false)], args := [d] }
  | _ => none }
def FnExactValidProofWrongFalsely : Prop := fnExactValidProofRow.holds Try.pinned (OpenSpec.ofChange fnExactValidProofWrong)

/-- 'laws.FnExactDerivationSize': WHATEVER THE INPUT: true; the input reads as it did. -/
def fnExactDerivationSizeSpec : ChangeSpec := { name := "fnExactDerivationSize", fn := fun _ => fun
  | [d] => { results := [.lit (.bool true)], args := [d] }
  | _ => none }
def fnExactDerivationSizeRow : OpenClaim := { program := "ytlpgkhdecccmlaar", sum := "bbf64c6986b97c459b54555b8ddddcb3346457be8674d36f07fdaa02d3576b13", func := "loop.example/g01101/laws.FnExactDerivationSize", spec := "fnExactDerivationSize", recurses := true, loops := true, apart := false }
def FnExactDerivationSizeSaid : Prop := fnExactDerivationSizeRow.holds Try.pinned (OpenSpec.ofChange fnExactDerivationSizeSpec)

/-- ITS FALSE NEIGHBOUR: 'it returns false'. Refute it at one input. -/
def fnExactDerivationSizeWrong : ChangeSpec := { name := "fnExactDerivationSize", fn := fun _ => fun
  | [d] => { results := [.lit (.bool false)], args := [d] }
  | _ => none }
def FnExactDerivationSizeWrongFalsely : Prop := fnExactDerivationSizeRow.holds Try.pinned (OpenSpec.ofChange fnExactDerivationSizeWrong)

/-- 'laws.FnExactAllowedNext': WHATEVER THE INPUT: true; the input reads as it did. -/
def fnExactAllowedNextSpec : ChangeSpec := { name := "fnExactAllowedNext", fn := fun _ => fun
  | [d1, d2, d3, d4] => { results := [.lit (.bool true)], args := [d1, d2, d3, d4] }
  | _ => none }
def fnExactAllowedNextRow : OpenClaim := { program := "ytlpgkhdecccmlaar", sum := "bbf64c6986b97c459b54555b8ddddcb3346457be8674d36f07fdaa02d3576b13", func := "loop.example/g01101/laws.FnExactAllowedNext", spec := "fnExactAllowedNext", unfollowed := true, recurses := true, loops := true, apart := false }
def FnExactAllowedNextSaid : Prop := fnExactAllowedNextRow.holds Try.pinned (OpenSpec.ofChange fnExactAllowedNextSpec)

/-- ITS FALSE NEIGHBOUR: 'it returns false'. Refute it at one input. -/
def fnExactAllowedNextWrong : ChangeSpec := { name := "fnExactAllowedNext", fn := fun _ => fun
  | [d1, d2, d3, d4] => { results := [.lit (.bool false)], args := [d1, d2, d3, d4] }
  | _ => none }
def FnExactAllowedNextWrongFalsely : Prop := fnExactAllowedNextRow.holds Try.pinned (OpenSpec.ofChange fnExactAllowedNextWrong)

/-- 'laws.FnExactPremiseExpr': WHATEVER THE INPUT: true; the input reads as it did. -/
def fnExactPremiseExprSpec : ChangeSpec := { name := "fnExactPremiseExpr", fn := fun _ => fun
  | [d1, d2] => { results := [.lit (.bool true)], args := [d1, d2] }
  | _ => none }
def fnExactPremiseExprRow : OpenClaim := { program := "ytlpgkhdecccmlaar", sum := "bbf64c6986b97c459b54555b8ddddcb3346457be8674d36f07fdaa02d3576b13", func := "loop.example/g01101/laws.FnExactPremiseExpr", spec := "fnExactPremiseExpr", unfollowed := true, recurses := true, loops := true, apart := false }
def FnExactPremiseExprSaid : Prop := fnExactPremiseExprRow.holds Try.pinned (OpenSpec.ofChange fnExactPremiseExprSpec)

/-- ITS FALSE NEIGHBOUR: 'it returns false'. Refute it at one input. -/
def fnExactPremiseExprWrong : ChangeSpec := { name := "fnExactPremiseExpr", fn := fun _ => fun
  | [d1, d2] => { results := [.lit (.bool false)], args := [d1, d2] }
  | _ => none }
def FnExactPremiseExprWrongFalsely : Prop := fnExactPremiseExprRow.holds Try.pinned (OpenSpec.ofChange fnExactPremiseExprWrong)

/- THE SECOND FORM. 'bulk': how many values and letters a reading holds, each counted each time it is reached (what is shared counts as often as it is met; a slice's spare places count too). A statement '..UptoSaid' is the law's where the arguments, and the package variables that the reading takes, are together of bulk at most 1048576: NARROWER than '..Said'. Prove '..Said' where nothing that the law and all that it calls make is longer than what came in: it says more and counts as full. Else prove '..UptoSaid'. A law counts once. -/
mutual
def uptoBulk {H : Type} : DataW H → Nat
  | .lit (.string bytes) => bytes.length + 1
  | .lit _ => 1
  | .nil => 1
  | .ptr d => uptoBulk d + 1
  | .slice elems spare => uptoBulkAll elems + uptoBulkAll spare + 1
  | .agg parts => uptoBulkAll parts + 1
  | .iface _ d => uptoBulk d + 1
  | .map entries => uptoBulkEntries entries + 1
  | .held _ => 1
def uptoBulkAll {H : Type} : List (DataW H) → Nat
  | [] => 0
  | d :: r => uptoBulk d + uptoBulkAll r
def uptoBulkEntries {H : Type} : List (Lit × DataW H) → Nat
  | [] => 0
  | x :: r => uptoBulkEntry x + uptoBulkEntries r
def uptoBulkEntry {H : Type} : Lit × DataW H → Nat
  | (.string bytes, d) => bytes.length + uptoBulk d + 1
  | (_, d) => uptoBulk d + 1
 end
def uptoSmall : (H : Type) → List (DataW H) → Bool := fun _ ds => decide (uptoBulkAll ds ≤ 1048576)
def OpenSpec.upto (s : _root_.Go.ChangeSpec) : _root_.Go.OpenSpec := { _root_.Go.OpenSpec.ofChange s with cond := some uptoSmall }

/-- 'laws.FnExactAtomsOf', WHERE WHAT IT READS IS OF BULK AT MOST 1048576: true; the input reads as it did. -/
def fnExactAtomsOfUptoRow : OpenClaim := { program := "ytlpgkhdecccmlaar", sum := "bbf64c6986b97c459b54555b8ddddcb3346457be8674d36f07fdaa02d3576b13", func := "loop.example/g01101/laws.FnExactAtomsOf", spec := "fnExactAtomsOf", unfollowed := true, recurses := true, loops := true, apart := false, narrowed := true }
def FnExactAtomsOfUptoSaid : Prop := fnExactAtomsOfUptoRow.holds Try.pinned (OpenSpec.upto fnExactAtomsOfSpec)

/-- 'laws.FnExactConditionOf', WHERE WHAT IT READS IS OF BULK AT MOST 1048576: true; the input reads as it did. -/
def fnExactConditionOfUptoRow : OpenClaim := { program := "ytlpgkhdecccmlaar", sum := "bbf64c6986b97c459b54555b8ddddcb3346457be8674d36f07fdaa02d3576b13", func := "loop.example/g01101/laws.FnExactConditionOf", spec := "fnExactConditionOf", unfollowed := true, recurses := true, apart := false, narrowed := true }
def FnExactConditionOfUptoSaid : Prop := fnExactConditionOfUptoRow.holds Try.pinned (OpenSpec.upto fnExactConditionOfSpec)

/-- 'laws.FnExactCountVotes', WHERE WHAT IT READS IS OF BULK AT MOST 1048576: true; the input reads as it did. -/
def fnExactCountVotesUptoRow : OpenClaim := { program := "ytlpgkhdecccmlaar", sum := "bbf64c6986b97c459b54555b8ddddcb3346457be8674d36f07fdaa02d3576b13", func := "loop.example/g01101/laws.FnExactCountVotes", spec := "fnExactCountVotes", apart := false, narrowed := true }
def FnExactCountVotesUptoSaid : Prop := fnExactCountVotesUptoRow.holds Try.pinned (OpenSpec.upto fnExactCountVotesSpec)

/-- 'laws.FnExactNewArchive', WHERE WHAT IT READS IS OF BULK AT MOST 1048576: true; the input reads as it did. -/
def fnExactNewArchiveUptoRow : OpenClaim := { program := "ytlpgkhdecccmlaar", sum := "bbf64c6986b97c459b54555b8ddddcb3346457be8674d36f07fdaa02d3576b13", func := "loop.example/g01101/laws.FnExactNewArchive", spec := "fnExactNewArchive", recurses := true, apart := false, narrowed := true }
def FnExactNewArchiveUptoSaid : Prop := fnExactNewArchiveUptoRow.holds Try.pinned (OpenSpec.upto fnExactNewArchiveSpec)

/-- 'laws.FnExactSameProof', WHERE WHAT IT READS IS OF BULK AT MOST 1048576: true; the input reads as it did. -/
def fnExactSameProofUptoRow : OpenClaim := { program := "ytlpgkhdecccmlaar", sum := "bbf64c6986b97c459b54555b8ddddcb3346457be8674d36f07fdaa02d3576b13", func := "loop.example/g01101/laws.FnExactSameProof", spec := "fnExactSameProof", unfollowed := true, recurses := true, loops := true, apart := false, narrowed := true }
def FnExactSameProofUptoSaid : Prop := fnExactSameProofUptoRow.holds Try.pinned (OpenSpec.upto fnExactSameProofSpec)

/-- 'laws.FnExactValidProof', WHERE WHAT IT READS IS OF BULK AT MOST 1048576: true; the input reads as it did. -/
def fnExactValidProofUptoRow : OpenClaim := { program := "ytlpgkhdecccmlaar", sum := "bbf64c6986b97c459b54555b8ddddcb3346457be8674d36f07fdaa02d3576b13", func := "loop.example/g01101/laws.FnExactValidProof", spec := "fnExactValidProof", unfollowed := true, recurses := true, loops := true, apart := false, narrowed := true }
def FnExactValidProofUptoSaid : Prop := fnExactValidProofUptoRow.holds Try.pinned (OpenSpec.upto fnExactValidProofSpec)

/-- 'laws.FnExactDerivationSize', WHERE WHAT IT READS IS OF BULK AT MOST 1048576: true; the input reads as it did. -/
def fnExactDerivationSizeUptoRow : OpenClaim := { program := "ytlpgkhdecccmlaar", sum := "bbf64c6986b97c459b54555b8ddddcb3346457be8674d36f07fdaa02d3576b13", func := "loop.example/g01101/laws.FnExactDerivationSize", spec := "fnExactDerivationSize", recurses := true, loops := true, apart := false, narrowed := true }
def FnExactDerivationSizeUptoSaid : Prop := fnExactDerivationSizeUptoRow.holds Try.pinned (OpenSpec.upto fnExactDerivationSizeSpec)

/-- 'laws.FnExactAllowedNext', WHERE WHAT IT READS IS OF BULK AT MOST 1048576: true; the input reads as it did. -/
def fnExactAllowedNextUptoRow : OpenClaim := { program := "ytlpgkhdecccmlaar", sum := "bbf64c6986b97c459b54555b8ddddcb3346457be8674d36f07fdaa02d3576b13", func := "loop.example/g01101/laws.FnExactAllowedNext", spec := "fnExactAllowedNext", unfollowed := true, recurses := true, loops := true, apart := false, narrowed := true }
def FnExactAllowedNextUptoSaid : Prop := fnExactAllowedNextUptoRow.holds Try.pinned (OpenSpec.upto fnExactAllowedNextSpec)

/-- 'laws.FnExactPremiseExpr', WHERE WHAT IT READS IS OF BULK AT MOST 1048576: true; the input reads as it did. -/
def fnExactPremiseExprUptoRow : OpenClaim := { program := "ytlpgkhdecccmlaar", sum := "bbf64c6986b97c459b54555b8ddddcb3346457be8674d36f07fdaa02d3576b13", func := "loop.example/g01101/laws.FnExactPremiseExpr", spec := "fnExactPremiseExpr", unfollowed := true, recurses := true, loops := true, apart := false, narrowed := true }
def FnExactPremiseExprUptoSaid : Prop := fnExactPremiseExprUptoRow.holds Try.pinned (OpenSpec.upto fnExactPremiseExprSpec)

end Rows
end Go.Proofs.YtlpgkhdecccmlaaR
