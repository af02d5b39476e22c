/-
  NARROWER THAN 'FOR EVERY INPUT', by the rows' own cells (each row's printed sentence says how): FnExactEmptyAt: loops · FnExactTruthAt: loops · FnExactValidExpr: loops · FnExactIsCondition: loops.
  DERIVED. THE GIVEN ROWS OF THIS SEAT. 10 by the template 'for every input the law returns true; each argument reads behind the call as it read before'; 0 by the template 'total and deterministic' (their statements: YtcpeiajniblipaaTotals.lean).
  GIVEN WITH THE SEED: the statements are not yours to turn. If you find one false, say at which input.
  Laid BY PROGRAM, IN A SANDBOX (cutbox-rows.mjs): the forced cells as the released guide's own fill.sh prints them over the translation 67388e3791f74584… (all of the seat's roots in one cut). By AI agents, Wed Nov 11 2026. No macro, syntax, notation, axiom, sorry.
-/
import Derived.Test.YtcpeiajniblipaaChecked
import GoSem.Claim
import GoSem.ClaimJoined
import GoSem.ClaimMapViews
import Derived.JoinedTies
import Derived.KernelRfl
namespace Go.Proofs.Ytcpeiajniblipaa
/- THE CELL 'sum', in the pinned program and in every row, IS THE sha256 OF THE DUMP (.gsa) THAT YtcpeiajniblipaaProg.lean LOADS. Nothing in Lean hashes anything: it is a label: what it is worth is what the hold of that sum in a sandbox is worth. -/
noncomputable def Try.pinned : Pinned := { name := "ytcpeiajniblipaa", sum := "67388e3791f7458491cbaeb91c17b7750304ac799104476313e52eb436b40496", checked := Try.checked }
namespace Rows
def none {H : Type} : Left H := { results := [], args := [] }

/-- 'laws.FnExactEmptyAt': WHATEVER THE INPUT: true; the input reads as it did. -/
def fnExactEmptyAtSpec : ChangeSpec := { name := "fnExactEmptyAt", fn := fun _ => fun
  | [d1, d2, d3] => { results := [.lit (.bool true)], args := [d1, d2, d3] }
  | _ => none }
def fnExactEmptyAtRow : OpenClaim := { program := "ytcpeiajniblipaa", sum := "67388e3791f7458491cbaeb91c17b7750304ac799104476313e52eb436b40496", func := "loop.example/g01101/laws.FnExactEmptyAt", spec := "fnExactEmptyAt", unfollowed := true, recurses := true, loops := true, apart := false }
def FnExactEmptyAtSaid : Prop := fnExactEmptyAtRow.holds Try.pinned (OpenSpec.ofChange fnExactEmptyAtSpec)

/-- ITS FALSE NEIGHBOUR: 'it returns false'. Refute it at one input. -/
def fnExactEmptyAtWrong : ChangeSpec := { name := "fnExactEmptyAt", fn := fun _ => fun
  | [d1, d2, d3] => { results := [.lit (.bool false)], args := [d1, d2, d3] }
  | _ => none }
def FnExactEmptyAtWrongFalsely : Prop := fnExactEmptyAtRow.holds Try.pinned (OpenSpec.ofChange fnExactEmptyAtWrong)

/-- 'laws.FnExactTruthAt': WHATEVER THE INPUT: true; the input reads as it did. -/
def fnExactTruthAtSpec : ChangeSpec := { name := "fnExactTruthAt", fn := fun _ => fun
  | [d1, d2, d3] => { results := [.lit (.bool true)], args := [d1, d2, d3] }
  | _ => none }
def fnExactTruthAtRow : OpenClaim := { program := "ytcpeiajniblipaa", sum := "67388e3791f7458491cbaeb91c17b7750304ac799104476313e52eb436b40496", func := "loop.example/g01101/laws.FnExactTruthAt", spec := "fnExactTruthAt", unfollowed := true, recurses := true, loops := true, apart := false }
def FnExactTruthAtSaid : Prop := fnExactTruthAtRow.holds Try.pinned (OpenSpec.ofChange fnExactTruthAtSpec)

/-- ITS FALSE NEIGHBOUR: 'it returns false'. Refute it at one input. -/
def fnExactTruthAtWrong : ChangeSpec := { name := "fnExactTruthAt", fn := fun _ => fun
  | [d1, d2, d3] => { results := [.lit (.bool false)], args := [d1, d2, d3] }
  | _ => none }
def FnExactTruthAtWrongFalsely : Prop := fnExactTruthAtRow.holds Try.pinned (OpenSpec.ofChange fnExactTruthAtWrong)

/-- 'laws.FnExactValidExpr': WHATEVER THE INPUT: true; the input reads as it did. -/
def fnExactValidExprSpec : ChangeSpec := { name := "fnExactValidExpr", fn := fun _ => fun
  | [d1, d2] => { results := [.lit (.bool true)], args := [d1, d2] }
  | _ => none }
def fnExactValidExprRow : OpenClaim := { program := "ytcpeiajniblipaa", sum := "67388e3791f7458491cbaeb91c17b7750304ac799104476313e52eb436b40496", func := "loop.example/g01101/laws.FnExactValidExpr", spec := "fnExactValidExpr", recurses := true, loops := true, apart := false }
def FnExactValidExprSaid : Prop := fnExactValidExprRow.holds Try.pinned (OpenSpec.ofChange fnExactValidExprSpec)

/-- ITS FALSE NEIGHBOUR: 'it returns false'. Refute it at one input. -/
def fnExactValidExprWrong : ChangeSpec := { name := "fnExactValidExpr", fn := fun _ => fun
  | [d1, d2] => { results := [.lit (.bool false)], args := [d1, d2] }
  | _ => none }
def FnExactValidExprWrongFalsely : Prop := fnExactValidExprRow.holds Try.pinned (OpenSpec.ofChange fnExactValidExprWrong)

/-- 'laws.FnExactIsCondition': WHATEVER THE INPUT: true; the input reads as it did. -/
def fnExactIsConditionSpec : ChangeSpec := { name := "fnExactIsCondition", fn := fun _ => fun
  | [d] => { results := [.lit (.bool true)], args := [d] }
  | _ => none }
def fnExactIsConditionRow : OpenClaim := { program := "ytcpeiajniblipaa", sum := "67388e3791f7458491cbaeb91c17b7750304ac799104476313e52eb436b40496", func := "loop.example/g01101/laws.FnExactIsCondition", spec := "fnExactIsCondition", recurses := true, loops := true, apart := false }
def FnExactIsConditionSaid : Prop := fnExactIsConditionRow.holds Try.pinned (OpenSpec.ofChange fnExactIsConditionSpec)

/-- ITS FALSE NEIGHBOUR: 'it returns false'. Refute it at one input. -/
def fnExactIsConditionWrong : ChangeSpec := { name := "fnExactIsCondition", fn := fun _ => fun
  | [d] => { results := [.lit (.bool false)], args := [d] }
  | _ => none }
def FnExactIsConditionWrongFalsely : Prop := fnExactIsConditionRow.holds Try.pinned (OpenSpec.ofChange fnExactIsConditionWrong)

/-- 'laws.FnExactValidWord': WHATEVER THE INPUT: true; the input reads as it did. -/
def fnExactValidWordSpec : ChangeSpec := { name := "fnExactValidWord", fn := fun _ => fun
  | [d1, d2] => { results := [.lit (.bool true)], args := [d1, d2] }
  | _ => none }
def fnExactValidWordRow : OpenClaim := { program := "ytcpeiajniblipaa", sum := "67388e3791f7458491cbaeb91c17b7750304ac799104476313e52eb436b40496", func := "loop.example/g01101/laws.FnExactValidWord", spec := "fnExactValidWord", apart := false }
def FnExactValidWordSaid : Prop := fnExactValidWordRow.holds Try.pinned (OpenSpec.ofChange fnExactValidWordSpec)

/-- ITS FALSE NEIGHBOUR: 'it returns false'. Refute it at one input. -/
def fnExactValidWordWrong : ChangeSpec := { name := "fnExactValidWord", fn := fun _ => fun
  | [d1, d2] => { results := [.lit (.bool false)], args := [d1, d2] }
  | _ => none }
def FnExactValidWordWrongFalsely : Prop := fnExactValidWordRow.holds Try.pinned (OpenSpec.ofChange fnExactValidWordWrong)

/-- 'laws.FnExactReverseWord': WHATEVER THE INPUT: true; the input reads as it did. -/
def fnExactReverseWordSpec : ChangeSpec := { name := "fnExactReverseWord", fn := fun _ => fun
  | [d1, d2] => { results := [.lit (.bool true)], args := [d1, d2] }
  | _ => none }
def fnExactReverseWordRow : OpenClaim := { program := "ytcpeiajniblipaa", sum := "67388e3791f7458491cbaeb91c17b7750304ac799104476313e52eb436b40496", func := "loop.example/g01101/laws.FnExactReverseWord", spec := "fnExactReverseWord", apart := false }
def FnExactReverseWordSaid : Prop := fnExactReverseWordRow.holds Try.pinned (OpenSpec.ofChange fnExactReverseWordSpec)

/-- ITS FALSE NEIGHBOUR: 'it returns false'. Refute it at one input. -/
def fnExactReverseWordWrong : ChangeSpec := { name := "fnExactReverseWord", fn := fun _ => fun
  | [d1, d2] => { results := [.lit (.bool false)], args := [d1, d2] }
  | _ => none }
def FnExactReverseWordWrongFalsely : Prop := fnExactReverseWordRow.holds Try.pinned (OpenSpec.ofChange fnExactReverseWordWrong)

/-- 'laws.FnExactFuseWords': WHATEVER THE INPUT: true; the input reads as it did. -/
def fnExactFuseWordsSpec : ChangeSpec := { name := "fnExactFuseWords", fn := fun _ => fun
  | [d1, d2, d3] => { results := [.lit (.bool true)], args := [d1, d2, d3] }
  | _ => none }
def fnExactFuseWordsRow : OpenClaim := { program := "ytcpeiajniblipaa", sum := "67388e3791f7458491cbaeb91c17b7750304ac799104476313e52eb436b40496", func := "loop.example/g01101/laws.FnExactFuseWords", spec := "fnExactFuseWords", apart := false }
def FnExactFuseWordsSaid : Prop := fnExactFuseWordsRow.holds Try.pinned (OpenSpec.ofChange fnExactFuseWordsSpec)

/-- ITS FALSE NEIGHBOUR: 'it returns false'. Refute it at one input. -/
def fnExactFuseWordsWrong : ChangeSpec := { name := "fnExactFuseWords", fn := fun _ => fun
  | [d1, d2, d3] => { results := [.lit (.bool false)], args := [d1, d2, d3] }
  | _ => none }
def FnExactFuseWordsWrongFalsely : Prop := fnExactFuseWordsRow.holds Try.pinned (OpenSpec.ofChange fnExactFuseWordsWrong)

/-- 'laws.FnExactValidAutomaton': WHATEVER THE INPUT: true; the input reads as it did. -/
def fnExactValidAutomatonSpec : ChangeSpec := { name := "fnExactValidAutomaton", fn := fun _ => fun
  | [d] => { results := [.lit (.bool true)], args := [d] }
  | _ => none }
def fnExactValidAutomatonRow : OpenClaim := { program := "ytcpeiajniblipaa", sum := "67388e3791f7458491cbaeb91c17b7750304ac799104476313e52eb436b40496", func := "loop.example/g01101/laws.FnExactValidAutomaton", spec := "fnExactValidAutomaton", apart := false }
def FnExactValidAutomatonSaid : Prop := fnExactValidAutomatonRow.holds Try.pinned (OpenSpec.ofChange fnExactValidAutomatonSpec)

/-- ITS FALSE NEIGHBOUR: 'it returns false'. Refute it at one input. -/
def fnExactValidAutomatonWrong : ChangeSpec := { name := "fnExactValidAutomaton", fn := fun _ => fun
  | [d] => { results := [.lit (.bool false)], args := [d] }
  | _ => none }
def FnExactValidAutomatonWrongFalsely : Prop := fnExactValidAutomatonRow.holds Try.pinned (OpenSpec.ofChange fnExactValidAutomatonWrong)

/-- 'laws.FnExactSameAutomaton': WHATEVER THE INPUT: true; the input reads as it did. -/
def fnExactSameAutomatonSpec : ChangeSpec := { name := "fnExactSameAutomaton", fn := fun _ => fun
  | [d1, d2] => { results := [.lit (.bool true)], args := [d1, d2] }
  | _ => none }
def fnExactSameAutomatonRow : OpenClaim := { program := "ytcpeiajniblipaa", sum := "67388e3791f7458491cbaeb91c17b7750304ac799104476313e52eb436b40496", func := "loop.example/g01101/laws.FnExactSameAutomaton", spec := "fnExactSameAutomaton", unfollowed := true, recurses := true, apart := false }
def FnExactSameAutomatonSaid : Prop := fnExactSameAutomatonRow.holds Try.pinned (OpenSpec.ofChange fnExactSameAutomatonSpec)

/-- ITS FALSE NEIGHBOUR: 'it returns false'. Refute it at one input. -/
def fnExactSameAutomatonWrong : ChangeSpec := { name := "fnExactSameAutomaton", fn := fun _ => fun
  | [d1, d2] => { results := [.lit (.bool false)], args := [d1, d2] }
  | _ => none }
def FnExactSameAutomatonWrongFalsely : Prop := fnExactSameAutomatonRow.holds Try.pinned (OpenSpec.ofChange fnExactSameAutomatonWrong)

/-- 'laws.FnExactRunAutomaton': WHATEVER THE INPUT: true; the input reads as it did. -/
def fnExactRunAutomatonSpec : ChangeSpec := { name := "fnExactRunAutomaton", fn := fun _ => fun
  | [d1, d2] => { results := [.lit (.bool true)], args := [d1, d2] }
  | _ => none }
def fnExactRunAutomatonRow : OpenClaim := { program := "ytcpeiajniblipaa", sum := "67388e3791f7458491cbaeb91c17b7750304ac799104476313e52eb436b40496", func := "loop.example/g01101/laws.FnExactRunAutomaton", spec := "fnExactRunAutomaton", apart := false }
def FnExactRunAutomatonSaid : Prop := fnExactRunAutomatonRow.holds Try.pinned (OpenSpec.ofChange fnExactRunAutomatonSpec)

/-- ITS FALSE NEIGHBOUR: 'it returns false'. Refute it at one input. -/
def fnExactRunAutomatonWrong : ChangeSpec := { name := "fnExactRunAutomaton", fn := fun _ => fun
  | [d1, d2] => { results := [.lit (.bool false)], args := [d1, d2] }
  | _ => none }
def FnExactRunAutomatonWrongFalsely : Prop := fnExactRunAutomatonRow.holds Try.pinned (OpenSpec.ofChange fnExactRunAutomatonWrong)

/- THE SECOND FORM. 'bulk': how many values and letters a reading holds, each counted each time it is reached (what is shared counts as often as it is met; a slice's spare places count too). A statement '..UptoSaid' is the law's where the arguments, and the package variables that the reading takes, are together of bulk at most 1048576: NARROWER than '..Said'. Prove '..Said' where nothing that the law and all that it calls make is longer than what came in: it says more and counts as full. Else prove '..UptoSaid'. A law counts once. -/
mutual
def uptoBulk {H : Type} : DataW H → Nat
  | .lit (.string bytes) => bytes.length + 1
  | .lit _ => 1
  | .nil => 1
  | .ptr d => uptoBulk d + 1
  | .slice elems spare => uptoBulkAll elems + uptoBulkAll spare + 1
  | .agg parts => uptoBulkAll parts + 1
  | .iface _ d => uptoBulk d + 1
  | .map entries => uptoBulkEntries entries + 1
  | .held _ => 1
def uptoBulkAll {H : Type} : List (DataW H) → Nat
  | [] => 0
  | d :: r => uptoBulk d + uptoBulkAll r
def uptoBulkEntries {H : Type} : List (Lit × DataW H) → Nat
  | [] => 0
  | x :: r => uptoBulkEntry x + uptoBulkEntries r
def uptoBulkEntry {H : Type} : Lit × DataW H → Nat
  | (.string bytes, d) => bytes.length + uptoBulk d + 1
  | (_, d) => uptoBulk d + 1
 end
def uptoSmall : (H : Type) → List (DataW H) → Bool := fun _ ds => decide (uptoBulkAll ds ≤ 1048576)
def OpenSpec.upto (s : _root_.Go.ChangeSpec) : _root_.Go.OpenSpec := { _root_.Go.OpenSpec.ofChange s with cond := some uptoSmall }

/-- 'laws.FnExactEmptyAt', WHERE WHAT IT READS IS OF BULK AT MOST 1048576: true; the input reads as it did. -/
def fnExactEmptyAtUptoRow : OpenClaim := { program := "ytcpeiajniblipaa", sum := "67388e3791f7458491cbaeb91c17b7750304ac799104476313e52eb436b40496", func := "loop.example/g01101/laws.FnExactEmptyAt", spec := "fnExactEmptyAt", unfollowed := true, recurses := true, loops := true, apart := false, narrowed := true }
def FnExactEmptyAtUptoSaid : Prop := fnExactEmptyAtUptoRow.holds Try.pinned (OpenSpec.upto fnExactEmptyAtSpec)

/-- 'laws.FnExactTruthAt', WHERE WHAT IT READS IS OF BULK AT MOST 1048576: true; the input reads as it did. -/
def fnExactTruthAtUptoRow : OpenClaim := { program := "ytcpeiajniblipaa", sum := "67388e3791f7458491cbaeb91c17b7750304ac799104476313e52eb436b40496", func := "loop.example/g01101/laws.FnExactTruthAt", spec := "fnExactTruthAt", unfollowed := true, recurses := true, loops := true, apart := false, narrowed := true }
def FnExactTruthAtUptoSaid : Prop := fnExactTruthAtUptoRow.holds Try.pinned (OpenSpec.upto fnExactTruthAtSpec)

/-- 'laws.FnExactValidExpr', WHERE WHAT IT READS IS OF BULK AT MOST 1048576: true; the input reads as it did. -/
def fnExactValidExprUptoRow : OpenClaim := { program := "ytcpeiajniblipaa", sum := "67388e3791f7458491cbaeb91c17b7750304ac799104476313e52eb436b40496", func := "loop.example/g01101/laws.FnExactValidExpr", spec := "fnExactValidExpr", recurses := true, loops := true, apart := false, narrowed := true }
def FnExactValidExprUptoSaid : Prop := fnExactValidExprUptoRow.holds Try.pinned (OpenSpec.upto fnExactValidExprSpec)

/-- 'laws.FnExactIsCondition', WHERE WHAT IT READS IS OF BULK AT MOST 1048576: true; the input reads as it did. -/
def fnExactIsConditionUptoRow : OpenClaim := { program := "ytcpeiajniblipaa", sum := "67388e3791f7458491cbaeb91c17b7750304ac799104476313e52eb436b40496", func := "loop.example/g01101/laws.FnExactIsCondition", spec := "fnExactIsCondition", recurses := true, loops := true, apart := false, narrowed := true }
def FnExactIsConditionUptoSaid : Prop := fnExactIsConditionUptoRow.holds Try.pinned (OpenSpec.upto fnExactIsConditionSpec)

/-- 'laws.FnExactValidWord', WHERE WHAT IT READS IS OF BULK AT MOST 1048576: true; the input reads as it did. -/
def fnExactValidWordUptoRow : OpenClaim := { program := "ytcpeiajniblipaa", sum := "67388e3791f7458491cbaeb91c17b7750304ac799104476313e52eb436b40496", func := "loop.example/g01101/laws.FnExactValidWord", spec := "fnExactValidWord", apart := false, narrowed := true }
def FnExactValidWordUptoSaid : Prop := fnExactValidWordUptoRow.holds Try.pinned (OpenSpec.upto fnExactValidWordSpec)

/-- 'laws.FnExactReverseWord', WHERE WHAT IT READS IS OF BULK AT MOST 1048576: true; the input reads as it did. -/
def fnExactReverseWordUptoRow : OpenClaim := { program := "ytcpeiajniblipaa", sum := "67388e3791f7458491cbaeb91c17b7750304ac799104476313e52eb436b40496", func := "loop.example/g01101/laws.FnExactReverseWord", spec := "fnExactReverseWord", apart := false, narrowed := true }
def FnExactReverseWordUptoSaid : Prop := fnExactReverseWordUptoRow.holds Try.pinned (OpenSpec.upto fnExactReverseWordSpec)

/-- 'laws.FnExactFuseWords', WHERE WHAT IT READS IS OF BULK AT MOST 1048576: true; the input reads as it did. -/
def fnExactFuseWordsUptoRow : OpenClaim := { program := "ytcpeiajniblipaa", sum := "67388e3791f7458491cbaeb91c17b7750304ac799104476313e52eb436b40496", func := "loop.example/g01101/laws.FnExactFuseWords", spec := "fnExactFuseWords", apart := false, narrowed := true }
def FnExactFuseWordsUptoSaid : Prop := fnExactFuseWordsUptoRow.holds Try.pinned (OpenSpec.upto fnExactFuseWordsSpec)

/-- 'laws.FnExactValidAutomaton', WHERE WHAT IT READS IS OF BULK AT MOST 1048576: true; the input reads as it did. -/
def fnExactValidAutomatonUptoRow : OpenClaim := { program := "ytcpeiajniblipaa", sum := "67388e3791f7458491cbaeb91c17b7750304ac799104476313e52eb436b40496", func := "loop.example/g01101/laws.FnExactValidAutomaton", spec := "fnExactValidAutomaton", apart := false, narrowed := true }
def FnExactValidAutomatonUptoSaid : Prop := fnExactValidAutomatonUptoRow.holds Try.pinned (OpenSpec.upto fnExactValidAutomatonSpec)

/-- 'laws.FnExactSameAutomaton', WHERE WHAT IT READS IS OF BULK AT MOST 1048576: true; the input reads as it did. -/
def fnExactSameAutomatonUptoRow : OpenClaim := { program := "ytcpeiajniblipaa", sum := "67388e3791f7458491cbaeb91c17b7750304ac799104476313e52eb436b40496", func := "loop.example/g01101/laws.FnExactSameAutomaton", spec := "fnExactSameAutomaton", unfollowed := true, recurses := true, apart := false, narrowed := true }
def FnExactSameAutomatonUptoSaid : Prop := fnExactSameAutomatonUptoRow.holds Try.pinned (OpenSpec.upto fnExactSameAutomatonSpec)

/-- 'laws.FnExactRunAutomaton', WHERE WHAT IT READS IS OF BULK AT MOST 1048576: true; the input reads as it did. -/
def fnExactRunAutomatonUptoRow : OpenClaim := { program := "ytcpeiajniblipaa", sum := "67388e3791f7458491cbaeb91c17b7750304ac799104476313e52eb436b40496", func := "loop.example/g01101/laws.FnExactRunAutomaton", spec := "fnExactRunAutomaton", apart := false, narrowed := true }
def FnExactRunAutomatonUptoSaid : Prop := fnExactRunAutomatonUptoRow.holds Try.pinned (OpenSpec.upto fnExactRunAutomatonSpec)

end Rows
end Go.Proofs.Ytcpeiajniblipaa
