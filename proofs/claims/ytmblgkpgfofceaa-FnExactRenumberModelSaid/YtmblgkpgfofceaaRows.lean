/-
  NARROWER THAN 'FOR EVERY INPUT', by the rows' own cells (each row's printed sentence says how): FnExactAllowedNext: loops · FnExactPremiseExpr: loops.
  DERIVED. THE GIVEN ROWS OF THIS SEAT. 6 by the template 'for every input the law returns true; each argument reads behind the call as it read before'; 0 by the template 'total and deterministic' (their statements: YtmblgkpgfofceaaTotals.lean).
  GIVEN WITH THE SEED: the statements are not yours to turn. If you find one false, say at which input.
  Laid BY PROGRAM, IN A SANDBOX (cutbox-rows.mjs): the forced cells as the released guide's own fill.sh prints them over the translation 725dfb3ea70d31eb… (all of the seat's roots in one cut). By AI agents, Wed Nov 11 2026. No macro, syntax, notation, axiom, sorry.
-/
import Derived.Test.YtmblgkpgfofceaaChecked
import GoSem.Claim
import GoSem.ClaimJoined
import GoSem.ClaimMapViews
import Derived.JoinedTies
import Derived.KernelRfl
namespace Go.Proofs.Ytmblgkpgfofceaa
/- THE CELL 'sum', in the pinned program and in every row, IS THE sha256 OF THE DUMP (.gsa) THAT YtmblgkpgfofceaaProg.lean LOADS. Nothing in Lean hashes anything: it is a label: what it is worth is what the hold of that sum in a sandbox is worth. -/
noncomputable def Try.pinned : Pinned := { name := "ytmblgkpgfofceaa", sum := "725dfb3ea70d31ebb60dc88c51e7ac12fa8b51db0a0aeefb46d61bb8a357650d", checked := Try.checked }
namespace Rows
def none {H : Type} : Left H := { results := [], args := [] }

/-- 'laws.FnExactAllowedNext': WHATEVER THE INPUT: true; the input reads as it did. -/
def fnExactAllowedNextSpec : ChangeSpec := { name := "fnExactAllowedNext", fn := fun _ => fun
  | [d1, d2, d3, d4] => { results := [.lit (.bool true)], args := [d1, d2, d3, d4] }
  | _ => none }
def fnExactAllowedNextRow : OpenClaim := { program := "ytmblgkpgfofceaa", sum := "725dfb3ea70d31ebb60dc88c51e7ac12fa8b51db0a0aeefb46d61bb8a357650d", func := "loop.example/g01101/laws.FnExactAllowedNext", spec := "fnExactAllowedNext", unfollowed := true, recurses := true, loops := true, apart := false }
def FnExactAllowedNextSaid : Prop := fnExactAllowedNextRow.holds Try.pinned (OpenSpec.ofChange fnExactAllowedNextSpec)

/-- ITS FALSE NEIGHBOUR: 'it returns false'. Refute it at one input. -/
def fnExactAllowedNextWrong : ChangeSpec := { name := "fnExactAllowedNext", fn := fun _ => fun
  | [d1, d2, d3, d4] => { results := [.lit (.bool false)], args := [d1, d2, d3, d4] }
  | _ => none }
def FnExactAllowedNextWrongFalsely : Prop := fnExactAllowedNextRow.holds Try.pinned (OpenSpec.ofChange fnExactAllowedNextWrong)

/-- 'laws.FnExactPremiseExpr': WHATEVER THE INPUT: true; the input reads as it did. -/
def fnExactPremiseExprSpec : ChangeSpec := { name := "fnExactPremiseExpr", fn := fun _ => fun
  | [d1, d2] => { results := [.lit (.bool true)], args := [d1, d2] }
  | _ => none }
def fnExactPremiseExprRow : OpenClaim := { program := "ytmblgkpgfofceaa", sum := "725dfb3ea70d31ebb60dc88c51e7ac12fa8b51db0a0aeefb46d61bb8a357650d", func := "loop.example/g01101/laws.FnExactPremiseExpr", spec := "fnExactPremiseExpr", unfollowed := true, recurses := true, loops := true, apart := false }
def FnExactPremiseExprSaid : Prop := fnExactPremiseExprRow.holds Try.pinned (OpenSpec.ofChange fnExactPremiseExprSpec)

/-- ITS FALSE NEIGHBOUR: 'it returns false'. Refute it at one input. -/
def fnExactPremiseExprWrong : ChangeSpec := { name := "fnExactPremiseExpr", fn := fun _ => fun
  | [d1, d2] => { results := [.lit (.bool false)], args := [d1, d2] }
  | _ => none }
def FnExactPremiseExprWrongFalsely : Prop := fnExactPremiseExprRow.holds Try.pinned (OpenSpec.ofChange fnExactPremiseExprWrong)

/-- 'laws.FnExactRestrictModel': WHATEVER THE INPUT: true; the input reads as it did. -/
def fnExactRestrictModelSpec : ChangeSpec := { name := "fnExactRestrictModel", fn := fun _ => fun
  | [d1, d2] => { results := [.lit (.bool true)], args := [d1, d2] }
  | _ => none }
def fnExactRestrictModelRow : OpenClaim := { program := "ytmblgkpgfofceaa", sum := "725dfb3ea70d31ebb60dc88c51e7ac12fa8b51db0a0aeefb46d61bb8a357650d", func := "loop.example/g01101/laws.FnExactRestrictModel", spec := "fnExactRestrictModel", unfollowed := true, recurses := true, apart := false }
def FnExactRestrictModelSaid : Prop := fnExactRestrictModelRow.holds Try.pinned (OpenSpec.ofChange fnExactRestrictModelSpec)

/-- ITS FALSE NEIGHBOUR: 'it returns false'. Refute it at one input. -/
def fnExactRestrictModelWrong : ChangeSpec := { name := "fnExactRestrictModel", fn := fun _ => fun
  | [d1, d2] => { results := [.lit (.bool false)], args := [d1, d2] }
  | _ => none }
def FnExactRestrictModelWrongFalsely : Prop := fnExactRestrictModelRow.holds Try.pinned (OpenSpec.ofChange fnExactRestrictModelWrong)

/-- 'laws.FnExactJoinModels': WHATEVER THE INPUT: true; the input reads as it did. -/
def fnExactJoinModelsSpec : ChangeSpec := { name := "fnExactJoinModels", fn := fun _ => fun
  | [d1, d2] => { results := [.lit (.bool true)], args := [d1, d2] }
  | _ => none }
def fnExactJoinModelsRow : OpenClaim := { program := "ytmblgkpgfofceaa", sum := "725dfb3ea70d31ebb60dc88c51e7ac12fa8b51db0a0aeefb46d61bb8a357650d", func := "loop.example/g01101/laws.FnExactJoinModels", spec := "fnExactJoinModels", unfollowed := true, recurses := true, apart := false }
def FnExactJoinModelsSaid : Prop := fnExactJoinModelsRow.holds Try.pinned (OpenSpec.ofChange fnExactJoinModelsSpec)

/-- ITS FALSE NEIGHBOUR: 'it returns false'. Refute it at one input. -/
def fnExactJoinModelsWrong : ChangeSpec := { name := "fnExactJoinModels", fn := fun _ => fun
  | [d1, d2] => { results := [.lit (.bool false)], args := [d1, d2] }
  | _ => none }
def FnExactJoinModelsWrongFalsely : Prop := fnExactJoinModelsRow.holds Try.pinned (OpenSpec.ofChange fnExactJoinModelsWrong)

/-- 'laws.FnExactWordModel': WHATEVER THE INPUT: true; the input reads as it did. -/
def fnExactWordModelSpec : ChangeSpec := { name := "fnExactWordModel", fn := fun _ => fun
  | [d1, d2] => { results := [.lit (.bool true)], args := [d1, d2] }
  | _ => none }
def fnExactWordModelRow : OpenClaim := { program := "ytmblgkpgfofceaa", sum := "725dfb3ea70d31ebb60dc88c51e7ac12fa8b51db0a0aeefb46d61bb8a357650d", func := "loop.example/g01101/laws.FnExactWordModel", spec := "fnExactWordModel", unfollowed := true, recurses := true, apart := false }
def FnExactWordModelSaid : Prop := fnExactWordModelRow.holds Try.pinned (OpenSpec.ofChange fnExactWordModelSpec)

/-- ITS FALSE NEIGHBOUR: 'it returns false'. Refute it at one input. -/
def fnExactWordModelWrong : ChangeSpec := { name := "fnExactWordModel", fn := fun _ => fun
  | [d1, d2] => { results := [.lit (.bool false)], args := [d1, d2] }
  | _ => none }
def FnExactWordModelWrongFalsely : Prop := fnExactWordModelRow.holds Try.pinned (OpenSpec.ofChange fnExactWordModelWrong)

/-- 'laws.FnExactRenumberModel': WHATEVER THE INPUT: true; the input reads as it did. -/
def fnExactRenumberModelSpec : ChangeSpec := { name := "fnExactRenumberModel", fn := fun _ => fun
  | [d1, d2] => { results := [.lit (.bool true)], args := [d1, d2] }
  | _ => none }
def fnExactRenumberModelRow : OpenClaim := { program := "ytmblgkpgfofceaa", sum := "725dfb3ea70d31ebb60dc88c51e7ac12fa8b51db0a0aeefb46d61bb8a357650d", func := "loop.example/g01101/laws.FnExactRenumberModel", spec := "fnExactRenumberModel", unfollowed := true, recurses := true, apart := false }
def FnExactRenumberModelSaid : Prop := fnExactRenumberModelRow.holds Try.pinned (OpenSpec.ofChange fnExactRenumberModelSpec)

/-- ITS FALSE NEIGHBOUR: 'it returns false'. Refute it at one input. -/
def fnExactRenumberModelWrong : ChangeSpec := { name := "fnExactRenumberModel", fn := fun _ => fun
  | [d1, d2] => { results := [.lit (.bool false)], args := [d1, d2] }
  | _ => none }
def FnExactRenumberModelWrongFalsely : Prop := fnExactRenumberModelRow.holds Try.pinned (OpenSpec.ofChange fnExactRenumberModelWrong)

/- THE SECOND FORM. 'bulk': how many values and letters a reading holds, each counted each time it is reached (what is shared counts as often as it is met; a slice's spare places count too). A statement '..UptoSaid' is the law's where the arguments, and the package variables that the reading takes, are together of bulk at most 1048576: NARROWER than '..Said'. Prove '..Said' where nothing that the law and all that it calls make is longer than what came in: it says more and counts as full. Else prove '..UptoSaid'. A law counts once. -/
mutual
def uptoBulk {H : Type} : DataW H → Nat
  | .lit (.string bytes) => bytes.length + 1
  | .lit _ => 1
  | .nil => 1
  | .ptr d => uptoBulk d + 1
  | .slice elems spare => uptoBulkAll elems + uptoBulkAll spare + 1
  | .agg parts => uptoBulkAll parts + 1
  | .iface _ d => uptoBulk d + 1
  | .map entries => uptoBulkEntries entries + 1
  | .held _ => 1
def uptoBulkAll {H : Type} : List (DataW H) → Nat
  | [] => 0
  | d :: r => uptoBulk d + uptoBulkAll r
def uptoBulkEntries {H : Type} : List (Lit × DataW H) → Nat
  | [] => 0
  | x :: r => uptoBulkEntry x + uptoBulkEntries r
def uptoBulkEntry {H : Type} : Lit × DataW H → Nat
  | (.string bytes, d) => bytes.length + uptoBulk d + 1
  | (_, d) => uptoBulk d + 1
 end
def uptoSmall : (H : Type) → List (DataW H) → Bool := fun _ ds => decide (uptoBulkAll ds ≤ 1048576)
def OpenSpec.upto (s : _root_.Go.ChangeSpec) : _root_.Go.OpenSpec := { _root_.Go.OpenSpec.ofChange s with cond := some uptoSmall }

/-- 'laws.FnExactAllowedNext', WHERE WHAT IT READS IS OF BULK AT MOST 1048576: true; the input reads as it did. -/
def fnExactAllowedNextUptoRow : OpenClaim := { program := "ytmblgkpgfofceaa", sum := "725dfb3ea70d31ebb60dc88c51e7ac12fa8b51db0a0aeefb46d61bb8a357650d", func := "loop.example/g01101/laws.FnExactAllowedNext", spec := "fnExactAllowedNext", unfollowed := true, recurses := true, loops := true, apart := false, narrowed := true }
def FnExactAllowedNextUptoSaid : Prop := fnExactAllowedNextUptoRow.holds Try.pinned (OpenSpec.upto fnExactAllowedNextSpec)

/-- 'laws.FnExactPremiseExpr', WHERE WHAT IT READS IS OF BULK AT MOST 1048576: true; the input reads as it did. -/
def fnExactPremiseExprUptoRow : OpenClaim := { program := "ytmblgkpgfofceaa", sum := "725dfb3ea70d31ebb60dc88c51e7ac12fa8b51db0a0aeefb46d61bb8a357650d", func := "loop.example/g01101/laws.FnExactPremiseExpr", spec := "fnExactPremiseExpr", unfollowed := true, recurses := true, loops := true, apart := false, narrowed := true }
def FnExactPremiseExprUptoSaid : Prop := fnExactPremiseExprUptoRow.holds Try.pinned (OpenSpec.upto fnExactPremiseExprSpec)

/-- 'laws.FnExactRestrictModel', WHERE WHAT IT READS IS OF BULK AT MOST 1048576: true; the input reads as it did. -/
def fnExactRestrictModelUptoRow : OpenClaim := { program := "ytmblgkpgfofceaa", sum := "725dfb3ea70d31ebb60dc88c51e7ac12fa8b51db0a0aeefb46d61bb8a357650d", func := "loop.example/g01101/laws.FnExactRestrictModel", spec := "fnExactRestrictModel", unfollowed := true, recurses := true, apart := false, narrowed := true }
def FnExactRestrictModelUptoSaid : Prop := fnExactRestrictModelUptoRow.holds Try.pinned (OpenSpec.upto fnExactRestrictModelSpec)

/-- 'laws.FnExactJoinModels', WHERE WHAT IT READS IS OF BULK AT MOST 1048576: true; the input reads as it did. -/
def fnExactJoinModelsUptoRow : OpenClaim := { program := "ytmblgkpgfofceaa", sum := "725dfb3ea70d31ebb60dc88c51e7ac12fa8b51db0a0aeefb46d61bb8a357650d", func := "loop.example/g01101/laws.FnExactJoinModels", spec := "fnExactJoinModels", unfollowed := true, recurses := true, apart := false, narrowed := true }
def FnExactJoinModelsUptoSaid : Prop := fnExactJoinModelsUptoRow.holds Try.pinned (OpenSpec.upto fnExactJoinModelsSpec)

/-- 'laws.FnExactWordModel', WHERE WHAT IT READS IS OF BULK AT MOST 1048576: true; the input reads as it did. -/
def fnExactWordModelUptoRow : OpenClaim := { program := "ytmblgkpgfofceaa", sum := "725dfb3ea70d31ebb60dc88c51e7ac12fa8b51db0a0aeefb46d61bb8a357650d", func := "loop.example/g01101/laws.FnExactWordModel", spec := "fnExactWordModel", unfollowed := true, recurses := true, apart := false, narrowed := true }
def FnExactWordModelUptoSaid : Prop := fnExactWordModelUptoRow.holds Try.pinned (OpenSpec.upto fnExactWordModelSpec)

/-- 'laws.FnExactRenumberModel', WHERE WHAT IT READS IS OF BULK AT MOST 1048576: true; the input reads as it did. -/
def fnExactRenumberModelUptoRow : OpenClaim := { program := "ytmblgkpgfofceaa", sum := "725dfb3ea70d31ebb60dc88c51e7ac12fa8b51db0a0aeefb46d61bb8a357650d", func := "loop.example/g01101/laws.FnExactRenumberModel", spec := "fnExactRenumberModel", unfollowed := true, recurses := true, apart := false, narrowed := true }
def FnExactRenumberModelUptoSaid : Prop := fnExactRenumberModelUptoRow.holds Try.pinned (OpenSpec.upto fnExactRenumberModelSpec)

end Rows
end Go.Proofs.Ytmblgkpgfofceaa
