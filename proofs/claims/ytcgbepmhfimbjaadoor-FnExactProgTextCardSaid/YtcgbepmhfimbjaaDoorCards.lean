/-
  DERIVED. GIVEN WITH THE SEED: THE CARDS: each row of YtcgbepmhfimbjaaDoorRows.lean that lists a variable, with what it lists TIED to the program's text (the seventh form; the later family's looks); each row that meets fmt, with fmt's text TOLD by the authors' own Lean function (tested against real Go, not proved from fmt's source: count such statements apart). THE CARD IS WHAT COUNTS. Prove the row's statement (the work); the ties are given (YtcgbepmhfimbjaaDoorTie.lean); close each card by the builder's one call (the guide's Derived/Test/ToyasCard.lean, 'card_holds'). Laid BY PROGRAM, IN A SANDBOX (cutbox-door.mjs). By AI agents, Wed Nov 11 2026. No macro, syntax, notation, axiom, sorry.
-/
import Derived.Test.YtcgbepmhfimbjaaDoorRows
import GoSem.ClaimSeven
namespace Go.Proofs.YtcgbepmhfimbjaaDoor
namespace Rows

/-- THE TIED CARD OF 'laws.FnExactProgExpr'. -/
def fnExactProgExprCard : Claim7 := { stood := { row := fnExactProgExprRow, standIns := [], harness := (true, "0f5f0432b4de86e557d5293c51176e7b4587fe5c249a8df4f4841f53599e31b5"), looks := true }, kinds := [], alts := [], laidByText := true, laidKinds := [.widerDeep], laidTests := true, laidLooks := .later }
def FnExactProgExprCardSaid : Prop := Claim7.holds Tryd.pinned (.plain (OpenSpec.ofChange fnExactProgExprSpec)) fnExactProgExprCard

/-- THE TIED CARD OF 'laws.FnExactProgText'. -/
def fnExactProgTextCard : Claim7 := { stood := { row := fnExactProgTextRow, standIns := [], harness := (true, "0f5f0432b4de86e557d5293c51176e7b4587fe5c249a8df4f4841f53599e31b5"), looks := true }, kinds := [], alts := [], laidByText := true, laidKinds := [.data, .data, .data, .widerDeep], laidTests := true, laidLooks := .later }
def FnExactProgTextCardSaid : Prop := Claim7.holds Tryd.pinned (.plain (OpenSpec.ofChange fnExactProgTextSpec)) fnExactProgTextCard

/-- THE SECOND FORM's CARD OF 'laws.FnExactProgExpr'. -/
def fnExactProgExprUptoCard : Claim7 := { stood := { row := fnExactProgExprUptoRow, standIns := [], harness := (true, "0f5f0432b4de86e557d5293c51176e7b4587fe5c249a8df4f4841f53599e31b5"), looks := true }, kinds := [], alts := [], laidByText := true, laidKinds := [.widerDeep], laidTests := true, laidLooks := .later }
def FnExactProgExprUptoCardSaid : Prop := Claim7.holds Tryd.pinned (.plain (OpenSpec.upto fnExactProgExprSpec)) fnExactProgExprUptoCard

/-- THE SECOND FORM's CARD OF 'laws.FnExactProgText'. -/
def fnExactProgTextUptoCard : Claim7 := { stood := { row := fnExactProgTextUptoRow, standIns := [], harness := (true, "0f5f0432b4de86e557d5293c51176e7b4587fe5c249a8df4f4841f53599e31b5"), looks := true }, kinds := [], alts := [], laidByText := true, laidKinds := [.data, .data, .data, .widerDeep], laidTests := true, laidLooks := .later }
def FnExactProgTextUptoCardSaid : Prop := Claim7.holds Tryd.pinned (.plain (OpenSpec.upto fnExactProgTextSpec)) fnExactProgTextUptoCard
end Rows
end Go.Proofs.YtcgbepmhfimbjaaDoor
