/-
  DERIVED. GIVEN WITH THE SEED: THE CARDS: each row of YtojheipllpkgdaaDoorRows.lean that lists a variable, with what it lists TIED to the program's text (the seventh form; the later family's looks); each row that meets fmt, with fmt's text TOLD by the authors' own Lean function (tested against real Go, not proved from fmt's source: count such statements apart). THE CARD IS WHAT COUNTS. Prove the row's statement (the work); the ties are given (YtojheipllpkgdaaDoorTie.lean); close each card by the builder's one call (the guide's Derived/Test/ToyasCard.lean, 'card_holds'). Laid BY PROGRAM, IN A SANDBOX (cutbox-door.mjs). By AI agents, Wed Nov 11 2026. No macro, syntax, notation, axiom, sorry.
-/
import Derived.Test.YtojheipllpkgdaaDoorRows
import GoSem.ClaimSeven
namespace Go.Proofs.YtojheipllpkgdaaDoor
namespace Rows

/-- THE TIED CARD OF 'laws.FnExactValidProg'. -/
def fnExactValidProgCard : Claim7 := { stood := { row := fnExactValidProgRow, standIns := [], harness := (true, "dbb707115eb387add1350b5a86909633a5626df1b9b3d413626cca26148ef471"), looks := true }, kinds := [], alts := [], laidByText := true, laidKinds := [.widerDeep], laidTests := true, laidLooks := .later }
def FnExactValidProgCardSaid : Prop := Claim7.holds Tryd.pinned (.plain (OpenSpec.ofChange fnExactValidProgSpec)) fnExactValidProgCard

/-- THE TIED CARD OF 'laws.FnExactValidTriple'. -/
def fnExactValidTripleCard : Claim7 := { stood := { row := fnExactValidTripleRow, standIns := [], harness := (true, "dbb707115eb387add1350b5a86909633a5626df1b9b3d413626cca26148ef471"), looks := true }, kinds := [], alts := [], laidByText := true, laidKinds := [.widerDeep], laidTests := true, laidLooks := .later }
def FnExactValidTripleCardSaid : Prop := Claim7.holds Tryd.pinned (.plain (OpenSpec.ofChange fnExactValidTripleSpec)) fnExactValidTripleCard

/-- THE TIED CARD OF 'laws.FnExactProgExpr'. -/
def fnExactProgExprCard : Claim7 := { stood := { row := fnExactProgExprRow, standIns := [], harness := (true, "dbb707115eb387add1350b5a86909633a5626df1b9b3d413626cca26148ef471"), looks := true }, kinds := [], alts := [], laidByText := true, laidKinds := [.widerDeep], laidTests := true, laidLooks := .later }
def FnExactProgExprCardSaid : Prop := Claim7.holds Tryd.pinned (.plain (OpenSpec.ofChange fnExactProgExprSpec)) fnExactProgExprCard

/-- THE TIED CARD OF 'laws.FnExactBisimText'. -/
def fnExactBisimTextCard : Claim7 := { stood := { row := fnExactBisimTextRow, standIns := [], harness := (true, "dbb707115eb387add1350b5a86909633a5626df1b9b3d413626cca26148ef471"), looks := true }, kinds := [], alts := [], laidByText := true, laidKinds := [.data, .data, .data], laidTests := true, laidLooks := .later }
def FnExactBisimTextCardSaid : Prop := Claim7.holds Tryd.pinned (.plain (OpenSpec.ofChange fnExactBisimTextSpec)) fnExactBisimTextCard

/-- THE TIED CARD OF 'laws.FnExactProgText'. -/
def fnExactProgTextCard : Claim7 := { stood := { row := fnExactProgTextRow, standIns := [], harness := (true, "dbb707115eb387add1350b5a86909633a5626df1b9b3d413626cca26148ef471"), looks := true }, kinds := [], alts := [], laidByText := true, laidKinds := [.data, .data, .data, .widerDeep], laidTests := true, laidLooks := .later }
def FnExactProgTextCardSaid : Prop := Claim7.holds Tryd.pinned (.plain (OpenSpec.ofChange fnExactProgTextSpec)) fnExactProgTextCard

/-- THE SECOND FORM's CARD OF 'laws.FnExactValidProg'. -/
def fnExactValidProgUptoCard : Claim7 := { stood := { row := fnExactValidProgUptoRow, standIns := [], harness := (true, "dbb707115eb387add1350b5a86909633a5626df1b9b3d413626cca26148ef471"), looks := true }, kinds := [], alts := [], laidByText := true, laidKinds := [.widerDeep], laidTests := true, laidLooks := .later }
def FnExactValidProgUptoCardSaid : Prop := Claim7.holds Tryd.pinned (.plain (OpenSpec.upto fnExactValidProgSpec)) fnExactValidProgUptoCard

/-- THE SECOND FORM's CARD OF 'laws.FnExactValidTriple'. -/
def fnExactValidTripleUptoCard : Claim7 := { stood := { row := fnExactValidTripleUptoRow, standIns := [], harness := (true, "dbb707115eb387add1350b5a86909633a5626df1b9b3d413626cca26148ef471"), looks := true }, kinds := [], alts := [], laidByText := true, laidKinds := [.widerDeep], laidTests := true, laidLooks := .later }
def FnExactValidTripleUptoCardSaid : Prop := Claim7.holds Tryd.pinned (.plain (OpenSpec.upto fnExactValidTripleSpec)) fnExactValidTripleUptoCard

/-- THE SECOND FORM's CARD OF 'laws.FnExactProgExpr'. -/
def fnExactProgExprUptoCard : Claim7 := { stood := { row := fnExactProgExprUptoRow, standIns := [], harness := (true, "dbb707115eb387add1350b5a86909633a5626df1b9b3d413626cca26148ef471"), looks := true }, kinds := [], alts := [], laidByText := true, laidKinds := [.widerDeep], laidTests := true, laidLooks := .later }
def FnExactProgExprUptoCardSaid : Prop := Claim7.holds Tryd.pinned (.plain (OpenSpec.upto fnExactProgExprSpec)) fnExactProgExprUptoCard

/-- THE SECOND FORM's CARD OF 'laws.FnExactBisimText'. -/
def fnExactBisimTextUptoCard : Claim7 := { stood := { row := fnExactBisimTextUptoRow, standIns := [], harness := (true, "dbb707115eb387add1350b5a86909633a5626df1b9b3d413626cca26148ef471"), looks := true }, kinds := [], alts := [], laidByText := true, laidKinds := [.data, .data, .data], laidTests := true, laidLooks := .later }
def FnExactBisimTextUptoCardSaid : Prop := Claim7.holds Tryd.pinned (.plain (OpenSpec.upto fnExactBisimTextSpec)) fnExactBisimTextUptoCard

/-- THE SECOND FORM's CARD OF 'laws.FnExactProgText'. -/
def fnExactProgTextUptoCard : Claim7 := { stood := { row := fnExactProgTextUptoRow, standIns := [], harness := (true, "dbb707115eb387add1350b5a86909633a5626df1b9b3d413626cca26148ef471"), looks := true }, kinds := [], alts := [], laidByText := true, laidKinds := [.data, .data, .data, .widerDeep], laidTests := true, laidLooks := .later }
def FnExactProgTextUptoCardSaid : Prop := Claim7.holds Tryd.pinned (.plain (OpenSpec.upto fnExactProgTextSpec)) fnExactProgTextUptoCard
end Rows
end Go.Proofs.YtojheipllpkgdaaDoor
