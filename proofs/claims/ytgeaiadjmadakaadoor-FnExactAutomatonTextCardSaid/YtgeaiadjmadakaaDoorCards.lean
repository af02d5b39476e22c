/-
  DERIVED. GIVEN WITH THE SEED: THE CARDS: each row of YtgeaiadjmadakaaDoorRows.lean that lists a variable, with what it lists TIED to the program's text (the seventh form; the later family's looks); each row that meets fmt, with fmt's text TOLD by the authors' own Lean function (tested against real Go, not proved from fmt's source: count such statements apart). THE CARD IS WHAT COUNTS. Prove the row's statement (the work); the ties are given (YtgeaiadjmadakaaDoorTie.lean); close each card by the builder's one call (the guide's Derived/Test/ToyasCard.lean, 'card_holds'). Laid BY PROGRAM, IN A SANDBOX (cutbox-door.mjs). By AI agents, Wed Nov 11 2026. No macro, syntax, notation, axiom, sorry.
-/
import Derived.Test.YtgeaiadjmadakaaDoorRows
import GoSem.ClaimSeven
namespace Go.Proofs.YtgeaiadjmadakaaDoor
namespace Rows

/-- THE TIED CARD OF 'laws.FnExactEquationText'. -/
def fnExactEquationTextCard : Claim7 := { stood := { row := fnExactEquationTextRow, standIns := [], harness := (true, "9d4651ef638a9879ce03cf3efdb0679fd2b180cb58d60b6ec1c100d9e7d2ef30"), looks := true }, kinds := [], alts := [], laidByText := true, laidKinds := [.data, .data, .data], laidTests := true, laidLooks := .later }
def FnExactEquationTextCardSaid : Prop := Claim7.holds Tryd.pinned (.plain (OpenSpec.ofChange fnExactEquationTextSpec)) fnExactEquationTextCard

/-- THE TIED CARD OF 'laws.FnExactAutomatonText'. -/
def fnExactAutomatonTextCard : Claim7 := { stood := { row := fnExactAutomatonTextRow, standIns := [], harness := (true, "9d4651ef638a9879ce03cf3efdb0679fd2b180cb58d60b6ec1c100d9e7d2ef30"), looks := true }, kinds := [], alts := [], laidByText := true, laidKinds := [.data, .data, .data], laidTests := true, laidLooks := .later }
def FnExactAutomatonTextCardSaid : Prop := Claim7.holds Tryd.pinned (.plain (OpenSpec.ofChange fnExactAutomatonTextSpec)) fnExactAutomatonTextCard

/-- THE TIED CARD OF 'laws.FnExactBisimText'. -/
def fnExactBisimTextCard : Claim7 := { stood := { row := fnExactBisimTextRow, standIns := [], harness := (true, "9d4651ef638a9879ce03cf3efdb0679fd2b180cb58d60b6ec1c100d9e7d2ef30"), looks := true }, kinds := [], alts := [], laidByText := true, laidKinds := [.data, .data, .data], laidTests := true, laidLooks := .later }
def FnExactBisimTextCardSaid : Prop := Claim7.holds Tryd.pinned (.plain (OpenSpec.ofChange fnExactBisimTextSpec)) fnExactBisimTextCard

/-- THE SECOND FORM's CARD OF 'laws.FnExactEquationText'. -/
def fnExactEquationTextUptoCard : Claim7 := { stood := { row := fnExactEquationTextUptoRow, standIns := [], harness := (true, "9d4651ef638a9879ce03cf3efdb0679fd2b180cb58d60b6ec1c100d9e7d2ef30"), looks := true }, kinds := [], alts := [], laidByText := true, laidKinds := [.data, .data, .data], laidTests := true, laidLooks := .later }
def FnExactEquationTextUptoCardSaid : Prop := Claim7.holds Tryd.pinned (.plain (OpenSpec.upto fnExactEquationTextSpec)) fnExactEquationTextUptoCard

/-- THE SECOND FORM's CARD OF 'laws.FnExactAutomatonText'. -/
def fnExactAutomatonTextUptoCard : Claim7 := { stood := { row := fnExactAutomatonTextUptoRow, standIns := [], harness := (true, "9d4651ef638a9879ce03cf3efdb0679fd2b180cb58d60b6ec1c100d9e7d2ef30"), looks := true }, kinds := [], alts := [], laidByText := true, laidKinds := [.data, .data, .data], laidTests := true, laidLooks := .later }
def FnExactAutomatonTextUptoCardSaid : Prop := Claim7.holds Tryd.pinned (.plain (OpenSpec.upto fnExactAutomatonTextSpec)) fnExactAutomatonTextUptoCard

/-- THE SECOND FORM's CARD OF 'laws.FnExactBisimText'. -/
def fnExactBisimTextUptoCard : Claim7 := { stood := { row := fnExactBisimTextUptoRow, standIns := [], harness := (true, "9d4651ef638a9879ce03cf3efdb0679fd2b180cb58d60b6ec1c100d9e7d2ef30"), looks := true }, kinds := [], alts := [], laidByText := true, laidKinds := [.data, .data, .data], laidTests := true, laidLooks := .later }
def FnExactBisimTextUptoCardSaid : Prop := Claim7.holds Tryd.pinned (.plain (OpenSpec.upto fnExactBisimTextSpec)) fnExactBisimTextUptoCard
end Rows
end Go.Proofs.YtgeaiadjmadakaaDoor
