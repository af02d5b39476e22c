/-
  DERIVED. GIVEN WITH THE SEED: THE CARDS: each row of YtlaebkhmefnmnaaDoorRows.lean that lists a variable, with what it lists TIED to the program's text (the seventh form; the later family's looks); each row that meets fmt, with fmt's text TOLD by the authors' own Lean function (tested against real Go, not proved from fmt's source: count such statements apart). THE CARD IS WHAT COUNTS. Prove the row's statement (the work); the ties are given (YtlaebkhmefnmnaaDoorTie.lean); close each card by the builder's one call (the guide's Derived/Test/ToyasCard.lean, 'card_holds'). Laid BY PROGRAM, IN A SANDBOX (cutbox-door.mjs). By AI agents, Wed Nov 11 2026. No macro, syntax, notation, axiom, sorry.
-/
import Derived.Test.YtlaebkhmefnmnaaDoorRows
import GoSem.ClaimSeven
namespace Go.Proofs.YtlaebkhmefnmnaaDoor
namespace Rows

/-- THE TIED CARD OF 'laws.FnExactModelText'. -/
def fnExactModelTextCard : Claim7 := { stood := { row := fnExactModelTextRow, standIns := [], harness := (true, "55b5ffc819299404ff74675012c7ed192e2c41036c8cb2cae685e7ea51f54224"), looks := true }, kinds := [], alts := [], laidByText := true, laidKinds := [.data, .data, .data], laidTests := true, laidLooks := .later }
def FnExactModelTextCardSaid : Prop := Claim7.holds Tryd.pinned (.plain (OpenSpec.ofChange fnExactModelTextSpec)) fnExactModelTextCard

/-- THE TIED CARD OF 'laws.FnExactAutomatonText'. -/
def fnExactAutomatonTextCard : Claim7 := { stood := { row := fnExactAutomatonTextRow, standIns := [], harness := (true, "55b5ffc819299404ff74675012c7ed192e2c41036c8cb2cae685e7ea51f54224"), looks := true }, kinds := [], alts := [], laidByText := true, laidKinds := [.data, .data, .data], laidTests := true, laidLooks := .later }
def FnExactAutomatonTextCardSaid : Prop := Claim7.holds Tryd.pinned (.plain (OpenSpec.ofChange fnExactAutomatonTextSpec)) fnExactAutomatonTextCard

/-- THE TIED CARD OF 'laws.FnExactBisimText'. -/
def fnExactBisimTextCard : Claim7 := { stood := { row := fnExactBisimTextRow, standIns := [], harness := (true, "55b5ffc819299404ff74675012c7ed192e2c41036c8cb2cae685e7ea51f54224"), looks := true }, kinds := [], alts := [], laidByText := true, laidKinds := [.data, .data, .data], laidTests := true, laidLooks := .later }
def FnExactBisimTextCardSaid : Prop := Claim7.holds Tryd.pinned (.plain (OpenSpec.ofChange fnExactBisimTextSpec)) fnExactBisimTextCard

/-- THE SECOND FORM's CARD OF 'laws.FnExactModelText'. -/
def fnExactModelTextUptoCard : Claim7 := { stood := { row := fnExactModelTextUptoRow, standIns := [], harness := (true, "55b5ffc819299404ff74675012c7ed192e2c41036c8cb2cae685e7ea51f54224"), looks := true }, kinds := [], alts := [], laidByText := true, laidKinds := [.data, .data, .data], laidTests := true, laidLooks := .later }
def FnExactModelTextUptoCardSaid : Prop := Claim7.holds Tryd.pinned (.plain (OpenSpec.upto fnExactModelTextSpec)) fnExactModelTextUptoCard

/-- THE SECOND FORM's CARD OF 'laws.FnExactAutomatonText'. -/
def fnExactAutomatonTextUptoCard : Claim7 := { stood := { row := fnExactAutomatonTextUptoRow, standIns := [], harness := (true, "55b5ffc819299404ff74675012c7ed192e2c41036c8cb2cae685e7ea51f54224"), looks := true }, kinds := [], alts := [], laidByText := true, laidKinds := [.data, .data, .data], laidTests := true, laidLooks := .later }
def FnExactAutomatonTextUptoCardSaid : Prop := Claim7.holds Tryd.pinned (.plain (OpenSpec.upto fnExactAutomatonTextSpec)) fnExactAutomatonTextUptoCard

/-- THE SECOND FORM's CARD OF 'laws.FnExactBisimText'. -/
def fnExactBisimTextUptoCard : Claim7 := { stood := { row := fnExactBisimTextUptoRow, standIns := [], harness := (true, "55b5ffc819299404ff74675012c7ed192e2c41036c8cb2cae685e7ea51f54224"), looks := true }, kinds := [], alts := [], laidByText := true, laidKinds := [.data, .data, .data], laidTests := true, laidLooks := .later }
def FnExactBisimTextUptoCardSaid : Prop := Claim7.holds Tryd.pinned (.plain (OpenSpec.upto fnExactBisimTextSpec)) fnExactBisimTextUptoCard
end Rows
end Go.Proofs.YtlaebkhmefnmnaaDoor
