/-
  DERIVED. GIVEN WITH THE SEED: THE CARDS: each row of YtcgbepmhfimbjaaGreatDoorRows.lean that lists a variable, with what it lists TIED to the program's text (the seventh form; the later family's looks); each row that meets fmt, with fmt's text TOLD by the authors' own Lean function (tested against real Go, not proved from fmt's source: count such statements apart). THE CARD IS WHAT COUNTS. Prove the row's statement (the work); the ties are given (YtcgbepmhfimbjaaGreatDoorTie.lean); close each card by the builder's one call (the guide's Derived/Test/ToyasCard.lean, 'card_holds'). Laid BY PROGRAM, IN A SANDBOX (cutbox-door.mjs). By AI agents, Wed Nov 11 2026. No macro, syntax, notation, axiom, sorry.
-/
import Derived.Test.YtcgbepmhfimbjaaGreatDoorRows
import GoSem.ClaimSeven
namespace Go.Proofs.YtcgbepmhfimbjaaGreatDoor
namespace Rows

/-- THE TIED CARD OF 'laws.FnExactTripleText'. -/
def fnExactTripleTextCard : Claim7 := { stood := { row := fnExactTripleTextRow, standIns := [], harness := (true, "298e6bb4a01fa835e6edc779c5a8ed2f732a89bd2682d6b16cdaa39f8df9f620"), looks := true }, kinds := [], alts := [], laidByText := true, laidKinds := [.data, .data, .data, .widerDeep], laidTests := true, laidLooks := .later }
def FnExactTripleTextCardSaid : Prop := Claim7.holds Tryz.pinned (.plain (OpenSpec.ofChange fnExactTripleTextSpec)) fnExactTripleTextCard

/-- THE TIED CARD OF 'laws.FnExactProofText'. -/
def fnExactProofTextCard : Claim7 := { stood := { row := fnExactProofTextRow, standIns := [], harness := (true, "298e6bb4a01fa835e6edc779c5a8ed2f732a89bd2682d6b16cdaa39f8df9f620"), looks := true }, kinds := [], alts := [], laidByText := true, laidKinds := [.data, .data, .data], laidTests := true, laidLooks := .later }
def FnExactProofTextCardSaid : Prop := Claim7.holds Tryz.pinned (.plain (OpenSpec.ofChange fnExactProofTextSpec)) fnExactProofTextCard

/-- THE SECOND FORM's CARD OF 'laws.FnExactTripleText'. -/
def fnExactTripleTextUptoCard : Claim7 := { stood := { row := fnExactTripleTextUptoRow, standIns := [], harness := (true, "298e6bb4a01fa835e6edc779c5a8ed2f732a89bd2682d6b16cdaa39f8df9f620"), looks := true }, kinds := [], alts := [], laidByText := true, laidKinds := [.data, .data, .data, .widerDeep], laidTests := true, laidLooks := .later }
def FnExactTripleTextUptoCardSaid : Prop := Claim7.holds Tryz.pinned (.plain (OpenSpec.upto fnExactTripleTextSpec)) fnExactTripleTextUptoCard

/-- THE SECOND FORM's CARD OF 'laws.FnExactProofText'. -/
def fnExactProofTextUptoCard : Claim7 := { stood := { row := fnExactProofTextUptoRow, standIns := [], harness := (true, "298e6bb4a01fa835e6edc779c5a8ed2f732a89bd2682d6b16cdaa39f8df9f620"), looks := true }, kinds := [], alts := [], laidByText := true, laidKinds := [.data, .data, .data], laidTests := true, laidLooks := .later }
def FnExactProofTextUptoCardSaid : Prop := Claim7.holds Tryz.pinned (.plain (OpenSpec.upto fnExactProofTextSpec)) fnExactProofTextUptoCard
end Rows
end Go.Proofs.YtcgbepmhfimbjaaGreatDoor
