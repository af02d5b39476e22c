/-
  DERIVED. GIVEN WITH THE SEED: THE CARDS: each row of YtlfafcbieeambaaDoorRows.lean that lists a variable, with what it lists TIED to the program's text (the seventh form; the later family's looks); each row that meets fmt, with fmt's text TOLD by the authors' own Lean function (tested against real Go, not proved from fmt's source: count such statements apart). THE CARD IS WHAT COUNTS. Prove the row's statement (the work); the ties are given (YtlfafcbieeambaaDoorTie.lean); close each card by the builder's one call (the guide's Derived/Test/ToyasCard.lean, 'card_holds'). Laid BY PROGRAM, IN A SANDBOX (cutbox-door.mjs). By AI agents, Wed Nov 11 2026. No macro, syntax, notation, axiom, sorry.
-/
import Derived.Test.YtlfafcbieeambaaDoorRows
import GoSem.ClaimSeven
namespace Go.Proofs.YtlfafcbieeambaaDoor
namespace Rows

/-- THE TIED CARD OF 'laws.FnExactValidProg'. -/
def fnExactValidProgCard : Claim7 := { stood := { row := fnExactValidProgRow, standIns := [], harness := (true, "e456242cf1c1eb795db061e9d6c5772766edea27b0fcf8baae8ba8e9fcb55965"), looks := true }, kinds := [], alts := [], laidByText := true, laidKinds := [.widerDeep], laidTests := true, laidLooks := .later }
def FnExactValidProgCardSaid : Prop := Claim7.holds Tryd.pinned (.plain (OpenSpec.ofChange fnExactValidProgSpec)) fnExactValidProgCard

/-- THE TIED CARD OF 'laws.FnExactFollowWord'. -/
def fnExactFollowWordCard : Claim7 := { stood := { row := fnExactFollowWordRow, standIns := [], harness := (true, "e456242cf1c1eb795db061e9d6c5772766edea27b0fcf8baae8ba8e9fcb55965"), looks := true }, kinds := [], alts := [], laidByText := true, laidKinds := [.sentinel], laidTests := true, laidLooks := .later }
def FnExactFollowWordCardSaid : Prop := Claim7.holds Tryd.pinned (.plain (OpenSpec.ofChange fnExactFollowWordSpec)) fnExactFollowWordCard

/-- THE TIED CARD OF 'laws.FnExactProgExpr'. -/
def fnExactProgExprCard : Claim7 := { stood := { row := fnExactProgExprRow, standIns := [], harness := (true, "e456242cf1c1eb795db061e9d6c5772766edea27b0fcf8baae8ba8e9fcb55965"), looks := true }, kinds := [], alts := [], laidByText := true, laidKinds := [.widerDeep], laidTests := true, laidLooks := .later }
def FnExactProgExprCardSaid : Prop := Claim7.holds Tryd.pinned (.plain (OpenSpec.ofChange fnExactProgExprSpec)) fnExactProgExprCard

/-- THE SECOND FORM's CARD OF 'laws.FnExactValidProg'. -/
def fnExactValidProgUptoCard : Claim7 := { stood := { row := fnExactValidProgUptoRow, standIns := [], harness := (true, "e456242cf1c1eb795db061e9d6c5772766edea27b0fcf8baae8ba8e9fcb55965"), looks := true }, kinds := [], alts := [], laidByText := true, laidKinds := [.widerDeep], laidTests := true, laidLooks := .later }
def FnExactValidProgUptoCardSaid : Prop := Claim7.holds Tryd.pinned (.plain (OpenSpec.upto fnExactValidProgSpec)) fnExactValidProgUptoCard

/-- THE SECOND FORM's CARD OF 'laws.FnExactFollowWord'. -/
def fnExactFollowWordUptoCard : Claim7 := { stood := { row := fnExactFollowWordUptoRow, standIns := [], harness := (true, "e456242cf1c1eb795db061e9d6c5772766edea27b0fcf8baae8ba8e9fcb55965"), looks := true }, kinds := [], alts := [], laidByText := true, laidKinds := [.sentinel], laidTests := true, laidLooks := .later }
def FnExactFollowWordUptoCardSaid : Prop := Claim7.holds Tryd.pinned (.plain (OpenSpec.upto fnExactFollowWordSpec)) fnExactFollowWordUptoCard

/-- THE SECOND FORM's CARD OF 'laws.FnExactProgExpr'. -/
def fnExactProgExprUptoCard : Claim7 := { stood := { row := fnExactProgExprUptoRow, standIns := [], harness := (true, "e456242cf1c1eb795db061e9d6c5772766edea27b0fcf8baae8ba8e9fcb55965"), looks := true }, kinds := [], alts := [], laidByText := true, laidKinds := [.widerDeep], laidTests := true, laidLooks := .later }
def FnExactProgExprUptoCardSaid : Prop := Claim7.holds Tryd.pinned (.plain (OpenSpec.upto fnExactProgExprSpec)) fnExactProgExprUptoCard
end Rows
end Go.Proofs.YtlfafcbieeambaaDoor
