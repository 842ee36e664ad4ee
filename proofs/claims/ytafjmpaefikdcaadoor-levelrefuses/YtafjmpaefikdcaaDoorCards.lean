/-
  DERIVED. GIVEN WITH THE SEED: THE CARDS: each row of YtafjmpaefikdcaaDoorRows.lean that lists a variable, with what it lists TIED to the program's text (the seventh form; the later family's looks); each row that meets fmt, with fmt's text TOLD by the authors' own Lean function (tested against real Go, not proved from fmt's source: count such statements apart). THE CARD IS WHAT COUNTS. Prove the row's statement (the work); the ties are given (YtafjmpaefikdcaaDoorTie.lean); close each card by the builder's one call (the guide's Derived/Test/ToyasCard.lean, 'card_holds'). Laid BY PROGRAM, IN A SANDBOX (cutbox-door.mjs). By AI agents, Wed Nov 11 2026. No macro, syntax, notation, axiom, sorry.
-/
import Derived.Test.YtafjmpaefikdcaaDoorRows
import GoSem.ClaimSeven
namespace Go.Proofs.YtafjmpaefikdcaaDoor
namespace Rows

/-- THE TIED CARD OF 'quittancelaw13.LevelNothing'. -/
def levelNothingCard : Claim7 := { stood := { row := levelNothingRow, standIns := [], harness := (true, "27b8051f214bc07ea0621669e8722eb796bc2a6b6ed32521ef53140e0e1bf1d8"), looks := true }, kinds := [], alts := [], laidByText := true, laidKinds := [.data], laidTests := true, laidLooks := .later }
def LevelNothingCardSaid : Prop := Claim7.holds Tryd.pinned (.plain (OpenSpec.ofChange levelNothingSpec)) levelNothingCard

/-- THE TIED CARD OF 'quittancelaw13.LevelRefuses'. -/
def levelRefusesCard : Claim7 := { stood := { row := levelRefusesRow, standIns := [], harness := (true, "27b8051f214bc07ea0621669e8722eb796bc2a6b6ed32521ef53140e0e1bf1d8"), looks := true }, kinds := [], alts := [], laidByText := true, laidKinds := [.data], laidTests := true, laidLooks := .later }
def LevelRefusesCardSaid : Prop := Claim7.holds Tryd.pinned (.plain (OpenSpec.ofChange levelRefusesSpec)) levelRefusesCard

/-- THE SECOND FORM's CARD OF 'quittancelaw13.LevelNothing'. -/
def levelNothingUptoCard : Claim7 := { stood := { row := levelNothingUptoRow, standIns := [], harness := (true, "27b8051f214bc07ea0621669e8722eb796bc2a6b6ed32521ef53140e0e1bf1d8"), looks := true }, kinds := [], alts := [], laidByText := true, laidKinds := [.data], laidTests := true, laidLooks := .later }
def LevelNothingUptoCardSaid : Prop := Claim7.holds Tryd.pinned (.plain (OpenSpec.upto levelNothingSpec)) levelNothingUptoCard

/-- THE SECOND FORM's CARD OF 'quittancelaw13.LevelRefuses'. -/
def levelRefusesUptoCard : Claim7 := { stood := { row := levelRefusesUptoRow, standIns := [], harness := (true, "27b8051f214bc07ea0621669e8722eb796bc2a6b6ed32521ef53140e0e1bf1d8"), looks := true }, kinds := [], alts := [], laidByText := true, laidKinds := [.data], laidTests := true, laidLooks := .later }
def LevelRefusesUptoCardSaid : Prop := Claim7.holds Tryd.pinned (.plain (OpenSpec.upto levelRefusesSpec)) levelRefusesUptoCard
end Rows
end Go.Proofs.YtafjmpaefikdcaaDoor
