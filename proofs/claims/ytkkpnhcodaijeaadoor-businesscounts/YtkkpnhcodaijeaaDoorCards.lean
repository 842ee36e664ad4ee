/-
  DERIVED. GIVEN WITH THE SEED: THE CARDS: each row of YtkkpnhcodaijeaaDoorRows.lean that lists a variable, with what it lists TIED to the program's text (the seventh form; the later family's looks); each row that meets fmt, with fmt's text TOLD by the authors' own Lean function (tested against real Go, not proved from fmt's source: count such statements apart). THE CARD IS WHAT COUNTS. Prove the row's statement (the work); the ties are given (YtkkpnhcodaijeaaDoorTie.lean); close each card by the builder's one call (the guide's Derived/Test/ToyasCard.lean, 'card_holds'). Laid BY PROGRAM, IN A SANDBOX (cutbox-door.mjs). By AI agents, Wed Nov 11 2026. No macro, syntax, notation, axiom, sorry.
-/
import Derived.Test.YtkkpnhcodaijeaaDoorRows
import GoSem.ClaimSeven
namespace Go.Proofs.YtkkpnhcodaijeaaDoor
namespace Rows

/-- THE TIED CARD OF 'quittancelaw05.BusinessTells'. -/
def businessTellsCard : Claim7 := { stood := { row := businessTellsRow, standIns := [], harness := (true, "e1bead60f38d7db9a905f8b5c7557c99378f268eeabe1e4dec57d59f46519798"), looks := false }, kinds := [], alts := [], laidByText := true, laidKinds := [.data], laidTests := true, laidLooks := .later }
def BusinessTellsCardSaid : Prop := Claim7.holds Tryd.pinned (.plain (OpenSpec.ofChange businessTellsSpec)) businessTellsCard

/-- THE TIED CARD OF 'quittancelaw05.BusinessRolls'. -/
def businessRollsCard : Claim7 := { stood := { row := businessRollsRow, standIns := [], harness := (true, "e1bead60f38d7db9a905f8b5c7557c99378f268eeabe1e4dec57d59f46519798"), looks := false }, kinds := [], alts := [], laidByText := true, laidKinds := [.data], laidTests := true, laidLooks := .later }
def BusinessRollsCardSaid : Prop := Claim7.holds Tryd.pinned (.plain (OpenSpec.ofChange businessRollsSpec)) businessRollsCard

/-- THE TIED CARD OF 'quittancelaw05.BusinessNil'. -/
def businessNilCard : Claim7 := { stood := { row := businessNilRow, standIns := [], harness := (true, "e1bead60f38d7db9a905f8b5c7557c99378f268eeabe1e4dec57d59f46519798"), looks := false }, kinds := [], alts := [], laidByText := true, laidKinds := [.data], laidTests := true, laidLooks := .later }
def BusinessNilCardSaid : Prop := Claim7.holds Tryd.pinned (.plain (OpenSpec.ofChange businessNilSpec)) businessNilCard

/-- THE TIED CARD OF 'quittancelaw05.BusinessCounts'. -/
def businessCountsCard : Claim7 := { stood := { row := businessCountsRow, standIns := [], harness := (true, "e1bead60f38d7db9a905f8b5c7557c99378f268eeabe1e4dec57d59f46519798"), looks := false }, kinds := [], alts := [], laidByText := true, laidKinds := [.data], laidTests := true, laidLooks := .later }
def BusinessCountsCardSaid : Prop := Claim7.holds Tryd.pinned (.plain (OpenSpec.ofChange businessCountsSpec)) businessCountsCard

/-- THE TIED CARD OF 'quittancelaw05.BusinessNear'. -/
def businessNearCard : Claim7 := { stood := { row := businessNearRow, standIns := [], harness := (true, "e1bead60f38d7db9a905f8b5c7557c99378f268eeabe1e4dec57d59f46519798"), looks := false }, kinds := [], alts := [], laidByText := true, laidKinds := [.data], laidTests := true, laidLooks := .later }
def BusinessNearCardSaid : Prop := Claim7.holds Tryd.pinned (.plain (OpenSpec.ofChange businessNearSpec)) businessNearCard

/-- THE SECOND FORM's CARD OF 'quittancelaw05.BusinessTells'. -/
def businessTellsUptoCard : Claim7 := { stood := { row := businessTellsUptoRow, standIns := [], harness := (true, "e1bead60f38d7db9a905f8b5c7557c99378f268eeabe1e4dec57d59f46519798"), looks := false }, kinds := [], alts := [], laidByText := true, laidKinds := [.data], laidTests := true, laidLooks := .later }
def BusinessTellsUptoCardSaid : Prop := Claim7.holds Tryd.pinned (.plain (OpenSpec.upto businessTellsSpec)) businessTellsUptoCard

/-- THE SECOND FORM's CARD OF 'quittancelaw05.BusinessRolls'. -/
def businessRollsUptoCard : Claim7 := { stood := { row := businessRollsUptoRow, standIns := [], harness := (true, "e1bead60f38d7db9a905f8b5c7557c99378f268eeabe1e4dec57d59f46519798"), looks := false }, kinds := [], alts := [], laidByText := true, laidKinds := [.data], laidTests := true, laidLooks := .later }
def BusinessRollsUptoCardSaid : Prop := Claim7.holds Tryd.pinned (.plain (OpenSpec.upto businessRollsSpec)) businessRollsUptoCard

/-- THE SECOND FORM's CARD OF 'quittancelaw05.BusinessNil'. -/
def businessNilUptoCard : Claim7 := { stood := { row := businessNilUptoRow, standIns := [], harness := (true, "e1bead60f38d7db9a905f8b5c7557c99378f268eeabe1e4dec57d59f46519798"), looks := false }, kinds := [], alts := [], laidByText := true, laidKinds := [.data], laidTests := true, laidLooks := .later }
def BusinessNilUptoCardSaid : Prop := Claim7.holds Tryd.pinned (.plain (OpenSpec.upto businessNilSpec)) businessNilUptoCard

/-- THE SECOND FORM's CARD OF 'quittancelaw05.BusinessCounts'. -/
def businessCountsUptoCard : Claim7 := { stood := { row := businessCountsUptoRow, standIns := [], harness := (true, "e1bead60f38d7db9a905f8b5c7557c99378f268eeabe1e4dec57d59f46519798"), looks := false }, kinds := [], alts := [], laidByText := true, laidKinds := [.data], laidTests := true, laidLooks := .later }
def BusinessCountsUptoCardSaid : Prop := Claim7.holds Tryd.pinned (.plain (OpenSpec.upto businessCountsSpec)) businessCountsUptoCard

/-- THE SECOND FORM's CARD OF 'quittancelaw05.BusinessNear'. -/
def businessNearUptoCard : Claim7 := { stood := { row := businessNearUptoRow, standIns := [], harness := (true, "e1bead60f38d7db9a905f8b5c7557c99378f268eeabe1e4dec57d59f46519798"), looks := false }, kinds := [], alts := [], laidByText := true, laidKinds := [.data], laidTests := true, laidLooks := .later }
def BusinessNearUptoCardSaid : Prop := Claim7.holds Tryd.pinned (.plain (OpenSpec.upto businessNearSpec)) businessNearUptoCard
end Rows
end Go.Proofs.YtkkpnhcodaijeaaDoor
