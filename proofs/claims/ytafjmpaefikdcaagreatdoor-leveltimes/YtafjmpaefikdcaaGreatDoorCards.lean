/-
  DERIVED. GIVEN WITH THE SEED: THE CARDS: each row of YtafjmpaefikdcaaGreatDoorRows.lean that lists a variable, with what it lists TIED to the program's text (the seventh form; the later family's looks); each row that meets fmt, with fmt's text TOLD by the authors' own Lean function (tested against real Go, not proved from fmt's source: count such statements apart). THE CARD IS WHAT COUNTS. Prove the row's statement (the work); the ties are given (YtafjmpaefikdcaaGreatDoorTie.lean); close each card by the builder's one call (the guide's Derived/Test/ToyasCard.lean, 'card_holds'). Laid BY PROGRAM, IN A SANDBOX (cutbox-door.mjs). By AI agents, Wed Nov 11 2026. No macro, syntax, notation, axiom, sorry.
-/
import Derived.Test.YtafjmpaefikdcaaGreatDoorRows
import GoSem.ClaimSeven
namespace Go.Proofs.YtafjmpaefikdcaaGreatDoor
namespace Rows

/-- THE TIED CARD OF 'quittancelaw13.LevelTells'. -/
def levelTellsCard : Claim7 := { stood := { row := levelTellsRow, standIns := [], harness := (true, "c543580e56454306eb4da1407b43ad38deb9efa0a72b2b654fb37b3034ccb81f"), looks := true }, kinds := [], alts := [], laidByText := true, laidKinds := [.data], laidTests := true, laidLooks := .later }
def LevelTellsCardSaid : Prop := Claim7.holds Tryz.pinned (.plain (OpenSpec.ofChange levelTellsSpec)) levelTellsCard

/-- THE TIED CARD OF 'quittancelaw13.LevelLeast'. -/
def levelLeastCard : Claim7 := { stood := { row := levelLeastRow, standIns := [], harness := (true, "c543580e56454306eb4da1407b43ad38deb9efa0a72b2b654fb37b3034ccb81f"), looks := true }, kinds := [], alts := [], laidByText := true, laidKinds := [.data], laidTests := true, laidLooks := .later }
def LevelLeastCardSaid : Prop := Claim7.holds Tryz.pinned (.plain (OpenSpec.ofChange levelLeastSpec)) levelLeastCard

/-- THE TIED CARD OF 'quittancelaw13.LevelTimes'. -/
def levelTimesCard : Claim7 := { stood := { row := levelTimesRow, standIns := [], harness := (true, "c543580e56454306eb4da1407b43ad38deb9efa0a72b2b654fb37b3034ccb81f"), looks := true }, kinds := [], alts := [], laidByText := true, laidKinds := [.data], laidTests := true, laidLooks := .later }
def LevelTimesCardSaid : Prop := Claim7.holds Tryz.pinned (.plain (OpenSpec.ofChange levelTimesSpec)) levelTimesCard

/-- THE SECOND FORM's CARD OF 'quittancelaw13.LevelTells'. -/
def levelTellsUptoCard : Claim7 := { stood := { row := levelTellsUptoRow, standIns := [], harness := (true, "c543580e56454306eb4da1407b43ad38deb9efa0a72b2b654fb37b3034ccb81f"), looks := true }, kinds := [], alts := [], laidByText := true, laidKinds := [.data], laidTests := true, laidLooks := .later }
def LevelTellsUptoCardSaid : Prop := Claim7.holds Tryz.pinned (.plain (OpenSpec.upto levelTellsSpec)) levelTellsUptoCard

/-- THE SECOND FORM's CARD OF 'quittancelaw13.LevelLeast'. -/
def levelLeastUptoCard : Claim7 := { stood := { row := levelLeastUptoRow, standIns := [], harness := (true, "c543580e56454306eb4da1407b43ad38deb9efa0a72b2b654fb37b3034ccb81f"), looks := true }, kinds := [], alts := [], laidByText := true, laidKinds := [.data], laidTests := true, laidLooks := .later }
def LevelLeastUptoCardSaid : Prop := Claim7.holds Tryz.pinned (.plain (OpenSpec.upto levelLeastSpec)) levelLeastUptoCard

/-- THE SECOND FORM's CARD OF 'quittancelaw13.LevelTimes'. -/
def levelTimesUptoCard : Claim7 := { stood := { row := levelTimesUptoRow, standIns := [], harness := (true, "c543580e56454306eb4da1407b43ad38deb9efa0a72b2b654fb37b3034ccb81f"), looks := true }, kinds := [], alts := [], laidByText := true, laidKinds := [.data], laidTests := true, laidLooks := .later }
def LevelTimesUptoCardSaid : Prop := Claim7.holds Tryz.pinned (.plain (OpenSpec.upto levelTimesSpec)) levelTimesUptoCard
end Rows
end Go.Proofs.YtafjmpaefikdcaaGreatDoor
