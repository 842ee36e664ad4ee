/-
  DERIVED. GIVEN WITH THE SEED: THE CARDS: each row of YtcijdkbopiaicaaGreatDoorRows.lean that lists a variable, with what it lists TIED to the program's text (the seventh form; the later family's looks); each row that meets fmt, with fmt's text TOLD by the authors' own Lean function (tested against real Go, not proved from fmt's source: count such statements apart). THE CARD IS WHAT COUNTS. Prove the row's statement (the work); the ties are given (YtcijdkbopiaicaaGreatDoorTie.lean); close each card by the builder's one call (the guide's Derived/Test/ToyasCard.lean, 'card_holds'). Laid BY PROGRAM, IN A SANDBOX (cutbox-door.mjs). By AI agents, Wed Nov 11 2026. No macro, syntax, notation, axiom, sorry.
-/
import Derived.Test.YtcijdkbopiaicaaGreatDoorRows
import GoSem.ClaimSeven
namespace Go.Proofs.YtcijdkbopiaicaaGreatDoor
namespace Rows

/-- THE TIED CARD OF 'quittancelaw09.GrammarCut'. -/
def grammarCutCard : Claim7 := { stood := { row := grammarCutRow, standIns := [], harness := (true, "fb2223f78f776d987474a3cd5c8c1abc89c1f9df869dbdbbcad5aac8c0a7d2a8"), looks := true }, kinds := [], alts := [], laidByText := true, laidKinds := [.data, .data, .data, .data, .sentinel, .sentinel, .data, .pinned], laidTests := true, laidLooks := .later }
def GrammarCutCardSaid : Prop := Claim7.holds Tryz.pinned (.plain (OpenSpec.ofChange grammarCutSpec)) grammarCutCard

/-- THE SECOND FORM's CARD OF 'quittancelaw09.GrammarCut'. -/
def grammarCutUptoCard : Claim7 := { stood := { row := grammarCutUptoRow, standIns := [], harness := (true, "fb2223f78f776d987474a3cd5c8c1abc89c1f9df869dbdbbcad5aac8c0a7d2a8"), looks := true }, kinds := [], alts := [], laidByText := true, laidKinds := [.data, .data, .data, .data, .sentinel, .sentinel, .data, .pinned], laidTests := true, laidLooks := .later }
def GrammarCutUptoCardSaid : Prop := Claim7.holds Tryz.pinned (.plain (OpenSpec.upto grammarCutSpec)) grammarCutUptoCard
end Rows
end Go.Proofs.YtcijdkbopiaicaaGreatDoor
