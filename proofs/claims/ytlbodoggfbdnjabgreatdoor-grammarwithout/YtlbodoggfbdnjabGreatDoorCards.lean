/-
  DERIVED. GIVEN WITH THE SEED: THE CARDS: each row of YtlbodoggfbdnjabGreatDoorRows.lean that lists a variable, with what it lists TIED to the program's text (the seventh form; the later family's looks); each row that meets fmt, with fmt's text TOLD by the authors' own Lean function (tested against real Go, not proved from fmt's source: count such statements apart). THE CARD IS WHAT COUNTS. Prove the row's statement (the work); the ties are given (YtlbodoggfbdnjabGreatDoorTie.lean); close each card by the builder's one call (the guide's Derived/Test/ToyasCard.lean, 'card_holds'). Laid BY PROGRAM, IN A SANDBOX (cutbox-door.mjs). By AI agents, Wed Nov 11 2026. No macro, syntax, notation, axiom, sorry.
-/
import Derived.Test.YtlbodoggfbdnjabGreatDoorRows
import GoSem.ClaimSeven
namespace Go.Proofs.YtlbodoggfbdnjabGreatDoor
namespace Rows

/-- THE TIED CARD OF 'quittancelaw09.GrammarWithout'. -/
def grammarWithoutCard : Claim7 := { stood := { row := grammarWithoutRow, standIns := [], harness := (true, "fa13fe953b548f16a8f7de969f2782fa4a8b51327d65264c7d9dff9b31937bb9"), looks := true }, kinds := [], alts := [], laidByText := true, laidKinds := [.data, .data, .data, .data, .sentinel, .sentinel, .data, .pinned], laidTests := true, laidLooks := .later }
def GrammarWithoutCardSaid : Prop := Claim7.holds Tryz.pinned (.plain (OpenSpec.ofChange grammarWithoutSpec)) grammarWithoutCard

/-- THE SECOND FORM's CARD OF 'quittancelaw09.GrammarWithout'. -/
def grammarWithoutUptoCard : Claim7 := { stood := { row := grammarWithoutUptoRow, standIns := [], harness := (true, "fa13fe953b548f16a8f7de969f2782fa4a8b51327d65264c7d9dff9b31937bb9"), looks := true }, kinds := [], alts := [], laidByText := true, laidKinds := [.data, .data, .data, .data, .sentinel, .sentinel, .data, .pinned], laidTests := true, laidLooks := .later }
def GrammarWithoutUptoCardSaid : Prop := Claim7.holds Tryz.pinned (.plain (OpenSpec.upto grammarWithoutSpec)) grammarWithoutUptoCard
end Rows
end Go.Proofs.YtlbodoggfbdnjabGreatDoor
