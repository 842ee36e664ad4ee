/-
  DERIVED. GIVEN WITH THE SEED: THE CARDS: each row of YtmlkccmkdgfalaaGreatDoorRows.lean that lists a variable, with what it lists TIED to the program's text (the seventh form; the later family's looks); each row that meets fmt, with fmt's text TOLD by the authors' own Lean function (tested against real Go, not proved from fmt's source: count such statements apart). THE CARD IS WHAT COUNTS. Prove the row's statement (the work); the ties are given (YtmlkccmkdgfalaaGreatDoorTie.lean); close each card by the builder's one call (the guide's Derived/Test/ToyasCard.lean, 'card_holds'). Laid BY PROGRAM, IN A SANDBOX (cutbox-door.mjs). By AI agents, Wed Nov 11 2026. No macro, syntax, notation, axiom, sorry.
-/
import Derived.Test.YtmlkccmkdgfalaaGreatDoorRows
import GoSem.ClaimSeven
namespace Go.Proofs.YtmlkccmkdgfalaaGreatDoor
namespace Rows

/-- THE TIED CARD OF 'quittancelaw11.DuesTell'. -/
def duesTellCard : Claim7 := { stood := { row := duesTellRow, standIns := [], harness := (true, "6308e63093e86d742705c8980007bcd11867c6cc15910f94aeb96b6f6e5baddf"), looks := true }, kinds := [], alts := [], laidByText := true, laidKinds := [.data], laidTests := true, laidLooks := .later }
def DuesTellCardSaid : Prop := Claim7.holds Tryz.pinned (.plain (OpenSpec.ofChange duesTellSpec)) duesTellCard

/-- THE TIED CARD OF 'quittancelaw11.DuesSum'. -/
def duesSumCard : Claim7 := { stood := { row := duesSumRow, standIns := [], harness := (true, "6308e63093e86d742705c8980007bcd11867c6cc15910f94aeb96b6f6e5baddf"), looks := true }, kinds := [], alts := [], laidByText := true, laidKinds := [.data], laidTests := true, laidLooks := .later }
def DuesSumCardSaid : Prop := Claim7.holds Tryz.pinned (.plain (OpenSpec.ofChange duesSumSpec)) duesSumCard

/-- THE SECOND FORM's CARD OF 'quittancelaw11.DuesTell'. -/
def duesTellUptoCard : Claim7 := { stood := { row := duesTellUptoRow, standIns := [], harness := (true, "6308e63093e86d742705c8980007bcd11867c6cc15910f94aeb96b6f6e5baddf"), looks := true }, kinds := [], alts := [], laidByText := true, laidKinds := [.data], laidTests := true, laidLooks := .later }
def DuesTellUptoCardSaid : Prop := Claim7.holds Tryz.pinned (.plain (OpenSpec.upto duesTellSpec)) duesTellUptoCard

/-- THE SECOND FORM's CARD OF 'quittancelaw11.DuesSum'. -/
def duesSumUptoCard : Claim7 := { stood := { row := duesSumUptoRow, standIns := [], harness := (true, "6308e63093e86d742705c8980007bcd11867c6cc15910f94aeb96b6f6e5baddf"), looks := true }, kinds := [], alts := [], laidByText := true, laidKinds := [.data], laidTests := true, laidLooks := .later }
def DuesSumUptoCardSaid : Prop := Claim7.holds Tryz.pinned (.plain (OpenSpec.upto duesSumSpec)) duesSumUptoCard
end Rows
end Go.Proofs.YtmlkccmkdgfalaaGreatDoor
