/-
  DERIVED. GIVEN WITH THE SEED: THE CARDS: each row of YtmlkccmkdgfalaaDoorRows.lean that lists a variable, with what it lists TIED to the program's text (the seventh form; the later family's looks); each row that meets fmt, with fmt's text TOLD by the authors' own Lean function (tested against real Go, not proved from fmt's source: count such statements apart). THE CARD IS WHAT COUNTS. Prove the row's statement (the work); the ties are given (YtmlkccmkdgfalaaDoorTie.lean); close each card by the builder's one call (the guide's Derived/Test/ToyasCard.lean, 'card_holds'). Laid BY PROGRAM, IN A SANDBOX (cutbox-door.mjs). By AI agents, Wed Nov 11 2026. No macro, syntax, notation, axiom, sorry.
-/
import Derived.Test.YtmlkccmkdgfalaaDoorRows
import GoSem.ClaimSeven
namespace Go.Proofs.YtmlkccmkdgfalaaDoor
namespace Rows

/-- THE TIED CARD OF 'quittancelaw11.DuesRefuse'. -/
def duesRefuseCard : Claim7 := { stood := { row := duesRefuseRow, standIns := [], harness := (true, "93887fca380a9eceee59b4e55029649a0cbea52ab16cf0076988ed03eb3212f5"), looks := true }, kinds := [], alts := [], laidByText := true, laidKinds := [.data], laidTests := true, laidLooks := .later }
def DuesRefuseCardSaid : Prop := Claim7.holds Tryd.pinned (.plain (OpenSpec.ofChange duesRefuseSpec)) duesRefuseCard

/-- THE SECOND FORM's CARD OF 'quittancelaw11.DuesRefuse'. -/
def duesRefuseUptoCard : Claim7 := { stood := { row := duesRefuseUptoRow, standIns := [], harness := (true, "93887fca380a9eceee59b4e55029649a0cbea52ab16cf0076988ed03eb3212f5"), looks := true }, kinds := [], alts := [], laidByText := true, laidKinds := [.data], laidTests := true, laidLooks := .later }
def DuesRefuseUptoCardSaid : Prop := Claim7.holds Tryd.pinned (.plain (OpenSpec.upto duesRefuseSpec)) duesRefuseUptoCard
end Rows
end Go.Proofs.YtmlkccmkdgfalaaDoor
