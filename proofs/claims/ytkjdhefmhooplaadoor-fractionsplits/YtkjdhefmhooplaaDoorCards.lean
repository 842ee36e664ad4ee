/-
  DERIVED. GIVEN WITH THE SEED: THE CARDS: each row of YtkjdhefmhooplaaDoorRows.lean that lists a variable, with what it lists TIED to the program's text (the seventh form; the later family's looks); each row that meets fmt, with fmt's text TOLD by the authors' own Lean function (tested against real Go, not proved from fmt's source: count such statements apart). THE CARD IS WHAT COUNTS. Prove the row's statement (the work); the ties are given (YtkjdhefmhooplaaDoorTie.lean); close each card by the builder's one call (the guide's Derived/Test/ToyasCard.lean, 'card_holds'). Laid BY PROGRAM, IN A SANDBOX (cutbox-door.mjs). By AI agents, Wed Nov 11 2026. No macro, syntax, notation, axiom, sorry.
-/
import Derived.Test.YtkjdhefmhooplaaDoorRows
import GoSem.ClaimSeven
namespace Go.Proofs.YtkjdhefmhooplaaDoor
namespace Rows

/-- THE TIED CARD OF 'quittancelaw06.FractionTells'. -/
def fractionTellsCard : Claim7 := { stood := { row := fractionTellsRow, standIns := [], harness := (true, "07fceca6bf3a052230ee5bdebad8d05fb1e1a50b7abbfdd8d74db451e6f620fb"), looks := true }, kinds := [], alts := [], laidByText := true, laidKinds := [.data], laidTests := true, laidLooks := .later }
def FractionTellsCardSaid : Prop := Claim7.holds Tryd.pinned (.plain (OpenSpec.ofChange fractionTellsSpec)) fractionTellsCard

/-- THE TIED CARD OF 'quittancelaw06.FractionSplits'. -/
def fractionSplitsCard : Claim7 := { stood := { row := fractionSplitsRow, standIns := [], harness := (true, "07fceca6bf3a052230ee5bdebad8d05fb1e1a50b7abbfdd8d74db451e6f620fb"), looks := true }, kinds := [], alts := [], laidByText := true, laidKinds := [.data], laidTests := true, laidLooks := .later }
def FractionSplitsCardSaid : Prop := Claim7.holds Tryd.pinned (.plain (OpenSpec.ofChange fractionSplitsSpec)) fractionSplitsCard

/-- THE TIED CARD OF 'quittancelaw06.FractionYears'. -/
def fractionYearsCard : Claim7 := { stood := { row := fractionYearsRow, standIns := [], harness := (true, "07fceca6bf3a052230ee5bdebad8d05fb1e1a50b7abbfdd8d74db451e6f620fb"), looks := true }, kinds := [], alts := [], laidByText := true, laidKinds := [.data], laidTests := true, laidLooks := .later }
def FractionYearsCardSaid : Prop := Claim7.holds Tryd.pinned (.plain (OpenSpec.ofChange fractionYearsSpec)) fractionYearsCard

/-- THE TIED CARD OF 'quittancelaw06.FractionMonths'. -/
def fractionMonthsCard : Claim7 := { stood := { row := fractionMonthsRow, standIns := [], harness := (true, "07fceca6bf3a052230ee5bdebad8d05fb1e1a50b7abbfdd8d74db451e6f620fb"), looks := true }, kinds := [], alts := [], laidByText := true, laidKinds := [.data], laidTests := true, laidLooks := .later }
def FractionMonthsCardSaid : Prop := Claim7.holds Tryd.pinned (.plain (OpenSpec.ofChange fractionMonthsSpec)) fractionMonthsCard

/-- THE SECOND FORM's CARD OF 'quittancelaw06.FractionTells'. -/
def fractionTellsUptoCard : Claim7 := { stood := { row := fractionTellsUptoRow, standIns := [], harness := (true, "07fceca6bf3a052230ee5bdebad8d05fb1e1a50b7abbfdd8d74db451e6f620fb"), looks := true }, kinds := [], alts := [], laidByText := true, laidKinds := [.data], laidTests := true, laidLooks := .later }
def FractionTellsUptoCardSaid : Prop := Claim7.holds Tryd.pinned (.plain (OpenSpec.upto fractionTellsSpec)) fractionTellsUptoCard

/-- THE SECOND FORM's CARD OF 'quittancelaw06.FractionSplits'. -/
def fractionSplitsUptoCard : Claim7 := { stood := { row := fractionSplitsUptoRow, standIns := [], harness := (true, "07fceca6bf3a052230ee5bdebad8d05fb1e1a50b7abbfdd8d74db451e6f620fb"), looks := true }, kinds := [], alts := [], laidByText := true, laidKinds := [.data], laidTests := true, laidLooks := .later }
def FractionSplitsUptoCardSaid : Prop := Claim7.holds Tryd.pinned (.plain (OpenSpec.upto fractionSplitsSpec)) fractionSplitsUptoCard

/-- THE SECOND FORM's CARD OF 'quittancelaw06.FractionYears'. -/
def fractionYearsUptoCard : Claim7 := { stood := { row := fractionYearsUptoRow, standIns := [], harness := (true, "07fceca6bf3a052230ee5bdebad8d05fb1e1a50b7abbfdd8d74db451e6f620fb"), looks := true }, kinds := [], alts := [], laidByText := true, laidKinds := [.data], laidTests := true, laidLooks := .later }
def FractionYearsUptoCardSaid : Prop := Claim7.holds Tryd.pinned (.plain (OpenSpec.upto fractionYearsSpec)) fractionYearsUptoCard

/-- THE SECOND FORM's CARD OF 'quittancelaw06.FractionMonths'. -/
def fractionMonthsUptoCard : Claim7 := { stood := { row := fractionMonthsUptoRow, standIns := [], harness := (true, "07fceca6bf3a052230ee5bdebad8d05fb1e1a50b7abbfdd8d74db451e6f620fb"), looks := true }, kinds := [], alts := [], laidByText := true, laidKinds := [.data], laidTests := true, laidLooks := .later }
def FractionMonthsUptoCardSaid : Prop := Claim7.holds Tryd.pinned (.plain (OpenSpec.upto fractionMonthsSpec)) fractionMonthsUptoCard
end Rows
end Go.Proofs.YtkjdhefmhooplaaDoor
