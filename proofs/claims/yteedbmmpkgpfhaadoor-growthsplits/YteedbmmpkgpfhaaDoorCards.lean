/-
  DERIVED. GIVEN WITH THE SEED: THE CARDS: each row of YteedbmmpkgpfhaaDoorRows.lean that lists a variable, with what it lists TIED to the program's text (the seventh form; the later family's looks); each row that meets fmt, with fmt's text TOLD by the authors' own Lean function (tested against real Go, not proved from fmt's source: count such statements apart). THE CARD IS WHAT COUNTS. Prove the row's statement (the work); the ties are given (YteedbmmpkgpfhaaDoorTie.lean); close each card by the builder's one call (the guide's Derived/Test/ToyasCard.lean, 'card_holds'). Laid BY PROGRAM, IN A SANDBOX (cutbox-door.mjs). By AI agents, Wed Nov 11 2026. No macro, syntax, notation, axiom, sorry.
-/
import Derived.Test.YteedbmmpkgpfhaaDoorRows
import GoSem.ClaimSeven
namespace Go.Proofs.YteedbmmpkgpfhaaDoor
namespace Rows

/-- THE TIED CARD OF 'quittancelaw12.GrowthBears'. -/
def growthBearsCard : Claim7 := { stood := { row := growthBearsRow, standIns := [], harness := (true, "225b0824fabe58f814383c228e1f1ee1b73c46497dda64b3ca6af21c7fd91e33"), looks := true }, kinds := [], alts := [], laidByText := true, laidKinds := [.data], laidTests := true, laidLooks := .later }
def GrowthBearsCardSaid : Prop := Claim7.holds Tryd.pinned (.plain (OpenSpec.ofChange growthBearsSpec)) growthBearsCard

/-- THE TIED CARD OF 'quittancelaw12.GrowthSplits'. -/
def growthSplitsCard : Claim7 := { stood := { row := growthSplitsRow, standIns := [], harness := (true, "225b0824fabe58f814383c228e1f1ee1b73c46497dda64b3ca6af21c7fd91e33"), looks := true }, kinds := [], alts := [], laidByText := true, laidKinds := [.data], laidTests := true, laidLooks := .later }
def GrowthSplitsCardSaid : Prop := Claim7.holds Tryd.pinned (.plain (OpenSpec.ofChange growthSplitsSpec)) growthSplitsCard

/-- THE TIED CARD OF 'quittancelaw12.GrowthRest'. -/
def growthRestCard : Claim7 := { stood := { row := growthRestRow, standIns := [], harness := (true, "225b0824fabe58f814383c228e1f1ee1b73c46497dda64b3ca6af21c7fd91e33"), looks := true }, kinds := [], alts := [], laidByText := true, laidKinds := [.data], laidTests := true, laidLooks := .later }
def GrowthRestCardSaid : Prop := Claim7.holds Tryd.pinned (.plain (OpenSpec.ofChange growthRestSpec)) growthRestCard

/-- THE TIED CARD OF 'quittancelaw12.GrowthYear'. -/
def growthYearCard : Claim7 := { stood := { row := growthYearRow, standIns := [], harness := (true, "225b0824fabe58f814383c228e1f1ee1b73c46497dda64b3ca6af21c7fd91e33"), looks := true }, kinds := [], alts := [], laidByText := true, laidKinds := [.data], laidTests := true, laidLooks := .later }
def GrowthYearCardSaid : Prop := Claim7.holds Tryd.pinned (.plain (OpenSpec.ofChange growthYearSpec)) growthYearCard

/-- THE TIED CARD OF 'quittancelaw12.GrowthMore'. -/
def growthMoreCard : Claim7 := { stood := { row := growthMoreRow, standIns := [], harness := (true, "225b0824fabe58f814383c228e1f1ee1b73c46497dda64b3ca6af21c7fd91e33"), looks := true }, kinds := [], alts := [], laidByText := true, laidKinds := [.data], laidTests := true, laidLooks := .later }
def GrowthMoreCardSaid : Prop := Claim7.holds Tryd.pinned (.plain (OpenSpec.ofChange growthMoreSpec)) growthMoreCard

/-- THE TIED CARD OF 'quittancelaw12.GrowthRefuses'. -/
def growthRefusesCard : Claim7 := { stood := { row := growthRefusesRow, standIns := [], harness := (true, "225b0824fabe58f814383c228e1f1ee1b73c46497dda64b3ca6af21c7fd91e33"), looks := true }, kinds := [], alts := [], laidByText := true, laidKinds := [.data], laidTests := true, laidLooks := .later }
def GrowthRefusesCardSaid : Prop := Claim7.holds Tryd.pinned (.plain (OpenSpec.ofChange growthRefusesSpec)) growthRefusesCard

/-- THE SECOND FORM's CARD OF 'quittancelaw12.GrowthBears'. -/
def growthBearsUptoCard : Claim7 := { stood := { row := growthBearsUptoRow, standIns := [], harness := (true, "225b0824fabe58f814383c228e1f1ee1b73c46497dda64b3ca6af21c7fd91e33"), looks := true }, kinds := [], alts := [], laidByText := true, laidKinds := [.data], laidTests := true, laidLooks := .later }
def GrowthBearsUptoCardSaid : Prop := Claim7.holds Tryd.pinned (.plain (OpenSpec.upto growthBearsSpec)) growthBearsUptoCard

/-- THE SECOND FORM's CARD OF 'quittancelaw12.GrowthSplits'. -/
def growthSplitsUptoCard : Claim7 := { stood := { row := growthSplitsUptoRow, standIns := [], harness := (true, "225b0824fabe58f814383c228e1f1ee1b73c46497dda64b3ca6af21c7fd91e33"), looks := true }, kinds := [], alts := [], laidByText := true, laidKinds := [.data], laidTests := true, laidLooks := .later }
def GrowthSplitsUptoCardSaid : Prop := Claim7.holds Tryd.pinned (.plain (OpenSpec.upto growthSplitsSpec)) growthSplitsUptoCard

/-- THE SECOND FORM's CARD OF 'quittancelaw12.GrowthRest'. -/
def growthRestUptoCard : Claim7 := { stood := { row := growthRestUptoRow, standIns := [], harness := (true, "225b0824fabe58f814383c228e1f1ee1b73c46497dda64b3ca6af21c7fd91e33"), looks := true }, kinds := [], alts := [], laidByText := true, laidKinds := [.data], laidTests := true, laidLooks := .later }
def GrowthRestUptoCardSaid : Prop := Claim7.holds Tryd.pinned (.plain (OpenSpec.upto growthRestSpec)) growthRestUptoCard

/-- THE SECOND FORM's CARD OF 'quittancelaw12.GrowthYear'. -/
def growthYearUptoCard : Claim7 := { stood := { row := growthYearUptoRow, standIns := [], harness := (true, "225b0824fabe58f814383c228e1f1ee1b73c46497dda64b3ca6af21c7fd91e33"), looks := true }, kinds := [], alts := [], laidByText := true, laidKinds := [.data], laidTests := true, laidLooks := .later }
def GrowthYearUptoCardSaid : Prop := Claim7.holds Tryd.pinned (.plain (OpenSpec.upto growthYearSpec)) growthYearUptoCard

/-- THE SECOND FORM's CARD OF 'quittancelaw12.GrowthMore'. -/
def growthMoreUptoCard : Claim7 := { stood := { row := growthMoreUptoRow, standIns := [], harness := (true, "225b0824fabe58f814383c228e1f1ee1b73c46497dda64b3ca6af21c7fd91e33"), looks := true }, kinds := [], alts := [], laidByText := true, laidKinds := [.data], laidTests := true, laidLooks := .later }
def GrowthMoreUptoCardSaid : Prop := Claim7.holds Tryd.pinned (.plain (OpenSpec.upto growthMoreSpec)) growthMoreUptoCard

/-- THE SECOND FORM's CARD OF 'quittancelaw12.GrowthRefuses'. -/
def growthRefusesUptoCard : Claim7 := { stood := { row := growthRefusesUptoRow, standIns := [], harness := (true, "225b0824fabe58f814383c228e1f1ee1b73c46497dda64b3ca6af21c7fd91e33"), looks := true }, kinds := [], alts := [], laidByText := true, laidKinds := [.data], laidTests := true, laidLooks := .later }
def GrowthRefusesUptoCardSaid : Prop := Claim7.holds Tryd.pinned (.plain (OpenSpec.upto growthRefusesSpec)) growthRefusesUptoCard
end Rows
end Go.Proofs.YteedbmmpkgpfhaaDoor
