/-
  DERIVED. GIVEN WITH THE SEED: THE CARDS: each row of YtnpclkkjhbljbaaDoorRows.lean that lists a variable, with what it lists TIED to the program's text (the seventh form; the later family's looks); each row that meets fmt, with fmt's text TOLD by the authors' own Lean function (tested against real Go, not proved from fmt's source: count such statements apart). THE CARD IS WHAT COUNTS. Prove the row's statement (the work); the ties are given (YtnpclkkjhbljbaaDoorTie.lean); close each card by the builder's one call (the guide's Derived/Test/ToyasCard.lean, 'card_holds'). Laid BY PROGRAM, IN A SANDBOX (cutbox-door.mjs). By AI agents, Wed Nov 11 2026. No macro, syntax, notation, axiom, sorry.
-/
import Derived.Test.YtnpclkkjhbljbaaDoorRows
import GoSem.ClaimSeven
namespace Go.Proofs.YtnpclkkjhbljbaaDoor
namespace Rows

/-- THE TIED CARD OF 'quittancelaw04.MonthlyTells'. -/
def monthlyTellsCard : Claim7 := { stood := { row := monthlyTellsRow, standIns := [], harness := (true, "f64786f04bd68122c1fe47ea3c9234a45002eee6a7814b61a031ff2083509a08"), looks := false }, kinds := [], alts := [], laidByText := true, laidKinds := [.data], laidTests := true, laidLooks := .later }
def MonthlyTellsCardSaid : Prop := Claim7.holds Tryd.pinned (.plain (OpenSpec.ofChange monthlyTellsSpec)) monthlyTellsCard

/-- THE TIED CARD OF 'quittancelaw04.MonthlySteps'. -/
def monthlyStepsCard : Claim7 := { stood := { row := monthlyStepsRow, standIns := [], harness := (true, "f64786f04bd68122c1fe47ea3c9234a45002eee6a7814b61a031ff2083509a08"), looks := false }, kinds := [], alts := [], laidByText := true, laidKinds := [.data], laidTests := true, laidLooks := .later }
def MonthlyStepsCardSaid : Prop := Claim7.holds Tryd.pinned (.plain (OpenSpec.ofChange monthlyStepsSpec)) monthlyStepsCard

/-- THE TIED CARD OF 'quittancelaw04.MonthlyBack'. -/
def monthlyBackCard : Claim7 := { stood := { row := monthlyBackRow, standIns := [], harness := (true, "f64786f04bd68122c1fe47ea3c9234a45002eee6a7814b61a031ff2083509a08"), looks := false }, kinds := [], alts := [], laidByText := true, laidKinds := [.data], laidTests := true, laidLooks := .later }
def MonthlyBackCardSaid : Prop := Claim7.holds Tryd.pinned (.plain (OpenSpec.ofChange monthlyBackSpec)) monthlyBackCard

/-- THE TIED CARD OF 'quittancelaw04.MonthlyEnds'. -/
def monthlyEndsCard : Claim7 := { stood := { row := monthlyEndsRow, standIns := [], harness := (true, "f64786f04bd68122c1fe47ea3c9234a45002eee6a7814b61a031ff2083509a08"), looks := false }, kinds := [], alts := [], laidByText := true, laidKinds := [.data], laidTests := true, laidLooks := .later }
def MonthlyEndsCardSaid : Prop := Claim7.holds Tryd.pinned (.plain (OpenSpec.ofChange monthlyEndsSpec)) monthlyEndsCard

/-- THE SECOND FORM's CARD OF 'quittancelaw04.MonthlyTells'. -/
def monthlyTellsUptoCard : Claim7 := { stood := { row := monthlyTellsUptoRow, standIns := [], harness := (true, "f64786f04bd68122c1fe47ea3c9234a45002eee6a7814b61a031ff2083509a08"), looks := false }, kinds := [], alts := [], laidByText := true, laidKinds := [.data], laidTests := true, laidLooks := .later }
def MonthlyTellsUptoCardSaid : Prop := Claim7.holds Tryd.pinned (.plain (OpenSpec.upto monthlyTellsSpec)) monthlyTellsUptoCard

/-- THE SECOND FORM's CARD OF 'quittancelaw04.MonthlySteps'. -/
def monthlyStepsUptoCard : Claim7 := { stood := { row := monthlyStepsUptoRow, standIns := [], harness := (true, "f64786f04bd68122c1fe47ea3c9234a45002eee6a7814b61a031ff2083509a08"), looks := false }, kinds := [], alts := [], laidByText := true, laidKinds := [.data], laidTests := true, laidLooks := .later }
def MonthlyStepsUptoCardSaid : Prop := Claim7.holds Tryd.pinned (.plain (OpenSpec.upto monthlyStepsSpec)) monthlyStepsUptoCard

/-- THE SECOND FORM's CARD OF 'quittancelaw04.MonthlyBack'. -/
def monthlyBackUptoCard : Claim7 := { stood := { row := monthlyBackUptoRow, standIns := [], harness := (true, "f64786f04bd68122c1fe47ea3c9234a45002eee6a7814b61a031ff2083509a08"), looks := false }, kinds := [], alts := [], laidByText := true, laidKinds := [.data], laidTests := true, laidLooks := .later }
def MonthlyBackUptoCardSaid : Prop := Claim7.holds Tryd.pinned (.plain (OpenSpec.upto monthlyBackSpec)) monthlyBackUptoCard

/-- THE SECOND FORM's CARD OF 'quittancelaw04.MonthlyEnds'. -/
def monthlyEndsUptoCard : Claim7 := { stood := { row := monthlyEndsUptoRow, standIns := [], harness := (true, "f64786f04bd68122c1fe47ea3c9234a45002eee6a7814b61a031ff2083509a08"), looks := false }, kinds := [], alts := [], laidByText := true, laidKinds := [.data], laidTests := true, laidLooks := .later }
def MonthlyEndsUptoCardSaid : Prop := Claim7.holds Tryd.pinned (.plain (OpenSpec.upto monthlyEndsSpec)) monthlyEndsUptoCard
end Rows
end Go.Proofs.YtnpclkkjhbljbaaDoor
