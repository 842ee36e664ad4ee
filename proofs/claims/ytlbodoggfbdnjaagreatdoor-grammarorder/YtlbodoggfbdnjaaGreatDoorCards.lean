/-
  DERIVED. GIVEN WITH THE SEED: THE CARDS: each row of YtlbodoggfbdnjaaGreatDoorRows.lean that lists a variable, with what it lists TIED to the program's text (the seventh form; the later family's looks); each row that meets fmt, with fmt's text TOLD by the authors' own Lean function (tested against real Go, not proved from fmt's source: count such statements apart). THE CARD IS WHAT COUNTS. Prove the row's statement (the work); the ties are given (YtlbodoggfbdnjaaGreatDoorTie.lean); close each card by the builder's one call (the guide's Derived/Test/ToyasCard.lean, 'card_holds'). Laid BY PROGRAM, IN A SANDBOX (cutbox-door.mjs). By AI agents, Wed Nov 11 2026. No macro, syntax, notation, axiom, sorry.
-/
import Derived.Test.YtlbodoggfbdnjaaGreatDoorRows
import GoSem.ClaimSeven
namespace Go.Proofs.YtlbodoggfbdnjaaGreatDoor
namespace Rows

/-- THE TIED CARD OF 'quittancelaw09.GrammarTells'. -/
def grammarTellsCard : Claim7 := { stood := { row := grammarTellsRow, standIns := [], harness := (true, "71a4d669349a1374d27e06b42b74feeaaecf2230b7206da2054069eaee9351c6"), looks := true }, kinds := [], alts := [], laidByText := true, laidKinds := [.data, .data, .data, .data, .sentinel, .sentinel, .data, .pinned], laidTests := true, laidLooks := .later }
def GrammarTellsCardSaid : Prop := Claim7.holds Tryz.pinned (.plain (OpenSpec.ofChange grammarTellsSpec)) grammarTellsCard

/-- THE TIED CARD OF 'quittancelaw09.GrammarPlaces'. -/
def grammarPlacesCard : Claim7 := { stood := { row := grammarPlacesRow, standIns := [], harness := (true, "71a4d669349a1374d27e06b42b74feeaaecf2230b7206da2054069eaee9351c6"), looks := true }, kinds := [], alts := [], laidByText := true, laidKinds := [.data, .data, .data, .data, .sentinel, .sentinel, .data, .pinned], laidTests := true, laidLooks := .later }
def GrammarPlacesCardSaid : Prop := Claim7.holds Tryz.pinned (.plain (OpenSpec.ofChange grammarPlacesSpec)) grammarPlacesCard

/-- THE TIED CARD OF 'quittancelaw09.GrammarDeep'. -/
def grammarDeepCard : Claim7 := { stood := { row := grammarDeepRow, standIns := [], harness := (true, "71a4d669349a1374d27e06b42b74feeaaecf2230b7206da2054069eaee9351c6"), looks := true }, kinds := [], alts := [], laidByText := true, laidKinds := [.data, .data, .data, .data, .sentinel, .sentinel, .data, .pinned], laidTests := true, laidLooks := .later }
def GrammarDeepCardSaid : Prop := Claim7.holds Tryz.pinned (.plain (OpenSpec.ofChange grammarDeepSpec)) grammarDeepCard

/-- THE TIED CARD OF 'quittancelaw09.GrammarOrder'. -/
def grammarOrderCard : Claim7 := { stood := { row := grammarOrderRow, standIns := [], harness := (true, "71a4d669349a1374d27e06b42b74feeaaecf2230b7206da2054069eaee9351c6"), looks := true }, kinds := [], alts := [], laidByText := true, laidKinds := [.data, .data, .data, .data, .sentinel, .sentinel, .data, .pinned], laidTests := true, laidLooks := .later }
def GrammarOrderCardSaid : Prop := Claim7.holds Tryz.pinned (.plain (OpenSpec.ofChange grammarOrderSpec)) grammarOrderCard

/-- THE TIED CARD OF 'quittancelaw09.GrammarLess'. -/
def grammarLessCard : Claim7 := { stood := { row := grammarLessRow, standIns := [], harness := (true, "71a4d669349a1374d27e06b42b74feeaaecf2230b7206da2054069eaee9351c6"), looks := true }, kinds := [], alts := [], laidByText := true, laidKinds := [.data, .data, .data, .data, .sentinel, .sentinel, .data, .pinned], laidTests := true, laidLooks := .later }
def GrammarLessCardSaid : Prop := Claim7.holds Tryz.pinned (.plain (OpenSpec.ofChange grammarLessSpec)) grammarLessCard

/-- THE TIED CARD OF 'quittancelaw09.GrammarCut'. -/
def grammarCutCard : Claim7 := { stood := { row := grammarCutRow, standIns := [], harness := (true, "71a4d669349a1374d27e06b42b74feeaaecf2230b7206da2054069eaee9351c6"), looks := true }, kinds := [], alts := [], laidByText := true, laidKinds := [.data, .data, .data, .data, .sentinel, .sentinel, .data, .pinned], laidTests := true, laidLooks := .later }
def GrammarCutCardSaid : Prop := Claim7.holds Tryz.pinned (.plain (OpenSpec.ofChange grammarCutSpec)) grammarCutCard

/-- THE SECOND FORM's CARD OF 'quittancelaw09.GrammarTells'. -/
def grammarTellsUptoCard : Claim7 := { stood := { row := grammarTellsUptoRow, standIns := [], harness := (true, "71a4d669349a1374d27e06b42b74feeaaecf2230b7206da2054069eaee9351c6"), looks := true }, kinds := [], alts := [], laidByText := true, laidKinds := [.data, .data, .data, .data, .sentinel, .sentinel, .data, .pinned], laidTests := true, laidLooks := .later }
def GrammarTellsUptoCardSaid : Prop := Claim7.holds Tryz.pinned (.plain (OpenSpec.upto grammarTellsSpec)) grammarTellsUptoCard

/-- THE SECOND FORM's CARD OF 'quittancelaw09.GrammarPlaces'. -/
def grammarPlacesUptoCard : Claim7 := { stood := { row := grammarPlacesUptoRow, standIns := [], harness := (true, "71a4d669349a1374d27e06b42b74feeaaecf2230b7206da2054069eaee9351c6"), looks := true }, kinds := [], alts := [], laidByText := true, laidKinds := [.data, .data, .data, .data, .sentinel, .sentinel, .data, .pinned], laidTests := true, laidLooks := .later }
def GrammarPlacesUptoCardSaid : Prop := Claim7.holds Tryz.pinned (.plain (OpenSpec.upto grammarPlacesSpec)) grammarPlacesUptoCard

/-- THE SECOND FORM's CARD OF 'quittancelaw09.GrammarDeep'. -/
def grammarDeepUptoCard : Claim7 := { stood := { row := grammarDeepUptoRow, standIns := [], harness := (true, "71a4d669349a1374d27e06b42b74feeaaecf2230b7206da2054069eaee9351c6"), looks := true }, kinds := [], alts := [], laidByText := true, laidKinds := [.data, .data, .data, .data, .sentinel, .sentinel, .data, .pinned], laidTests := true, laidLooks := .later }
def GrammarDeepUptoCardSaid : Prop := Claim7.holds Tryz.pinned (.plain (OpenSpec.upto grammarDeepSpec)) grammarDeepUptoCard

/-- THE SECOND FORM's CARD OF 'quittancelaw09.GrammarOrder'. -/
def grammarOrderUptoCard : Claim7 := { stood := { row := grammarOrderUptoRow, standIns := [], harness := (true, "71a4d669349a1374d27e06b42b74feeaaecf2230b7206da2054069eaee9351c6"), looks := true }, kinds := [], alts := [], laidByText := true, laidKinds := [.data, .data, .data, .data, .sentinel, .sentinel, .data, .pinned], laidTests := true, laidLooks := .later }
def GrammarOrderUptoCardSaid : Prop := Claim7.holds Tryz.pinned (.plain (OpenSpec.upto grammarOrderSpec)) grammarOrderUptoCard

/-- THE SECOND FORM's CARD OF 'quittancelaw09.GrammarLess'. -/
def grammarLessUptoCard : Claim7 := { stood := { row := grammarLessUptoRow, standIns := [], harness := (true, "71a4d669349a1374d27e06b42b74feeaaecf2230b7206da2054069eaee9351c6"), looks := true }, kinds := [], alts := [], laidByText := true, laidKinds := [.data, .data, .data, .data, .sentinel, .sentinel, .data, .pinned], laidTests := true, laidLooks := .later }
def GrammarLessUptoCardSaid : Prop := Claim7.holds Tryz.pinned (.plain (OpenSpec.upto grammarLessSpec)) grammarLessUptoCard

/-- THE SECOND FORM's CARD OF 'quittancelaw09.GrammarCut'. -/
def grammarCutUptoCard : Claim7 := { stood := { row := grammarCutUptoRow, standIns := [], harness := (true, "71a4d669349a1374d27e06b42b74feeaaecf2230b7206da2054069eaee9351c6"), looks := true }, kinds := [], alts := [], laidByText := true, laidKinds := [.data, .data, .data, .data, .sentinel, .sentinel, .data, .pinned], laidTests := true, laidLooks := .later }
def GrammarCutUptoCardSaid : Prop := Claim7.holds Tryz.pinned (.plain (OpenSpec.upto grammarCutSpec)) grammarCutUptoCard
end Rows
end Go.Proofs.YtlbodoggfbdnjaaGreatDoor
