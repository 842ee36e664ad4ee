/-
  DERIVED. GIVEN WITH THE SEED: THE CARDS: each row of YtocdkgmmnkmlpaaDoorRows.lean that lists a variable, with what it lists TIED to the program's text (the seventh form; the later family's looks); each row that meets fmt, with fmt's text TOLD by the authors' own Lean function (tested against real Go, not proved from fmt's source: count such statements apart). THE CARD IS WHAT COUNTS. Prove the row's statement (the work); the ties are given (YtocdkgmmnkmlpaaDoorTie.lean); close each card by the builder's one call (the guide's Derived/Test/ToyasCard.lean, 'card_holds'). Laid BY PROGRAM, IN A SANDBOX (cutbox-door.mjs). By AI agents, Wed Nov 11 2026. No macro, syntax, notation, axiom, sorry.
-/
import Derived.Test.YtocdkgmmnkmlpaaDoorRows
import GoSem.ClaimSeven
namespace Go.Proofs.YtocdkgmmnkmlpaaDoor
namespace Rows

/-- THE TIED CARD OF 'quittancelaw07.LexerTells'. -/
def lexerTellsCard : Claim7 := { stood := { row := lexerTellsRow, standIns := [], harness := (true, "bb02076f46fe85bca606fee8305af3083b78a2dd3027bd5c5d7b576488f40cbf"), looks := true }, kinds := [], alts := [], laidByText := true, laidKinds := [.data, .pinned], laidTests := true, laidLooks := .later }
def LexerTellsCardSaid : Prop := Claim7.holds Tryd.pinned (.plain (OpenSpec.ofChange lexerTellsSpec)) lexerTellsCard

/-- THE TIED CARD OF 'quittancelaw07.LexerStand'. -/
def lexerStandCard : Claim7 := { stood := { row := lexerStandRow, standIns := [], harness := (true, "bb02076f46fe85bca606fee8305af3083b78a2dd3027bd5c5d7b576488f40cbf"), looks := true }, kinds := [], alts := [], laidByText := true, laidKinds := [.data, .pinned], laidTests := true, laidLooks := .later }
def LexerStandCardSaid : Prop := Claim7.holds Tryd.pinned (.plain (OpenSpec.ofChange lexerStandSpec)) lexerStandCard

/-- THE TIED CARD OF 'quittancelaw07.LexerWhite'. -/
def lexerWhiteCard : Claim7 := { stood := { row := lexerWhiteRow, standIns := [], harness := (true, "bb02076f46fe85bca606fee8305af3083b78a2dd3027bd5c5d7b576488f40cbf"), looks := true }, kinds := [], alts := [], laidByText := true, laidKinds := [.data, .pinned], laidTests := true, laidLooks := .later }
def LexerWhiteCardSaid : Prop := Claim7.holds Tryd.pinned (.plain (OpenSpec.ofChange lexerWhiteSpec)) lexerWhiteCard

/-- THE TIED CARD OF 'quittancelaw07.LexerLong'. -/
def lexerLongCard : Claim7 := { stood := { row := lexerLongRow, standIns := [], harness := (true, "bb02076f46fe85bca606fee8305af3083b78a2dd3027bd5c5d7b576488f40cbf"), looks := true }, kinds := [], alts := [], laidByText := true, laidKinds := [.data, .pinned], laidTests := true, laidLooks := .later }
def LexerLongCardSaid : Prop := Claim7.holds Tryd.pinned (.plain (OpenSpec.ofChange lexerLongSpec)) lexerLongCard

/-- THE TIED CARD OF 'quittancelaw07.LexerJoins'. -/
def lexerJoinsCard : Claim7 := { stood := { row := lexerJoinsRow, standIns := [], harness := (true, "bb02076f46fe85bca606fee8305af3083b78a2dd3027bd5c5d7b576488f40cbf"), looks := true }, kinds := [], alts := [], laidByText := true, laidKinds := [.data, .pinned], laidTests := true, laidLooks := .later }
def LexerJoinsCardSaid : Prop := Claim7.holds Tryd.pinned (.plain (OpenSpec.ofChange lexerJoinsSpec)) lexerJoinsCard

/-- THE SECOND FORM's CARD OF 'quittancelaw07.LexerTells'. -/
def lexerTellsUptoCard : Claim7 := { stood := { row := lexerTellsUptoRow, standIns := [], harness := (true, "bb02076f46fe85bca606fee8305af3083b78a2dd3027bd5c5d7b576488f40cbf"), looks := true }, kinds := [], alts := [], laidByText := true, laidKinds := [.data, .pinned], laidTests := true, laidLooks := .later }
def LexerTellsUptoCardSaid : Prop := Claim7.holds Tryd.pinned (.plain (OpenSpec.upto lexerTellsSpec)) lexerTellsUptoCard

/-- THE SECOND FORM's CARD OF 'quittancelaw07.LexerStand'. -/
def lexerStandUptoCard : Claim7 := { stood := { row := lexerStandUptoRow, standIns := [], harness := (true, "bb02076f46fe85bca606fee8305af3083b78a2dd3027bd5c5d7b576488f40cbf"), looks := true }, kinds := [], alts := [], laidByText := true, laidKinds := [.data, .pinned], laidTests := true, laidLooks := .later }
def LexerStandUptoCardSaid : Prop := Claim7.holds Tryd.pinned (.plain (OpenSpec.upto lexerStandSpec)) lexerStandUptoCard

/-- THE SECOND FORM's CARD OF 'quittancelaw07.LexerWhite'. -/
def lexerWhiteUptoCard : Claim7 := { stood := { row := lexerWhiteUptoRow, standIns := [], harness := (true, "bb02076f46fe85bca606fee8305af3083b78a2dd3027bd5c5d7b576488f40cbf"), looks := true }, kinds := [], alts := [], laidByText := true, laidKinds := [.data, .pinned], laidTests := true, laidLooks := .later }
def LexerWhiteUptoCardSaid : Prop := Claim7.holds Tryd.pinned (.plain (OpenSpec.upto lexerWhiteSpec)) lexerWhiteUptoCard

/-- THE SECOND FORM's CARD OF 'quittancelaw07.LexerLong'. -/
def lexerLongUptoCard : Claim7 := { stood := { row := lexerLongUptoRow, standIns := [], harness := (true, "bb02076f46fe85bca606fee8305af3083b78a2dd3027bd5c5d7b576488f40cbf"), looks := true }, kinds := [], alts := [], laidByText := true, laidKinds := [.data, .pinned], laidTests := true, laidLooks := .later }
def LexerLongUptoCardSaid : Prop := Claim7.holds Tryd.pinned (.plain (OpenSpec.upto lexerLongSpec)) lexerLongUptoCard

/-- THE SECOND FORM's CARD OF 'quittancelaw07.LexerJoins'. -/
def lexerJoinsUptoCard : Claim7 := { stood := { row := lexerJoinsUptoRow, standIns := [], harness := (true, "bb02076f46fe85bca606fee8305af3083b78a2dd3027bd5c5d7b576488f40cbf"), looks := true }, kinds := [], alts := [], laidByText := true, laidKinds := [.data, .pinned], laidTests := true, laidLooks := .later }
def LexerJoinsUptoCardSaid : Prop := Claim7.holds Tryd.pinned (.plain (OpenSpec.upto lexerJoinsSpec)) lexerJoinsUptoCard
end Rows
end Go.Proofs.YtocdkgmmnkmlpaaDoor
