/-
  NARROWER THAN 'FOR EVERY INPUT', by the rows' own cells (each row's printed sentence says how): LevelTells: laid · LevelLeast: laid · LevelTimes: laid.
  DERIVED. THE GIVEN ROWS OF THIS SEAT. 3 by the template 'for every input the law returns true; each argument reads behind the call as it read before'; 0 by the template 'total and deterministic' (their statements: YtafjmpaefikdcaaGreatDoorTotals.lean).
  GIVEN WITH THE SEED: the statements are not yours to turn. If you find one false, say at which input.
  Laid BY PROGRAM, IN A SANDBOX (cutbox-rows.mjs): the forced cells as the released guide's own fill.sh prints them over the translation ddc79aa6ea35fc7a… (all of the seat's roots in one cut). By AI agents, Wed Nov 11 2026. No macro, syntax, notation, axiom, sorry.
-/
import Derived.Test.YtafjmpaefikdcaaGreatDoorChecked
import GoSem.Claim
import GoSem.ClaimJoined
import GoSem.ClaimMapViews
import Derived.JoinedTies
import Derived.KernelRfl
namespace Go.Proofs.YtafjmpaefikdcaaGreatDoor
/- THE CELL 'sum', in the pinned program and in every row, IS THE sha256 OF THE DUMP (.gsa) THAT YtafjmpaefikdcaaGreatDoorProg.lean LOADS. Nothing in Lean hashes anything: it is a label: what it is worth is what the hold of that sum in a sandbox is worth. -/
noncomputable def Tryz.pinned : Pinned := { name := "ytafjmpaefikdcaagreatdoor", sum := "ddc79aa6ea35fc7a841fa6bb65348c6e3fbe44f0581fd52b1f1597a9640b0566", checked := Tryz.checked }
namespace Rows
def none {H : Type} : Left H := { results := [], args := [] }

/- WHAT THE LISTED PACKAGE-LEVEL VARIABLES READ AS WHEN THE CALL BEGINS. Each datum BY PROGRAM (the guide's laid-datum.mjs) off the statement by which the dump's own 'gosem.cut.vars' lays the variable. In a bare row this is a premise. The card (YtafjmpaefikdcaaGreatDoorCards.lean) ties it to the program's text. -/
def laid_quittance_civil_monthDays {H : Type} : DataW H := .agg [.lit (.int .i64 31), .lit (.int .i64 28), .lit (.int .i64 31), .lit (.int .i64 30), .lit (.int .i64 31), .lit (.int .i64 30), .lit (.int .i64 31), .lit (.int .i64 31), .lit (.int .i64 30), .lit (.int .i64 31), .lit (.int .i64 30), .lit (.int .i64 31)]

/-- 'quittancelaw13.LevelTells': WHATEVER THE INPUT: true; the input reads as it did. -/
def levelTellsSpec : ChangeSpec := { name := "levelTells", fn := fun _ => fun
  | [d1, d2, d3, d4, d5] => { results := [.lit (.bool true)], args := [d1, d2, d3, d4, d5] }
  | _ => none }
def levelTellsRow : OpenClaim := { program := "ytafjmpaefikdcaagreatdoor", sum := "ddc79aa6ea35fc7a841fa6bb65348c6e3fbe44f0581fd52b1f1597a9640b0566", func := "quittance/quittancelaw13.LevelTells", spec := "levelTells", unfollowed := true, recurses := true, named := ["quittance/civil.monthDays", "math/bits.divideError", "math/bits.overflowError"], apart := false, laid := [("quittance/civil.monthDays", laid_quittance_civil_monthDays)] }
def LevelTellsSaid : Prop := levelTellsRow.holds Tryz.pinned (OpenSpec.ofChange levelTellsSpec)

/-- ITS FALSE NEIGHBOUR: 'it returns false'. Refute it at one input. -/
def levelTellsWrong : ChangeSpec := { name := "levelTells", fn := fun _ => fun
  | [d1, d2, d3, d4, d5] => { results := [.lit (.bool false)], args := [d1, d2, d3, d4, d5] }
  | _ => none }
def LevelTellsWrongFalsely : Prop := levelTellsRow.holds Tryz.pinned (OpenSpec.ofChange levelTellsWrong)

/-- 'quittancelaw13.LevelLeast': WHATEVER THE INPUT: true; the input reads as it did. -/
def levelLeastSpec : ChangeSpec := { name := "levelLeast", fn := fun _ => fun
  | [d1, d2, d3] => { results := [.lit (.bool true)], args := [d1, d2, d3] }
  | _ => none }
def levelLeastRow : OpenClaim := { program := "ytafjmpaefikdcaagreatdoor", sum := "ddc79aa6ea35fc7a841fa6bb65348c6e3fbe44f0581fd52b1f1597a9640b0566", func := "quittance/quittancelaw13.LevelLeast", spec := "levelLeast", unfollowed := true, recurses := true, named := ["quittance/civil.monthDays", "math/bits.divideError", "math/bits.overflowError"], apart := false, laid := [("quittance/civil.monthDays", laid_quittance_civil_monthDays)] }
def LevelLeastSaid : Prop := levelLeastRow.holds Tryz.pinned (OpenSpec.ofChange levelLeastSpec)

/-- ITS FALSE NEIGHBOUR: 'it returns false'. Refute it at one input. -/
def levelLeastWrong : ChangeSpec := { name := "levelLeast", fn := fun _ => fun
  | [d1, d2, d3] => { results := [.lit (.bool false)], args := [d1, d2, d3] }
  | _ => none }
def LevelLeastWrongFalsely : Prop := levelLeastRow.holds Tryz.pinned (OpenSpec.ofChange levelLeastWrong)

/-- 'quittancelaw13.LevelTimes': WHATEVER THE INPUT: true; the input reads as it did. -/
def levelTimesSpec : ChangeSpec := { name := "levelTimes", fn := fun _ => fun
  | [d1, d2] => { results := [.lit (.bool true)], args := [d1, d2] }
  | _ => none }
def levelTimesRow : OpenClaim := { program := "ytafjmpaefikdcaagreatdoor", sum := "ddc79aa6ea35fc7a841fa6bb65348c6e3fbe44f0581fd52b1f1597a9640b0566", func := "quittance/quittancelaw13.LevelTimes", spec := "levelTimes", unfollowed := true, recurses := true, named := ["quittance/civil.monthDays", "math/bits.divideError", "math/bits.overflowError"], apart := false, laid := [("quittance/civil.monthDays", laid_quittance_civil_monthDays)] }
def LevelTimesSaid : Prop := levelTimesRow.holds Tryz.pinned (OpenSpec.ofChange levelTimesSpec)

/-- ITS FALSE NEIGHBOUR: 'it returns false'. Refute it at one input. -/
def levelTimesWrong : ChangeSpec := { name := "levelTimes", fn := fun _ => fun
  | [d1, d2] => { results := [.lit (.bool false)], args := [d1, d2] }
  | _ => none }
def LevelTimesWrongFalsely : Prop := levelTimesRow.holds Tryz.pinned (OpenSpec.ofChange levelTimesWrong)

/- THE SECOND FORM. 'bulk': how many values and letters a reading holds, each counted each time it is reached (what is shared counts as often as it is met; a slice's spare places count too). A statement '..UptoSaid' is the law's where the arguments, and the package variables that the reading takes, are together of bulk at most 1048576: NARROWER than '..Said'. Prove '..Said' where nothing that the law and all that it calls make is longer than what came in: it says more and counts as full. Else prove '..UptoSaid'. A law counts once. -/
mutual
def uptoBulk {H : Type} : DataW H → Nat
  | .lit (.string bytes) => bytes.length + 1
  | .lit _ => 1
  | .nil => 1
  | .ptr d => uptoBulk d + 1
  | .slice elems spare => uptoBulkAll elems + uptoBulkAll spare + 1
  | .agg parts => uptoBulkAll parts + 1
  | .iface _ d => uptoBulk d + 1
  | .map entries => uptoBulkEntries entries + 1
  | .held _ => 1
def uptoBulkAll {H : Type} : List (DataW H) → Nat
  | [] => 0
  | d :: r => uptoBulk d + uptoBulkAll r
def uptoBulkEntries {H : Type} : List (Lit × DataW H) → Nat
  | [] => 0
  | x :: r => uptoBulkEntry x + uptoBulkEntries r
def uptoBulkEntry {H : Type} : Lit × DataW H → Nat
  | (.string bytes, d) => bytes.length + uptoBulk d + 1
  | (_, d) => uptoBulk d + 1
 end
def uptoSmall : (H : Type) → List (DataW H) → Bool := fun _ ds => decide (uptoBulkAll ds ≤ 1048576)
def OpenSpec.upto (s : _root_.Go.ChangeSpec) : _root_.Go.OpenSpec := { _root_.Go.OpenSpec.ofChange s with cond := some uptoSmall }

/-- 'quittancelaw13.LevelTells', WHERE WHAT IT READS IS OF BULK AT MOST 1048576: true; the input reads as it did. -/
def levelTellsUptoRow : OpenClaim := { program := "ytafjmpaefikdcaagreatdoor", sum := "ddc79aa6ea35fc7a841fa6bb65348c6e3fbe44f0581fd52b1f1597a9640b0566", func := "quittance/quittancelaw13.LevelTells", spec := "levelTells", unfollowed := true, recurses := true, named := ["quittance/civil.monthDays", "math/bits.divideError", "math/bits.overflowError"], apart := false, laid := [("quittance/civil.monthDays", laid_quittance_civil_monthDays)], narrowed := true }
def LevelTellsUptoSaid : Prop := levelTellsUptoRow.holds Tryz.pinned (OpenSpec.upto levelTellsSpec)

/-- 'quittancelaw13.LevelLeast', WHERE WHAT IT READS IS OF BULK AT MOST 1048576: true; the input reads as it did. -/
def levelLeastUptoRow : OpenClaim := { program := "ytafjmpaefikdcaagreatdoor", sum := "ddc79aa6ea35fc7a841fa6bb65348c6e3fbe44f0581fd52b1f1597a9640b0566", func := "quittance/quittancelaw13.LevelLeast", spec := "levelLeast", unfollowed := true, recurses := true, named := ["quittance/civil.monthDays", "math/bits.divideError", "math/bits.overflowError"], apart := false, laid := [("quittance/civil.monthDays", laid_quittance_civil_monthDays)], narrowed := true }
def LevelLeastUptoSaid : Prop := levelLeastUptoRow.holds Tryz.pinned (OpenSpec.upto levelLeastSpec)

/-- 'quittancelaw13.LevelTimes', WHERE WHAT IT READS IS OF BULK AT MOST 1048576: true; the input reads as it did. -/
def levelTimesUptoRow : OpenClaim := { program := "ytafjmpaefikdcaagreatdoor", sum := "ddc79aa6ea35fc7a841fa6bb65348c6e3fbe44f0581fd52b1f1597a9640b0566", func := "quittance/quittancelaw13.LevelTimes", spec := "levelTimes", unfollowed := true, recurses := true, named := ["quittance/civil.monthDays", "math/bits.divideError", "math/bits.overflowError"], apart := false, laid := [("quittance/civil.monthDays", laid_quittance_civil_monthDays)], narrowed := true }
def LevelTimesUptoSaid : Prop := levelTimesUptoRow.holds Tryz.pinned (OpenSpec.upto levelTimesSpec)

end Rows
end Go.Proofs.YtafjmpaefikdcaaGreatDoor
