/-
  NARROWER THAN 'FOR EVERY INPUT', by the rows' own cells (each row's printed sentence says how): LevelNothing: laid · LevelRefuses: laid.
  DERIVED. THE GIVEN ROWS OF THIS SEAT. 2 by the template 'for every input the law returns true; each argument reads behind the call as it read before'; 0 by the template 'total and deterministic' (their statements: YtafjmpaefikdcaaDoorTotals.lean).
  GIVEN WITH THE SEED: the statements are not yours to turn. If you find one false, say at which input.
  Laid BY PROGRAM, IN A SANDBOX (cutbox-rows.mjs): the forced cells as the released guide's own fill.sh prints them over the translation f85bd9e45425a6fa… (all of the seat's roots in one cut). By AI agents, Wed Nov 11 2026. No macro, syntax, notation, axiom, sorry.
-/
import Derived.Test.YtafjmpaefikdcaaDoorChecked
import GoSem.Claim
import GoSem.ClaimJoined
import GoSem.ClaimMapViews
import Derived.JoinedTies
import Derived.KernelRfl
namespace Go.Proofs.YtafjmpaefikdcaaDoor
/- THE CELL 'sum', in the pinned program and in every row, IS THE sha256 OF THE DUMP (.gsa) THAT YtafjmpaefikdcaaDoorProg.lean LOADS. Nothing in Lean hashes anything: it is a label: what it is worth is what the hold of that sum in a sandbox is worth. -/
noncomputable def Tryd.pinned : Pinned := { name := "ytafjmpaefikdcaadoor", sum := "f85bd9e45425a6fa12546eeba28517e077062da0bbb0b07de8359f90adb45713", checked := Tryd.checked }
namespace Rows
def none {H : Type} : Left H := { results := [], args := [] }

/- WHAT THE LISTED PACKAGE-LEVEL VARIABLES READ AS WHEN THE CALL BEGINS. Each datum BY PROGRAM (the guide's laid-datum.mjs) off the statement by which the dump's own 'gosem.cut.vars' lays the variable. In a bare row this is a premise. The card (YtafjmpaefikdcaaDoorCards.lean) ties it to the program's text. -/
def laid_quittance_civil_monthDays {H : Type} : DataW H := .agg [.lit (.int .i64 31), .lit (.int .i64 28), .lit (.int .i64 31), .lit (.int .i64 30), .lit (.int .i64 31), .lit (.int .i64 30), .lit (.int .i64 31), .lit (.int .i64 31), .lit (.int .i64 30), .lit (.int .i64 31), .lit (.int .i64 30), .lit (.int .i64 31)]

/-- 'quittancelaw13.LevelNothing': WHATEVER THE INPUT: true; the input reads as it did. -/
def levelNothingSpec : ChangeSpec := { name := "levelNothing", fn := fun _ => fun
  | [d1, d2, d3] => { results := [.lit (.bool true)], args := [d1, d2, d3] }
  | _ => none }
def levelNothingRow : OpenClaim := { program := "ytafjmpaefikdcaadoor", sum := "f85bd9e45425a6fa12546eeba28517e077062da0bbb0b07de8359f90adb45713", func := "quittance/quittancelaw13.LevelNothing", spec := "levelNothing", unfollowed := true, recurses := true, named := ["quittance/civil.monthDays", "math/bits.divideError", "math/bits.overflowError"], apart := false, laid := [("quittance/civil.monthDays", laid_quittance_civil_monthDays)] }
def LevelNothingSaid : Prop := levelNothingRow.holds Tryd.pinned (OpenSpec.ofChange levelNothingSpec)

/-- ITS FALSE NEIGHBOUR: 'it returns false'. Refute it at one input. -/
def levelNothingWrong : ChangeSpec := { name := "levelNothing", fn := fun _ => fun
  | [d1, d2, d3] => { results := [.lit (.bool false)], args := [d1, d2, d3] }
  | _ => none }
def LevelNothingWrongFalsely : Prop := levelNothingRow.holds Tryd.pinned (OpenSpec.ofChange levelNothingWrong)

/-- 'quittancelaw13.LevelRefuses': WHATEVER THE INPUT: true; the input reads as it did. -/
def levelRefusesSpec : ChangeSpec := { name := "levelRefuses", fn := fun _ => fun
  | [d] => { results := [.lit (.bool true)], args := [d] }
  | _ => none }
def levelRefusesRow : OpenClaim := { program := "ytafjmpaefikdcaadoor", sum := "f85bd9e45425a6fa12546eeba28517e077062da0bbb0b07de8359f90adb45713", func := "quittance/quittancelaw13.LevelRefuses", spec := "levelRefuses", unfollowed := true, recurses := true, named := ["quittance/civil.monthDays", "math/bits.divideError", "math/bits.overflowError"], apart := false, laid := [("quittance/civil.monthDays", laid_quittance_civil_monthDays)] }
def LevelRefusesSaid : Prop := levelRefusesRow.holds Tryd.pinned (OpenSpec.ofChange levelRefusesSpec)

/-- ITS FALSE NEIGHBOUR: 'it returns false'. Refute it at one input. -/
def levelRefusesWrong : ChangeSpec := { name := "levelRefuses", fn := fun _ => fun
  | [d] => { results := [.lit (.bool false)], args := [d] }
  | _ => none }
def LevelRefusesWrongFalsely : Prop := levelRefusesRow.holds Tryd.pinned (OpenSpec.ofChange levelRefusesWrong)

/- THE SECOND FORM. 'bulk': how many values and letters a reading holds, each counted each time it is reached (what is shared counts as often as it is met; a slice's spare places count too). A statement '..UptoSaid' is the law's where the arguments, and the package variables that the reading takes, are together of bulk at most 1048576: NARROWER than '..Said'. Prove '..Said' where nothing that the law and all that it calls make is longer than what came in: it says more and counts as full. Else prove '..UptoSaid'. A law counts once. -/
mutual
def uptoBulk {H : Type} : DataW H → Nat
  | .lit (.string bytes) => bytes.length + 1
  | .lit _ => 1
  | .nil => 1
  | .ptr d => uptoBulk d + 1
  | .slice elems spare => uptoBulkAll elems + uptoBulkAll spare + 1
  | .agg parts => uptoBulkAll parts + 1
  | .iface _ d => uptoBulk d + 1
  | .map entries => uptoBulkEntries entries + 1
  | .held _ => 1
def uptoBulkAll {H : Type} : List (DataW H) → Nat
  | [] => 0
  | d :: r => uptoBulk d + uptoBulkAll r
def uptoBulkEntries {H : Type} : List (Lit × DataW H) → Nat
  | [] => 0
  | x :: r => uptoBulkEntry x + uptoBulkEntries r
def uptoBulkEntry {H : Type} : Lit × DataW H → Nat
  | (.string bytes, d) => bytes.length + uptoBulk d + 1
  | (_, d) => uptoBulk d + 1
 end
def uptoSmall : (H : Type) → List (DataW H) → Bool := fun _ ds => decide (uptoBulkAll ds ≤ 1048576)
def OpenSpec.upto (s : _root_.Go.ChangeSpec) : _root_.Go.OpenSpec := { _root_.Go.OpenSpec.ofChange s with cond := some uptoSmall }

/-- 'quittancelaw13.LevelNothing', WHERE WHAT IT READS IS OF BULK AT MOST 1048576: true; the input reads as it did. -/
def levelNothingUptoRow : OpenClaim := { program := "ytafjmpaefikdcaadoor", sum := "f85bd9e45425a6fa12546eeba28517e077062da0bbb0b07de8359f90adb45713", func := "quittance/quittancelaw13.LevelNothing", spec := "levelNothing", unfollowed := true, recurses := true, named := ["quittance/civil.monthDays", "math/bits.divideError", "math/bits.overflowError"], apart := false, laid := [("quittance/civil.monthDays", laid_quittance_civil_monthDays)], narrowed := true }
def LevelNothingUptoSaid : Prop := levelNothingUptoRow.holds Tryd.pinned (OpenSpec.upto levelNothingSpec)

/-- 'quittancelaw13.LevelRefuses', WHERE WHAT IT READS IS OF BULK AT MOST 1048576: true; the input reads as it did. -/
def levelRefusesUptoRow : OpenClaim := { program := "ytafjmpaefikdcaadoor", sum := "f85bd9e45425a6fa12546eeba28517e077062da0bbb0b07de8359f90adb45713", func := "quittance/quittancelaw13.LevelRefuses", spec := "levelRefuses", unfollowed := true, recurses := true, named := ["quittance/civil.monthDays", "math/bits.divideError", "math/bits.overflowError"], apart := false, laid := [("quittance/civil.monthDays", laid_quittance_civil_monthDays)], narrowed := true }
def LevelRefusesUptoSaid : Prop := levelRefusesUptoRow.holds Tryd.pinned (OpenSpec.upto levelRefusesSpec)

end Rows
end Go.Proofs.YtafjmpaefikdcaaDoor
