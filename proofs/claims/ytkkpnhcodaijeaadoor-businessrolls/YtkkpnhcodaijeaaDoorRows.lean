/-
  NARROWER THAN 'FOR EVERY INPUT', by the rows' own cells (each row's printed sentence says how): BusinessTells: laid · BusinessRolls: laid · BusinessNil: laid · BusinessCounts: laid · BusinessNear: laid.
  DERIVED. THE GIVEN ROWS OF THIS SEAT. 5 by the template 'for every input the law returns true; each argument reads behind the call as it read before'; 0 by the template 'total and deterministic' (their statements: YtkkpnhcodaijeaaDoorTotals.lean).
  GIVEN WITH THE SEED: the statements are not yours to turn. If you find one false, say at which input.
  Laid BY PROGRAM, IN A SANDBOX (cutbox-rows.mjs): the forced cells as the released guide's own fill.sh prints them over the translation f23a52308b57e1b6… (all of the seat's roots in one cut). By AI agents, Wed Nov 11 2026. No macro, syntax, notation, axiom, sorry.
-/
import Derived.Test.YtkkpnhcodaijeaaDoorChecked
import GoSem.Claim
import GoSem.ClaimJoined
import GoSem.ClaimMapViews
import Derived.JoinedTies
import Derived.KernelRfl
namespace Go.Proofs.YtkkpnhcodaijeaaDoor
/- THE CELL 'sum', in the pinned program and in every row, IS THE sha256 OF THE DUMP (.gsa) THAT YtkkpnhcodaijeaaDoorProg.lean LOADS. Nothing in Lean hashes anything: it is a label: what it is worth is what the hold of that sum in a sandbox is worth. -/
noncomputable def Tryd.pinned : Pinned := { name := "ytkkpnhcodaijeaadoor", sum := "f23a52308b57e1b6968394a9bbc9dbdc03c5a4733ab5b8032dc40799bd567539", checked := Tryd.checked }
namespace Rows
def none {H : Type} : Left H := { results := [], args := [] }

/- WHAT THE LISTED PACKAGE-LEVEL VARIABLES READ AS WHEN THE CALL BEGINS. Each datum BY PROGRAM (the guide's laid-datum.mjs) off the statement by which the dump's own 'gosem.cut.vars' lays the variable. In a bare row this is a premise. The card (YtkkpnhcodaijeaaDoorCards.lean) ties it to the program's text. -/
def laid_quittance_civil_monthDays {H : Type} : DataW H := .agg [.lit (.int .i64 31), .lit (.int .i64 28), .lit (.int .i64 31), .lit (.int .i64 30), .lit (.int .i64 31), .lit (.int .i64 30), .lit (.int .i64 31), .lit (.int .i64 31), .lit (.int .i64 30), .lit (.int .i64 31), .lit (.int .i64 30), .lit (.int .i64 31)]

/-- 'quittancelaw05.BusinessTells': WHATEVER THE INPUT: true; the input reads as it did. -/
def businessTellsSpec : ChangeSpec := { name := "businessTells", fn := fun _ => fun
  | [d1, d2, d3, d4, d5] => { results := [.lit (.bool true)], args := [d1, d2, d3, d4, d5] }
  | _ => none }
def businessTellsRow : OpenClaim := { program := "ytkkpnhcodaijeaadoor", sum := "f23a52308b57e1b6968394a9bbc9dbdc03c5a4733ab5b8032dc40799bd567539", func := "quittance/quittancelaw05.BusinessTells", spec := "businessTells", unfollowed := true, recurses := true, named := ["quittance/civil.monthDays"], apart := false, laid := [("quittance/civil.monthDays", laid_quittance_civil_monthDays)] }
def BusinessTellsSaid : Prop := businessTellsRow.holds Tryd.pinned (OpenSpec.ofChange businessTellsSpec)

/-- ITS FALSE NEIGHBOUR: 'it returns false'. Refute it at one input. -/
def businessTellsWrong : ChangeSpec := { name := "businessTells", fn := fun _ => fun
  | [d1, d2, d3, d4, d5] => { results := [.lit (.bool false)], args := [d1, d2, d3, d4, d5] }
  | _ => none }
def BusinessTellsWrongFalsely : Prop := businessTellsRow.holds Tryd.pinned (OpenSpec.ofChange businessTellsWrong)

/-- 'quittancelaw05.BusinessRolls': WHATEVER THE INPUT: true; the input reads as it did. -/
def businessRollsSpec : ChangeSpec := { name := "businessRolls", fn := fun _ => fun
  | [d1, d2, d3] => { results := [.lit (.bool true)], args := [d1, d2, d3] }
  | _ => none }
def businessRollsRow : OpenClaim := { program := "ytkkpnhcodaijeaadoor", sum := "f23a52308b57e1b6968394a9bbc9dbdc03c5a4733ab5b8032dc40799bd567539", func := "quittance/quittancelaw05.BusinessRolls", spec := "businessRolls", unfollowed := true, recurses := true, named := ["quittance/civil.monthDays"], apart := false, laid := [("quittance/civil.monthDays", laid_quittance_civil_monthDays)] }
def BusinessRollsSaid : Prop := businessRollsRow.holds Tryd.pinned (OpenSpec.ofChange businessRollsSpec)

/-- ITS FALSE NEIGHBOUR: 'it returns false'. Refute it at one input. -/
def businessRollsWrong : ChangeSpec := { name := "businessRolls", fn := fun _ => fun
  | [d1, d2, d3] => { results := [.lit (.bool false)], args := [d1, d2, d3] }
  | _ => none }
def BusinessRollsWrongFalsely : Prop := businessRollsRow.holds Tryd.pinned (OpenSpec.ofChange businessRollsWrong)

/-- 'quittancelaw05.BusinessNil': WHATEVER THE INPUT: true; the input reads as it did. -/
def businessNilSpec : ChangeSpec := { name := "businessNil", fn := fun _ => fun
  | [d1, d2] => { results := [.lit (.bool true)], args := [d1, d2] }
  | _ => none }
def businessNilRow : OpenClaim := { program := "ytkkpnhcodaijeaadoor", sum := "f23a52308b57e1b6968394a9bbc9dbdc03c5a4733ab5b8032dc40799bd567539", func := "quittance/quittancelaw05.BusinessNil", spec := "businessNil", unfollowed := true, recurses := true, named := ["quittance/civil.monthDays"], apart := false, laid := [("quittance/civil.monthDays", laid_quittance_civil_monthDays)] }
def BusinessNilSaid : Prop := businessNilRow.holds Tryd.pinned (OpenSpec.ofChange businessNilSpec)

/-- ITS FALSE NEIGHBOUR: 'it returns false'. Refute it at one input. -/
def businessNilWrong : ChangeSpec := { name := "businessNil", fn := fun _ => fun
  | [d1, d2] => { results := [.lit (.bool false)], args := [d1, d2] }
  | _ => none }
def BusinessNilWrongFalsely : Prop := businessNilRow.holds Tryd.pinned (OpenSpec.ofChange businessNilWrong)

/-- 'quittancelaw05.BusinessCounts': WHATEVER THE INPUT: true; the input reads as it did. -/
def businessCountsSpec : ChangeSpec := { name := "businessCounts", fn := fun _ => fun
  | [d1, d2, d3, d4] => { results := [.lit (.bool true)], args := [d1, d2, d3, d4] }
  | _ => none }
def businessCountsRow : OpenClaim := { program := "ytkkpnhcodaijeaadoor", sum := "f23a52308b57e1b6968394a9bbc9dbdc03c5a4733ab5b8032dc40799bd567539", func := "quittance/quittancelaw05.BusinessCounts", spec := "businessCounts", unfollowed := true, recurses := true, named := ["quittance/civil.monthDays"], apart := false, laid := [("quittance/civil.monthDays", laid_quittance_civil_monthDays)] }
def BusinessCountsSaid : Prop := businessCountsRow.holds Tryd.pinned (OpenSpec.ofChange businessCountsSpec)

/-- ITS FALSE NEIGHBOUR: 'it returns false'. Refute it at one input. -/
def businessCountsWrong : ChangeSpec := { name := "businessCounts", fn := fun _ => fun
  | [d1, d2, d3, d4] => { results := [.lit (.bool false)], args := [d1, d2, d3, d4] }
  | _ => none }
def BusinessCountsWrongFalsely : Prop := businessCountsRow.holds Tryd.pinned (OpenSpec.ofChange businessCountsWrong)

/-- 'quittancelaw05.BusinessNear': WHATEVER THE INPUT: true; the input reads as it did. -/
def businessNearSpec : ChangeSpec := { name := "businessNear", fn := fun _ => fun
  | [d1, d2] => { results := [.lit (.bool true)], args := [d1, d2] }
  | _ => none }
def businessNearRow : OpenClaim := { program := "ytkkpnhcodaijeaadoor", sum := "f23a52308b57e1b6968394a9bbc9dbdc03c5a4733ab5b8032dc40799bd567539", func := "quittance/quittancelaw05.BusinessNear", spec := "businessNear", unfollowed := true, recurses := true, named := ["quittance/civil.monthDays"], apart := false, laid := [("quittance/civil.monthDays", laid_quittance_civil_monthDays)] }
def BusinessNearSaid : Prop := businessNearRow.holds Tryd.pinned (OpenSpec.ofChange businessNearSpec)

/-- ITS FALSE NEIGHBOUR: 'it returns false'. Refute it at one input. -/
def businessNearWrong : ChangeSpec := { name := "businessNear", fn := fun _ => fun
  | [d1, d2] => { results := [.lit (.bool false)], args := [d1, d2] }
  | _ => none }
def BusinessNearWrongFalsely : Prop := businessNearRow.holds Tryd.pinned (OpenSpec.ofChange businessNearWrong)

/- THE SECOND FORM. 'bulk': how many values and letters a reading holds, each counted each time it is reached (what is shared counts as often as it is met; a slice's spare places count too). A statement '..UptoSaid' is the law's where the arguments, and the package variables that the reading takes, are together of bulk at most 1048576: NARROWER than '..Said'. Prove '..Said' where nothing that the law and all that it calls make is longer than what came in: it says more and counts as full. Else prove '..UptoSaid'. A law counts once. -/
mutual
def uptoBulk {H : Type} : DataW H → Nat
  | .lit (.string bytes) => bytes.length + 1
  | .lit _ => 1
  | .nil => 1
  | .ptr d => uptoBulk d + 1
  | .slice elems spare => uptoBulkAll elems + uptoBulkAll spare + 1
  | .agg parts => uptoBulkAll parts + 1
  | .iface _ d => uptoBulk d + 1
  | .map entries => uptoBulkEntries entries + 1
  | .held _ => 1
def uptoBulkAll {H : Type} : List (DataW H) → Nat
  | [] => 0
  | d :: r => uptoBulk d + uptoBulkAll r
def uptoBulkEntries {H : Type} : List (Lit × DataW H) → Nat
  | [] => 0
  | x :: r => uptoBulkEntry x + uptoBulkEntries r
def uptoBulkEntry {H : Type} : Lit × DataW H → Nat
  | (.string bytes, d) => bytes.length + uptoBulk d + 1
  | (_, d) => uptoBulk d + 1
 end
def uptoSmall : (H : Type) → List (DataW H) → Bool := fun _ ds => decide (uptoBulkAll ds ≤ 1048576)
def OpenSpec.upto (s : _root_.Go.ChangeSpec) : _root_.Go.OpenSpec := { _root_.Go.OpenSpec.ofChange s with cond := some uptoSmall }

/-- 'quittancelaw05.BusinessTells', WHERE WHAT IT READS IS OF BULK AT MOST 1048576: true; the input reads as it did. -/
def businessTellsUptoRow : OpenClaim := { program := "ytkkpnhcodaijeaadoor", sum := "f23a52308b57e1b6968394a9bbc9dbdc03c5a4733ab5b8032dc40799bd567539", func := "quittance/quittancelaw05.BusinessTells", spec := "businessTells", unfollowed := true, recurses := true, named := ["quittance/civil.monthDays"], apart := false, laid := [("quittance/civil.monthDays", laid_quittance_civil_monthDays)], narrowed := true }
def BusinessTellsUptoSaid : Prop := businessTellsUptoRow.holds Tryd.pinned (OpenSpec.upto businessTellsSpec)

/-- 'quittancelaw05.BusinessRolls', WHERE WHAT IT READS IS OF BULK AT MOST 1048576: true; the input reads as it did. -/
def businessRollsUptoRow : OpenClaim := { program := "ytkkpnhcodaijeaadoor", sum := "f23a52308b57e1b6968394a9bbc9dbdc03c5a4733ab5b8032dc40799bd567539", func := "quittance/quittancelaw05.BusinessRolls", spec := "businessRolls", unfollowed := true, recurses := true, named := ["quittance/civil.monthDays"], apart := false, laid := [("quittance/civil.monthDays", laid_quittance_civil_monthDays)], narrowed := true }
def BusinessRollsUptoSaid : Prop := businessRollsUptoRow.holds Tryd.pinned (OpenSpec.upto businessRollsSpec)

/-- 'quittancelaw05.BusinessNil', WHERE WHAT IT READS IS OF BULK AT MOST 1048576: true; the input reads as it did. -/
def businessNilUptoRow : OpenClaim := { program := "ytkkpnhcodaijeaadoor", sum := "f23a52308b57e1b6968394a9bbc9dbdc03c5a4733ab5b8032dc40799bd567539", func := "quittance/quittancelaw05.BusinessNil", spec := "businessNil", unfollowed := true, recurses := true, named := ["quittance/civil.monthDays"], apart := false, laid := [("quittance/civil.monthDays", laid_quittance_civil_monthDays)], narrowed := true }
def BusinessNilUptoSaid : Prop := businessNilUptoRow.holds Tryd.pinned (OpenSpec.upto businessNilSpec)

/-- 'quittancelaw05.BusinessCounts', WHERE WHAT IT READS IS OF BULK AT MOST 1048576: true; the input reads as it did. -/
def businessCountsUptoRow : OpenClaim := { program := "ytkkpnhcodaijeaadoor", sum := "f23a52308b57e1b6968394a9bbc9dbdc03c5a4733ab5b8032dc40799bd567539", func := "quittance/quittancelaw05.BusinessCounts", spec := "businessCounts", unfollowed := true, recurses := true, named := ["quittance/civil.monthDays"], apart := false, laid := [("quittance/civil.monthDays", laid_quittance_civil_monthDays)], narrowed := true }
def BusinessCountsUptoSaid : Prop := businessCountsUptoRow.holds Tryd.pinned (OpenSpec.upto businessCountsSpec)

/-- 'quittancelaw05.BusinessNear', WHERE WHAT IT READS IS OF BULK AT MOST 1048576: true; the input reads as it did. -/
def businessNearUptoRow : OpenClaim := { program := "ytkkpnhcodaijeaadoor", sum := "f23a52308b57e1b6968394a9bbc9dbdc03c5a4733ab5b8032dc40799bd567539", func := "quittance/quittancelaw05.BusinessNear", spec := "businessNear", unfollowed := true, recurses := true, named := ["quittance/civil.monthDays"], apart := false, laid := [("quittance/civil.monthDays", laid_quittance_civil_monthDays)], narrowed := true }
def BusinessNearUptoSaid : Prop := businessNearUptoRow.holds Tryd.pinned (OpenSpec.upto businessNearSpec)

end Rows
end Go.Proofs.YtkkpnhcodaijeaaDoor
