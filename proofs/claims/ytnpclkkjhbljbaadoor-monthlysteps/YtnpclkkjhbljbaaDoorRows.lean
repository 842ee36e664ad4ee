/-
  NARROWER THAN 'FOR EVERY INPUT', by the rows' own cells (each row's printed sentence says how): MonthlyTells: laid · MonthlySteps: laid · MonthlyBack: laid · MonthlyEnds: laid.
  DERIVED. THE GIVEN ROWS OF THIS SEAT. 4 by the template 'for every input the law returns true; each argument reads behind the call as it read before'; 0 by the template 'total and deterministic' (their statements: YtnpclkkjhbljbaaDoorTotals.lean).
  GIVEN WITH THE SEED: the statements are not yours to turn. If you find one false, say at which input.
  Laid BY PROGRAM, IN A SANDBOX (cutbox-rows.mjs): the forced cells as the released guide's own fill.sh prints them over the translation f21634017750dcff… (all of the seat's roots in one cut). By AI agents, Wed Nov 11 2026. No macro, syntax, notation, axiom, sorry.
-/
import Derived.Test.YtnpclkkjhbljbaaDoorChecked
import GoSem.Claim
import GoSem.ClaimJoined
import GoSem.ClaimMapViews
import Derived.JoinedTies
import Derived.KernelRfl
namespace Go.Proofs.YtnpclkkjhbljbaaDoor
/- THE CELL 'sum', in the pinned program and in every row, IS THE sha256 OF THE DUMP (.gsa) THAT YtnpclkkjhbljbaaDoorProg.lean LOADS. Nothing in Lean hashes anything: it is a label: what it is worth is what the hold of that sum in a sandbox is worth. -/
noncomputable def Tryd.pinned : Pinned := { name := "ytnpclkkjhbljbaadoor", sum := "f21634017750dcff99622f2a3207fde1e94948f5a8953a1ecd5124c05cebd7d1", checked := Tryd.checked }
namespace Rows
def none {H : Type} : Left H := { results := [], args := [] }

/- WHAT THE LISTED PACKAGE-LEVEL VARIABLES READ AS WHEN THE CALL BEGINS. Each datum BY PROGRAM (the guide's laid-datum.mjs) off the statement by which the dump's own 'gosem.cut.vars' lays the variable. In a bare row this is a premise. The card (YtnpclkkjhbljbaaDoorCards.lean) ties it to the program's text. -/
def laid_quittance_civil_monthDays {H : Type} : DataW H := .agg [.lit (.int .i64 31), .lit (.int .i64 28), .lit (.int .i64 31), .lit (.int .i64 30), .lit (.int .i64 31), .lit (.int .i64 30), .lit (.int .i64 31), .lit (.int .i64 31), .lit (.int .i64 30), .lit (.int .i64 31), .lit (.int .i64 30), .lit (.int .i64 31)]

/-- 'quittancelaw04.MonthlyTells': WHATEVER THE INPUT: true; the input reads as it did. -/
def monthlyTellsSpec : ChangeSpec := { name := "monthlyTells", fn := fun _ => fun
  | [d1, d2, d3, d4] => { results := [.lit (.bool true)], args := [d1, d2, d3, d4] }
  | _ => none }
def monthlyTellsRow : OpenClaim := { program := "ytnpclkkjhbljbaadoor", sum := "f21634017750dcff99622f2a3207fde1e94948f5a8953a1ecd5124c05cebd7d1", func := "quittance/quittancelaw04.MonthlyTells", spec := "monthlyTells", unfollowed := true, recurses := true, named := ["quittance/civil.monthDays"], apart := false, laid := [("quittance/civil.monthDays", laid_quittance_civil_monthDays)] }
def MonthlyTellsSaid : Prop := monthlyTellsRow.holds Tryd.pinned (OpenSpec.ofChange monthlyTellsSpec)

/-- ITS FALSE NEIGHBOUR: 'it returns false'. Refute it at one input. -/
def monthlyTellsWrong : ChangeSpec := { name := "monthlyTells", fn := fun _ => fun
  | [d1, d2, d3, d4] => { results := [.lit (.bool false)], args := [d1, d2, d3, d4] }
  | _ => none }
def MonthlyTellsWrongFalsely : Prop := monthlyTellsRow.holds Tryd.pinned (OpenSpec.ofChange monthlyTellsWrong)

/-- 'quittancelaw04.MonthlySteps': WHATEVER THE INPUT: true; the input reads as it did. -/
def monthlyStepsSpec : ChangeSpec := { name := "monthlySteps", fn := fun _ => fun
  | [d1, d2, d3] => { results := [.lit (.bool true)], args := [d1, d2, d3] }
  | _ => none }
def monthlyStepsRow : OpenClaim := { program := "ytnpclkkjhbljbaadoor", sum := "f21634017750dcff99622f2a3207fde1e94948f5a8953a1ecd5124c05cebd7d1", func := "quittance/quittancelaw04.MonthlySteps", spec := "monthlySteps", unfollowed := true, recurses := true, named := ["quittance/civil.monthDays"], apart := false, laid := [("quittance/civil.monthDays", laid_quittance_civil_monthDays)] }
def MonthlyStepsSaid : Prop := monthlyStepsRow.holds Tryd.pinned (OpenSpec.ofChange monthlyStepsSpec)

/-- ITS FALSE NEIGHBOUR: 'it returns false'. Refute it at one input. -/
def monthlyStepsWrong : ChangeSpec := { name := "monthlySteps", fn := fun _ => fun
  | [d1, d2, d3] => { results := [.lit (.bool false)], args := [d1, d2, d3] }
  | _ => none }
def MonthlyStepsWrongFalsely : Prop := monthlyStepsRow.holds Tryd.pinned (OpenSpec.ofChange monthlyStepsWrong)

/-- 'quittancelaw04.MonthlyBack': WHATEVER THE INPUT: true; the input reads as it did. -/
def monthlyBackSpec : ChangeSpec := { name := "monthlyBack", fn := fun _ => fun
  | [d1, d2] => { results := [.lit (.bool true)], args := [d1, d2] }
  | _ => none }
def monthlyBackRow : OpenClaim := { program := "ytnpclkkjhbljbaadoor", sum := "f21634017750dcff99622f2a3207fde1e94948f5a8953a1ecd5124c05cebd7d1", func := "quittance/quittancelaw04.MonthlyBack", spec := "monthlyBack", unfollowed := true, recurses := true, named := ["quittance/civil.monthDays"], apart := false, laid := [("quittance/civil.monthDays", laid_quittance_civil_monthDays)] }
def MonthlyBackSaid : Prop := monthlyBackRow.holds Tryd.pinned (OpenSpec.ofChange monthlyBackSpec)

/-- ITS FALSE NEIGHBOUR: 'it returns false'. Refute it at one input. -/
def monthlyBackWrong : ChangeSpec := { name := "monthlyBack", fn := fun _ => fun
  | [d1, d2] => { results := [.lit (.bool false)], args := [d1, d2] }
  | _ => none }
def MonthlyBackWrongFalsely : Prop := monthlyBackRow.holds Tryd.pinned (OpenSpec.ofChange monthlyBackWrong)

/-- 'quittancelaw04.MonthlyEnds': WHATEVER THE INPUT: true; the input reads as it did. -/
def monthlyEndsSpec : ChangeSpec := { name := "monthlyEnds", fn := fun _ => fun
  | [d1, d2, d3] => { results := [.lit (.bool true)], args := [d1, d2, d3] }
  | _ => none }
def monthlyEndsRow : OpenClaim := { program := "ytnpclkkjhbljbaadoor", sum := "f21634017750dcff99622f2a3207fde1e94948f5a8953a1ecd5124c05cebd7d1", func := "quittance/quittancelaw04.MonthlyEnds", spec := "monthlyEnds", unfollowed := true, recurses := true, named := ["quittance/civil.monthDays"], apart := false, laid := [("quittance/civil.monthDays", laid_quittance_civil_monthDays)] }
def MonthlyEndsSaid : Prop := monthlyEndsRow.holds Tryd.pinned (OpenSpec.ofChange monthlyEndsSpec)

/-- ITS FALSE NEIGHBOUR: 'it returns false'. Refute it at one input. -/
def monthlyEndsWrong : ChangeSpec := { name := "monthlyEnds", fn := fun _ => fun
  | [d1, d2, d3] => { results := [.lit (.bool false)], args := [d1, d2, d3] }
  | _ => none }
def MonthlyEndsWrongFalsely : Prop := monthlyEndsRow.holds Tryd.pinned (OpenSpec.ofChange monthlyEndsWrong)

/- THE SECOND FORM. 'bulk': how many values and letters a reading holds, each counted each time it is reached (what is shared counts as often as it is met; a slice's spare places count too). A statement '..UptoSaid' is the law's where the arguments, and the package variables that the reading takes, are together of bulk at most 1048576: NARROWER than '..Said'. Prove '..Said' where nothing that the law and all that it calls make is longer than what came in: it says more and counts as full. Else prove '..UptoSaid'. A law counts once. -/
mutual
def uptoBulk {H : Type} : DataW H → Nat
  | .lit (.string bytes) => bytes.length + 1
  | .lit _ => 1
  | .nil => 1
  | .ptr d => uptoBulk d + 1
  | .slice elems spare => uptoBulkAll elems + uptoBulkAll spare + 1
  | .agg parts => uptoBulkAll parts + 1
  | .iface _ d => uptoBulk d + 1
  | .map entries => uptoBulkEntries entries + 1
  | .held _ => 1
def uptoBulkAll {H : Type} : List (DataW H) → Nat
  | [] => 0
  | d :: r => uptoBulk d + uptoBulkAll r
def uptoBulkEntries {H : Type} : List (Lit × DataW H) → Nat
  | [] => 0
  | x :: r => uptoBulkEntry x + uptoBulkEntries r
def uptoBulkEntry {H : Type} : Lit × DataW H → Nat
  | (.string bytes, d) => bytes.length + uptoBulk d + 1
  | (_, d) => uptoBulk d + 1
 end
def uptoSmall : (H : Type) → List (DataW H) → Bool := fun _ ds => decide (uptoBulkAll ds ≤ 1048576)
def OpenSpec.upto (s : _root_.Go.ChangeSpec) : _root_.Go.OpenSpec := { _root_.Go.OpenSpec.ofChange s with cond := some uptoSmall }

/-- 'quittancelaw04.MonthlyTells', WHERE WHAT IT READS IS OF BULK AT MOST 1048576: true; the input reads as it did. -/
def monthlyTellsUptoRow : OpenClaim := { program := "ytnpclkkjhbljbaadoor", sum := "f21634017750dcff99622f2a3207fde1e94948f5a8953a1ecd5124c05cebd7d1", func := "quittance/quittancelaw04.MonthlyTells", spec := "monthlyTells", unfollowed := true, recurses := true, named := ["quittance/civil.monthDays"], apart := false, laid := [("quittance/civil.monthDays", laid_quittance_civil_monthDays)], narrowed := true }
def MonthlyTellsUptoSaid : Prop := monthlyTellsUptoRow.holds Tryd.pinned (OpenSpec.upto monthlyTellsSpec)

/-- 'quittancelaw04.MonthlySteps', WHERE WHAT IT READS IS OF BULK AT MOST 1048576: true; the input reads as it did. -/
def monthlyStepsUptoRow : OpenClaim := { program := "ytnpclkkjhbljbaadoor", sum := "f21634017750dcff99622f2a3207fde1e94948f5a8953a1ecd5124c05cebd7d1", func := "quittance/quittancelaw04.MonthlySteps", spec := "monthlySteps", unfollowed := true, recurses := true, named := ["quittance/civil.monthDays"], apart := false, laid := [("quittance/civil.monthDays", laid_quittance_civil_monthDays)], narrowed := true }
def MonthlyStepsUptoSaid : Prop := monthlyStepsUptoRow.holds Tryd.pinned (OpenSpec.upto monthlyStepsSpec)

/-- 'quittancelaw04.MonthlyBack', WHERE WHAT IT READS IS OF BULK AT MOST 1048576: true; the input reads as it did. -/
def monthlyBackUptoRow : OpenClaim := { program := "ytnpclkkjhbljbaadoor", sum := "f21634017750dcff99622f2a3207fde1e94948f5a8953a1ecd5124c05cebd7d1", func := "quittance/quittancelaw04.MonthlyBack", spec := "monthlyBack", unfollowed := true, recurses := true, named := ["quittance/civil.monthDays"], apart := false, laid := [("quittance/civil.monthDays", laid_quittance_civil_monthDays)], narrowed := true }
def MonthlyBackUptoSaid : Prop := monthlyBackUptoRow.holds Tryd.pinned (OpenSpec.upto monthlyBackSpec)

/-- 'quittancelaw04.MonthlyEnds', WHERE WHAT IT READS IS OF BULK AT MOST 1048576: true; the input reads as it did. -/
def monthlyEndsUptoRow : OpenClaim := { program := "ytnpclkkjhbljbaadoor", sum := "f21634017750dcff99622f2a3207fde1e94948f5a8953a1ecd5124c05cebd7d1", func := "quittance/quittancelaw04.MonthlyEnds", spec := "monthlyEnds", unfollowed := true, recurses := true, named := ["quittance/civil.monthDays"], apart := false, laid := [("quittance/civil.monthDays", laid_quittance_civil_monthDays)], narrowed := true }
def MonthlyEndsUptoSaid : Prop := monthlyEndsUptoRow.holds Tryd.pinned (OpenSpec.upto monthlyEndsSpec)

end Rows
end Go.Proofs.YtnpclkkjhbljbaaDoor
