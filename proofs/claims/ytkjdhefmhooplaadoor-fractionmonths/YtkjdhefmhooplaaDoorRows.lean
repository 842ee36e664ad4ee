/-
  NARROWER THAN 'FOR EVERY INPUT', by the rows' own cells (each row's printed sentence says how): FractionTells: laid · FractionSplits: laid · FractionYears: laid · FractionMonths: laid.
  DERIVED. THE GIVEN ROWS OF THIS SEAT. 4 by the template 'for every input the law returns true; each argument reads behind the call as it read before'; 0 by the template 'total and deterministic' (their statements: YtkjdhefmhooplaaDoorTotals.lean).
  GIVEN WITH THE SEED: the statements are not yours to turn. If you find one false, say at which input.
  Laid BY PROGRAM, IN A SANDBOX (cutbox-rows.mjs): the forced cells as the released guide's own fill.sh prints them over the translation 6da0bda2fac3141f… (all of the seat's roots in one cut). By AI agents, Wed Nov 11 2026. No macro, syntax, notation, axiom, sorry.
-/
import Derived.Test.YtkjdhefmhooplaaDoorChecked
import GoSem.Claim
import GoSem.ClaimJoined
import GoSem.ClaimMapViews
import Derived.JoinedTies
import Derived.KernelRfl
namespace Go.Proofs.YtkjdhefmhooplaaDoor
/- THE CELL 'sum', in the pinned program and in every row, IS THE sha256 OF THE DUMP (.gsa) THAT YtkjdhefmhooplaaDoorProg.lean LOADS. Nothing in Lean hashes anything: it is a label: what it is worth is what the hold of that sum in a sandbox is worth. -/
noncomputable def Tryd.pinned : Pinned := { name := "ytkjdhefmhooplaadoor", sum := "6da0bda2fac3141fa2e10ea69b1a345405554e331773b16ea55203d034c678ab", checked := Tryd.checked }
namespace Rows
def none {H : Type} : Left H := { results := [], args := [] }

/- WHAT THE LISTED PACKAGE-LEVEL VARIABLES READ AS WHEN THE CALL BEGINS. Each datum BY PROGRAM (the guide's laid-datum.mjs) off the statement by which the dump's own 'gosem.cut.vars' lays the variable. In a bare row this is a premise. The card (YtkjdhefmhooplaaDoorCards.lean) ties it to the program's text. -/
def laid_quittance_civil_monthDays {H : Type} : DataW H := .agg [.lit (.int .i64 31), .lit (.int .i64 28), .lit (.int .i64 31), .lit (.int .i64 30), .lit (.int .i64 31), .lit (.int .i64 30), .lit (.int .i64 31), .lit (.int .i64 31), .lit (.int .i64 30), .lit (.int .i64 31), .lit (.int .i64 30), .lit (.int .i64 31)]

/-- 'quittancelaw06.FractionTells': WHATEVER THE INPUT: true; the input reads as it did. -/
def fractionTellsSpec : ChangeSpec := { name := "fractionTells", fn := fun _ => fun
  | [d1, d2, d3] => { results := [.lit (.bool true)], args := [d1, d2, d3] }
  | _ => none }
def fractionTellsRow : OpenClaim := { program := "ytkjdhefmhooplaadoor", sum := "6da0bda2fac3141fa2e10ea69b1a345405554e331773b16ea55203d034c678ab", func := "quittance/quittancelaw06.FractionTells", spec := "fractionTells", unfollowed := true, recurses := true, named := ["quittance/civil.monthDays"], apart := false, laid := [("quittance/civil.monthDays", laid_quittance_civil_monthDays)] }
def FractionTellsSaid : Prop := fractionTellsRow.holds Tryd.pinned (OpenSpec.ofChange fractionTellsSpec)

/-- ITS FALSE NEIGHBOUR: 'it returns false'. Refute it at one input. -/
def fractionTellsWrong : ChangeSpec := { name := "fractionTells", fn := fun _ => fun
  | [d1, d2, d3] => { results := [.lit (.bool false)], args := [d1, d2, d3] }
  | _ => none }
def FractionTellsWrongFalsely : Prop := fractionTellsRow.holds Tryd.pinned (OpenSpec.ofChange fractionTellsWrong)

/-- 'quittancelaw06.FractionSplits': WHATEVER THE INPUT: true; the input reads as it did. -/
def fractionSplitsSpec : ChangeSpec := { name := "fractionSplits", fn := fun _ => fun
  | [d1, d2, d3, d4] => { results := [.lit (.bool true)], args := [d1, d2, d3, d4] }
  | _ => none }
def fractionSplitsRow : OpenClaim := { program := "ytkjdhefmhooplaadoor", sum := "6da0bda2fac3141fa2e10ea69b1a345405554e331773b16ea55203d034c678ab", func := "quittance/quittancelaw06.FractionSplits", spec := "fractionSplits", unfollowed := true, recurses := true, named := ["quittance/civil.monthDays"], apart := false, laid := [("quittance/civil.monthDays", laid_quittance_civil_monthDays)] }
def FractionSplitsSaid : Prop := fractionSplitsRow.holds Tryd.pinned (OpenSpec.ofChange fractionSplitsSpec)

/-- ITS FALSE NEIGHBOUR: 'it returns false'. Refute it at one input. -/
def fractionSplitsWrong : ChangeSpec := { name := "fractionSplits", fn := fun _ => fun
  | [d1, d2, d3, d4] => { results := [.lit (.bool false)], args := [d1, d2, d3, d4] }
  | _ => none }
def FractionSplitsWrongFalsely : Prop := fractionSplitsRow.holds Tryd.pinned (OpenSpec.ofChange fractionSplitsWrong)

/-- 'quittancelaw06.FractionYears': WHATEVER THE INPUT: true; the input reads as it did. -/
def fractionYearsSpec : ChangeSpec := { name := "fractionYears", fn := fun _ => fun
  | [d1, d2] => { results := [.lit (.bool true)], args := [d1, d2] }
  | _ => none }
def fractionYearsRow : OpenClaim := { program := "ytkjdhefmhooplaadoor", sum := "6da0bda2fac3141fa2e10ea69b1a345405554e331773b16ea55203d034c678ab", func := "quittance/quittancelaw06.FractionYears", spec := "fractionYears", unfollowed := true, recurses := true, named := ["quittance/civil.monthDays"], apart := false, laid := [("quittance/civil.monthDays", laid_quittance_civil_monthDays)] }
def FractionYearsSaid : Prop := fractionYearsRow.holds Tryd.pinned (OpenSpec.ofChange fractionYearsSpec)

/-- ITS FALSE NEIGHBOUR: 'it returns false'. Refute it at one input. -/
def fractionYearsWrong : ChangeSpec := { name := "fractionYears", fn := fun _ => fun
  | [d1, d2] => { results := [.lit (.bool false)], args := [d1, d2] }
  | _ => none }
def FractionYearsWrongFalsely : Prop := fractionYearsRow.holds Tryd.pinned (OpenSpec.ofChange fractionYearsWrong)

/-- 'quittancelaw06.FractionMonths': WHATEVER THE INPUT: true; the input reads as it did. -/
def fractionMonthsSpec : ChangeSpec := { name := "fractionMonths", fn := fun _ => fun
  | [d1, d2, d3] => { results := [.lit (.bool true)], args := [d1, d2, d3] }
  | _ => none }
def fractionMonthsRow : OpenClaim := { program := "ytkjdhefmhooplaadoor", sum := "6da0bda2fac3141fa2e10ea69b1a345405554e331773b16ea55203d034c678ab", func := "quittance/quittancelaw06.FractionMonths", spec := "fractionMonths", unfollowed := true, recurses := true, named := ["quittance/civil.monthDays"], apart := false, laid := [("quittance/civil.monthDays", laid_quittance_civil_monthDays)] }
def FractionMonthsSaid : Prop := fractionMonthsRow.holds Tryd.pinned (OpenSpec.ofChange fractionMonthsSpec)

/-- ITS FALSE NEIGHBOUR: 'it returns false'. Refute it at one input. -/
def fractionMonthsWrong : ChangeSpec := { name := "fractionMonths", fn := fun _ => fun
  | [d1, d2, d3] => { results := [.lit (.bool false)], args := [d1, d2, d3] }
  | _ => none }
def FractionMonthsWrongFalsely : Prop := fractionMonthsRow.holds Tryd.pinned (OpenSpec.ofChange fractionMonthsWrong)

/- THE SECOND FORM. 'bulk': how many values and letters a reading holds, each counted each time it is reached (what is shared counts as often as it is met; a slice's spare places count too). A statement '..UptoSaid' is the law's where the arguments, and the package variables that the reading takes, are together of bulk at most 1048576: NARROWER than '..Said'. Prove '..Said' where nothing that the law and all that it calls make is longer than what came in: it says more and counts as full. Else prove '..UptoSaid'. A law counts once. -/
mutual
def uptoBulk {H : Type} : DataW H → Nat
  | .lit (.string bytes) => bytes.length + 1
  | .lit _ => 1
  | .nil => 1
  | .ptr d => uptoBulk d + 1
  | .slice elems spare => uptoBulkAll elems + uptoBulkAll spare + 1
  | .agg parts => uptoBulkAll parts + 1
  | .iface _ d => uptoBulk d + 1
  | .map entries => uptoBulkEntries entries + 1
  | .held _ => 1
def uptoBulkAll {H : Type} : List (DataW H) → Nat
  | [] => 0
  | d :: r => uptoBulk d + uptoBulkAll r
def uptoBulkEntries {H : Type} : List (Lit × DataW H) → Nat
  | [] => 0
  | x :: r => uptoBulkEntry x + uptoBulkEntries r
def uptoBulkEntry {H : Type} : Lit × DataW H → Nat
  | (.string bytes, d) => bytes.length + uptoBulk d + 1
  | (_, d) => uptoBulk d + 1
 end
def uptoSmall : (H : Type) → List (DataW H) → Bool := fun _ ds => decide (uptoBulkAll ds ≤ 1048576)
def OpenSpec.upto (s : _root_.Go.ChangeSpec) : _root_.Go.OpenSpec := { _root_.Go.OpenSpec.ofChange s with cond := some uptoSmall }

/-- 'quittancelaw06.FractionTells', WHERE WHAT IT READS IS OF BULK AT MOST 1048576: true; the input reads as it did. -/
def fractionTellsUptoRow : OpenClaim := { program := "ytkjdhefmhooplaadoor", sum := "6da0bda2fac3141fa2e10ea69b1a345405554e331773b16ea55203d034c678ab", func := "quittance/quittancelaw06.FractionTells", spec := "fractionTells", unfollowed := true, recurses := true, named := ["quittance/civil.monthDays"], apart := false, laid := [("quittance/civil.monthDays", laid_quittance_civil_monthDays)], narrowed := true }
def FractionTellsUptoSaid : Prop := fractionTellsUptoRow.holds Tryd.pinned (OpenSpec.upto fractionTellsSpec)

/-- 'quittancelaw06.FractionSplits', WHERE WHAT IT READS IS OF BULK AT MOST 1048576: true; the input reads as it did. -/
def fractionSplitsUptoRow : OpenClaim := { program := "ytkjdhefmhooplaadoor", sum := "6da0bda2fac3141fa2e10ea69b1a345405554e331773b16ea55203d034c678ab", func := "quittance/quittancelaw06.FractionSplits", spec := "fractionSplits", unfollowed := true, recurses := true, named := ["quittance/civil.monthDays"], apart := false, laid := [("quittance/civil.monthDays", laid_quittance_civil_monthDays)], narrowed := true }
def FractionSplitsUptoSaid : Prop := fractionSplitsUptoRow.holds Tryd.pinned (OpenSpec.upto fractionSplitsSpec)

/-- 'quittancelaw06.FractionYears', WHERE WHAT IT READS IS OF BULK AT MOST 1048576: true; the input reads as it did. -/
def fractionYearsUptoRow : OpenClaim := { program := "ytkjdhefmhooplaadoor", sum := "6da0bda2fac3141fa2e10ea69b1a345405554e331773b16ea55203d034c678ab", func := "quittance/quittancelaw06.FractionYears", spec := "fractionYears", unfollowed := true, recurses := true, named := ["quittance/civil.monthDays"], apart := false, laid := [("quittance/civil.monthDays", laid_quittance_civil_monthDays)], narrowed := true }
def FractionYearsUptoSaid : Prop := fractionYearsUptoRow.holds Tryd.pinned (OpenSpec.upto fractionYearsSpec)

/-- 'quittancelaw06.FractionMonths', WHERE WHAT IT READS IS OF BULK AT MOST 1048576: true; the input reads as it did. -/
def fractionMonthsUptoRow : OpenClaim := { program := "ytkjdhefmhooplaadoor", sum := "6da0bda2fac3141fa2e10ea69b1a345405554e331773b16ea55203d034c678ab", func := "quittance/quittancelaw06.FractionMonths", spec := "fractionMonths", unfollowed := true, recurses := true, named := ["quittance/civil.monthDays"], apart := false, laid := [("quittance/civil.monthDays", laid_quittance_civil_monthDays)], narrowed := true }
def FractionMonthsUptoSaid : Prop := fractionMonthsUptoRow.holds Tryd.pinned (OpenSpec.upto fractionMonthsSpec)

end Rows
end Go.Proofs.YtkjdhefmhooplaaDoor
