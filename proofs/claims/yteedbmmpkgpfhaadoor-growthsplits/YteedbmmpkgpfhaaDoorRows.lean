/-
  NARROWER THAN 'FOR EVERY INPUT', by the rows' own cells (each row's printed sentence says how): GrowthBears: laid · GrowthSplits: laid · GrowthRest: laid · GrowthYear: laid · GrowthMore: laid · GrowthRefuses: laid.
  DERIVED. THE GIVEN ROWS OF THIS SEAT. 6 by the template 'for every input the law returns true; each argument reads behind the call as it read before'; 0 by the template 'total and deterministic' (their statements: YteedbmmpkgpfhaaDoorTotals.lean).
  GIVEN WITH THE SEED: the statements are not yours to turn. If you find one false, say at which input.
  Laid BY PROGRAM, IN A SANDBOX (cutbox-rows.mjs): the forced cells as the released guide's own fill.sh prints them over the translation fa247585a1919e1d… (all of the seat's roots in one cut). By AI agents, Wed Nov 11 2026. No macro, syntax, notation, axiom, sorry.
-/
import Derived.Test.YteedbmmpkgpfhaaDoorChecked
import GoSem.Claim
import GoSem.ClaimJoined
import GoSem.ClaimMapViews
import Derived.JoinedTies
import Derived.KernelRfl
namespace Go.Proofs.YteedbmmpkgpfhaaDoor
/- THE CELL 'sum', in the pinned program and in every row, IS THE sha256 OF THE DUMP (.gsa) THAT YteedbmmpkgpfhaaDoorProg.lean LOADS. Nothing in Lean hashes anything: it is a label: what it is worth is what the hold of that sum in a sandbox is worth. -/
noncomputable def Tryd.pinned : Pinned := { name := "yteedbmmpkgpfhaadoor", sum := "fa247585a1919e1d308ff47cac1f2f19c50b41feadb2246a378bb0b25b5b56b9", checked := Tryd.checked }
namespace Rows
def none {H : Type} : Left H := { results := [], args := [] }

/- WHAT THE LISTED PACKAGE-LEVEL VARIABLES READ AS WHEN THE CALL BEGINS. Each datum BY PROGRAM (the guide's laid-datum.mjs) off the statement by which the dump's own 'gosem.cut.vars' lays the variable. In a bare row this is a premise. The card (YteedbmmpkgpfhaaDoorCards.lean) ties it to the program's text. -/
def laid_quittance_civil_monthDays {H : Type} : DataW H := .agg [.lit (.int .i64 31), .lit (.int .i64 28), .lit (.int .i64 31), .lit (.int .i64 30), .lit (.int .i64 31), .lit (.int .i64 30), .lit (.int .i64 31), .lit (.int .i64 31), .lit (.int .i64 30), .lit (.int .i64 31), .lit (.int .i64 30), .lit (.int .i64 31)]

/-- 'quittancelaw12.GrowthBears': WHATEVER THE INPUT: true; the input reads as it did. -/
def growthBearsSpec : ChangeSpec := { name := "growthBears", fn := fun _ => fun
  | [d1, d2, d3, d4] => { results := [.lit (.bool true)], args := [d1, d2, d3, d4] }
  | _ => none }
def growthBearsRow : OpenClaim := { program := "yteedbmmpkgpfhaadoor", sum := "fa247585a1919e1d308ff47cac1f2f19c50b41feadb2246a378bb0b25b5b56b9", func := "quittance/quittancelaw12.GrowthBears", spec := "growthBears", unfollowed := true, recurses := true, named := ["quittance/civil.monthDays", "math/bits.divideError", "math/bits.overflowError"], apart := false, laid := [("quittance/civil.monthDays", laid_quittance_civil_monthDays)] }
def GrowthBearsSaid : Prop := growthBearsRow.holds Tryd.pinned (OpenSpec.ofChange growthBearsSpec)

/-- ITS FALSE NEIGHBOUR: 'it returns false'. Refute it at one input. -/
def growthBearsWrong : ChangeSpec := { name := "growthBears", fn := fun _ => fun
  | [d1, d2, d3, d4] => { results := [.lit (.bool false)], args := [d1, d2, d3, d4] }
  | _ => none }
def GrowthBearsWrongFalsely : Prop := growthBearsRow.holds Tryd.pinned (OpenSpec.ofChange growthBearsWrong)

/-- 'quittancelaw12.GrowthSplits': WHATEVER THE INPUT: true; the input reads as it did. -/
def growthSplitsSpec : ChangeSpec := { name := "growthSplits", fn := fun _ => fun
  | [d1, d2, d3, d4, d5] => { results := [.lit (.bool true)], args := [d1, d2, d3, d4, d5] }
  | _ => none }
def growthSplitsRow : OpenClaim := { program := "yteedbmmpkgpfhaadoor", sum := "fa247585a1919e1d308ff47cac1f2f19c50b41feadb2246a378bb0b25b5b56b9", func := "quittance/quittancelaw12.GrowthSplits", spec := "growthSplits", unfollowed := true, recurses := true, named := ["quittance/civil.monthDays", "math/bits.divideError", "math/bits.overflowError"], apart := false, laid := [("quittance/civil.monthDays", laid_quittance_civil_monthDays)] }
def GrowthSplitsSaid : Prop := growthSplitsRow.holds Tryd.pinned (OpenSpec.ofChange growthSplitsSpec)

/-- ITS FALSE NEIGHBOUR: 'it returns false'. Refute it at one input. -/
def growthSplitsWrong : ChangeSpec := { name := "growthSplits", fn := fun _ => fun
  | [d1, d2, d3, d4, d5] => { results := [.lit (.bool false)], args := [d1, d2, d3, d4, d5] }
  | _ => none }
def GrowthSplitsWrongFalsely : Prop := growthSplitsRow.holds Tryd.pinned (OpenSpec.ofChange growthSplitsWrong)

/-- 'quittancelaw12.GrowthRest': WHATEVER THE INPUT: true; the input reads as it did. -/
def growthRestSpec : ChangeSpec := { name := "growthRest", fn := fun _ => fun
  | [d1, d2, d3] => { results := [.lit (.bool true)], args := [d1, d2, d3] }
  | _ => none }
def growthRestRow : OpenClaim := { program := "yteedbmmpkgpfhaadoor", sum := "fa247585a1919e1d308ff47cac1f2f19c50b41feadb2246a378bb0b25b5b56b9", func := "quittance/quittancelaw12.GrowthRest", spec := "growthRest", unfollowed := true, recurses := true, named := ["quittance/civil.monthDays", "math/bits.divideError", "math/bits.overflowError"], apart := false, laid := [("quittance/civil.monthDays", laid_quittance_civil_monthDays)] }
def GrowthRestSaid : Prop := growthRestRow.holds Tryd.pinned (OpenSpec.ofChange growthRestSpec)

/-- ITS FALSE NEIGHBOUR: 'it returns false'. Refute it at one input. -/
def growthRestWrong : ChangeSpec := { name := "growthRest", fn := fun _ => fun
  | [d1, d2, d3] => { results := [.lit (.bool false)], args := [d1, d2, d3] }
  | _ => none }
def GrowthRestWrongFalsely : Prop := growthRestRow.holds Tryd.pinned (OpenSpec.ofChange growthRestWrong)

/-- 'quittancelaw12.GrowthYear': WHATEVER THE INPUT: true; the input reads as it did. -/
def growthYearSpec : ChangeSpec := { name := "growthYear", fn := fun _ => fun
  | [d1, d2] => { results := [.lit (.bool true)], args := [d1, d2] }
  | _ => none }
def growthYearRow : OpenClaim := { program := "yteedbmmpkgpfhaadoor", sum := "fa247585a1919e1d308ff47cac1f2f19c50b41feadb2246a378bb0b25b5b56b9", func := "quittance/quittancelaw12.GrowthYear", spec := "growthYear", unfollowed := true, recurses := true, named := ["quittance/civil.monthDays", "math/bits.divideError", "math/bits.overflowError"], apart := false, laid := [("quittance/civil.monthDays", laid_quittance_civil_monthDays)] }
def GrowthYearSaid : Prop := growthYearRow.holds Tryd.pinned (OpenSpec.ofChange growthYearSpec)

/-- ITS FALSE NEIGHBOUR: 'it returns false'. Refute it at one input. -/
def growthYearWrong : ChangeSpec := { name := "growthYear", fn := fun _ => fun
  | [d1, d2] => { results := [.lit (.bool false)], args := [d1, d2] }
  | _ => none }
def GrowthYearWrongFalsely : Prop := growthYearRow.holds Tryd.pinned (OpenSpec.ofChange growthYearWrong)

/-- 'quittancelaw12.GrowthMore': WHATEVER THE INPUT: true; the input reads as it did. -/
def growthMoreSpec : ChangeSpec := { name := "growthMore", fn := fun _ => fun
  | [d1, d2, d3, d4] => { results := [.lit (.bool true)], args := [d1, d2, d3, d4] }
  | _ => none }
def growthMoreRow : OpenClaim := { program := "yteedbmmpkgpfhaadoor", sum := "fa247585a1919e1d308ff47cac1f2f19c50b41feadb2246a378bb0b25b5b56b9", func := "quittance/quittancelaw12.GrowthMore", spec := "growthMore", unfollowed := true, recurses := true, named := ["quittance/civil.monthDays", "math/bits.divideError", "math/bits.overflowError"], apart := false, laid := [("quittance/civil.monthDays", laid_quittance_civil_monthDays)] }
def GrowthMoreSaid : Prop := growthMoreRow.holds Tryd.pinned (OpenSpec.ofChange growthMoreSpec)

/-- ITS FALSE NEIGHBOUR: 'it returns false'. Refute it at one input. -/
def growthMoreWrong : ChangeSpec := { name := "growthMore", fn := fun _ => fun
  | [d1, d2, d3, d4] => { results := [.lit (.bool false)], args := [d1, d2, d3, d4] }
  | _ => none }
def GrowthMoreWrongFalsely : Prop := growthMoreRow.holds Tryd.pinned (OpenSpec.ofChange growthMoreWrong)

/-- 'quittancelaw12.GrowthRefuses': WHATEVER THE INPUT: true; the input reads as it did. -/
def growthRefusesSpec : ChangeSpec := { name := "growthRefuses", fn := fun _ => fun
  | [d1, d2] => { results := [.lit (.bool true)], args := [d1, d2] }
  | _ => none }
def growthRefusesRow : OpenClaim := { program := "yteedbmmpkgpfhaadoor", sum := "fa247585a1919e1d308ff47cac1f2f19c50b41feadb2246a378bb0b25b5b56b9", func := "quittance/quittancelaw12.GrowthRefuses", spec := "growthRefuses", unfollowed := true, recurses := true, named := ["quittance/civil.monthDays", "math/bits.divideError", "math/bits.overflowError"], apart := false, laid := [("quittance/civil.monthDays", laid_quittance_civil_monthDays)] }
def GrowthRefusesSaid : Prop := growthRefusesRow.holds Tryd.pinned (OpenSpec.ofChange growthRefusesSpec)

/-- ITS FALSE NEIGHBOUR: 'it returns false'. Refute it at one input. -/
def growthRefusesWrong : ChangeSpec := { name := "growthRefuses", fn := fun _ => fun
  | [d1, d2] => { results := [.lit (.bool false)], args := [d1, d2] }
  | _ => none }
def GrowthRefusesWrongFalsely : Prop := growthRefusesRow.holds Tryd.pinned (OpenSpec.ofChange growthRefusesWrong)

/- THE SECOND FORM. 'bulk': how many values and letters a reading holds, each counted each time it is reached (what is shared counts as often as it is met; a slice's spare places count too). A statement '..UptoSaid' is the law's where the arguments, and the package variables that the reading takes, are together of bulk at most 1048576: NARROWER than '..Said'. Prove '..Said' where nothing that the law and all that it calls make is longer than what came in: it says more and counts as full. Else prove '..UptoSaid'. A law counts once. -/
mutual
def uptoBulk {H : Type} : DataW H → Nat
  | .lit (.string bytes) => bytes.length + 1
  | .lit _ => 1
  | .nil => 1
  | .ptr d => uptoBulk d + 1
  | .slice elems spare => uptoBulkAll elems + uptoBulkAll spare + 1
  | .agg parts => uptoBulkAll parts + 1
  | .iface _ d => uptoBulk d + 1
  | .map entries => uptoBulkEntries entries + 1
  | .held _ => 1
def uptoBulkAll {H : Type} : List (DataW H) → Nat
  | [] => 0
  | d :: r => uptoBulk d + uptoBulkAll r
def uptoBulkEntries {H : Type} : List (Lit × DataW H) → Nat
  | [] => 0
  | x :: r => uptoBulkEntry x + uptoBulkEntries r
def uptoBulkEntry {H : Type} : Lit × DataW H → Nat
  | (.string bytes, d) => bytes.length + uptoBulk d + 1
  | (_, d) => uptoBulk d + 1
 end
def uptoSmall : (H : Type) → List (DataW H) → Bool := fun _ ds => decide (uptoBulkAll ds ≤ 1048576)
def OpenSpec.upto (s : _root_.Go.ChangeSpec) : _root_.Go.OpenSpec := { _root_.Go.OpenSpec.ofChange s with cond := some uptoSmall }

/-- 'quittancelaw12.GrowthBears', WHERE WHAT IT READS IS OF BULK AT MOST 1048576: true; the input reads as it did. -/
def growthBearsUptoRow : OpenClaim := { program := "yteedbmmpkgpfhaadoor", sum := "fa247585a1919e1d308ff47cac1f2f19c50b41feadb2246a378bb0b25b5b56b9", func := "quittance/quittancelaw12.GrowthBears", spec := "growthBears", unfollowed := true, recurses := true, named := ["quittance/civil.monthDays", "math/bits.divideError", "math/bits.overflowError"], apart := false, laid := [("quittance/civil.monthDays", laid_quittance_civil_monthDays)], narrowed := true }
def GrowthBearsUptoSaid : Prop := growthBearsUptoRow.holds Tryd.pinned (OpenSpec.upto growthBearsSpec)

/-- 'quittancelaw12.GrowthSplits', WHERE WHAT IT READS IS OF BULK AT MOST 1048576: true; the input reads as it did. -/
def growthSplitsUptoRow : OpenClaim := { program := "yteedbmmpkgpfhaadoor", sum := "fa247585a1919e1d308ff47cac1f2f19c50b41feadb2246a378bb0b25b5b56b9", func := "quittance/quittancelaw12.GrowthSplits", spec := "growthSplits", unfollowed := true, recurses := true, named := ["quittance/civil.monthDays", "math/bits.divideError", "math/bits.overflowError"], apart := false, laid := [("quittance/civil.monthDays", laid_quittance_civil_monthDays)], narrowed := true }
def GrowthSplitsUptoSaid : Prop := growthSplitsUptoRow.holds Tryd.pinned (OpenSpec.upto growthSplitsSpec)

/-- 'quittancelaw12.GrowthRest', WHERE WHAT IT READS IS OF BULK AT MOST 1048576: true; the input reads as it did. -/
def growthRestUptoRow : OpenClaim := { program := "yteedbmmpkgpfhaadoor", sum := "fa247585a1919e1d308ff47cac1f2f19c50b41feadb2246a378bb0b25b5b56b9", func := "quittance/quittancelaw12.GrowthRest", spec := "growthRest", unfollowed := true, recurses := true, named := ["quittance/civil.monthDays", "math/bits.divideError", "math/bits.overflowError"], apart := false, laid := [("quittance/civil.monthDays", laid_quittance_civil_monthDays)], narrowed := true }
def GrowthRestUptoSaid : Prop := growthRestUptoRow.holds Tryd.pinned (OpenSpec.upto growthRestSpec)

/-- 'quittancelaw12.GrowthYear', WHERE WHAT IT READS IS OF BULK AT MOST 1048576: true; the input reads as it did. -/
def growthYearUptoRow : OpenClaim := { program := "yteedbmmpkgpfhaadoor", sum := "fa247585a1919e1d308ff47cac1f2f19c50b41feadb2246a378bb0b25b5b56b9", func := "quittance/quittancelaw12.GrowthYear", spec := "growthYear", unfollowed := true, recurses := true, named := ["quittance/civil.monthDays", "math/bits.divideError", "math/bits.overflowError"], apart := false, laid := [("quittance/civil.monthDays", laid_quittance_civil_monthDays)], narrowed := true }
def GrowthYearUptoSaid : Prop := growthYearUptoRow.holds Tryd.pinned (OpenSpec.upto growthYearSpec)

/-- 'quittancelaw12.GrowthMore', WHERE WHAT IT READS IS OF BULK AT MOST 1048576: true; the input reads as it did. -/
def growthMoreUptoRow : OpenClaim := { program := "yteedbmmpkgpfhaadoor", sum := "fa247585a1919e1d308ff47cac1f2f19c50b41feadb2246a378bb0b25b5b56b9", func := "quittance/quittancelaw12.GrowthMore", spec := "growthMore", unfollowed := true, recurses := true, named := ["quittance/civil.monthDays", "math/bits.divideError", "math/bits.overflowError"], apart := false, laid := [("quittance/civil.monthDays", laid_quittance_civil_monthDays)], narrowed := true }
def GrowthMoreUptoSaid : Prop := growthMoreUptoRow.holds Tryd.pinned (OpenSpec.upto growthMoreSpec)

/-- 'quittancelaw12.GrowthRefuses', WHERE WHAT IT READS IS OF BULK AT MOST 1048576: true; the input reads as it did. -/
def growthRefusesUptoRow : OpenClaim := { program := "yteedbmmpkgpfhaadoor", sum := "fa247585a1919e1d308ff47cac1f2f19c50b41feadb2246a378bb0b25b5b56b9", func := "quittance/quittancelaw12.GrowthRefuses", spec := "growthRefuses", unfollowed := true, recurses := true, named := ["quittance/civil.monthDays", "math/bits.divideError", "math/bits.overflowError"], apart := false, laid := [("quittance/civil.monthDays", laid_quittance_civil_monthDays)], narrowed := true }
def GrowthRefusesUptoSaid : Prop := growthRefusesUptoRow.holds Tryd.pinned (OpenSpec.upto growthRefusesSpec)

end Rows
end Go.Proofs.YteedbmmpkgpfhaaDoor
