
/- The document's own Bear of layer 12, walked: no statement of the seat is proved here. -/
import Derived.Test.YtafjmpaefikdcaaDoorL12Rf1
namespace Go.Proofs.YtafjmpaefikdcaaDoor.L12
open Go.RowKit
set_option linter.unusedVariables false

/-- What the document's Bear answers, and leaves. -/
def RAns (m W r E : Int) (w : World) (C : Nat) (e : Ending) (w' : World) : Prop :=
  (bq m W r E ≤ 1000000000000000 → e = .returned (.tuple #[.int .i64 (bq m W r E), .int .i64 0]) ∧ Ext (w.setCell ⟨C, 2, none⟩ (.int .i64 (br m W r E))) w') ∧
  (¬ bq m W r E ≤ 1000000000000000 → e = .returned (.tuple #[.int .i64 0, .int .i64 3]) ∧ Ext w w')
theorem val_two (b : Int) (h : 0 ≤ b) : val [b % 1000000000, b / 1000000000] = b := by
  show b % 1000000000 + 1000000000 * (b / 1000000000 + 1000000000 * 0) = b
  omega
end Go.Proofs.YtafjmpaefikdcaaDoor.L12