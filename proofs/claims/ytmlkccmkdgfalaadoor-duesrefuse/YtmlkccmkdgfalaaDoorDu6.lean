
/- The document's own Parts of layer 11, as a contract: no statement of the seat is proved here. -/
import Derived.Test.YtmlkccmkdgfalaaDoorDu5
namespace Go.Proofs.YtmlkccmkdgfalaaDoor
open Go.RowKit
open L3 (Env)
open L4 (Arr upTo info_int ints ints_succ own_ext own_lo)
set_option linter.unusedVariables false

end Go.Proofs.YtmlkccmkdgfalaaDoor
