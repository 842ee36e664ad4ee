
/- The document's own Days and Parts of layer 11, as contracts: no statement of the seat is proved here. -/
import Derived.Test.YtmlkccmkdgfalaaDoorDu4
namespace Go.Proofs.YtmlkccmkdgfalaaDoor
open Go.RowKit
open L3 (Env)
open L4 (Arr upTo info_int ints ints_succ own_ext own_lo)
set_option linter.unusedVariables false

theorem slc_len {w : World} {v : Value} {l : List Int} (h : L8.Slc w v l) : ∃ a c, v = .slice a l.length c := h.len
theorem not_dat {p : Prd} {s : Int} (h : ¬ Dat p s) (ht : 1 ≤ duT p) : ¬ ∀ j, j < duT p → L4.serE s p.ev j = 0 := fun a => by
  have h0 := L3.has_of (a 0 (by omega))
  exact h ⟨h0.n1, h0.n2, a⟩
end Go.Proofs.YtmlkccmkdgfalaaDoor
