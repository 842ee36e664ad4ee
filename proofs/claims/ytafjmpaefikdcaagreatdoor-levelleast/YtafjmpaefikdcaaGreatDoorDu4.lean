
/- Days and Parts of package dues, as contracts: no statement of the seat is proved here. -/
import Derived.Test.YtafjmpaefikdcaaGreatDoorDu3
namespace Go.Proofs.YtafjmpaefikdcaaGreatDoor
open Go.RowKit
open L3 (Env)
open L4 (Arr upTo info_int)
open L5 (Cld)
set_option linter.unusedVariables false

theorem arr_slc {w : World} {g T : Nat} {f : Nat → Int} (h : Arr w g T f) : L8.Slc w (.slice (some ⟨g, 0, none⟩) T T) (fst T f) := by
  refine Or.inr ⟨g, 0, T, by rw [fst_length], fun k x hk => ?_⟩
  obtain ⟨h1, h2⟩ := fst_at hk
  rw [Nat.zero_add, h.cell k h1, h2]
theorem arr_put {w : World} {g T : Nat} {f : Nat → Int} (h : Arr w g T f) (Z : Nat) (x : Value) (hn : g ≠ Z) : Arr (w.setCell ⟨Z, 0, none⟩ x) g T f :=
  ⟨fun j hj => by rw [L3.other _ (Or.inl (fun e => hn e.symm))]; exact h.cell j hj, fun j hj => by simpa using h.free j hj⟩
theorem nil_slc (w : World) : L8.Slc w (.slice none 0 0) [] := L8.nilh w
end Go.Proofs.YtafjmpaefikdcaaGreatDoor
