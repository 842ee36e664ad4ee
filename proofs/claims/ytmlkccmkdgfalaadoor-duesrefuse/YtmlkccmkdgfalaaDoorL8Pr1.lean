
/- What the small functions of package product that look at names, and Name, answer, and the document's own, as contracts: no statement of the seat is proved here. -/
import Derived.Test.YtmlkccmkdgfalaaDoorProg
import Derived.Test.YtmlkccmkdgfalaaDoorL8Pr0
import Derived.Deep.QuietTactic
import Derived.BigQuiet
namespace Go.Proofs.YtmlkccmkdgfalaaDoor.L8
open Go.RowKit
set_option linter.unusedVariables false

theorem liesI_c (v a b : Int) (w : World) :
    Calls Tryd.prog 72 #[.int .i64 v, .int .i64 a, .int .i64 b] w fun e w' => e = .returned (.bool (lz v a b)) ∧ w' = w := by
  unfold lz
  cases h1 : decide (a ≤ v) <;> cases h2 : decide (v ≤ b)
  all_goals
    go_enter Tryd.func72, Tryd.ntmps72
    go_wp2
    go_ret
    exact ⟨rfl, rfl⟩
theorem liesL_c (v a b : Int) (w : World) :
    Calls Tryd.prog 75 #[.int .i64 v, .int .i64 a, .int .i64 b] w fun e w' => e = .returned (.bool (lz v a b)) ∧ w' = w := by
  unfold lz
  cases h1 : decide (a ≤ v) <;> cases h2 : decide (v ≤ b)
  all_goals
    go_enter Tryd.func75, Tryd.ntmps75
    go_wp2
    go_ret
    exact ⟨rfl, rfl⟩
theorem liesB_c (v a b : Int) (w : World) :
    Calls Tryd.prog 90 #[.int .u8 v, .int .u8 a, .int .u8 b] w fun e w' => e = .returned (.bool (lz v a b)) ∧ w' = w := by
  unfold lz
  cases h1 : decide (a ≤ v) <;> cases h2 : decide (v ≤ b)
  all_goals
    go_enter Tryd.func90, Tryd.ntmps90
    go_wp2
    go_ret
    exact ⟨rfl, rfl⟩
theorem liesI_x (v a b : Int) (B : Bool) (h : lz v a b = B) (w : World) :
    Calls Tryd.prog 72 #[.int .i64 v, .int .i64 a, .int .i64 b] w fun e w' => e = .returned (.bool B) ∧ w' = w := h ▸ liesI_c v a b w
theorem liesL_x (v a b : Int) (B : Bool) (h : lz v a b = B) (w : World) :
    Calls Tryd.prog 75 #[.int .i64 v, .int .i64 a, .int .i64 b] w fun e w' => e = .returned (.bool B) ∧ w' = w := h ▸ liesL_c v a b w
theorem liesB_x (v a b : Int) (B : Bool) (h : lz v a b = B) (w : World) :
    Calls Tryd.prog 90 #[.int .u8 v, .int .u8 a, .int .u8 b] w fun e w' => e = .returned (.bool B) ∧ w' = w := h ▸ liesB_c v a b w
theorem small_c (c : UInt8) (w : World) :
    Calls Tryd.prog 83 #[.int .u8 c.toNat] w fun e w' => e = .returned (.bool (lowB c)) ∧ w' = w := by
  go_enter Tryd.func83, Tryd.ntmps83
  go_wp2_with fail
  refine (liesB_x _ _ _ (lowB c) rfl _).mono ?_
  rintro e w1 ⟨rfl, rfl⟩
  go_wp2
  go_ret
  exact ⟨rfl, rfl⟩
theorem small_x (c : UInt8) (B : Bool) (h : lowB c = B) (w : World) :
    Calls Tryd.prog 83 #[.int .u8 c.toNat] w fun e w' => e = .returned (.bool B) ∧ w' = w := h ▸ small_c c w
theorem rate_c (v : Int) (w : World) :
    Calls Tryd.prog 73 #[.int .i64 v] w fun e w' => e = .returned (.bool (lz v 0 1000000000)) ∧ w' = w := by
  go_enter Tryd.func73, Tryd.ntmps73
  go_wp2_with fail
  refine (liesL_c _ _ _ _).mono ?_
  rintro e w1 ⟨rfl, rfl⟩
  go_wp2
  go_ret
  exact ⟨rfl, rfl⟩
theorem rate_x (v : Int) (B : Bool) (h : lz v 0 1000000000 = B) (w : World) :
    Calls Tryd.prog 73 #[.int .i64 v] w fun e w' => e = .returned (.bool B) ∧ w' = w := h ▸ rate_c v w
end Go.Proofs.YtmlkccmkdgfalaaDoor.L8