
/- What the document's resets and tiers answer, as contracts: no statement of the seat is proved here. -/
import Derived.Test.YtafjmpaefikdcaaDoorL8Pr10
namespace Go.Proofs.YtafjmpaefikdcaaDoor.L8
open Go.RowKit
set_option linter.unusedVariables false

theorem rbad1 {tm X x y : Int} {l : List (Int × Int)} (X0 : 0 ≤ X) (h : x < 1 ∨ tm - 1 < x) (n : Nat) : ((decide (X < x) && (decide (x < tm) && (lz y 0 1000000000 && rsB tm x l))) && decide (n ≤ 20)) = false := by
  rcases h with h | h
  · rw [decide_eq_false (show ¬ X < x by omega)]; rfl
  · rw [decide_eq_false (show ¬ x < tm by omega)]; simp
theorem rbad2 {tm X x y : Int} {l : List (Int × Int)} (Y0 : True) (h : y < 0 ∨ 1000000000 < y) (n : Nat) : ((decide (X < x) && (decide (x < tm) && (lz y 0 1000000000 && rsB tm x l))) && decide (n ≤ 20)) = false := by
  rw [(lz_no _ _ _).2 h]; simp
theorem tbad1 {X Y x y : Int} {l : List (Int × Int)} (X0 : 0 ≤ X) (h : x < 1 ∨ 365 < x) (n : Nat) (B : Bool) : ((decide (X < x) && (decide (x ≤ 365) && (lz y Y 10000000000000 && ltB x y l))) && (decide (n ≤ 8) && B)) = false := by
  rcases h with h | h
  · rw [decide_eq_false (show ¬ X < x by omega)]; rfl
  · rw [decide_eq_false (show ¬ x ≤ 365 by omega)]; simp
theorem tbad2 {X Y x y : Int} {l : List (Int × Int)} (Y0 : 0 ≤ Y) (h : y < 0 ∨ 10000000000000 < y) (n : Nat) (B : Bool) : ((decide (X < x) && (decide (x ≤ 365) && (lz y Y 10000000000000 && ltB x y l))) && (decide (n ≤ 8) && B)) = false := by
  rw [(lz_no y Y 10000000000000).2 (by omega)]; simp
end Go.Proofs.YtafjmpaefikdcaaDoor.L8