
/- The document's answers at once (layer 13): no statement of the seat is proved here. -/
import Derived.Test.YtafjmpaefikdcaaGreatDoorLv8
import Derived.Test.YtafjmpaefikdcaaGreatDoorLv5
namespace Go.Proofs.YtafjmpaefikdcaaGreatDoor
open Go.RowKit
open L8 (Slc)
set_option linter.unusedVariables false
set_option maxRecDepth 100000

theorem rLeft_a (p : Prd) (vr vl vh s : Value) (l : List Int) (a x E v F : Int) (w : World) (hi : Inp w p vr vl vh) (hs : Slc w s l) (hl : l.length ≤ 30000) (hE : askE p l a E)
    (h1 : E ≠ 0 → v = 0 ∧ F = E) (h2 : E = 0 → ¬ (0 ≤ x ∧ x ≤ 1000000000000000) → v = 0 ∧ F = 1) (h3 : E = 0 → 0 ≤ x ∧ x ≤ 1000000000000000 → v = lvl p l a x ∧ F = 0) :
    Calls Tryz.prog 10 #[.agg (pcells p vr vl vh), s, .int .i64 a, .int .i64 x] w fun e w' => e = .returned (.tuple #[.int .i64 v, .int .i64 F]) ∧ Ext w w' := by
  by_cases h : E = 0
  · subst h
    obtain ⟨hok, hO⟩ := ask_0 hE
    by_cases k : 0 ≤ x ∧ x ≤ 1000000000000000
    · obtain ⟨rfl, rfl⟩ := h3 rfl k
      exact rLeft_yes p vr vl vh s l a x w hi hs hl hok hO k.1 k.2 _ rfl
    · obtain ⟨rfl, rfl⟩ := h2 rfl k
      exact rLeft_arg p vr vl vh s l a x w hi hs hl hE k
  · obtain ⟨rfl, rfl⟩ := h1 h
    exact rLeft_no p vr vl vh s l a x _ w hi hs hl hE h
theorem rOf_a (p : Prd) (vr vl vh s : Value) (l : List Int) (a E u F : Int) (w : World) (hi : Inp w p vr vl vh) (hs : Slc w s l) (hl : l.length ≤ 30000) (hE : askE p l a E)
    (h1 : E ≠ 0 → u = 0 ∧ F = E) (h2 : E = 0 → 0 < lvl p l a 1000000000000000 → u = 0 ∧ F = 10) (h3 : E = 0 → ¬ 0 < lvl p l a 1000000000000000 → Lst (lvl p l a) u ∧ F = 0) :
    Calls Tryz.prog 12 #[.agg (pcells p vr vl vh), s, .int .i64 a] w fun e w' => e = .returned (.tuple #[.int .i64 u, .int .i64 F]) ∧ Ext w w' := by
  by_cases h : E = 0
  · subst h
    obtain ⟨hok, hO⟩ := ask_0 hE
    by_cases k : 0 < lvl p l a 1000000000000000
    · obtain ⟨rfl, rfl⟩ := h2 rfl k
      exact rOf_steep p vr vl vh s l a w hi hs hl hok hO k
    · obtain ⟨hu, rfl⟩ := h3 rfl k
      exact rOf_yes p vr vl vh s l a u w hi hs hl hok hO hu
  · obtain ⟨rfl, rfl⟩ := h1 h
    exact rOf_no p vr vl vh s l a _ w hi hs hl hE h
end Go.Proofs.YtafjmpaefikdcaaGreatDoor
