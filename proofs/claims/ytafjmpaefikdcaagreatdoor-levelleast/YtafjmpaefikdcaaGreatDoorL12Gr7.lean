
/- Bear of package growth for any call, and the statements' own awake, as contracts: no statement of the seat is proved here. -/
import Derived.Test.YtafjmpaefikdcaaGreatDoorL12Rf2
namespace Go.Proofs.YtafjmpaefikdcaaGreatDoor.L12
open Go.RowKit
set_option linter.unusedVariables false

theorem Bear_ok (B : Nat) (m W r b rt p : Int) (w : World) (hB : Brr w B m W r) (hr : Rst m W r) (hW : 0 < W) (hW2 : W ≤ 200000000000000) (ha : Ask b rt p) (hq : bq m W r (b * (rt * p)) ≤ 1000000000000000) :
    Calls Tryz.prog 41 #[.pointer (some ⟨B, 0, none⟩), .int .i64 b, .int .i64 rt, .int .i64 p] w fun e w' => e = .returned (.tuple #[.int .i64 (bq m W r (b * (rt * p))), .int .i64 0]) ∧ Ext (w.setCell ⟨B, 2, none⟩ (.int .i64 (br m W r (b * (rt * p))))) w' :=
  Bear_of_ok B b rt p _ _ w hB.lt fun X hx => bear_ok B m W r b rt p X (hB.ext hx) hr hW hW2 ha hq
theorem Bear_range (B : Nat) (m W r b rt p : Int) (w : World) (hB : Brr w B m W r) (hr : Rst m W r) (hW : 0 < W) (hW2 : W ≤ 200000000000000) (ha : Ask b rt p) (hq : ¬ bq m W r (b * (rt * p)) ≤ 1000000000000000) :
    Calls Tryz.prog 41 #[.pointer (some ⟨B, 0, none⟩), .int .i64 b, .int .i64 rt, .int .i64 p] w fun e w' => e = .returned (.tuple #[.int .i64 0, .int .i64 3]) ∧ Ext w w' :=
  Bear_of_no B b rt p 3 w fun X hx => bear_no B m W r b rt p X (hB.ext hx) hr hW hW2 ha hq
theorem Bear_arg (B : Nat) (m W r b rt p : Int) (w : World) (hB : Brr w B m W r) (hW : 0 < W) (ha : ¬ Ask b rt p) :
    Calls Tryz.prog 41 #[.pointer (some ⟨B, 0, none⟩), .int .i64 b, .int .i64 rt, .int .i64 p] w fun e w' => e = .returned (.tuple #[.int .i64 0, .int .i64 1]) ∧ Ext w w' :=
  Bear_of_no B b rt p 1 w fun X hx => bear_arg B m W r b rt p X (hB.ext hx) hW ha
/-- The same, with numbers that are named. -/
theorem Bear_v (B : Nat) (m W r b rt p v x : Int) (hr : Rst m W r) (hW : 0 < W) (hW2 : W ≤ 200000000000000) (ha : Ask b rt p) (hv : bq m W r (b * (rt * p)) = v) (hx : br m W r (b * (rt * p)) = x) (hq : v ≤ 1000000000000000) (w : World) (hB : Brr w B m W r) :
    Calls Tryz.prog 41 #[.pointer (some ⟨B, 0, none⟩), .int .i64 b, .int .i64 rt, .int .i64 p] w fun e w' => e = .returned (.tuple #[.int .i64 v, .int .i64 0]) ∧ Ext (w.setCell ⟨B, 2, none⟩ (.int .i64 x)) w' := by
  have := Bear_ok B m W r b rt p w hB hr hW hW2 ha (by rw [hv]; exact hq)
  rwa [hv, hx] at this
/-- Behind a call that has written a rest: what lies in other blocks, and what was there ahead. -/
theorem _root_.Go.Proofs.YtafjmpaefikdcaaGreatDoor.Ext.wrote {w0 w w' : World} {B : Nat} {x : Value} (hx : Ext w0 w) (hB : w0.heap.size ≤ B) (h : Ext (w.setCell ⟨B, 2, none⟩ x) w') : Ext w0 w' := (hx.setCell hB x).trans h
theorem Brr.wrote {w w' : World} {B : Nat} {m W r x : Int} (hB : Brr w B m W r) (h : Ext (w.setCell ⟨B, 2, none⟩ (.int .i64 x)) w') : Brr w' B m W x := (hB.put x).ext h
theorem Brr.beside {w w' : World} {B C : Nat} {m W r : Int} {x : Value} (hB : Brr w B m W r) (hn : C ≠ B) (h : Ext (w.setCell ⟨C, 2, none⟩ x) w') : Brr w' B m W r := (hB.far hn _ _).ext h
theorem Rbr.wrote {w w' : World} {C : Nat} {P r x : Int} {up : Bool} (hC : Rbr w C P up r) (h : Ext (w.setCell ⟨C, 2, none⟩ (.int .i64 x)) w') : Rbr w' C P up x := (hC.put x).ext h
theorem Rbr.beside {w w' : World} {B C : Nat} {P r : Int} {up : Bool} {x : Value} (hC : Rbr w C P up r) (hn : B ≠ C) (h : Ext (w.setCell ⟨B, 2, none⟩ x) w') : Rbr w' C P up r := (hC.far hn _ _).ext h
theorem u64_mod (x M : Int) (hM : 0 < M) : 0 ≤ IntKind.u64.wrap x % M ∧ IntKind.u64.wrap x % M < M := ⟨Int.emod_nonneg _ (by omega), Int.emod_lt_of_pos _ hM⟩
end Go.Proofs.YtafjmpaefikdcaaGreatDoor.L12