
/- What package throw's Settle functions and the deferred closure of Check do, as contracts: no statement of the seat is proved here. -/
import Derived.Test.YtmlkccmkdgfalaaGreatDoorL8Pr6
import Derived.Defers
namespace Go.Proofs.YtmlkccmkdgfalaaGreatDoor.L8
open Go.RowKit
set_option linter.unusedVariables false

theorem need_ok (c : Int) (w : World) :
    Calls Tryz.prog 42 #[.bool true, .int .i64 c] w fun e w' => e = .returned (.tuple #[]) ∧ w' = w := by
  go_enter Tryz.func42, Tryz.ntmps42
  go_wp2
  go_end0
  exact ⟨rfl, rfl⟩
theorem need_no (c : Int) (w : World) :
    Calls Tryz.prog 42 #[.bool false, .int .i64 c] w fun e w' => e = .panicked [{ v := .iface 32 (.int .i64 c), recovered := false }] ∧ w' = w := by
  go_enter Tryz.func42, Tryz.ntmps42
  go_wp2
  exact ⟨rfl, rfl, rfl⟩
theorem assert_errno (W : World) (x : Value) : (Instr.typeAssert (.iface 32 x) 20 32 true).run Tryz.prog W = .ok (.tuple #[x, .bool true]) W := by kernel_rfl
theorem settleAt_nil (w : World) :
    Calls Tryz.prog 105 #[.nilIface, .agg #[]] w fun e w' => e = .returned (.tuple #[.agg #[], .int .i64 0, .int .i64 0]) ∧ Ext w w' := by
  go_enter Tryz.func105, Tryz.ntmps105
  go_wp2
  exact bodyPost_ret (v := .tuple #[.agg #[], .int .i64 0, .int .i64 0]) (by simp [results, Tryz.results105, go_sem]) rfl ⟨rfl, by repeat (first | exact Ext.refl _ | apply Ext.alloc)⟩
theorem settleAt_errno (c : Int) (w : World) :
    Calls Tryz.prog 105 #[.iface 32 (.int .i64 c), .agg #[]] w fun e w' => e = .returned (.tuple #[.agg #[], .int .i64 0, .int .i64 c]) ∧ Ext w w' := by
  have hta := assert_errno
  go_enter Tryz.func105, Tryz.ntmps105
  go_wp2
  exact bodyPost_ret (v := .tuple #[.agg #[], .int .i64 0, .int .i64 c]) (by simp [results, Tryz.results105, go_sem]) rfl ⟨rfl, by repeat (first | exact Ext.refl _ | apply Ext.alloc)⟩
theorem settle_of (t : Value) (c : Int) (w : World) (h : ∀ w : World, Calls Tryz.prog 105 #[t, .agg #[]] w fun e w' => e = .returned (.tuple #[.agg #[], .int .i64 0, .int .i64 c]) ∧ Ext w w') :
    Calls Tryz.prog 77 #[t, .agg #[]] w fun e w' => e = .returned (.tuple #[.agg #[], .int .i64 c]) ∧ Ext w w' := by
  replace h := show Hid _ from h
  go_enter Tryz.func77, Tryz.ntmps77
  go_wp2_with fail
  refine Calls.mono (h.out _) ?_
  rintro e w1 ⟨rfl, hx⟩
  replace hx : Hid (Ext w w1) := Ext.trans (by repeat (first | exact Ext.refl _ | apply Ext.alloc)) hx
  go_wp2
  exact bodyPost_ret (v := .tuple #[.agg #[], .int .i64 c]) (by simp [results, Tryz.results77, go_sem]) rfl ⟨rfl, hx.out⟩
theorem settleNone_of (t : Value) (c : Int) (w : World) (h : ∀ w : World, Calls Tryz.prog 105 #[t, .agg #[]] w fun e w' => e = .returned (.tuple #[.agg #[], .int .i64 0, .int .i64 c]) ∧ Ext w w') :
    Calls Tryz.prog 60 #[t] w fun e w' => e = .returned (.int .i64 c) ∧ Ext w w' := by
  replace h := show Hid (∀ w : World, Calls Tryz.prog 77 #[t, .agg #[]] w fun e w' => e = .returned (.tuple #[.agg #[], .int .i64 c]) ∧ Ext w w') from fun w => settle_of t c w h
  go_enter Tryz.func60, Tryz.ntmps60
  go_wp2_with fail
  refine Calls.mono (h.out _) ?_
  rintro e w1 ⟨rfl, hx⟩
  replace hx := show Hid _ from hx
  go_wp2
  go_ret
  exact ⟨rfl, hx.out.alloc _ _⟩
theorem chk_idle (b : Nat) (y : Int) (w : World) (hp : w.cell? ⟨b, 0, none⟩ = some (.int .i64 y)) (hpz : w.frozen? ⟨b, 0, none⟩ = false) :
    CallsD Tryz.prog 59 #[.pointer (some ⟨b, 0, none⟩)] .returning w fun e u' w' => e = .returned (.tuple #[]) ∧ u' = .returning ∧ ∃ w1, Ext w w1 ∧ w' = w1.setCell ⟨b, 0, none⟩ (.int .i64 0) := by
  have hb := lt_of_cell hp
  refine callsD_of_wpS Tryz.func59 rfl fun c₀ cs hu => ?_
  refine wpS_region ?_
  simp [wpOpsS, List.range, List.range.loop, go_sem, recoverD, hu, Tryz.ntmps59]
  refine (settleNone_of _ _ _ settleAt_nil).mono ?_
  rintro e w1 ⟨rfl, hx⟩
  have gp := hx.cell_of hp
  have gpz : w1.frozen? ⟨b, 0, none⟩ = false := hx.froz_of hp hpz
  simp [go_sem, gp, gpz]
  exact ⟨rfl, .returning, by rw [← hu], .tuple #[], results_none (by rfl) _ _ _, rfl, rfl, w1, hx, rfl⟩
theorem chk_errno (b : Nat) (c : Int) (older : List PanicEntry) (y : Int) (w : World) (hp : w.cell? ⟨b, 0, none⟩ = some (.int .i64 y)) (hpz : w.frozen? ⟨b, 0, none⟩ = false) :
    CallsD Tryz.prog 59 #[.pointer (some ⟨b, 0, none⟩)] (.panicking ({ v := .iface 32 (.int .i64 c), recovered := false } :: older)) w fun e u' w' => e = .returned (.tuple #[]) ∧ u' = .panicking ({ v := .iface 32 (.int .i64 c), recovered := true } :: older) ∧ ∃ w1, Ext w w1 ∧ w' = w1.setCell ⟨b, 0, none⟩ (.int .i64 c) := by
  have hb := lt_of_cell hp
  refine callsD_of_wpS Tryz.func59 rfl fun c₀ cs hu => ?_
  refine wpS_region ?_
  simp [wpOpsS, List.range, List.range.loop, go_sem, recoverD, hu, Tryz.ntmps59]
  refine (settleNone_of _ _ _ (settleAt_errno c)).mono ?_
  rintro e w1 ⟨rfl, hx⟩
  have gp := hx.cell_of hp
  have gpz : w1.frozen? ⟨b, 0, none⟩ = false := hx.froz_of hp hpz
  simp [go_sem, gp, gpz]
  exact ⟨rfl, _, rfl, .tuple #[], results_none (by rfl) _ _ _, rfl, rfl, w1, hx, rfl⟩
end Go.Proofs.YtmlkccmkdgfalaaGreatDoor.L8