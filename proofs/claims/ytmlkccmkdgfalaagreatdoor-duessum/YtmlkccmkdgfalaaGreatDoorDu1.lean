/- What package throw does with lists, the deferred closures of package dues, and how its faces are left, as contracts: no statement of the seat is proved here. -/
import Derived.Test.YtmlkccmkdgfalaaGreatDoorM6
namespace Go.Proofs.YtmlkccmkdgfalaaGreatDoor
open Go.RowKit
open L3 (Env)
set_option linter.unusedVariables false

theorem settleAt_nilL (v : Value) (w : World) :
    Calls Tryz.prog 40 #[.nilIface, v] w fun e w' => e = .returned (.tuple #[v, .int .i64 0, .int .i64 0]) ∧ w' = w := by
  go_enter Tryz.func40, Tryz.ntmps40
  go_wp2
  exact bodyPost_ret (v := .tuple #[v, .int .i64 0, .int .i64 0]) (by simp [results, Tryz.results40, go_sem]) rfl ⟨rfl, rfl⟩
theorem settleAt_thrownL (c : Int) (v : Value) (w : World) :
    Calls Tryz.prog 40 #[.iface 32 (.int .i64 c), v] w fun e w' => e = .returned (.tuple #[.slice none 0 0, .int .i64 0, .int .i64 c]) ∧ w' = w := by
  have hta := L6.assert_errno
  go_enter Tryz.func40, Tryz.ntmps40
  go_wp2
  exact bodyPost_ret (v := .tuple #[.slice none 0 0, .int .i64 0, .int .i64 c]) (by simp [results, Tryz.results40, go_sem]) rfl ⟨rfl, rfl⟩
theorem settle_nilL (v : Value) (w : World) :
    Calls Tryz.prog 20 #[.nilIface, v] w fun e w' => e = .returned (.tuple #[v, .int .i64 0]) ∧ w' = w := by
  go_enter Tryz.func20, Tryz.ntmps20
  go_wp2_with fail
  refine (settleAt_nilL _ _).mono ?_
  rintro e w1 ⟨rfl, rfl⟩
  go_wp2
  go_ret2
  exact ⟨rfl, rfl⟩
theorem settle_thrownL (c : Int) (v : Value) (w : World) :
    Calls Tryz.prog 20 #[.iface 32 (.int .i64 c), v] w fun e w' => e = .returned (.tuple #[.slice none 0 0, .int .i64 c]) ∧ w' = w := by
  go_enter Tryz.func20, Tryz.ntmps20
  go_wp2_with fail
  refine (settleAt_thrownL _ _ _).mono ?_
  rintro e w1 ⟨rfl, rfl⟩
  go_wp2
  go_ret2
  exact ⟨rfl, rfl⟩
theorem days_idle (b : Nat) (va : Option Addr) (vn vc : Nat) (z : Int) (w : World) (hp : w.cell? ⟨b, 0, none⟩ = some (.slice va vn vc)) (hq : w.cell? ⟨b + 1, 0, none⟩ = some (.int .i64 z)) (hpz : w.frozen? ⟨b, 0, none⟩ = false) (hqz : w.frozen? ⟨b + 1, 0, none⟩ = false) :
    CallsD Tryz.prog 19 #[.pointer (some ⟨b, 0, none⟩), .pointer (some ⟨b + 1, 0, none⟩)] .returning w fun e u' w' => e = .returned (.tuple #[]) ∧ u' = .returning ∧ ∃ w1, Ext w w1 ∧ w' = ((w1.setCell ⟨b, 0, none⟩ (.slice va vn vc)).setCell ⟨b + 1, 0, none⟩ (.int .i64 0)) := by
  refine callsD_of_wpS Tryz.func19 rfl fun c₀ cs hu => ?_
  refine wpS_region_any 8 rfl (by kernel_rfl) ?_
  refine wpAnyS_two (i := 0) (j := 1) (by decide +kernel) ?_ ?_
  · simp [wpOpS, go_sem, recoverD, hu, Tryz.ntmps19]
    refine wpAnyS_one (i := 1) (by decide +kernel) ?_
    simp [wpOpS, go_sem, hp]
    refine wpAnyS_one (i := 2) (by decide +kernel) ?_
    simp [wpOpS, go_sem]
    refine (settle_nilL _ _).mono ?_
    rintro e w' ⟨rfl, rfl⟩
    refine wpAnyS_one (i := 3) (by decide +kernel) ?_
    simp [wpOpS, go_sem]
    refine wpAnyS_two (i := 4) (j := 5) (by decide +kernel) ?_ ?_
    · simp [wpOpS, go_sem]
      refine wpAnyS_two (i := 5) (j := 6) (by decide +kernel) ?_ ?_
      · simp [wpOpS, go_sem]
        refine wpAnyS_one (i := 6) (by decide +kernel) ?_
        simp [wpOpS, go_sem, hp, hpz]
        refine wpAnyS_one (i := 7) (by decide +kernel) ?_
        simp [wpOpS, go_sem, hq, hqz]
        refine wpAnyS_done (by decide +kernel) ?_ _
        exact ⟨rfl, .returning, by rw [← hu], .tuple #[], results_none (by rfl) _ _ _, rfl, rfl, w.drew, (Ext.refl w).drew, rfl⟩
      · simp [wpOpS, go_sem, hp, hpz]
        refine wpAnyS_one (i := 5) (by decide +kernel) ?_
        simp [wpOpS, go_sem]
        refine wpAnyS_one (i := 7) (by decide +kernel) ?_
        simp [wpOpS, go_sem, hq, hqz]
        refine wpAnyS_done (by decide +kernel) ?_ _
        exact ⟨rfl, .returning, by rw [← hu], .tuple #[], results_none (by rfl) _ _ _, rfl, rfl, w.drew, (Ext.refl w).drew, rfl⟩
    · simp [wpOpS, go_sem]
      refine wpAnyS_one (i := 4) (by decide +kernel) ?_
      simp [wpOpS, go_sem]
      refine wpAnyS_one (i := 6) (by decide +kernel) ?_
      simp [wpOpS, go_sem, hp, hpz]
      refine wpAnyS_one (i := 7) (by decide +kernel) ?_
      simp [wpOpS, go_sem, hq, hqz]
      refine wpAnyS_done (by decide +kernel) ?_ _
      exact ⟨rfl, .returning, by rw [← hu], .tuple #[], results_none (by rfl) _ _ _, rfl, rfl, w.drew, (Ext.refl w).drew, rfl⟩
  · simp [wpOpS, go_sem, hp, Tryz.ntmps19]
    refine wpAnyS_one (i := 0) (by decide +kernel) ?_
    simp [wpOpS, go_sem, recoverD, hu]
    refine wpAnyS_one (i := 2) (by decide +kernel) ?_
    simp [wpOpS, go_sem]
    refine (settle_nilL _ _).mono ?_
    rintro e w' ⟨rfl, rfl⟩
    refine wpAnyS_one (i := 3) (by decide +kernel) ?_
    simp [wpOpS, go_sem]
    refine wpAnyS_two (i := 4) (j := 5) (by decide +kernel) ?_ ?_
    · simp [wpOpS, go_sem]
      refine wpAnyS_two (i := 5) (j := 6) (by decide +kernel) ?_ ?_
      · simp [wpOpS, go_sem]
        refine wpAnyS_one (i := 6) (by decide +kernel) ?_
        simp [wpOpS, go_sem, hp, hpz]
        refine wpAnyS_one (i := 7) (by decide +kernel) ?_
        simp [wpOpS, go_sem, hq, hqz]
        refine wpAnyS_done (by decide +kernel) ?_ _
        exact ⟨rfl, .returning, by rw [← hu], .tuple #[], results_none (by rfl) _ _ _, rfl, rfl, w.drew, (Ext.refl w).drew, rfl⟩
      · simp [wpOpS, go_sem, hp, hpz]
        refine wpAnyS_one (i := 5) (by decide +kernel) ?_
        simp [wpOpS, go_sem]
        refine wpAnyS_one (i := 7) (by decide +kernel) ?_
        simp [wpOpS, go_sem, hq, hqz]
        refine wpAnyS_done (by decide +kernel) ?_ _
        exact ⟨rfl, .returning, by rw [← hu], .tuple #[], results_none (by rfl) _ _ _, rfl, rfl, w.drew, (Ext.refl w).drew, rfl⟩
    · simp [wpOpS, go_sem]
      refine wpAnyS_one (i := 4) (by decide +kernel) ?_
      simp [wpOpS, go_sem]
      refine wpAnyS_one (i := 6) (by decide +kernel) ?_
      simp [wpOpS, go_sem, hp, hpz]
      refine wpAnyS_one (i := 7) (by decide +kernel) ?_
      simp [wpOpS, go_sem, hq, hqz]
      refine wpAnyS_done (by decide +kernel) ?_ _
      exact ⟨rfl, .returning, by rw [← hu], .tuple #[], results_none (by rfl) _ _ _, rfl, rfl, w.drew, (Ext.refl w).drew, rfl⟩
theorem days_catch (b : Nat) (c : Int) (va : Option Addr) (vn vc : Nat) (z : Int) (older : List PanicEntry) (w : World) (hp : w.cell? ⟨b, 0, none⟩ = some (.slice va vn vc)) (hq : w.cell? ⟨b + 1, 0, none⟩ = some (.int .i64 z)) (hpz : w.frozen? ⟨b, 0, none⟩ = false) (hqz : w.frozen? ⟨b + 1, 0, none⟩ = false) :
    CallsD Tryz.prog 19 #[.pointer (some ⟨b, 0, none⟩), .pointer (some ⟨b + 1, 0, none⟩)] (.panicking ({ v := .iface 32 (.int .i64 c), recovered := false } :: older)) w fun e u' w' => e = .returned (.tuple #[]) ∧ u' = .panicking ({ v := .iface 32 (.int .i64 c), recovered := true } :: older) ∧ ∃ w1, Ext w w1 ∧ w' = ((w1.setCell ⟨b, 0, none⟩ (.slice none 0 0)).setCell ⟨b + 1, 0, none⟩ (.int .i64 c)) := by
  refine callsD_of_wpS Tryz.func19 rfl fun c₀ cs hu => ?_
  refine wpS_region_any 8 rfl (by kernel_rfl) ?_
  refine wpAnyS_two (i := 0) (j := 1) (by decide +kernel) ?_ ?_
  · simp [wpOpS, go_sem, recoverD, hu, Tryz.ntmps19]
    refine wpAnyS_one (i := 1) (by decide +kernel) ?_
    simp [wpOpS, go_sem, hp]
    refine wpAnyS_one (i := 2) (by decide +kernel) ?_
    simp [wpOpS, go_sem]
    refine (settle_thrownL _ _ _).mono ?_
    rintro e w' ⟨rfl, rfl⟩
    refine wpAnyS_one (i := 3) (by decide +kernel) ?_
    simp [wpOpS, go_sem]
    refine wpAnyS_two (i := 4) (j := 5) (by decide +kernel) ?_ ?_
    · simp [wpOpS, go_sem]
      refine wpAnyS_two (i := 5) (j := 6) (by decide +kernel) ?_ ?_
      · simp [wpOpS, go_sem]
        refine wpAnyS_one (i := 6) (by decide +kernel) ?_
        simp [wpOpS, go_sem, hp, hpz]
        refine wpAnyS_one (i := 7) (by decide +kernel) ?_
        simp [wpOpS, go_sem, hq, hqz]
        refine wpAnyS_done (by decide +kernel) ?_ _
        exact ⟨rfl, _, rfl, .tuple #[], results_none (by rfl) _ _ _, rfl, rfl, w.drew, (Ext.refl w).drew, rfl⟩
      · simp [wpOpS, go_sem, hp, hpz]
        refine wpAnyS_one (i := 5) (by decide +kernel) ?_
        simp [wpOpS, go_sem]
        refine wpAnyS_one (i := 7) (by decide +kernel) ?_
        simp [wpOpS, go_sem, hq, hqz]
        refine wpAnyS_done (by decide +kernel) ?_ _
        exact ⟨rfl, _, rfl, .tuple #[], results_none (by rfl) _ _ _, rfl, rfl, w.drew, (Ext.refl w).drew, rfl⟩
    · simp [wpOpS, go_sem]
      refine wpAnyS_one (i := 4) (by decide +kernel) ?_
      simp [wpOpS, go_sem]
      refine wpAnyS_one (i := 6) (by decide +kernel) ?_
      simp [wpOpS, go_sem, hp, hpz]
      refine wpAnyS_one (i := 7) (by decide +kernel) ?_
      simp [wpOpS, go_sem, hq, hqz]
      refine wpAnyS_done (by decide +kernel) ?_ _
      exact ⟨rfl, _, rfl, .tuple #[], results_none (by rfl) _ _ _, rfl, rfl, w.drew, (Ext.refl w).drew, rfl⟩
  · simp [wpOpS, go_sem, hp, Tryz.ntmps19]
    refine wpAnyS_one (i := 0) (by decide +kernel) ?_
    simp [wpOpS, go_sem, recoverD, hu]
    refine wpAnyS_one (i := 2) (by decide +kernel) ?_
    simp [wpOpS, go_sem]
    refine (settle_thrownL _ _ _).mono ?_
    rintro e w' ⟨rfl, rfl⟩
    refine wpAnyS_one (i := 3) (by decide +kernel) ?_
    simp [wpOpS, go_sem]
    refine wpAnyS_two (i := 4) (j := 5) (by decide +kernel) ?_ ?_
    · simp [wpOpS, go_sem]
      refine wpAnyS_two (i := 5) (j := 6) (by decide +kernel) ?_ ?_
      · simp [wpOpS, go_sem]
        refine wpAnyS_one (i := 6) (by decide +kernel) ?_
        simp [wpOpS, go_sem, hp, hpz]
        refine wpAnyS_one (i := 7) (by decide +kernel) ?_
        simp [wpOpS, go_sem, hq, hqz]
        refine wpAnyS_done (by decide +kernel) ?_ _
        exact ⟨rfl, _, rfl, .tuple #[], results_none (by rfl) _ _ _, rfl, rfl, w.drew, (Ext.refl w).drew, rfl⟩
      · simp [wpOpS, go_sem, hp, hpz]
        refine wpAnyS_one (i := 5) (by decide +kernel) ?_
        simp [wpOpS, go_sem]
        refine wpAnyS_one (i := 7) (by decide +kernel) ?_
        simp [wpOpS, go_sem, hq, hqz]
        refine wpAnyS_done (by decide +kernel) ?_ _
        exact ⟨rfl, _, rfl, .tuple #[], results_none (by rfl) _ _ _, rfl, rfl, w.drew, (Ext.refl w).drew, rfl⟩
    · simp [wpOpS, go_sem]
      refine wpAnyS_one (i := 4) (by decide +kernel) ?_
      simp [wpOpS, go_sem]
      refine wpAnyS_one (i := 6) (by decide +kernel) ?_
      simp [wpOpS, go_sem, hp, hpz]
      refine wpAnyS_one (i := 7) (by decide +kernel) ?_
      simp [wpOpS, go_sem, hq, hqz]
      refine wpAnyS_done (by decide +kernel) ?_ _
      exact ⟨rfl, _, rfl, .tuple #[], results_none (by rfl) _ _ _, rfl, rfl, w.drew, (Ext.refl w).drew, rfl⟩
theorem settleAt_nilP (v : Value) (w : World) :
    Calls Tryz.prog 53 #[.nilIface, v] w fun e w' => e = .returned (.tuple #[v, .int .i64 0, .int .i64 0]) ∧ w' = w := by
  go_enter Tryz.func53, Tryz.ntmps53
  go_wp2
  exact bodyPost_ret (v := .tuple #[v, .int .i64 0, .int .i64 0]) (by simp [results, Tryz.results53, go_sem]) rfl ⟨rfl, rfl⟩
theorem settleAt_thrownP (c : Int) (v : Value) (w : World) :
    Calls Tryz.prog 53 #[.iface 32 (.int .i64 c), v] w fun e w' => e = .returned (.tuple #[.slice none 0 0, .int .i64 0, .int .i64 c]) ∧ w' = w := by
  have hta := L6.assert_errno
  go_enter Tryz.func53, Tryz.ntmps53
  go_wp2
  exact bodyPost_ret (v := .tuple #[.slice none 0 0, .int .i64 0, .int .i64 c]) (by simp [results, Tryz.results53, go_sem]) rfl ⟨rfl, rfl⟩
theorem settle_nilP (v : Value) (w : World) :
    Calls Tryz.prog 25 #[.nilIface, v] w fun e w' => e = .returned (.tuple #[v, .int .i64 0]) ∧ w' = w := by
  go_enter Tryz.func25, Tryz.ntmps25
  go_wp2_with fail
  refine (settleAt_nilP _ _).mono ?_
  rintro e w1 ⟨rfl, rfl⟩
  go_wp2
  go_ret2
  exact ⟨rfl, rfl⟩
theorem settle_thrownP (c : Int) (v : Value) (w : World) :
    Calls Tryz.prog 25 #[.iface 32 (.int .i64 c), v] w fun e w' => e = .returned (.tuple #[.slice none 0 0, .int .i64 c]) ∧ w' = w := by
  go_enter Tryz.func25, Tryz.ntmps25
  go_wp2_with fail
  refine (settleAt_thrownP _ _ _).mono ?_
  rintro e w1 ⟨rfl, rfl⟩
  go_wp2
  go_ret2
  exact ⟨rfl, rfl⟩
theorem parts_idle (b : Nat) (va : Option Addr) (vn vc : Nat) (z : Int) (w : World) (hp : w.cell? ⟨b, 0, none⟩ = some (.slice va vn vc)) (hq : w.cell? ⟨b + 1, 0, none⟩ = some (.int .i64 z)) (hpz : w.frozen? ⟨b, 0, none⟩ = false) (hqz : w.frozen? ⟨b + 1, 0, none⟩ = false) :
    CallsD Tryz.prog 24 #[.pointer (some ⟨b, 0, none⟩), .pointer (some ⟨b + 1, 0, none⟩)] .returning w fun e u' w' => e = .returned (.tuple #[]) ∧ u' = .returning ∧ ∃ w1, Ext w w1 ∧ w' = ((w1.setCell ⟨b, 0, none⟩ (.slice va vn vc)).setCell ⟨b + 1, 0, none⟩ (.int .i64 0)) := by
  refine callsD_of_wpS Tryz.func24 rfl fun c₀ cs hu => ?_
  refine wpS_region_any 8 rfl (by kernel_rfl) ?_
  refine wpAnyS_two (i := 0) (j := 1) (by decide +kernel) ?_ ?_
  · simp [wpOpS, go_sem, recoverD, hu, Tryz.ntmps24]
    refine wpAnyS_one (i := 1) (by decide +kernel) ?_
    simp [wpOpS, go_sem, hp]
    refine wpAnyS_one (i := 2) (by decide +kernel) ?_
    simp [wpOpS, go_sem]
    refine (settle_nilP _ _).mono ?_
    rintro e w' ⟨rfl, rfl⟩
    refine wpAnyS_one (i := 3) (by decide +kernel) ?_
    simp [wpOpS, go_sem]
    refine wpAnyS_two (i := 4) (j := 5) (by decide +kernel) ?_ ?_
    · simp [wpOpS, go_sem]
      refine wpAnyS_two (i := 5) (j := 6) (by decide +kernel) ?_ ?_
      · simp [wpOpS, go_sem]
        refine wpAnyS_one (i := 6) (by decide +kernel) ?_
        simp [wpOpS, go_sem, hp, hpz]
        refine wpAnyS_one (i := 7) (by decide +kernel) ?_
        simp [wpOpS, go_sem, hq, hqz]
        refine wpAnyS_done (by decide +kernel) ?_ _
        exact ⟨rfl, .returning, by rw [← hu], .tuple #[], results_none (by rfl) _ _ _, rfl, rfl, w.drew, (Ext.refl w).drew, rfl⟩
      · simp [wpOpS, go_sem, hp, hpz]
        refine wpAnyS_one (i := 5) (by decide +kernel) ?_
        simp [wpOpS, go_sem]
        refine wpAnyS_one (i := 7) (by decide +kernel) ?_
        simp [wpOpS, go_sem, hq, hqz]
        refine wpAnyS_done (by decide +kernel) ?_ _
        exact ⟨rfl, .returning, by rw [← hu], .tuple #[], results_none (by rfl) _ _ _, rfl, rfl, w.drew, (Ext.refl w).drew, rfl⟩
    · simp [wpOpS, go_sem]
      refine wpAnyS_one (i := 4) (by decide +kernel) ?_
      simp [wpOpS, go_sem]
      refine wpAnyS_one (i := 6) (by decide +kernel) ?_
      simp [wpOpS, go_sem, hp, hpz]
      refine wpAnyS_one (i := 7) (by decide +kernel) ?_
      simp [wpOpS, go_sem, hq, hqz]
      refine wpAnyS_done (by decide +kernel) ?_ _
      exact ⟨rfl, .returning, by rw [← hu], .tuple #[], results_none (by rfl) _ _ _, rfl, rfl, w.drew, (Ext.refl w).drew, rfl⟩
  · simp [wpOpS, go_sem, hp, Tryz.ntmps24]
    refine wpAnyS_one (i := 0) (by decide +kernel) ?_
    simp [wpOpS, go_sem, recoverD, hu]
    refine wpAnyS_one (i := 2) (by decide +kernel) ?_
    simp [wpOpS, go_sem]
    refine (settle_nilP _ _).mono ?_
    rintro e w' ⟨rfl, rfl⟩
    refine wpAnyS_one (i := 3) (by decide +kernel) ?_
    simp [wpOpS, go_sem]
    refine wpAnyS_two (i := 4) (j := 5) (by decide +kernel) ?_ ?_
    · simp [wpOpS, go_sem]
      refine wpAnyS_two (i := 5) (j := 6) (by decide +kernel) ?_ ?_
      · simp [wpOpS, go_sem]
        refine wpAnyS_one (i := 6) (by decide +kernel) ?_
        simp [wpOpS, go_sem, hp, hpz]
        refine wpAnyS_one (i := 7) (by decide +kernel) ?_
        simp [wpOpS, go_sem, hq, hqz]
        refine wpAnyS_done (by decide +kernel) ?_ _
        exact ⟨rfl, .returning, by rw [← hu], .tuple #[], results_none (by rfl) _ _ _, rfl, rfl, w.drew, (Ext.refl w).drew, rfl⟩
      · simp [wpOpS, go_sem, hp, hpz]
        refine wpAnyS_one (i := 5) (by decide +kernel) ?_
        simp [wpOpS, go_sem]
        refine wpAnyS_one (i := 7) (by decide +kernel) ?_
        simp [wpOpS, go_sem, hq, hqz]
        refine wpAnyS_done (by decide +kernel) ?_ _
        exact ⟨rfl, .returning, by rw [← hu], .tuple #[], results_none (by rfl) _ _ _, rfl, rfl, w.drew, (Ext.refl w).drew, rfl⟩
    · simp [wpOpS, go_sem]
      refine wpAnyS_one (i := 4) (by decide +kernel) ?_
      simp [wpOpS, go_sem]
      refine wpAnyS_one (i := 6) (by decide +kernel) ?_
      simp [wpOpS, go_sem, hp, hpz]
      refine wpAnyS_one (i := 7) (by decide +kernel) ?_
      simp [wpOpS, go_sem, hq, hqz]
      refine wpAnyS_done (by decide +kernel) ?_ _
      exact ⟨rfl, .returning, by rw [← hu], .tuple #[], results_none (by rfl) _ _ _, rfl, rfl, w.drew, (Ext.refl w).drew, rfl⟩
theorem parts_catch (b : Nat) (c : Int) (va : Option Addr) (vn vc : Nat) (z : Int) (older : List PanicEntry) (w : World) (hp : w.cell? ⟨b, 0, none⟩ = some (.slice va vn vc)) (hq : w.cell? ⟨b + 1, 0, none⟩ = some (.int .i64 z)) (hpz : w.frozen? ⟨b, 0, none⟩ = false) (hqz : w.frozen? ⟨b + 1, 0, none⟩ = false) :
    CallsD Tryz.prog 24 #[.pointer (some ⟨b, 0, none⟩), .pointer (some ⟨b + 1, 0, none⟩)] (.panicking ({ v := .iface 32 (.int .i64 c), recovered := false } :: older)) w fun e u' w' => e = .returned (.tuple #[]) ∧ u' = .panicking ({ v := .iface 32 (.int .i64 c), recovered := true } :: older) ∧ ∃ w1, Ext w w1 ∧ w' = ((w1.setCell ⟨b, 0, none⟩ (.slice none 0 0)).setCell ⟨b + 1, 0, none⟩ (.int .i64 c)) := by
  refine callsD_of_wpS Tryz.func24 rfl fun c₀ cs hu => ?_
  refine wpS_region_any 8 rfl (by kernel_rfl) ?_
  refine wpAnyS_two (i := 0) (j := 1) (by decide +kernel) ?_ ?_
  · simp [wpOpS, go_sem, recoverD, hu, Tryz.ntmps24]
    refine wpAnyS_one (i := 1) (by decide +kernel) ?_
    simp [wpOpS, go_sem, hp]
    refine wpAnyS_one (i := 2) (by decide +kernel) ?_
    simp [wpOpS, go_sem]
    refine (settle_thrownP _ _ _).mono ?_
    rintro e w' ⟨rfl, rfl⟩
    refine wpAnyS_one (i := 3) (by decide +kernel) ?_
    simp [wpOpS, go_sem]
    refine wpAnyS_two (i := 4) (j := 5) (by decide +kernel) ?_ ?_
    · simp [wpOpS, go_sem]
      refine wpAnyS_two (i := 5) (j := 6) (by decide +kernel) ?_ ?_
      · simp [wpOpS, go_sem]
        refine wpAnyS_one (i := 6) (by decide +kernel) ?_
        simp [wpOpS, go_sem, hp, hpz]
        refine wpAnyS_one (i := 7) (by decide +kernel) ?_
        simp [wpOpS, go_sem, hq, hqz]
        refine wpAnyS_done (by decide +kernel) ?_ _
        exact ⟨rfl, _, rfl, .tuple #[], results_none (by rfl) _ _ _, rfl, rfl, w.drew, (Ext.refl w).drew, rfl⟩
      · simp [wpOpS, go_sem, hp, hpz]
        refine wpAnyS_one (i := 5) (by decide +kernel) ?_
        simp [wpOpS, go_sem]
        refine wpAnyS_one (i := 7) (by decide +kernel) ?_
        simp [wpOpS, go_sem, hq, hqz]
        refine wpAnyS_done (by decide +kernel) ?_ _
        exact ⟨rfl, _, rfl, .tuple #[], results_none (by rfl) _ _ _, rfl, rfl, w.drew, (Ext.refl w).drew, rfl⟩
    · simp [wpOpS, go_sem]
      refine wpAnyS_one (i := 4) (by decide +kernel) ?_
      simp [wpOpS, go_sem]
      refine wpAnyS_one (i := 6) (by decide +kernel) ?_
      simp [wpOpS, go_sem, hp, hpz]
      refine wpAnyS_one (i := 7) (by decide +kernel) ?_
      simp [wpOpS, go_sem, hq, hqz]
      refine wpAnyS_done (by decide +kernel) ?_ _
      exact ⟨rfl, _, rfl, .tuple #[], results_none (by rfl) _ _ _, rfl, rfl, w.drew, (Ext.refl w).drew, rfl⟩
  · simp [wpOpS, go_sem, hp, Tryz.ntmps24]
    refine wpAnyS_one (i := 0) (by decide +kernel) ?_
    simp [wpOpS, go_sem, recoverD, hu]
    refine wpAnyS_one (i := 2) (by decide +kernel) ?_
    simp [wpOpS, go_sem]
    refine (settle_thrownP _ _ _).mono ?_
    rintro e w' ⟨rfl, rfl⟩
    refine wpAnyS_one (i := 3) (by decide +kernel) ?_
    simp [wpOpS, go_sem]
    refine wpAnyS_two (i := 4) (j := 5) (by decide +kernel) ?_ ?_
    · simp [wpOpS, go_sem]
      refine wpAnyS_two (i := 5) (j := 6) (by decide +kernel) ?_ ?_
      · simp [wpOpS, go_sem]
        refine wpAnyS_one (i := 6) (by decide +kernel) ?_
        simp [wpOpS, go_sem, hp, hpz]
        refine wpAnyS_one (i := 7) (by decide +kernel) ?_
        simp [wpOpS, go_sem, hq, hqz]
        refine wpAnyS_done (by decide +kernel) ?_ _
        exact ⟨rfl, _, rfl, .tuple #[], results_none (by rfl) _ _ _, rfl, rfl, w.drew, (Ext.refl w).drew, rfl⟩
      · simp [wpOpS, go_sem, hp, hpz]
        refine wpAnyS_one (i := 5) (by decide +kernel) ?_
        simp [wpOpS, go_sem]
        refine wpAnyS_one (i := 7) (by decide +kernel) ?_
        simp [wpOpS, go_sem, hq, hqz]
        refine wpAnyS_done (by decide +kernel) ?_ _
        exact ⟨rfl, _, rfl, .tuple #[], results_none (by rfl) _ _ _, rfl, rfl, w.drew, (Ext.refl w).drew, rfl⟩
    · simp [wpOpS, go_sem]
      refine wpAnyS_one (i := 4) (by decide +kernel) ?_
      simp [wpOpS, go_sem]
      refine wpAnyS_one (i := 6) (by decide +kernel) ?_
      simp [wpOpS, go_sem, hp, hpz]
      refine wpAnyS_one (i := 7) (by decide +kernel) ?_
      simp [wpOpS, go_sem, hq, hqz]
      refine wpAnyS_done (by decide +kernel) ?_ _
      exact ⟨rfl, _, rfl, .tuple #[], results_none (by rfl) _ _ _, rfl, rfl, w.drew, (Ext.refl w).drew, rfl⟩
/-- What a face of package dues has deferred. -/
def dfr (f : FuncId) (Z : Nat) : List Deferred := [{ target := .fn (.func f) #[.pointer (some ⟨Z, 0, none⟩), .pointer (some ⟨Z + 1, 0, none⟩)], args := #[] }]
/-- The world of a face at its end: the two results' blocks at Z, and all that was there. -/
structure Fac (w : World) (Z : Nat) (W : World) (v : Value) (z : Int) : Prop where
  p : W.cell? ⟨Z, 0, none⟩ = some v
  q : W.cell? ⟨Z + 1, 0, none⟩ = some (.int .i64 z)
  pz : W.frozen? ⟨Z, 0, none⟩ = false
  qz : W.frozen? ⟨Z + 1, 0, none⟩ = false
  lo : w.heap.size ≤ Z
  ext : Ext w W
theorem Fac.begin (w W : World) (t s : TypeId) (hx : Ext w W) : Fac w W.heap.size ((W.alloc (.cells #[.slice none 0 0] t)).alloc (.cells #[.int .i64 0] s)) (.slice none 0 0) 0 :=
  ⟨by simp [go_sem], by simp [go_sem], by simp [go_sem], by simp [go_sem], hx.size, hx.trans (((Ext.refl W).alloc _ _).alloc _ _)⟩
theorem Fac.on {w W W' : World} {Z : Nat} {v : Value} {z : Int} (h : Fac w Z W v z) (hx : Ext W W') : Fac w Z W' v z :=
  ⟨hx.cell_of h.p, hx.cell_of h.q, by rw [hx.froz _ _ (lt_of_cell h.p)]; exact h.pz, by rw [hx.froz _ _ (lt_of_cell h.q)]; exact h.qz, h.lo, h.ext.trans hx⟩
theorem Fac.set1 {w W : World} {Z : Nat} {v : Value} {z : Int} (h : Fac w Z W v z) (x : Value) : Fac w Z (W.setCell ⟨Z, 0, none⟩ x) x z :=
  ⟨L3.same h.p, by rw [L3.other _ (Or.inl (by omega))]; exact h.q, by simp [go_sem, h.pz], by simp [go_sem, h.qz], h.lo, h.ext.setCell h.lo _⟩
theorem Fac.set2 {w W : World} {Z : Nat} {v : Value} {z : Int} (h : Fac w Z W v z) (x : Int) : Fac w Z (W.setCell ⟨Z + 1, 0, none⟩ (.int .i64 x)) v x :=
  ⟨by rw [L3.other _ (Or.inl (by omega))]; exact h.p, L3.same h.q, by simp [go_sem, h.pz], by simp [go_sem, h.qz], h.lo, h.ext.setCell (by have := h.lo; show w.heap.size ≤ Z + 1; omega) _⟩
theorem days_leave_catch (w W : World) (Z : Nat) (tm : Array Value) (c : Int) (va : Option Addr) (vn vc : Nat) (z : Int) (R : Ending → World → Prop) (h1 : tm[4]? = some (.pointer (some ⟨Z, 0, none⟩))) (h2 : tm[5]? = some (.pointer (some ⟨Z + 1, 0, none⟩))) (hf : Fac w Z W (.slice va vn vc) z)
    (hR : ∀ w2, Ext W w2 → R (.returned (.tuple #[.slice none 0 0, .int .i64 c])) ((w2.setCell ⟨Z, 0, none⟩ (.slice none 0 0)).setCell ⟨Z + 1, 0, none⟩ (.int .i64 c))) :
    Leaves Tryz.prog Tryz.f8 tm R (dfr 19 Z) (.panicking [{ v := .iface 32 (.int .i64 c), recovered := false }]) W := by
  refine leaves_cons (f := 19) (args := #[.pointer (some ⟨Z, 0, none⟩), .pointer (some ⟨Z + 1, 0, none⟩)]) (by simp) (by simp [go_sem]) ?_
  refine (days_catch Z c va vn vc z [] _ hf.p hf.q hf.pz hf.qz).mono ?_
  rintro e u' w'' ⟨rfl, rfl, w2, hy, rfl⟩
  have hg := hf.on hy
  simp [Leaves, settle, results, Tryz.results8, go_sem, h1, h2, hg.p, hg.q]
  exact hR w2 hy
theorem days_leave_idle (w W : World) (Z : Nat) (tm : Array Value) (va : Option Addr) (vn vc : Nat) (z : Int) (R : Ending → World → Prop) (h1 : tm[4]? = some (.pointer (some ⟨Z, 0, none⟩))) (h2 : tm[5]? = some (.pointer (some ⟨Z + 1, 0, none⟩))) (hf : Fac w Z W (.slice va vn vc) z)
    (hR : ∀ w2, Ext W w2 → R (.returned (.tuple #[.slice va vn vc, .int .i64 0])) ((w2.setCell ⟨Z, 0, none⟩ (.slice va vn vc)).setCell ⟨Z + 1, 0, none⟩ (.int .i64 0))) :
    Leaves Tryz.prog Tryz.f8 tm R (dfr 19 Z) (.returning) W := by
  refine leaves_cons (f := 19) (args := #[.pointer (some ⟨Z, 0, none⟩), .pointer (some ⟨Z + 1, 0, none⟩)]) (by simp) (by simp [go_sem]) ?_
  refine (days_idle Z va vn vc z _ hf.p hf.q hf.pz hf.qz).mono ?_
  rintro e u' w'' ⟨rfl, rfl, w2, hy, rfl⟩
  have hg := hf.on hy
  simp [Leaves, settle, results, Tryz.results8, go_sem, h1, h2, hg.p, hg.q]
  exact hR w2 hy
theorem parts_leave_catch (w W : World) (Z : Nat) (tm : Array Value) (c : Int) (va : Option Addr) (vn vc : Nat) (z : Int) (R : Ending → World → Prop) (h1 : tm[4]? = some (.pointer (some ⟨Z, 0, none⟩))) (h2 : tm[5]? = some (.pointer (some ⟨Z + 1, 0, none⟩))) (hf : Fac w Z W (.slice va vn vc) z)
    (hR : ∀ w2, Ext W w2 → R (.returned (.tuple #[.slice none 0 0, .int .i64 c])) ((w2.setCell ⟨Z, 0, none⟩ (.slice none 0 0)).setCell ⟨Z + 1, 0, none⟩ (.int .i64 c))) :
    Leaves Tryz.prog Tryz.f10 tm R (dfr 24 Z) (.panicking [{ v := .iface 32 (.int .i64 c), recovered := false }]) W := by
  refine leaves_cons (f := 24) (args := #[.pointer (some ⟨Z, 0, none⟩), .pointer (some ⟨Z + 1, 0, none⟩)]) (by simp) (by simp [go_sem]) ?_
  refine (parts_catch Z c va vn vc z [] _ hf.p hf.q hf.pz hf.qz).mono ?_
  rintro e u' w'' ⟨rfl, rfl, w2, hy, rfl⟩
  have hg := hf.on hy
  simp [Leaves, settle, results, Tryz.results10, go_sem, h1, h2, hg.p, hg.q]
  exact hR w2 hy
theorem parts_leave_idle (w W : World) (Z : Nat) (tm : Array Value) (va : Option Addr) (vn vc : Nat) (z : Int) (R : Ending → World → Prop) (h1 : tm[4]? = some (.pointer (some ⟨Z, 0, none⟩))) (h2 : tm[5]? = some (.pointer (some ⟨Z + 1, 0, none⟩))) (hf : Fac w Z W (.slice va vn vc) z)
    (hR : ∀ w2, Ext W w2 → R (.returned (.tuple #[.slice va vn vc, .int .i64 0])) ((w2.setCell ⟨Z, 0, none⟩ (.slice va vn vc)).setCell ⟨Z + 1, 0, none⟩ (.int .i64 0))) :
    Leaves Tryz.prog Tryz.f10 tm R (dfr 24 Z) (.returning) W := by
  refine leaves_cons (f := 24) (args := #[.pointer (some ⟨Z, 0, none⟩), .pointer (some ⟨Z + 1, 0, none⟩)]) (by simp) (by simp [go_sem]) ?_
  refine (parts_idle Z va vn vc z _ hf.p hf.q hf.pz hf.qz).mono ?_
  rintro e u' w'' ⟨rfl, rfl, w2, hy, rfl⟩
  have hg := hf.on hy
  simp [Leaves, settle, results, Tryz.results10, go_sem, h1, h2, hg.p, hg.q]
  exact hR w2 hy
theorem sureL_ok (v : Value) (w : World) :
    Calls Tryz.prog 43 #[v, .int .i64 0] w fun e w' => e = .returned v ∧ w' = w := by
  go_enter Tryz.func43, Tryz.ntmps43
  go_wp2_with fail
  refine (L6.need_ok _ _).mono ?_
  rintro e w1 ⟨rfl, rfl⟩
  go_wp2
  exact bodyPost_ret (v := v) (by simp [results, Tryz.results43, go_sem]) rfl ⟨rfl, rfl⟩
theorem sureC_ok (v : Value) (w : World) :
    Calls Tryz.prog 45 #[v, .int .i64 0] w fun e w' => e = .returned v ∧ w' = w := by
  go_enter Tryz.func45, Tryz.ntmps45
  go_wp2_with fail
  refine (L6.need_ok _ _).mono ?_
  rintro e w1 ⟨rfl, rfl⟩
  go_wp2
  exact bodyPost_ret (v := v) (by simp [results, Tryz.results45, go_sem]) rfl ⟨rfl, rfl⟩
theorem sureI_ok (v : Value) (w : World) :
    Calls Tryz.prog 66 #[v, .int .i64 0] w fun e w' => e = .returned v ∧ w' = w := by
  go_enter Tryz.func66, Tryz.ntmps66
  go_wp2_with fail
  refine (L6.need_ok _ _).mono ?_
  rintro e w1 ⟨rfl, rfl⟩
  go_wp2
  exact bodyPost_ret (v := v) (by simp [results, Tryz.results66, go_sem]) rfl ⟨rfl, rfl⟩
theorem sureP_ok (v : Value) (w : World) :
    Calls Tryz.prog 54 #[v, .int .i64 0] w fun e w' => e = .returned v ∧ w' = w := by
  go_enter Tryz.func54, Tryz.ntmps54
  go_wp2_with fail
  refine (L6.need_ok _ _).mono ?_
  rintro e w1 ⟨rfl, rfl⟩
  go_wp2
  exact bodyPost_ret (v := v) (by simp [results, Tryz.results54, go_sem]) rfl ⟨rfl, rfl⟩
theorem sureL_no (v : Value) (c : Int) (hc : c = 5) (w : World) :
    Calls Tryz.prog 43 #[v, .int .i64 c] w fun e w' => e = .panicked [{ v := .iface 32 (.int .i64 c), recovered := false }] ∧ w' = w := by
  subst hc
  go_enter Tryz.func43, Tryz.ntmps43
  go_wp2_with fail
  refine (L6.need_no _ _).mono ?_
  rintro e w1 ⟨rfl, rfl⟩
  go_wp2
  exact ⟨rfl, rfl, rfl⟩
theorem sureI_no (v : Value) (c : Int) (hc : c = 5) (w : World) :
    Calls Tryz.prog 66 #[v, .int .i64 c] w fun e w' => e = .panicked [{ v := .iface 32 (.int .i64 c), recovered := false }] ∧ w' = w := by
  subst hc
  go_enter Tryz.func66, Tryz.ntmps66
  go_wp2_with fail
  refine (L6.need_no _ _).mono ?_
  rintro e w1 ⟨rfl, rfl⟩
  go_wp2
  exact ⟨rfl, rfl, rfl⟩
end Go.Proofs.YtmlkccmkdgfalaaGreatDoor
