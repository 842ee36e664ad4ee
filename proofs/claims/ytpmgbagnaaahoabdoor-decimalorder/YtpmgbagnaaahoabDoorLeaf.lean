/- What the small functions of the program and the deferred closures of its faces do, as contracts: no statement of the seat is proved here. -/
import Derived.Test.YtpmgbagnaaahoabDoorRows
import Derived.Test.YtpmgbagnaaahoabDoorBase
namespace Go.Proofs.YtpmgbagnaaahoabDoor
open Go.RowKit

theorem fits_any (v : Int) (w : World) :
    Calls Tryd.prog 79 #[.int .i64 v] w fun e w' => e = .returned (.bool (decide (-1000000000000000 ≤ v) && decide (v ≤ 1000000000000000))) ∧ w' = w := by
  by_cases h1 : -1000000000000000 ≤ v <;> by_cases h2 : v ≤ 1000000000000000 <;>
  · go_enter Tryd.func79, Tryd.ntmps79
    go_wp2
    go_ret
    exact ⟨by simp [h1, h2], rfl⟩

theorem need_ok (c : Int) (w : World) :
    Calls Tryd.prog 38 #[.bool true, .int .i64 c] w fun e w' => e = .returned (.tuple #[]) ∧ w' = w := by
  go_enter Tryd.func38, Tryd.ntmps38
  go_wp2
  go_end0
  exact ⟨rfl, rfl⟩

/-- What is thrown. -/
def thrown (c : Int) : Ending := .panicked [{ v := .iface 23 (.int .i64 c), recovered := false }]

theorem need_no (c : Int) (w : World) :
    Calls Tryd.prog 38 #[.bool false, .int .i64 c] w fun e w' => e = .panicked [{ v := .iface 23 (.int .i64 c), recovered := false }] ∧ w' = w := by
  go_enter Tryd.func38, Tryd.ntmps38
  go_wp2
  exact ⟨rfl, rfl, rfl⟩

theorem fitting_ok (v : Int) (w : World) (h1 : -1000000000000000 ≤ v) (h2 : v ≤ 1000000000000000) :
    Calls Tryd.prog 58 #[.int .i64 v] w fun e w' => e = .returned (.int .i64 v) ∧ w' = w := by
  go_enter Tryd.func58, Tryd.ntmps58
  go_wp2
  go_end0
  go_wp2
  go_ret
  exact ⟨rfl, rfl⟩

theorem fitting_no (v : Int) (w : World) (h : ¬ (-1000000000000000 ≤ v ∧ v ≤ 1000000000000000)) :
    Calls Tryd.prog 58 #[.int .i64 v] w fun e w' => e = .panicked [{ v := .iface 23 (.int .i64 3), recovered := false }] ∧ w' = w := by
  by_cases h1 : -1000000000000000 ≤ v
  · have h2 : ¬ v ≤ 1000000000000000 := fun k => h ⟨h1, k⟩
    clear h
    go_enter Tryd.func58, Tryd.ntmps58
    go_wp2
    exact ⟨rfl, rfl, rfl, rfl⟩
  · clear h
    go_enter Tryd.func58, Tryd.ntmps58
    go_wp2
    exact ⟨rfl, rfl, rfl, rfl⟩

theorem assert_errno (W : World) (x : Value) : (Instr.typeAssert (.iface 23 x) 20 23 true).run Tryd.prog W = .ok (.tuple #[x, .bool true]) W := by kernel_rfl

theorem settleAt_nil (v : Int) (w : World) :
    Calls Tryd.prog 35 #[.nilIface, .int .i64 v] w fun e w' => e = .returned (.tuple #[.int .i64 v, .int .i64 0, .int .i64 0]) ∧ w' = w := by
  go_enter Tryd.func35, Tryd.ntmps35
  go_wp2
  exact bodyPost_ret (v := .tuple #[.int .i64 v, .int .i64 0, .int .i64 0]) (by simp [results, Tryd.results35, go_sem]) rfl ⟨rfl, rfl⟩

theorem settleAt_thrown (c v : Int) (w : World) :
    Calls Tryd.prog 35 #[.iface 23 (.int .i64 c), .int .i64 v] w fun e w' => e = .returned (.tuple #[.int .i64 0, .int .i64 0, .int .i64 c]) ∧ w' = w := by
  have hta := assert_errno
  go_enter Tryd.func35, Tryd.ntmps35
  go_wp2
  exact bodyPost_ret (v := .tuple #[.int .i64 0, .int .i64 0, .int .i64 c]) (by simp [results, Tryd.results35, go_sem]) rfl ⟨rfl, rfl⟩

theorem settle_nil (v : Int) (w : World) :
    Calls Tryd.prog 18 #[.nilIface, .int .i64 v] w fun e w' => e = .returned (.tuple #[.int .i64 v, .int .i64 0]) ∧ w' = w := by
  go_enter Tryd.func18, Tryd.ntmps18
  go_wp2_with fail
  refine (settleAt_nil _ _).mono ?_
  rintro e w1 ⟨rfl, rfl⟩
  go_wp2
  go_ret2
  exact ⟨rfl, rfl⟩

theorem settle_thrown (c v : Int) (w : World) :
    Calls Tryd.prog 18 #[.iface 23 (.int .i64 c), .int .i64 v] w fun e w' => e = .returned (.tuple #[.int .i64 0, .int .i64 c]) ∧ w' = w := by
  go_enter Tryd.func18, Tryd.ntmps18
  go_wp2_with fail
  refine (settleAt_thrown _ _ _).mono ?_
  rintro e w1 ⟨rfl, rfl⟩
  go_wp2
  go_ret2
  exact ⟨rfl, rfl⟩

theorem plus_idle (b : Nat) (v z : Int) (w : World) (hp : w.cell? ⟨b, 0, none⟩ = some (.int .i64 v)) (hq : w.cell? ⟨b + 1, 0, none⟩ = some (.int .i64 z)) (hpz : w.frozen? ⟨b, 0, none⟩ = false) (hqz : w.frozen? ⟨b + 1, 0, none⟩ = false) :
    CallsD Tryd.prog 60 #[.pointer (some ⟨b, 0, none⟩), .pointer (some ⟨b + 1, 0, none⟩)] .returning w fun e u' w' => e = .returned (.tuple #[]) ∧ u' = .returning ∧ ∃ w1, Ext w w1 ∧ w' = ((w1.setCell ⟨b, 0, none⟩ (.int .i64 v)).setCell ⟨b + 1, 0, none⟩ (.int .i64 0)) := by
  refine callsD_of_wpS Tryd.func60 rfl fun c₀ cs hu => ?_
  refine wpS_region_any 8 rfl (by kernel_rfl) ?_
  refine wpAnyS_two (i := 0) (j := 1) (by decide +kernel) ?_ ?_
  · simp [wpOpS, go_sem, recoverD, hu, Tryd.ntmps60]
    refine wpAnyS_one (i := 1) (by decide +kernel) ?_
    simp [wpOpS, go_sem, hp]
    refine wpAnyS_one (i := 2) (by decide +kernel) ?_
    simp [wpOpS, go_sem]
    refine (settle_nil _ _).mono ?_
    rintro e w' ⟨rfl, rfl⟩
    refine wpAnyS_one (i := 3) (by decide +kernel) ?_
    simp [wpOpS, go_sem]
    refine wpAnyS_two (i := 4) (j := 5) (by decide +kernel) ?_ ?_
    · simp [wpOpS, go_sem]
      refine wpAnyS_two (i := 5) (j := 6) (by decide +kernel) ?_ ?_
      · simp [wpOpS, go_sem]
        refine wpAnyS_one (i := 6) (by decide +kernel) ?_
        simp [wpOpS, go_sem, hp, hpz]
        refine wpAnyS_one (i := 7) (by decide +kernel) ?_
        simp [wpOpS, go_sem, hq, hqz]
        refine wpAnyS_done (by decide +kernel) ?_ _
        exact ⟨rfl, .returning, by rw [← hu], .tuple #[], results_none (by rfl) _ _ _, rfl, rfl, w.drew, (Ext.refl w).drew, rfl⟩
      · simp [wpOpS, go_sem, hp, hpz]
        refine wpAnyS_one (i := 5) (by decide +kernel) ?_
        simp [wpOpS, go_sem]
        refine wpAnyS_one (i := 7) (by decide +kernel) ?_
        simp [wpOpS, go_sem, hq, hqz]
        refine wpAnyS_done (by decide +kernel) ?_ _
        exact ⟨rfl, .returning, by rw [← hu], .tuple #[], results_none (by rfl) _ _ _, rfl, rfl, w.drew, (Ext.refl w).drew, rfl⟩
    · simp [wpOpS, go_sem]
      refine wpAnyS_one (i := 4) (by decide +kernel) ?_
      simp [wpOpS, go_sem]
      refine wpAnyS_one (i := 6) (by decide +kernel) ?_
      simp [wpOpS, go_sem, hp, hpz]
      refine wpAnyS_one (i := 7) (by decide +kernel) ?_
      simp [wpOpS, go_sem, hq, hqz]
      refine wpAnyS_done (by decide +kernel) ?_ _
      exact ⟨rfl, .returning, by rw [← hu], .tuple #[], results_none (by rfl) _ _ _, rfl, rfl, w.drew, (Ext.refl w).drew, rfl⟩
  · simp [wpOpS, go_sem, hp, Tryd.ntmps60]
    refine wpAnyS_one (i := 0) (by decide +kernel) ?_
    simp [wpOpS, go_sem, recoverD, hu]
    refine wpAnyS_one (i := 2) (by decide +kernel) ?_
    simp [wpOpS, go_sem]
    refine (settle_nil _ _).mono ?_
    rintro e w' ⟨rfl, rfl⟩
    refine wpAnyS_one (i := 3) (by decide +kernel) ?_
    simp [wpOpS, go_sem]
    refine wpAnyS_two (i := 4) (j := 5) (by decide +kernel) ?_ ?_
    · simp [wpOpS, go_sem]
      refine wpAnyS_two (i := 5) (j := 6) (by decide +kernel) ?_ ?_
      · simp [wpOpS, go_sem]
        refine wpAnyS_one (i := 6) (by decide +kernel) ?_
        simp [wpOpS, go_sem, hp, hpz]
        refine wpAnyS_one (i := 7) (by decide +kernel) ?_
        simp [wpOpS, go_sem, hq, hqz]
        refine wpAnyS_done (by decide +kernel) ?_ _
        exact ⟨rfl, .returning, by rw [← hu], .tuple #[], results_none (by rfl) _ _ _, rfl, rfl, w.drew, (Ext.refl w).drew, rfl⟩
      · simp [wpOpS, go_sem, hp, hpz]
        refine wpAnyS_one (i := 5) (by decide +kernel) ?_
        simp [wpOpS, go_sem]
        refine wpAnyS_one (i := 7) (by decide +kernel) ?_
        simp [wpOpS, go_sem, hq, hqz]
        refine wpAnyS_done (by decide +kernel) ?_ _
        exact ⟨rfl, .returning, by rw [← hu], .tuple #[], results_none (by rfl) _ _ _, rfl, rfl, w.drew, (Ext.refl w).drew, rfl⟩
    · simp [wpOpS, go_sem]
      refine wpAnyS_one (i := 4) (by decide +kernel) ?_
      simp [wpOpS, go_sem]
      refine wpAnyS_one (i := 6) (by decide +kernel) ?_
      simp [wpOpS, go_sem, hp, hpz]
      refine wpAnyS_one (i := 7) (by decide +kernel) ?_
      simp [wpOpS, go_sem, hq, hqz]
      refine wpAnyS_done (by decide +kernel) ?_ _
      exact ⟨rfl, .returning, by rw [← hu], .tuple #[], results_none (by rfl) _ _ _, rfl, rfl, w.drew, (Ext.refl w).drew, rfl⟩

theorem plus_catch (b : Nat) (c v z : Int) (older : List PanicEntry) (w : World) (hp : w.cell? ⟨b, 0, none⟩ = some (.int .i64 v)) (hq : w.cell? ⟨b + 1, 0, none⟩ = some (.int .i64 z)) (hpz : w.frozen? ⟨b, 0, none⟩ = false) (hqz : w.frozen? ⟨b + 1, 0, none⟩ = false) :
    CallsD Tryd.prog 60 #[.pointer (some ⟨b, 0, none⟩), .pointer (some ⟨b + 1, 0, none⟩)] (.panicking ({ v := .iface 23 (.int .i64 c), recovered := false } :: older)) w fun e u' w' => e = .returned (.tuple #[]) ∧ u' = .panicking ({ v := .iface 23 (.int .i64 c), recovered := true } :: older) ∧ ∃ w1, Ext w w1 ∧ w' = ((w1.setCell ⟨b, 0, none⟩ (.int .i64 0)).setCell ⟨b + 1, 0, none⟩ (.int .i64 c)) := by
  refine callsD_of_wpS Tryd.func60 rfl fun c₀ cs hu => ?_
  refine wpS_region_any 8 rfl (by kernel_rfl) ?_
  refine wpAnyS_two (i := 0) (j := 1) (by decide +kernel) ?_ ?_
  · simp [wpOpS, go_sem, recoverD, hu, Tryd.ntmps60]
    refine wpAnyS_one (i := 1) (by decide +kernel) ?_
    simp [wpOpS, go_sem, hp]
    refine wpAnyS_one (i := 2) (by decide +kernel) ?_
    simp [wpOpS, go_sem]
    refine (settle_thrown _ _ _).mono ?_
    rintro e w' ⟨rfl, rfl⟩
    refine wpAnyS_one (i := 3) (by decide +kernel) ?_
    simp [wpOpS, go_sem]
    refine wpAnyS_two (i := 4) (j := 5) (by decide +kernel) ?_ ?_
    · simp [wpOpS, go_sem]
      refine wpAnyS_two (i := 5) (j := 6) (by decide +kernel) ?_ ?_
      · simp [wpOpS, go_sem]
        refine wpAnyS_one (i := 6) (by decide +kernel) ?_
        simp [wpOpS, go_sem, hp, hpz]
        refine wpAnyS_one (i := 7) (by decide +kernel) ?_
        simp [wpOpS, go_sem, hq, hqz]
        refine wpAnyS_done (by decide +kernel) ?_ _
        exact ⟨rfl, _, rfl, .tuple #[], results_none (by rfl) _ _ _, rfl, rfl, w.drew, (Ext.refl w).drew, rfl⟩
      · simp [wpOpS, go_sem, hp, hpz]
        refine wpAnyS_one (i := 5) (by decide +kernel) ?_
        simp [wpOpS, go_sem]
        refine wpAnyS_one (i := 7) (by decide +kernel) ?_
        simp [wpOpS, go_sem, hq, hqz]
        refine wpAnyS_done (by decide +kernel) ?_ _
        exact ⟨rfl, _, rfl, .tuple #[], results_none (by rfl) _ _ _, rfl, rfl, w.drew, (Ext.refl w).drew, rfl⟩
    · simp [wpOpS, go_sem]
      refine wpAnyS_one (i := 4) (by decide +kernel) ?_
      simp [wpOpS, go_sem]
      refine wpAnyS_one (i := 6) (by decide +kernel) ?_
      simp [wpOpS, go_sem, hp, hpz]
      refine wpAnyS_one (i := 7) (by decide +kernel) ?_
      simp [wpOpS, go_sem, hq, hqz]
      refine wpAnyS_done (by decide +kernel) ?_ _
      exact ⟨rfl, _, rfl, .tuple #[], results_none (by rfl) _ _ _, rfl, rfl, w.drew, (Ext.refl w).drew, rfl⟩
  · simp [wpOpS, go_sem, hp, Tryd.ntmps60]
    refine wpAnyS_one (i := 0) (by decide +kernel) ?_
    simp [wpOpS, go_sem, recoverD, hu]
    refine wpAnyS_one (i := 2) (by decide +kernel) ?_
    simp [wpOpS, go_sem]
    refine (settle_thrown _ _ _).mono ?_
    rintro e w' ⟨rfl, rfl⟩
    refine wpAnyS_one (i := 3) (by decide +kernel) ?_
    simp [wpOpS, go_sem]
    refine wpAnyS_two (i := 4) (j := 5) (by decide +kernel) ?_ ?_
    · simp [wpOpS, go_sem]
      refine wpAnyS_two (i := 5) (j := 6) (by decide +kernel) ?_ ?_
      · simp [wpOpS, go_sem]
        refine wpAnyS_one (i := 6) (by decide +kernel) ?_
        simp [wpOpS, go_sem, hp, hpz]
        refine wpAnyS_one (i := 7) (by decide +kernel) ?_
        simp [wpOpS, go_sem, hq, hqz]
        refine wpAnyS_done (by decide +kernel) ?_ _
        exact ⟨rfl, _, rfl, .tuple #[], results_none (by rfl) _ _ _, rfl, rfl, w.drew, (Ext.refl w).drew, rfl⟩
      · simp [wpOpS, go_sem, hp, hpz]
        refine wpAnyS_one (i := 5) (by decide +kernel) ?_
        simp [wpOpS, go_sem]
        refine wpAnyS_one (i := 7) (by decide +kernel) ?_
        simp [wpOpS, go_sem, hq, hqz]
        refine wpAnyS_done (by decide +kernel) ?_ _
        exact ⟨rfl, _, rfl, .tuple #[], results_none (by rfl) _ _ _, rfl, rfl, w.drew, (Ext.refl w).drew, rfl⟩
    · simp [wpOpS, go_sem]
      refine wpAnyS_one (i := 4) (by decide +kernel) ?_
      simp [wpOpS, go_sem]
      refine wpAnyS_one (i := 6) (by decide +kernel) ?_
      simp [wpOpS, go_sem, hp, hpz]
      refine wpAnyS_one (i := 7) (by decide +kernel) ?_
      simp [wpOpS, go_sem, hq, hqz]
      refine wpAnyS_done (by decide +kernel) ?_ _
      exact ⟨rfl, _, rfl, .tuple #[], results_none (by rfl) _ _ _, rfl, rfl, w.drew, (Ext.refl w).drew, rfl⟩

theorem times_idle (b : Nat) (v z : Int) (w : World) (hp : w.cell? ⟨b, 0, none⟩ = some (.int .i64 v)) (hq : w.cell? ⟨b + 1, 0, none⟩ = some (.int .i64 z)) (hpz : w.frozen? ⟨b, 0, none⟩ = false) (hqz : w.frozen? ⟨b + 1, 0, none⟩ = false) :
    CallsD Tryd.prog 56 #[.pointer (some ⟨b, 0, none⟩), .pointer (some ⟨b + 1, 0, none⟩)] .returning w fun e u' w' => e = .returned (.tuple #[]) ∧ u' = .returning ∧ ∃ w1, Ext w w1 ∧ w' = ((w1.setCell ⟨b, 0, none⟩ (.int .i64 v)).setCell ⟨b + 1, 0, none⟩ (.int .i64 0)) := by
  refine callsD_of_wpS Tryd.func56 rfl fun c₀ cs hu => ?_
  refine wpS_region_any 8 rfl (by kernel_rfl) ?_
  refine wpAnyS_two (i := 0) (j := 1) (by decide +kernel) ?_ ?_
  · simp [wpOpS, go_sem, recoverD, hu, Tryd.ntmps56]
    refine wpAnyS_one (i := 1) (by decide +kernel) ?_
    simp [wpOpS, go_sem, hp]
    refine wpAnyS_one (i := 2) (by decide +kernel) ?_
    simp [wpOpS, go_sem]
    refine (settle_nil _ _).mono ?_
    rintro e w' ⟨rfl, rfl⟩
    refine wpAnyS_one (i := 3) (by decide +kernel) ?_
    simp [wpOpS, go_sem]
    refine wpAnyS_two (i := 4) (j := 5) (by decide +kernel) ?_ ?_
    · simp [wpOpS, go_sem]
      refine wpAnyS_two (i := 5) (j := 6) (by decide +kernel) ?_ ?_
      · simp [wpOpS, go_sem]
        refine wpAnyS_one (i := 6) (by decide +kernel) ?_
        simp [wpOpS, go_sem, hp, hpz]
        refine wpAnyS_one (i := 7) (by decide +kernel) ?_
        simp [wpOpS, go_sem, hq, hqz]
        refine wpAnyS_done (by decide +kernel) ?_ _
        exact ⟨rfl, .returning, by rw [← hu], .tuple #[], results_none (by rfl) _ _ _, rfl, rfl, w.drew, (Ext.refl w).drew, rfl⟩
      · simp [wpOpS, go_sem, hp, hpz]
        refine wpAnyS_one (i := 5) (by decide +kernel) ?_
        simp [wpOpS, go_sem]
        refine wpAnyS_one (i := 7) (by decide +kernel) ?_
        simp [wpOpS, go_sem, hq, hqz]
        refine wpAnyS_done (by decide +kernel) ?_ _
        exact ⟨rfl, .returning, by rw [← hu], .tuple #[], results_none (by rfl) _ _ _, rfl, rfl, w.drew, (Ext.refl w).drew, rfl⟩
    · simp [wpOpS, go_sem]
      refine wpAnyS_one (i := 4) (by decide +kernel) ?_
      simp [wpOpS, go_sem]
      refine wpAnyS_one (i := 6) (by decide +kernel) ?_
      simp [wpOpS, go_sem, hp, hpz]
      refine wpAnyS_one (i := 7) (by decide +kernel) ?_
      simp [wpOpS, go_sem, hq, hqz]
      refine wpAnyS_done (by decide +kernel) ?_ _
      exact ⟨rfl, .returning, by rw [← hu], .tuple #[], results_none (by rfl) _ _ _, rfl, rfl, w.drew, (Ext.refl w).drew, rfl⟩
  · simp [wpOpS, go_sem, hp, Tryd.ntmps56]
    refine wpAnyS_one (i := 0) (by decide +kernel) ?_
    simp [wpOpS, go_sem, recoverD, hu]
    refine wpAnyS_one (i := 2) (by decide +kernel) ?_
    simp [wpOpS, go_sem]
    refine (settle_nil _ _).mono ?_
    rintro e w' ⟨rfl, rfl⟩
    refine wpAnyS_one (i := 3) (by decide +kernel) ?_
    simp [wpOpS, go_sem]
    refine wpAnyS_two (i := 4) (j := 5) (by decide +kernel) ?_ ?_
    · simp [wpOpS, go_sem]
      refine wpAnyS_two (i := 5) (j := 6) (by decide +kernel) ?_ ?_
      · simp [wpOpS, go_sem]
        refine wpAnyS_one (i := 6) (by decide +kernel) ?_
        simp [wpOpS, go_sem, hp, hpz]
        refine wpAnyS_one (i := 7) (by decide +kernel) ?_
        simp [wpOpS, go_sem, hq, hqz]
        refine wpAnyS_done (by decide +kernel) ?_ _
        exact ⟨rfl, .returning, by rw [← hu], .tuple #[], results_none (by rfl) _ _ _, rfl, rfl, w.drew, (Ext.refl w).drew, rfl⟩
      · simp [wpOpS, go_sem, hp, hpz]
        refine wpAnyS_one (i := 5) (by decide +kernel) ?_
        simp [wpOpS, go_sem]
        refine wpAnyS_one (i := 7) (by decide +kernel) ?_
        simp [wpOpS, go_sem, hq, hqz]
        refine wpAnyS_done (by decide +kernel) ?_ _
        exact ⟨rfl, .returning, by rw [← hu], .tuple #[], results_none (by rfl) _ _ _, rfl, rfl, w.drew, (Ext.refl w).drew, rfl⟩
    · simp [wpOpS, go_sem]
      refine wpAnyS_one (i := 4) (by decide +kernel) ?_
      simp [wpOpS, go_sem]
      refine wpAnyS_one (i := 6) (by decide +kernel) ?_
      simp [wpOpS, go_sem, hp, hpz]
      refine wpAnyS_one (i := 7) (by decide +kernel) ?_
      simp [wpOpS, go_sem, hq, hqz]
      refine wpAnyS_done (by decide +kernel) ?_ _
      exact ⟨rfl, .returning, by rw [← hu], .tuple #[], results_none (by rfl) _ _ _, rfl, rfl, w.drew, (Ext.refl w).drew, rfl⟩

theorem times_catch (b : Nat) (c v z : Int) (older : List PanicEntry) (w : World) (hp : w.cell? ⟨b, 0, none⟩ = some (.int .i64 v)) (hq : w.cell? ⟨b + 1, 0, none⟩ = some (.int .i64 z)) (hpz : w.frozen? ⟨b, 0, none⟩ = false) (hqz : w.frozen? ⟨b + 1, 0, none⟩ = false) :
    CallsD Tryd.prog 56 #[.pointer (some ⟨b, 0, none⟩), .pointer (some ⟨b + 1, 0, none⟩)] (.panicking ({ v := .iface 23 (.int .i64 c), recovered := false } :: older)) w fun e u' w' => e = .returned (.tuple #[]) ∧ u' = .panicking ({ v := .iface 23 (.int .i64 c), recovered := true } :: older) ∧ ∃ w1, Ext w w1 ∧ w' = ((w1.setCell ⟨b, 0, none⟩ (.int .i64 0)).setCell ⟨b + 1, 0, none⟩ (.int .i64 c)) := by
  refine callsD_of_wpS Tryd.func56 rfl fun c₀ cs hu => ?_
  refine wpS_region_any 8 rfl (by kernel_rfl) ?_
  refine wpAnyS_two (i := 0) (j := 1) (by decide +kernel) ?_ ?_
  · simp [wpOpS, go_sem, recoverD, hu, Tryd.ntmps56]
    refine wpAnyS_one (i := 1) (by decide +kernel) ?_
    simp [wpOpS, go_sem, hp]
    refine wpAnyS_one (i := 2) (by decide +kernel) ?_
    simp [wpOpS, go_sem]
    refine (settle_thrown _ _ _).mono ?_
    rintro e w' ⟨rfl, rfl⟩
    refine wpAnyS_one (i := 3) (by decide +kernel) ?_
    simp [wpOpS, go_sem]
    refine wpAnyS_two (i := 4) (j := 5) (by decide +kernel) ?_ ?_
    · simp [wpOpS, go_sem]
      refine wpAnyS_two (i := 5) (j := 6) (by decide +kernel) ?_ ?_
      · simp [wpOpS, go_sem]
        refine wpAnyS_one (i := 6) (by decide +kernel) ?_
        simp [wpOpS, go_sem, hp, hpz]
        refine wpAnyS_one (i := 7) (by decide +kernel) ?_
        simp [wpOpS, go_sem, hq, hqz]
        refine wpAnyS_done (by decide +kernel) ?_ _
        exact ⟨rfl, _, rfl, .tuple #[], results_none (by rfl) _ _ _, rfl, rfl, w.drew, (Ext.refl w).drew, rfl⟩
      · simp [wpOpS, go_sem, hp, hpz]
        refine wpAnyS_one (i := 5) (by decide +kernel) ?_
        simp [wpOpS, go_sem]
        refine wpAnyS_one (i := 7) (by decide +kernel) ?_
        simp [wpOpS, go_sem, hq, hqz]
        refine wpAnyS_done (by decide +kernel) ?_ _
        exact ⟨rfl, _, rfl, .tuple #[], results_none (by rfl) _ _ _, rfl, rfl, w.drew, (Ext.refl w).drew, rfl⟩
    · simp [wpOpS, go_sem]
      refine wpAnyS_one (i := 4) (by decide +kernel) ?_
      simp [wpOpS, go_sem]
      refine wpAnyS_one (i := 6) (by decide +kernel) ?_
      simp [wpOpS, go_sem, hp, hpz]
      refine wpAnyS_one (i := 7) (by decide +kernel) ?_
      simp [wpOpS, go_sem, hq, hqz]
      refine wpAnyS_done (by decide +kernel) ?_ _
      exact ⟨rfl, _, rfl, .tuple #[], results_none (by rfl) _ _ _, rfl, rfl, w.drew, (Ext.refl w).drew, rfl⟩
  · simp [wpOpS, go_sem, hp, Tryd.ntmps56]
    refine wpAnyS_one (i := 0) (by decide +kernel) ?_
    simp [wpOpS, go_sem, recoverD, hu]
    refine wpAnyS_one (i := 2) (by decide +kernel) ?_
    simp [wpOpS, go_sem]
    refine (settle_thrown _ _ _).mono ?_
    rintro e w' ⟨rfl, rfl⟩
    refine wpAnyS_one (i := 3) (by decide +kernel) ?_
    simp [wpOpS, go_sem]
    refine wpAnyS_two (i := 4) (j := 5) (by decide +kernel) ?_ ?_
    · simp [wpOpS, go_sem]
      refine wpAnyS_two (i := 5) (j := 6) (by decide +kernel) ?_ ?_
      · simp [wpOpS, go_sem]
        refine wpAnyS_one (i := 6) (by decide +kernel) ?_
        simp [wpOpS, go_sem, hp, hpz]
        refine wpAnyS_one (i := 7) (by decide +kernel) ?_
        simp [wpOpS, go_sem, hq, hqz]
        refine wpAnyS_done (by decide +kernel) ?_ _
        exact ⟨rfl, _, rfl, .tuple #[], results_none (by rfl) _ _ _, rfl, rfl, w.drew, (Ext.refl w).drew, rfl⟩
      · simp [wpOpS, go_sem, hp, hpz]
        refine wpAnyS_one (i := 5) (by decide +kernel) ?_
        simp [wpOpS, go_sem]
        refine wpAnyS_one (i := 7) (by decide +kernel) ?_
        simp [wpOpS, go_sem, hq, hqz]
        refine wpAnyS_done (by decide +kernel) ?_ _
        exact ⟨rfl, _, rfl, .tuple #[], results_none (by rfl) _ _ _, rfl, rfl, w.drew, (Ext.refl w).drew, rfl⟩
    · simp [wpOpS, go_sem]
      refine wpAnyS_one (i := 4) (by decide +kernel) ?_
      simp [wpOpS, go_sem]
      refine wpAnyS_one (i := 6) (by decide +kernel) ?_
      simp [wpOpS, go_sem, hp, hpz]
      refine wpAnyS_one (i := 7) (by decide +kernel) ?_
      simp [wpOpS, go_sem, hq, hqz]
      refine wpAnyS_done (by decide +kernel) ?_ _
      exact ⟨rfl, _, rfl, .tuple #[], results_none (by rfl) _ _ _, rfl, rfl, w.drew, (Ext.refl w).drew, rfl⟩

theorem tm_idle (b : Nat) (v z : Int) (w : World) (hp : w.cell? ⟨b, 0, none⟩ = some (.int .i64 v)) (hq : w.cell? ⟨b + 1, 0, none⟩ = some (.int .i64 z)) (hpz : w.frozen? ⟨b, 0, none⟩ = false) (hqz : w.frozen? ⟨b + 1, 0, none⟩ = false) :
    CallsD Tryd.prog 17 #[.pointer (some ⟨b, 0, none⟩), .pointer (some ⟨b + 1, 0, none⟩)] .returning w fun e u' w' => e = .returned (.tuple #[]) ∧ u' = .returning ∧ ∃ w1, Ext w w1 ∧ w' = ((w1.setCell ⟨b, 0, none⟩ (.int .i64 v)).setCell ⟨b + 1, 0, none⟩ (.int .i64 0)) := by
  refine callsD_of_wpS Tryd.func17 rfl fun c₀ cs hu => ?_
  refine wpS_region_any 8 rfl (by kernel_rfl) ?_
  refine wpAnyS_two (i := 0) (j := 1) (by decide +kernel) ?_ ?_
  · simp [wpOpS, go_sem, recoverD, hu, Tryd.ntmps17]
    refine wpAnyS_one (i := 1) (by decide +kernel) ?_
    simp [wpOpS, go_sem, hp]
    refine wpAnyS_one (i := 2) (by decide +kernel) ?_
    simp [wpOpS, go_sem]
    refine (settle_nil _ _).mono ?_
    rintro e w' ⟨rfl, rfl⟩
    refine wpAnyS_one (i := 3) (by decide +kernel) ?_
    simp [wpOpS, go_sem]
    refine wpAnyS_two (i := 4) (j := 5) (by decide +kernel) ?_ ?_
    · simp [wpOpS, go_sem]
      refine wpAnyS_two (i := 5) (j := 6) (by decide +kernel) ?_ ?_
      · simp [wpOpS, go_sem]
        refine wpAnyS_one (i := 6) (by decide +kernel) ?_
        simp [wpOpS, go_sem, hp, hpz]
        refine wpAnyS_one (i := 7) (by decide +kernel) ?_
        simp [wpOpS, go_sem, hq, hqz]
        refine wpAnyS_done (by decide +kernel) ?_ _
        exact ⟨rfl, .returning, by rw [← hu], .tuple #[], results_none (by rfl) _ _ _, rfl, rfl, w.drew, (Ext.refl w).drew, rfl⟩
      · simp [wpOpS, go_sem, hp, hpz]
        refine wpAnyS_one (i := 5) (by decide +kernel) ?_
        simp [wpOpS, go_sem]
        refine wpAnyS_one (i := 7) (by decide +kernel) ?_
        simp [wpOpS, go_sem, hq, hqz]
        refine wpAnyS_done (by decide +kernel) ?_ _
        exact ⟨rfl, .returning, by rw [← hu], .tuple #[], results_none (by rfl) _ _ _, rfl, rfl, w.drew, (Ext.refl w).drew, rfl⟩
    · simp [wpOpS, go_sem]
      refine wpAnyS_one (i := 4) (by decide +kernel) ?_
      simp [wpOpS, go_sem]
      refine wpAnyS_one (i := 6) (by decide +kernel) ?_
      simp [wpOpS, go_sem, hp, hpz]
      refine wpAnyS_one (i := 7) (by decide +kernel) ?_
      simp [wpOpS, go_sem, hq, hqz]
      refine wpAnyS_done (by decide +kernel) ?_ _
      exact ⟨rfl, .returning, by rw [← hu], .tuple #[], results_none (by rfl) _ _ _, rfl, rfl, w.drew, (Ext.refl w).drew, rfl⟩
  · simp [wpOpS, go_sem, hp, Tryd.ntmps17]
    refine wpAnyS_one (i := 0) (by decide +kernel) ?_
    simp [wpOpS, go_sem, recoverD, hu]
    refine wpAnyS_one (i := 2) (by decide +kernel) ?_
    simp [wpOpS, go_sem]
    refine (settle_nil _ _).mono ?_
    rintro e w' ⟨rfl, rfl⟩
    refine wpAnyS_one (i := 3) (by decide +kernel) ?_
    simp [wpOpS, go_sem]
    refine wpAnyS_two (i := 4) (j := 5) (by decide +kernel) ?_ ?_
    · simp [wpOpS, go_sem]
      refine wpAnyS_two (i := 5) (j := 6) (by decide +kernel) ?_ ?_
      · simp [wpOpS, go_sem]
        refine wpAnyS_one (i := 6) (by decide +kernel) ?_
        simp [wpOpS, go_sem, hp, hpz]
        refine wpAnyS_one (i := 7) (by decide +kernel) ?_
        simp [wpOpS, go_sem, hq, hqz]
        refine wpAnyS_done (by decide +kernel) ?_ _
        exact ⟨rfl, .returning, by rw [← hu], .tuple #[], results_none (by rfl) _ _ _, rfl, rfl, w.drew, (Ext.refl w).drew, rfl⟩
      · simp [wpOpS, go_sem, hp, hpz]
        refine wpAnyS_one (i := 5) (by decide +kernel) ?_
        simp [wpOpS, go_sem]
        refine wpAnyS_one (i := 7) (by decide +kernel) ?_
        simp [wpOpS, go_sem, hq, hqz]
        refine wpAnyS_done (by decide +kernel) ?_ _
        exact ⟨rfl, .returning, by rw [← hu], .tuple #[], results_none (by rfl) _ _ _, rfl, rfl, w.drew, (Ext.refl w).drew, rfl⟩
    · simp [wpOpS, go_sem]
      refine wpAnyS_one (i := 4) (by decide +kernel) ?_
      simp [wpOpS, go_sem]
      refine wpAnyS_one (i := 6) (by decide +kernel) ?_
      simp [wpOpS, go_sem, hp, hpz]
      refine wpAnyS_one (i := 7) (by decide +kernel) ?_
      simp [wpOpS, go_sem, hq, hqz]
      refine wpAnyS_done (by decide +kernel) ?_ _
      exact ⟨rfl, .returning, by rw [← hu], .tuple #[], results_none (by rfl) _ _ _, rfl, rfl, w.drew, (Ext.refl w).drew, rfl⟩

theorem tm_catch (b : Nat) (c v z : Int) (older : List PanicEntry) (w : World) (hp : w.cell? ⟨b, 0, none⟩ = some (.int .i64 v)) (hq : w.cell? ⟨b + 1, 0, none⟩ = some (.int .i64 z)) (hpz : w.frozen? ⟨b, 0, none⟩ = false) (hqz : w.frozen? ⟨b + 1, 0, none⟩ = false) :
    CallsD Tryd.prog 17 #[.pointer (some ⟨b, 0, none⟩), .pointer (some ⟨b + 1, 0, none⟩)] (.panicking ({ v := .iface 23 (.int .i64 c), recovered := false } :: older)) w fun e u' w' => e = .returned (.tuple #[]) ∧ u' = .panicking ({ v := .iface 23 (.int .i64 c), recovered := true } :: older) ∧ ∃ w1, Ext w w1 ∧ w' = ((w1.setCell ⟨b, 0, none⟩ (.int .i64 0)).setCell ⟨b + 1, 0, none⟩ (.int .i64 c)) := by
  refine callsD_of_wpS Tryd.func17 rfl fun c₀ cs hu => ?_
  refine wpS_region_any 8 rfl (by kernel_rfl) ?_
  refine wpAnyS_two (i := 0) (j := 1) (by decide +kernel) ?_ ?_
  · simp [wpOpS, go_sem, recoverD, hu, Tryd.ntmps17]
    refine wpAnyS_one (i := 1) (by decide +kernel) ?_
    simp [wpOpS, go_sem, hp]
    refine wpAnyS_one (i := 2) (by decide +kernel) ?_
    simp [wpOpS, go_sem]
    refine (settle_thrown _ _ _).mono ?_
    rintro e w' ⟨rfl, rfl⟩
    refine wpAnyS_one (i := 3) (by decide +kernel) ?_
    simp [wpOpS, go_sem]
    refine wpAnyS_two (i := 4) (j := 5) (by decide +kernel) ?_ ?_
    · simp [wpOpS, go_sem]
      refine wpAnyS_two (i := 5) (j := 6) (by decide +kernel) ?_ ?_
      · simp [wpOpS, go_sem]
        refine wpAnyS_one (i := 6) (by decide +kernel) ?_
        simp [wpOpS, go_sem, hp, hpz]
        refine wpAnyS_one (i := 7) (by decide +kernel) ?_
        simp [wpOpS, go_sem, hq, hqz]
        refine wpAnyS_done (by decide +kernel) ?_ _
        exact ⟨rfl, _, rfl, .tuple #[], results_none (by rfl) _ _ _, rfl, rfl, w.drew, (Ext.refl w).drew, rfl⟩
      · simp [wpOpS, go_sem, hp, hpz]
        refine wpAnyS_one (i := 5) (by decide +kernel) ?_
        simp [wpOpS, go_sem]
        refine wpAnyS_one (i := 7) (by decide +kernel) ?_
        simp [wpOpS, go_sem, hq, hqz]
        refine wpAnyS_done (by decide +kernel) ?_ _
        exact ⟨rfl, _, rfl, .tuple #[], results_none (by rfl) _ _ _, rfl, rfl, w.drew, (Ext.refl w).drew, rfl⟩
    · simp [wpOpS, go_sem]
      refine wpAnyS_one (i := 4) (by decide +kernel) ?_
      simp [wpOpS, go_sem]
      refine wpAnyS_one (i := 6) (by decide +kernel) ?_
      simp [wpOpS, go_sem, hp, hpz]
      refine wpAnyS_one (i := 7) (by decide +kernel) ?_
      simp [wpOpS, go_sem, hq, hqz]
      refine wpAnyS_done (by decide +kernel) ?_ _
      exact ⟨rfl, _, rfl, .tuple #[], results_none (by rfl) _ _ _, rfl, rfl, w.drew, (Ext.refl w).drew, rfl⟩
  · simp [wpOpS, go_sem, hp, Tryd.ntmps17]
    refine wpAnyS_one (i := 0) (by decide +kernel) ?_
    simp [wpOpS, go_sem, recoverD, hu]
    refine wpAnyS_one (i := 2) (by decide +kernel) ?_
    simp [wpOpS, go_sem]
    refine (settle_thrown _ _ _).mono ?_
    rintro e w' ⟨rfl, rfl⟩
    refine wpAnyS_one (i := 3) (by decide +kernel) ?_
    simp [wpOpS, go_sem]
    refine wpAnyS_two (i := 4) (j := 5) (by decide +kernel) ?_ ?_
    · simp [wpOpS, go_sem]
      refine wpAnyS_two (i := 5) (j := 6) (by decide +kernel) ?_ ?_
      · simp [wpOpS, go_sem]
        refine wpAnyS_one (i := 6) (by decide +kernel) ?_
        simp [wpOpS, go_sem, hp, hpz]
        refine wpAnyS_one (i := 7) (by decide +kernel) ?_
        simp [wpOpS, go_sem, hq, hqz]
        refine wpAnyS_done (by decide +kernel) ?_ _
        exact ⟨rfl, _, rfl, .tuple #[], results_none (by rfl) _ _ _, rfl, rfl, w.drew, (Ext.refl w).drew, rfl⟩
      · simp [wpOpS, go_sem, hp, hpz]
        refine wpAnyS_one (i := 5) (by decide +kernel) ?_
        simp [wpOpS, go_sem]
        refine wpAnyS_one (i := 7) (by decide +kernel) ?_
        simp [wpOpS, go_sem, hq, hqz]
        refine wpAnyS_done (by decide +kernel) ?_ _
        exact ⟨rfl, _, rfl, .tuple #[], results_none (by rfl) _ _ _, rfl, rfl, w.drew, (Ext.refl w).drew, rfl⟩
    · simp [wpOpS, go_sem]
      refine wpAnyS_one (i := 4) (by decide +kernel) ?_
      simp [wpOpS, go_sem]
      refine wpAnyS_one (i := 6) (by decide +kernel) ?_
      simp [wpOpS, go_sem, hp, hpz]
      refine wpAnyS_one (i := 7) (by decide +kernel) ?_
      simp [wpOpS, go_sem, hq, hqz]
      refine wpAnyS_done (by decide +kernel) ?_ _
      exact ⟨rfl, _, rfl, .tuple #[], results_none (by rfl) _ _ _, rfl, rfl, w.drew, (Ext.refl w).drew, rfl⟩

theorem tr_idle (b : Nat) (v z : Int) (w : World) (hp : w.cell? ⟨b, 0, none⟩ = some (.int .i64 v)) (hq : w.cell? ⟨b + 1, 0, none⟩ = some (.int .i64 z)) (hpz : w.frozen? ⟨b, 0, none⟩ = false) (hqz : w.frozen? ⟨b + 1, 0, none⟩ = false) :
    CallsD Tryd.prog 27 #[.pointer (some ⟨b, 0, none⟩), .pointer (some ⟨b + 1, 0, none⟩)] .returning w fun e u' w' => e = .returned (.tuple #[]) ∧ u' = .returning ∧ ∃ w1, Ext w w1 ∧ w' = ((w1.setCell ⟨b, 0, none⟩ (.int .i64 v)).setCell ⟨b + 1, 0, none⟩ (.int .i64 0)) := by
  refine callsD_of_wpS Tryd.func27 rfl fun c₀ cs hu => ?_
  refine wpS_region_any 8 rfl (by kernel_rfl) ?_
  refine wpAnyS_two (i := 0) (j := 1) (by decide +kernel) ?_ ?_
  · simp [wpOpS, go_sem, recoverD, hu, Tryd.ntmps27]
    refine wpAnyS_one (i := 1) (by decide +kernel) ?_
    simp [wpOpS, go_sem, hp]
    refine wpAnyS_one (i := 2) (by decide +kernel) ?_
    simp [wpOpS, go_sem]
    refine (settle_nil _ _).mono ?_
    rintro e w' ⟨rfl, rfl⟩
    refine wpAnyS_one (i := 3) (by decide +kernel) ?_
    simp [wpOpS, go_sem]
    refine wpAnyS_two (i := 4) (j := 5) (by decide +kernel) ?_ ?_
    · simp [wpOpS, go_sem]
      refine wpAnyS_two (i := 5) (j := 6) (by decide +kernel) ?_ ?_
      · simp [wpOpS, go_sem]
        refine wpAnyS_one (i := 6) (by decide +kernel) ?_
        simp [wpOpS, go_sem, hp, hpz]
        refine wpAnyS_one (i := 7) (by decide +kernel) ?_
        simp [wpOpS, go_sem, hq, hqz]
        refine wpAnyS_done (by decide +kernel) ?_ _
        exact ⟨rfl, .returning, by rw [← hu], .tuple #[], results_none (by rfl) _ _ _, rfl, rfl, w.drew, (Ext.refl w).drew, rfl⟩
      · simp [wpOpS, go_sem, hp, hpz]
        refine wpAnyS_one (i := 5) (by decide +kernel) ?_
        simp [wpOpS, go_sem]
        refine wpAnyS_one (i := 7) (by decide +kernel) ?_
        simp [wpOpS, go_sem, hq, hqz]
        refine wpAnyS_done (by decide +kernel) ?_ _
        exact ⟨rfl, .returning, by rw [← hu], .tuple #[], results_none (by rfl) _ _ _, rfl, rfl, w.drew, (Ext.refl w).drew, rfl⟩
    · simp [wpOpS, go_sem]
      refine wpAnyS_one (i := 4) (by decide +kernel) ?_
      simp [wpOpS, go_sem]
      refine wpAnyS_one (i := 6) (by decide +kernel) ?_
      simp [wpOpS, go_sem, hp, hpz]
      refine wpAnyS_one (i := 7) (by decide +kernel) ?_
      simp [wpOpS, go_sem, hq, hqz]
      refine wpAnyS_done (by decide +kernel) ?_ _
      exact ⟨rfl, .returning, by rw [← hu], .tuple #[], results_none (by rfl) _ _ _, rfl, rfl, w.drew, (Ext.refl w).drew, rfl⟩
  · simp [wpOpS, go_sem, hp, Tryd.ntmps27]
    refine wpAnyS_one (i := 0) (by decide +kernel) ?_
    simp [wpOpS, go_sem, recoverD, hu]
    refine wpAnyS_one (i := 2) (by decide +kernel) ?_
    simp [wpOpS, go_sem]
    refine (settle_nil _ _).mono ?_
    rintro e w' ⟨rfl, rfl⟩
    refine wpAnyS_one (i := 3) (by decide +kernel) ?_
    simp [wpOpS, go_sem]
    refine wpAnyS_two (i := 4) (j := 5) (by decide +kernel) ?_ ?_
    · simp [wpOpS, go_sem]
      refine wpAnyS_two (i := 5) (j := 6) (by decide +kernel) ?_ ?_
      · simp [wpOpS, go_sem]
        refine wpAnyS_one (i := 6) (by decide +kernel) ?_
        simp [wpOpS, go_sem, hp, hpz]
        refine wpAnyS_one (i := 7) (by decide +kernel) ?_
        simp [wpOpS, go_sem, hq, hqz]
        refine wpAnyS_done (by decide +kernel) ?_ _
        exact ⟨rfl, .returning, by rw [← hu], .tuple #[], results_none (by rfl) _ _ _, rfl, rfl, w.drew, (Ext.refl w).drew, rfl⟩
      · simp [wpOpS, go_sem, hp, hpz]
        refine wpAnyS_one (i := 5) (by decide +kernel) ?_
        simp [wpOpS, go_sem]
        refine wpAnyS_one (i := 7) (by decide +kernel) ?_
        simp [wpOpS, go_sem, hq, hqz]
        refine wpAnyS_done (by decide +kernel) ?_ _
        exact ⟨rfl, .returning, by rw [← hu], .tuple #[], results_none (by rfl) _ _ _, rfl, rfl, w.drew, (Ext.refl w).drew, rfl⟩
    · simp [wpOpS, go_sem]
      refine wpAnyS_one (i := 4) (by decide +kernel) ?_
      simp [wpOpS, go_sem]
      refine wpAnyS_one (i := 6) (by decide +kernel) ?_
      simp [wpOpS, go_sem, hp, hpz]
      refine wpAnyS_one (i := 7) (by decide +kernel) ?_
      simp [wpOpS, go_sem, hq, hqz]
      refine wpAnyS_done (by decide +kernel) ?_ _
      exact ⟨rfl, .returning, by rw [← hu], .tuple #[], results_none (by rfl) _ _ _, rfl, rfl, w.drew, (Ext.refl w).drew, rfl⟩

theorem tr_catch (b : Nat) (c v z : Int) (older : List PanicEntry) (w : World) (hp : w.cell? ⟨b, 0, none⟩ = some (.int .i64 v)) (hq : w.cell? ⟨b + 1, 0, none⟩ = some (.int .i64 z)) (hpz : w.frozen? ⟨b, 0, none⟩ = false) (hqz : w.frozen? ⟨b + 1, 0, none⟩ = false) :
    CallsD Tryd.prog 27 #[.pointer (some ⟨b, 0, none⟩), .pointer (some ⟨b + 1, 0, none⟩)] (.panicking ({ v := .iface 23 (.int .i64 c), recovered := false } :: older)) w fun e u' w' => e = .returned (.tuple #[]) ∧ u' = .panicking ({ v := .iface 23 (.int .i64 c), recovered := true } :: older) ∧ ∃ w1, Ext w w1 ∧ w' = ((w1.setCell ⟨b, 0, none⟩ (.int .i64 0)).setCell ⟨b + 1, 0, none⟩ (.int .i64 c)) := by
  refine callsD_of_wpS Tryd.func27 rfl fun c₀ cs hu => ?_
  refine wpS_region_any 8 rfl (by kernel_rfl) ?_
  refine wpAnyS_two (i := 0) (j := 1) (by decide +kernel) ?_ ?_
  · simp [wpOpS, go_sem, recoverD, hu, Tryd.ntmps27]
    refine wpAnyS_one (i := 1) (by decide +kernel) ?_
    simp [wpOpS, go_sem, hp]
    refine wpAnyS_one (i := 2) (by decide +kernel) ?_
    simp [wpOpS, go_sem]
    refine (settle_thrown _ _ _).mono ?_
    rintro e w' ⟨rfl, rfl⟩
    refine wpAnyS_one (i := 3) (by decide +kernel) ?_
    simp [wpOpS, go_sem]
    refine wpAnyS_two (i := 4) (j := 5) (by decide +kernel) ?_ ?_
    · simp [wpOpS, go_sem]
      refine wpAnyS_two (i := 5) (j := 6) (by decide +kernel) ?_ ?_
      · simp [wpOpS, go_sem]
        refine wpAnyS_one (i := 6) (by decide +kernel) ?_
        simp [wpOpS, go_sem, hp, hpz]
        refine wpAnyS_one (i := 7) (by decide +kernel) ?_
        simp [wpOpS, go_sem, hq, hqz]
        refine wpAnyS_done (by decide +kernel) ?_ _
        exact ⟨rfl, _, rfl, .tuple #[], results_none (by rfl) _ _ _, rfl, rfl, w.drew, (Ext.refl w).drew, rfl⟩
      · simp [wpOpS, go_sem, hp, hpz]
        refine wpAnyS_one (i := 5) (by decide +kernel) ?_
        simp [wpOpS, go_sem]
        refine wpAnyS_one (i := 7) (by decide +kernel) ?_
        simp [wpOpS, go_sem, hq, hqz]
        refine wpAnyS_done (by decide +kernel) ?_ _
        exact ⟨rfl, _, rfl, .tuple #[], results_none (by rfl) _ _ _, rfl, rfl, w.drew, (Ext.refl w).drew, rfl⟩
    · simp [wpOpS, go_sem]
      refine wpAnyS_one (i := 4) (by decide +kernel) ?_
      simp [wpOpS, go_sem]
      refine wpAnyS_one (i := 6) (by decide +kernel) ?_
      simp [wpOpS, go_sem, hp, hpz]
      refine wpAnyS_one (i := 7) (by decide +kernel) ?_
      simp [wpOpS, go_sem, hq, hqz]
      refine wpAnyS_done (by decide +kernel) ?_ _
      exact ⟨rfl, _, rfl, .tuple #[], results_none (by rfl) _ _ _, rfl, rfl, w.drew, (Ext.refl w).drew, rfl⟩
  · simp [wpOpS, go_sem, hp, Tryd.ntmps27]
    refine wpAnyS_one (i := 0) (by decide +kernel) ?_
    simp [wpOpS, go_sem, recoverD, hu]
    refine wpAnyS_one (i := 2) (by decide +kernel) ?_
    simp [wpOpS, go_sem]
    refine (settle_thrown _ _ _).mono ?_
    rintro e w' ⟨rfl, rfl⟩
    refine wpAnyS_one (i := 3) (by decide +kernel) ?_
    simp [wpOpS, go_sem]
    refine wpAnyS_two (i := 4) (j := 5) (by decide +kernel) ?_ ?_
    · simp [wpOpS, go_sem]
      refine wpAnyS_two (i := 5) (j := 6) (by decide +kernel) ?_ ?_
      · simp [wpOpS, go_sem]
        refine wpAnyS_one (i := 6) (by decide +kernel) ?_
        simp [wpOpS, go_sem, hp, hpz]
        refine wpAnyS_one (i := 7) (by decide +kernel) ?_
        simp [wpOpS, go_sem, hq, hqz]
        refine wpAnyS_done (by decide +kernel) ?_ _
        exact ⟨rfl, _, rfl, .tuple #[], results_none (by rfl) _ _ _, rfl, rfl, w.drew, (Ext.refl w).drew, rfl⟩
      · simp [wpOpS, go_sem, hp, hpz]
        refine wpAnyS_one (i := 5) (by decide +kernel) ?_
        simp [wpOpS, go_sem]
        refine wpAnyS_one (i := 7) (by decide +kernel) ?_
        simp [wpOpS, go_sem, hq, hqz]
        refine wpAnyS_done (by decide +kernel) ?_ _
        exact ⟨rfl, _, rfl, .tuple #[], results_none (by rfl) _ _ _, rfl, rfl, w.drew, (Ext.refl w).drew, rfl⟩
    · simp [wpOpS, go_sem]
      refine wpAnyS_one (i := 4) (by decide +kernel) ?_
      simp [wpOpS, go_sem]
      refine wpAnyS_one (i := 6) (by decide +kernel) ?_
      simp [wpOpS, go_sem, hp, hpz]
      refine wpAnyS_one (i := 7) (by decide +kernel) ?_
      simp [wpOpS, go_sem, hq, hqz]
      refine wpAnyS_done (by decide +kernel) ?_ _
      exact ⟨rfl, _, rfl, .tuple #[], results_none (by rfl) _ _ _, rfl, rfl, w.drew, (Ext.refl w).drew, rfl⟩

end Go.Proofs.YtpmgbagnaaahoabDoor
