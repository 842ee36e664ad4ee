/- Contracts that the proof of this law leans on: no statement of the seat is proved here. -/
import Derived.Laws.Bits64b
import Derived.Laws.IdiomStrings
import Derived.Lib.ConvBytes
import Derived.Lib.CutLaws
import Derived.Lib.IndexMore
import Derived.Lib.ItoaLen
import Derived.Lib.ItoaMem
import Derived.Lib.Mul64
import Derived.Lib.Repeat
import Derived.Lib.SlTrimSet
import Derived.Test.YtbnpaeejlfaboaaGreatDoorRows
import Derived.Test.YtbnpaeejlfaboaaGreatDoorR0
import Derived.Test.YtbnpaeejlfaboaaGreatDoorR1

namespace Go.Proofs.YtbnpaeejlfaboaaGreatDoor.L2
open Go.RowKit
theorem need_ok (c : Int) (w : World) :
    Calls Tryz.prog 33 #[.bool true, .int .i64 c] w fun e w' => e = .returned (.tuple #[]) ∧ w' = w := by
  go_enter Tryz.func33, Tryz.ntmps33
  go_wp2
  go_end0
  exact ⟨rfl, rfl⟩
theorem need_no (c : Int) (w : World) :
    Calls Tryz.prog 33 #[.bool false, .int .i64 c] w fun e w' => e = .panicked [{ v := .iface 29 (.int .i64 c), recovered := false }] ∧ w' = w := by
  go_enter Tryz.func33, Tryz.ntmps33
  go_wp2
  exact ⟨rfl, rfl, rfl⟩
theorem fitting_ok (v : Int) (w : World) (h1 : -1000000000000000 ≤ v) (h2 : v ≤ 1000000000000000) :
    Calls Tryz.prog 224 #[.int .i64 v] w fun e w' => e = .returned (.int .i64 v) ∧ w' = w := by
  go_enter Tryz.func224, Tryz.ntmps224
  go_wp2
  go_end0
  go_wp2
  go_ret
  exact ⟨rfl, rfl⟩
theorem fitting_no (v : Int) (w : World) (h : ¬ (-1000000000000000 ≤ v ∧ v ≤ 1000000000000000)) :
    Calls Tryz.prog 224 #[.int .i64 v] w fun e w' => e = .panicked [{ v := .iface 29 (.int .i64 3), recovered := false }] ∧ w' = w := by
  by_cases h1 : -1000000000000000 ≤ v
  · have h2 : ¬ v ≤ 1000000000000000 := fun k => h ⟨h1, k⟩
    clear h
    go_enter Tryz.func224, Tryz.ntmps224
    go_wp2
    exact ⟨rfl, rfl, rfl, rfl⟩
  · clear h
    go_enter Tryz.func224, Tryz.ntmps224
    go_wp2
    exact ⟨rfl, rfl, rfl, rfl⟩
theorem assert_errno (W : World) (x : Value) : (Instr.typeAssert (.iface 29 x) 20 29 true).run Tryz.prog W = .ok (.tuple #[x, .bool true]) W := by kernel_rfl
theorem settleAt_nil (v : Int) (w : World) :
    Calls Tryz.prog 188 #[.nilIface, .int .i64 v] w fun e w' => e = .returned (.tuple #[.int .i64 v, .int .i64 0, .int .i64 0]) ∧ w' = w := by
  go_enter Tryz.func188, Tryz.ntmps188
  go_wp2
  exact bodyPost_ret (v := .tuple #[.int .i64 v, .int .i64 0, .int .i64 0]) (by simp [results, Tryz.results188, go_sem]) rfl ⟨rfl, rfl⟩
theorem settleAt_thrown (c v : Int) (w : World) :
    Calls Tryz.prog 188 #[.iface 29 (.int .i64 c), .int .i64 v] w fun e w' => e = .returned (.tuple #[.int .i64 0, .int .i64 0, .int .i64 c]) ∧ w' = w := by
  have hta := assert_errno
  go_enter Tryz.func188, Tryz.ntmps188
  go_wp2
  exact bodyPost_ret (v := .tuple #[.int .i64 0, .int .i64 0, .int .i64 c]) (by simp [results, Tryz.results188, go_sem]) rfl ⟨rfl, rfl⟩
theorem settle_nil (v : Int) (w : World) :
    Calls Tryz.prog 154 #[.nilIface, .int .i64 v] w fun e w' => e = .returned (.tuple #[.int .i64 v, .int .i64 0]) ∧ w' = w := by
  go_enter Tryz.func154, Tryz.ntmps154
  go_wp2_with fail
  refine (settleAt_nil _ _).mono ?_
  rintro e w1 ⟨rfl, rfl⟩
  go_wp2
  go_ret2
  exact ⟨rfl, rfl⟩
theorem settle_thrown (c v : Int) (w : World) :
    Calls Tryz.prog 154 #[.iface 29 (.int .i64 c), .int .i64 v] w fun e w' => e = .returned (.tuple #[.int .i64 0, .int .i64 c]) ∧ w' = w := by
  go_enter Tryz.func154, Tryz.ntmps154
  go_wp2_with fail
  refine (settleAt_thrown _ _ _).mono ?_
  rintro e w1 ⟨rfl, rfl⟩
  go_wp2
  go_ret2
  exact ⟨rfl, rfl⟩
theorem plus_idle (b : Nat) (v z : Int) (w : World) (hp : w.cell? ⟨b, 0, none⟩ = some (.int .i64 v)) (hq : w.cell? ⟨b + 1, 0, none⟩ = some (.int .i64 z)) (hpz : w.frozen? ⟨b, 0, none⟩ = false) (hqz : w.frozen? ⟨b + 1, 0, none⟩ = false) :
    CallsD Tryz.prog 226 #[.pointer (some ⟨b, 0, none⟩), .pointer (some ⟨b + 1, 0, none⟩)] .returning w fun e u' w' => e = .returned (.tuple #[]) ∧ u' = .returning ∧ ∃ w1, Ext w w1 ∧ w' = ((w1.setCell ⟨b, 0, none⟩ (.int .i64 v)).setCell ⟨b + 1, 0, none⟩ (.int .i64 0)) := by
  refine callsD_of_wpS Tryz.func226 rfl fun c₀ cs hu => ?_
  refine wpS_region_any 8 rfl (by kernel_rfl) ?_
  refine wpAnyS_two (i := 0) (j := 1) (by decide +kernel) ?_ ?_
  · simp [wpOpS, go_sem, recoverD, hu, Tryz.ntmps226]
    refine wpAnyS_one (i := 1) (by decide +kernel) ?_
    simp [wpOpS, go_sem, hp]
    refine wpAnyS_one (i := 2) (by decide +kernel) ?_
    simp [wpOpS, go_sem]
    refine (settle_nil _ _).mono ?_
    rintro e w' ⟨rfl, rfl⟩
    refine wpAnyS_one (i := 3) (by decide +kernel) ?_
    simp [wpOpS, go_sem]
    refine wpAnyS_two (i := 4) (j := 5) (by decide +kernel) ?_ ?_
    · simp [wpOpS, go_sem]
      refine wpAnyS_two (i := 5) (j := 6) (by decide +kernel) ?_ ?_
      · simp [wpOpS, go_sem]
        refine wpAnyS_one (i := 6) (by decide +kernel) ?_
        simp [wpOpS, go_sem, hp, hpz]
        refine wpAnyS_one (i := 7) (by decide +kernel) ?_
        simp [wpOpS, go_sem, hq, hqz]
        refine wpAnyS_done (by decide +kernel) ?_ _
        exact ⟨rfl, .returning, by rw [← hu], .tuple #[], results_none (by rfl) _ _ _, rfl, rfl, w.drew, (Ext.refl w).drew, rfl⟩
      · simp [wpOpS, go_sem, hp, hpz]
        refine wpAnyS_one (i := 5) (by decide +kernel) ?_
        simp [wpOpS, go_sem]
        refine wpAnyS_one (i := 7) (by decide +kernel) ?_
        simp [wpOpS, go_sem, hq, hqz]
        refine wpAnyS_done (by decide +kernel) ?_ _
        exact ⟨rfl, .returning, by rw [← hu], .tuple #[], results_none (by rfl) _ _ _, rfl, rfl, w.drew, (Ext.refl w).drew, rfl⟩
    · simp [wpOpS, go_sem]
      refine wpAnyS_one (i := 4) (by decide +kernel) ?_
      simp [wpOpS, go_sem]
      refine wpAnyS_one (i := 6) (by decide +kernel) ?_
      simp [wpOpS, go_sem, hp, hpz]
      refine wpAnyS_one (i := 7) (by decide +kernel) ?_
      simp [wpOpS, go_sem, hq, hqz]
      refine wpAnyS_done (by decide +kernel) ?_ _
      exact ⟨rfl, .returning, by rw [← hu], .tuple #[], results_none (by rfl) _ _ _, rfl, rfl, w.drew, (Ext.refl w).drew, rfl⟩
  · simp [wpOpS, go_sem, hp, Tryz.ntmps226]
    refine wpAnyS_one (i := 0) (by decide +kernel) ?_
    simp [wpOpS, go_sem, recoverD, hu]
    refine wpAnyS_one (i := 2) (by decide +kernel) ?_
    simp [wpOpS, go_sem]
    refine (settle_nil _ _).mono ?_
    rintro e w' ⟨rfl, rfl⟩
    refine wpAnyS_one (i := 3) (by decide +kernel) ?_
    simp [wpOpS, go_sem]
    refine wpAnyS_two (i := 4) (j := 5) (by decide +kernel) ?_ ?_
    · simp [wpOpS, go_sem]
      refine wpAnyS_two (i := 5) (j := 6) (by decide +kernel) ?_ ?_
      · simp [wpOpS, go_sem]
        refine wpAnyS_one (i := 6) (by decide +kernel) ?_
        simp [wpOpS, go_sem, hp, hpz]
        refine wpAnyS_one (i := 7) (by decide +kernel) ?_
        simp [wpOpS, go_sem, hq, hqz]
        refine wpAnyS_done (by decide +kernel) ?_ _
        exact ⟨rfl, .returning, by rw [← hu], .tuple #[], results_none (by rfl) _ _ _, rfl, rfl, w.drew, (Ext.refl w).drew, rfl⟩
      · simp [wpOpS, go_sem, hp, hpz]
        refine wpAnyS_one (i := 5) (by decide +kernel) ?_
        simp [wpOpS, go_sem]
        refine wpAnyS_one (i := 7) (by decide +kernel) ?_
        simp [wpOpS, go_sem, hq, hqz]
        refine wpAnyS_done (by decide +kernel) ?_ _
        exact ⟨rfl, .returning, by rw [← hu], .tuple #[], results_none (by rfl) _ _ _, rfl, rfl, w.drew, (Ext.refl w).drew, rfl⟩
    · simp [wpOpS, go_sem]
      refine wpAnyS_one (i := 4) (by decide +kernel) ?_
      simp [wpOpS, go_sem]
      refine wpAnyS_one (i := 6) (by decide +kernel) ?_
      simp [wpOpS, go_sem, hp, hpz]
      refine wpAnyS_one (i := 7) (by decide +kernel) ?_
      simp [wpOpS, go_sem, hq, hqz]
      refine wpAnyS_done (by decide +kernel) ?_ _
      exact ⟨rfl, .returning, by rw [← hu], .tuple #[], results_none (by rfl) _ _ _, rfl, rfl, w.drew, (Ext.refl w).drew, rfl⟩
theorem plus_catch (b : Nat) (c v z : Int) (older : List PanicEntry) (w : World) (hp : w.cell? ⟨b, 0, none⟩ = some (.int .i64 v)) (hq : w.cell? ⟨b + 1, 0, none⟩ = some (.int .i64 z)) (hpz : w.frozen? ⟨b, 0, none⟩ = false) (hqz : w.frozen? ⟨b + 1, 0, none⟩ = false) :
    CallsD Tryz.prog 226 #[.pointer (some ⟨b, 0, none⟩), .pointer (some ⟨b + 1, 0, none⟩)] (.panicking ({ v := .iface 29 (.int .i64 c), recovered := false } :: older)) w fun e u' w' => e = .returned (.tuple #[]) ∧ u' = .panicking ({ v := .iface 29 (.int .i64 c), recovered := true } :: older) ∧ ∃ w1, Ext w w1 ∧ w' = ((w1.setCell ⟨b, 0, none⟩ (.int .i64 0)).setCell ⟨b + 1, 0, none⟩ (.int .i64 c)) := by
  refine callsD_of_wpS Tryz.func226 rfl fun c₀ cs hu => ?_
  refine wpS_region_any 8 rfl (by kernel_rfl) ?_
  refine wpAnyS_two (i := 0) (j := 1) (by decide +kernel) ?_ ?_
  · simp [wpOpS, go_sem, recoverD, hu, Tryz.ntmps226]
    refine wpAnyS_one (i := 1) (by decide +kernel) ?_
    simp [wpOpS, go_sem, hp]
    refine wpAnyS_one (i := 2) (by decide +kernel) ?_
    simp [wpOpS, go_sem]
    refine (settle_thrown _ _ _).mono ?_
    rintro e w' ⟨rfl, rfl⟩
    refine wpAnyS_one (i := 3) (by decide +kernel) ?_
    simp [wpOpS, go_sem]
    refine wpAnyS_two (i := 4) (j := 5) (by decide +kernel) ?_ ?_
    · simp [wpOpS, go_sem]
      refine wpAnyS_two (i := 5) (j := 6) (by decide +kernel) ?_ ?_
      · simp [wpOpS, go_sem]
        refine wpAnyS_one (i := 6) (by decide +kernel) ?_
        simp [wpOpS, go_sem, hp, hpz]
        refine wpAnyS_one (i := 7) (by decide +kernel) ?_
        simp [wpOpS, go_sem, hq, hqz]
        refine wpAnyS_done (by decide +kernel) ?_ _
        exact ⟨rfl, _, rfl, .tuple #[], results_none (by rfl) _ _ _, rfl, rfl, w.drew, (Ext.refl w).drew, rfl⟩
      · simp [wpOpS, go_sem, hp, hpz]
        refine wpAnyS_one (i := 5) (by decide +kernel) ?_
        simp [wpOpS, go_sem]
        refine wpAnyS_one (i := 7) (by decide +kernel) ?_
        simp [wpOpS, go_sem, hq, hqz]
        refine wpAnyS_done (by decide +kernel) ?_ _
        exact ⟨rfl, _, rfl, .tuple #[], results_none (by rfl) _ _ _, rfl, rfl, w.drew, (Ext.refl w).drew, rfl⟩
    · simp [wpOpS, go_sem]
      refine wpAnyS_one (i := 4) (by decide +kernel) ?_
      simp [wpOpS, go_sem]
      refine wpAnyS_one (i := 6) (by decide +kernel) ?_
      simp [wpOpS, go_sem, hp, hpz]
      refine wpAnyS_one (i := 7) (by decide +kernel) ?_
      simp [wpOpS, go_sem, hq, hqz]
      refine wpAnyS_done (by decide +kernel) ?_ _
      exact ⟨rfl, _, rfl, .tuple #[], results_none (by rfl) _ _ _, rfl, rfl, w.drew, (Ext.refl w).drew, rfl⟩
  · simp [wpOpS, go_sem, hp, Tryz.ntmps226]
    refine wpAnyS_one (i := 0) (by decide +kernel) ?_
    simp [wpOpS, go_sem, recoverD, hu]
    refine wpAnyS_one (i := 2) (by decide +kernel) ?_
    simp [wpOpS, go_sem]
    refine (settle_thrown _ _ _).mono ?_
    rintro e w' ⟨rfl, rfl⟩
    refine wpAnyS_one (i := 3) (by decide +kernel) ?_
    simp [wpOpS, go_sem]
    refine wpAnyS_two (i := 4) (j := 5) (by decide +kernel) ?_ ?_
    · simp [wpOpS, go_sem]
      refine wpAnyS_two (i := 5) (j := 6) (by decide +kernel) ?_ ?_
      · simp [wpOpS, go_sem]
        refine wpAnyS_one (i := 6) (by decide +kernel) ?_
        simp [wpOpS, go_sem, hp, hpz]
        refine wpAnyS_one (i := 7) (by decide +kernel) ?_
        simp [wpOpS, go_sem, hq, hqz]
        refine wpAnyS_done (by decide +kernel) ?_ _
        exact ⟨rfl, _, rfl, .tuple #[], results_none (by rfl) _ _ _, rfl, rfl, w.drew, (Ext.refl w).drew, rfl⟩
      · simp [wpOpS, go_sem, hp, hpz]
        refine wpAnyS_one (i := 5) (by decide +kernel) ?_
        simp [wpOpS, go_sem]
        refine wpAnyS_one (i := 7) (by decide +kernel) ?_
        simp [wpOpS, go_sem, hq, hqz]
        refine wpAnyS_done (by decide +kernel) ?_ _
        exact ⟨rfl, _, rfl, .tuple #[], results_none (by rfl) _ _ _, rfl, rfl, w.drew, (Ext.refl w).drew, rfl⟩
    · simp [wpOpS, go_sem]
      refine wpAnyS_one (i := 4) (by decide +kernel) ?_
      simp [wpOpS, go_sem]
      refine wpAnyS_one (i := 6) (by decide +kernel) ?_
      simp [wpOpS, go_sem, hp, hpz]
      refine wpAnyS_one (i := 7) (by decide +kernel) ?_
      simp [wpOpS, go_sem, hq, hqz]
      refine wpAnyS_done (by decide +kernel) ?_ _
      exact ⟨rfl, _, rfl, .tuple #[], results_none (by rfl) _ _ _, rfl, rfl, w.drew, (Ext.refl w).drew, rfl⟩
theorem times_idle (b : Nat) (v z : Int) (w : World) (hp : w.cell? ⟨b, 0, none⟩ = some (.int .i64 v)) (hq : w.cell? ⟨b + 1, 0, none⟩ = some (.int .i64 z)) (hpz : w.frozen? ⟨b, 0, none⟩ = false) (hqz : w.frozen? ⟨b + 1, 0, none⟩ = false) :
    CallsD Tryz.prog 222 #[.pointer (some ⟨b, 0, none⟩), .pointer (some ⟨b + 1, 0, none⟩)] .returning w fun e u' w' => e = .returned (.tuple #[]) ∧ u' = .returning ∧ ∃ w1, Ext w w1 ∧ w' = ((w1.setCell ⟨b, 0, none⟩ (.int .i64 v)).setCell ⟨b + 1, 0, none⟩ (.int .i64 0)) := by
  refine callsD_of_wpS Tryz.func222 rfl fun c₀ cs hu => ?_
  refine wpS_region_any 8 rfl (by kernel_rfl) ?_
  refine wpAnyS_two (i := 0) (j := 1) (by decide +kernel) ?_ ?_
  · simp [wpOpS, go_sem, recoverD, hu, Tryz.ntmps222]
    refine wpAnyS_one (i := 1) (by decide +kernel) ?_
    simp [wpOpS, go_sem, hp]
    refine wpAnyS_one (i := 2) (by decide +kernel) ?_
    simp [wpOpS, go_sem]
    refine (settle_nil _ _).mono ?_
    rintro e w' ⟨rfl, rfl⟩
    refine wpAnyS_one (i := 3) (by decide +kernel) ?_
    simp [wpOpS, go_sem]
    refine wpAnyS_two (i := 4) (j := 5) (by decide +kernel) ?_ ?_
    · simp [wpOpS, go_sem]
      refine wpAnyS_two (i := 5) (j := 6) (by decide +kernel) ?_ ?_
      · simp [wpOpS, go_sem]
        refine wpAnyS_one (i := 6) (by decide +kernel) ?_
        simp [wpOpS, go_sem, hp, hpz]
        refine wpAnyS_one (i := 7) (by decide +kernel) ?_
        simp [wpOpS, go_sem, hq, hqz]
        refine wpAnyS_done (by decide +kernel) ?_ _
        exact ⟨rfl, .returning, by rw [← hu], .tuple #[], results_none (by rfl) _ _ _, rfl, rfl, w.drew, (Ext.refl w).drew, rfl⟩
      · simp [wpOpS, go_sem, hp, hpz]
        refine wpAnyS_one (i := 5) (by decide +kernel) ?_
        simp [wpOpS, go_sem]
        refine wpAnyS_one (i := 7) (by decide +kernel) ?_
        simp [wpOpS, go_sem, hq, hqz]
        refine wpAnyS_done (by decide +kernel) ?_ _
        exact ⟨rfl, .returning, by rw [← hu], .tuple #[], results_none (by rfl) _ _ _, rfl, rfl, w.drew, (Ext.refl w).drew, rfl⟩
    · simp [wpOpS, go_sem]
      refine wpAnyS_one (i := 4) (by decide +kernel) ?_
      simp [wpOpS, go_sem]
      refine wpAnyS_one (i := 6) (by decide +kernel) ?_
      simp [wpOpS, go_sem, hp, hpz]
      refine wpAnyS_one (i := 7) (by decide +kernel) ?_
      simp [wpOpS, go_sem, hq, hqz]
      refine wpAnyS_done (by decide +kernel) ?_ _
      exact ⟨rfl, .returning, by rw [← hu], .tuple #[], results_none (by rfl) _ _ _, rfl, rfl, w.drew, (Ext.refl w).drew, rfl⟩
  · simp [wpOpS, go_sem, hp, Tryz.ntmps222]
    refine wpAnyS_one (i := 0) (by decide +kernel) ?_
    simp [wpOpS, go_sem, recoverD, hu]
    refine wpAnyS_one (i := 2) (by decide +kernel) ?_
    simp [wpOpS, go_sem]
    refine (settle_nil _ _).mono ?_
    rintro e w' ⟨rfl, rfl⟩
    refine wpAnyS_one (i := 3) (by decide +kernel) ?_
    simp [wpOpS, go_sem]
    refine wpAnyS_two (i := 4) (j := 5) (by decide +kernel) ?_ ?_
    · simp [wpOpS, go_sem]
      refine wpAnyS_two (i := 5) (j := 6) (by decide +kernel) ?_ ?_
      · simp [wpOpS, go_sem]
        refine wpAnyS_one (i := 6) (by decide +kernel) ?_
        simp [wpOpS, go_sem, hp, hpz]
        refine wpAnyS_one (i := 7) (by decide +kernel) ?_
        simp [wpOpS, go_sem, hq, hqz]
        refine wpAnyS_done (by decide +kernel) ?_ _
        exact ⟨rfl, .returning, by rw [← hu], .tuple #[], results_none (by rfl) _ _ _, rfl, rfl, w.drew, (Ext.refl w).drew, rfl⟩
      · simp [wpOpS, go_sem, hp, hpz]
        refine wpAnyS_one (i := 5) (by decide +kernel) ?_
        simp [wpOpS, go_sem]
        refine wpAnyS_one (i := 7) (by decide +kernel) ?_
        simp [wpOpS, go_sem, hq, hqz]
        refine wpAnyS_done (by decide +kernel) ?_ _
        exact ⟨rfl, .returning, by rw [← hu], .tuple #[], results_none (by rfl) _ _ _, rfl, rfl, w.drew, (Ext.refl w).drew, rfl⟩
    · simp [wpOpS, go_sem]
      refine wpAnyS_one (i := 4) (by decide +kernel) ?_
      simp [wpOpS, go_sem]
      refine wpAnyS_one (i := 6) (by decide +kernel) ?_
      simp [wpOpS, go_sem, hp, hpz]
      refine wpAnyS_one (i := 7) (by decide +kernel) ?_
      simp [wpOpS, go_sem, hq, hqz]
      refine wpAnyS_done (by decide +kernel) ?_ _
      exact ⟨rfl, .returning, by rw [← hu], .tuple #[], results_none (by rfl) _ _ _, rfl, rfl, w.drew, (Ext.refl w).drew, rfl⟩
theorem times_catch (b : Nat) (c v z : Int) (older : List PanicEntry) (w : World) (hp : w.cell? ⟨b, 0, none⟩ = some (.int .i64 v)) (hq : w.cell? ⟨b + 1, 0, none⟩ = some (.int .i64 z)) (hpz : w.frozen? ⟨b, 0, none⟩ = false) (hqz : w.frozen? ⟨b + 1, 0, none⟩ = false) :
    CallsD Tryz.prog 222 #[.pointer (some ⟨b, 0, none⟩), .pointer (some ⟨b + 1, 0, none⟩)] (.panicking ({ v := .iface 29 (.int .i64 c), recovered := false } :: older)) w fun e u' w' => e = .returned (.tuple #[]) ∧ u' = .panicking ({ v := .iface 29 (.int .i64 c), recovered := true } :: older) ∧ ∃ w1, Ext w w1 ∧ w' = ((w1.setCell ⟨b, 0, none⟩ (.int .i64 0)).setCell ⟨b + 1, 0, none⟩ (.int .i64 c)) := by
  refine callsD_of_wpS Tryz.func222 rfl fun c₀ cs hu => ?_
  refine wpS_region_any 8 rfl (by kernel_rfl) ?_
  refine wpAnyS_two (i := 0) (j := 1) (by decide +kernel) ?_ ?_
  · simp [wpOpS, go_sem, recoverD, hu, Tryz.ntmps222]
    refine wpAnyS_one (i := 1) (by decide +kernel) ?_
    simp [wpOpS, go_sem, hp]
    refine wpAnyS_one (i := 2) (by decide +kernel) ?_
    simp [wpOpS, go_sem]
    refine (settle_thrown _ _ _).mono ?_
    rintro e w' ⟨rfl, rfl⟩
    refine wpAnyS_one (i := 3) (by decide +kernel) ?_
    simp [wpOpS, go_sem]
    refine wpAnyS_two (i := 4) (j := 5) (by decide +kernel) ?_ ?_
    · simp [wpOpS, go_sem]
      refine wpAnyS_two (i := 5) (j := 6) (by decide +kernel) ?_ ?_
      · simp [wpOpS, go_sem]
        refine wpAnyS_one (i := 6) (by decide +kernel) ?_
        simp [wpOpS, go_sem, hp, hpz]
        refine wpAnyS_one (i := 7) (by decide +kernel) ?_
        simp [wpOpS, go_sem, hq, hqz]
        refine wpAnyS_done (by decide +kernel) ?_ _
        exact ⟨rfl, _, rfl, .tuple #[], results_none (by rfl) _ _ _, rfl, rfl, w.drew, (Ext.refl w).drew, rfl⟩
      · simp [wpOpS, go_sem, hp, hpz]
        refine wpAnyS_one (i := 5) (by decide +kernel) ?_
        simp [wpOpS, go_sem]
        refine wpAnyS_one (i := 7) (by decide +kernel) ?_
        simp [wpOpS, go_sem, hq, hqz]
        refine wpAnyS_done (by decide +kernel) ?_ _
        exact ⟨rfl, _, rfl, .tuple #[], results_none (by rfl) _ _ _, rfl, rfl, w.drew, (Ext.refl w).drew, rfl⟩
    · simp [wpOpS, go_sem]
      refine wpAnyS_one (i := 4) (by decide +kernel) ?_
      simp [wpOpS, go_sem]
      refine wpAnyS_one (i := 6) (by decide +kernel) ?_
      simp [wpOpS, go_sem, hp, hpz]
      refine wpAnyS_one (i := 7) (by decide +kernel) ?_
      simp [wpOpS, go_sem, hq, hqz]
      refine wpAnyS_done (by decide +kernel) ?_ _
      exact ⟨rfl, _, rfl, .tuple #[], results_none (by rfl) _ _ _, rfl, rfl, w.drew, (Ext.refl w).drew, rfl⟩
  · simp [wpOpS, go_sem, hp, Tryz.ntmps222]
    refine wpAnyS_one (i := 0) (by decide +kernel) ?_
    simp [wpOpS, go_sem, recoverD, hu]
    refine wpAnyS_one (i := 2) (by decide +kernel) ?_
    simp [wpOpS, go_sem]
    refine (settle_thrown _ _ _).mono ?_
    rintro e w' ⟨rfl, rfl⟩
    refine wpAnyS_one (i := 3) (by decide +kernel) ?_
    simp [wpOpS, go_sem]
    refine wpAnyS_two (i := 4) (j := 5) (by decide +kernel) ?_ ?_
    · simp [wpOpS, go_sem]
      refine wpAnyS_two (i := 5) (j := 6) (by decide +kernel) ?_ ?_
      · simp [wpOpS, go_sem]
        refine wpAnyS_one (i := 6) (by decide +kernel) ?_
        simp [wpOpS, go_sem, hp, hpz]
        refine wpAnyS_one (i := 7) (by decide +kernel) ?_
        simp [wpOpS, go_sem, hq, hqz]
        refine wpAnyS_done (by decide +kernel) ?_ _
        exact ⟨rfl, _, rfl, .tuple #[], results_none (by rfl) _ _ _, rfl, rfl, w.drew, (Ext.refl w).drew, rfl⟩
      · simp [wpOpS, go_sem, hp, hpz]
        refine wpAnyS_one (i := 5) (by decide +kernel) ?_
        simp [wpOpS, go_sem]
        refine wpAnyS_one (i := 7) (by decide +kernel) ?_
        simp [wpOpS, go_sem, hq, hqz]
        refine wpAnyS_done (by decide +kernel) ?_ _
        exact ⟨rfl, _, rfl, .tuple #[], results_none (by rfl) _ _ _, rfl, rfl, w.drew, (Ext.refl w).drew, rfl⟩
    · simp [wpOpS, go_sem]
      refine wpAnyS_one (i := 4) (by decide +kernel) ?_
      simp [wpOpS, go_sem]
      refine wpAnyS_one (i := 6) (by decide +kernel) ?_
      simp [wpOpS, go_sem, hp, hpz]
      refine wpAnyS_one (i := 7) (by decide +kernel) ?_
      simp [wpOpS, go_sem, hq, hqz]
      refine wpAnyS_done (by decide +kernel) ?_ _
      exact ⟨rfl, _, rfl, .tuple #[], results_none (by rfl) _ _ _, rfl, rfl, w.drew, (Ext.refl w).drew, rfl⟩
theorem tm_idle (b : Nat) (v z : Int) (w : World) (hp : w.cell? ⟨b, 0, none⟩ = some (.int .i64 v)) (hq : w.cell? ⟨b + 1, 0, none⟩ = some (.int .i64 z)) (hpz : w.frozen? ⟨b, 0, none⟩ = false) (hqz : w.frozen? ⟨b + 1, 0, none⟩ = false) :
    CallsD Tryz.prog 164 #[.pointer (some ⟨b, 0, none⟩), .pointer (some ⟨b + 1, 0, none⟩)] .returning w fun e u' w' => e = .returned (.tuple #[]) ∧ u' = .returning ∧ ∃ w1, Ext w w1 ∧ w' = ((w1.setCell ⟨b, 0, none⟩ (.int .i64 v)).setCell ⟨b + 1, 0, none⟩ (.int .i64 0)) := by
  refine callsD_of_wpS Tryz.func164 rfl fun c₀ cs hu => ?_
  refine wpS_region_any 8 rfl (by kernel_rfl) ?_
  refine wpAnyS_two (i := 0) (j := 1) (by decide +kernel) ?_ ?_
  · simp [wpOpS, go_sem, recoverD, hu, Tryz.ntmps164]
    refine wpAnyS_one (i := 1) (by decide +kernel) ?_
    simp [wpOpS, go_sem, hp]
    refine wpAnyS_one (i := 2) (by decide +kernel) ?_
    simp [wpOpS, go_sem]
    refine (settle_nil _ _).mono ?_
    rintro e w' ⟨rfl, rfl⟩
    refine wpAnyS_one (i := 3) (by decide +kernel) ?_
    simp [wpOpS, go_sem]
    refine wpAnyS_two (i := 4) (j := 5) (by decide +kernel) ?_ ?_
    · simp [wpOpS, go_sem]
      refine wpAnyS_two (i := 5) (j := 6) (by decide +kernel) ?_ ?_
      · simp [wpOpS, go_sem]
        refine wpAnyS_one (i := 6) (by decide +kernel) ?_
        simp [wpOpS, go_sem, hp, hpz]
        refine wpAnyS_one (i := 7) (by decide +kernel) ?_
        simp [wpOpS, go_sem, hq, hqz]
        refine wpAnyS_done (by decide +kernel) ?_ _
        exact ⟨rfl, .returning, by rw [← hu], .tuple #[], results_none (by rfl) _ _ _, rfl, rfl, w.drew, (Ext.refl w).drew, rfl⟩
      · simp [wpOpS, go_sem, hp, hpz]
        refine wpAnyS_one (i := 5) (by decide +kernel) ?_
        simp [wpOpS, go_sem]
        refine wpAnyS_one (i := 7) (by decide +kernel) ?_
        simp [wpOpS, go_sem, hq, hqz]
        refine wpAnyS_done (by decide +kernel) ?_ _
        exact ⟨rfl, .returning, by rw [← hu], .tuple #[], results_none (by rfl) _ _ _, rfl, rfl, w.drew, (Ext.refl w).drew, rfl⟩
    · simp [wpOpS, go_sem]
      refine wpAnyS_one (i := 4) (by decide +kernel) ?_
      simp [wpOpS, go_sem]
      refine wpAnyS_one (i := 6) (by decide +kernel) ?_
      simp [wpOpS, go_sem, hp, hpz]
      refine wpAnyS_one (i := 7) (by decide +kernel) ?_
      simp [wpOpS, go_sem, hq, hqz]
      refine wpAnyS_done (by decide +kernel) ?_ _
      exact ⟨rfl, .returning, by rw [← hu], .tuple #[], results_none (by rfl) _ _ _, rfl, rfl, w.drew, (Ext.refl w).drew, rfl⟩
  · simp [wpOpS, go_sem, hp, Tryz.ntmps164]
    refine wpAnyS_one (i := 0) (by decide +kernel) ?_
    simp [wpOpS, go_sem, recoverD, hu]
    refine wpAnyS_one (i := 2) (by decide +kernel) ?_
    simp [wpOpS, go_sem]
    refine (settle_nil _ _).mono ?_
    rintro e w' ⟨rfl, rfl⟩
    refine wpAnyS_one (i := 3) (by decide +kernel) ?_
    simp [wpOpS, go_sem]
    refine wpAnyS_two (i := 4) (j := 5) (by decide +kernel) ?_ ?_
    · simp [wpOpS, go_sem]
      refine wpAnyS_two (i := 5) (j := 6) (by decide +kernel) ?_ ?_
      · simp [wpOpS, go_sem]
        refine wpAnyS_one (i := 6) (by decide +kernel) ?_
        simp [wpOpS, go_sem, hp, hpz]
        refine wpAnyS_one (i := 7) (by decide +kernel) ?_
        simp [wpOpS, go_sem, hq, hqz]
        refine wpAnyS_done (by decide +kernel) ?_ _
        exact ⟨rfl, .returning, by rw [← hu], .tuple #[], results_none (by rfl) _ _ _, rfl, rfl, w.drew, (Ext.refl w).drew, rfl⟩
      · simp [wpOpS, go_sem, hp, hpz]
        refine wpAnyS_one (i := 5) (by decide +kernel) ?_
        simp [wpOpS, go_sem]
        refine wpAnyS_one (i := 7) (by decide +kernel) ?_
        simp [wpOpS, go_sem, hq, hqz]
        refine wpAnyS_done (by decide +kernel) ?_ _
        exact ⟨rfl, .returning, by rw [← hu], .tuple #[], results_none (by rfl) _ _ _, rfl, rfl, w.drew, (Ext.refl w).drew, rfl⟩
    · simp [wpOpS, go_sem]
      refine wpAnyS_one (i := 4) (by decide +kernel) ?_
      simp [wpOpS, go_sem]
      refine wpAnyS_one (i := 6) (by decide +kernel) ?_
      simp [wpOpS, go_sem, hp, hpz]
      refine wpAnyS_one (i := 7) (by decide +kernel) ?_
      simp [wpOpS, go_sem, hq, hqz]
      refine wpAnyS_done (by decide +kernel) ?_ _
      exact ⟨rfl, .returning, by rw [← hu], .tuple #[], results_none (by rfl) _ _ _, rfl, rfl, w.drew, (Ext.refl w).drew, rfl⟩
theorem tm_catch (b : Nat) (c v z : Int) (older : List PanicEntry) (w : World) (hp : w.cell? ⟨b, 0, none⟩ = some (.int .i64 v)) (hq : w.cell? ⟨b + 1, 0, none⟩ = some (.int .i64 z)) (hpz : w.frozen? ⟨b, 0, none⟩ = false) (hqz : w.frozen? ⟨b + 1, 0, none⟩ = false) :
    CallsD Tryz.prog 164 #[.pointer (some ⟨b, 0, none⟩), .pointer (some ⟨b + 1, 0, none⟩)] (.panicking ({ v := .iface 29 (.int .i64 c), recovered := false } :: older)) w fun e u' w' => e = .returned (.tuple #[]) ∧ u' = .panicking ({ v := .iface 29 (.int .i64 c), recovered := true } :: older) ∧ ∃ w1, Ext w w1 ∧ w' = ((w1.setCell ⟨b, 0, none⟩ (.int .i64 0)).setCell ⟨b + 1, 0, none⟩ (.int .i64 c)) := by
  refine callsD_of_wpS Tryz.func164 rfl fun c₀ cs hu => ?_
  refine wpS_region_any 8 rfl (by kernel_rfl) ?_
  refine wpAnyS_two (i := 0) (j := 1) (by decide +kernel) ?_ ?_
  · simp [wpOpS, go_sem, recoverD, hu, Tryz.ntmps164]
    refine wpAnyS_one (i := 1) (by decide +kernel) ?_
    simp [wpOpS, go_sem, hp]
    refine wpAnyS_one (i := 2) (by decide +kernel) ?_
    simp [wpOpS, go_sem]
    refine (settle_thrown _ _ _).mono ?_
    rintro e w' ⟨rfl, rfl⟩
    refine wpAnyS_one (i := 3) (by decide +kernel) ?_
    simp [wpOpS, go_sem]
    refine wpAnyS_two (i := 4) (j := 5) (by decide +kernel) ?_ ?_
    · simp [wpOpS, go_sem]
      refine wpAnyS_two (i := 5) (j := 6) (by decide +kernel) ?_ ?_
      · simp [wpOpS, go_sem]
        refine wpAnyS_one (i := 6) (by decide +kernel) ?_
        simp [wpOpS, go_sem, hp, hpz]
        refine wpAnyS_one (i := 7) (by decide +kernel) ?_
        simp [wpOpS, go_sem, hq, hqz]
        refine wpAnyS_done (by decide +kernel) ?_ _
        exact ⟨rfl, _, rfl, .tuple #[], results_none (by rfl) _ _ _, rfl, rfl, w.drew, (Ext.refl w).drew, rfl⟩
      · simp [wpOpS, go_sem, hp, hpz]
        refine wpAnyS_one (i := 5) (by decide +kernel) ?_
        simp [wpOpS, go_sem]
        refine wpAnyS_one (i := 7) (by decide +kernel) ?_
        simp [wpOpS, go_sem, hq, hqz]
        refine wpAnyS_done (by decide +kernel) ?_ _
        exact ⟨rfl, _, rfl, .tuple #[], results_none (by rfl) _ _ _, rfl, rfl, w.drew, (Ext.refl w).drew, rfl⟩
    · simp [wpOpS, go_sem]
      refine wpAnyS_one (i := 4) (by decide +kernel) ?_
      simp [wpOpS, go_sem]
      refine wpAnyS_one (i := 6) (by decide +kernel) ?_
      simp [wpOpS, go_sem, hp, hpz]
      refine wpAnyS_one (i := 7) (by decide +kernel) ?_
      simp [wpOpS, go_sem, hq, hqz]
      refine wpAnyS_done (by decide +kernel) ?_ _
      exact ⟨rfl, _, rfl, .tuple #[], results_none (by rfl) _ _ _, rfl, rfl, w.drew, (Ext.refl w).drew, rfl⟩
  · simp [wpOpS, go_sem, hp, Tryz.ntmps164]
    refine wpAnyS_one (i := 0) (by decide +kernel) ?_
    simp [wpOpS, go_sem, recoverD, hu]
    refine wpAnyS_one (i := 2) (by decide +kernel) ?_
    simp [wpOpS, go_sem]
    refine (settle_thrown _ _ _).mono ?_
    rintro e w' ⟨rfl, rfl⟩
    refine wpAnyS_one (i := 3) (by decide +kernel) ?_
    simp [wpOpS, go_sem]
    refine wpAnyS_two (i := 4) (j := 5) (by decide +kernel) ?_ ?_
    · simp [wpOpS, go_sem]
      refine wpAnyS_two (i := 5) (j := 6) (by decide +kernel) ?_ ?_
      · simp [wpOpS, go_sem]
        refine wpAnyS_one (i := 6) (by decide +kernel) ?_
        simp [wpOpS, go_sem, hp, hpz]
        refine wpAnyS_one (i := 7) (by decide +kernel) ?_
        simp [wpOpS, go_sem, hq, hqz]
        refine wpAnyS_done (by decide +kernel) ?_ _
        exact ⟨rfl, _, rfl, .tuple #[], results_none (by rfl) _ _ _, rfl, rfl, w.drew, (Ext.refl w).drew, rfl⟩
      · simp [wpOpS, go_sem, hp, hpz]
        refine wpAnyS_one (i := 5) (by decide +kernel) ?_
        simp [wpOpS, go_sem]
        refine wpAnyS_one (i := 7) (by decide +kernel) ?_
        simp [wpOpS, go_sem, hq, hqz]
        refine wpAnyS_done (by decide +kernel) ?_ _
        exact ⟨rfl, _, rfl, .tuple #[], results_none (by rfl) _ _ _, rfl, rfl, w.drew, (Ext.refl w).drew, rfl⟩
    · simp [wpOpS, go_sem]
      refine wpAnyS_one (i := 4) (by decide +kernel) ?_
      simp [wpOpS, go_sem]
      refine wpAnyS_one (i := 6) (by decide +kernel) ?_
      simp [wpOpS, go_sem, hp, hpz]
      refine wpAnyS_one (i := 7) (by decide +kernel) ?_
      simp [wpOpS, go_sem, hq, hqz]
      refine wpAnyS_done (by decide +kernel) ?_ _
      exact ⟨rfl, _, rfl, .tuple #[], results_none (by rfl) _ _ _, rfl, rfl, w.drew, (Ext.refl w).drew, rfl⟩
theorem tr_idle (b : Nat) (v z : Int) (w : World) (hp : w.cell? ⟨b, 0, none⟩ = some (.int .i64 v)) (hq : w.cell? ⟨b + 1, 0, none⟩ = some (.int .i64 z)) (hpz : w.frozen? ⟨b, 0, none⟩ = false) (hqz : w.frozen? ⟨b + 1, 0, none⟩ = false) :
    CallsD Tryz.prog 153 #[.pointer (some ⟨b, 0, none⟩), .pointer (some ⟨b + 1, 0, none⟩)] .returning w fun e u' w' => e = .returned (.tuple #[]) ∧ u' = .returning ∧ ∃ w1, Ext w w1 ∧ w' = ((w1.setCell ⟨b, 0, none⟩ (.int .i64 v)).setCell ⟨b + 1, 0, none⟩ (.int .i64 0)) := by
  refine callsD_of_wpS Tryz.func153 rfl fun c₀ cs hu => ?_
  refine wpS_region_any 8 rfl (by kernel_rfl) ?_
  refine wpAnyS_two (i := 0) (j := 1) (by decide +kernel) ?_ ?_
  · simp [wpOpS, go_sem, recoverD, hu, Tryz.ntmps153]
    refine wpAnyS_one (i := 1) (by decide +kernel) ?_
    simp [wpOpS, go_sem, hp]
    refine wpAnyS_one (i := 2) (by decide +kernel) ?_
    simp [wpOpS, go_sem]
    refine (settle_nil _ _).mono ?_
    rintro e w' ⟨rfl, rfl⟩
    refine wpAnyS_one (i := 3) (by decide +kernel) ?_
    simp [wpOpS, go_sem]
    refine wpAnyS_two (i := 4) (j := 5) (by decide +kernel) ?_ ?_
    · simp [wpOpS, go_sem]
      refine wpAnyS_two (i := 5) (j := 6) (by decide +kernel) ?_ ?_
      · simp [wpOpS, go_sem]
        refine wpAnyS_one (i := 6) (by decide +kernel) ?_
        simp [wpOpS, go_sem, hp, hpz]
        refine wpAnyS_one (i := 7) (by decide +kernel) ?_
        simp [wpOpS, go_sem, hq, hqz]
        refine wpAnyS_done (by decide +kernel) ?_ _
        exact ⟨rfl, .returning, by rw [← hu], .tuple #[], results_none (by rfl) _ _ _, rfl, rfl, w.drew, (Ext.refl w).drew, rfl⟩
      · simp [wpOpS, go_sem, hp, hpz]
        refine wpAnyS_one (i := 5) (by decide +kernel) ?_
        simp [wpOpS, go_sem]
        refine wpAnyS_one (i := 7) (by decide +kernel) ?_
        simp [wpOpS, go_sem, hq, hqz]
        refine wpAnyS_done (by decide +kernel) ?_ _
        exact ⟨rfl, .returning, by rw [← hu], .tuple #[], results_none (by rfl) _ _ _, rfl, rfl, w.drew, (Ext.refl w).drew, rfl⟩
    · simp [wpOpS, go_sem]
      refine wpAnyS_one (i := 4) (by decide +kernel) ?_
      simp [wpOpS, go_sem]
      refine wpAnyS_one (i := 6) (by decide +kernel) ?_
      simp [wpOpS, go_sem, hp, hpz]
      refine wpAnyS_one (i := 7) (by decide +kernel) ?_
      simp [wpOpS, go_sem, hq, hqz]
      refine wpAnyS_done (by decide +kernel) ?_ _
      exact ⟨rfl, .returning, by rw [← hu], .tuple #[], results_none (by rfl) _ _ _, rfl, rfl, w.drew, (Ext.refl w).drew, rfl⟩
  · simp [wpOpS, go_sem, hp, Tryz.ntmps153]
    refine wpAnyS_one (i := 0) (by decide +kernel) ?_
    simp [wpOpS, go_sem, recoverD, hu]
    refine wpAnyS_one (i := 2) (by decide +kernel) ?_
    simp [wpOpS, go_sem]
    refine (settle_nil _ _).mono ?_
    rintro e w' ⟨rfl, rfl⟩
    refine wpAnyS_one (i := 3) (by decide +kernel) ?_
    simp [wpOpS, go_sem]
    refine wpAnyS_two (i := 4) (j := 5) (by decide +kernel) ?_ ?_
    · simp [wpOpS, go_sem]
      refine wpAnyS_two (i := 5) (j := 6) (by decide +kernel) ?_ ?_
      · simp [wpOpS, go_sem]
        refine wpAnyS_one (i := 6) (by decide +kernel) ?_
        simp [wpOpS, go_sem, hp, hpz]
        refine wpAnyS_one (i := 7) (by decide +kernel) ?_
        simp [wpOpS, go_sem, hq, hqz]
        refine wpAnyS_done (by decide +kernel) ?_ _
        exact ⟨rfl, .returning, by rw [← hu], .tuple #[], results_none (by rfl) _ _ _, rfl, rfl, w.drew, (Ext.refl w).drew, rfl⟩
      · simp [wpOpS, go_sem, hp, hpz]
        refine wpAnyS_one (i := 5) (by decide +kernel) ?_
        simp [wpOpS, go_sem]
        refine wpAnyS_one (i := 7) (by decide +kernel) ?_
        simp [wpOpS, go_sem, hq, hqz]
        refine wpAnyS_done (by decide +kernel) ?_ _
        exact ⟨rfl, .returning, by rw [← hu], .tuple #[], results_none (by rfl) _ _ _, rfl, rfl, w.drew, (Ext.refl w).drew, rfl⟩
    · simp [wpOpS, go_sem]
      refine wpAnyS_one (i := 4) (by decide +kernel) ?_
      simp [wpOpS, go_sem]
      refine wpAnyS_one (i := 6) (by decide +kernel) ?_
      simp [wpOpS, go_sem, hp, hpz]
      refine wpAnyS_one (i := 7) (by decide +kernel) ?_
      simp [wpOpS, go_sem, hq, hqz]
      refine wpAnyS_done (by decide +kernel) ?_ _
      exact ⟨rfl, .returning, by rw [← hu], .tuple #[], results_none (by rfl) _ _ _, rfl, rfl, w.drew, (Ext.refl w).drew, rfl⟩
theorem tr_catch (b : Nat) (c v z : Int) (older : List PanicEntry) (w : World) (hp : w.cell? ⟨b, 0, none⟩ = some (.int .i64 v)) (hq : w.cell? ⟨b + 1, 0, none⟩ = some (.int .i64 z)) (hpz : w.frozen? ⟨b, 0, none⟩ = false) (hqz : w.frozen? ⟨b + 1, 0, none⟩ = false) :
    CallsD Tryz.prog 153 #[.pointer (some ⟨b, 0, none⟩), .pointer (some ⟨b + 1, 0, none⟩)] (.panicking ({ v := .iface 29 (.int .i64 c), recovered := false } :: older)) w fun e u' w' => e = .returned (.tuple #[]) ∧ u' = .panicking ({ v := .iface 29 (.int .i64 c), recovered := true } :: older) ∧ ∃ w1, Ext w w1 ∧ w' = ((w1.setCell ⟨b, 0, none⟩ (.int .i64 0)).setCell ⟨b + 1, 0, none⟩ (.int .i64 c)) := by
  refine callsD_of_wpS Tryz.func153 rfl fun c₀ cs hu => ?_
  refine wpS_region_any 8 rfl (by kernel_rfl) ?_
  refine wpAnyS_two (i := 0) (j := 1) (by decide +kernel) ?_ ?_
  · simp [wpOpS, go_sem, recoverD, hu, Tryz.ntmps153]
    refine wpAnyS_one (i := 1) (by decide +kernel) ?_
    simp [wpOpS, go_sem, hp]
    refine wpAnyS_one (i := 2) (by decide +kernel) ?_
    simp [wpOpS, go_sem]
    refine (settle_thrown _ _ _).mono ?_
    rintro e w' ⟨rfl, rfl⟩
    refine wpAnyS_one (i := 3) (by decide +kernel) ?_
    simp [wpOpS, go_sem]
    refine wpAnyS_two (i := 4) (j := 5) (by decide +kernel) ?_ ?_
    · simp [wpOpS, go_sem]
      refine wpAnyS_two (i := 5) (j := 6) (by decide +kernel) ?_ ?_
      · simp [wpOpS, go_sem]
        refine wpAnyS_one (i := 6) (by decide +kernel) ?_
        simp [wpOpS, go_sem, hp, hpz]
        refine wpAnyS_one (i := 7) (by decide +kernel) ?_
        simp [wpOpS, go_sem, hq, hqz]
        refine wpAnyS_done (by decide +kernel) ?_ _
        exact ⟨rfl, _, rfl, .tuple #[], results_none (by rfl) _ _ _, rfl, rfl, w.drew, (Ext.refl w).drew, rfl⟩
      · simp [wpOpS, go_sem, hp, hpz]
        refine wpAnyS_one (i := 5) (by decide +kernel) ?_
        simp [wpOpS, go_sem]
        refine wpAnyS_one (i := 7) (by decide +kernel) ?_
        simp [wpOpS, go_sem, hq, hqz]
        refine wpAnyS_done (by decide +kernel) ?_ _
        exact ⟨rfl, _, rfl, .tuple #[], results_none (by rfl) _ _ _, rfl, rfl, w.drew, (Ext.refl w).drew, rfl⟩
    · simp [wpOpS, go_sem]
      refine wpAnyS_one (i := 4) (by decide +kernel) ?_
      simp [wpOpS, go_sem]
      refine wpAnyS_one (i := 6) (by decide +kernel) ?_
      simp [wpOpS, go_sem, hp, hpz]
      refine wpAnyS_one (i := 7) (by decide +kernel) ?_
      simp [wpOpS, go_sem, hq, hqz]
      refine wpAnyS_done (by decide +kernel) ?_ _
      exact ⟨rfl, _, rfl, .tuple #[], results_none (by rfl) _ _ _, rfl, rfl, w.drew, (Ext.refl w).drew, rfl⟩
  · simp [wpOpS, go_sem, hp, Tryz.ntmps153]
    refine wpAnyS_one (i := 0) (by decide +kernel) ?_
    simp [wpOpS, go_sem, recoverD, hu]
    refine wpAnyS_one (i := 2) (by decide +kernel) ?_
    simp [wpOpS, go_sem]
    refine (settle_thrown _ _ _).mono ?_
    rintro e w' ⟨rfl, rfl⟩
    refine wpAnyS_one (i := 3) (by decide +kernel) ?_
    simp [wpOpS, go_sem]
    refine wpAnyS_two (i := 4) (j := 5) (by decide +kernel) ?_ ?_
    · simp [wpOpS, go_sem]
      refine wpAnyS_two (i := 5) (j := 6) (by decide +kernel) ?_ ?_
      · simp [wpOpS, go_sem]
        refine wpAnyS_one (i := 6) (by decide +kernel) ?_
        simp [wpOpS, go_sem, hp, hpz]
        refine wpAnyS_one (i := 7) (by decide +kernel) ?_
        simp [wpOpS, go_sem, hq, hqz]
        refine wpAnyS_done (by decide +kernel) ?_ _
        exact ⟨rfl, _, rfl, .tuple #[], results_none (by rfl) _ _ _, rfl, rfl, w.drew, (Ext.refl w).drew, rfl⟩
      · simp [wpOpS, go_sem, hp, hpz]
        refine wpAnyS_one (i := 5) (by decide +kernel) ?_
        simp [wpOpS, go_sem]
        refine wpAnyS_one (i := 7) (by decide +kernel) ?_
        simp [wpOpS, go_sem, hq, hqz]
        refine wpAnyS_done (by decide +kernel) ?_ _
        exact ⟨rfl, _, rfl, .tuple #[], results_none (by rfl) _ _ _, rfl, rfl, w.drew, (Ext.refl w).drew, rfl⟩
    · simp [wpOpS, go_sem]
      refine wpAnyS_one (i := 4) (by decide +kernel) ?_
      simp [wpOpS, go_sem]
      refine wpAnyS_one (i := 6) (by decide +kernel) ?_
      simp [wpOpS, go_sem, hp, hpz]
      refine wpAnyS_one (i := 7) (by decide +kernel) ?_
      simp [wpOpS, go_sem, hq, hqz]
      refine wpAnyS_done (by decide +kernel) ?_ _
      exact ⟨rfl, _, rfl, .tuple #[], results_none (by rfl) _ _ _, rfl, rfl, w.drew, (Ext.refl w).drew, rfl⟩
end Go.Proofs.YtbnpaeejlfaboaaGreatDoor.L2

namespace Go.Proofs.YtbnpaeejlfaboaaGreatDoor.L2
open Go.RowKit
theorem make_func (fn : Fn) (first cap : Array Value) (w : World) : (Instr.makeFunc fn first cap).run Tryz.prog w = .ok (.func fn first cap) w := rfl
theorem plus_ok (a b : Int) (w : World) (a1 : -1000000000000000 ≤ a) (a2 : a ≤ 1000000000000000) (b1 : -1000000000000000 ≤ b) (b2 : b ≤ 1000000000000000) (s1 : -1000000000000000 ≤ a + b) (s2 : a + b ≤ 1000000000000000) :
    Calls Tryz.prog 195 #[.int .i64 a, .int .i64 b] w fun e w' => e = .returned (.tuple #[.int .i64 (a + b), .int .i64 0]) ∧ Ext w w' := by
  have hmf := make_func
  go_enter_defers Tryz.func195, Tryz.ntmps195
  go_wp2_with (go_at_call 224; refine (fitting_ok _ _ (by omega) (by omega)).mono ?_; rintro e w' ⟨rfl, rfl⟩)
  refine leaves_cons (f := 226) (args := #[.pointer (some ⟨w.heap.size, 0, none⟩), .pointer (some ⟨w.heap.size + 1, 0, none⟩)]) (by simp) (by simp [go_sem]) ?_
  refine (plus_idle w.heap.size (a + b) 0 _ ?_ ?_ ?_ ?_).mono ?_
  · simp [go_sem]
  · simp [go_sem]
  · simp [go_sem]
  · simp [go_sem]
  rintro e u' w'' ⟨rfl, rfl, w2, hy, rfl⟩
  have hp2 : (w2.cell? ⟨w.heap.size, 0, none⟩).isSome = true := by rw [hy.cell _ _ (by simp; omega)]; simp [go_sem]
  have hq2 : (w2.cell? ⟨w.heap.size + 1, 0, none⟩).isSome = true := by rw [hy.cell _ _ (by simp)]; simp [go_sem]
  obtain ⟨vp, hp2⟩ := Option.isSome_iff_exists.1 hp2
  obtain ⟨vq, hq2⟩ := Option.isSome_iff_exists.1 hq2
  have hx0 : Ext w w2 := Ext.trans (by repeat (first | exact Ext.refl _ | apply Ext.alloc)) hy
  simp [Leaves, settle, results, Tryz.results195, go_sem, hp2, hq2]
  exact (hx0.setCell (Nat.le_refl _) _).setCell (by show w.heap.size ≤ w.heap.size + 1; omega) _
theorem plus_noS (a b : Int) (w : World) (a1 : -1000000000000000 ≤ a) (a2 : a ≤ 1000000000000000) (b1 : -1000000000000000 ≤ b) (b2 : b ≤ 1000000000000000) (h : ¬ (-1000000000000000 ≤ a + b ∧ a + b ≤ 1000000000000000)) :
    Calls Tryz.prog 195 #[.int .i64 a, .int .i64 b] w fun e w' => e = .returned (.tuple #[.int .i64 0, .int .i64 3]) ∧ Ext w w' := by
  have hmf := make_func
  go_enter_defers Tryz.func195, Tryz.ntmps195
  go_wp2_with fail
  refine (fitting_ok _ _ (by omega) (by omega)).mono ?_
  rintro e w1 ⟨rfl, rfl⟩
  go_wp2_with fail
  refine (fitting_ok _ _ (by omega) (by omega)).mono ?_
  rintro e w1 ⟨rfl, rfl⟩
  go_wp2_with fail
  refine (fitting_no _ _ (by omega)).mono ?_
  rintro e w1 ⟨rfl, rfl⟩
  go_wp2_with fail
  refine leaves_cons (f := 226) (args := #[.pointer (some ⟨w.heap.size, 0, none⟩), .pointer (some ⟨w.heap.size + 1, 0, none⟩)]) (by simp) (by simp [go_sem]) ?_
  refine (plus_catch w.heap.size 3 0 0 [] _ ?_ ?_ ?_ ?_).mono ?_
  · simp [go_sem]
  · simp [go_sem]
  · simp [go_sem]
  · simp [go_sem]
  rintro e u' w'' ⟨rfl, rfl, w2, hy, rfl⟩
  have hp2 : (w2.cell? ⟨w.heap.size, 0, none⟩).isSome = true := by rw [hy.cell _ _ (by simp; omega)]; simp [go_sem]
  have hq2 : (w2.cell? ⟨w.heap.size + 1, 0, none⟩).isSome = true := by rw [hy.cell _ _ (by simp)]; simp [go_sem]
  obtain ⟨vp, hp2⟩ := Option.isSome_iff_exists.1 hp2
  obtain ⟨vq, hq2⟩ := Option.isSome_iff_exists.1 hq2
  have hx0 : Ext w w2 := Ext.trans (by repeat (first | exact Ext.refl _ | apply Ext.alloc)) hy
  simp [Leaves, settle, results, Tryz.results195, go_sem, hp2, hq2]
  exact (hx0.setCell (Nat.le_refl _) _).setCell (by show w.heap.size ≤ w.heap.size + 1; omega) _
end Go.Proofs.YtbnpaeejlfaboaaGreatDoor.L2

namespace Go.Proofs.YtbnpaeejlfaboaaGreatDoor.L2
namespace U
/-- The lower half of a word. -/
theorem low (a : Nat) (ha : a < 18446744073709551616) : bits .and .u64 (a : Int) 4294967295 = ((a % 4294967296 : Nat) : Int) := by
  rw [show (4294967295 : Int) = ((4294967295 : Nat) : Int) from rfl, bits_and_u64_nat a 4294967295 ha (by omega), show (4294967295 : Nat) = 2 ^ 32 - 1 from rfl, Nat.and_two_pow_sub_one_eq_mod a 32]
theorem high (a : Nat) : (a : Int) / 4294967296 = ((a / 4294967296 : Nat) : Int) := by omega
theorem mul (a b : Nat) : (a : Int) * (b : Int) = ((a * b : Nat) : Int) := (Int.natCast_mul a b).symm
theorem add (a b : Nat) : (a : Int) + (b : Int) = ((a + b : Nat) : Int) := (Int.natCast_add a b).symm
theorem wrapMod (a : Nat) : IntKind.u64.wrap (a : Int) = ((a % 18446744073709551616 : Nat) : Int) := by rw [IntKind.wrap_u64]; omega
theorem wrapLt (a : Nat) (ha : a < 18446744073709551616) : IntKind.u64.wrap (a : Int) = (a : Int) := by rw [IntKind.wrap_u64]; omega
end U
/-- A number without its sign. -/
def mag (a : Int) : Nat := a.natAbs
/-- Do the signs make a product negative? -/
def sgn (a b : Int) : Bool := decide (a < 0) != decide (b < 0)
/-- The upper word, the lower word; a quotient, a rest. -/
def hiW (n : Nat) : Nat := n / 18446744073709551616
def loW (n : Nat) : Nat := n % 18446744073709551616
/-- Does it fit? -/
def Fit (v : Int) : Prop := -1000000000000000 ≤ v ∧ v ≤ 1000000000000000
theorem mag_nn (a : Int) (h : 0 ≤ a) : ((mag a : Nat) : Int) = a := by unfold mag; omega
theorem mag_neg (a : Int) (h : a < 0) : ((mag a : Nat) : Int) = -a := by unfold mag; omega
/-- The product out of its parts. -/
theorem prod_mag (a b : Int) : a * b = if sgn a b then -((mag a * mag b : Nat) : Int) else ((mag a * mag b : Nat) : Int) := by
  rw [Int.natCast_mul]
  rcases Int.lt_or_le a 0 with ha | ha <;> rcases Int.lt_or_le b 0 with hb | hb
  · have e : sgn a b = false := by simp [sgn, ha, hb]
    rw [e, mag_neg a ha, mag_neg b hb]; simp [Int.neg_mul_neg]
  · have e : sgn a b = true := by simp [sgn, ha]; omega
    rw [e, mag_neg a ha, mag_nn b hb]; simp [Int.neg_mul]
  · have e : sgn a b = true := by simp [sgn, hb]; omega
    rw [e, mag_nn a ha, mag_neg b hb]; simp [Int.mul_neg]
  · have e : sgn a b = false := by simp [sgn]; omega
    rw [e, mag_nn a ha, mag_nn b hb]; simp
end Go.Proofs.YtbnpaeejlfaboaaGreatDoor.L2

namespace Go.Proofs.YtbnpaeejlfaboaaGreatDoor.L2
open Go.RowKit
set_option linter.unusedVariables false
theorem magnitude_neg (a : Int) (w : World) (h1 : -9223372036854775808 ≤ a) (h2 : a < 0) :
    Calls Tryz.prog 243 #[.int .i64 a] w fun e w' => e = .returned (.int .u64 (-a)) ∧ w' = w := by
  have HE : Hid (-(a + 1) + 1 = -a) := by unfold Hid; omega
  go_enter Tryz.func243, Tryz.ntmps243
  go_wp2
  rw [HE.out]
  go_ret
  exact ⟨rfl, rfl⟩
theorem magnitude_nn (a : Int) (w : World) (h1 : 0 ≤ a) (h2 : a ≤ 9223372036854775807) :
    Calls Tryz.prog 243 #[.int .i64 a] w fun e w' => e = .returned (.int .u64 a) ∧ w' = w := by
  go_enter Tryz.func243, Tryz.ntmps243
  go_wp2
  go_ret
  exact ⟨rfl, rfl⟩
/-- An int64. -/
def I64 (a : Int) : Prop := -9223372036854775808 ≤ a ∧ a ≤ 9223372036854775807
theorem magnitude_any (a : Int) (w : World) (h : I64 a) :
    Calls Tryz.prog 243 #[.int .i64 a] w fun e w' => e = .returned (.int .u64 (mag a : Nat)) ∧ w' = w := by
  obtain ⟨h1, h2⟩ := h
  rcases Int.lt_or_le a 0 with ha | ha
  · rw [mag_neg a ha]; exact magnitude_neg a w h1 ha
  · rw [mag_nn a ha]; exact magnitude_nn a w ha h2
theorem mag_lt (a : Int) (h : I64 a) : mag a ≤ 9223372036854775808 := by
  obtain ⟨h1, h2⟩ := h
  unfold mag; omega
set_option maxHeartbeats 1000000 in
theorem mul64_any (x y : Nat) (hx : x < 18446744073709551616) (hy : y < 18446744073709551616) (w : World) :
    Calls Tryz.prog 242 #[.int .u64 x, .int .u64 y] w fun e w' => e = .returned (.tuple #[.int .u64 (hiW (x * y) : Nat), .int .u64 (loW (x * y) : Nat)]) ∧ w' = w := by
  unfold hiW loW
  obtain ⟨bd, bt, bw, hhi⟩ := Lib.mul64_hi x y hx hy
  have ba := Lib.half_mul_le (a := x / 4294967296) (b := y / 4294967296) (by omega) (by omega)
  have bb := Lib.half_mul_le (a := x / 4294967296) (b := y % 4294967296) (by omega) (by omega)
  have bc := Lib.half_mul_le (a := x % 4294967296) (b := y / 4294967296) (by omega) (by omega)
  have ba' : x / 4294967296 * (y / 4294967296) < 18446744073709551616 := by omega
  have bb' : x / 4294967296 * (y % 4294967296) < 18446744073709551616 := by omega
  have bc' : x % 4294967296 * (y / 4294967296) < 18446744073709551616 := by omega
  have bh1 : x / 4294967296 * (y / 4294967296) + (x / 4294967296 * (y % 4294967296) + x % 4294967296 * (y % 4294967296) / 4294967296) / 4294967296 < 18446744073709551616 := by omega
  have bh : x / 4294967296 * (y / 4294967296) + (x / 4294967296 * (y % 4294967296) + x % 4294967296 * (y % 4294967296) / 4294967296) / 4294967296 + ((x / 4294967296 * (y % 4294967296) + x % 4294967296 * (y % 4294967296) / 4294967296) % 4294967296 + x % 4294967296 * (y / 4294967296)) / 4294967296 < 18446744073709551616 := by omega
  go_enter Tryz.func242, Tryz.ntmps242
  go_wp2
  simp only [U.low x hx, U.low y hy, U.high, U.mul, U.add, U.wrapLt _ bd, U.wrapLt _ bb', U.wrapLt _ bt, U.low _ bt, U.wrapLt _ bc', U.wrapLt _ bw, U.wrapLt _ ba', U.wrapLt _ bh1, U.wrapLt _ bh, U.wrapMod (x * y)]
  rw [hhi]
  go_ret2
  exact ⟨rfl, rfl⟩
theorem multiply_any (a b : Int) (w : World) (ha : I64 a) (hb : I64 b) :
    Calls Tryz.prog 223 #[.int .i64 a, .int .i64 b] w fun e w' => e = .returned (.tuple #[.int .u64 (hiW (mag a * mag b) : Nat), .int .u64 (loW (mag a * mag b) : Nat), .bool (sgn a b)]) ∧ w' = w := by
  have h1 := mag_lt a ha
  have h2 := mag_lt b hb
  have HS : Hid ((!(decide (a < 0) == decide (b < 0))) = sgn a b) := rfl
  go_enter Tryz.func223, Tryz.ntmps223
  go_wp2_with fail
  refine (magnitude_any a _ ha).mono ?_
  rintro e w1 ⟨rfl, rfl⟩
  go_wp2_with fail
  refine (magnitude_any b _ hb).mono ?_
  rintro e w1 ⟨rfl, rfl⟩
  go_wp2_with fail
  refine (mul64_any (mag a) (mag b) (by omega) (by omega) _).mono ?_
  rintro e w1 ⟨rfl, rfl⟩
  go_wp2_with fail
  rw [HS.out]
  go_ret3
  exact ⟨rfl, rfl⟩
theorem signed_any (n : Int) (s : Bool) (w : World) (h : I64 n) (h0 : 0 ≤ n) :
    Calls Tryz.prog 225 #[.int .i64 n, .bool s] w fun e w' => e = .returned (.int .i64 (if s then -n else n)) ∧ w' = w := by
  obtain ⟨h1, h2⟩ := h
  cases s
  · go_enter Tryz.func225, Tryz.ntmps225
    go_wp2
    go_ret
    exact ⟨rfl, rfl⟩
  · go_enter Tryz.func225, Tryz.ntmps225
    go_wp2
    go_ret
    exact ⟨rfl, rfl⟩
theorem signed_false (n : Int) (w : World) (h0 : 0 ≤ n) (h1 : n ≤ 1000000000000000) :
    Calls Tryz.prog 225 #[.int .i64 n, .bool false] w fun e w' => e = .returned (.int .i64 n) ∧ w' = w := signed_any n false w ⟨by omega, by omega⟩ h0
theorem signed_true (n : Int) (w : World) (h0 : 0 ≤ n) (h1 : n ≤ 1000000000000000) :
    Calls Tryz.prog 225 #[.int .i64 n, .bool true] w fun e w' => e = .returned (.int .i64 (-n)) ∧ w' = w := signed_any n true w ⟨by omega, by omega⟩ h0
theorem multiply_hid (a b : Int) (ha : I64 a) (hb : I64 b) (s : Bool) (hs : sgn a b = s) :
    Hid (∀ w, Calls Tryz.prog 223 #[.int .i64 a, .int .i64 b] w fun e w' => e = .returned (.tuple #[.int .u64 (hiW (mag a * mag b) : Nat), .int .u64 (loW (mag a * mag b) : Nat), .bool s]) ∧ w' = w) := by
  subst hs
  exact fun w => multiply_any a b w ha hb
end Go.Proofs.YtbnpaeejlfaboaaGreatDoor.L2

namespace Go.Proofs.YtbnpaeejlfaboaaGreatDoor.L2
open Go.RowKit
set_option linter.unusedVariables false
theorem times_false (v n N : Int) (w : World)
    (Hmul : Hid (∀ w, Calls Tryz.prog 223 #[.int .i64 v, .int .i64 n] w fun e w' => e = .returned (.tuple #[.int .u64 0, .int .u64 N, .bool false]) ∧ w' = w))
    (v1 : -1000000000000000 ≤ v) (v2 : v ≤ 1000000000000000) (n1 : 0 ≤ N) (n2 : N ≤ 1000000000000000) :
    Calls Tryz.prog 194 #[.int .i64 v, .int .i64 n] w fun e w' => e = .returned (.tuple #[.int .i64 (N), .int .i64 0]) ∧ Ext w w' := by
  have hmf := make_func
  go_enter_defers Tryz.func194, Tryz.ntmps194
  go_wp2_with fail
  refine (fitting_ok _ _ v1 v2).mono ?_
  rintro e w1 ⟨rfl, rfl⟩
  go_wp2_with fail
  refine (Hmul.out _).mono ?_
  rintro e w1 ⟨rfl, rfl⟩
  go_wp2_with fail
  refine (need_ok _ _).mono ?_
  rintro e w1 ⟨rfl, rfl⟩
  go_wp2_with fail
  refine (signed_false N _ n1 n2).mono ?_
  rintro e w1 ⟨rfl, rfl⟩
  go_wp2_with fail
  refine leaves_cons (f := 222) (args := #[.pointer (some ⟨w.heap.size, 0, none⟩), .pointer (some ⟨w.heap.size + 1, 0, none⟩)]) (by simp) (by simp [go_sem]) ?_
  refine (times_idle w.heap.size (N) 0 _ ?_ ?_ ?_ ?_).mono ?_
  · simp [go_sem]
  · simp [go_sem]
  · simp [go_sem]
  · simp [go_sem]
  rintro e u' w'' ⟨rfl, rfl, w2, hy, rfl⟩
  have hp2 : (w2.cell? ⟨w.heap.size, 0, none⟩).isSome = true := by rw [hy.cell _ _ (by simp; omega)]; simp [go_sem]
  have hq2 : (w2.cell? ⟨w.heap.size + 1, 0, none⟩).isSome = true := by rw [hy.cell _ _ (by simp)]; simp [go_sem]
  obtain ⟨vp, hp2⟩ := Option.isSome_iff_exists.1 hp2
  obtain ⟨vq, hq2⟩ := Option.isSome_iff_exists.1 hq2
  have hx0 : Ext w w2 := Ext.trans (by repeat (first | exact Ext.refl _ | apply Ext.alloc)) hy
  simp [Leaves, settle, results, Tryz.results194, go_sem, hp2, hq2]
  exact (hx0.setCell (Nat.le_refl _) _).setCell (by show w.heap.size ≤ w.heap.size + 1; omega) _
theorem times_true (v n N : Int) (w : World)
    (Hmul : Hid (∀ w, Calls Tryz.prog 223 #[.int .i64 v, .int .i64 n] w fun e w' => e = .returned (.tuple #[.int .u64 0, .int .u64 N, .bool true]) ∧ w' = w))
    (v1 : -1000000000000000 ≤ v) (v2 : v ≤ 1000000000000000) (n1 : 0 ≤ N) (n2 : N ≤ 1000000000000000) :
    Calls Tryz.prog 194 #[.int .i64 v, .int .i64 n] w fun e w' => e = .returned (.tuple #[.int .i64 (-N), .int .i64 0]) ∧ Ext w w' := by
  have hmf := make_func
  go_enter_defers Tryz.func194, Tryz.ntmps194
  go_wp2_with fail
  refine (fitting_ok _ _ v1 v2).mono ?_
  rintro e w1 ⟨rfl, rfl⟩
  go_wp2_with fail
  refine (Hmul.out _).mono ?_
  rintro e w1 ⟨rfl, rfl⟩
  go_wp2_with fail
  refine (need_ok _ _).mono ?_
  rintro e w1 ⟨rfl, rfl⟩
  go_wp2_with fail
  refine (signed_true N _ n1 n2).mono ?_
  rintro e w1 ⟨rfl, rfl⟩
  go_wp2_with fail
  refine leaves_cons (f := 222) (args := #[.pointer (some ⟨w.heap.size, 0, none⟩), .pointer (some ⟨w.heap.size + 1, 0, none⟩)]) (by simp) (by simp [go_sem]) ?_
  refine (times_idle w.heap.size (-N) 0 _ ?_ ?_ ?_ ?_).mono ?_
  · simp [go_sem]
  · simp [go_sem]
  · simp [go_sem]
  · simp [go_sem]
  rintro e u' w'' ⟨rfl, rfl, w2, hy, rfl⟩
  have hp2 : (w2.cell? ⟨w.heap.size, 0, none⟩).isSome = true := by rw [hy.cell _ _ (by simp; omega)]; simp [go_sem]
  have hq2 : (w2.cell? ⟨w.heap.size + 1, 0, none⟩).isSome = true := by rw [hy.cell _ _ (by simp)]; simp [go_sem]
  obtain ⟨vp, hp2⟩ := Option.isSome_iff_exists.1 hp2
  obtain ⟨vq, hq2⟩ := Option.isSome_iff_exists.1 hq2
  have hx0 : Ext w w2 := Ext.trans (by repeat (first | exact Ext.refl _ | apply Ext.alloc)) hy
  simp [Leaves, settle, results, Tryz.results194, go_sem, hp2, hq2]
  exact (hx0.setCell (Nat.le_refl _) _).setCell (by show w.heap.size ≤ w.heap.size + 1; omega) _
theorem times_hi (v n hi lo : Int) (s : Bool) (w : World)
    (Hmul : Hid (∀ w, Calls Tryz.prog 223 #[.int .i64 v, .int .i64 n] w fun e w' => e = .returned (.tuple #[.int .u64 hi, .int .u64 lo, .bool s]) ∧ w' = w))
    (v1 : -1000000000000000 ≤ v) (v2 : v ≤ 1000000000000000) (hh : (hi == 0) = false) :
    Calls Tryz.prog 194 #[.int .i64 v, .int .i64 n] w fun e w' => e = .returned (.tuple #[.int .i64 0, .int .i64 3]) ∧ Ext w w' := by
  have hmf := make_func
  go_enter_defers Tryz.func194, Tryz.ntmps194
  go_wp2_with fail
  refine (fitting_ok _ _ v1 v2).mono ?_
  rintro e w1 ⟨rfl, rfl⟩
  go_wp2_with fail
  refine (Hmul.out _).mono ?_
  rintro e w1 ⟨rfl, rfl⟩
  go_wp2_with fail
  refine (need_no _ _).mono ?_
  rintro e w1 ⟨rfl, rfl⟩
  go_wp2_with fail
  refine leaves_cons (f := 222) (args := #[.pointer (some ⟨w.heap.size, 0, none⟩), .pointer (some ⟨w.heap.size + 1, 0, none⟩)]) (by simp) (by simp [go_sem]) ?_
  refine (times_catch w.heap.size 3 0 0 [] _ ?_ ?_ ?_ ?_).mono ?_
  · simp [go_sem]
  · simp [go_sem]
  · simp [go_sem]
  · simp [go_sem]
  rintro e u' w'' ⟨rfl, rfl, w2, hy, rfl⟩
  have hp2 : (w2.cell? ⟨w.heap.size, 0, none⟩).isSome = true := by rw [hy.cell _ _ (by simp; omega)]; simp [go_sem]
  have hq2 : (w2.cell? ⟨w.heap.size + 1, 0, none⟩).isSome = true := by rw [hy.cell _ _ (by simp)]; simp [go_sem]
  obtain ⟨vp, hp2⟩ := Option.isSome_iff_exists.1 hp2
  obtain ⟨vq, hq2⟩ := Option.isSome_iff_exists.1 hq2
  have hx0 : Ext w w2 := Ext.trans (by repeat (first | exact Ext.refl _ | apply Ext.alloc)) hy
  simp [Leaves, settle, results, Tryz.results194, go_sem, hp2, hq2]
  exact (hx0.setCell (Nat.le_refl _) _).setCell (by show w.heap.size ≤ w.heap.size + 1; omega) _
theorem times_lo (v n lo : Int) (s : Bool) (w : World)
    (Hmul : Hid (∀ w, Calls Tryz.prog 223 #[.int .i64 v, .int .i64 n] w fun e w' => e = .returned (.tuple #[.int .u64 0, .int .u64 lo, .bool s]) ∧ w' = w))
    (v1 : -1000000000000000 ≤ v) (v2 : v ≤ 1000000000000000) (hh : decide (lo ≤ 1000000000000000) = false) :
    Calls Tryz.prog 194 #[.int .i64 v, .int .i64 n] w fun e w' => e = .returned (.tuple #[.int .i64 0, .int .i64 3]) ∧ Ext w w' := by
  have hmf := make_func
  go_enter_defers Tryz.func194, Tryz.ntmps194
  go_wp2_with fail
  refine (fitting_ok _ _ v1 v2).mono ?_
  rintro e w1 ⟨rfl, rfl⟩
  go_wp2_with fail
  refine (Hmul.out _).mono ?_
  rintro e w1 ⟨rfl, rfl⟩
  go_wp2_with fail
  refine (need_no _ _).mono ?_
  rintro e w1 ⟨rfl, rfl⟩
  go_wp2_with fail
  refine leaves_cons (f := 222) (args := #[.pointer (some ⟨w.heap.size, 0, none⟩), .pointer (some ⟨w.heap.size + 1, 0, none⟩)]) (by simp) (by simp [go_sem]) ?_
  refine (times_catch w.heap.size 3 0 0 [] _ ?_ ?_ ?_ ?_).mono ?_
  · simp [go_sem]
  · simp [go_sem]
  · simp [go_sem]
  · simp [go_sem]
  rintro e u' w'' ⟨rfl, rfl, w2, hy, rfl⟩
  have hp2 : (w2.cell? ⟨w.heap.size, 0, none⟩).isSome = true := by rw [hy.cell _ _ (by simp; omega)]; simp [go_sem]
  have hq2 : (w2.cell? ⟨w.heap.size + 1, 0, none⟩).isSome = true := by rw [hy.cell _ _ (by simp)]; simp [go_sem]
  obtain ⟨vp, hp2⟩ := Option.isSome_iff_exists.1 hp2
  obtain ⟨vq, hq2⟩ := Option.isSome_iff_exists.1 hq2
  have hx0 : Ext w w2 := Ext.trans (by repeat (first | exact Ext.refl _ | apply Ext.alloc)) hy
  simp [Leaves, settle, results, Tryz.results194, go_sem, hp2, hq2]
  exact (hx0.setCell (Nat.le_refl _) _).setCell (by show w.heap.size ≤ w.heap.size + 1; omega) _
theorem times_ok (v n : Int) (w : World) (hv : Fit v) (hn : I64 n) (hN : mag v * mag n ≤ 1000000000000000) :
    Calls Tryz.prog 194 #[.int .i64 v, .int .i64 n] w fun e w' => e = .returned (.tuple #[.int .i64 (v * n), .int .i64 0]) ∧ Ext w w' := by
  obtain ⟨v1, v2⟩ := hv
  have hp := prod_mag v n
  cases hs : sgn v n
  all_goals
    have HM := multiply_hid v n ⟨by omega, by omega⟩ hn _ hs
    rw [hs] at hp
    rw [hp]
    clear hp
    generalize mag v * mag n = N at *
    have e1 : hiW N = 0 := by unfold hiW; omega
    have e2 : loW N = N := by unfold loW; omega
    rw [e1, e2] at HM
  · exact times_false v n N w HM v1 v2 (by omega) (by omega)
  · exact times_true v n N w HM v1 v2 (by omega) (by omega)
theorem times_no (v n : Int) (w : World) (hv : Fit v) (hn : I64 n) (hN : 1000000000000000 < mag v * mag n) :
    Calls Tryz.prog 194 #[.int .i64 v, .int .i64 n] w fun e w' => e = .returned (.tuple #[.int .i64 0, .int .i64 3]) ∧ Ext w w' := by
  obtain ⟨v1, v2⟩ := hv
  have HM := multiply_hid v n ⟨by omega, by omega⟩ hn _ rfl
  generalize mag v * mag n = N at *
  by_cases h0 : hiW N = 0
  · have e2 : loW N = N := by unfold hiW at h0; unfold loW; omega
    rw [h0, e2] at HM
    exact times_lo v n N _ w HM v1 v2 (by simp; omega)
  · exact times_hi v n _ _ _ w HM v1 v2 (by simp; omega)
end Go.Proofs.YtbnpaeejlfaboaaGreatDoor.L2

namespace Go.Proofs.YtbnpaeejlfaboaaGreatDoor.L2
open Go.Lib
theorem rev_ind {α : Type} {P : List α → Prop} (h0 : P []) (h1 : ∀ t c, P t → P (t ++ [c])) (l : List α) : P l := by
  have : ∀ m : List α, P m.reverse := by
    intro m
    induction m with
    | nil => exact h0
    | cons x t ih => rw [List.reverse_cons]; exact h1 _ _ ih
  simpa using this l.reverse
theorem dropWhile_nil {α : Type} (p : α → Bool) : ∀ l : List α, l.dropWhile p = [] ↔ ∀ x ∈ l, p x = true
  | [] => by simp
  | a :: l => by
    cases h : p a
    · simp [List.dropWhile, h]
    · simp [List.dropWhile, h, dropWhile_nil p l]
theorem dropWhile_head {α : Type} (p : α → Bool) : ∀ (l : List α) (x : α) (t : List α), l.dropWhile p = x :: t → p x = false
  | [], x, t, h => by simp at h
  | a :: l, x, t, h => by
    cases hp : p a
    · simp [List.dropWhile, hp] at h; rw [← h.1]; exact hp
    · simp [List.dropWhile, hp] at h; exact dropWhile_head p l x t h
theorem dropWhile_sub {α : Type} (p : α → Bool) : ∀ (l : List α) (x : α), x ∈ l.dropWhile p → x ∈ l
  | [], x, h => by simp at h
  | a :: l, x, h => by
    cases hp : p a
    · simpa [List.dropWhile, hp] using h
    · simp [List.dropWhile, hp] at h; exact List.mem_cons_of_mem _ (dropWhile_sub p l x h)
def dgt (n : Nat) : UInt8 := UInt8.ofNat (48 + n % 10)
def isD (c : UInt8) : Bool := decide (48 ≤ c.toNat) && decide (c.toNat ≤ 57)
def valL (l : List UInt8) : Nat := l.foldl (fun a c => 10 * a + (c.toNat - 48)) 0
def fix : Nat → Nat → List UInt8
  | 0, _ => []
  | k + 1, m => fix k (m / 10) ++ [dgt m]
def digs : List UInt8 := [48, 49, 50, 51, 52, 53, 54, 55, 56, 57]
theorem dgt_toNat (n : Nat) : (dgt n).toNat = 48 + n % 10 := by
  unfold dgt; simp; omega
theorem isD_dgt (n : Nat) : isD (dgt n) = true := by
  unfold isD; rw [dgt_toNat]; simp; omega
theorem isD_range {c : UInt8} (h : isD c = true) : 48 ≤ c.toNat ∧ c.toNat ≤ 57 := by
  unfold isD at h; simpa using h
theorem dgt_of {c : UInt8} (h : isD c = true) (n : Nat) (hn : n % 10 = c.toNat - 48) : dgt n = c := by
  have := isD_range h
  apply UInt8.toNat_inj.mp
  rw [dgt_toNat]; omega
theorem digs_contains (c : UInt8) : digs.contains c = isD c := by
  have : ∀ n : Fin 256, digs.contains (UInt8.ofNat n.val) = isD (UInt8.ofNat n.val) := by decide +kernel
  have := this ⟨c.toNat, UInt8.toNat_lt c⟩
  simpa using this
theorem valL_nil : valL [] = 0 := rfl
theorem valL_snoc (l : List UInt8) (c : UInt8) : valL (l ++ [c]) = 10 * valL l + (c.toNat - 48) := by
  simp [valL]
theorem foldl_val (l : List UInt8) : ∀ a, l.foldl (fun a c => 10 * a + (c.toNat - 48)) a = a * 10 ^ l.length + valL l := by
  induction l with
  | nil => intro a; simp [valL]
  | cons x t ih =>
    intro a
    have h1 := ih (10 * a + (x.toNat - 48))
    have h2 := ih (10 * 0 + (x.toNat - 48))
    simp only [valL, List.foldl_cons, List.length_cons] at *
    rw [h1, h2, Nat.pow_succ]
    simp only [Nat.mul_zero, Nat.zero_add, Nat.add_mul]
    have : 10 * a * 10 ^ t.length = a * (10 ^ t.length * 10) := by
      rw [Nat.mul_comm 10 a, Nat.mul_assoc, Nat.mul_comm 10]
    omega
theorem valL_append (a b : List UInt8) : valL (a ++ b) = valL a * 10 ^ b.length + valL b := by
  have := foldl_val b (valL a)
  rw [← this]; simp [valL]
theorem valL_cons (x : UInt8) (t : List UInt8) : valL (x :: t) = (x.toNat - 48) * 10 ^ t.length + valL t := by
  have := valL_append [x] t
  simpa [valL] using this
theorem valL_lt (l : List UInt8) (h : l.all isD = true) : valL l < 10 ^ l.length := by
  induction l with
  | nil => simp [valL]
  | cons x t ih =>
    simp only [List.all_cons, Bool.and_eq_true] at h
    have h1 := ih h.2
    have h2 := isD_range h.1
    rw [valL_cons, List.length_cons, Nat.pow_succ]
    have : (x.toNat - 48) * 10 ^ t.length ≤ 9 * 10 ^ t.length := Nat.mul_le_mul_right _ (by omega)
    omega
theorem fix_length (k : Nat) : ∀ m, (fix k m).length = k := by
  induction k with
  | zero => intro m; rfl
  | succ k ih => intro m; simp [fix, ih]
theorem fix_all (k : Nat) : ∀ m, (fix k m).all isD = true := by
  induction k with
  | zero => intro m; rfl
  | succ k ih => intro m; simp only [fix, List.all_append, ih, List.all_cons, List.all_nil, isD_dgt, Bool.and_self]
theorem valL_fix (k : Nat) : ∀ m, valL (fix k m) = m % 10 ^ k := by
  induction k with
  | zero => intro m; simp [fix, valL, Nat.mod_one]
  | succ k ih =>
    intro m
    rw [fix, valL_snoc, ih, dgt_toNat, Nat.pow_succ, Nat.mul_comm (10 ^ k) 10, Nat.mod_mul]
    omega
theorem decDigits_small {u : Nat} (h : u < 10) : decDigits u = [dgt u] := by
  rw [decDigits, dif_pos h]; unfold dgt; rw [Nat.mod_eq_of_lt h]
theorem decDigits_big {u : Nat} (h : ¬ u < 10) : decDigits u = decDigits (u / 10) ++ [dgt u] := by
  rw [decDigits, dif_neg h]; rfl
theorem decDigits_all (u : Nat) : (decDigits u).all isD = true := by
  induction u using Nat.strongRecOn with
  | ind u ih =>
    by_cases h : u < 10
    · rw [decDigits_small h]; simp only [List.all_cons, List.all_nil, isD_dgt, Bool.and_self]
    · rw [decDigits_big h, List.all_append, ih _ (by omega)]; simp only [List.all_cons, List.all_nil, isD_dgt, Bool.and_self]
theorem valL_decDigits (u : Nat) : valL (decDigits u) = u := by
  induction u using Nat.strongRecOn with
  | ind u ih =>
    by_cases h : u < 10
    · rw [decDigits_small h]; simp [valL, dgt_toNat]; omega
    · rw [decDigits_big h, valL_snoc, ih _ (by omega), dgt_toNat]; omega
theorem decDigits_ne (u : Nat) : decDigits u ≠ [] := by
  by_cases h : u < 10
  · rw [decDigits_small h]; simp
  · rw [decDigits_big h]; simp
/-- A number's digits have no nought ahead, but for 0 itself. -/
theorem decDigits_head (u : Nat) : decDigits u = [48] ∨ (decDigits u).head? ≠ some 48 := by
  induction u using Nat.strongRecOn with
  | ind u ih =>
    by_cases h : u < 10
    · rw [decDigits_small h]
      by_cases h0 : u = 0
      · left; subst h0; rfl
      · right
        intro e
        have : dgt u = 48 := by simpa using e
        have := congrArg UInt8.toNat this
        rw [dgt_toNat] at this
        have h48 : (48 : UInt8).toNat = 48 := rfl
        omega
    · rw [decDigits_big h]
      right
      rcases ih (u / 10) (by omega) with k | k
      · have := congrArg valL k
        rw [valL_decDigits] at this
        have : valL [48] = 0 := rfl
        omega
      · rw [List.head?_append]; cases hd : decDigits (u / 10) with
        | nil => exact absurd hd (decDigits_ne _)
        | cons a b => rw [hd] at k; simpa using k
/-- So many noughts ahead that there are as many digits at least. -/
def pad (n : Nat) (l : List UInt8) : List UInt8 := List.replicate (n - l.length) 48 ++ l
theorem pad_snoc (n : Nat) (l : List UInt8) (c : UInt8) : pad (n + 1) (l ++ [c]) = pad n l ++ [c] := by
  simp [pad]
theorem pad_decDigits (k : Nat) : ∀ u, pad (k + 1) (decDigits u) = decDigits (u / 10 ^ k) ++ fix k u := by
  induction k with
  | zero =>
    intro u
    have : 1 ≤ (decDigits u).length := by
      have := decDigits_ne u
      cases h : decDigits u with
      | nil => exact absurd h this
      | cons a b => simp
    simp [pad, fix, Nat.sub_eq_zero_of_le this]
  | succ k ih =>
    intro u
    have key : pad (k + 2) (decDigits u) = pad (k + 1) (decDigits (u / 10)) ++ [dgt u] := by
      by_cases h : u < 10
      · rw [decDigits_small h, show u / 10 = 0 by omega, decDigits_small (u := 0) (by omega)]
        simp only [pad, List.length_cons, List.length_nil]
        rw [show k + 2 - (0 + 1) = (k + 1 - (0 + 1)) + 1 by omega, List.replicate_succ']
        rfl
      · rw [decDigits_big h]; exact pad_snoc _ _ _
    rw [key, ih, fix, Nat.pow_succ, Nat.mul_comm (10 ^ k) 10, ← Nat.div_div_eq_div_mul]
    simp
/-- Digits with no nought ahead are those of their number. -/
theorem decDigits_valL (l : List UInt8) (hne : l ≠ []) (h : l.all isD = true) (h0 : l = [48] ∨ l.head? ≠ some 48) : decDigits (valL l) = l := by
  revert hne h h0
  refine rev_ind (P := fun l => l ≠ [] → l.all isD = true → (l = [48] ∨ l.head? ≠ some 48) → decDigits (valL l) = l) ?_ ?_ l
  · intro hne; exact absurd rfl hne
  · intro t c ih hne h h0
    rw [valL_snoc]
    rw [List.all_append, Bool.and_eq_true] at h
    have hc : isD c = true := by simpa using h.2
    have hr := isD_range hc
    cases t with
    | nil =>
      simp only [valL_nil, Nat.mul_zero, Nat.zero_add, List.nil_append]
      rw [decDigits_small (by omega), dgt_of hc _ (by omega)]
    | cons a b =>
      have hh : (a :: b).head? ≠ some 48 := by
        rcases h0 with k | k
        · simp at k
        · simpa using k
      have ih := ih (by simp) h.1 (Or.inr hh)
      have ha : isD a = true := by have := h.1; simp at this; exact this.1
      have hpos : 1 ≤ valL (a :: b) := by
        rw [valL_cons]
        have : 1 ≤ a.toNat - 48 := by
          have := isD_range ha
          have : a.toNat ≠ 48 := fun e => hh (by simp; exact UInt8.toNat_inj.mp e)
          omega
        have : 1 * 1 ≤ (a.toNat - 48) * 10 ^ b.length := Nat.mul_le_mul this (Nat.pos_of_ne_zero (by simp))
        omega
      rw [decDigits_big (by omega), show (10 * valL (a :: b) + (c.toNat - 48)) / 10 = valL (a :: b) by omega, ih, dgt_of hc _ (by omega)]
theorem all_mem {l : List UInt8} (h : l.all isD = true) {c : UInt8} (hc : c ∈ l) : isD c = true := List.all_eq_true.mp h c hc
theorem trimS_digs (l : List UInt8) : (trimS l digs = []) ↔ l.all isD = true := by
  unfold trimS trimLeftS
  rw [dropWhile_nil]
  simp only [digs_contains]
  constructor
  · intro h
    rw [List.all_eq_true]
    intro x hx
    have hn : List.dropWhile (digs.contains ·) l.reverse = [] := by
      cases hd : List.dropWhile (digs.contains ·) l.reverse with
      | nil => rfl
      | cons a b =>
        have h1 := dropWhile_head _ _ _ _ hd
        have h2 := h a (by unfold trimRightS; rw [hd]; simp)
        rw [digs_contains, h2] at h1; cases h1
    rw [dropWhile_nil] at hn
    have := hn x (by simpa using hx)
    rwa [digs_contains] at this
  · intro h x hx
    have : x ∈ l := by
      unfold trimRightS at hx
      have := dropWhile_sub _ _ _ (List.mem_reverse.mp hx)
      simpa using this
    exact all_mem h this
end Go.Proofs.YtbnpaeejlfaboaaGreatDoor.L2

namespace Go.Proofs.YtbnpaeejlfaboaaGreatDoor.L2
open Go.RowKit Go.Lib
set_option linter.unusedVariables false
/-- What the walks ask of the library's own variables. -/
def Env (w : World) : Prop := (∃ m, w.cell? ⟨7, 0, none⟩ = some (.int .i64 m)) ∧ Lib.TabIs Tryz.prog w "internal/strconv.uint64pow10" .u64 Lib.pow10Tab
theorem Env.ext {w w' : World} (h : Env w) (hx : Ext w w') : Env w' := by
  obtain ⟨⟨m, hm⟩, ht⟩ := h
  refine ⟨⟨m, by rw [hx.cell _ 0 (lt_of_cell hm)]; exact hm⟩, ?_⟩
  unfold Lib.TabIs World.var? at *
  cases hg : Tryz.prog.globalNamed "internal/strconv.uint64pow10" with
  | none => simp [hg] at ht
  | some g =>
    simp only [hg, Option.bind_some] at ht ⊢
    have hlt : g < w.heap.size := by
      rcases Nat.lt_or_ge g w.heap.size with h' | h'
      · exact h'
      · rw [Array.getElem?_eq_none h'] at ht; simp at ht
    rw [hx.below.block g hlt]
    exact ht
theorem cutPrefix_c (l p : List UInt8) (w : World) :
    Calls Tryz.prog 190 #[.string ⟨l.toArray⟩, .string ⟨p.toArray⟩] w fun e w' => e = .returned (.tuple #[.string ⟨(trimPrefix l p).toArray⟩, .bool (hasPrefix l p)]) ∧ w' = w :=
  Tryz.strings_CutPrefix ⟨l.toArray⟩ ⟨p.toArray⟩ w
def cutL (l : List UInt8) : List UInt8 := if hasPrefix l [45] then [45] else []
theorem cutSign_c (l : List UInt8) (w : World) :
    Calls Tryz.prog 157 #[.string ⟨l.toArray⟩] w fun e w' => e = .returned (.tuple #[.string ⟨(cutL l).toArray⟩, .string ⟨(trimPrefix l [45]).toArray⟩]) ∧ w' = w := by
  unfold cutL
  cases h : hasPrefix l [45]
  · have h2 : trimPrefix l [45] = l := by unfold trimPrefix; rw [h]; rfl
    rw [h2]
    go_enter Tryz.func157, Tryz.ntmps157
    go_wp2_with fail
    refine (cutPrefix_c _ _ _).mono ?_
    rintro e w1 ⟨rfl, rfl⟩
    rw [h]
    go_wp2
    go_ret2
    exact ⟨rfl, rfl⟩
  · go_enter Tryz.func157, Tryz.ntmps157
    go_wp2_with fail
    refine (cutPrefix_c _ _ _).mono ?_
    rintro e w1 ⟨rfl, rfl⟩
    rw [h]
    go_wp2
    go_ret2
    exact ⟨rfl, rfl⟩
/-- n noughts. -/
def zeros (n : Nat) : List UInt8 := List.replicate n 48
@[go_sem] theorem app_mk (a b : List UInt8) : (⟨a.toArray⟩ : ByteArray) ++ (⟨b.toArray⟩ : ByteArray) = ⟨(a ++ b).toArray⟩ := by
  apply ByteArray.ext
  simp
theorem noughts_c (n : Int) (w : World) (hn : n ≤ 100) (hn0 : -100 ≤ n) :
    Calls Tryz.prog 162 #[.int .i64 n] w fun e w' => e = .returned (.string ⟨(zeros n.toNat).toArray⟩) ∧ Ext w w' := by
  have hr : ∀ (c : Nat) (w : World), c ≤ 100 → Calls Tryz.prog 196 #[.string ⟨#[48]⟩, .int .i64 c] w fun e w' => e = .returned (.string ⟨(zeros c).toArray⟩) ∧ Ext w w' := by
    intro c w hc
    refine (Tryz.strings_Repeat ⟨#[48]⟩ c w (by omega) (by simp [ByteArray.size]; omega)).mono ?_
    rintro e w' ⟨rfl, hb⟩
    refine ⟨?_, ⟨hb⟩⟩
    have := Lib.repeatL_replicate 48 1 c
    rw [Nat.mul_one] at this
    unfold zeros
    rw [← this]; rfl
  have hr := show Hid _ from hr
  by_cases h : 0 ≤ n
  · obtain ⟨c, rfl⟩ := Int.eq_ofNat_of_zero_le h
    go_enter Tryz.func162, Tryz.ntmps162
    go_wp2_with fail
    refine (hr.out c _ (by omega)).mono ?_
    rintro e w1 ⟨rfl, hx⟩
    go_wp2
    go_ret
    exact ⟨rfl, hx⟩
  · have e0 : n.toNat = 0 := by omega
    rw [e0]
    go_enter Tryz.func162, Tryz.ntmps162
    go_wp2_with fail
    rw [show max n 0 = 0 by omega]
    refine (hr.out 0 _ (by omega)).mono ?_
    rintro e w1 ⟨rfl, hx⟩
    go_wp2
    go_ret
    exact ⟨rfl, hx⟩
def signL (v : Int) : List UInt8 := if v < 0 then [45] else []
theorem itoa_sign (v : Int) : itoa v = signL v ++ decDigits v.natAbs := by
  unfold itoa signL
  split
  · rfl
  · rw [show v.toNat = v.natAbs by omega]; rfl
theorem digit_not {l : List UInt8} (h : l.all isD = true) (c : UInt8) (hc : isD c = false) (t : List UInt8) (hl : l ≠ []) : hasPrefix (l ++ t) [c] = false := by
  cases l with
  | nil => exact absurd rfl hl
  | cons a b =>
    have ha : isD a = true := by simp at h; exact h.1
    have : a ≠ c := fun e => by rw [e, hc] at ha; cases ha
    simp [hasPrefix, List.isPrefixOf]
    exact fun e => absurd e.symm this
theorem cut_itoa (v : Int) : cutL (itoa v) = signL v ∧ trimPrefix (itoa v) [45] = decDigits v.natAbs := by
  rw [itoa_sign]
  unfold cutL trimPrefix signL
  split
  · simp [hasPrefix, List.isPrefixOf]
  · have := digit_not (decDigits_all v.natAbs) 45 (by decide) [] (decDigits_ne _)
    rw [List.append_nil] at this
    simp [this]
theorem formatInt_c (v : Int) (w : World) (h : I64 v) (he : Hid (Env w)) :
    Calls Tryz.prog 171 #[.int .i64 v, .int .i64 10] w fun e w' => e = .returned (.string ⟨(itoa v).toArray⟩) ∧ Ext w w' := by
  refine (Tryz.strconv_FormatInt_10 v h.1 h.2 w he.out.2).mono ?_
  rintro e w' ⟨rfl, k, os, rfl⟩
  exact ⟨rfl, ((Ext.refl w).drewN k).grow os⟩
theorem split_of (v p : Int) (k : Nat) (W P : List UInt8) (w : World) (h : I64 v) (he : Hid (Env w)) (hk : (k : Int) = p) (hk2 : k ≤ 7)
    (hp : zeros (k + 1 - (decDigits v.natAbs).length) ++ decDigits v.natAbs = W ++ P) (hP : P.length = k) :
    Calls Tryz.prog 141 #[.int .i64 v, .int .i64 p] w fun e w' => e = .returned (.tuple #[.string ⟨(signL v).toArray⟩, .string ⟨W.toArray⟩, .string ⟨P.toArray⟩]) ∧ Ext w w' := by
  have hfi := show Hid _ from formatInt_c v w h he
  obtain ⟨c1, c2⟩ := cut_itoa v
  have hlen : (decDigits v.natAbs).length ≤ 21 := by
    have h1 := Lib.itoa_length_le v h.1 h.2
    rw [itoa_sign, List.length_append] at h1
    omega
  have hWl := congrArg List.length hp
  simp only [List.length_append, zeros, List.length_replicate] at hWl
  have hp := show Hid _ from hp
  have hWl := show Hid _ from hWl
  have hP := show Hid _ from hP
  have hk := show Hid _ from hk
  generalize hd : decDigits v.natAbs = D at *
  clear hd
  have hw1 : wrap64 (p + 1) = p + 1 := by have := hk.out; unfold wrap64; omega
  have hw : wrap64 (p + 1 - (D.length : Int)) = p + 1 - (D.length : Int) := by have := hk.out; unfold wrap64; omega
  go_enter Tryz.func141, Tryz.ntmps141
  go_wp2_with fail
  refine Calls.mono hfi.out ?_
  rintro e w1 ⟨rfl, hx⟩
  go_wp2_with fail
  refine (cutSign_c _ _).mono ?_
  rintro e w2 ⟨rfl, rfl⟩
  rw [c1, c2]
  clear c1 c2 hfi he
  go_wp2_with fail
  refine (noughts_c _ _ (by have := hk.out; omega) (by have := hk.out; omega)).mono ?_
  rintro e w3 ⟨rfl, hx3⟩
  clear hw hw1
  have e3 : (p + 1 - (D.length : Int)).toNat = k + 1 - D.length := by have := hk.out; omega
  have hp := hp.out
  have hwp : wrap64 ((W.length : Int) + (P.length : Int) - p) = (W.length : Int) := by have := hk.out; have := hP.out; have := hWl.out; unfold wrap64; omega
  have hbig : ¬ 9223372036854775807 < (zeros (k + 1 - D.length)).length + D.length := by
    unfold zeros; rw [List.length_replicate]; omega
  rw [e3]
  go_wp2_with fail
  clear hbig hwp e3
  have hwl : W.length ≤ 28 := by have := hWl.out; omega
  have hs1 : (W ++ P).length = W.length + P.length := List.length_append
  have b1 : (0 : Int) ≤ (W.length : Int) := by omega
  have b2 : (W.length : Int) ≤ ((W ++ P).length : Int) := by omega
  go_region
  have x1 : (⟨(W ++ P).toArray⟩ : ByteArray).extract 0 W.length = ⟨W.toArray⟩ := by rw [Lib.extract_mk]; simp
  have x2 : (⟨(W ++ P).toArray⟩ : ByteArray).extract W.length (W.length + k) = ⟨P.toArray⟩ := by
    rw [Lib.extract_mk, ← hP.out]; simp
  rw [x1, x2]
  clear x1 x2
  go_wp2
  exact bodyPost_ret (v := .tuple #[.string ⟨(signL v).toArray⟩, .string ⟨W.toArray⟩, .string ⟨P.toArray⟩]) (by simp [results, Tryz.results141, go_sem]) rfl ⟨rfl, (hx.trans hx3).drew⟩
theorem split_2 (v : Int) (w : World) (h : I64 v) (he : Hid (Env w)) :
    Calls Tryz.prog 141 #[.int .i64 v, .int .i64 2] w fun e w' => e = .returned (.tuple #[.string ⟨(signL v).toArray⟩, .string ⟨(decDigits (v.natAbs / 100)).toArray⟩, .string ⟨(fix 2 v.natAbs).toArray⟩]) ∧ Ext w w' :=
  split_of v 2 2 _ _ w h he rfl (by omega) (pad_decDigits 2 v.natAbs) (fix_length _ _)
theorem split_7 (v : Int) (w : World) (h : I64 v) (he : Hid (Env w)) :
    Calls Tryz.prog 141 #[.int .i64 v, .int .i64 7] w fun e w' => e = .returned (.tuple #[.string ⟨(signL v).toArray⟩, .string ⟨(decDigits (v.natAbs / 10000000)).toArray⟩, .string ⟨(fix 7 v.natAbs).toArray⟩]) ∧ Ext w w' :=
  split_of v 7 7 _ _ w h he rfl (by omega) (pad_decDigits 7 v.natAbs) (fix_length _ _)
def moneyL (v : Int) : List UInt8 := signL v ++ (decDigits (v.natAbs / 100) ++ 46 :: fix 2 v.natAbs)
theorem dec_len (v : Int) (h : I64 v) (k : Nat) : (signL v).length ≤ 1 ∧ (decDigits (v.natAbs / k)).length ≤ 20 := by
  constructor
  · unfold signL; split <;> simp
  · rw [Lib.decDigits_length]
    apply Lib.nDigits_le20
    have := Nat.div_le_self v.natAbs k
    have := h.1; have := h.2; omega
theorem money_c (v : Int) (w : World) (h : I64 v) (he : Hid (Env w)) :
    Calls Tryz.prog 116 #[.int .i64 v] w fun e w' => e = .returned (.string ⟨(moneyL v).toArray⟩) ∧ Ext w w' := by
  have hs := show Hid _ from split_2 v w h he
  have hl := dec_len v h 100
  have hl2 := fix_length 2 v.natAbs
  unfold moneyL
  generalize signL v = A at *
  generalize decDigits (v.natAbs / 100) = B at *
  generalize fix 2 v.natAbs = C at *
  obtain ⟨hl0, hl1⟩ := hl
  have f1 : ¬ 9223372036854775807 < A.length + B.length := by omega
  have f2 : ¬ 9223372036854775807 < A.length + B.length + 1 := by omega
  have f3 : ¬ 9223372036854775807 < A.length + (B.length + (1 + 2)) := by omega
  go_enter Tryz.func116, Tryz.ntmps116
  go_wp2_with fail
  refine Calls.mono hs.out ?_
  rintro e w1 ⟨rfl, hx⟩
  go_wp2
  go_ret
  exact ⟨rfl, hx⟩
def tailL (u : Nat) : List UInt8 := trimRightB (fix 7 u) 48
def dotL (p : List UInt8) : List UInt8 := if p.isEmpty then [] else 46 :: p
def rateL (v : Int) : List UInt8 := signL v ++ (decDigits (v.natAbs / 10000000) ++ (dotL (tailL v.natAbs) ++ [37]))
theorem trimRight_c (l : List UInt8) (w : World) (hl : l.length ≤ 20000) :
    Calls Tryz.prog 142 #[.string ⟨l.toArray⟩, .string ⟨#[48]⟩] w fun e w' => e = .returned (.string ⟨(trimRightB l 48).toArray⟩) ∧ w' = w :=
  Tryz.strings_TrimRight ⟨l.toArray⟩ 48 (by decide) w (by rw [Lib.size_mk]; omega)
theorem trimRightB_le (l : List UInt8) (c : UInt8) : (trimRightB l c).length ≤ l.length := by
  unfold trimRightB
  rw [List.length_reverse]
  have : ∀ m : List UInt8, (m.dropWhile (· == c)).length ≤ m.length := by
    intro m
    induction m with
    | nil => simp
    | cons a b ih =>
      simp only [List.dropWhile]
      split
      · simp; omega
      · simp
  have := this l.reverse
  simpa using this
theorem rate_c (v : Int) (w : World) (h : I64 v) (he : Hid (Env w)) :
    Calls Tryz.prog 115 #[.int .i64 v] w fun e w' => e = .returned (.string ⟨(rateL v).toArray⟩) ∧ Ext w w' := by
  have hs := show Hid _ from split_7 v w h he
  have hl := dec_len v h 10000000
  have hl2 := fix_length 7 v.natAbs
  have hl3 := trimRightB_le (fix 7 v.natAbs) 48
  unfold rateL tailL dotL
  generalize signL v = A at *
  generalize decDigits (v.natAbs / 10000000) = B at *
  generalize fix 7 v.natAbs = C at *
  obtain ⟨hl0, hl1⟩ := hl
  cases hd : trimRightB C 48 with
  | nil =>
    simp only [List.isEmpty_nil, if_true, List.nil_append]
    have f1 : ¬ 9223372036854775807 < A.length + B.length := by omega
    have f2 : ¬ 9223372036854775807 < A.length + B.length + 1 := by omega
    go_enter Tryz.func115, Tryz.ntmps115
    go_wp2_with fail
    refine Calls.mono hs.out ?_
    rintro e w1 ⟨rfl, hx⟩
    clear hs
    go_wp2_with fail
    refine (trimRight_c _ _ (by omega)).mono ?_
    rintro e w1 ⟨rfl, rfl⟩
    rw [hd]
    go_wp2
    go_ret
    exact ⟨rfl, hx⟩
  | cons x y =>
    simp only [List.isEmpty_cons, Bool.false_eq_true, if_false, List.cons_append]
    rw [hd, List.length_cons] at hl3
    have f0 : ¬ 9223372036854775807 < 1 + (y.length + 1) := by omega
    have f1 : ¬ 9223372036854775807 < A.length + B.length := by omega
    have f2 : ¬ 9223372036854775807 < A.length + (B.length + (y.length + 1 + 1)) := by omega
    have f3 : ¬ 9223372036854775807 < A.length + (B.length + (y.length + 1 + 1)) + 1 := by omega
    go_enter Tryz.func115, Tryz.ntmps115
    go_wp2_with fail
    refine Calls.mono hs.out ?_
    rintro e w1 ⟨rfl, hx⟩
    clear hs
    go_wp2_with fail
    refine (trimRight_c _ _ (by omega)).mono ?_
    rintro e w1 ⟨rfl, rfl⟩
    rw [hd]
    go_wp2
    go_ret
    exact ⟨rfl, hx⟩
end Go.Proofs.YtbnpaeejlfaboaaGreatDoor.L2

namespace Go.Proofs.YtbnpaeejlfaboaaGreatDoor.L2
open Go.RowKit Go.Lib
set_option linter.unusedVariables false
def digOnly (l : List UInt8) : Bool := !l.isEmpty && l.all isD
theorem trim_c (l : List UInt8) (w : World) (hl : l.length ≤ 20000) :
    Calls Tryz.prog 191 #[.string ⟨l.toArray⟩, .string ⟨#[48, 49, 50, 51, 52, 53, 54, 55, 56, 57]⟩] w fun e w' => e = .returned (.string ⟨(trimS l digs).toArray⟩) ∧ Ext w w' := by
  refine (Tryz.strings_Trim ⟨l.toArray⟩ ⟨#[48, 49, 50, 51, 52, 53, 54, 55, 56, 57]⟩ w (by rw [Lib.size_mk]; omega) (by decide) (by
    have : ∀ j : Fin 10, (([48, 49, 50, 51, 52, 53, 54, 55, 56, 57] : List UInt8)[j.val]).toNat < 128 := by decide
    intro j b hb
    have hj : j < 10 := by
      have := (List.getElem?_eq_some_iff.mp hb).1
      simpa using this
    have h2 := this ⟨j, hj⟩
    have h3 := (List.getElem?_eq_some_iff.mp hb).2
    rw [← h3]; exact h2)).mono ?_
  rintro e w' ⟨rfl, hb⟩
  exact ⟨rfl, ⟨hb⟩⟩
theorem digitsOnly_c (l : List UInt8) (w : World) (hl : l.length ≤ 20000) :
    Calls Tryz.prog 159 #[.string ⟨l.toArray⟩] w fun e w' => e = .returned (.bool (digOnly l)) ∧ Ext w w' := by
  cases l with
  | nil =>
    go_enter Tryz.func159, Tryz.ntmps159
    go_wp2
    go_ret
    exact ⟨rfl, Ext.refl _⟩
  | cons a b =>
    have ht := trimS_digs (a :: b)
    have hd : digOnly (a :: b) = (a :: b).all isD := rfl
    rw [hd]
    cases htr : trimS (a :: b) digs with
    | nil =>
      rw [ht.mp htr]
      clear ht hd
      go_enter Tryz.func159, Tryz.ntmps159
      go_wp2_with fail
      refine (trim_c _ _ hl).mono ?_
      rintro e w1 ⟨rfl, hx⟩
      rw [htr]
      go_wp2
      go_ret
      exact ⟨rfl, hx⟩
    | cons x y =>
      have hf : (a :: b).all isD = false := by
        cases hh : (a :: b).all isD
        · rfl
        · rw [ht.mpr hh] at htr; cases htr
      rw [hf]
      clear ht hd hf
      go_enter Tryz.func159, Tryz.ntmps159
      go_wp2_with fail
      refine (trim_c _ _ hl).mono ?_
      rintro e w1 ⟨rfl, hx⟩
      rw [htr]
      go_wp2
      go_ret
      exact ⟨rfl, hx⟩
theorem needForm_ok (w : World) : Calls Tryz.prog 156 #[.bool true] w fun e w' => e = .returned (.tuple #[]) ∧ w' = w := by
  go_enter Tryz.func156, Tryz.ntmps156
  go_wp2_with fail
  refine (need_ok _ _).mono ?_
  rintro e w1 ⟨rfl, rfl⟩
  go_wp2
  go_end0
  exact ⟨rfl, rfl⟩
theorem needForm_no (w : World) : Calls Tryz.prog 156 #[.bool false] w fun e w' => e = .panicked [{ v := .iface 29 (.int .i64 4), recovered := false }] ∧ w' = w := by
  go_enter Tryz.func156, Tryz.ntmps156
  go_wp2_with fail
  refine (need_no _ _).mono ?_
  rintro e w1 ⟨rfl, rfl⟩
  go_wp2
  exact ⟨rfl, rfl, rfl⟩
def headOk (l : List UInt8) : Bool := l == [48] || l.head? != some 48
def okWhole (l : List UInt8) (m : Nat) : Bool := decide (l.length ≤ m) && digOnly l && headOk l
theorem headOk_cases (a : UInt8) (b : List UInt8) : headOk (a :: b) = true ↔ (b = [] ∨ a ≠ 48) := by
  unfold headOk
  by_cases h : a = 48
  · subst h
    cases b <;> simp
  · simp [h]
@[go_sem] theorem idx0 (a : UInt8) (b : List UInt8) (h : 0 < (⟨(a :: b).toArray⟩ : ByteArray).size) : (⟨(a :: b).toArray⟩ : ByteArray)[0]'h = a := rfl
theorem needWhole_ok (l : List UInt8) (m : Nat) (w : World) (hl : l.length ≤ 20000) (hm : m ≤ 100) (h : okWhole l m = true) :
    Calls Tryz.prog 158 #[.string ⟨l.toArray⟩, .int .i64 m] w fun e w' => e = .returned (.tuple #[]) ∧ Ext w w' := by
  unfold okWhole at h
  simp only [Bool.and_eq_true, decide_eq_true_eq] at h
  obtain ⟨⟨h1, h2⟩, h3⟩ := h
  have hd := show Hid _ from h2
  clear h2
  cases l with
  | nil => cases hd.out
  | cons a b =>
    have h4 := (headOk_cases a b).mp h3
    clear h3
    have h1' : (b.length : Int) + 1 ≤ (m : Int) := by simp at h1; omega
    have hl1 : b.length + 1 ≤ m := by simpa using h1
    by_cases ha : a = 48
    · subst ha
      have hb : b = [] := by
        rcases h4 with k | k
        · exact k
        · exact absurd rfl k
      subst hb
      clear h4
      go_enter Tryz.func158, Tryz.ntmps158
      go_wp2_with fail
      refine (digitsOnly_c _ _ hl).mono ?_
      rintro e w1 ⟨rfl, hx⟩
      rw [hd.out]
      go_wp2_with fail
      refine (needForm_ok _).mono ?_
      rintro e w2 ⟨rfl, rfl⟩
      go_wp2_with fail
      refine (needForm_ok _).mono ?_
      rintro e w2 ⟨rfl, rfl⟩
      go_wp2
      go_end0
      exact ⟨rfl, hx⟩
    · have hne : (a == 48) = false := by simpa using ha
      have ha2 : a.toNat ≠ 48 := fun e => ha (UInt8.toNat_inj.mp e)
      have hne2 : ((a.toNat : Int) != 48) = true := by
        simp
        exact fun e => ha2 (by omega)
      clear h4 ha2
      go_enter Tryz.func158, Tryz.ntmps158
      go_wp2_with fail
      refine (digitsOnly_c _ _ hl).mono ?_
      rintro e w1 ⟨rfl, hx⟩
      rw [hd.out]
      go_wp2_with fail
      refine (needForm_ok _).mono ?_
      rintro e w2 ⟨rfl, rfl⟩
      go_wp2_with fail
      refine (needForm_ok _).mono ?_
      rintro e w2 ⟨rfl, rfl⟩
      go_wp2
      go_end0
      exact ⟨rfl, hx⟩
theorem needWhole_no (l : List UInt8) (m : Nat) (w : World) (hl : l.length ≤ 20000) (hm : m ≤ 100) (h : okWhole l m = false) :
    Calls Tryz.prog 158 #[.string ⟨l.toArray⟩, .int .i64 m] w fun e w' => e = .panicked [{ v := .iface 29 (.int .i64 4), recovered := false }] ∧ Ext w w' := by
  unfold okWhole at h
  by_cases h1 : l.length ≤ m
  · have h1' : (l.length : Int) ≤ (m : Int) := by omega
    cases hd : digOnly l
    · have hd := show Hid _ from hd
      clear h
      go_enter Tryz.func158, Tryz.ntmps158
      go_wp2_with fail
      refine (digitsOnly_c _ _ hl).mono ?_
      rintro e w1 ⟨rfl, hx⟩
      rw [hd.out]
      go_wp2_with fail
      refine (needForm_no _).mono ?_
      rintro e w2 ⟨rfl, rfl⟩
      go_wp2
      exact ⟨rfl, rfl, hx⟩
    · have h3 : headOk l = false := by
        rw [hd] at h
        simpa [h1] using h
      cases l with
      | nil => cases hd
      | cons a b =>
        have h4 : ¬ (b = [] ∨ a ≠ 48) := fun k => by rw [(headOk_cases a b).mpr k] at h3; cases h3
        have ha : a = 48 := by
          by_cases k : a = 48
          · exact k
          · exact absurd (Or.inr k) h4
        subst ha
        have hb : b ≠ [] := fun k => h4 (Or.inl k)
        cases b with
        | nil => exact absurd rfl hb
        | cons x y =>
          have hd := show Hid _ from hd
          clear h h3 h4 hb
          have h1'' : (y.length : Int) + 1 + 1 ≤ (m : Int) := by simp at h1'; omega
          clear h1 h1'
          go_enter Tryz.func158, Tryz.ntmps158
          go_wp2_with fail
          refine (digitsOnly_c _ _ hl).mono ?_
          rintro e w1 ⟨rfl, hx⟩
          rw [hd.out]
          go_wp2_with fail
          refine (needForm_ok _).mono ?_
          rintro e w2 ⟨rfl, rfl⟩
          go_wp2_with fail
          refine (needForm_no _).mono ?_
          rintro e w2 ⟨rfl, rfl⟩
          go_wp2
          exact ⟨rfl, rfl, hx⟩
  · have h1' : ¬ (l.length : Int) ≤ (m : Int) := by omega
    clear h
    go_enter Tryz.func158, Tryz.ntmps158
    go_wp2_with fail
    refine (needForm_no _).mono ?_
    rintro e w2 ⟨rfl, rfl⟩
    go_wp2
    exact ⟨rfl, rfl, Ext.refl _⟩
theorem signed_pos (n : Int) (w : World) :
    Calls Tryz.prog 163 #[.string ⟨#[]⟩, .int .i64 n] w fun e w' => e = .returned (.int .i64 n) ∧ w' = w := by
  go_enter Tryz.func163, Tryz.ntmps163
  go_wp2
  go_ret
  exact ⟨rfl, rfl⟩
theorem signed_neg (n : Int) (w : World) (h0 : 0 < n) (h1 : n ≤ 1000000000000000) :
    Calls Tryz.prog 163 #[.string ⟨#[45]⟩, .int .i64 n] w fun e w' => e = .returned (.int .i64 (-n)) ∧ w' = w := by
  have hne : (n != 0) = true := by simp; omega
  have hw : wrap64 (-n) = -n := by unfold wrap64; omega
  go_enter Tryz.func163, Tryz.ntmps163
  go_wp2_with fail
  refine (needForm_ok _).mono ?_
  rintro e w2 ⟨rfl, rfl⟩
  go_wp2
  go_ret
  exact ⟨rfl, rfl⟩
theorem signed_nil (w : World) :
    Calls Tryz.prog 163 #[.string ⟨#[45]⟩, .int .i64 0] w fun e w' => e = .panicked [{ v := .iface 29 (.int .i64 4), recovered := false }] ∧ w' = w := by
  go_enter Tryz.func163, Tryz.ntmps163
  go_wp2_with fail
  refine (needForm_no _).mono ?_
  rintro e w2 ⟨rfl, rfl⟩
  go_wp2
  exact ⟨rfl, rfl, rfl⟩
theorem sure_ok (n : Int) (w : World) :
    Calls Tryz.prog 193 #[.int .i64 n, .int .i64 0] w fun e w' => e = .returned (.int .i64 n) ∧ w' = w := by
  go_enter Tryz.func193, Tryz.ntmps193
  go_wp2_with fail
  refine (need_ok _ _).mono ?_
  rintro e w2 ⟨rfl, rfl⟩
  go_wp2
  go_ret
  exact ⟨rfl, rfl⟩
theorem sure_no (w : World) :
    Calls Tryz.prog 193 #[.int .i64 0, .int .i64 3] w fun e w' => e = .panicked [{ v := .iface 29 (.int .i64 3), recovered := false }] ∧ w' = w := by
  go_enter Tryz.func193, Tryz.ntmps193
  go_wp2_with fail
  refine (need_no _ _).mono ?_
  rintro e w2 ⟨rfl, rfl⟩
  go_wp2
  exact ⟨rfl, rfl, rfl⟩
end Go.Proofs.YtbnpaeejlfaboaaGreatDoor.L2

namespace Go.Proofs.YtbnpaeejlfaboaaGreatDoor.L2
open Go.RowKit Go.Lib
set_option linter.unusedVariables false
/-- Around the first point. -/
def cutD : List UInt8 → List UInt8 × List UInt8 × Bool
  | [] => ([], [], false)
  | x :: t => if x = 46 then ([], t, true) else (x :: (cutD t).1, (cutD t).2.1, (cutD t).2.2)
theorem index_dot (x : UInt8) (t : List UInt8) : index (x :: t) [46] = if x = 46 then 0 else if index t [46] == -1 then -1 else index t [46] + 1 := by
  rw [index]
  by_cases h : x = 46
  · subst h; simp [List.isPrefixOf]
  · have : ([46] : List UInt8).isPrefixOf (x :: t) = false := by
      simp [List.isPrefixOf]; exact fun e => h e.symm
    rw [this]; simp [h]
theorem cut_dot : ∀ l, cut l [46] = cutD l
  | [] => by simp [cut, cutD, index]
  | x :: t => by
    have ih := cut_dot t
    unfold cut at ih ⊢
    rw [index_dot]
    unfold cutD
    by_cases h : x = 46
    · simp [h]
    · simp only [h, if_false]
      rw [← ih]
      have hg := index_ge t [46]
      by_cases h1 : index t [46] = -1
      · simp [h1]
      · have h2 : 0 ≤ index t [46] := by omega
        have h3 : 0 ≤ index t [46] + 1 := by omega
        have h4 : (index t [46] == -1) = false := by simpa using h1
        have h5 : (index t [46] + 1).toNat = (index t [46]).toNat + 1 := by omega
        simp [h4, h2, h3, h5]
theorem cutD_none : ∀ l : List UInt8, (46 : UInt8) ∉ l → cutD l = (l, [], false)
  | [], _ => rfl
  | x :: t, h => by
    have h1 : x ≠ 46 := fun e => h (by rw [e]; simp)
    have h2 : (46 : UInt8) ∉ t := fun e => h (List.mem_cons_of_mem _ e)
    simp [cutD, h1, cutD_none t h2]
theorem cutD_hit : ∀ (a b : List UInt8), (46 : UInt8) ∉ a → cutD (a ++ 46 :: b) = (a, b, true)
  | [], b, _ => by simp [cutD]
  | x :: t, b, h => by
    have h1 : x ≠ 46 := fun e => h (by rw [e]; simp)
    have h2 : (46 : UInt8) ∉ t := fun e => h (List.mem_cons_of_mem _ e)
    simp [cutD, h1, cutD_hit t b h2]
/-- What was cut, put together. -/
theorem cutD_join : ∀ (l W P : List UInt8) (B : Bool), cutD l = (W, P, B) → (46 : UInt8) ∉ W ∧ (B = true → l = W ++ 46 :: P) ∧ (B = false → l = W ∧ P = [])
  | [], W, P, B, h => by
    simp [cutD] at h; obtain ⟨rfl, rfl, rfl⟩ := h; simp
  | x :: t, W, P, B, h => by
    by_cases h1 : x = 46
    · simp [cutD, h1] at h; obtain ⟨rfl, rfl, rfl⟩ := h; simp [h1]
    · simp [cutD, h1] at h
      obtain ⟨rfl, rfl, rfl⟩ := h
      obtain ⟨i1, i2, i3⟩ := cutD_join t (cutD t).1 (cutD t).2.1 (cutD t).2.2 rfl
      refine ⟨?_, ?_, ?_⟩
      · simp; exact ⟨fun e => h1 e.symm, i1⟩
      · intro hb; have := i2 hb; simp; exact this
      · intro hb; obtain ⟨e1, e2⟩ := i3 hb; exact ⟨by simp; exact e1, e2⟩
theorem cutD_len (l W P : List UInt8) (B : Bool) (h : cutD l = (W, P, B)) : W.length ≤ l.length ∧ P.length ≤ l.length := by
  obtain ⟨_, h2, h3⟩ := cutD_join l W P B h
  cases B
  · obtain ⟨rfl, rfl⟩ := h3 rfl; simp
  · have := h2 rfl; subst this; simp; omega
theorem dot_not {l : List UInt8} (h : l.all isD = true) : (46 : UInt8) ∉ l := fun e => by
  have := all_mem h e
  revert this; decide
/-- What is taken of the digits ahead of the point, of those behind it, and of a sign. -/
def sgnV (neg : Bool) (n : Nat) : Int × Int := if neg then (if n = 0 then (0, 4) else (-(n : Int), 0)) else ((n : Int), 0)
def takeM (l : List UInt8) : Int × Int :=
  let c := cutD (trimPrefix l [45])
  if okWhole c.1 20 && (decide (c.2.1.length = 2) && digOnly c.2.1) then
    if valL (c.1 ++ c.2.1) ≤ 1000000000000000 then sgnV (hasPrefix l [45]) (valL (c.1 ++ c.2.1)) else (0, 3)
  else (0, 4)
def takeR (l : List UInt8) : Int × Int :=
  let p := trimSuffix l [37]
  let c := cutD (trimPrefix p [45])
  if hasSuffix l [37] && okWhole c.1 4 && (!c.2.2 || (decide (c.2.1.length ≤ 7) && digOnly c.2.1 && !hasSuffix c.2.1 [48])) then
    let n := valL (c.1 ++ (c.2.1 ++ zeros (7 - c.2.1.length)))
    if n ≤ 10000000000 then sgnV (hasPrefix p [45]) n else (0, 4)
  else (0, 4)
theorem okWhole_spec (W : List UInt8) (m : Nat) (h : okWhole W m = true) : W.length ≤ m ∧ W ≠ [] ∧ W.all isD = true ∧ (W = [48] ∨ W.head? ≠ some 48) := by
  unfold okWhole digOnly headOk at h
  simp only [Bool.and_eq_true, decide_eq_true_eq, Bool.or_eq_true, beq_iff_eq, bne_iff_ne, Bool.not_eq_true'] at h
  obtain ⟨⟨h1, h2, h3⟩, h4⟩ := h
  exact ⟨h1, (by intro e; rw [e] at h2; cases h2), h3, h4⟩
theorem okWhole_dec (u m : Nat) (h : (decDigits u).length ≤ m) : okWhole (decDigits u) m = true := by
  unfold okWhole digOnly headOk
  have h1 := decDigits_ne u
  have h2 := decDigits_all u
  have h3 := decDigits_head u
  simp only [Bool.and_eq_true, decide_eq_true_eq, Bool.or_eq_true, beq_iff_eq, bne_iff_ne, Bool.not_eq_true']
  exact ⟨⟨h, by cases hd : decDigits u with
    | nil => exact absurd hd h1
    | cons a b => rfl, h2⟩, h3⟩
theorem zeros_len (k : Nat) : (zeros k).length = k := List.length_replicate
theorem zeros_all (k : Nat) : (zeros k).all isD = true := by
  unfold zeros; rw [List.all_eq_true]; intro x hx
  rw [List.eq_of_mem_replicate hx]; decide
/-- A sign, taken off again. -/
theorem trim_sign (v : Int) (t : List UInt8) (ht : hasPrefix t [45] = false) : trimPrefix (signL v ++ t) [45] = t ∧ hasPrefix (signL v ++ t) [45] = decide (v < 0) := by
  unfold signL trimPrefix
  by_cases h : v < 0
  · simp [h, hasPrefix, List.isPrefixOf]
  · simp [h, ht]
theorem sgnV_of (v : Int) (n : Nat) (h : v.natAbs = n) : sgnV (decide (v < 0)) n = (v, 0) := by
  unfold sgnV
  by_cases hv : v < 0
  · simp only [hv, decide_true, if_true]
    rw [if_neg (by omega)]
    exact Prod.ext (by show -(n : Int) = v; omega) rfl
  · simp only [hv, decide_false, Bool.false_eq_true, if_false]
    exact Prod.ext (by show (n : Int) = v; omega) rfl
theorem take_money (v : Int) (h : I64 v) : takeM (moneyL v) = if v.natAbs ≤ 1000000000000000 then (v, 0) else (0, 3) := by
  have hlen := (dec_len v h 100).2
  unfold takeM moneyL
  obtain ⟨e1, e2⟩ := trim_sign v (decDigits (v.natAbs / 100) ++ 46 :: fix 2 v.natAbs) (digit_not (decDigits_all _) 45 (by decide) _ (decDigits_ne _))
  rw [e1, e2, cutD_hit _ _ (dot_not (decDigits_all _))]
  have hd : digOnly (fix 2 v.natAbs) = true := by
    unfold digOnly
    rw [fix_all]
    rfl
  have hval : valL (decDigits (v.natAbs / 100) ++ fix 2 v.natAbs) = v.natAbs := by
    rw [valL_append, valL_decDigits, valL_fix, fix_length]; omega
  simp only [okWhole_dec _ 20 hlen, fix_length, hd, decide_true, Bool.and_self, if_true, hval]
  rw [sgnV_of v _ rfl]
/-- What is trimmed off behind is noughts; what is left has none behind. -/
theorem trimRightB_snoc (l : List UInt8) (x : UInt8) : trimRightB (l ++ [x]) 48 = if x = 48 then trimRightB l 48 else l ++ [x] := by
  unfold trimRightB
  rw [List.reverse_append]
  by_cases h : x = 48
  · subst h; simp
  · have : (x == 48) = false := by simpa using h
    simp [this, h]
theorem hasSuffix_snoc (l : List UInt8) (x c : UInt8) : hasSuffix (l ++ [x]) [c] = decide (x = c) := by
  rw [← hasSuffix_of_drop]
  by_cases h : x = c
  · subst h; simp
  · simp [h]
theorem trim_spec : ∀ l : List UInt8, ∃ k, l = trimRightB l 48 ++ zeros k ∧ hasSuffix (trimRightB l 48) [48] = false := by
  intro l
  refine rev_ind (P := fun l => ∃ k, l = trimRightB l 48 ++ zeros k ∧ hasSuffix (trimRightB l 48) [48] = false) ?_ ?_ l
  · exact ⟨0, rfl, rfl⟩
  · intro t x ⟨k, h1, h2⟩
    rw [trimRightB_snoc]
    by_cases h : x = 48
    · subst h
      refine ⟨k + 1, ?_, by simpa using h2⟩
      simp only [if_true]
      unfold zeros at *
      rw [List.replicate_succ', ← List.append_assoc, ← h1]
    · refine ⟨0, by simp [h, zeros], ?_⟩
      simp only [h, if_false]
      rw [hasSuffix_snoc]; simpa using h
theorem trim_tail (l : List UInt8) (x : UInt8) : trimSuffix (l ++ [x]) [x] = l ∧ hasSuffix (l ++ [x]) [x] = true := by
  have := hasSuffix_snoc l x x
  simp at this
  unfold trimSuffix
  rw [this]
  simp
theorem tail_len (u : Nat) : (tailL u).length ≤ 7 := by
  unfold tailL
  have := trimRightB_le (fix 7 u) 48
  rw [fix_length] at this
  exact this
theorem tail_zeros (u : Nat) : tailL u ++ zeros (7 - (tailL u).length) = fix 7 u ∧ hasSuffix (tailL u) [48] = false := by
  obtain ⟨k, h1, h2⟩ := trim_spec (fix 7 u)
  refine ⟨?_, h2⟩
  have := congrArg List.length h1
  rw [fix_length, List.length_append, zeros_len] at this
  unfold tailL
  rw [show 7 - (trimRightB (fix 7 u) 48).length = k by omega, ← h1]
theorem tail_all (u : Nat) : (tailL u).all isD = true := by
  have h := fix_all 7 u
  rw [← (tail_zeros u).1, List.all_append, Bool.and_eq_true] at h
  exact h.1
theorem take_rate (v : Int) : takeR (rateL v) = if v.natAbs ≤ 10000000000 then (v, 0) else (0, 4) := by
  unfold takeR rateL
  have hassoc : signL v ++ (decDigits (v.natAbs / 10000000) ++ (dotL (tailL v.natAbs) ++ [37])) = (signL v ++ (decDigits (v.natAbs / 10000000) ++ dotL (tailL v.natAbs))) ++ [37] := by simp
  rw [hassoc]
  obtain ⟨s1, s2⟩ := trim_tail (signL v ++ (decDigits (v.natAbs / 10000000) ++ dotL (tailL v.natAbs))) 37
  rw [s1, s2]
  dsimp only
  obtain ⟨e1, e2⟩ := trim_sign v (decDigits (v.natAbs / 10000000) ++ dotL (tailL v.natAbs)) (digit_not (decDigits_all _) 45 (by decide) _ (decDigits_ne _))
  rw [e1, e2]
  obtain ⟨t1, t2⟩ := tail_zeros v.natAbs
  have t3 := tail_len v.natAbs
  have t4 := tail_all v.natAbs
  have hval : valL (decDigits (v.natAbs / 10000000) ++ fix 7 v.natAbs) = v.natAbs := by
    rw [valL_append, valL_decDigits, valL_fix, fix_length]; omega
  have key : ∀ (P : List UInt8) (B : Bool), P = tailL v.natAbs → cutD (decDigits (v.natAbs / 10000000) ++ dotL (tailL v.natAbs)) = (decDigits (v.natAbs / 10000000), P, B) →
      (!B || (decide (P.length ≤ 7) && digOnly P && !hasSuffix P [48])) = true →
      (if (true && okWhole (cutD (decDigits (v.natAbs / 10000000) ++ dotL (tailL v.natAbs))).1 4 && (!(cutD (decDigits (v.natAbs / 10000000) ++ dotL (tailL v.natAbs))).2.2 || (decide ((cutD (decDigits (v.natAbs / 10000000) ++ dotL (tailL v.natAbs))).2.1.length ≤ 7) && digOnly (cutD (decDigits (v.natAbs / 10000000) ++ dotL (tailL v.natAbs))).2.1 && !hasSuffix (cutD (decDigits (v.natAbs / 10000000) ++ dotL (tailL v.natAbs))).2.1 [48]))) = true then
          if valL ((cutD (decDigits (v.natAbs / 10000000) ++ dotL (tailL v.natAbs))).1 ++ ((cutD (decDigits (v.natAbs / 10000000) ++ dotL (tailL v.natAbs))).2.1 ++ zeros (7 - (cutD (decDigits (v.natAbs / 10000000) ++ dotL (tailL v.natAbs))).2.1.length))) ≤ 10000000000 then sgnV (decide (v < 0)) (valL ((cutD (decDigits (v.natAbs / 10000000) ++ dotL (tailL v.natAbs))).1 ++ ((cutD (decDigits (v.natAbs / 10000000) ++ dotL (tailL v.natAbs))).2.1 ++ zeros (7 - (cutD (decDigits (v.natAbs / 10000000) ++ dotL (tailL v.natAbs))).2.1.length)))) else (0, 4)
        else (0, 4)) = if v.natAbs ≤ 10000000000 then (v, 0) else (0, 4) := by
    intro P B hP hc hb
    rw [hc]
    dsimp only
    simp only [hb, Bool.true_and, Bool.and_true]
    rw [hP, t1, hval]
    by_cases hw : (decDigits (v.natAbs / 10000000)).length ≤ 4
    · rw [okWhole_dec _ 4 hw, if_pos rfl, sgnV_of v _ rfl]
    · have hno : okWhole (decDigits (v.natAbs / 10000000)) 4 = false := by
        unfold okWhole; simp only [hw, decide_false, Bool.false_and]
      rw [hno, if_neg (by simp)]
      have : ¬ v.natAbs ≤ 10000000000 := fun hle => by
        apply hw
        have h1 : v.natAbs / 10000000 ≤ 20000 := by omega
        rw [Lib.decDigits_length]
        by_cases h2 : v.natAbs / 10000000 < 10
        · rw [nDigits_small h2]; omega
        · rw [nDigits_big h2]
          by_cases h3 : v.natAbs / 10000000 / 10 < 10
          · rw [nDigits_small h3]; omega
          · rw [nDigits_big h3]
            by_cases h4 : v.natAbs / 10000000 / 10 / 10 < 10
            · rw [nDigits_small h4]; omega
            · rw [nDigits_big h4, nDigits_small (by omega)]; omega
      rw [if_neg this]
  cases ht : tailL v.natAbs with
  | nil =>
    rw [ht] at key
    apply key [] false rfl
    · rw [show dotL [] = [] from rfl, List.append_nil, cutD_none _ (dot_not (decDigits_all _))]
    · rfl
  | cons a b =>
    rw [ht] at key t2 t3 t4
    apply key (a :: b) true rfl
    · rw [show dotL (a :: b) = 46 :: a :: b from rfl, cutD_hit _ _ (dot_not (decDigits_all _))]
    · simp only [t2, t3, decide_true, Bool.not_true, Bool.false_or, Bool.true_and, Bool.not_false, Bool.and_true]
      unfold digOnly; rw [t4]; rfl
end Go.Proofs.YtbnpaeejlfaboaaGreatDoor.L2

namespace Go.Proofs.YtbnpaeejlfaboaaGreatDoor.L2
open Go.RowKit Go.Lib
set_option linter.unusedVariables false
theorem bytes_ext (w : World) (e : TypeId) (s : ByteArray) : Ext w (Lib.bytesWorld w e s) :=
  ⟨⟨rfl, rfl, rfl, by rw [Lib.bytesWorld_size]; omega, fun k hk => Lib.bytesWorld_at_old w e s k hk⟩⟩
theorem valL_take (l : List UInt8) (k : Nat) : valL (l.take k) ≤ valL l := by
  have h := valL_append (l.take k) (l.drop k)
  rw [List.take_append_drop] at h
  have : valL (l.take k) * 1 ≤ valL (l.take k) * 10 ^ (l.drop k).length := Nat.mul_le_mul_left _ (Nat.pos_of_ne_zero (by simp))
  omega
theorem times10 (x y : Nat) (hy : y = 10 * x) (w : World) (h10 : y ≤ 1000000000000000) :
    Calls Tryz.prog 194 #[.int .i64 (x : Int), .int .i64 10] w fun e w' => e = .returned (.tuple #[.int .i64 (y : Int), .int .i64 0]) ∧ Ext w w' := by
  refine (times_ok (x : Int) 10 w ⟨by omega, by omega⟩ ⟨by omega, by omega⟩ (by unfold mag; simp; omega)).mono ?_
  rintro e w' ⟨rfl, hx⟩
  exact ⟨by rw [show (x : Int) * 10 = (y : Int) by omega], hx⟩
theorem plus10 (y d z : Nat) (hz : z = y + d) (w : World) (h : z ≤ 1000000000000000) :
    Calls Tryz.prog 195 #[.int .i64 (y : Int), .int .i64 (d : Int)] w fun e w' => e = .returned (.tuple #[.int .i64 (z : Int), .int .i64 0]) ∧ Ext w w' := by
  refine (plus_ok (y : Int) (d : Int) w (by omega) (by omega) (by omega) (by omega) (by omega) (by omega)).mono ?_
  rintro e w' ⟨rfl, hx⟩
  exact ⟨by rw [show (y : Int) + (d : Int) = (z : Int) by omega], hx⟩
theorem plus10_no (y d : Nat) (w : World) (hy : y ≤ 1000000000000000) (hd : d ≤ 9) (h : 1000000000000000 < y + d) :
    Calls Tryz.prog 195 #[.int .i64 (y : Int), .int .i64 (d : Int)] w fun e w' => e = .returned (.tuple #[.int .i64 0, .int .i64 3]) ∧ Ext w w' :=
  plus_noS (y : Int) (d : Int) w (by omega) (by omega) (by omega) (by omega) (by omega)
theorem times10_no (x : Nat) (w : World) (h : x ≤ 1000000000000000) (h10 : 1000000000000000 < x * 10) :
    Calls Tryz.prog 194 #[.int .i64 (x : Int), .int .i64 10] w fun e w' => e = .returned (.tuple #[.int .i64 0, .int .i64 3]) ∧ Ext w w' :=
  times_no (x : Int) 10 w ⟨by omega, by omega⟩ ⟨by omega, by omega⟩ (by unfold mag; simp; omega)
set_option maxHeartbeats 1000000 in
theorem number_any (l : List UInt8) (w : World) (hl : l.length ≤ 100) (ha : l.all isD = true) :
    Calls Tryz.prog 161 #[.string ⟨l.toArray⟩] w fun e w' => ((valL l ≤ 1000000000000000 ∧ e = .returned (.int .i64 (valL l : Nat))) ∨ (1000000000000000 < valL l ∧ e = .panicked [{ v := .iface 29 (.int .i64 3), recovered := false }])) ∧ Ext w w' := by
  have hcv := fun (w : World) (s : ByteArray) => Lib.run_convert_string_bytes (P := Tryz.prog) w 9 69 5 s Tryz.underlying9 Tryz.underlying69 Tryz.underlying5
  have HA := show Hid _ from ha
  clear ha
  go_enter Tryz.func161, Tryz.ntmps161
  go_wp2
  go_loopw [3, 9] (fun v i wr => ∃ k : Nat, k ≤ l.length ∧ i = .int .i64 k ∧ v = .int .i64 (valL (l.take k) : Nat) ∧ valL (l.take k) ≤ 1000000000000000 ∧ Hid (Ext (Lib.bytesWorld w 5 ⟨l.toArray⟩) wr)) (fun _ i _ => l.length - (RowKit.intOf i).toNat)
  case atStart => exact ⟨0, Nat.zero_le _, rfl, rfl, Nat.zero_le _, Ext.refl _⟩
  case round =>
    obtain ⟨k, hk, rfl, rfl, hb, hx⟩ := hrel
    clear hcv
    by_cases hlt : k < l.length
    · obtain ⟨c, hc⟩ : ∃ c, l[k]? = some c := ⟨l[k], List.getElem?_eq_getElem hlt⟩
      have hd : isD c = true := all_mem HA.out (List.mem_of_getElem? hc)
      have hr := isD_range hd
      have hstep : valL (l.take (k + 1)) = 10 * valL (l.take k) + (c.toNat - 48) := by
        rw [List.take_add_one, hc, Option.toList_some, valL_snoc]
      have hle := valL_take l (k + 1)
      have hcell : wr.cell? ⟨w.heap.size, k, none⟩ = some (.int .u8 (c.toNat : Int)) := by
        rw [hx.out.cell _ _ (by rw [Lib.bytesWorld_size]; omega), Lib.bytesWorld_cell _ _ _ _ (by rw [Lib.size_mk]; exact hlt)]
        simp [List.getD, hc]
      have hltI : (k : Int) < (l.length : Int) := by omega
      have hk0 : (0 : Int) ≤ (k : Int) := by omega
      have hwk : wrap64 ((k : Int) + 1) = (k : Int) + 1 := by unfold wrap64; omega
      have hw8 : IntKind.u8.wrap ((c.toNat : Int) - 48) = ((c.toNat - 48 : Nat) : Int) := by
        rw [IntKind.wrap_u8]; omega
      have HC := show Hid _ from hc
      have HD := show Hid _ from hd
      have HS := show Hid _ from hstep
      have HL := show Hid _ from hle
      have HR := show Hid _ from hr
      clear hc hd hstep hle hr
      generalize hX : valL (l.take k) = X at *
      have HX := show Hid _ from hX
      clear hX
      obtain ⟨D, hDn⟩ : ∃ D : Nat, D = c.toNat - 48 := ⟨_, rfl⟩
      have hD9 : D ≤ 9 := by have := HR.out; omega
      rw [← hDn] at HS hw8
      replace hDn := show Hid _ from hDn
      obtain ⟨Y, hY⟩ : ∃ Y : Nat, Y = 10 * X := ⟨_, rfl⟩
      obtain ⟨Z, hZ⟩ : ∃ Z : Nat, Z = Y + D := ⟨_, rfl⟩
      have hZs : valL (l.take (k + 1)) = Z := by have := HS.out; omega
      replace hY := show Hid _ from hY
      replace hZ := show Hid _ from hZ
      replace hZs := show Hid _ from hZs
      replace hb := show Hid _ from hb
      have HX0 := show Hid _ from hx.out.below.size
      by_cases h10 : Y ≤ 1000000000000000
      · replace h10 := show Hid _ from h10
        by_cases hs : Z ≤ 1000000000000000
        · replace hs := show Hid _ from hs
          go_wp2_with fail
          refine (times10 X Y hY.out _ h10.out).mono ?_
          rintro e w1 ⟨rfl, hx1⟩
          go_wp2_with fail
          refine (sure_ok _ _).mono ?_
          rintro e w2 ⟨rfl, rfl⟩
          go_wp2_with fail
          refine (plus10 Y D Z hZ.out _ hs.out).mono ?_
          rintro e w3 ⟨rfl, hx3⟩
          go_wp2_with fail
          refine (sure_ok _ _).mono ?_
          rintro e w4 ⟨rfl, rfl⟩
          clear hcell hw8
          go_wp2
          go_roundw
          case rel => exact ⟨k + 1, by omega, by go_num, by rw [hZs.out], by rw [hZs.out]; exact hs.out, (hx.out.trans hx1).trans hx3⟩
          case measure => simp [RowKit.intOf]; omega
        · replace hs : Hid (1000000000000000 < Z) := by show 1000000000000000 < Z; omega
          go_wp2_with fail
          refine (times10 X Y hY.out _ h10.out).mono ?_
          rintro e w1 ⟨rfl, hx1⟩
          go_wp2_with fail
          refine (sure_ok _ _).mono ?_
          rintro e w2 ⟨rfl, rfl⟩
          go_wp2_with fail
          refine (plus10_no Y D _ h10.out hD9 (by have := hs.out; have := hZ.out; omega)).mono ?_
          rintro e w3 ⟨rfl, hx3⟩
          go_wp2_with fail
          refine (sure_no _).mono ?_
          rintro e w4 ⟨rfl, rfl⟩
          clear hcell hw8
          go_wp2
          exact ⟨rfl, Or.inr ⟨by have := hs.out; have := hZs.out; have := HL.out; omega, rfl⟩, (((bytes_ext _ _ _).trans hx.out).trans hx1).trans hx3⟩
      · replace h10 : Hid (1000000000000000 < Y) := by show 1000000000000000 < Y; omega
        go_wp2_with fail
        refine (times10_no X _ hb.out (by have := h10.out; have := hY.out; omega)).mono ?_
        rintro e w1 ⟨rfl, hx1⟩
        go_wp2_with fail
        refine (sure_no _).mono ?_
        rintro e w2 ⟨rfl, rfl⟩
        clear hcell hw8
        go_wp2
        exact ⟨rfl, Or.inr ⟨by have := h10.out; have := hZ.out; have := hZs.out; have := HL.out; omega, rfl⟩, ((bytes_ext _ _ _).trans hx.out).trans hx1⟩
    · have hkl : k = l.length := by omega
      subst hkl
      have e1 : l.take l.length = l := List.take_length
      rw [e1] at hb ⊢
      go_wp2
      go_ret
      exact ⟨Or.inl ⟨hb, rfl⟩, (bytes_ext _ _ _).trans hx.out⟩
theorem number_ok (l : List UInt8) (w : World) (hl : l.length ≤ 100) (ha : l.all isD = true) (n : Nat) (hn : valL l = n) (hv : n ≤ 1000000000000000) :
    Calls Tryz.prog 161 #[.string ⟨l.toArray⟩] w fun e w' => e = .returned (.int .i64 (n : Int)) ∧ Ext w w' := by
  refine (number_any l w hl ha).mono ?_
  rintro e w' ⟨h, hx⟩
  rcases h with ⟨_, rfl⟩ | ⟨h, _⟩
  · exact ⟨by rw [hn], hx⟩
  · omega
theorem number_no (l : List UInt8) (w : World) (hl : l.length ≤ 100) (ha : l.all isD = true) (hv : 1000000000000000 < valL l) :
    Calls Tryz.prog 161 #[.string ⟨l.toArray⟩] w fun e w' => e = .panicked [{ v := .iface 29 (.int .i64 3), recovered := false }] ∧ Ext w w' := by
  refine (number_any l w hl ha).mono ?_
  rintro e w' ⟨h, hx⟩
  rcases h with ⟨h, _⟩ | ⟨_, rfl⟩
  · omega
  · exact ⟨rfl, hx⟩
end Go.Proofs.YtbnpaeejlfaboaaGreatDoor.L2

namespace Go.Proofs.YtbnpaeejlfaboaaGreatDoor.L2
open Go.RowKit Go.Lib
set_option linter.unusedVariables false
/-- A face's two results have their cells, and nothing that was there has turned. -/
structure Fr (w w1 : World) : Prop where
  ext : Ext w w1
  gp : w1.cell? ⟨w.heap.size, 0, none⟩ = some (.int .i64 0)
  gq : w1.cell? ⟨w.heap.size + 1, 0, none⟩ = some (.int .i64 0)
  gpz : w1.frozen? ⟨w.heap.size, 0, none⟩ = false
  gqz : w1.frozen? ⟨w.heap.size + 1, 0, none⟩ = false
theorem Fr.step {w w1 w2 : World} (h : Fr w w1) (hx : Ext w1 w2) : Fr w w2 :=
  ⟨h.ext.trans hx, by rw [hx.cell _ _ (lt_of_cell h.gp)]; exact h.gp, by rw [hx.cell _ _ (lt_of_cell h.gq)]; exact h.gq,
    by rw [hx.froz _ _ (lt_of_cell h.gp)]; exact h.gpz, by rw [hx.froz _ _ (lt_of_cell h.gq)]; exact h.gqz⟩
theorem Fr.start {w w1 : World} {t t' : TypeId} (hx : Ext ((w.alloc (.cells #[.int .i64 0] t)).alloc (.cells #[.int .i64 0] t')) w1) : Fr w w1 :=
  ⟨(by exact ((Ext.refl w).alloc _ _).alloc _ _ : Ext w _).trans hx, by rw [hx.cell _ _ (by simp; omega)]; simp [go_sem], by rw [hx.cell _ _ (by simp)]; simp [go_sem],
    by rw [hx.froz _ _ (by simp; omega)]; simp [go_sem], by rw [hx.froz _ _ (by simp)]; simp [go_sem]⟩
theorem cutSign_x (l sg r : List UInt8) (h1 : cutL l = sg) (h2 : trimPrefix l [45] = r) (w : World) :
    Calls Tryz.prog 157 #[.string ⟨l.toArray⟩] w fun e w' => e = .returned (.tuple #[.string ⟨sg.toArray⟩, .string ⟨r.toArray⟩]) ∧ Ext w w' := by
  refine (cutSign_c l w).mono ?_
  rintro e w' ⟨rfl, rfl⟩
  rw [h1, h2]
  exact ⟨rfl, Ext.refl _⟩
theorem cut_c (r W P : List UInt8) (B : Bool) (h : cut r [46] = (W, P, B)) (w : World) (hl : r.length ≤ 20000) (he : Env w) :
    Calls Tryz.prog 120 #[.string ⟨r.toArray⟩, .string ⟨#[46]⟩] w fun e w' => e = .returned (.tuple #[.string ⟨W.toArray⟩, .string ⟨P.toArray⟩, .bool B]) ∧ Ext w w' := by
  obtain ⟨⟨m, hm⟩, _⟩ := he
  refine (Tryz.strings_Cut ⟨r.toArray⟩ ⟨#[46]⟩ m w (by rw [Lib.size_mk]; omega) hm).mono ?_
  rintro e w' ⟨rfl, n, rfl⟩
  have h' : cut (⟨r.toArray⟩ : ByteArray).data.toList (⟨#[46]⟩ : ByteArray).data.toList = (W, P, B) := h
  rw [h']
  exact ⟨rfl, (Ext.refl w).drewN n⟩
theorem cutSuffix_c (l p : List UInt8) (f : Bool) (h1 : trimSuffix l [37] = p) (h2 : hasSuffix l [37] = f) (hl : l.length ≤ 20000) (w : World) :
    Calls Tryz.prog 155 #[.string ⟨l.toArray⟩, .string ⟨#[37]⟩] w fun e w' => e = .returned (.tuple #[.string ⟨p.toArray⟩, .bool f]) ∧ Ext w w' := by
  refine (Tryz.strings_CutSuffix ⟨l.toArray⟩ ⟨#[37]⟩ w (by rw [Lib.size_mk]; omega)).mono ?_
  rintro e w' ⟨rfl, rfl⟩
  have h1' : trimSuffix (⟨l.toArray⟩ : ByteArray).data.toList (⟨#[37]⟩ : ByteArray).data.toList = p := h1
  have h2' : hasSuffix (⟨l.toArray⟩ : ByteArray).data.toList (⟨#[37]⟩ : ByteArray).data.toList = f := h2
  rw [h1', h2']
  exact ⟨rfl, Ext.refl _⟩
theorem hasSuffix_c (l : List UInt8) (f : Bool) (h2 : hasSuffix l [48] = f) (hl : l.length ≤ 20000) (w : World) :
    Calls Tryz.prog 160 #[.string ⟨l.toArray⟩, .string ⟨#[48]⟩] w fun e w' => e = .returned (.bool f) ∧ Ext w w' := by
  refine (Tryz.strings_HasSuffix ⟨l.toArray⟩ ⟨#[48]⟩ w (by rw [Lib.size_mk]; omega)).mono ?_
  rintro e w' ⟨rfl, rfl⟩
  have h2' : hasSuffix (⟨l.toArray⟩ : ByteArray).data.toList (⟨#[48]⟩ : ByteArray).data.toList = f := h2
  rw [h2']
  exact ⟨rfl, Ext.refl _⟩
theorem digitsOnly_x (l : List UInt8) (b : Bool) (h : digOnly l = b) (w : World) (hl : l.length ≤ 20000) :
    Calls Tryz.prog 159 #[.string ⟨l.toArray⟩] w fun e w' => e = .returned (.bool b) ∧ Ext w w' := h ▸ digitsOnly_c l w hl
theorem needForm_okx (w : World) : Calls Tryz.prog 156 #[.bool true] w fun e w' => e = .returned (.tuple #[]) ∧ Ext w w' :=
  (needForm_ok w).mono fun _ _ ⟨h, k⟩ => ⟨h, k ▸ Ext.refl _⟩
theorem needForm_nox (w : World) : Calls Tryz.prog 156 #[.bool false] w fun e w' => e = .panicked [{ v := .iface 29 (.int .i64 4), recovered := false }] ∧ Ext w w' :=
  (needForm_no w).mono fun _ _ ⟨h, k⟩ => ⟨h, k ▸ Ext.refl _⟩
theorem signed_posx (n : Int) (w : World) :
    Calls Tryz.prog 163 #[.string ⟨#[]⟩, .int .i64 n] w fun e w' => e = .returned (.int .i64 n) ∧ Ext w w' :=
  (signed_pos n w).mono fun _ _ ⟨h, k⟩ => ⟨h, k ▸ Ext.refl _⟩
theorem signed_negx (n : Int) (w : World) (h0 : 0 < n) (h1 : n ≤ 1000000000000000) :
    Calls Tryz.prog 163 #[.string ⟨#[45]⟩, .int .i64 n] w fun e w' => e = .returned (.int .i64 (-n)) ∧ Ext w w' :=
  (signed_neg n w h0 h1).mono fun _ _ ⟨h, k⟩ => ⟨h, k ▸ Ext.refl _⟩
theorem signed_nilx (w : World) :
    Calls Tryz.prog 163 #[.string ⟨#[45]⟩, .int .i64 0] w fun e w' => e = .panicked [{ v := .iface 29 (.int .i64 4), recovered := false }] ∧ Ext w w' :=
  (signed_nil w).mono fun _ _ ⟨h, k⟩ => ⟨h, k ▸ Ext.refl _⟩
theorem tm_whole (l sg r W P : List UInt8) (B : Bool) (w : World) (h1 : cutL l = sg) (h2 : trimPrefix l [45] = r) (h3 : cut r [46] = (W, P, B)) (hr : r.length ≤ 20000) (hW : W.length ≤ 20000) (hP : P.length ≤ 20000) (he : Env w) (ho : okWhole W 20 = false) :
    Calls Tryz.prog 128 #[.string ⟨l.toArray⟩] w fun e w' => e = .returned (.tuple #[.int .i64 0, .int .i64 4]) ∧ Ext w w' := by
  have hmf := make_func
  replace h1 := show Hid _ from h1
  replace h2 := show Hid _ from h2
  replace h3 := show Hid _ from h3
  replace hr := show Hid _ from hr
  replace hW := show Hid _ from hW
  replace hP := show Hid _ from hP
  replace he := show Hid _ from he
  replace ho := show Hid _ from ho
  go_enter_defers Tryz.func128, Tryz.ntmps128
  go_wp2_with fail
  refine (cutSign_x l sg r h1.out h2.out _).mono ?_
  rintro e w1 ⟨rfl, hx⟩
  have hF : Hid (Fr w w1) := Fr.start hx
  clear hx
  go_wp2_with fail
  refine (cut_c r W P B h3.out _ hr.out (Env.ext he.out hF.out.ext)).mono ?_
  rintro e w2 ⟨rfl, hx⟩
  replace hF : Hid (Fr w w2) := hF.out.step hx
  clear hx
  go_wp2_with fail
  refine (needWhole_no W 20 _ hW.out (by omega) ho.out).mono ?_
  rintro e w2 ⟨rfl, hx⟩
  replace hF : Hid (Fr w w2) := hF.out.step hx
  clear hx
  obtain ⟨hx0, gp, gq, gpz, gqz⟩ := hF.out
  clear hF
  replace hx0 : Hid (Ext _ _) := hx0
  go_wp2
  replace hx0 := hx0.out
  refine leaves_cons (f := 164) (args := #[.pointer (some ⟨w.heap.size, 0, none⟩), .pointer (some ⟨w.heap.size + 1, 0, none⟩)]) (by simp) (by simp [go_sem]) ?_
  refine (tm_catch w.heap.size 4 0 0 [] _ ?_ ?_ ?_ ?_).mono ?_
  · simp [go_sem, gp]
  · simp [go_sem, gq]
  · simp [go_sem, gpz]
  · simp [go_sem, gqz]
  rintro e u' w'' ⟨rfl, rfl, w3, hy, rfl⟩
  have hs1 := lt_of_cell gp
  have hs := lt_of_cell gq
  have hp2 : (w3.cell? ⟨w.heap.size, 0, none⟩).isSome = true := by rw [hy.cell _ _ (by simpa [World.setCell] using hs1)]; simp [go_sem, gp]
  have hq2 : (w3.cell? ⟨w.heap.size + 1, 0, none⟩).isSome = true := by rw [hy.cell _ _ (by simpa [World.setCell] using hs)]; simp [go_sem, gq]
  obtain ⟨vp, hp2⟩ := Option.isSome_iff_exists.1 hp2
  obtain ⟨vq, hq2⟩ := Option.isSome_iff_exists.1 hq2
  simp [Leaves, Go.settle, results, Tryz.results128, go_sem, hp2, hq2]
  refine ((Ext.trans ?_ hy).setCell (Nat.le_refl _) _).setCell (by show w.heap.size ≤ w.heap.size + 1; omega) _
  exact hx0
theorem tm_len (l sg r W P : List UInt8) (B : Bool) (w : World) (h1 : cutL l = sg) (h2 : trimPrefix l [45] = r) (h3 : cut r [46] = (W, P, B)) (hr : r.length ≤ 20000) (hW : W.length ≤ 20000) (hP : P.length ≤ 20000) (he : Env w) (ho : okWhole W 20 = true) (hne : ((P.length : Int) == 2) = false) :
    Calls Tryz.prog 128 #[.string ⟨l.toArray⟩] w fun e w' => e = .returned (.tuple #[.int .i64 0, .int .i64 4]) ∧ Ext w w' := by
  have hmf := make_func
  replace h1 := show Hid _ from h1
  replace h2 := show Hid _ from h2
  replace h3 := show Hid _ from h3
  replace hr := show Hid _ from hr
  replace hW := show Hid _ from hW
  replace hP := show Hid _ from hP
  replace he := show Hid _ from he
  replace ho := show Hid _ from ho
  go_enter_defers Tryz.func128, Tryz.ntmps128
  go_wp2_with fail
  refine (cutSign_x l sg r h1.out h2.out _).mono ?_
  rintro e w1 ⟨rfl, hx⟩
  have hF : Hid (Fr w w1) := Fr.start hx
  clear hx
  go_wp2_with fail
  refine (cut_c r W P B h3.out _ hr.out (Env.ext he.out hF.out.ext)).mono ?_
  rintro e w2 ⟨rfl, hx⟩
  replace hF : Hid (Fr w w2) := hF.out.step hx
  clear hx
  go_wp2_with fail
  refine (needWhole_ok W 20 _ hW.out (by omega) ho.out).mono ?_
  rintro e w2 ⟨rfl, hx⟩
  replace hF : Hid (Fr w w2) := hF.out.step hx
  clear hx
  go_wp2_with fail
  refine (needForm_nox _).mono ?_
  rintro e w2 ⟨rfl, hx⟩
  replace hF : Hid (Fr w w2) := hF.out.step hx
  clear hx
  obtain ⟨hx0, gp, gq, gpz, gqz⟩ := hF.out
  clear hF
  replace hx0 : Hid (Ext _ _) := hx0
  go_wp2
  replace hx0 := hx0.out
  refine leaves_cons (f := 164) (args := #[.pointer (some ⟨w.heap.size, 0, none⟩), .pointer (some ⟨w.heap.size + 1, 0, none⟩)]) (by simp) (by simp [go_sem]) ?_
  refine (tm_catch w.heap.size 4 0 0 [] _ ?_ ?_ ?_ ?_).mono ?_
  · simp [go_sem, gp]
  · simp [go_sem, gq]
  · simp [go_sem, gpz]
  · simp [go_sem, gqz]
  rintro e u' w'' ⟨rfl, rfl, w3, hy, rfl⟩
  have hs1 := lt_of_cell gp
  have hs := lt_of_cell gq
  have hp2 : (w3.cell? ⟨w.heap.size, 0, none⟩).isSome = true := by rw [hy.cell _ _ (by simpa [World.setCell] using hs1)]; simp [go_sem, gp]
  have hq2 : (w3.cell? ⟨w.heap.size + 1, 0, none⟩).isSome = true := by rw [hy.cell _ _ (by simpa [World.setCell] using hs)]; simp [go_sem, gq]
  obtain ⟨vp, hp2⟩ := Option.isSome_iff_exists.1 hp2
  obtain ⟨vq, hq2⟩ := Option.isSome_iff_exists.1 hq2
  simp [Leaves, Go.settle, results, Tryz.results128, go_sem, hp2, hq2]
  refine ((Ext.trans ?_ hy).setCell (Nat.le_refl _) _).setCell (by show w.heap.size ≤ w.heap.size + 1; omega) _
  exact hx0
theorem tm_part (l sg r W P : List UInt8) (B : Bool) (w : World) (h1 : cutL l = sg) (h2 : trimPrefix l [45] = r) (h3 : cut r [46] = (W, P, B)) (hr : r.length ≤ 20000) (hW : W.length ≤ 20000) (hP : P.length ≤ 20000) (he : Env w) (ho : okWhole W 20 = true) (hl2 : P.length = 2) (hd : digOnly P = false) :
    Calls Tryz.prog 128 #[.string ⟨l.toArray⟩] w fun e w' => e = .returned (.tuple #[.int .i64 0, .int .i64 4]) ∧ Ext w w' := by
  have hmf := make_func
  replace h1 := show Hid _ from h1
  replace h2 := show Hid _ from h2
  replace h3 := show Hid _ from h3
  replace hr := show Hid _ from hr
  replace hW := show Hid _ from hW
  replace hP := show Hid _ from hP
  replace he := show Hid _ from he
  replace ho := show Hid _ from ho
  replace hd := show Hid _ from hd
  go_enter_defers Tryz.func128, Tryz.ntmps128
  go_wp2_with fail
  refine (cutSign_x l sg r h1.out h2.out _).mono ?_
  rintro e w1 ⟨rfl, hx⟩
  have hF : Hid (Fr w w1) := Fr.start hx
  clear hx
  go_wp2_with fail
  refine (cut_c r W P B h3.out _ hr.out (Env.ext he.out hF.out.ext)).mono ?_
  rintro e w2 ⟨rfl, hx⟩
  replace hF : Hid (Fr w w2) := hF.out.step hx
  clear hx
  go_wp2_with fail
  refine (needWhole_ok W 20 _ hW.out (by omega) ho.out).mono ?_
  rintro e w2 ⟨rfl, hx⟩
  replace hF : Hid (Fr w w2) := hF.out.step hx
  clear hx
  go_wp2_with fail
  refine (digitsOnly_x P false hd.out _ hP.out).mono ?_
  rintro e w2 ⟨rfl, hx⟩
  replace hF : Hid (Fr w w2) := hF.out.step hx
  clear hx
  go_wp2_with fail
  refine (needForm_nox _).mono ?_
  rintro e w2 ⟨rfl, hx⟩
  replace hF : Hid (Fr w w2) := hF.out.step hx
  clear hx
  obtain ⟨hx0, gp, gq, gpz, gqz⟩ := hF.out
  clear hF
  replace hx0 : Hid (Ext _ _) := hx0
  go_wp2
  replace hx0 := hx0.out
  refine leaves_cons (f := 164) (args := #[.pointer (some ⟨w.heap.size, 0, none⟩), .pointer (some ⟨w.heap.size + 1, 0, none⟩)]) (by simp) (by simp [go_sem]) ?_
  refine (tm_catch w.heap.size 4 0 0 [] _ ?_ ?_ ?_ ?_).mono ?_
  · simp [go_sem, gp]
  · simp [go_sem, gq]
  · simp [go_sem, gpz]
  · simp [go_sem, gqz]
  rintro e u' w'' ⟨rfl, rfl, w3, hy, rfl⟩
  have hs1 := lt_of_cell gp
  have hs := lt_of_cell gq
  have hp2 : (w3.cell? ⟨w.heap.size, 0, none⟩).isSome = true := by rw [hy.cell _ _ (by simpa [World.setCell] using hs1)]; simp [go_sem, gp]
  have hq2 : (w3.cell? ⟨w.heap.size + 1, 0, none⟩).isSome = true := by rw [hy.cell _ _ (by simpa [World.setCell] using hs)]; simp [go_sem, gq]
  obtain ⟨vp, hp2⟩ := Option.isSome_iff_exists.1 hp2
  obtain ⟨vq, hq2⟩ := Option.isSome_iff_exists.1 hq2
  simp [Leaves, Go.settle, results, Tryz.results128, go_sem, hp2, hq2]
  refine ((Ext.trans ?_ hy).setCell (Nat.le_refl _) _).setCell (by show w.heap.size ≤ w.heap.size + 1; omega) _
  exact hx0
theorem tm_range (l sg r W P : List UInt8) (B : Bool) (w : World) (h1 : cutL l = sg) (h2 : trimPrefix l [45] = r) (h3 : cut r [46] = (W, P, B)) (hr : r.length ≤ 20000) (hW : W.length ≤ 20000) (hP : P.length ≤ 20000) (he : Env w) (ho : okWhole W 20 = true) (hl2 : P.length = 2) (hd : digOnly P = true) (hWl : W.length ≤ 20) (hall : (W ++ P).all isD = true) (hv : 1000000000000000 < valL (W ++ P)) :
    Calls Tryz.prog 128 #[.string ⟨l.toArray⟩] w fun e w' => e = .returned (.tuple #[.int .i64 0, .int .i64 3]) ∧ Ext w w' := by
  have hmf := make_func
  replace h1 := show Hid _ from h1
  replace h2 := show Hid _ from h2
  replace h3 := show Hid _ from h3
  replace hr := show Hid _ from hr
  replace hW := show Hid _ from hW
  replace hP := show Hid _ from hP
  replace he := show Hid _ from he
  replace ho := show Hid _ from ho
  replace hd := show Hid _ from hd
  replace hall := show Hid _ from hall
  replace hv := show Hid _ from hv
  go_enter_defers Tryz.func128, Tryz.ntmps128
  go_wp2_with fail
  refine (cutSign_x l sg r h1.out h2.out _).mono ?_
  rintro e w1 ⟨rfl, hx⟩
  have hF : Hid (Fr w w1) := Fr.start hx
  clear hx
  go_wp2_with fail
  refine (cut_c r W P B h3.out _ hr.out (Env.ext he.out hF.out.ext)).mono ?_
  rintro e w2 ⟨rfl, hx⟩
  replace hF : Hid (Fr w w2) := hF.out.step hx
  clear hx
  go_wp2_with fail
  refine (needWhole_ok W 20 _ hW.out (by omega) ho.out).mono ?_
  rintro e w2 ⟨rfl, hx⟩
  replace hF : Hid (Fr w w2) := hF.out.step hx
  clear hx
  go_wp2_with fail
  refine (digitsOnly_x P true hd.out _ hP.out).mono ?_
  rintro e w2 ⟨rfl, hx⟩
  replace hF : Hid (Fr w w2) := hF.out.step hx
  clear hx
  go_wp2_with fail
  refine (needForm_okx _).mono ?_
  rintro e w2 ⟨rfl, hx⟩
  replace hF : Hid (Fr w w2) := hF.out.step hx
  clear hx
  have hbig : ¬ 9223372036854775807 < W.length + 2 := by omega
  go_wp2_with fail
  refine (number_no (W ++ P) _ (by simp; omega) hall.out hv.out).mono ?_
  rintro e w2 ⟨rfl, hx⟩
  replace hF : Hid (Fr w w2) := hF.out.step hx
  clear hx
  obtain ⟨hx0, gp, gq, gpz, gqz⟩ := hF.out
  clear hF
  replace hx0 : Hid (Ext _ _) := hx0
  go_wp2
  replace hx0 := hx0.out
  refine leaves_cons (f := 164) (args := #[.pointer (some ⟨w.heap.size, 0, none⟩), .pointer (some ⟨w.heap.size + 1, 0, none⟩)]) (by simp) (by simp [go_sem]) ?_
  refine (tm_catch w.heap.size 3 0 0 [] _ ?_ ?_ ?_ ?_).mono ?_
  · simp [go_sem, gp]
  · simp [go_sem, gq]
  · simp [go_sem, gpz]
  · simp [go_sem, gqz]
  rintro e u' w'' ⟨rfl, rfl, w3, hy, rfl⟩
  have hs1 := lt_of_cell gp
  have hs := lt_of_cell gq
  have hp2 : (w3.cell? ⟨w.heap.size, 0, none⟩).isSome = true := by rw [hy.cell _ _ (by simpa [World.setCell] using hs1)]; simp [go_sem, gp]
  have hq2 : (w3.cell? ⟨w.heap.size + 1, 0, none⟩).isSome = true := by rw [hy.cell _ _ (by simpa [World.setCell] using hs)]; simp [go_sem, gq]
  obtain ⟨vp, hp2⟩ := Option.isSome_iff_exists.1 hp2
  obtain ⟨vq, hq2⟩ := Option.isSome_iff_exists.1 hq2
  simp [Leaves, Go.settle, results, Tryz.results128, go_sem, hp2, hq2]
  refine ((Ext.trans ?_ hy).setCell (Nat.le_refl _) _).setCell (by show w.heap.size ≤ w.heap.size + 1; omega) _
  exact hx0
theorem tm_pos (l r W P : List UInt8) (B : Bool) (w : World) (h1 : cutL l = []) (h2 : trimPrefix l [45] = r) (h3 : cut r [46] = (W, P, B)) (hr : r.length ≤ 20000) (hW : W.length ≤ 20000) (hP : P.length ≤ 20000) (he : Env w) (ho : okWhole W 20 = true) (hl2 : P.length = 2) (hd : digOnly P = true) (hWl : W.length ≤ 20) (hall : (W ++ P).all isD = true) (n : Nat) (hn : valL (W ++ P) = n) (hv : n ≤ 1000000000000000) :
    Calls Tryz.prog 128 #[.string ⟨l.toArray⟩] w fun e w' => e = .returned (.tuple #[.int .i64 (n : Int), .int .i64 0]) ∧ Ext w w' := by
  have hmf := make_func
  replace h1 := show Hid _ from h1
  replace h2 := show Hid _ from h2
  replace h3 := show Hid _ from h3
  replace hr := show Hid _ from hr
  replace hW := show Hid _ from hW
  replace hP := show Hid _ from hP
  replace he := show Hid _ from he
  replace ho := show Hid _ from ho
  replace hd := show Hid _ from hd
  replace hall := show Hid _ from hall
  replace hn := show Hid _ from hn
  replace hv := show Hid _ from hv
  go_enter_defers Tryz.func128, Tryz.ntmps128
  go_wp2_with fail
  refine (cutSign_x l [] r h1.out h2.out _).mono ?_
  rintro e w1 ⟨rfl, hx⟩
  have hF : Hid (Fr w w1) := Fr.start hx
  clear hx
  go_wp2_with fail
  refine (cut_c r W P B h3.out _ hr.out (Env.ext he.out hF.out.ext)).mono ?_
  rintro e w2 ⟨rfl, hx⟩
  replace hF : Hid (Fr w w2) := hF.out.step hx
  clear hx
  go_wp2_with fail
  refine (needWhole_ok W 20 _ hW.out (by omega) ho.out).mono ?_
  rintro e w2 ⟨rfl, hx⟩
  replace hF : Hid (Fr w w2) := hF.out.step hx
  clear hx
  go_wp2_with fail
  refine (digitsOnly_x P true hd.out _ hP.out).mono ?_
  rintro e w2 ⟨rfl, hx⟩
  replace hF : Hid (Fr w w2) := hF.out.step hx
  clear hx
  go_wp2_with fail
  refine (needForm_okx _).mono ?_
  rintro e w2 ⟨rfl, hx⟩
  replace hF : Hid (Fr w w2) := hF.out.step hx
  clear hx
  have hbig : ¬ 9223372036854775807 < W.length + 2 := by omega
  go_wp2_with fail
  refine (number_ok (W ++ P) _ (by simp; omega) hall.out n hn.out hv.out).mono ?_
  rintro e w2 ⟨rfl, hx⟩
  replace hF : Hid (Fr w w2) := hF.out.step hx
  clear hx
  go_wp2_with fail
  refine (signed_posx _ _).mono ?_
  rintro e w2 ⟨rfl, hx⟩
  replace hF : Hid (Fr w w2) := hF.out.step hx
  clear hx
  obtain ⟨hx0, gp, gq, gpz, gqz⟩ := hF.out
  clear hF
  replace hx0 : Hid (Ext _ _) := hx0
  go_wp2
  replace hx0 := hx0.out
  refine leaves_cons (f := 164) (args := #[.pointer (some ⟨w.heap.size, 0, none⟩), .pointer (some ⟨w.heap.size + 1, 0, none⟩)]) (by simp) (by simp [go_sem]) ?_
  refine (tm_idle w.heap.size ((n : Int)) 0 _ ?_ ?_ ?_ ?_).mono ?_
  · simp [go_sem, gp]
  · simp [go_sem, gq]
  · simp [go_sem, gpz]
  · simp [go_sem, gqz]
  rintro e u' w'' ⟨rfl, rfl, w3, hy, rfl⟩
  have hs1 := lt_of_cell gp
  have hs := lt_of_cell gq
  have hp2 : (w3.cell? ⟨w.heap.size, 0, none⟩).isSome = true := by rw [hy.cell _ _ (by simpa [World.setCell] using hs1)]; simp [go_sem, gp]
  have hq2 : (w3.cell? ⟨w.heap.size + 1, 0, none⟩).isSome = true := by rw [hy.cell _ _ (by simpa [World.setCell] using hs)]; simp [go_sem, gq]
  obtain ⟨vp, hp2⟩ := Option.isSome_iff_exists.1 hp2
  obtain ⟨vq, hq2⟩ := Option.isSome_iff_exists.1 hq2
  simp [Leaves, Go.settle, results, Tryz.results128, go_sem, hp2, hq2]
  refine ((Ext.trans ?_ hy).setCell (Nat.le_refl _) _).setCell (by show w.heap.size ≤ w.heap.size + 1; omega) _
  exact (hx0.setCell (Nat.le_refl _) _).setCell (by show w.heap.size ≤ w.heap.size + 1; omega) _
theorem tm_neg (l r W P : List UInt8) (B : Bool) (w : World) (h1 : cutL l = [45]) (h2 : trimPrefix l [45] = r) (h3 : cut r [46] = (W, P, B)) (hr : r.length ≤ 20000) (hW : W.length ≤ 20000) (hP : P.length ≤ 20000) (he : Env w) (ho : okWhole W 20 = true) (hl2 : P.length = 2) (hd : digOnly P = true) (hWl : W.length ≤ 20) (hall : (W ++ P).all isD = true) (n : Nat) (hn : valL (W ++ P) = n) (hv : n ≤ 1000000000000000) (hn0 : 0 < n) :
    Calls Tryz.prog 128 #[.string ⟨l.toArray⟩] w fun e w' => e = .returned (.tuple #[.int .i64 (-(n : Int)), .int .i64 0]) ∧ Ext w w' := by
  have hmf := make_func
  replace h1 := show Hid _ from h1
  replace h2 := show Hid _ from h2
  replace h3 := show Hid _ from h3
  replace hr := show Hid _ from hr
  replace hW := show Hid _ from hW
  replace hP := show Hid _ from hP
  replace he := show Hid _ from he
  replace ho := show Hid _ from ho
  replace hd := show Hid _ from hd
  replace hall := show Hid _ from hall
  replace hn := show Hid _ from hn
  replace hv := show Hid _ from hv
  replace hn0 := show Hid _ from hn0
  go_enter_defers Tryz.func128, Tryz.ntmps128
  go_wp2_with fail
  refine (cutSign_x l [45] r h1.out h2.out _).mono ?_
  rintro e w1 ⟨rfl, hx⟩
  have hF : Hid (Fr w w1) := Fr.start hx
  clear hx
  go_wp2_with fail
  refine (cut_c r W P B h3.out _ hr.out (Env.ext he.out hF.out.ext)).mono ?_
  rintro e w2 ⟨rfl, hx⟩
  replace hF : Hid (Fr w w2) := hF.out.step hx
  clear hx
  go_wp2_with fail
  refine (needWhole_ok W 20 _ hW.out (by omega) ho.out).mono ?_
  rintro e w2 ⟨rfl, hx⟩
  replace hF : Hid (Fr w w2) := hF.out.step hx
  clear hx
  go_wp2_with fail
  refine (digitsOnly_x P true hd.out _ hP.out).mono ?_
  rintro e w2 ⟨rfl, hx⟩
  replace hF : Hid (Fr w w2) := hF.out.step hx
  clear hx
  go_wp2_with fail
  refine (needForm_okx _).mono ?_
  rintro e w2 ⟨rfl, hx⟩
  replace hF : Hid (Fr w w2) := hF.out.step hx
  clear hx
  have hbig : ¬ 9223372036854775807 < W.length + 2 := by omega
  go_wp2_with fail
  refine (number_ok (W ++ P) _ (by simp; omega) hall.out n hn.out hv.out).mono ?_
  rintro e w2 ⟨rfl, hx⟩
  replace hF : Hid (Fr w w2) := hF.out.step hx
  clear hx
  go_wp2_with fail
  refine (signed_negx (n : Int) _ (by have := hn0.out; omega) (by have := hv.out; omega)).mono ?_
  rintro e w2 ⟨rfl, hx⟩
  replace hF : Hid (Fr w w2) := hF.out.step hx
  clear hx
  obtain ⟨hx0, gp, gq, gpz, gqz⟩ := hF.out
  clear hF
  replace hx0 : Hid (Ext _ _) := hx0
  go_wp2
  replace hx0 := hx0.out
  refine leaves_cons (f := 164) (args := #[.pointer (some ⟨w.heap.size, 0, none⟩), .pointer (some ⟨w.heap.size + 1, 0, none⟩)]) (by simp) (by simp [go_sem]) ?_
  refine (tm_idle w.heap.size ((-(n : Int))) 0 _ ?_ ?_ ?_ ?_).mono ?_
  · simp [go_sem, gp]
  · simp [go_sem, gq]
  · simp [go_sem, gpz]
  · simp [go_sem, gqz]
  rintro e u' w'' ⟨rfl, rfl, w3, hy, rfl⟩
  have hs1 := lt_of_cell gp
  have hs := lt_of_cell gq
  have hp2 : (w3.cell? ⟨w.heap.size, 0, none⟩).isSome = true := by rw [hy.cell _ _ (by simpa [World.setCell] using hs1)]; simp [go_sem, gp]
  have hq2 : (w3.cell? ⟨w.heap.size + 1, 0, none⟩).isSome = true := by rw [hy.cell _ _ (by simpa [World.setCell] using hs)]; simp [go_sem, gq]
  obtain ⟨vp, hp2⟩ := Option.isSome_iff_exists.1 hp2
  obtain ⟨vq, hq2⟩ := Option.isSome_iff_exists.1 hq2
  simp [Leaves, Go.settle, results, Tryz.results128, go_sem, hp2, hq2]
  refine ((Ext.trans ?_ hy).setCell (Nat.le_refl _) _).setCell (by show w.heap.size ≤ w.heap.size + 1; omega) _
  exact (hx0.setCell (Nat.le_refl _) _).setCell (by show w.heap.size ≤ w.heap.size + 1; omega) _
theorem tm_nil (l r W P : List UInt8) (B : Bool) (w : World) (h1 : cutL l = [45]) (h2 : trimPrefix l [45] = r) (h3 : cut r [46] = (W, P, B)) (hr : r.length ≤ 20000) (hW : W.length ≤ 20000) (hP : P.length ≤ 20000) (he : Env w) (ho : okWhole W 20 = true) (hl2 : P.length = 2) (hd : digOnly P = true) (hWl : W.length ≤ 20) (hall : (W ++ P).all isD = true) (hn : valL (W ++ P) = 0) :
    Calls Tryz.prog 128 #[.string ⟨l.toArray⟩] w fun e w' => e = .returned (.tuple #[.int .i64 0, .int .i64 4]) ∧ Ext w w' := by
  have hmf := make_func
  replace h1 := show Hid _ from h1
  replace h2 := show Hid _ from h2
  replace h3 := show Hid _ from h3
  replace hr := show Hid _ from hr
  replace hW := show Hid _ from hW
  replace hP := show Hid _ from hP
  replace he := show Hid _ from he
  replace ho := show Hid _ from ho
  replace hd := show Hid _ from hd
  replace hall := show Hid _ from hall
  replace hn := show Hid _ from hn
  go_enter_defers Tryz.func128, Tryz.ntmps128
  go_wp2_with fail
  refine (cutSign_x l [45] r h1.out h2.out _).mono ?_
  rintro e w1 ⟨rfl, hx⟩
  have hF : Hid (Fr w w1) := Fr.start hx
  clear hx
  go_wp2_with fail
  refine (cut_c r W P B h3.out _ hr.out (Env.ext he.out hF.out.ext)).mono ?_
  rintro e w2 ⟨rfl, hx⟩
  replace hF : Hid (Fr w w2) := hF.out.step hx
  clear hx
  go_wp2_with fail
  refine (needWhole_ok W 20 _ hW.out (by omega) ho.out).mono ?_
  rintro e w2 ⟨rfl, hx⟩
  replace hF : Hid (Fr w w2) := hF.out.step hx
  clear hx
  go_wp2_with fail
  refine (digitsOnly_x P true hd.out _ hP.out).mono ?_
  rintro e w2 ⟨rfl, hx⟩
  replace hF : Hid (Fr w w2) := hF.out.step hx
  clear hx
  go_wp2_with fail
  refine (needForm_okx _).mono ?_
  rintro e w2 ⟨rfl, hx⟩
  replace hF : Hid (Fr w w2) := hF.out.step hx
  clear hx
  have hbig : ¬ 9223372036854775807 < W.length + 2 := by omega
  go_wp2_with fail
  refine (number_ok (W ++ P) _ (by simp; omega) hall.out 0 hn.out (by omega)).mono ?_
  rintro e w2 ⟨rfl, hx⟩
  replace hF : Hid (Fr w w2) := hF.out.step hx
  clear hx
  go_wp2_with fail
  refine (signed_nilx _).mono ?_
  rintro e w2 ⟨rfl, hx⟩
  replace hF : Hid (Fr w w2) := hF.out.step hx
  clear hx
  obtain ⟨hx0, gp, gq, gpz, gqz⟩ := hF.out
  clear hF
  replace hx0 : Hid (Ext _ _) := hx0
  go_wp2
  replace hx0 := hx0.out
  refine leaves_cons (f := 164) (args := #[.pointer (some ⟨w.heap.size, 0, none⟩), .pointer (some ⟨w.heap.size + 1, 0, none⟩)]) (by simp) (by simp [go_sem]) ?_
  refine (tm_catch w.heap.size 4 0 0 [] _ ?_ ?_ ?_ ?_).mono ?_
  · simp [go_sem, gp]
  · simp [go_sem, gq]
  · simp [go_sem, gpz]
  · simp [go_sem, gqz]
  rintro e u' w'' ⟨rfl, rfl, w3, hy, rfl⟩
  have hs1 := lt_of_cell gp
  have hs := lt_of_cell gq
  have hp2 : (w3.cell? ⟨w.heap.size, 0, none⟩).isSome = true := by rw [hy.cell _ _ (by simpa [World.setCell] using hs1)]; simp [go_sem, gp]
  have hq2 : (w3.cell? ⟨w.heap.size + 1, 0, none⟩).isSome = true := by rw [hy.cell _ _ (by simpa [World.setCell] using hs)]; simp [go_sem, gq]
  obtain ⟨vp, hp2⟩ := Option.isSome_iff_exists.1 hp2
  obtain ⟨vq, hq2⟩ := Option.isSome_iff_exists.1 hq2
  simp [Leaves, Go.settle, results, Tryz.results128, go_sem, hp2, hq2]
  refine ((Ext.trans ?_ hy).setCell (Nat.le_refl _) _).setCell (by show w.heap.size ≤ w.heap.size + 1; omega) _
  exact hx0
end Go.Proofs.YtbnpaeejlfaboaaGreatDoor.L2

namespace Go.Proofs.YtbnpaeejlfaboaaGreatDoor.L2
open Go.RowKit Go.Lib
set_option linter.unusedVariables false
theorem noughts_x (n : Int) (Z : List UInt8) (hz : zeros n.toNat = Z) (w : World) (hn : n ≤ 100) (hn0 : -100 ≤ n) :
    Calls Tryz.prog 162 #[.int .i64 n] w fun e w' => e = .returned (.string ⟨Z.toArray⟩) ∧ Ext w w' := hz ▸ noughts_c n w hn hn0
theorem tr_form (l p : List UInt8) (w : World) (g1 : trimSuffix l [37] = p) (g2 : hasSuffix l [37] = false) (hl : l.length ≤ 20000) :
    Calls Tryz.prog 127 #[.string ⟨l.toArray⟩] w fun e w' => e = .returned (.tuple #[.int .i64 0, .int .i64 4]) ∧ Ext w w' := by
  have hmf := make_func
  replace g1 := show Hid _ from g1
  replace g2 := show Hid _ from g2
  replace hl := show Hid _ from hl
  go_enter_defers Tryz.func127, Tryz.ntmps127
  go_wp2_with fail
  refine (cutSuffix_c l p false g1.out g2.out hl.out _).mono ?_
  rintro e w1 ⟨rfl, hx⟩
  have hF : Hid (Fr w w1) := Fr.start hx
  clear hx
  go_wp2_with fail
  refine (needForm_nox _).mono ?_
  rintro e w2 ⟨rfl, hx⟩
  replace hF : Hid (Fr w w2) := hF.out.step hx
  clear hx
  obtain ⟨hx0, gp, gq, gpz, gqz⟩ := hF.out
  clear hF
  replace hx0 : Hid (Ext _ _) := hx0
  go_wp2
  replace hx0 := hx0.out
  refine leaves_cons (f := 153) (args := #[.pointer (some ⟨w.heap.size, 0, none⟩), .pointer (some ⟨w.heap.size + 1, 0, none⟩)]) (by simp) (by simp [go_sem]) ?_
  refine (tr_catch w.heap.size 4 0 0 [] _ ?_ ?_ ?_ ?_).mono ?_
  · simp [go_sem, gp]
  · simp [go_sem, gq]
  · simp [go_sem, gpz]
  · simp [go_sem, gqz]
  rintro e u' w'' ⟨rfl, rfl, w3, hy, rfl⟩
  have hs1 := lt_of_cell gp
  have hs := lt_of_cell gq
  have hp2 : (w3.cell? ⟨w.heap.size, 0, none⟩).isSome = true := by rw [hy.cell _ _ (by simpa [World.setCell] using hs1)]; simp [go_sem, gp]
  have hq2 : (w3.cell? ⟨w.heap.size + 1, 0, none⟩).isSome = true := by rw [hy.cell _ _ (by simpa [World.setCell] using hs)]; simp [go_sem, gq]
  obtain ⟨vp, hp2⟩ := Option.isSome_iff_exists.1 hp2
  obtain ⟨vq, hq2⟩ := Option.isSome_iff_exists.1 hq2
  simp [Leaves, Go.settle, results, Tryz.results127, go_sem, hp2, hq2]
  refine ((Ext.trans ?_ hy).setCell (Nat.le_refl _) _).setCell (by show w.heap.size ≤ w.heap.size + 1; omega) _
  exact hx0
theorem tr_whole (l p sg r W P : List UInt8) (B : Bool) (w : World) (g1 : trimSuffix l [37] = p) (g2 : hasSuffix l [37] = true) (hl : l.length ≤ 20000) (h1 : cutL p = sg) (h2 : trimPrefix p [45] = r) (h3 : cut r [46] = (W, P, B)) (hr : r.length ≤ 20000) (hW : W.length ≤ 20000) (hP : P.length ≤ 20000) (he : Env w) (ho : okWhole W 4 = false) :
    Calls Tryz.prog 127 #[.string ⟨l.toArray⟩] w fun e w' => e = .returned (.tuple #[.int .i64 0, .int .i64 4]) ∧ Ext w w' := by
  have hmf := make_func
  replace g1 := show Hid _ from g1
  replace g2 := show Hid _ from g2
  replace hl := show Hid _ from hl
  replace h1 := show Hid _ from h1
  replace h2 := show Hid _ from h2
  replace h3 := show Hid _ from h3
  replace hr := show Hid _ from hr
  replace hW := show Hid _ from hW
  replace hP := show Hid _ from hP
  replace he := show Hid _ from he
  replace ho := show Hid _ from ho
  go_enter_defers Tryz.func127, Tryz.ntmps127
  go_wp2_with fail
  refine (cutSuffix_c l p true g1.out g2.out hl.out _).mono ?_
  rintro e w1 ⟨rfl, hx⟩
  have hF : Hid (Fr w w1) := Fr.start hx
  clear hx
  go_wp2_with fail
  refine (needForm_okx _).mono ?_
  rintro e w2 ⟨rfl, hx⟩
  replace hF : Hid (Fr w w2) := hF.out.step hx
  clear hx
  go_wp2_with fail
  refine (cutSign_x p sg r h1.out h2.out _).mono ?_
  rintro e w2 ⟨rfl, hx⟩
  replace hF : Hid (Fr w w2) := hF.out.step hx
  clear hx
  go_wp2_with fail
  refine (cut_c r W P B h3.out _ hr.out (Env.ext he.out hF.out.ext)).mono ?_
  rintro e w2 ⟨rfl, hx⟩
  replace hF : Hid (Fr w w2) := hF.out.step hx
  clear hx
  go_wp2_with fail
  refine (needWhole_no W 4 _ hW.out (by omega) ho.out).mono ?_
  rintro e w2 ⟨rfl, hx⟩
  replace hF : Hid (Fr w w2) := hF.out.step hx
  clear hx
  obtain ⟨hx0, gp, gq, gpz, gqz⟩ := hF.out
  clear hF
  replace hx0 : Hid (Ext _ _) := hx0
  go_wp2
  replace hx0 := hx0.out
  refine leaves_cons (f := 153) (args := #[.pointer (some ⟨w.heap.size, 0, none⟩), .pointer (some ⟨w.heap.size + 1, 0, none⟩)]) (by simp) (by simp [go_sem]) ?_
  refine (tr_catch w.heap.size 4 0 0 [] _ ?_ ?_ ?_ ?_).mono ?_
  · simp [go_sem, gp]
  · simp [go_sem, gq]
  · simp [go_sem, gpz]
  · simp [go_sem, gqz]
  rintro e u' w'' ⟨rfl, rfl, w3, hy, rfl⟩
  have hs1 := lt_of_cell gp
  have hs := lt_of_cell gq
  have hp2 : (w3.cell? ⟨w.heap.size, 0, none⟩).isSome = true := by rw [hy.cell _ _ (by simpa [World.setCell] using hs1)]; simp [go_sem, gp]
  have hq2 : (w3.cell? ⟨w.heap.size + 1, 0, none⟩).isSome = true := by rw [hy.cell _ _ (by simpa [World.setCell] using hs)]; simp [go_sem, gq]
  obtain ⟨vp, hp2⟩ := Option.isSome_iff_exists.1 hp2
  obtain ⟨vq, hq2⟩ := Option.isSome_iff_exists.1 hq2
  simp [Leaves, Go.settle, results, Tryz.results127, go_sem, hp2, hq2]
  refine ((Ext.trans ?_ hy).setCell (Nat.le_refl _) _).setCell (by show w.heap.size ≤ w.heap.size + 1; omega) _
  exact hx0
theorem tr_long (l p sg r W P : List UInt8) (w : World) (g1 : trimSuffix l [37] = p) (g2 : hasSuffix l [37] = true) (hl : l.length ≤ 20000) (h1 : cutL p = sg) (h2 : trimPrefix p [45] = r) (h3 : cut r [46] = (W, P, true)) (hr : r.length ≤ 20000) (hW : W.length ≤ 20000) (hP : P.length ≤ 20000) (he : Env w) (ho : okWhole W 4 = true) (hlen : ¬ (P.length : Int) ≤ 7) :
    Calls Tryz.prog 127 #[.string ⟨l.toArray⟩] w fun e w' => e = .returned (.tuple #[.int .i64 0, .int .i64 4]) ∧ Ext w w' := by
  have hmf := make_func
  replace g1 := show Hid _ from g1
  replace g2 := show Hid _ from g2
  replace hl := show Hid _ from hl
  replace h1 := show Hid _ from h1
  replace h2 := show Hid _ from h2
  replace h3 := show Hid _ from h3
  replace hr := show Hid _ from hr
  replace hW := show Hid _ from hW
  replace hP := show Hid _ from hP
  replace he := show Hid _ from he
  replace ho := show Hid _ from ho
  go_enter_defers Tryz.func127, Tryz.ntmps127
  go_wp2_with fail
  refine (cutSuffix_c l p true g1.out g2.out hl.out _).mono ?_
  rintro e w1 ⟨rfl, hx⟩
  have hF : Hid (Fr w w1) := Fr.start hx
  clear hx
  go_wp2_with fail
  refine (needForm_okx _).mono ?_
  rintro e w2 ⟨rfl, hx⟩
  replace hF : Hid (Fr w w2) := hF.out.step hx
  clear hx
  go_wp2_with fail
  refine (cutSign_x p sg r h1.out h2.out _).mono ?_
  rintro e w2 ⟨rfl, hx⟩
  replace hF : Hid (Fr w w2) := hF.out.step hx
  clear hx
  go_wp2_with fail
  refine (cut_c r W P true h3.out _ hr.out (Env.ext he.out hF.out.ext)).mono ?_
  rintro e w2 ⟨rfl, hx⟩
  replace hF : Hid (Fr w w2) := hF.out.step hx
  clear hx
  go_wp2_with fail
  refine (needWhole_ok W 4 _ hW.out (by omega) ho.out).mono ?_
  rintro e w2 ⟨rfl, hx⟩
  replace hF : Hid (Fr w w2) := hF.out.step hx
  clear hx
  go_wp2_with fail
  refine (needForm_nox _).mono ?_
  rintro e w2 ⟨rfl, hx⟩
  replace hF : Hid (Fr w w2) := hF.out.step hx
  clear hx
  obtain ⟨hx0, gp, gq, gpz, gqz⟩ := hF.out
  clear hF
  replace hx0 : Hid (Ext _ _) := hx0
  go_wp2
  replace hx0 := hx0.out
  refine leaves_cons (f := 153) (args := #[.pointer (some ⟨w.heap.size, 0, none⟩), .pointer (some ⟨w.heap.size + 1, 0, none⟩)]) (by simp) (by simp [go_sem]) ?_
  refine (tr_catch w.heap.size 4 0 0 [] _ ?_ ?_ ?_ ?_).mono ?_
  · simp [go_sem, gp]
  · simp [go_sem, gq]
  · simp [go_sem, gpz]
  · simp [go_sem, gqz]
  rintro e u' w'' ⟨rfl, rfl, w3, hy, rfl⟩
  have hs1 := lt_of_cell gp
  have hs := lt_of_cell gq
  have hp2 : (w3.cell? ⟨w.heap.size, 0, none⟩).isSome = true := by rw [hy.cell _ _ (by simpa [World.setCell] using hs1)]; simp [go_sem, gp]
  have hq2 : (w3.cell? ⟨w.heap.size + 1, 0, none⟩).isSome = true := by rw [hy.cell _ _ (by simpa [World.setCell] using hs)]; simp [go_sem, gq]
  obtain ⟨vp, hp2⟩ := Option.isSome_iff_exists.1 hp2
  obtain ⟨vq, hq2⟩ := Option.isSome_iff_exists.1 hq2
  simp [Leaves, Go.settle, results, Tryz.results127, go_sem, hp2, hq2]
  refine ((Ext.trans ?_ hy).setCell (Nat.le_refl _) _).setCell (by show w.heap.size ≤ w.heap.size + 1; omega) _
  exact hx0
theorem tr_part (l p sg r W P : List UInt8) (w : World) (g1 : trimSuffix l [37] = p) (g2 : hasSuffix l [37] = true) (hl : l.length ≤ 20000) (h1 : cutL p = sg) (h2 : trimPrefix p [45] = r) (h3 : cut r [46] = (W, P, true)) (hr : r.length ≤ 20000) (hW : W.length ≤ 20000) (hP : P.length ≤ 20000) (he : Env w) (ho : okWhole W 4 = true) (hlen : (P.length : Int) ≤ 7) (hd : digOnly P = false) :
    Calls Tryz.prog 127 #[.string ⟨l.toArray⟩] w fun e w' => e = .returned (.tuple #[.int .i64 0, .int .i64 4]) ∧ Ext w w' := by
  have hmf := make_func
  replace g1 := show Hid _ from g1
  replace g2 := show Hid _ from g2
  replace hl := show Hid _ from hl
  replace h1 := show Hid _ from h1
  replace h2 := show Hid _ from h2
  replace h3 := show Hid _ from h3
  replace hr := show Hid _ from hr
  replace hW := show Hid _ from hW
  replace hP := show Hid _ from hP
  replace he := show Hid _ from he
  replace ho := show Hid _ from ho
  replace hd := show Hid _ from hd
  go_enter_defers Tryz.func127, Tryz.ntmps127
  go_wp2_with fail
  refine (cutSuffix_c l p true g1.out g2.out hl.out _).mono ?_
  rintro e w1 ⟨rfl, hx⟩
  have hF : Hid (Fr w w1) := Fr.start hx
  clear hx
  go_wp2_with fail
  refine (needForm_okx _).mono ?_
  rintro e w2 ⟨rfl, hx⟩
  replace hF : Hid (Fr w w2) := hF.out.step hx
  clear hx
  go_wp2_with fail
  refine (cutSign_x p sg r h1.out h2.out _).mono ?_
  rintro e w2 ⟨rfl, hx⟩
  replace hF : Hid (Fr w w2) := hF.out.step hx
  clear hx
  go_wp2_with fail
  refine (cut_c r W P true h3.out _ hr.out (Env.ext he.out hF.out.ext)).mono ?_
  rintro e w2 ⟨rfl, hx⟩
  replace hF : Hid (Fr w w2) := hF.out.step hx
  clear hx
  go_wp2_with fail
  refine (needWhole_ok W 4 _ hW.out (by omega) ho.out).mono ?_
  rintro e w2 ⟨rfl, hx⟩
  replace hF : Hid (Fr w w2) := hF.out.step hx
  clear hx
  go_wp2_with fail
  refine (digitsOnly_x P false hd.out _ hP.out).mono ?_
  rintro e w2 ⟨rfl, hx⟩
  replace hF : Hid (Fr w w2) := hF.out.step hx
  clear hx
  go_wp2_with fail
  refine (needForm_nox _).mono ?_
  rintro e w2 ⟨rfl, hx⟩
  replace hF : Hid (Fr w w2) := hF.out.step hx
  clear hx
  obtain ⟨hx0, gp, gq, gpz, gqz⟩ := hF.out
  clear hF
  replace hx0 : Hid (Ext _ _) := hx0
  go_wp2
  replace hx0 := hx0.out
  refine leaves_cons (f := 153) (args := #[.pointer (some ⟨w.heap.size, 0, none⟩), .pointer (some ⟨w.heap.size + 1, 0, none⟩)]) (by simp) (by simp [go_sem]) ?_
  refine (tr_catch w.heap.size 4 0 0 [] _ ?_ ?_ ?_ ?_).mono ?_
  · simp [go_sem, gp]
  · simp [go_sem, gq]
  · simp [go_sem, gpz]
  · simp [go_sem, gqz]
  rintro e u' w'' ⟨rfl, rfl, w3, hy, rfl⟩
  have hs1 := lt_of_cell gp
  have hs := lt_of_cell gq
  have hp2 : (w3.cell? ⟨w.heap.size, 0, none⟩).isSome = true := by rw [hy.cell _ _ (by simpa [World.setCell] using hs1)]; simp [go_sem, gp]
  have hq2 : (w3.cell? ⟨w.heap.size + 1, 0, none⟩).isSome = true := by rw [hy.cell _ _ (by simpa [World.setCell] using hs)]; simp [go_sem, gq]
  obtain ⟨vp, hp2⟩ := Option.isSome_iff_exists.1 hp2
  obtain ⟨vq, hq2⟩ := Option.isSome_iff_exists.1 hq2
  simp [Leaves, Go.settle, results, Tryz.results127, go_sem, hp2, hq2]
  refine ((Ext.trans ?_ hy).setCell (Nat.le_refl _) _).setCell (by show w.heap.size ≤ w.heap.size + 1; omega) _
  exact hx0
theorem tr_nought (l p sg r W P : List UInt8) (w : World) (g1 : trimSuffix l [37] = p) (g2 : hasSuffix l [37] = true) (hl : l.length ≤ 20000) (h1 : cutL p = sg) (h2 : trimPrefix p [45] = r) (h3 : cut r [46] = (W, P, true)) (hr : r.length ≤ 20000) (hW : W.length ≤ 20000) (hP : P.length ≤ 20000) (he : Env w) (ho : okWhole W 4 = true) (hlen : (P.length : Int) ≤ 7) (hd : digOnly P = true) (hs : hasSuffix P [48] = true) :
    Calls Tryz.prog 127 #[.string ⟨l.toArray⟩] w fun e w' => e = .returned (.tuple #[.int .i64 0, .int .i64 4]) ∧ Ext w w' := by
  have hmf := make_func
  replace g1 := show Hid _ from g1
  replace g2 := show Hid _ from g2
  replace hl := show Hid _ from hl
  replace h1 := show Hid _ from h1
  replace h2 := show Hid _ from h2
  replace h3 := show Hid _ from h3
  replace hr := show Hid _ from hr
  replace hW := show Hid _ from hW
  replace hP := show Hid _ from hP
  replace he := show Hid _ from he
  replace ho := show Hid _ from ho
  replace hd := show Hid _ from hd
  replace hs := show Hid _ from hs
  go_enter_defers Tryz.func127, Tryz.ntmps127
  go_wp2_with fail
  refine (cutSuffix_c l p true g1.out g2.out hl.out _).mono ?_
  rintro e w1 ⟨rfl, hx⟩
  have hF : Hid (Fr w w1) := Fr.start hx
  clear hx
  go_wp2_with fail
  refine (needForm_okx _).mono ?_
  rintro e w2 ⟨rfl, hx⟩
  replace hF : Hid (Fr w w2) := hF.out.step hx
  clear hx
  go_wp2_with fail
  refine (cutSign_x p sg r h1.out h2.out _).mono ?_
  rintro e w2 ⟨rfl, hx⟩
  replace hF : Hid (Fr w w2) := hF.out.step hx
  clear hx
  go_wp2_with fail
  refine (cut_c r W P true h3.out _ hr.out (Env.ext he.out hF.out.ext)).mono ?_
  rintro e w2 ⟨rfl, hx⟩
  replace hF : Hid (Fr w w2) := hF.out.step hx
  clear hx
  go_wp2_with fail
  refine (needWhole_ok W 4 _ hW.out (by omega) ho.out).mono ?_
  rintro e w2 ⟨rfl, hx⟩
  replace hF : Hid (Fr w w2) := hF.out.step hx
  clear hx
  go_wp2_with fail
  refine (digitsOnly_x P true hd.out _ hP.out).mono ?_
  rintro e w2 ⟨rfl, hx⟩
  replace hF : Hid (Fr w w2) := hF.out.step hx
  clear hx
  go_wp2_with fail
  refine (hasSuffix_c P true hs.out hP.out _).mono ?_
  rintro e w2 ⟨rfl, hx⟩
  replace hF : Hid (Fr w w2) := hF.out.step hx
  clear hx
  go_wp2_with fail
  refine (needForm_nox _).mono ?_
  rintro e w2 ⟨rfl, hx⟩
  replace hF : Hid (Fr w w2) := hF.out.step hx
  clear hx
  obtain ⟨hx0, gp, gq, gpz, gqz⟩ := hF.out
  clear hF
  replace hx0 : Hid (Ext _ _) := hx0
  go_wp2
  replace hx0 := hx0.out
  refine leaves_cons (f := 153) (args := #[.pointer (some ⟨w.heap.size, 0, none⟩), .pointer (some ⟨w.heap.size + 1, 0, none⟩)]) (by simp) (by simp [go_sem]) ?_
  refine (tr_catch w.heap.size 4 0 0 [] _ ?_ ?_ ?_ ?_).mono ?_
  · simp [go_sem, gp]
  · simp [go_sem, gq]
  · simp [go_sem, gpz]
  · simp [go_sem, gqz]
  rintro e u' w'' ⟨rfl, rfl, w3, hy, rfl⟩
  have hs1 := lt_of_cell gp
  have hs := lt_of_cell gq
  have hp2 : (w3.cell? ⟨w.heap.size, 0, none⟩).isSome = true := by rw [hy.cell _ _ (by simpa [World.setCell] using hs1)]; simp [go_sem, gp]
  have hq2 : (w3.cell? ⟨w.heap.size + 1, 0, none⟩).isSome = true := by rw [hy.cell _ _ (by simpa [World.setCell] using hs)]; simp [go_sem, gq]
  obtain ⟨vp, hp2⟩ := Option.isSome_iff_exists.1 hp2
  obtain ⟨vq, hq2⟩ := Option.isSome_iff_exists.1 hq2
  simp [Leaves, Go.settle, results, Tryz.results127, go_sem, hp2, hq2]
  refine ((Ext.trans ?_ hy).setCell (Nat.le_refl _) _).setCell (by show w.heap.size ≤ w.heap.size + 1; omega) _
  exact hx0
theorem tr_over_f (l p sg r W P : List UInt8) (w : World) (g1 : trimSuffix l [37] = p) (g2 : hasSuffix l [37] = true) (hl : l.length ≤ 20000) (h1 : cutL p = sg) (h2 : trimPrefix p [45] = r) (h3 : cut r [46] = (W, P, false)) (hr : r.length ≤ 20000) (hW : W.length ≤ 20000) (hP : P.length ≤ 20000) (he : Env w) (ho : okWhole W 4 = true) (Z : List UInt8) (hz : zeros (7 - (P.length : Int)).toNat = Z) (hZl : Z.length = 7 - P.length) (hall : (W ++ (P ++ Z)).all isD = true) (hWl : W.length ≤ 4) (hlen : (P.length : Int) ≤ 7) (n : Nat) (hn : valL (W ++ (P ++ Z)) = n) (hnb : n ≤ 100000000000) (hv : ¬ (n : Int) ≤ 10000000000) :
    Calls Tryz.prog 127 #[.string ⟨l.toArray⟩] w fun e w' => e = .returned (.tuple #[.int .i64 0, .int .i64 4]) ∧ Ext w w' := by
  have hmf := make_func
  replace g1 := show Hid _ from g1
  replace g2 := show Hid _ from g2
  replace hl := show Hid _ from hl
  replace h1 := show Hid _ from h1
  replace h2 := show Hid _ from h2
  replace h3 := show Hid _ from h3
  replace hr := show Hid _ from hr
  replace hW := show Hid _ from hW
  replace hP := show Hid _ from hP
  replace he := show Hid _ from he
  replace ho := show Hid _ from ho
  replace hz := show Hid _ from hz
  replace hZl := show Hid _ from hZl
  replace hall := show Hid _ from hall
  replace hn := show Hid _ from hn
  go_enter_defers Tryz.func127, Tryz.ntmps127
  go_wp2_with fail
  refine (cutSuffix_c l p true g1.out g2.out hl.out _).mono ?_
  rintro e w1 ⟨rfl, hx⟩
  have hF : Hid (Fr w w1) := Fr.start hx
  clear hx
  go_wp2_with fail
  refine (needForm_okx _).mono ?_
  rintro e w2 ⟨rfl, hx⟩
  replace hF : Hid (Fr w w2) := hF.out.step hx
  clear hx
  go_wp2_with fail
  refine (cutSign_x p sg r h1.out h2.out _).mono ?_
  rintro e w2 ⟨rfl, hx⟩
  replace hF : Hid (Fr w w2) := hF.out.step hx
  clear hx
  go_wp2_with fail
  refine (cut_c r W P false h3.out _ hr.out (Env.ext he.out hF.out.ext)).mono ?_
  rintro e w2 ⟨rfl, hx⟩
  replace hF : Hid (Fr w w2) := hF.out.step hx
  clear hx
  go_wp2_with fail
  refine (needWhole_ok W 4 _ hW.out (by omega) ho.out).mono ?_
  rintro e w2 ⟨rfl, hx⟩
  replace hF : Hid (Fr w w2) := hF.out.step hx
  clear hx
  have hbig : ¬ 9223372036854775807 < W.length + P.length := by omega
  have hw : wrap64 (7 - (P.length : Int)) = 7 - (P.length : Int) := by unfold wrap64; omega
  go_wp2_with fail
  refine (noughts_x _ Z hz.out _ (by omega) (by omega)).mono ?_
  rintro e w2 ⟨rfl, hx⟩
  replace hF : Hid (Fr w w2) := hF.out.step hx
  clear hx
  have hbig2 : ¬ 9223372036854775807 < W.length + (P.length + Z.length) := by have := hZl.out; omega
  have hbig3 : ¬ 9223372036854775807 < W.length + P.length + Z.length := by have := hZl.out; omega
  have hv1 : decide ((n : Int) ≤ 10000000000) = false := decide_eq_false (by omega)
  have hv2 : ¬ n ≤ 10000000000 := by omega
  go_wp2_with fail
  refine (number_ok (W ++ (P ++ Z)) _ (by have := hZl.out; simp; omega) hall.out n hn.out (by omega)).mono ?_
  rintro e w2 ⟨rfl, hx⟩
  replace hF : Hid (Fr w w2) := hF.out.step hx
  clear hx
  go_wp2_with fail
  refine (needForm_nox _).mono ?_
  rintro e w2 ⟨rfl, hx⟩
  replace hF : Hid (Fr w w2) := hF.out.step hx
  clear hx
  obtain ⟨hx0, gp, gq, gpz, gqz⟩ := hF.out
  clear hF
  replace hx0 : Hid (Ext _ _) := hx0
  go_wp2
  replace hx0 := hx0.out
  refine leaves_cons (f := 153) (args := #[.pointer (some ⟨w.heap.size, 0, none⟩), .pointer (some ⟨w.heap.size + 1, 0, none⟩)]) (by simp) (by simp [go_sem]) ?_
  refine (tr_catch w.heap.size 4 0 0 [] _ ?_ ?_ ?_ ?_).mono ?_
  · simp [go_sem, gp]
  · simp [go_sem, gq]
  · simp [go_sem, gpz]
  · simp [go_sem, gqz]
  rintro e u' w'' ⟨rfl, rfl, w3, hy, rfl⟩
  have hs1 := lt_of_cell gp
  have hs := lt_of_cell gq
  have hp2 : (w3.cell? ⟨w.heap.size, 0, none⟩).isSome = true := by rw [hy.cell _ _ (by simpa [World.setCell] using hs1)]; simp [go_sem, gp]
  have hq2 : (w3.cell? ⟨w.heap.size + 1, 0, none⟩).isSome = true := by rw [hy.cell _ _ (by simpa [World.setCell] using hs)]; simp [go_sem, gq]
  obtain ⟨vp, hp2⟩ := Option.isSome_iff_exists.1 hp2
  obtain ⟨vq, hq2⟩ := Option.isSome_iff_exists.1 hq2
  simp [Leaves, Go.settle, results, Tryz.results127, go_sem, hp2, hq2]
  refine ((Ext.trans ?_ hy).setCell (Nat.le_refl _) _).setCell (by show w.heap.size ≤ w.heap.size + 1; omega) _
  exact hx0
theorem tr_pos_f (l p r W P : List UInt8) (w : World) (g1 : trimSuffix l [37] = p) (g2 : hasSuffix l [37] = true) (hl : l.length ≤ 20000) (h1 : cutL p = []) (h2 : trimPrefix p [45] = r) (h3 : cut r [46] = (W, P, false)) (hr : r.length ≤ 20000) (hW : W.length ≤ 20000) (hP : P.length ≤ 20000) (he : Env w) (ho : okWhole W 4 = true) (Z : List UInt8) (hz : zeros (7 - (P.length : Int)).toNat = Z) (hZl : Z.length = 7 - P.length) (hall : (W ++ (P ++ Z)).all isD = true) (hWl : W.length ≤ 4) (hlen : (P.length : Int) ≤ 7) (n : Nat) (hn : valL (W ++ (P ++ Z)) = n) (hnb : n ≤ 100000000000) (hv : (n : Int) ≤ 10000000000) :
    Calls Tryz.prog 127 #[.string ⟨l.toArray⟩] w fun e w' => e = .returned (.tuple #[.int .i64 (n : Int), .int .i64 0]) ∧ Ext w w' := by
  have hmf := make_func
  replace g1 := show Hid _ from g1
  replace g2 := show Hid _ from g2
  replace hl := show Hid _ from hl
  replace h1 := show Hid _ from h1
  replace h2 := show Hid _ from h2
  replace h3 := show Hid _ from h3
  replace hr := show Hid _ from hr
  replace hW := show Hid _ from hW
  replace hP := show Hid _ from hP
  replace he := show Hid _ from he
  replace ho := show Hid _ from ho
  replace hz := show Hid _ from hz
  replace hZl := show Hid _ from hZl
  replace hall := show Hid _ from hall
  replace hn := show Hid _ from hn
  go_enter_defers Tryz.func127, Tryz.ntmps127
  go_wp2_with fail
  refine (cutSuffix_c l p true g1.out g2.out hl.out _).mono ?_
  rintro e w1 ⟨rfl, hx⟩
  have hF : Hid (Fr w w1) := Fr.start hx
  clear hx
  go_wp2_with fail
  refine (needForm_okx _).mono ?_
  rintro e w2 ⟨rfl, hx⟩
  replace hF : Hid (Fr w w2) := hF.out.step hx
  clear hx
  go_wp2_with fail
  refine (cutSign_x p [] r h1.out h2.out _).mono ?_
  rintro e w2 ⟨rfl, hx⟩
  replace hF : Hid (Fr w w2) := hF.out.step hx
  clear hx
  go_wp2_with fail
  refine (cut_c r W P false h3.out _ hr.out (Env.ext he.out hF.out.ext)).mono ?_
  rintro e w2 ⟨rfl, hx⟩
  replace hF : Hid (Fr w w2) := hF.out.step hx
  clear hx
  go_wp2_with fail
  refine (needWhole_ok W 4 _ hW.out (by omega) ho.out).mono ?_
  rintro e w2 ⟨rfl, hx⟩
  replace hF : Hid (Fr w w2) := hF.out.step hx
  clear hx
  have hbig : ¬ 9223372036854775807 < W.length + P.length := by omega
  have hw : wrap64 (7 - (P.length : Int)) = 7 - (P.length : Int) := by unfold wrap64; omega
  go_wp2_with fail
  refine (noughts_x _ Z hz.out _ (by omega) (by omega)).mono ?_
  rintro e w2 ⟨rfl, hx⟩
  replace hF : Hid (Fr w w2) := hF.out.step hx
  clear hx
  have hbig2 : ¬ 9223372036854775807 < W.length + (P.length + Z.length) := by have := hZl.out; omega
  have hbig3 : ¬ 9223372036854775807 < W.length + P.length + Z.length := by have := hZl.out; omega
  go_wp2_with fail
  refine (number_ok (W ++ (P ++ Z)) _ (by have := hZl.out; simp; omega) hall.out n hn.out (by omega)).mono ?_
  rintro e w2 ⟨rfl, hx⟩
  replace hF : Hid (Fr w w2) := hF.out.step hx
  clear hx
  go_wp2_with fail
  refine (needForm_okx _).mono ?_
  rintro e w2 ⟨rfl, hx⟩
  replace hF : Hid (Fr w w2) := hF.out.step hx
  clear hx
  go_wp2_with fail
  refine (signed_posx _ _).mono ?_
  rintro e w2 ⟨rfl, hx⟩
  replace hF : Hid (Fr w w2) := hF.out.step hx
  clear hx
  obtain ⟨hx0, gp, gq, gpz, gqz⟩ := hF.out
  clear hF
  replace hx0 : Hid (Ext _ _) := hx0
  go_wp2
  replace hx0 := hx0.out
  refine leaves_cons (f := 153) (args := #[.pointer (some ⟨w.heap.size, 0, none⟩), .pointer (some ⟨w.heap.size + 1, 0, none⟩)]) (by simp) (by simp [go_sem]) ?_
  refine (tr_idle w.heap.size ((n : Int)) 0 _ ?_ ?_ ?_ ?_).mono ?_
  · simp [go_sem, gp]
  · simp [go_sem, gq]
  · simp [go_sem, gpz]
  · simp [go_sem, gqz]
  rintro e u' w'' ⟨rfl, rfl, w3, hy, rfl⟩
  have hs1 := lt_of_cell gp
  have hs := lt_of_cell gq
  have hp2 : (w3.cell? ⟨w.heap.size, 0, none⟩).isSome = true := by rw [hy.cell _ _ (by simpa [World.setCell] using hs1)]; simp [go_sem, gp]
  have hq2 : (w3.cell? ⟨w.heap.size + 1, 0, none⟩).isSome = true := by rw [hy.cell _ _ (by simpa [World.setCell] using hs)]; simp [go_sem, gq]
  obtain ⟨vp, hp2⟩ := Option.isSome_iff_exists.1 hp2
  obtain ⟨vq, hq2⟩ := Option.isSome_iff_exists.1 hq2
  simp [Leaves, Go.settle, results, Tryz.results127, go_sem, hp2, hq2]
  refine ((Ext.trans ?_ hy).setCell (Nat.le_refl _) _).setCell (by show w.heap.size ≤ w.heap.size + 1; omega) _
  exact (hx0.setCell (Nat.le_refl _) _).setCell (by show w.heap.size ≤ w.heap.size + 1; omega) _
theorem tr_neg_f (l p r W P : List UInt8) (w : World) (g1 : trimSuffix l [37] = p) (g2 : hasSuffix l [37] = true) (hl : l.length ≤ 20000) (h1 : cutL p = [45]) (h2 : trimPrefix p [45] = r) (h3 : cut r [46] = (W, P, false)) (hr : r.length ≤ 20000) (hW : W.length ≤ 20000) (hP : P.length ≤ 20000) (he : Env w) (ho : okWhole W 4 = true) (Z : List UInt8) (hz : zeros (7 - (P.length : Int)).toNat = Z) (hZl : Z.length = 7 - P.length) (hall : (W ++ (P ++ Z)).all isD = true) (hWl : W.length ≤ 4) (hlen : (P.length : Int) ≤ 7) (n : Nat) (hn : valL (W ++ (P ++ Z)) = n) (hnb : n ≤ 100000000000) (hv : (n : Int) ≤ 10000000000) (hn0 : 0 < n) :
    Calls Tryz.prog 127 #[.string ⟨l.toArray⟩] w fun e w' => e = .returned (.tuple #[.int .i64 (-(n : Int)), .int .i64 0]) ∧ Ext w w' := by
  have hmf := make_func
  replace g1 := show Hid _ from g1
  replace g2 := show Hid _ from g2
  replace hl := show Hid _ from hl
  replace h1 := show Hid _ from h1
  replace h2 := show Hid _ from h2
  replace h3 := show Hid _ from h3
  replace hr := show Hid _ from hr
  replace hW := show Hid _ from hW
  replace hP := show Hid _ from hP
  replace he := show Hid _ from he
  replace ho := show Hid _ from ho
  replace hz := show Hid _ from hz
  replace hZl := show Hid _ from hZl
  replace hall := show Hid _ from hall
  replace hn := show Hid _ from hn
  replace hn0 := show Hid _ from hn0
  go_enter_defers Tryz.func127, Tryz.ntmps127
  go_wp2_with fail
  refine (cutSuffix_c l p true g1.out g2.out hl.out _).mono ?_
  rintro e w1 ⟨rfl, hx⟩
  have hF : Hid (Fr w w1) := Fr.start hx
  clear hx
  go_wp2_with fail
  refine (needForm_okx _).mono ?_
  rintro e w2 ⟨rfl, hx⟩
  replace hF : Hid (Fr w w2) := hF.out.step hx
  clear hx
  go_wp2_with fail
  refine (cutSign_x p [45] r h1.out h2.out _).mono ?_
  rintro e w2 ⟨rfl, hx⟩
  replace hF : Hid (Fr w w2) := hF.out.step hx
  clear hx
  go_wp2_with fail
  refine (cut_c r W P false h3.out _ hr.out (Env.ext he.out hF.out.ext)).mono ?_
  rintro e w2 ⟨rfl, hx⟩
  replace hF : Hid (Fr w w2) := hF.out.step hx
  clear hx
  go_wp2_with fail
  refine (needWhole_ok W 4 _ hW.out (by omega) ho.out).mono ?_
  rintro e w2 ⟨rfl, hx⟩
  replace hF : Hid (Fr w w2) := hF.out.step hx
  clear hx
  have hbig : ¬ 9223372036854775807 < W.length + P.length := by omega
  have hw : wrap64 (7 - (P.length : Int)) = 7 - (P.length : Int) := by unfold wrap64; omega
  go_wp2_with fail
  refine (noughts_x _ Z hz.out _ (by omega) (by omega)).mono ?_
  rintro e w2 ⟨rfl, hx⟩
  replace hF : Hid (Fr w w2) := hF.out.step hx
  clear hx
  have hbig2 : ¬ 9223372036854775807 < W.length + (P.length + Z.length) := by have := hZl.out; omega
  have hbig3 : ¬ 9223372036854775807 < W.length + P.length + Z.length := by have := hZl.out; omega
  go_wp2_with fail
  refine (number_ok (W ++ (P ++ Z)) _ (by have := hZl.out; simp; omega) hall.out n hn.out (by omega)).mono ?_
  rintro e w2 ⟨rfl, hx⟩
  replace hF : Hid (Fr w w2) := hF.out.step hx
  clear hx
  go_wp2_with fail
  refine (needForm_okx _).mono ?_
  rintro e w2 ⟨rfl, hx⟩
  replace hF : Hid (Fr w w2) := hF.out.step hx
  clear hx
  go_wp2_with fail
  refine (signed_negx (n : Int) _ (by have := hn0.out; omega) (by omega)).mono ?_
  rintro e w2 ⟨rfl, hx⟩
  replace hF : Hid (Fr w w2) := hF.out.step hx
  clear hx
  obtain ⟨hx0, gp, gq, gpz, gqz⟩ := hF.out
  clear hF
  replace hx0 : Hid (Ext _ _) := hx0
  go_wp2
  replace hx0 := hx0.out
  refine leaves_cons (f := 153) (args := #[.pointer (some ⟨w.heap.size, 0, none⟩), .pointer (some ⟨w.heap.size + 1, 0, none⟩)]) (by simp) (by simp [go_sem]) ?_
  refine (tr_idle w.heap.size ((-(n : Int))) 0 _ ?_ ?_ ?_ ?_).mono ?_
  · simp [go_sem, gp]
  · simp [go_sem, gq]
  · simp [go_sem, gpz]
  · simp [go_sem, gqz]
  rintro e u' w'' ⟨rfl, rfl, w3, hy, rfl⟩
  have hs1 := lt_of_cell gp
  have hs := lt_of_cell gq
  have hp2 : (w3.cell? ⟨w.heap.size, 0, none⟩).isSome = true := by rw [hy.cell _ _ (by simpa [World.setCell] using hs1)]; simp [go_sem, gp]
  have hq2 : (w3.cell? ⟨w.heap.size + 1, 0, none⟩).isSome = true := by rw [hy.cell _ _ (by simpa [World.setCell] using hs)]; simp [go_sem, gq]
  obtain ⟨vp, hp2⟩ := Option.isSome_iff_exists.1 hp2
  obtain ⟨vq, hq2⟩ := Option.isSome_iff_exists.1 hq2
  simp [Leaves, Go.settle, results, Tryz.results127, go_sem, hp2, hq2]
  refine ((Ext.trans ?_ hy).setCell (Nat.le_refl _) _).setCell (by show w.heap.size ≤ w.heap.size + 1; omega) _
  exact (hx0.setCell (Nat.le_refl _) _).setCell (by show w.heap.size ≤ w.heap.size + 1; omega) _
theorem tr_nil_f (l p r W P : List UInt8) (w : World) (g1 : trimSuffix l [37] = p) (g2 : hasSuffix l [37] = true) (hl : l.length ≤ 20000) (h1 : cutL p = [45]) (h2 : trimPrefix p [45] = r) (h3 : cut r [46] = (W, P, false)) (hr : r.length ≤ 20000) (hW : W.length ≤ 20000) (hP : P.length ≤ 20000) (he : Env w) (ho : okWhole W 4 = true) (Z : List UInt8) (hz : zeros (7 - (P.length : Int)).toNat = Z) (hZl : Z.length = 7 - P.length) (hall : (W ++ (P ++ Z)).all isD = true) (hWl : W.length ≤ 4) (hlen : (P.length : Int) ≤ 7) (hn : valL (W ++ (P ++ Z)) = 0) :
    Calls Tryz.prog 127 #[.string ⟨l.toArray⟩] w fun e w' => e = .returned (.tuple #[.int .i64 0, .int .i64 4]) ∧ Ext w w' := by
  have hmf := make_func
  replace g1 := show Hid _ from g1
  replace g2 := show Hid _ from g2
  replace hl := show Hid _ from hl
  replace h1 := show Hid _ from h1
  replace h2 := show Hid _ from h2
  replace h3 := show Hid _ from h3
  replace hr := show Hid _ from hr
  replace hW := show Hid _ from hW
  replace hP := show Hid _ from hP
  replace he := show Hid _ from he
  replace ho := show Hid _ from ho
  replace hz := show Hid _ from hz
  replace hZl := show Hid _ from hZl
  replace hall := show Hid _ from hall
  replace hn := show Hid _ from hn
  go_enter_defers Tryz.func127, Tryz.ntmps127
  go_wp2_with fail
  refine (cutSuffix_c l p true g1.out g2.out hl.out _).mono ?_
  rintro e w1 ⟨rfl, hx⟩
  have hF : Hid (Fr w w1) := Fr.start hx
  clear hx
  go_wp2_with fail
  refine (needForm_okx _).mono ?_
  rintro e w2 ⟨rfl, hx⟩
  replace hF : Hid (Fr w w2) := hF.out.step hx
  clear hx
  go_wp2_with fail
  refine (cutSign_x p [45] r h1.out h2.out _).mono ?_
  rintro e w2 ⟨rfl, hx⟩
  replace hF : Hid (Fr w w2) := hF.out.step hx
  clear hx
  go_wp2_with fail
  refine (cut_c r W P false h3.out _ hr.out (Env.ext he.out hF.out.ext)).mono ?_
  rintro e w2 ⟨rfl, hx⟩
  replace hF : Hid (Fr w w2) := hF.out.step hx
  clear hx
  go_wp2_with fail
  refine (needWhole_ok W 4 _ hW.out (by omega) ho.out).mono ?_
  rintro e w2 ⟨rfl, hx⟩
  replace hF : Hid (Fr w w2) := hF.out.step hx
  clear hx
  have hbig : ¬ 9223372036854775807 < W.length + P.length := by omega
  have hw : wrap64 (7 - (P.length : Int)) = 7 - (P.length : Int) := by unfold wrap64; omega
  go_wp2_with fail
  refine (noughts_x _ Z hz.out _ (by omega) (by omega)).mono ?_
  rintro e w2 ⟨rfl, hx⟩
  replace hF : Hid (Fr w w2) := hF.out.step hx
  clear hx
  have hbig2 : ¬ 9223372036854775807 < W.length + (P.length + Z.length) := by have := hZl.out; omega
  have hbig3 : ¬ 9223372036854775807 < W.length + P.length + Z.length := by have := hZl.out; omega
  go_wp2_with fail
  refine (number_ok (W ++ (P ++ Z)) _ (by have := hZl.out; simp; omega) hall.out 0 hn.out (by omega)).mono ?_
  rintro e w2 ⟨rfl, hx⟩
  replace hF : Hid (Fr w w2) := hF.out.step hx
  clear hx
  go_wp2_with fail
  refine (needForm_okx _).mono ?_
  rintro e w2 ⟨rfl, hx⟩
  replace hF : Hid (Fr w w2) := hF.out.step hx
  clear hx
  go_wp2_with fail
  refine (signed_nilx _).mono ?_
  rintro e w2 ⟨rfl, hx⟩
  replace hF : Hid (Fr w w2) := hF.out.step hx
  clear hx
  obtain ⟨hx0, gp, gq, gpz, gqz⟩ := hF.out
  clear hF
  replace hx0 : Hid (Ext _ _) := hx0
  go_wp2
  replace hx0 := hx0.out
  refine leaves_cons (f := 153) (args := #[.pointer (some ⟨w.heap.size, 0, none⟩), .pointer (some ⟨w.heap.size + 1, 0, none⟩)]) (by simp) (by simp [go_sem]) ?_
  refine (tr_catch w.heap.size 4 0 0 [] _ ?_ ?_ ?_ ?_).mono ?_
  · simp [go_sem, gp]
  · simp [go_sem, gq]
  · simp [go_sem, gpz]
  · simp [go_sem, gqz]
  rintro e u' w'' ⟨rfl, rfl, w3, hy, rfl⟩
  have hs1 := lt_of_cell gp
  have hs := lt_of_cell gq
  have hp2 : (w3.cell? ⟨w.heap.size, 0, none⟩).isSome = true := by rw [hy.cell _ _ (by simpa [World.setCell] using hs1)]; simp [go_sem, gp]
  have hq2 : (w3.cell? ⟨w.heap.size + 1, 0, none⟩).isSome = true := by rw [hy.cell _ _ (by simpa [World.setCell] using hs)]; simp [go_sem, gq]
  obtain ⟨vp, hp2⟩ := Option.isSome_iff_exists.1 hp2
  obtain ⟨vq, hq2⟩ := Option.isSome_iff_exists.1 hq2
  simp [Leaves, Go.settle, results, Tryz.results127, go_sem, hp2, hq2]
  refine ((Ext.trans ?_ hy).setCell (Nat.le_refl _) _).setCell (by show w.heap.size ≤ w.heap.size + 1; omega) _
  exact hx0
theorem tr_over_t (l p sg r W P : List UInt8) (w : World) (g1 : trimSuffix l [37] = p) (g2 : hasSuffix l [37] = true) (hl : l.length ≤ 20000) (h1 : cutL p = sg) (h2 : trimPrefix p [45] = r) (h3 : cut r [46] = (W, P, true)) (hr : r.length ≤ 20000) (hW : W.length ≤ 20000) (hP : P.length ≤ 20000) (he : Env w) (ho : okWhole W 4 = true) (hd : digOnly P = true) (hs : hasSuffix P [48] = false) (Z : List UInt8) (hz : zeros (7 - (P.length : Int)).toNat = Z) (hZl : Z.length = 7 - P.length) (hall : (W ++ (P ++ Z)).all isD = true) (hWl : W.length ≤ 4) (hlen : (P.length : Int) ≤ 7) (n : Nat) (hn : valL (W ++ (P ++ Z)) = n) (hnb : n ≤ 100000000000) (hv : ¬ (n : Int) ≤ 10000000000) :
    Calls Tryz.prog 127 #[.string ⟨l.toArray⟩] w fun e w' => e = .returned (.tuple #[.int .i64 0, .int .i64 4]) ∧ Ext w w' := by
  have hmf := make_func
  replace g1 := show Hid _ from g1
  replace g2 := show Hid _ from g2
  replace hl := show Hid _ from hl
  replace h1 := show Hid _ from h1
  replace h2 := show Hid _ from h2
  replace h3 := show Hid _ from h3
  replace hr := show Hid _ from hr
  replace hW := show Hid _ from hW
  replace hP := show Hid _ from hP
  replace he := show Hid _ from he
  replace ho := show Hid _ from ho
  replace hd := show Hid _ from hd
  replace hs := show Hid _ from hs
  replace hz := show Hid _ from hz
  replace hZl := show Hid _ from hZl
  replace hall := show Hid _ from hall
  replace hn := show Hid _ from hn
  go_enter_defers Tryz.func127, Tryz.ntmps127
  go_wp2_with fail
  refine (cutSuffix_c l p true g1.out g2.out hl.out _).mono ?_
  rintro e w1 ⟨rfl, hx⟩
  have hF : Hid (Fr w w1) := Fr.start hx
  clear hx
  go_wp2_with fail
  refine (needForm_okx _).mono ?_
  rintro e w2 ⟨rfl, hx⟩
  replace hF : Hid (Fr w w2) := hF.out.step hx
  clear hx
  go_wp2_with fail
  refine (cutSign_x p sg r h1.out h2.out _).mono ?_
  rintro e w2 ⟨rfl, hx⟩
  replace hF : Hid (Fr w w2) := hF.out.step hx
  clear hx
  go_wp2_with fail
  refine (cut_c r W P true h3.out _ hr.out (Env.ext he.out hF.out.ext)).mono ?_
  rintro e w2 ⟨rfl, hx⟩
  replace hF : Hid (Fr w w2) := hF.out.step hx
  clear hx
  go_wp2_with fail
  refine (needWhole_ok W 4 _ hW.out (by omega) ho.out).mono ?_
  rintro e w2 ⟨rfl, hx⟩
  replace hF : Hid (Fr w w2) := hF.out.step hx
  clear hx
  go_wp2_with fail
  refine (digitsOnly_x P true hd.out _ hP.out).mono ?_
  rintro e w2 ⟨rfl, hx⟩
  replace hF : Hid (Fr w w2) := hF.out.step hx
  clear hx
  go_wp2_with fail
  refine (hasSuffix_c P false hs.out hP.out _).mono ?_
  rintro e w2 ⟨rfl, hx⟩
  replace hF : Hid (Fr w w2) := hF.out.step hx
  clear hx
  go_wp2_with fail
  refine (needForm_okx _).mono ?_
  rintro e w2 ⟨rfl, hx⟩
  replace hF : Hid (Fr w w2) := hF.out.step hx
  clear hx
  have hbig : ¬ 9223372036854775807 < W.length + P.length := by omega
  have hw : wrap64 (7 - (P.length : Int)) = 7 - (P.length : Int) := by unfold wrap64; omega
  go_wp2_with fail
  refine (noughts_x _ Z hz.out _ (by omega) (by omega)).mono ?_
  rintro e w2 ⟨rfl, hx⟩
  replace hF : Hid (Fr w w2) := hF.out.step hx
  clear hx
  have hbig2 : ¬ 9223372036854775807 < W.length + (P.length + Z.length) := by have := hZl.out; omega
  have hbig3 : ¬ 9223372036854775807 < W.length + P.length + Z.length := by have := hZl.out; omega
  have hv1 : decide ((n : Int) ≤ 10000000000) = false := decide_eq_false (by omega)
  have hv2 : ¬ n ≤ 10000000000 := by omega
  go_wp2_with fail
  refine (number_ok (W ++ (P ++ Z)) _ (by have := hZl.out; simp; omega) hall.out n hn.out (by omega)).mono ?_
  rintro e w2 ⟨rfl, hx⟩
  replace hF : Hid (Fr w w2) := hF.out.step hx
  clear hx
  go_wp2_with fail
  refine (needForm_nox _).mono ?_
  rintro e w2 ⟨rfl, hx⟩
  replace hF : Hid (Fr w w2) := hF.out.step hx
  clear hx
  obtain ⟨hx0, gp, gq, gpz, gqz⟩ := hF.out
  clear hF
  replace hx0 : Hid (Ext _ _) := hx0
  go_wp2
  replace hx0 := hx0.out
  refine leaves_cons (f := 153) (args := #[.pointer (some ⟨w.heap.size, 0, none⟩), .pointer (some ⟨w.heap.size + 1, 0, none⟩)]) (by simp) (by simp [go_sem]) ?_
  refine (tr_catch w.heap.size 4 0 0 [] _ ?_ ?_ ?_ ?_).mono ?_
  · simp [go_sem, gp]
  · simp [go_sem, gq]
  · simp [go_sem, gpz]
  · simp [go_sem, gqz]
  rintro e u' w'' ⟨rfl, rfl, w3, hy, rfl⟩
  have hs1 := lt_of_cell gp
  have hs := lt_of_cell gq
  have hp2 : (w3.cell? ⟨w.heap.size, 0, none⟩).isSome = true := by rw [hy.cell _ _ (by simpa [World.setCell] using hs1)]; simp [go_sem, gp]
  have hq2 : (w3.cell? ⟨w.heap.size + 1, 0, none⟩).isSome = true := by rw [hy.cell _ _ (by simpa [World.setCell] using hs)]; simp [go_sem, gq]
  obtain ⟨vp, hp2⟩ := Option.isSome_iff_exists.1 hp2
  obtain ⟨vq, hq2⟩ := Option.isSome_iff_exists.1 hq2
  simp [Leaves, Go.settle, results, Tryz.results127, go_sem, hp2, hq2]
  refine ((Ext.trans ?_ hy).setCell (Nat.le_refl _) _).setCell (by show w.heap.size ≤ w.heap.size + 1; omega) _
  exact hx0
theorem tr_pos_t (l p r W P : List UInt8) (w : World) (g1 : trimSuffix l [37] = p) (g2 : hasSuffix l [37] = true) (hl : l.length ≤ 20000) (h1 : cutL p = []) (h2 : trimPrefix p [45] = r) (h3 : cut r [46] = (W, P, true)) (hr : r.length ≤ 20000) (hW : W.length ≤ 20000) (hP : P.length ≤ 20000) (he : Env w) (ho : okWhole W 4 = true) (hd : digOnly P = true) (hs : hasSuffix P [48] = false) (Z : List UInt8) (hz : zeros (7 - (P.length : Int)).toNat = Z) (hZl : Z.length = 7 - P.length) (hall : (W ++ (P ++ Z)).all isD = true) (hWl : W.length ≤ 4) (hlen : (P.length : Int) ≤ 7) (n : Nat) (hn : valL (W ++ (P ++ Z)) = n) (hnb : n ≤ 100000000000) (hv : (n : Int) ≤ 10000000000) :
    Calls Tryz.prog 127 #[.string ⟨l.toArray⟩] w fun e w' => e = .returned (.tuple #[.int .i64 (n : Int), .int .i64 0]) ∧ Ext w w' := by
  have hmf := make_func
  replace g1 := show Hid _ from g1
  replace g2 := show Hid _ from g2
  replace hl := show Hid _ from hl
  replace h1 := show Hid _ from h1
  replace h2 := show Hid _ from h2
  replace h3 := show Hid _ from h3
  replace hr := show Hid _ from hr
  replace hW := show Hid _ from hW
  replace hP := show Hid _ from hP
  replace he := show Hid _ from he
  replace ho := show Hid _ from ho
  replace hd := show Hid _ from hd
  replace hs := show Hid _ from hs
  replace hz := show Hid _ from hz
  replace hZl := show Hid _ from hZl
  replace hall := show Hid _ from hall
  replace hn := show Hid _ from hn
  go_enter_defers Tryz.func127, Tryz.ntmps127
  go_wp2_with fail
  refine (cutSuffix_c l p true g1.out g2.out hl.out _).mono ?_
  rintro e w1 ⟨rfl, hx⟩
  have hF : Hid (Fr w w1) := Fr.start hx
  clear hx
  go_wp2_with fail
  refine (needForm_okx _).mono ?_
  rintro e w2 ⟨rfl, hx⟩
  replace hF : Hid (Fr w w2) := hF.out.step hx
  clear hx
  go_wp2_with fail
  refine (cutSign_x p [] r h1.out h2.out _).mono ?_
  rintro e w2 ⟨rfl, hx⟩
  replace hF : Hid (Fr w w2) := hF.out.step hx
  clear hx
  go_wp2_with fail
  refine (cut_c r W P true h3.out _ hr.out (Env.ext he.out hF.out.ext)).mono ?_
  rintro e w2 ⟨rfl, hx⟩
  replace hF : Hid (Fr w w2) := hF.out.step hx
  clear hx
  go_wp2_with fail
  refine (needWhole_ok W 4 _ hW.out (by omega) ho.out).mono ?_
  rintro e w2 ⟨rfl, hx⟩
  replace hF : Hid (Fr w w2) := hF.out.step hx
  clear hx
  go_wp2_with fail
  refine (digitsOnly_x P true hd.out _ hP.out).mono ?_
  rintro e w2 ⟨rfl, hx⟩
  replace hF : Hid (Fr w w2) := hF.out.step hx
  clear hx
  go_wp2_with fail
  refine (hasSuffix_c P false hs.out hP.out _).mono ?_
  rintro e w2 ⟨rfl, hx⟩
  replace hF : Hid (Fr w w2) := hF.out.step hx
  clear hx
  go_wp2_with fail
  refine (needForm_okx _).mono ?_
  rintro e w2 ⟨rfl, hx⟩
  replace hF : Hid (Fr w w2) := hF.out.step hx
  clear hx
  have hbig : ¬ 9223372036854775807 < W.length + P.length := by omega
  have hw : wrap64 (7 - (P.length : Int)) = 7 - (P.length : Int) := by unfold wrap64; omega
  go_wp2_with fail
  refine (noughts_x _ Z hz.out _ (by omega) (by omega)).mono ?_
  rintro e w2 ⟨rfl, hx⟩
  replace hF : Hid (Fr w w2) := hF.out.step hx
  clear hx
  have hbig2 : ¬ 9223372036854775807 < W.length + (P.length + Z.length) := by have := hZl.out; omega
  have hbig3 : ¬ 9223372036854775807 < W.length + P.length + Z.length := by have := hZl.out; omega
  go_wp2_with fail
  refine (number_ok (W ++ (P ++ Z)) _ (by have := hZl.out; simp; omega) hall.out n hn.out (by omega)).mono ?_
  rintro e w2 ⟨rfl, hx⟩
  replace hF : Hid (Fr w w2) := hF.out.step hx
  clear hx
  go_wp2_with fail
  refine (needForm_okx _).mono ?_
  rintro e w2 ⟨rfl, hx⟩
  replace hF : Hid (Fr w w2) := hF.out.step hx
  clear hx
  go_wp2_with fail
  refine (signed_posx _ _).mono ?_
  rintro e w2 ⟨rfl, hx⟩
  replace hF : Hid (Fr w w2) := hF.out.step hx
  clear hx
  obtain ⟨hx0, gp, gq, gpz, gqz⟩ := hF.out
  clear hF
  replace hx0 : Hid (Ext _ _) := hx0
  go_wp2
  replace hx0 := hx0.out
  refine leaves_cons (f := 153) (args := #[.pointer (some ⟨w.heap.size, 0, none⟩), .pointer (some ⟨w.heap.size + 1, 0, none⟩)]) (by simp) (by simp [go_sem]) ?_
  refine (tr_idle w.heap.size ((n : Int)) 0 _ ?_ ?_ ?_ ?_).mono ?_
  · simp [go_sem, gp]
  · simp [go_sem, gq]
  · simp [go_sem, gpz]
  · simp [go_sem, gqz]
  rintro e u' w'' ⟨rfl, rfl, w3, hy, rfl⟩
  have hs1 := lt_of_cell gp
  have hs := lt_of_cell gq
  have hp2 : (w3.cell? ⟨w.heap.size, 0, none⟩).isSome = true := by rw [hy.cell _ _ (by simpa [World.setCell] using hs1)]; simp [go_sem, gp]
  have hq2 : (w3.cell? ⟨w.heap.size + 1, 0, none⟩).isSome = true := by rw [hy.cell _ _ (by simpa [World.setCell] using hs)]; simp [go_sem, gq]
  obtain ⟨vp, hp2⟩ := Option.isSome_iff_exists.1 hp2
  obtain ⟨vq, hq2⟩ := Option.isSome_iff_exists.1 hq2
  simp [Leaves, Go.settle, results, Tryz.results127, go_sem, hp2, hq2]
  refine ((Ext.trans ?_ hy).setCell (Nat.le_refl _) _).setCell (by show w.heap.size ≤ w.heap.size + 1; omega) _
  exact (hx0.setCell (Nat.le_refl _) _).setCell (by show w.heap.size ≤ w.heap.size + 1; omega) _
theorem tr_neg_t (l p r W P : List UInt8) (w : World) (g1 : trimSuffix l [37] = p) (g2 : hasSuffix l [37] = true) (hl : l.length ≤ 20000) (h1 : cutL p = [45]) (h2 : trimPrefix p [45] = r) (h3 : cut r [46] = (W, P, true)) (hr : r.length ≤ 20000) (hW : W.length ≤ 20000) (hP : P.length ≤ 20000) (he : Env w) (ho : okWhole W 4 = true) (hd : digOnly P = true) (hs : hasSuffix P [48] = false) (Z : List UInt8) (hz : zeros (7 - (P.length : Int)).toNat = Z) (hZl : Z.length = 7 - P.length) (hall : (W ++ (P ++ Z)).all isD = true) (hWl : W.length ≤ 4) (hlen : (P.length : Int) ≤ 7) (n : Nat) (hn : valL (W ++ (P ++ Z)) = n) (hnb : n ≤ 100000000000) (hv : (n : Int) ≤ 10000000000) (hn0 : 0 < n) :
    Calls Tryz.prog 127 #[.string ⟨l.toArray⟩] w fun e w' => e = .returned (.tuple #[.int .i64 (-(n : Int)), .int .i64 0]) ∧ Ext w w' := by
  have hmf := make_func
  replace g1 := show Hid _ from g1
  replace g2 := show Hid _ from g2
  replace hl := show Hid _ from hl
  replace h1 := show Hid _ from h1
  replace h2 := show Hid _ from h2
  replace h3 := show Hid _ from h3
  replace hr := show Hid _ from hr
  replace hW := show Hid _ from hW
  replace hP := show Hid _ from hP
  replace he := show Hid _ from he
  replace ho := show Hid _ from ho
  replace hd := show Hid _ from hd
  replace hs := show Hid _ from hs
  replace hz := show Hid _ from hz
  replace hZl := show Hid _ from hZl
  replace hall := show Hid _ from hall
  replace hn := show Hid _ from hn
  replace hn0 := show Hid _ from hn0
  go_enter_defers Tryz.func127, Tryz.ntmps127
  go_wp2_with fail
  refine (cutSuffix_c l p true g1.out g2.out hl.out _).mono ?_
  rintro e w1 ⟨rfl, hx⟩
  have hF : Hid (Fr w w1) := Fr.start hx
  clear hx
  go_wp2_with fail
  refine (needForm_okx _).mono ?_
  rintro e w2 ⟨rfl, hx⟩
  replace hF : Hid (Fr w w2) := hF.out.step hx
  clear hx
  go_wp2_with fail
  refine (cutSign_x p [45] r h1.out h2.out _).mono ?_
  rintro e w2 ⟨rfl, hx⟩
  replace hF : Hid (Fr w w2) := hF.out.step hx
  clear hx
  go_wp2_with fail
  refine (cut_c r W P true h3.out _ hr.out (Env.ext he.out hF.out.ext)).mono ?_
  rintro e w2 ⟨rfl, hx⟩
  replace hF : Hid (Fr w w2) := hF.out.step hx
  clear hx
  go_wp2_with fail
  refine (needWhole_ok W 4 _ hW.out (by omega) ho.out).mono ?_
  rintro e w2 ⟨rfl, hx⟩
  replace hF : Hid (Fr w w2) := hF.out.step hx
  clear hx
  go_wp2_with fail
  refine (digitsOnly_x P true hd.out _ hP.out).mono ?_
  rintro e w2 ⟨rfl, hx⟩
  replace hF : Hid (Fr w w2) := hF.out.step hx
  clear hx
  go_wp2_with fail
  refine (hasSuffix_c P false hs.out hP.out _).mono ?_
  rintro e w2 ⟨rfl, hx⟩
  replace hF : Hid (Fr w w2) := hF.out.step hx
  clear hx
  go_wp2_with fail
  refine (needForm_okx _).mono ?_
  rintro e w2 ⟨rfl, hx⟩
  replace hF : Hid (Fr w w2) := hF.out.step hx
  clear hx
  have hbig : ¬ 9223372036854775807 < W.length + P.length := by omega
  have hw : wrap64 (7 - (P.length : Int)) = 7 - (P.length : Int) := by unfold wrap64; omega
  go_wp2_with fail
  refine (noughts_x _ Z hz.out _ (by omega) (by omega)).mono ?_
  rintro e w2 ⟨rfl, hx⟩
  replace hF : Hid (Fr w w2) := hF.out.step hx
  clear hx
  have hbig2 : ¬ 9223372036854775807 < W.length + (P.length + Z.length) := by have := hZl.out; omega
  have hbig3 : ¬ 9223372036854775807 < W.length + P.length + Z.length := by have := hZl.out; omega
  go_wp2_with fail
  refine (number_ok (W ++ (P ++ Z)) _ (by have := hZl.out; simp; omega) hall.out n hn.out (by omega)).mono ?_
  rintro e w2 ⟨rfl, hx⟩
  replace hF : Hid (Fr w w2) := hF.out.step hx
  clear hx
  go_wp2_with fail
  refine (needForm_okx _).mono ?_
  rintro e w2 ⟨rfl, hx⟩
  replace hF : Hid (Fr w w2) := hF.out.step hx
  clear hx
  go_wp2_with fail
  refine (signed_negx (n : Int) _ (by have := hn0.out; omega) (by omega)).mono ?_
  rintro e w2 ⟨rfl, hx⟩
  replace hF : Hid (Fr w w2) := hF.out.step hx
  clear hx
  obtain ⟨hx0, gp, gq, gpz, gqz⟩ := hF.out
  clear hF
  replace hx0 : Hid (Ext _ _) := hx0
  go_wp2
  replace hx0 := hx0.out
  refine leaves_cons (f := 153) (args := #[.pointer (some ⟨w.heap.size, 0, none⟩), .pointer (some ⟨w.heap.size + 1, 0, none⟩)]) (by simp) (by simp [go_sem]) ?_
  refine (tr_idle w.heap.size ((-(n : Int))) 0 _ ?_ ?_ ?_ ?_).mono ?_
  · simp [go_sem, gp]
  · simp [go_sem, gq]
  · simp [go_sem, gpz]
  · simp [go_sem, gqz]
  rintro e u' w'' ⟨rfl, rfl, w3, hy, rfl⟩
  have hs1 := lt_of_cell gp
  have hs := lt_of_cell gq
  have hp2 : (w3.cell? ⟨w.heap.size, 0, none⟩).isSome = true := by rw [hy.cell _ _ (by simpa [World.setCell] using hs1)]; simp [go_sem, gp]
  have hq2 : (w3.cell? ⟨w.heap.size + 1, 0, none⟩).isSome = true := by rw [hy.cell _ _ (by simpa [World.setCell] using hs)]; simp [go_sem, gq]
  obtain ⟨vp, hp2⟩ := Option.isSome_iff_exists.1 hp2
  obtain ⟨vq, hq2⟩ := Option.isSome_iff_exists.1 hq2
  simp [Leaves, Go.settle, results, Tryz.results127, go_sem, hp2, hq2]
  refine ((Ext.trans ?_ hy).setCell (Nat.le_refl _) _).setCell (by show w.heap.size ≤ w.heap.size + 1; omega) _
  exact (hx0.setCell (Nat.le_refl _) _).setCell (by show w.heap.size ≤ w.heap.size + 1; omega) _
theorem tr_nil_t (l p r W P : List UInt8) (w : World) (g1 : trimSuffix l [37] = p) (g2 : hasSuffix l [37] = true) (hl : l.length ≤ 20000) (h1 : cutL p = [45]) (h2 : trimPrefix p [45] = r) (h3 : cut r [46] = (W, P, true)) (hr : r.length ≤ 20000) (hW : W.length ≤ 20000) (hP : P.length ≤ 20000) (he : Env w) (ho : okWhole W 4 = true) (hd : digOnly P = true) (hs : hasSuffix P [48] = false) (Z : List UInt8) (hz : zeros (7 - (P.length : Int)).toNat = Z) (hZl : Z.length = 7 - P.length) (hall : (W ++ (P ++ Z)).all isD = true) (hWl : W.length ≤ 4) (hlen : (P.length : Int) ≤ 7) (hn : valL (W ++ (P ++ Z)) = 0) :
    Calls Tryz.prog 127 #[.string ⟨l.toArray⟩] w fun e w' => e = .returned (.tuple #[.int .i64 0, .int .i64 4]) ∧ Ext w w' := by
  have hmf := make_func
  replace g1 := show Hid _ from g1
  replace g2 := show Hid _ from g2
  replace hl := show Hid _ from hl
  replace h1 := show Hid _ from h1
  replace h2 := show Hid _ from h2
  replace h3 := show Hid _ from h3
  replace hr := show Hid _ from hr
  replace hW := show Hid _ from hW
  replace hP := show Hid _ from hP
  replace he := show Hid _ from he
  replace ho := show Hid _ from ho
  replace hd := show Hid _ from hd
  replace hs := show Hid _ from hs
  replace hz := show Hid _ from hz
  replace hZl := show Hid _ from hZl
  replace hall := show Hid _ from hall
  replace hn := show Hid _ from hn
  go_enter_defers Tryz.func127, Tryz.ntmps127
  go_wp2_with fail
  refine (cutSuffix_c l p true g1.out g2.out hl.out _).mono ?_
  rintro e w1 ⟨rfl, hx⟩
  have hF : Hid (Fr w w1) := Fr.start hx
  clear hx
  go_wp2_with fail
  refine (needForm_okx _).mono ?_
  rintro e w2 ⟨rfl, hx⟩
  replace hF : Hid (Fr w w2) := hF.out.step hx
  clear hx
  go_wp2_with fail
  refine (cutSign_x p [45] r h1.out h2.out _).mono ?_
  rintro e w2 ⟨rfl, hx⟩
  replace hF : Hid (Fr w w2) := hF.out.step hx
  clear hx
  go_wp2_with fail
  refine (cut_c r W P true h3.out _ hr.out (Env.ext he.out hF.out.ext)).mono ?_
  rintro e w2 ⟨rfl, hx⟩
  replace hF : Hid (Fr w w2) := hF.out.step hx
  clear hx
  go_wp2_with fail
  refine (needWhole_ok W 4 _ hW.out (by omega) ho.out).mono ?_
  rintro e w2 ⟨rfl, hx⟩
  replace hF : Hid (Fr w w2) := hF.out.step hx
  clear hx
  go_wp2_with fail
  refine (digitsOnly_x P true hd.out _ hP.out).mono ?_
  rintro e w2 ⟨rfl, hx⟩
  replace hF : Hid (Fr w w2) := hF.out.step hx
  clear hx
  go_wp2_with fail
  refine (hasSuffix_c P false hs.out hP.out _).mono ?_
  rintro e w2 ⟨rfl, hx⟩
  replace hF : Hid (Fr w w2) := hF.out.step hx
  clear hx
  go_wp2_with fail
  refine (needForm_okx _).mono ?_
  rintro e w2 ⟨rfl, hx⟩
  replace hF : Hid (Fr w w2) := hF.out.step hx
  clear hx
  have hbig : ¬ 9223372036854775807 < W.length + P.length := by omega
  have hw : wrap64 (7 - (P.length : Int)) = 7 - (P.length : Int) := by unfold wrap64; omega
  go_wp2_with fail
  refine (noughts_x _ Z hz.out _ (by omega) (by omega)).mono ?_
  rintro e w2 ⟨rfl, hx⟩
  replace hF : Hid (Fr w w2) := hF.out.step hx
  clear hx
  have hbig2 : ¬ 9223372036854775807 < W.length + (P.length + Z.length) := by have := hZl.out; omega
  have hbig3 : ¬ 9223372036854775807 < W.length + P.length + Z.length := by have := hZl.out; omega
  go_wp2_with fail
  refine (number_ok (W ++ (P ++ Z)) _ (by have := hZl.out; simp; omega) hall.out 0 hn.out (by omega)).mono ?_
  rintro e w2 ⟨rfl, hx⟩
  replace hF : Hid (Fr w w2) := hF.out.step hx
  clear hx
  go_wp2_with fail
  refine (needForm_okx _).mono ?_
  rintro e w2 ⟨rfl, hx⟩
  replace hF : Hid (Fr w w2) := hF.out.step hx
  clear hx
  go_wp2_with fail
  refine (signed_nilx _).mono ?_
  rintro e w2 ⟨rfl, hx⟩
  replace hF : Hid (Fr w w2) := hF.out.step hx
  clear hx
  obtain ⟨hx0, gp, gq, gpz, gqz⟩ := hF.out
  clear hF
  replace hx0 : Hid (Ext _ _) := hx0
  go_wp2
  replace hx0 := hx0.out
  refine leaves_cons (f := 153) (args := #[.pointer (some ⟨w.heap.size, 0, none⟩), .pointer (some ⟨w.heap.size + 1, 0, none⟩)]) (by simp) (by simp [go_sem]) ?_
  refine (tr_catch w.heap.size 4 0 0 [] _ ?_ ?_ ?_ ?_).mono ?_
  · simp [go_sem, gp]
  · simp [go_sem, gq]
  · simp [go_sem, gpz]
  · simp [go_sem, gqz]
  rintro e u' w'' ⟨rfl, rfl, w3, hy, rfl⟩
  have hs1 := lt_of_cell gp
  have hs := lt_of_cell gq
  have hp2 : (w3.cell? ⟨w.heap.size, 0, none⟩).isSome = true := by rw [hy.cell _ _ (by simpa [World.setCell] using hs1)]; simp [go_sem, gp]
  have hq2 : (w3.cell? ⟨w.heap.size + 1, 0, none⟩).isSome = true := by rw [hy.cell _ _ (by simpa [World.setCell] using hs)]; simp [go_sem, gq]
  obtain ⟨vp, hp2⟩ := Option.isSome_iff_exists.1 hp2
  obtain ⟨vq, hq2⟩ := Option.isSome_iff_exists.1 hq2
  simp [Leaves, Go.settle, results, Tryz.results127, go_sem, hp2, hq2]
  refine ((Ext.trans ?_ hy).setCell (Nat.le_refl _) _).setCell (by show w.heap.size ≤ w.heap.size + 1; omega) _
  exact hx0
end Go.Proofs.YtbnpaeejlfaboaaGreatDoor.L2

namespace Go.Proofs.YtbnpaeejlfaboaaGreatDoor.L2
open Go.RowKit Go.Lib
set_option linter.unusedVariables false
theorem takeMoney_c (l : List UInt8) (w : World) (hl : l.length ≤ 20000) (he : Env w) :
    Calls Tryz.prog 128 #[.string ⟨l.toArray⟩] w fun e w' => e = .returned (.tuple #[.int .i64 (takeM l).1, .int .i64 (takeM l).2]) ∧ Ext w w' := by
  rcases hcd : cutD (trimPrefix l [45]) with ⟨W, P, B⟩
  have h3 : cut (trimPrefix l [45]) [46] = (W, P, B) := (cut_dot _).trans hcd
  have hr : (trimPrefix l [45]).length ≤ 20000 := Nat.le_trans (Lib.trimPrefix_le _ _) hl
  obtain ⟨hW, hP⟩ := cutD_len _ _ _ _ hcd
  replace hW := Nat.le_trans hW hr
  replace hP := Nat.le_trans hP hr
  unfold takeM
  rw [hcd]
  dsimp only
  cases ho : okWhole W 20
  · exact tm_whole l _ _ W P B w rfl rfl h3 hr hW hP he ho
  · obtain ⟨o1, o2, o3, o4⟩ := okWhole_spec W 20 ho
    by_cases hl2 : P.length = 2
    · cases hd : digOnly P
      · simpa [hl2] using tm_part l _ _ W P B w rfl rfl h3 hr hW hP he ho hl2 hd
      · have hPa : P.all isD = true := by unfold digOnly at hd; simp only [Bool.and_eq_true] at hd; exact hd.2
        have hall : (W ++ P).all isD = true := by rw [List.all_append, o3, hPa]; rfl
        simp only [hl2, decide_true, Bool.and_self, if_true]
        by_cases hv : valL (W ++ P) ≤ 1000000000000000
        · rw [if_pos hv]
          unfold sgnV
          cases hp : hasPrefix l [45]
          · have hc : cutL l = [] := by unfold cutL; rw [hp]; rfl
            exact tm_pos l _ W P B w hc rfl h3 hr hW hP he ho hl2 hd o1 hall _ rfl hv
          · have hc : cutL l = [45] := by unfold cutL; rw [hp]; rfl
            by_cases h0 : valL (W ++ P) = 0
            · simp only [h0, if_true]
              exact tm_nil l _ W P B w hc rfl h3 hr hW hP he ho hl2 hd o1 hall h0
            · simp only [if_true, h0, if_false]
              exact tm_neg l _ W P B w hc rfl h3 hr hW hP he ho hl2 hd o1 hall _ rfl hv (by omega)
        · rw [if_neg hv]
          exact tm_range l _ _ W P B w rfl rfl h3 hr hW hP he ho hl2 hd o1 hall (by omega)
    · have hne : ((P.length : Int) == 2) = false := by simp; omega
      simpa [hl2] using tm_len l _ _ W P B w rfl rfl h3 hr hW hP he ho hne
theorem takeRate_c (l : List UInt8) (w : World) (hl : l.length ≤ 20000) (he : Env w) :
    Calls Tryz.prog 127 #[.string ⟨l.toArray⟩] w fun e w' => e = .returned (.tuple #[.int .i64 (takeR l).1, .int .i64 (takeR l).2]) ∧ Ext w w' := by
  cases hf : hasSuffix l [37]
  · have := tr_form l _ w rfl hf hl
    unfold takeR
    simpa [hf] using this
  · generalize hp : trimSuffix l [37] = p
    have hpl : p.length ≤ 20000 := by rw [← hp]; exact Nat.le_trans (Lib.trimSuffix_le _ _) hl
    rcases hcd : cutD (trimPrefix p [45]) with ⟨W, P, B⟩
    have h3 : cut (trimPrefix p [45]) [46] = (W, P, B) := (cut_dot _).trans hcd
    have hr : (trimPrefix p [45]).length ≤ 20000 := Nat.le_trans (Lib.trimPrefix_le _ _) hpl
    obtain ⟨hW, hP⟩ := cutD_len _ _ _ _ hcd
    replace hW := Nat.le_trans hW hr
    replace hP := Nat.le_trans hP hr
    unfold takeR
    dsimp only
    rw [hp, hf, hcd]
    dsimp only
    cases ho : okWhole W 4
    · exact tr_whole l p _ _ W P B w hp hf hl rfl rfl h3 hr hW hP he ho
    · obtain ⟨o1, o2, o3, o4⟩ := okWhole_spec W 4 ho
      obtain ⟨_, j1, j2⟩ := cutD_join _ _ _ _ hcd
      have hfin : ∀ (hP7 : P.length ≤ 7) (hPa : P.all isD = true),
          (W ++ (P ++ zeros (7 - P.length))).all isD = true ∧ valL (W ++ (P ++ zeros (7 - P.length))) ≤ 100000000000 := by
        intro hP7 hPa
        have ha : (W ++ (P ++ zeros (7 - P.length))).all isD = true := by rw [List.all_append, List.all_append, o3, hPa, zeros_all]; rfl
        refine ⟨ha, ?_⟩
        have := valL_lt _ ha
        have hlen : (W ++ (P ++ zeros (7 - P.length))).length ≤ 11 := by
          rw [List.length_append, List.length_append, zeros_len]; omega
        have := Nat.pow_le_pow_right (n := 10) (by omega) hlen
        omega
      have hZ : ∀ (hP7 : P.length ≤ 7), zeros (7 - (P.length : Int)).toNat = zeros (7 - P.length) := by
        intro hP7; congr 1; omega
      cases B
      · obtain ⟨_, rP⟩ := j2 rfl
        have hP7 : P.length ≤ 7 := by rw [rP]; simp
        have hPa : P.all isD = true := by rw [rP]; rfl
        obtain ⟨ha, hb⟩ := hfin hP7 hPa
        have hZ := hZ hP7
        have hzl := zeros_len (7 - P.length)
        simp only [Bool.not_false, Bool.true_or, Bool.and_self, if_true]
        by_cases hv : valL (W ++ (P ++ zeros (7 - P.length))) ≤ 10000000000
        · rw [if_pos hv]
          unfold sgnV
          cases hn : hasPrefix p [45]
          · have hc : cutL p = [] := by unfold cutL; rw [hn]; rfl
            exact tr_pos_f l p _ W P w hp hf hl hc rfl h3 hr hW hP he ho _ hZ hzl ha o1 (by omega) _ rfl hb (by omega)
          · have hc : cutL p = [45] := by unfold cutL; rw [hn]; rfl
            by_cases h0 : valL (W ++ (P ++ zeros (7 - P.length))) = 0
            · simp only [h0, if_true]
              exact tr_nil_f l p _ W P w hp hf hl hc rfl h3 hr hW hP he ho _ hZ hzl ha o1 (by omega) h0
            · simp only [if_true, h0, if_false]
              exact tr_neg_f l p _ W P w hp hf hl hc rfl h3 hr hW hP he ho _ hZ hzl ha o1 (by omega) _ rfl hb (by omega) (by omega)
        · rw [if_neg hv]
          exact tr_over_f l p _ _ W P w hp hf hl rfl rfl h3 hr hW hP he ho _ hZ hzl ha o1 (by omega) _ rfl hb (by omega)
      · by_cases hP7 : P.length ≤ 7
        · cases hd : digOnly P
          · simpa [hP7] using tr_part l p _ _ W P w hp hf hl rfl rfl h3 hr hW hP he ho (by omega) hd
          · have hPa : P.all isD = true := by unfold digOnly at hd; simp only [Bool.and_eq_true] at hd; exact hd.2
            cases hs : hasSuffix P [48]
            · obtain ⟨ha, hb⟩ := hfin hP7 hPa
              have hZ := hZ hP7
              have hzl := zeros_len (7 - P.length)
              simp only [hP7, decide_true, Bool.not_true, Bool.not_false, Bool.false_or, Bool.and_self, if_true]
              by_cases hv : valL (W ++ (P ++ zeros (7 - P.length))) ≤ 10000000000
              · rw [if_pos hv]
                unfold sgnV
                cases hn : hasPrefix p [45]
                · have hc : cutL p = [] := by unfold cutL; rw [hn]; rfl
                  exact tr_pos_t l p _ W P w hp hf hl hc rfl h3 hr hW hP he ho hd hs _ hZ hzl ha o1 (by omega) _ rfl hb (by omega)
                · have hc : cutL p = [45] := by unfold cutL; rw [hn]; rfl
                  by_cases h0 : valL (W ++ (P ++ zeros (7 - P.length))) = 0
                  · simp only [h0, if_true]
                    exact tr_nil_t l p _ W P w hp hf hl hc rfl h3 hr hW hP he ho hd hs _ hZ hzl ha o1 (by omega) h0
                  · simp only [if_true, h0, if_false]
                    exact tr_neg_t l p _ W P w hp hf hl hc rfl h3 hr hW hP he ho hd hs _ hZ hzl ha o1 (by omega) _ rfl hb (by omega) (by omega)
              · rw [if_neg hv]
                exact tr_over_t l p _ _ W P w hp hf hl rfl rfl h3 hr hW hP he ho hd hs _ hZ hzl ha o1 (by omega) _ rfl hb (by omega)
            · simpa [hP7] using tr_nought l p _ _ W P w hp hf hl rfl rfl h3 hr hW hP he ho (by omega) hd hs
        · simpa [hP7] using tr_long l p _ _ W P w hp hf hl rfl rfl h3 hr hW hP he ho (by omega)
end Go.Proofs.YtbnpaeejlfaboaaGreatDoor.L2

namespace Go.Proofs.YtbnpaeejlfaboaaGreatDoor.L2
open Go.RowKit Go.Lib
set_option linter.unusedVariables false
theorem fix_cons (j : Nat) : ∀ v, fix (j + 1) v = dgt (v / 10 ^ j) :: fix j v := by
  induction j with
  | zero => intro v; simp [fix]
  | succ j ih =>
    intro v
    rw [fix, ih, fix, Nat.pow_succ, Nat.mul_comm (10 ^ j) 10, ← Nat.div_div_eq_div_mul]
    rfl
end Go.Proofs.YtbnpaeejlfaboaaGreatDoor.L2

namespace Go.Proofs.YtbnpaeejlfaboaaGreatDoor.L2
open Go.RowKit Go.Lib
set_option linter.unusedVariables false
end Go.Proofs.YtbnpaeejlfaboaaGreatDoor.L2

namespace Go.Proofs.YtbnpaeejlfaboaaGreatDoor.L2
open Go.RowKit Go.Lib
set_option linter.unusedVariables false
end Go.Proofs.YtbnpaeejlfaboaaGreatDoor.L2

namespace Go.Proofs.YtbnpaeejlfaboaaGreatDoor.L2
open Go.RowKit Go.Lib
set_option linter.unusedVariables false
end Go.Proofs.YtbnpaeejlfaboaaGreatDoor.L2

namespace Go.Proofs.YtbnpaeejlfaboaaGreatDoor.L2
open Go.RowKit Go.Lib
set_option linter.unusedVariables false
end Go.Proofs.YtbnpaeejlfaboaaGreatDoor.L2

namespace Go.Proofs.YtbnpaeejlfaboaaGreatDoor.L2
open Go.RowKit Go.Lib
set_option linter.unusedVariables false
end Go.Proofs.YtbnpaeejlfaboaaGreatDoor.L2
