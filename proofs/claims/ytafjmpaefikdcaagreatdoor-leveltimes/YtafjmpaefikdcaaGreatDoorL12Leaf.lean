
/- What the small functions of the program and the deferred closures of its faces do, as contracts: no statement of the seat is proved here. -/
import Derived.Test.YtafjmpaefikdcaaGreatDoorRows
import Derived.Test.YtafjmpaefikdcaaGreatDoorLate
namespace Go.Proofs.YtafjmpaefikdcaaGreatDoor.L12
open Go.RowKit
set_option linter.unusedVariables false

theorem fits_any (v : Int) (w : World) :
    Calls Tryz.prog 127 #[.int .i64 v] w fun e w' => e = .returned (.bool (decide (-1000000000000000 ≤ v) && decide (v ≤ 1000000000000000))) ∧ w' = w := by
  by_cases h1 : -1000000000000000 ≤ v <;> by_cases h2 : v ≤ 1000000000000000 <;>
  · go_enter Tryz.func127, Tryz.ntmps127
    go_wp2
    go_ret
    exact ⟨by simp [h1, h2], rfl⟩

theorem need_ok (c : Int) (w : World) :
    Calls Tryz.prog 20 #[.bool true, .int .i64 c] w fun e w' => e = .returned (.tuple #[]) ∧ w' = w := by
  go_enter Tryz.func20, Tryz.ntmps20
  go_wp2
  go_end0
  exact ⟨rfl, rfl⟩

/-- What is thrown. -/
def thrown (c : Int) : Ending := .panicked [{ v := .iface 33 (.int .i64 c), recovered := false }]

theorem need_no (c : Int) (w : World) :
    Calls Tryz.prog 20 #[.bool false, .int .i64 c] w fun e w' => e = .panicked [{ v := .iface 33 (.int .i64 c), recovered := false }] ∧ w' = w := by
  go_enter Tryz.func20, Tryz.ntmps20
  go_wp2
  exact ⟨rfl, rfl, rfl⟩

theorem fitting_ok (v : Int) (w : World) (h1 : -1000000000000000 ≤ v) (h2 : v ≤ 1000000000000000) :
    Calls Tryz.prog 114 #[.int .i64 v] w fun e w' => e = .returned (.int .i64 v) ∧ w' = w := by
  go_enter Tryz.func114, Tryz.ntmps114
  go_wp2
  go_end0
  go_wp2
  go_ret
  exact ⟨rfl, rfl⟩

theorem fitting_no (v : Int) (w : World) (h : ¬ (-1000000000000000 ≤ v ∧ v ≤ 1000000000000000)) :
    Calls Tryz.prog 114 #[.int .i64 v] w fun e w' => e = .panicked [{ v := .iface 33 (.int .i64 3), recovered := false }] ∧ w' = w := by
  by_cases h1 : -1000000000000000 ≤ v
  · have h2 : ¬ v ≤ 1000000000000000 := fun k => h ⟨h1, k⟩
    clear h
    go_enter Tryz.func114, Tryz.ntmps114
    go_wp2
    exact ⟨rfl, rfl, rfl, rfl⟩
  · clear h
    go_enter Tryz.func114, Tryz.ntmps114
    go_wp2
    exact ⟨rfl, rfl, rfl, rfl⟩

theorem assert_errno (W : World) (x : Value) : (Instr.typeAssert (.iface 33 x) 20 33 true).run Tryz.prog W = .ok (.tuple #[x, .bool true]) W := by kernel_rfl

theorem settleAt_nil (v : Int) (w : World) :
    Calls Tryz.prog 37 #[.nilIface, .int .i64 v] w fun e w' => e = .returned (.tuple #[.int .i64 v, .int .i64 0, .int .i64 0]) ∧ w' = w := by
  go_enter Tryz.func37, Tryz.ntmps37
  go_wp2
  exact bodyPost_ret (v := .tuple #[.int .i64 v, .int .i64 0, .int .i64 0]) (by simp [results, Tryz.results37, go_sem]) rfl ⟨rfl, rfl⟩

theorem settleAt_thrown (c v : Int) (w : World) :
    Calls Tryz.prog 37 #[.iface 33 (.int .i64 c), .int .i64 v] w fun e w' => e = .returned (.tuple #[.int .i64 0, .int .i64 0, .int .i64 c]) ∧ w' = w := by
  have hta := assert_errno
  go_enter Tryz.func37, Tryz.ntmps37
  go_wp2
  exact bodyPost_ret (v := .tuple #[.int .i64 0, .int .i64 0, .int .i64 c]) (by simp [results, Tryz.results37, go_sem]) rfl ⟨rfl, rfl⟩

theorem settle_nil (v : Int) (w : World) :
    Calls Tryz.prog 18 #[.nilIface, .int .i64 v] w fun e w' => e = .returned (.tuple #[.int .i64 v, .int .i64 0]) ∧ w' = w := by
  go_enter Tryz.func18, Tryz.ntmps18
  go_wp2_with fail
  refine (settleAt_nil _ _).mono ?_
  rintro e w1 ⟨rfl, rfl⟩
  go_wp2
  go_ret2
  exact ⟨rfl, rfl⟩

theorem settle_thrown (c v : Int) (w : World) :
    Calls Tryz.prog 18 #[.iface 33 (.int .i64 c), .int .i64 v] w fun e w' => e = .returned (.tuple #[.int .i64 0, .int .i64 c]) ∧ w' = w := by
  go_enter Tryz.func18, Tryz.ntmps18
  go_wp2_with fail
  refine (settleAt_thrown _ _ _).mono ?_
  rintro e w1 ⟨rfl, rfl⟩
  go_wp2
  go_ret2
  exact ⟨rfl, rfl⟩

theorem rsettleAt_nil (v : Int) (w : World) :
    Calls Tryz.prog 108 #[.nilIface, .agg #[.int .i64 v]] w fun e w' => e = .returned (.tuple #[.agg #[.int .i64 v], .int .i64 0, .int .i64 0]) ∧ Ext w w' := by
  go_enter Tryz.func108, Tryz.ntmps108
  go_wp2
  exact bodyPost_ret (v := .tuple #[.agg #[.int .i64 v], .int .i64 0, .int .i64 0]) (by simp [results, Tryz.results108, go_sem]) rfl ⟨rfl, by repeat (first | exact Ext.refl _ | apply Ext.alloc)⟩

theorem rsettleAt_thrown (c v : Int) (w : World) :
    Calls Tryz.prog 108 #[.iface 33 (.int .i64 c), .agg #[.int .i64 v]] w fun e w' => e = .returned (.tuple #[.agg #[.int .i64 0], .int .i64 0, .int .i64 c]) ∧ Ext w w' := by
  have hta := assert_errno
  go_enter Tryz.func108, Tryz.ntmps108
  go_wp2
  exact bodyPost_ret (v := .tuple #[.agg #[.int .i64 0], .int .i64 0, .int .i64 c]) (by simp [results, Tryz.results108, go_sem]) rfl ⟨rfl, by repeat (first | exact Ext.refl _ | apply Ext.alloc)⟩

theorem two_boxes {w w1 : World} {x y : Value} {t s : TypeId} (hx : Ext ((w.alloc (.cells #[x] t)).alloc (.cells #[y] s)) w1) :
    w1.cell? ⟨w.heap.size, 0, none⟩ = some x ∧ w1.cell? ⟨w.heap.size + 1, 0, none⟩ = some y ∧ w1.frozen? ⟨w.heap.size, 0, none⟩ = false ∧ w1.frozen? ⟨w.heap.size + 1, 0, none⟩ = false ∧ Ext w w1 :=
  ⟨by rw [hx.cell _ _ (by simp; omega)]; simp [go_sem], by rw [hx.cell _ _ (by simp)]; simp [go_sem], by rw [hx.froz _ _ (by simp; omega)]; simp [go_sem], by rw [hx.froz _ _ (by simp)]; simp [go_sem], (by exact ((Ext.refl w).alloc _ _).alloc _ _ : Ext w _).trans hx⟩

theorem two_set {w w1 : World} {x y : Value} (u : Value) (_ : w1.cell? ⟨w.heap.size, 0, none⟩ = some x) (h1 : w1.cell? ⟨w.heap.size + 1, 0, none⟩ = some y) (hx : Ext w w1) :
    ((w1.setCell ⟨w.heap.size, 0, none⟩ u).setCell ⟨w.heap.size + 1, 0, none⟩ u).cell? ⟨w.heap.size + 1, 0, none⟩ = some u ∧ Ext w ((w1.setCell ⟨w.heap.size, 0, none⟩ u).setCell ⟨w.heap.size + 1, 0, none⟩ u) := by
  have h2 : (w1.setCell ⟨w.heap.size, 0, none⟩ u).cell? ⟨w.heap.size + 1, 0, none⟩ = some y := by
    rw [← h1]
    apply World.cell?_setCell_other
    intro e
    injection e with e1 e2
    omega
  refine ⟨?_, (hx.setCell (Nat.le_refl _) _).setCell (by show w.heap.size ≤ w.heap.size + 1; omega) _⟩
  apply World.cell?_setCell_same
  exact h2

theorem rsettle_nil (v : Int) (w : World) :
    Calls Tryz.prog 89 #[.nilIface, .agg #[.int .i64 v]] w fun e w' => e = .returned (.tuple #[.agg #[.int .i64 v], .int .i64 0]) ∧ Ext w w' := by
  go_enter Tryz.func89, Tryz.ntmps89
  go_wp2_with fail
  refine (rsettleAt_nil _ _).mono ?_
  rintro e w1 ⟨rfl, hx⟩
  obtain ⟨c0, c1, z0, z1, hx1⟩ := two_boxes hx
  obtain ⟨k1, hx2⟩ := two_set (.int .i64 v) c0 c1 hx1
  replace hx2 : Hid _ := hx2
  clear hx hx1
  go_wp2
  exact bodyPost_ret (v := .tuple #[.agg #[.int .i64 v], .int .i64 0]) (by simp [results, Tryz.results89, go_sem, k1]) rfl ⟨rfl, hx2.out⟩

theorem rsettle_thrown (c v : Int) (w : World) :
    Calls Tryz.prog 89 #[.iface 33 (.int .i64 c), .agg #[.int .i64 v]] w fun e w' => e = .returned (.tuple #[.agg #[.int .i64 0], .int .i64 c]) ∧ Ext w w' := by
  go_enter Tryz.func89, Tryz.ntmps89
  go_wp2_with fail
  refine (rsettleAt_thrown _ _ _).mono ?_
  rintro e w1 ⟨rfl, hx⟩
  obtain ⟨c0, c1, z0, z1, hx1⟩ := two_boxes hx
  obtain ⟨k1, hx2⟩ := two_set (.int .i64 0) c0 c1 hx1
  replace hx2 : Hid _ := hx2
  clear hx hx1
  go_wp2
  exact bodyPost_ret (v := .tuple #[.agg #[.int .i64 0], .int .i64 c]) (by simp [results, Tryz.results89, go_sem, k1]) rfl ⟨rfl, hx2.out⟩

theorem settleAt_nilB (v : Value) (w : World) :
    Calls Tryz.prog 85 #[.nilIface, v] w fun e w' => e = .returned (.tuple #[v, .int .i64 0, .int .i64 0]) ∧ w' = w := by
  go_enter Tryz.func85, Tryz.ntmps85
  go_wp2
  exact bodyPost_ret (v := .tuple #[v, .int .i64 0, .int .i64 0]) (by simp [results, Tryz.results85, go_sem]) rfl ⟨rfl, rfl⟩

theorem settleAt_thrownB (c : Int) (v : Value) (w : World) :
    Calls Tryz.prog 85 #[.iface 33 (.int .i64 c), v] w fun e w' => e = .returned (.tuple #[.pointer none, .int .i64 0, .int .i64 c]) ∧ w' = w := by
  have hta := assert_errno
  go_enter Tryz.func85, Tryz.ntmps85
  go_wp2
  exact bodyPost_ret (v := .tuple #[.pointer none, .int .i64 0, .int .i64 c]) (by simp [results, Tryz.results85, go_sem]) rfl ⟨rfl, rfl⟩

theorem settle_nilB (v : Value) (w : World) :
    Calls Tryz.prog 57 #[.nilIface, v] w fun e w' => e = .returned (.tuple #[v, .int .i64 0]) ∧ w' = w := by
  go_enter Tryz.func57, Tryz.ntmps57
  go_wp2_with fail
  refine (settleAt_nilB _ _).mono ?_
  rintro e w1 ⟨rfl, rfl⟩
  go_wp2
  go_ret2
  exact ⟨rfl, rfl⟩

theorem settle_thrownB (c : Int) (v : Value) (w : World) :
    Calls Tryz.prog 57 #[.iface 33 (.int .i64 c), v] w fun e w' => e = .returned (.tuple #[.pointer none, .int .i64 c]) ∧ w' = w := by
  go_enter Tryz.func57, Tryz.ntmps57
  go_wp2_with fail
  refine (settleAt_thrownB _ _ _).mono ?_
  rintro e w1 ⟨rfl, rfl⟩
  go_wp2
  go_ret2
  exact ⟨rfl, rfl⟩

theorem div_idle (b : Nat) (v z : Int) (w : World) (hp : w.cell? ⟨b, 0, none⟩ = some (.int .i64 v)) (hq : w.cell? ⟨b + 1, 0, none⟩ = some (.int .i64 z)) (hpz : w.frozen? ⟨b, 0, none⟩ = false) (hqz : w.frozen? ⟨b + 1, 0, none⟩ = false) :
    CallsD Tryz.prog 111 #[.pointer (some ⟨b, 0, none⟩), .pointer (some ⟨b + 1, 0, none⟩)] .returning w fun e u' w' => e = .returned (.tuple #[]) ∧ u' = .returning ∧ ∃ w1, Ext w w1 ∧ w' = ((w1.setCell ⟨b, 0, none⟩ (.int .i64 v)).setCell ⟨b + 1, 0, none⟩ (.int .i64 0)) := by
  refine callsD_of_wpS Tryz.func111 rfl fun c₀ cs hu => ?_
  refine wpS_region_any 8 rfl (by kernel_rfl) ?_
  refine wpAnyS_two (i := 0) (j := 1) (by decide +kernel) ?_ ?_
  · simp [wpOpS, go_sem, recoverD, hu, Tryz.ntmps111]
    refine wpAnyS_one (i := 1) (by decide +kernel) ?_
    simp [wpOpS, go_sem, hp]
    refine wpAnyS_one (i := 2) (by decide +kernel) ?_
    simp [wpOpS, go_sem]
    refine (settle_nil _ _).mono ?_
    rintro e w' ⟨rfl, rfl⟩
    refine wpAnyS_one (i := 3) (by decide +kernel) ?_
    simp [wpOpS, go_sem]
    refine wpAnyS_two (i := 4) (j := 5) (by decide +kernel) ?_ ?_
    · simp [wpOpS, go_sem]
      refine wpAnyS_two (i := 5) (j := 6) (by decide +kernel) ?_ ?_
      · simp [wpOpS, go_sem]
        refine wpAnyS_one (i := 6) (by decide +kernel) ?_
        simp [wpOpS, go_sem, hp, hpz]
        refine wpAnyS_one (i := 7) (by decide +kernel) ?_
        simp [wpOpS, go_sem, hq, hqz]
        refine wpAnyS_done (by decide +kernel) ?_ _
        exact ⟨rfl, .returning, by rw [← hu], .tuple #[], results_none (by rfl) _ _ _, rfl, rfl, w.drew, (Ext.refl w).drew, rfl⟩
      · simp [wpOpS, go_sem, hp, hpz]
        refine wpAnyS_one (i := 5) (by decide +kernel) ?_
        simp [wpOpS, go_sem]
        refine wpAnyS_one (i := 7) (by decide +kernel) ?_
        simp [wpOpS, go_sem, hq, hqz]
        refine wpAnyS_done (by decide +kernel) ?_ _
        exact ⟨rfl, .returning, by rw [← hu], .tuple #[], results_none (by rfl) _ _ _, rfl, rfl, w.drew, (Ext.refl w).drew, rfl⟩
    · simp [wpOpS, go_sem]
      refine wpAnyS_one (i := 4) (by decide +kernel) ?_
      simp [wpOpS, go_sem]
      refine wpAnyS_one (i := 6) (by decide +kernel) ?_
      simp [wpOpS, go_sem, hp, hpz]
      refine wpAnyS_one (i := 7) (by decide +kernel) ?_
      simp [wpOpS, go_sem, hq, hqz]
      refine wpAnyS_done (by decide +kernel) ?_ _
      exact ⟨rfl, .returning, by rw [← hu], .tuple #[], results_none (by rfl) _ _ _, rfl, rfl, w.drew, (Ext.refl w).drew, rfl⟩
  · simp [wpOpS, go_sem, hp, Tryz.ntmps111]
    refine wpAnyS_one (i := 0) (by decide +kernel) ?_
    simp [wpOpS, go_sem, recoverD, hu]
    refine wpAnyS_one (i := 2) (by decide +kernel) ?_
    simp [wpOpS, go_sem]
    refine (settle_nil _ _).mono ?_
    rintro e w' ⟨rfl, rfl⟩
    refine wpAnyS_one (i := 3) (by decide +kernel) ?_
    simp [wpOpS, go_sem]
    refine wpAnyS_two (i := 4) (j := 5) (by decide +kernel) ?_ ?_
    · simp [wpOpS, go_sem]
      refine wpAnyS_two (i := 5) (j := 6) (by decide +kernel) ?_ ?_
      · simp [wpOpS, go_sem]
        refine wpAnyS_one (i := 6) (by decide +kernel) ?_
        simp [wpOpS, go_sem, hp, hpz]
        refine wpAnyS_one (i := 7) (by decide +kernel) ?_
        simp [wpOpS, go_sem, hq, hqz]
        refine wpAnyS_done (by decide +kernel) ?_ _
        exact ⟨rfl, .returning, by rw [← hu], .tuple #[], results_none (by rfl) _ _ _, rfl, rfl, w.drew, (Ext.refl w).drew, rfl⟩
      · simp [wpOpS, go_sem, hp, hpz]
        refine wpAnyS_one (i := 5) (by decide +kernel) ?_
        simp [wpOpS, go_sem]
        refine wpAnyS_one (i := 7) (by decide +kernel) ?_
        simp [wpOpS, go_sem, hq, hqz]
        refine wpAnyS_done (by decide +kernel) ?_ _
        exact ⟨rfl, .returning, by rw [← hu], .tuple #[], results_none (by rfl) _ _ _, rfl, rfl, w.drew, (Ext.refl w).drew, rfl⟩
    · simp [wpOpS, go_sem]
      refine wpAnyS_one (i := 4) (by decide +kernel) ?_
      simp [wpOpS, go_sem]
      refine wpAnyS_one (i := 6) (by decide +kernel) ?_
      simp [wpOpS, go_sem, hp, hpz]
      refine wpAnyS_one (i := 7) (by decide +kernel) ?_
      simp [wpOpS, go_sem, hq, hqz]
      refine wpAnyS_done (by decide +kernel) ?_ _
      exact ⟨rfl, .returning, by rw [← hu], .tuple #[], results_none (by rfl) _ _ _, rfl, rfl, w.drew, (Ext.refl w).drew, rfl⟩

theorem div_catch (b : Nat) (c v z : Int) (older : List PanicEntry) (w : World) (hp : w.cell? ⟨b, 0, none⟩ = some (.int .i64 v)) (hq : w.cell? ⟨b + 1, 0, none⟩ = some (.int .i64 z)) (hpz : w.frozen? ⟨b, 0, none⟩ = false) (hqz : w.frozen? ⟨b + 1, 0, none⟩ = false) :
    CallsD Tryz.prog 111 #[.pointer (some ⟨b, 0, none⟩), .pointer (some ⟨b + 1, 0, none⟩)] (.panicking ({ v := .iface 33 (.int .i64 c), recovered := false } :: older)) w fun e u' w' => e = .returned (.tuple #[]) ∧ u' = .panicking ({ v := .iface 33 (.int .i64 c), recovered := true } :: older) ∧ ∃ w1, Ext w w1 ∧ w' = ((w1.setCell ⟨b, 0, none⟩ (.int .i64 0)).setCell ⟨b + 1, 0, none⟩ (.int .i64 c)) := by
  refine callsD_of_wpS Tryz.func111 rfl fun c₀ cs hu => ?_
  refine wpS_region_any 8 rfl (by kernel_rfl) ?_
  refine wpAnyS_two (i := 0) (j := 1) (by decide +kernel) ?_ ?_
  · simp [wpOpS, go_sem, recoverD, hu, Tryz.ntmps111]
    refine wpAnyS_one (i := 1) (by decide +kernel) ?_
    simp [wpOpS, go_sem, hp]
    refine wpAnyS_one (i := 2) (by decide +kernel) ?_
    simp [wpOpS, go_sem]
    refine (settle_thrown _ _ _).mono ?_
    rintro e w' ⟨rfl, rfl⟩
    refine wpAnyS_one (i := 3) (by decide +kernel) ?_
    simp [wpOpS, go_sem]
    refine wpAnyS_two (i := 4) (j := 5) (by decide +kernel) ?_ ?_
    · simp [wpOpS, go_sem]
      refine wpAnyS_two (i := 5) (j := 6) (by decide +kernel) ?_ ?_
      · simp [wpOpS, go_sem]
        refine wpAnyS_one (i := 6) (by decide +kernel) ?_
        simp [wpOpS, go_sem, hp, hpz]
        refine wpAnyS_one (i := 7) (by decide +kernel) ?_
        simp [wpOpS, go_sem, hq, hqz]
        refine wpAnyS_done (by decide +kernel) ?_ _
        exact ⟨rfl, _, rfl, .tuple #[], results_none (by rfl) _ _ _, rfl, rfl, w.drew, (Ext.refl w).drew, rfl⟩
      · simp [wpOpS, go_sem, hp, hpz]
        refine wpAnyS_one (i := 5) (by decide +kernel) ?_
        simp [wpOpS, go_sem]
        refine wpAnyS_one (i := 7) (by decide +kernel) ?_
        simp [wpOpS, go_sem, hq, hqz]
        refine wpAnyS_done (by decide +kernel) ?_ _
        exact ⟨rfl, _, rfl, .tuple #[], results_none (by rfl) _ _ _, rfl, rfl, w.drew, (Ext.refl w).drew, rfl⟩
    · simp [wpOpS, go_sem]
      refine wpAnyS_one (i := 4) (by decide +kernel) ?_
      simp [wpOpS, go_sem]
      refine wpAnyS_one (i := 6) (by decide +kernel) ?_
      simp [wpOpS, go_sem, hp, hpz]
      refine wpAnyS_one (i := 7) (by decide +kernel) ?_
      simp [wpOpS, go_sem, hq, hqz]
      refine wpAnyS_done (by decide +kernel) ?_ _
      exact ⟨rfl, _, rfl, .tuple #[], results_none (by rfl) _ _ _, rfl, rfl, w.drew, (Ext.refl w).drew, rfl⟩
  · simp [wpOpS, go_sem, hp, Tryz.ntmps111]
    refine wpAnyS_one (i := 0) (by decide +kernel) ?_
    simp [wpOpS, go_sem, recoverD, hu]
    refine wpAnyS_one (i := 2) (by decide +kernel) ?_
    simp [wpOpS, go_sem]
    refine (settle_thrown _ _ _).mono ?_
    rintro e w' ⟨rfl, rfl⟩
    refine wpAnyS_one (i := 3) (by decide +kernel) ?_
    simp [wpOpS, go_sem]
    refine wpAnyS_two (i := 4) (j := 5) (by decide +kernel) ?_ ?_
    · simp [wpOpS, go_sem]
      refine wpAnyS_two (i := 5) (j := 6) (by decide +kernel) ?_ ?_
      · simp [wpOpS, go_sem]
        refine wpAnyS_one (i := 6) (by decide +kernel) ?_
        simp [wpOpS, go_sem, hp, hpz]
        refine wpAnyS_one (i := 7) (by decide +kernel) ?_
        simp [wpOpS, go_sem, hq, hqz]
        refine wpAnyS_done (by decide +kernel) ?_ _
        exact ⟨rfl, _, rfl, .tuple #[], results_none (by rfl) _ _ _, rfl, rfl, w.drew, (Ext.refl w).drew, rfl⟩
      · simp [wpOpS, go_sem, hp, hpz]
        refine wpAnyS_one (i := 5) (by decide +kernel) ?_
        simp [wpOpS, go_sem]
        refine wpAnyS_one (i := 7) (by decide +kernel) ?_
        simp [wpOpS, go_sem, hq, hqz]
        refine wpAnyS_done (by decide +kernel) ?_ _
        exact ⟨rfl, _, rfl, .tuple #[], results_none (by rfl) _ _ _, rfl, rfl, w.drew, (Ext.refl w).drew, rfl⟩
    · simp [wpOpS, go_sem]
      refine wpAnyS_one (i := 4) (by decide +kernel) ?_
      simp [wpOpS, go_sem]
      refine wpAnyS_one (i := 6) (by decide +kernel) ?_
      simp [wpOpS, go_sem, hp, hpz]
      refine wpAnyS_one (i := 7) (by decide +kernel) ?_
      simp [wpOpS, go_sem, hq, hqz]
      refine wpAnyS_done (by decide +kernel) ?_ _
      exact ⟨rfl, _, rfl, .tuple #[], results_none (by rfl) _ _ _, rfl, rfl, w.drew, (Ext.refl w).drew, rfl⟩

theorem plus_idle (b : Nat) (v z : Int) (w : World) (hp : w.cell? ⟨b, 0, none⟩ = some (.int .i64 v)) (hq : w.cell? ⟨b + 1, 0, none⟩ = some (.int .i64 z)) (hpz : w.frozen? ⟨b, 0, none⟩ = false) (hqz : w.frozen? ⟨b + 1, 0, none⟩ = false) :
    CallsD Tryz.prog 113 #[.pointer (some ⟨b, 0, none⟩), .pointer (some ⟨b + 1, 0, none⟩)] .returning w fun e u' w' => e = .returned (.tuple #[]) ∧ u' = .returning ∧ ∃ w1, Ext w w1 ∧ w' = ((w1.setCell ⟨b, 0, none⟩ (.int .i64 v)).setCell ⟨b + 1, 0, none⟩ (.int .i64 0)) := by
  refine callsD_of_wpS Tryz.func113 rfl fun c₀ cs hu => ?_
  refine wpS_region_any 8 rfl (by kernel_rfl) ?_
  refine wpAnyS_two (i := 0) (j := 1) (by decide +kernel) ?_ ?_
  · simp [wpOpS, go_sem, recoverD, hu, Tryz.ntmps113]
    refine wpAnyS_one (i := 1) (by decide +kernel) ?_
    simp [wpOpS, go_sem, hp]
    refine wpAnyS_one (i := 2) (by decide +kernel) ?_
    simp [wpOpS, go_sem]
    refine (settle_nil _ _).mono ?_
    rintro e w' ⟨rfl, rfl⟩
    refine wpAnyS_one (i := 3) (by decide +kernel) ?_
    simp [wpOpS, go_sem]
    refine wpAnyS_two (i := 4) (j := 5) (by decide +kernel) ?_ ?_
    · simp [wpOpS, go_sem]
      refine wpAnyS_two (i := 5) (j := 6) (by decide +kernel) ?_ ?_
      · simp [wpOpS, go_sem]
        refine wpAnyS_one (i := 6) (by decide +kernel) ?_
        simp [wpOpS, go_sem, hp, hpz]
        refine wpAnyS_one (i := 7) (by decide +kernel) ?_
        simp [wpOpS, go_sem, hq, hqz]
        refine wpAnyS_done (by decide +kernel) ?_ _
        exact ⟨rfl, .returning, by rw [← hu], .tuple #[], results_none (by rfl) _ _ _, rfl, rfl, w.drew, (Ext.refl w).drew, rfl⟩
      · simp [wpOpS, go_sem, hp, hpz]
        refine wpAnyS_one (i := 5) (by decide +kernel) ?_
        simp [wpOpS, go_sem]
        refine wpAnyS_one (i := 7) (by decide +kernel) ?_
        simp [wpOpS, go_sem, hq, hqz]
        refine wpAnyS_done (by decide +kernel) ?_ _
        exact ⟨rfl, .returning, by rw [← hu], .tuple #[], results_none (by rfl) _ _ _, rfl, rfl, w.drew, (Ext.refl w).drew, rfl⟩
    · simp [wpOpS, go_sem]
      refine wpAnyS_one (i := 4) (by decide +kernel) ?_
      simp [wpOpS, go_sem]
      refine wpAnyS_one (i := 6) (by decide +kernel) ?_
      simp [wpOpS, go_sem, hp, hpz]
      refine wpAnyS_one (i := 7) (by decide +kernel) ?_
      simp [wpOpS, go_sem, hq, hqz]
      refine wpAnyS_done (by decide +kernel) ?_ _
      exact ⟨rfl, .returning, by rw [← hu], .tuple #[], results_none (by rfl) _ _ _, rfl, rfl, w.drew, (Ext.refl w).drew, rfl⟩
  · simp [wpOpS, go_sem, hp, Tryz.ntmps113]
    refine wpAnyS_one (i := 0) (by decide +kernel) ?_
    simp [wpOpS, go_sem, recoverD, hu]
    refine wpAnyS_one (i := 2) (by decide +kernel) ?_
    simp [wpOpS, go_sem]
    refine (settle_nil _ _).mono ?_
    rintro e w' ⟨rfl, rfl⟩
    refine wpAnyS_one (i := 3) (by decide +kernel) ?_
    simp [wpOpS, go_sem]
    refine wpAnyS_two (i := 4) (j := 5) (by decide +kernel) ?_ ?_
    · simp [wpOpS, go_sem]
      refine wpAnyS_two (i := 5) (j := 6) (by decide +kernel) ?_ ?_
      · simp [wpOpS, go_sem]
        refine wpAnyS_one (i := 6) (by decide +kernel) ?_
        simp [wpOpS, go_sem, hp, hpz]
        refine wpAnyS_one (i := 7) (by decide +kernel) ?_
        simp [wpOpS, go_sem, hq, hqz]
        refine wpAnyS_done (by decide +kernel) ?_ _
        exact ⟨rfl, .returning, by rw [← hu], .tuple #[], results_none (by rfl) _ _ _, rfl, rfl, w.drew, (Ext.refl w).drew, rfl⟩
      · simp [wpOpS, go_sem, hp, hpz]
        refine wpAnyS_one (i := 5) (by decide +kernel) ?_
        simp [wpOpS, go_sem]
        refine wpAnyS_one (i := 7) (by decide +kernel) ?_
        simp [wpOpS, go_sem, hq, hqz]
        refine wpAnyS_done (by decide +kernel) ?_ _
        exact ⟨rfl, .returning, by rw [← hu], .tuple #[], results_none (by rfl) _ _ _, rfl, rfl, w.drew, (Ext.refl w).drew, rfl⟩
    · simp [wpOpS, go_sem]
      refine wpAnyS_one (i := 4) (by decide +kernel) ?_
      simp [wpOpS, go_sem]
      refine wpAnyS_one (i := 6) (by decide +kernel) ?_
      simp [wpOpS, go_sem, hp, hpz]
      refine wpAnyS_one (i := 7) (by decide +kernel) ?_
      simp [wpOpS, go_sem, hq, hqz]
      refine wpAnyS_done (by decide +kernel) ?_ _
      exact ⟨rfl, .returning, by rw [← hu], .tuple #[], results_none (by rfl) _ _ _, rfl, rfl, w.drew, (Ext.refl w).drew, rfl⟩

theorem plus_catch (b : Nat) (c v z : Int) (older : List PanicEntry) (w : World) (hp : w.cell? ⟨b, 0, none⟩ = some (.int .i64 v)) (hq : w.cell? ⟨b + 1, 0, none⟩ = some (.int .i64 z)) (hpz : w.frozen? ⟨b, 0, none⟩ = false) (hqz : w.frozen? ⟨b + 1, 0, none⟩ = false) :
    CallsD Tryz.prog 113 #[.pointer (some ⟨b, 0, none⟩), .pointer (some ⟨b + 1, 0, none⟩)] (.panicking ({ v := .iface 33 (.int .i64 c), recovered := false } :: older)) w fun e u' w' => e = .returned (.tuple #[]) ∧ u' = .panicking ({ v := .iface 33 (.int .i64 c), recovered := true } :: older) ∧ ∃ w1, Ext w w1 ∧ w' = ((w1.setCell ⟨b, 0, none⟩ (.int .i64 0)).setCell ⟨b + 1, 0, none⟩ (.int .i64 c)) := by
  refine callsD_of_wpS Tryz.func113 rfl fun c₀ cs hu => ?_
  refine wpS_region_any 8 rfl (by kernel_rfl) ?_
  refine wpAnyS_two (i := 0) (j := 1) (by decide +kernel) ?_ ?_
  · simp [wpOpS, go_sem, recoverD, hu, Tryz.ntmps113]
    refine wpAnyS_one (i := 1) (by decide +kernel) ?_
    simp [wpOpS, go_sem, hp]
    refine wpAnyS_one (i := 2) (by decide +kernel) ?_
    simp [wpOpS, go_sem]
    refine (settle_thrown _ _ _).mono ?_
    rintro e w' ⟨rfl, rfl⟩
    refine wpAnyS_one (i := 3) (by decide +kernel) ?_
    simp [wpOpS, go_sem]
    refine wpAnyS_two (i := 4) (j := 5) (by decide +kernel) ?_ ?_
    · simp [wpOpS, go_sem]
      refine wpAnyS_two (i := 5) (j := 6) (by decide +kernel) ?_ ?_
      · simp [wpOpS, go_sem]
        refine wpAnyS_one (i := 6) (by decide +kernel) ?_
        simp [wpOpS, go_sem, hp, hpz]
        refine wpAnyS_one (i := 7) (by decide +kernel) ?_
        simp [wpOpS, go_sem, hq, hqz]
        refine wpAnyS_done (by decide +kernel) ?_ _
        exact ⟨rfl, _, rfl, .tuple #[], results_none (by rfl) _ _ _, rfl, rfl, w.drew, (Ext.refl w).drew, rfl⟩
      · simp [wpOpS, go_sem, hp, hpz]
        refine wpAnyS_one (i := 5) (by decide +kernel) ?_
        simp [wpOpS, go_sem]
        refine wpAnyS_one (i := 7) (by decide +kernel) ?_
        simp [wpOpS, go_sem, hq, hqz]
        refine wpAnyS_done (by decide +kernel) ?_ _
        exact ⟨rfl, _, rfl, .tuple #[], results_none (by rfl) _ _ _, rfl, rfl, w.drew, (Ext.refl w).drew, rfl⟩
    · simp [wpOpS, go_sem]
      refine wpAnyS_one (i := 4) (by decide +kernel) ?_
      simp [wpOpS, go_sem]
      refine wpAnyS_one (i := 6) (by decide +kernel) ?_
      simp [wpOpS, go_sem, hp, hpz]
      refine wpAnyS_one (i := 7) (by decide +kernel) ?_
      simp [wpOpS, go_sem, hq, hqz]
      refine wpAnyS_done (by decide +kernel) ?_ _
      exact ⟨rfl, _, rfl, .tuple #[], results_none (by rfl) _ _ _, rfl, rfl, w.drew, (Ext.refl w).drew, rfl⟩
  · simp [wpOpS, go_sem, hp, Tryz.ntmps113]
    refine wpAnyS_one (i := 0) (by decide +kernel) ?_
    simp [wpOpS, go_sem, recoverD, hu]
    refine wpAnyS_one (i := 2) (by decide +kernel) ?_
    simp [wpOpS, go_sem]
    refine (settle_thrown _ _ _).mono ?_
    rintro e w' ⟨rfl, rfl⟩
    refine wpAnyS_one (i := 3) (by decide +kernel) ?_
    simp [wpOpS, go_sem]
    refine wpAnyS_two (i := 4) (j := 5) (by decide +kernel) ?_ ?_
    · simp [wpOpS, go_sem]
      refine wpAnyS_two (i := 5) (j := 6) (by decide +kernel) ?_ ?_
      · simp [wpOpS, go_sem]
        refine wpAnyS_one (i := 6) (by decide +kernel) ?_
        simp [wpOpS, go_sem, hp, hpz]
        refine wpAnyS_one (i := 7) (by decide +kernel) ?_
        simp [wpOpS, go_sem, hq, hqz]
        refine wpAnyS_done (by decide +kernel) ?_ _
        exact ⟨rfl, _, rfl, .tuple #[], results_none (by rfl) _ _ _, rfl, rfl, w.drew, (Ext.refl w).drew, rfl⟩
      · simp [wpOpS, go_sem, hp, hpz]
        refine wpAnyS_one (i := 5) (by decide +kernel) ?_
        simp [wpOpS, go_sem]
        refine wpAnyS_one (i := 7) (by decide +kernel) ?_
        simp [wpOpS, go_sem, hq, hqz]
        refine wpAnyS_done (by decide +kernel) ?_ _
        exact ⟨rfl, _, rfl, .tuple #[], results_none (by rfl) _ _ _, rfl, rfl, w.drew, (Ext.refl w).drew, rfl⟩
    · simp [wpOpS, go_sem]
      refine wpAnyS_one (i := 4) (by decide +kernel) ?_
      simp [wpOpS, go_sem]
      refine wpAnyS_one (i := 6) (by decide +kernel) ?_
      simp [wpOpS, go_sem, hp, hpz]
      refine wpAnyS_one (i := 7) (by decide +kernel) ?_
      simp [wpOpS, go_sem, hq, hqz]
      refine wpAnyS_done (by decide +kernel) ?_ _
      exact ⟨rfl, _, rfl, .tuple #[], results_none (by rfl) _ _ _, rfl, rfl, w.drew, (Ext.refl w).drew, rfl⟩

theorem parts_idle (b : Nat) (v z : Int) (w : World) (hp : w.cell? ⟨b, 0, none⟩ = some (.int .i64 v)) (hq : w.cell? ⟨b + 1, 0, none⟩ = some (.int .i64 z)) (hpz : w.frozen? ⟨b, 0, none⟩ = false) (hqz : w.frozen? ⟨b + 1, 0, none⟩ = false) :
    CallsD Tryz.prog 86 #[.pointer (some ⟨b, 0, none⟩), .pointer (some ⟨b + 1, 0, none⟩)] .returning w fun e u' w' => e = .returned (.tuple #[]) ∧ u' = .returning ∧ ∃ w1, Ext w w1 ∧ w' = ((w1.setCell ⟨b, 0, none⟩ (.int .i64 v)).setCell ⟨b + 1, 0, none⟩ (.int .i64 0)) := by
  refine callsD_of_wpS Tryz.func86 rfl fun c₀ cs hu => ?_
  refine wpS_region_any 8 rfl (by kernel_rfl) ?_
  refine wpAnyS_two (i := 0) (j := 1) (by decide +kernel) ?_ ?_
  · simp [wpOpS, go_sem, recoverD, hu, Tryz.ntmps86]
    refine wpAnyS_one (i := 1) (by decide +kernel) ?_
    simp [wpOpS, go_sem, hp]
    refine wpAnyS_one (i := 2) (by decide +kernel) ?_
    simp [wpOpS, go_sem]
    refine (settle_nil _ _).mono ?_
    rintro e w' ⟨rfl, rfl⟩
    refine wpAnyS_one (i := 3) (by decide +kernel) ?_
    simp [wpOpS, go_sem]
    refine wpAnyS_two (i := 4) (j := 5) (by decide +kernel) ?_ ?_
    · simp [wpOpS, go_sem]
      refine wpAnyS_two (i := 5) (j := 6) (by decide +kernel) ?_ ?_
      · simp [wpOpS, go_sem]
        refine wpAnyS_one (i := 6) (by decide +kernel) ?_
        simp [wpOpS, go_sem, hp, hpz]
        refine wpAnyS_one (i := 7) (by decide +kernel) ?_
        simp [wpOpS, go_sem, hq, hqz]
        refine wpAnyS_done (by decide +kernel) ?_ _
        exact ⟨rfl, .returning, by rw [← hu], .tuple #[], results_none (by rfl) _ _ _, rfl, rfl, w.drew, (Ext.refl w).drew, rfl⟩
      · simp [wpOpS, go_sem, hp, hpz]
        refine wpAnyS_one (i := 5) (by decide +kernel) ?_
        simp [wpOpS, go_sem]
        refine wpAnyS_one (i := 7) (by decide +kernel) ?_
        simp [wpOpS, go_sem, hq, hqz]
        refine wpAnyS_done (by decide +kernel) ?_ _
        exact ⟨rfl, .returning, by rw [← hu], .tuple #[], results_none (by rfl) _ _ _, rfl, rfl, w.drew, (Ext.refl w).drew, rfl⟩
    · simp [wpOpS, go_sem]
      refine wpAnyS_one (i := 4) (by decide +kernel) ?_
      simp [wpOpS, go_sem]
      refine wpAnyS_one (i := 6) (by decide +kernel) ?_
      simp [wpOpS, go_sem, hp, hpz]
      refine wpAnyS_one (i := 7) (by decide +kernel) ?_
      simp [wpOpS, go_sem, hq, hqz]
      refine wpAnyS_done (by decide +kernel) ?_ _
      exact ⟨rfl, .returning, by rw [← hu], .tuple #[], results_none (by rfl) _ _ _, rfl, rfl, w.drew, (Ext.refl w).drew, rfl⟩
  · simp [wpOpS, go_sem, hp, Tryz.ntmps86]
    refine wpAnyS_one (i := 0) (by decide +kernel) ?_
    simp [wpOpS, go_sem, recoverD, hu]
    refine wpAnyS_one (i := 2) (by decide +kernel) ?_
    simp [wpOpS, go_sem]
    refine (settle_nil _ _).mono ?_
    rintro e w' ⟨rfl, rfl⟩
    refine wpAnyS_one (i := 3) (by decide +kernel) ?_
    simp [wpOpS, go_sem]
    refine wpAnyS_two (i := 4) (j := 5) (by decide +kernel) ?_ ?_
    · simp [wpOpS, go_sem]
      refine wpAnyS_two (i := 5) (j := 6) (by decide +kernel) ?_ ?_
      · simp [wpOpS, go_sem]
        refine wpAnyS_one (i := 6) (by decide +kernel) ?_
        simp [wpOpS, go_sem, hp, hpz]
        refine wpAnyS_one (i := 7) (by decide +kernel) ?_
        simp [wpOpS, go_sem, hq, hqz]
        refine wpAnyS_done (by decide +kernel) ?_ _
        exact ⟨rfl, .returning, by rw [← hu], .tuple #[], results_none (by rfl) _ _ _, rfl, rfl, w.drew, (Ext.refl w).drew, rfl⟩
      · simp [wpOpS, go_sem, hp, hpz]
        refine wpAnyS_one (i := 5) (by decide +kernel) ?_
        simp [wpOpS, go_sem]
        refine wpAnyS_one (i := 7) (by decide +kernel) ?_
        simp [wpOpS, go_sem, hq, hqz]
        refine wpAnyS_done (by decide +kernel) ?_ _
        exact ⟨rfl, .returning, by rw [← hu], .tuple #[], results_none (by rfl) _ _ _, rfl, rfl, w.drew, (Ext.refl w).drew, rfl⟩
    · simp [wpOpS, go_sem]
      refine wpAnyS_one (i := 4) (by decide +kernel) ?_
      simp [wpOpS, go_sem]
      refine wpAnyS_one (i := 6) (by decide +kernel) ?_
      simp [wpOpS, go_sem, hp, hpz]
      refine wpAnyS_one (i := 7) (by decide +kernel) ?_
      simp [wpOpS, go_sem, hq, hqz]
      refine wpAnyS_done (by decide +kernel) ?_ _
      exact ⟨rfl, .returning, by rw [← hu], .tuple #[], results_none (by rfl) _ _ _, rfl, rfl, w.drew, (Ext.refl w).drew, rfl⟩

theorem parts_catch (b : Nat) (c v z : Int) (older : List PanicEntry) (w : World) (hp : w.cell? ⟨b, 0, none⟩ = some (.int .i64 v)) (hq : w.cell? ⟨b + 1, 0, none⟩ = some (.int .i64 z)) (hpz : w.frozen? ⟨b, 0, none⟩ = false) (hqz : w.frozen? ⟨b + 1, 0, none⟩ = false) :
    CallsD Tryz.prog 86 #[.pointer (some ⟨b, 0, none⟩), .pointer (some ⟨b + 1, 0, none⟩)] (.panicking ({ v := .iface 33 (.int .i64 c), recovered := false } :: older)) w fun e u' w' => e = .returned (.tuple #[]) ∧ u' = .panicking ({ v := .iface 33 (.int .i64 c), recovered := true } :: older) ∧ ∃ w1, Ext w w1 ∧ w' = ((w1.setCell ⟨b, 0, none⟩ (.int .i64 0)).setCell ⟨b + 1, 0, none⟩ (.int .i64 c)) := by
  refine callsD_of_wpS Tryz.func86 rfl fun c₀ cs hu => ?_
  refine wpS_region_any 8 rfl (by kernel_rfl) ?_
  refine wpAnyS_two (i := 0) (j := 1) (by decide +kernel) ?_ ?_
  · simp [wpOpS, go_sem, recoverD, hu, Tryz.ntmps86]
    refine wpAnyS_one (i := 1) (by decide +kernel) ?_
    simp [wpOpS, go_sem, hp]
    refine wpAnyS_one (i := 2) (by decide +kernel) ?_
    simp [wpOpS, go_sem]
    refine (settle_thrown _ _ _).mono ?_
    rintro e w' ⟨rfl, rfl⟩
    refine wpAnyS_one (i := 3) (by decide +kernel) ?_
    simp [wpOpS, go_sem]
    refine wpAnyS_two (i := 4) (j := 5) (by decide +kernel) ?_ ?_
    · simp [wpOpS, go_sem]
      refine wpAnyS_two (i := 5) (j := 6) (by decide +kernel) ?_ ?_
      · simp [wpOpS, go_sem]
        refine wpAnyS_one (i := 6) (by decide +kernel) ?_
        simp [wpOpS, go_sem, hp, hpz]
        refine wpAnyS_one (i := 7) (by decide +kernel) ?_
        simp [wpOpS, go_sem, hq, hqz]
        refine wpAnyS_done (by decide +kernel) ?_ _
        exact ⟨rfl, _, rfl, .tuple #[], results_none (by rfl) _ _ _, rfl, rfl, w.drew, (Ext.refl w).drew, rfl⟩
      · simp [wpOpS, go_sem, hp, hpz]
        refine wpAnyS_one (i := 5) (by decide +kernel) ?_
        simp [wpOpS, go_sem]
        refine wpAnyS_one (i := 7) (by decide +kernel) ?_
        simp [wpOpS, go_sem, hq, hqz]
        refine wpAnyS_done (by decide +kernel) ?_ _
        exact ⟨rfl, _, rfl, .tuple #[], results_none (by rfl) _ _ _, rfl, rfl, w.drew, (Ext.refl w).drew, rfl⟩
    · simp [wpOpS, go_sem]
      refine wpAnyS_one (i := 4) (by decide +kernel) ?_
      simp [wpOpS, go_sem]
      refine wpAnyS_one (i := 6) (by decide +kernel) ?_
      simp [wpOpS, go_sem, hp, hpz]
      refine wpAnyS_one (i := 7) (by decide +kernel) ?_
      simp [wpOpS, go_sem, hq, hqz]
      refine wpAnyS_done (by decide +kernel) ?_ _
      exact ⟨rfl, _, rfl, .tuple #[], results_none (by rfl) _ _ _, rfl, rfl, w.drew, (Ext.refl w).drew, rfl⟩
  · simp [wpOpS, go_sem, hp, Tryz.ntmps86]
    refine wpAnyS_one (i := 0) (by decide +kernel) ?_
    simp [wpOpS, go_sem, recoverD, hu]
    refine wpAnyS_one (i := 2) (by decide +kernel) ?_
    simp [wpOpS, go_sem]
    refine (settle_thrown _ _ _).mono ?_
    rintro e w' ⟨rfl, rfl⟩
    refine wpAnyS_one (i := 3) (by decide +kernel) ?_
    simp [wpOpS, go_sem]
    refine wpAnyS_two (i := 4) (j := 5) (by decide +kernel) ?_ ?_
    · simp [wpOpS, go_sem]
      refine wpAnyS_two (i := 5) (j := 6) (by decide +kernel) ?_ ?_
      · simp [wpOpS, go_sem]
        refine wpAnyS_one (i := 6) (by decide +kernel) ?_
        simp [wpOpS, go_sem, hp, hpz]
        refine wpAnyS_one (i := 7) (by decide +kernel) ?_
        simp [wpOpS, go_sem, hq, hqz]
        refine wpAnyS_done (by decide +kernel) ?_ _
        exact ⟨rfl, _, rfl, .tuple #[], results_none (by rfl) _ _ _, rfl, rfl, w.drew, (Ext.refl w).drew, rfl⟩
      · simp [wpOpS, go_sem, hp, hpz]
        refine wpAnyS_one (i := 5) (by decide +kernel) ?_
        simp [wpOpS, go_sem]
        refine wpAnyS_one (i := 7) (by decide +kernel) ?_
        simp [wpOpS, go_sem, hq, hqz]
        refine wpAnyS_done (by decide +kernel) ?_ _
        exact ⟨rfl, _, rfl, .tuple #[], results_none (by rfl) _ _ _, rfl, rfl, w.drew, (Ext.refl w).drew, rfl⟩
    · simp [wpOpS, go_sem]
      refine wpAnyS_one (i := 4) (by decide +kernel) ?_
      simp [wpOpS, go_sem]
      refine wpAnyS_one (i := 6) (by decide +kernel) ?_
      simp [wpOpS, go_sem, hp, hpz]
      refine wpAnyS_one (i := 7) (by decide +kernel) ?_
      simp [wpOpS, go_sem, hq, hqz]
      refine wpAnyS_done (by decide +kernel) ?_ _
      exact ⟨rfl, _, rfl, .tuple #[], results_none (by rfl) _ _ _, rfl, rfl, w.drew, (Ext.refl w).drew, rfl⟩

theorem bear_idle (b : Nat) (v z : Int) (w : World) (hp : w.cell? ⟨b, 0, none⟩ = some (.int .i64 v)) (hq : w.cell? ⟨b + 1, 0, none⟩ = some (.int .i64 z)) (hpz : w.frozen? ⟨b, 0, none⟩ = false) (hqz : w.frozen? ⟨b + 1, 0, none⟩ = false) :
    CallsD Tryz.prog 62 #[.pointer (some ⟨b, 0, none⟩), .pointer (some ⟨b + 1, 0, none⟩)] .returning w fun e u' w' => e = .returned (.tuple #[]) ∧ u' = .returning ∧ ∃ w1, Ext w w1 ∧ w' = ((w1.setCell ⟨b, 0, none⟩ (.int .i64 v)).setCell ⟨b + 1, 0, none⟩ (.int .i64 0)) := by
  refine callsD_of_wpS Tryz.func62 rfl fun c₀ cs hu => ?_
  refine wpS_region_any 8 rfl (by kernel_rfl) ?_
  refine wpAnyS_two (i := 0) (j := 1) (by decide +kernel) ?_ ?_
  · simp [wpOpS, go_sem, recoverD, hu, Tryz.ntmps62]
    refine wpAnyS_one (i := 1) (by decide +kernel) ?_
    simp [wpOpS, go_sem, hp]
    refine wpAnyS_one (i := 2) (by decide +kernel) ?_
    simp [wpOpS, go_sem]
    refine (settle_nil _ _).mono ?_
    rintro e w' ⟨rfl, rfl⟩
    refine wpAnyS_one (i := 3) (by decide +kernel) ?_
    simp [wpOpS, go_sem]
    refine wpAnyS_two (i := 4) (j := 5) (by decide +kernel) ?_ ?_
    · simp [wpOpS, go_sem]
      refine wpAnyS_two (i := 5) (j := 6) (by decide +kernel) ?_ ?_
      · simp [wpOpS, go_sem]
        refine wpAnyS_one (i := 6) (by decide +kernel) ?_
        simp [wpOpS, go_sem, hp, hpz]
        refine wpAnyS_one (i := 7) (by decide +kernel) ?_
        simp [wpOpS, go_sem, hq, hqz]
        refine wpAnyS_done (by decide +kernel) ?_ _
        exact ⟨rfl, .returning, by rw [← hu], .tuple #[], results_none (by rfl) _ _ _, rfl, rfl, w.drew, (Ext.refl w).drew, rfl⟩
      · simp [wpOpS, go_sem, hp, hpz]
        refine wpAnyS_one (i := 5) (by decide +kernel) ?_
        simp [wpOpS, go_sem]
        refine wpAnyS_one (i := 7) (by decide +kernel) ?_
        simp [wpOpS, go_sem, hq, hqz]
        refine wpAnyS_done (by decide +kernel) ?_ _
        exact ⟨rfl, .returning, by rw [← hu], .tuple #[], results_none (by rfl) _ _ _, rfl, rfl, w.drew, (Ext.refl w).drew, rfl⟩
    · simp [wpOpS, go_sem]
      refine wpAnyS_one (i := 4) (by decide +kernel) ?_
      simp [wpOpS, go_sem]
      refine wpAnyS_one (i := 6) (by decide +kernel) ?_
      simp [wpOpS, go_sem, hp, hpz]
      refine wpAnyS_one (i := 7) (by decide +kernel) ?_
      simp [wpOpS, go_sem, hq, hqz]
      refine wpAnyS_done (by decide +kernel) ?_ _
      exact ⟨rfl, .returning, by rw [← hu], .tuple #[], results_none (by rfl) _ _ _, rfl, rfl, w.drew, (Ext.refl w).drew, rfl⟩
  · simp [wpOpS, go_sem, hp, Tryz.ntmps62]
    refine wpAnyS_one (i := 0) (by decide +kernel) ?_
    simp [wpOpS, go_sem, recoverD, hu]
    refine wpAnyS_one (i := 2) (by decide +kernel) ?_
    simp [wpOpS, go_sem]
    refine (settle_nil _ _).mono ?_
    rintro e w' ⟨rfl, rfl⟩
    refine wpAnyS_one (i := 3) (by decide +kernel) ?_
    simp [wpOpS, go_sem]
    refine wpAnyS_two (i := 4) (j := 5) (by decide +kernel) ?_ ?_
    · simp [wpOpS, go_sem]
      refine wpAnyS_two (i := 5) (j := 6) (by decide +kernel) ?_ ?_
      · simp [wpOpS, go_sem]
        refine wpAnyS_one (i := 6) (by decide +kernel) ?_
        simp [wpOpS, go_sem, hp, hpz]
        refine wpAnyS_one (i := 7) (by decide +kernel) ?_
        simp [wpOpS, go_sem, hq, hqz]
        refine wpAnyS_done (by decide +kernel) ?_ _
        exact ⟨rfl, .returning, by rw [← hu], .tuple #[], results_none (by rfl) _ _ _, rfl, rfl, w.drew, (Ext.refl w).drew, rfl⟩
      · simp [wpOpS, go_sem, hp, hpz]
        refine wpAnyS_one (i := 5) (by decide +kernel) ?_
        simp [wpOpS, go_sem]
        refine wpAnyS_one (i := 7) (by decide +kernel) ?_
        simp [wpOpS, go_sem, hq, hqz]
        refine wpAnyS_done (by decide +kernel) ?_ _
        exact ⟨rfl, .returning, by rw [← hu], .tuple #[], results_none (by rfl) _ _ _, rfl, rfl, w.drew, (Ext.refl w).drew, rfl⟩
    · simp [wpOpS, go_sem]
      refine wpAnyS_one (i := 4) (by decide +kernel) ?_
      simp [wpOpS, go_sem]
      refine wpAnyS_one (i := 6) (by decide +kernel) ?_
      simp [wpOpS, go_sem, hp, hpz]
      refine wpAnyS_one (i := 7) (by decide +kernel) ?_
      simp [wpOpS, go_sem, hq, hqz]
      refine wpAnyS_done (by decide +kernel) ?_ _
      exact ⟨rfl, .returning, by rw [← hu], .tuple #[], results_none (by rfl) _ _ _, rfl, rfl, w.drew, (Ext.refl w).drew, rfl⟩

theorem bear_catch (b : Nat) (c v z : Int) (older : List PanicEntry) (w : World) (hp : w.cell? ⟨b, 0, none⟩ = some (.int .i64 v)) (hq : w.cell? ⟨b + 1, 0, none⟩ = some (.int .i64 z)) (hpz : w.frozen? ⟨b, 0, none⟩ = false) (hqz : w.frozen? ⟨b + 1, 0, none⟩ = false) :
    CallsD Tryz.prog 62 #[.pointer (some ⟨b, 0, none⟩), .pointer (some ⟨b + 1, 0, none⟩)] (.panicking ({ v := .iface 33 (.int .i64 c), recovered := false } :: older)) w fun e u' w' => e = .returned (.tuple #[]) ∧ u' = .panicking ({ v := .iface 33 (.int .i64 c), recovered := true } :: older) ∧ ∃ w1, Ext w w1 ∧ w' = ((w1.setCell ⟨b, 0, none⟩ (.int .i64 0)).setCell ⟨b + 1, 0, none⟩ (.int .i64 c)) := by
  refine callsD_of_wpS Tryz.func62 rfl fun c₀ cs hu => ?_
  refine wpS_region_any 8 rfl (by kernel_rfl) ?_
  refine wpAnyS_two (i := 0) (j := 1) (by decide +kernel) ?_ ?_
  · simp [wpOpS, go_sem, recoverD, hu, Tryz.ntmps62]
    refine wpAnyS_one (i := 1) (by decide +kernel) ?_
    simp [wpOpS, go_sem, hp]
    refine wpAnyS_one (i := 2) (by decide +kernel) ?_
    simp [wpOpS, go_sem]
    refine (settle_thrown _ _ _).mono ?_
    rintro e w' ⟨rfl, rfl⟩
    refine wpAnyS_one (i := 3) (by decide +kernel) ?_
    simp [wpOpS, go_sem]
    refine wpAnyS_two (i := 4) (j := 5) (by decide +kernel) ?_ ?_
    · simp [wpOpS, go_sem]
      refine wpAnyS_two (i := 5) (j := 6) (by decide +kernel) ?_ ?_
      · simp [wpOpS, go_sem]
        refine wpAnyS_one (i := 6) (by decide +kernel) ?_
        simp [wpOpS, go_sem, hp, hpz]
        refine wpAnyS_one (i := 7) (by decide +kernel) ?_
        simp [wpOpS, go_sem, hq, hqz]
        refine wpAnyS_done (by decide +kernel) ?_ _
        exact ⟨rfl, _, rfl, .tuple #[], results_none (by rfl) _ _ _, rfl, rfl, w.drew, (Ext.refl w).drew, rfl⟩
      · simp [wpOpS, go_sem, hp, hpz]
        refine wpAnyS_one (i := 5) (by decide +kernel) ?_
        simp [wpOpS, go_sem]
        refine wpAnyS_one (i := 7) (by decide +kernel) ?_
        simp [wpOpS, go_sem, hq, hqz]
        refine wpAnyS_done (by decide +kernel) ?_ _
        exact ⟨rfl, _, rfl, .tuple #[], results_none (by rfl) _ _ _, rfl, rfl, w.drew, (Ext.refl w).drew, rfl⟩
    · simp [wpOpS, go_sem]
      refine wpAnyS_one (i := 4) (by decide +kernel) ?_
      simp [wpOpS, go_sem]
      refine wpAnyS_one (i := 6) (by decide +kernel) ?_
      simp [wpOpS, go_sem, hp, hpz]
      refine wpAnyS_one (i := 7) (by decide +kernel) ?_
      simp [wpOpS, go_sem, hq, hqz]
      refine wpAnyS_done (by decide +kernel) ?_ _
      exact ⟨rfl, _, rfl, .tuple #[], results_none (by rfl) _ _ _, rfl, rfl, w.drew, (Ext.refl w).drew, rfl⟩
  · simp [wpOpS, go_sem, hp, Tryz.ntmps62]
    refine wpAnyS_one (i := 0) (by decide +kernel) ?_
    simp [wpOpS, go_sem, recoverD, hu]
    refine wpAnyS_one (i := 2) (by decide +kernel) ?_
    simp [wpOpS, go_sem]
    refine (settle_thrown _ _ _).mono ?_
    rintro e w' ⟨rfl, rfl⟩
    refine wpAnyS_one (i := 3) (by decide +kernel) ?_
    simp [wpOpS, go_sem]
    refine wpAnyS_two (i := 4) (j := 5) (by decide +kernel) ?_ ?_
    · simp [wpOpS, go_sem]
      refine wpAnyS_two (i := 5) (j := 6) (by decide +kernel) ?_ ?_
      · simp [wpOpS, go_sem]
        refine wpAnyS_one (i := 6) (by decide +kernel) ?_
        simp [wpOpS, go_sem, hp, hpz]
        refine wpAnyS_one (i := 7) (by decide +kernel) ?_
        simp [wpOpS, go_sem, hq, hqz]
        refine wpAnyS_done (by decide +kernel) ?_ _
        exact ⟨rfl, _, rfl, .tuple #[], results_none (by rfl) _ _ _, rfl, rfl, w.drew, (Ext.refl w).drew, rfl⟩
      · simp [wpOpS, go_sem, hp, hpz]
        refine wpAnyS_one (i := 5) (by decide +kernel) ?_
        simp [wpOpS, go_sem]
        refine wpAnyS_one (i := 7) (by decide +kernel) ?_
        simp [wpOpS, go_sem, hq, hqz]
        refine wpAnyS_done (by decide +kernel) ?_ _
        exact ⟨rfl, _, rfl, .tuple #[], results_none (by rfl) _ _ _, rfl, rfl, w.drew, (Ext.refl w).drew, rfl⟩
    · simp [wpOpS, go_sem]
      refine wpAnyS_one (i := 4) (by decide +kernel) ?_
      simp [wpOpS, go_sem]
      refine wpAnyS_one (i := 6) (by decide +kernel) ?_
      simp [wpOpS, go_sem, hp, hpz]
      refine wpAnyS_one (i := 7) (by decide +kernel) ?_
      simp [wpOpS, go_sem, hq, hqz]
      refine wpAnyS_done (by decide +kernel) ?_ _
      exact ⟨rfl, _, rfl, .tuple #[], results_none (by rfl) _ _ _, rfl, rfl, w.drew, (Ext.refl w).drew, rfl⟩

theorem of_idle (b : Nat) (v z : Int) (w : World) (hp : w.cell? ⟨b, 0, none⟩ = some (.int .i64 v)) (hq : w.cell? ⟨b + 1, 0, none⟩ = some (.int .i64 z)) (hpz : w.frozen? ⟨b, 0, none⟩ = false) (hqz : w.frozen? ⟨b + 1, 0, none⟩ = false) :
    CallsD Tryz.prog 88 #[.pointer (some ⟨b, 0, none⟩), .pointer (some ⟨b + 1, 0, none⟩)] .returning w fun e u' w' => e = .returned (.tuple #[]) ∧ u' = .returning ∧ ∃ w1, Ext w w1 ∧ w' = ((w1.setCell ⟨b, 0, none⟩ (.int .i64 v)).setCell ⟨b + 1, 0, none⟩ (.int .i64 0)) := by
  have hb0 := lt_of_cell hp
  have hb1 := lt_of_cell hq
  refine callsD_of_wpS Tryz.func88 rfl fun c₀ cs hu => ?_
  refine wpS_region_any 8 rfl (by kernel_rfl) ?_
  refine wpAnyS_two (i := 0) (j := 1) (by decide +kernel) ?_ ?_
  · simp [wpOpS, go_sem, recoverD, hu, Tryz.ntmps88]
    refine wpAnyS_one (i := 1) (by decide +kernel) ?_
    simp [wpOpS, go_sem, hp]
    refine wpAnyS_one (i := 2) (by decide +kernel) ?_
    simp [wpOpS, go_sem]
    refine (rsettle_nil v _).mono ?_
    rintro e w1 ⟨rfl, hx⟩
    have gp : w1.cell? ⟨b, 0, none⟩ = some (.int .i64 v) := by rw [hx.cell b 0 (by simpa using hb0)]; simpa using hp
    have gq : w1.cell? ⟨b + 1, 0, none⟩ = some (.int .i64 z) := by rw [hx.cell (b + 1) 0 (by simpa using hb1)]; simpa using hq
    have gpz : w1.frozen? ⟨b, 0, none⟩ = false := by rw [hx.froz _ _ (by simpa using hb0)]; simpa using hpz
    have gqz : w1.frozen? ⟨b + 1, 0, none⟩ = false := by rw [hx.froz _ _ (by simpa using hb1)]; simpa using hqz
    refine wpAnyS_one (i := 3) (by decide +kernel) ?_
    simp [wpOpS, go_sem]
    refine wpAnyS_two (i := 4) (j := 5) (by decide +kernel) ?_ ?_
    · simp [wpOpS, go_sem]
      refine wpAnyS_two (i := 5) (j := 6) (by decide +kernel) ?_ ?_
      · simp [wpOpS, go_sem]
        refine wpAnyS_one (i := 6) (by decide +kernel) ?_
        simp [wpOpS, go_sem, gp, gpz]
        refine wpAnyS_one (i := 7) (by decide +kernel) ?_
        simp [wpOpS, go_sem, gq, gqz]
        refine wpAnyS_done (by decide +kernel) ?_ _
        exact ⟨rfl, .returning, by rw [← hu], .tuple #[], results_none (by rfl) _ _ _, rfl, rfl, w1, (Ext.refl w).drew.trans hx, rfl⟩
      · simp [wpOpS, go_sem, gp, gpz]
        refine wpAnyS_one (i := 5) (by decide +kernel) ?_
        simp [wpOpS, go_sem]
        refine wpAnyS_one (i := 7) (by decide +kernel) ?_
        simp [wpOpS, go_sem, gq, gqz]
        refine wpAnyS_done (by decide +kernel) ?_ _
        exact ⟨rfl, .returning, by rw [← hu], .tuple #[], results_none (by rfl) _ _ _, rfl, rfl, w1, (Ext.refl w).drew.trans hx, rfl⟩
    · simp [wpOpS, go_sem]
      refine wpAnyS_one (i := 4) (by decide +kernel) ?_
      simp [wpOpS, go_sem]
      refine wpAnyS_one (i := 6) (by decide +kernel) ?_
      simp [wpOpS, go_sem, gp, gpz]
      refine wpAnyS_one (i := 7) (by decide +kernel) ?_
      simp [wpOpS, go_sem, gq, gqz]
      refine wpAnyS_done (by decide +kernel) ?_ _
      exact ⟨rfl, .returning, by rw [← hu], .tuple #[], results_none (by rfl) _ _ _, rfl, rfl, w1, (Ext.refl w).drew.trans hx, rfl⟩
  · simp [wpOpS, go_sem, hp, Tryz.ntmps88]
    refine wpAnyS_one (i := 0) (by decide +kernel) ?_
    simp [wpOpS, go_sem, recoverD, hu]
    refine wpAnyS_one (i := 2) (by decide +kernel) ?_
    simp [wpOpS, go_sem]
    refine (rsettle_nil v _).mono ?_
    rintro e w1 ⟨rfl, hx⟩
    have gp : w1.cell? ⟨b, 0, none⟩ = some (.int .i64 v) := by rw [hx.cell b 0 (by simpa using hb0)]; simpa using hp
    have gq : w1.cell? ⟨b + 1, 0, none⟩ = some (.int .i64 z) := by rw [hx.cell (b + 1) 0 (by simpa using hb1)]; simpa using hq
    have gpz : w1.frozen? ⟨b, 0, none⟩ = false := by rw [hx.froz _ _ (by simpa using hb0)]; simpa using hpz
    have gqz : w1.frozen? ⟨b + 1, 0, none⟩ = false := by rw [hx.froz _ _ (by simpa using hb1)]; simpa using hqz
    refine wpAnyS_one (i := 3) (by decide +kernel) ?_
    simp [wpOpS, go_sem]
    refine wpAnyS_two (i := 4) (j := 5) (by decide +kernel) ?_ ?_
    · simp [wpOpS, go_sem]
      refine wpAnyS_two (i := 5) (j := 6) (by decide +kernel) ?_ ?_
      · simp [wpOpS, go_sem]
        refine wpAnyS_one (i := 6) (by decide +kernel) ?_
        simp [wpOpS, go_sem, gp, gpz]
        refine wpAnyS_one (i := 7) (by decide +kernel) ?_
        simp [wpOpS, go_sem, gq, gqz]
        refine wpAnyS_done (by decide +kernel) ?_ _
        exact ⟨rfl, .returning, by rw [← hu], .tuple #[], results_none (by rfl) _ _ _, rfl, rfl, w1, (Ext.refl w).drew.trans hx, rfl⟩
      · simp [wpOpS, go_sem, gp, gpz]
        refine wpAnyS_one (i := 5) (by decide +kernel) ?_
        simp [wpOpS, go_sem]
        refine wpAnyS_one (i := 7) (by decide +kernel) ?_
        simp [wpOpS, go_sem, gq, gqz]
        refine wpAnyS_done (by decide +kernel) ?_ _
        exact ⟨rfl, .returning, by rw [← hu], .tuple #[], results_none (by rfl) _ _ _, rfl, rfl, w1, (Ext.refl w).drew.trans hx, rfl⟩
    · simp [wpOpS, go_sem]
      refine wpAnyS_one (i := 4) (by decide +kernel) ?_
      simp [wpOpS, go_sem]
      refine wpAnyS_one (i := 6) (by decide +kernel) ?_
      simp [wpOpS, go_sem, gp, gpz]
      refine wpAnyS_one (i := 7) (by decide +kernel) ?_
      simp [wpOpS, go_sem, gq, gqz]
      refine wpAnyS_done (by decide +kernel) ?_ _
      exact ⟨rfl, .returning, by rw [← hu], .tuple #[], results_none (by rfl) _ _ _, rfl, rfl, w1, (Ext.refl w).drew.trans hx, rfl⟩

theorem of_catch (b : Nat) (c v z : Int) (older : List PanicEntry) (w : World) (hp : w.cell? ⟨b, 0, none⟩ = some (.int .i64 v)) (hq : w.cell? ⟨b + 1, 0, none⟩ = some (.int .i64 z)) (hpz : w.frozen? ⟨b, 0, none⟩ = false) (hqz : w.frozen? ⟨b + 1, 0, none⟩ = false) :
    CallsD Tryz.prog 88 #[.pointer (some ⟨b, 0, none⟩), .pointer (some ⟨b + 1, 0, none⟩)] (.panicking ({ v := .iface 33 (.int .i64 c), recovered := false } :: older)) w fun e u' w' => e = .returned (.tuple #[]) ∧ u' = .panicking ({ v := .iface 33 (.int .i64 c), recovered := true } :: older) ∧ ∃ w1, Ext w w1 ∧ w' = ((w1.setCell ⟨b, 0, none⟩ (.int .i64 0)).setCell ⟨b + 1, 0, none⟩ (.int .i64 c)) := by
  have hb0 := lt_of_cell hp
  have hb1 := lt_of_cell hq
  refine callsD_of_wpS Tryz.func88 rfl fun c₀ cs hu => ?_
  refine wpS_region_any 8 rfl (by kernel_rfl) ?_
  refine wpAnyS_two (i := 0) (j := 1) (by decide +kernel) ?_ ?_
  · simp [wpOpS, go_sem, recoverD, hu, Tryz.ntmps88]
    refine wpAnyS_one (i := 1) (by decide +kernel) ?_
    simp [wpOpS, go_sem, hp]
    refine wpAnyS_one (i := 2) (by decide +kernel) ?_
    simp [wpOpS, go_sem]
    refine (rsettle_thrown c v _).mono ?_
    rintro e w1 ⟨rfl, hx⟩
    have gp : w1.cell? ⟨b, 0, none⟩ = some (.int .i64 v) := by rw [hx.cell b 0 (by simpa using hb0)]; simpa using hp
    have gq : w1.cell? ⟨b + 1, 0, none⟩ = some (.int .i64 z) := by rw [hx.cell (b + 1) 0 (by simpa using hb1)]; simpa using hq
    have gpz : w1.frozen? ⟨b, 0, none⟩ = false := by rw [hx.froz _ _ (by simpa using hb0)]; simpa using hpz
    have gqz : w1.frozen? ⟨b + 1, 0, none⟩ = false := by rw [hx.froz _ _ (by simpa using hb1)]; simpa using hqz
    refine wpAnyS_one (i := 3) (by decide +kernel) ?_
    simp [wpOpS, go_sem]
    refine wpAnyS_two (i := 4) (j := 5) (by decide +kernel) ?_ ?_
    · simp [wpOpS, go_sem]
      refine wpAnyS_two (i := 5) (j := 6) (by decide +kernel) ?_ ?_
      · simp [wpOpS, go_sem]
        refine wpAnyS_one (i := 6) (by decide +kernel) ?_
        simp [wpOpS, go_sem, gp, gpz]
        refine wpAnyS_one (i := 7) (by decide +kernel) ?_
        simp [wpOpS, go_sem, gq, gqz]
        refine wpAnyS_done (by decide +kernel) ?_ _
        exact ⟨rfl, _, rfl, .tuple #[], results_none (by rfl) _ _ _, rfl, rfl, w1, (Ext.refl w).drew.trans hx, rfl⟩
      · simp [wpOpS, go_sem, gp, gpz]
        refine wpAnyS_one (i := 5) (by decide +kernel) ?_
        simp [wpOpS, go_sem]
        refine wpAnyS_one (i := 7) (by decide +kernel) ?_
        simp [wpOpS, go_sem, gq, gqz]
        refine wpAnyS_done (by decide +kernel) ?_ _
        exact ⟨rfl, _, rfl, .tuple #[], results_none (by rfl) _ _ _, rfl, rfl, w1, (Ext.refl w).drew.trans hx, rfl⟩
    · simp [wpOpS, go_sem]
      refine wpAnyS_one (i := 4) (by decide +kernel) ?_
      simp [wpOpS, go_sem]
      refine wpAnyS_one (i := 6) (by decide +kernel) ?_
      simp [wpOpS, go_sem, gp, gpz]
      refine wpAnyS_one (i := 7) (by decide +kernel) ?_
      simp [wpOpS, go_sem, gq, gqz]
      refine wpAnyS_done (by decide +kernel) ?_ _
      exact ⟨rfl, _, rfl, .tuple #[], results_none (by rfl) _ _ _, rfl, rfl, w1, (Ext.refl w).drew.trans hx, rfl⟩
  · simp [wpOpS, go_sem, hp, Tryz.ntmps88]
    refine wpAnyS_one (i := 0) (by decide +kernel) ?_
    simp [wpOpS, go_sem, recoverD, hu]
    refine wpAnyS_one (i := 2) (by decide +kernel) ?_
    simp [wpOpS, go_sem]
    refine (rsettle_thrown c v _).mono ?_
    rintro e w1 ⟨rfl, hx⟩
    have gp : w1.cell? ⟨b, 0, none⟩ = some (.int .i64 v) := by rw [hx.cell b 0 (by simpa using hb0)]; simpa using hp
    have gq : w1.cell? ⟨b + 1, 0, none⟩ = some (.int .i64 z) := by rw [hx.cell (b + 1) 0 (by simpa using hb1)]; simpa using hq
    have gpz : w1.frozen? ⟨b, 0, none⟩ = false := by rw [hx.froz _ _ (by simpa using hb0)]; simpa using hpz
    have gqz : w1.frozen? ⟨b + 1, 0, none⟩ = false := by rw [hx.froz _ _ (by simpa using hb1)]; simpa using hqz
    refine wpAnyS_one (i := 3) (by decide +kernel) ?_
    simp [wpOpS, go_sem]
    refine wpAnyS_two (i := 4) (j := 5) (by decide +kernel) ?_ ?_
    · simp [wpOpS, go_sem]
      refine wpAnyS_two (i := 5) (j := 6) (by decide +kernel) ?_ ?_
      · simp [wpOpS, go_sem]
        refine wpAnyS_one (i := 6) (by decide +kernel) ?_
        simp [wpOpS, go_sem, gp, gpz]
        refine wpAnyS_one (i := 7) (by decide +kernel) ?_
        simp [wpOpS, go_sem, gq, gqz]
        refine wpAnyS_done (by decide +kernel) ?_ _
        exact ⟨rfl, _, rfl, .tuple #[], results_none (by rfl) _ _ _, rfl, rfl, w1, (Ext.refl w).drew.trans hx, rfl⟩
      · simp [wpOpS, go_sem, gp, gpz]
        refine wpAnyS_one (i := 5) (by decide +kernel) ?_
        simp [wpOpS, go_sem]
        refine wpAnyS_one (i := 7) (by decide +kernel) ?_
        simp [wpOpS, go_sem, gq, gqz]
        refine wpAnyS_done (by decide +kernel) ?_ _
        exact ⟨rfl, _, rfl, .tuple #[], results_none (by rfl) _ _ _, rfl, rfl, w1, (Ext.refl w).drew.trans hx, rfl⟩
    · simp [wpOpS, go_sem]
      refine wpAnyS_one (i := 4) (by decide +kernel) ?_
      simp [wpOpS, go_sem]
      refine wpAnyS_one (i := 6) (by decide +kernel) ?_
      simp [wpOpS, go_sem, gp, gpz]
      refine wpAnyS_one (i := 7) (by decide +kernel) ?_
      simp [wpOpS, go_sem, gq, gqz]
      refine wpAnyS_done (by decide +kernel) ?_ _
      exact ⟨rfl, _, rfl, .tuple #[], results_none (by rfl) _ _ _, rfl, rfl, w1, (Ext.refl w).drew.trans hx, rfl⟩

theorem new_idle (b : Nat) (va : Option Addr) (z : Int) (w : World) (hp : w.cell? ⟨b, 0, none⟩ = some (.pointer va)) (hq : w.cell? ⟨b + 1, 0, none⟩ = some (.int .i64 z)) (hpz : w.frozen? ⟨b, 0, none⟩ = false) (hqz : w.frozen? ⟨b + 1, 0, none⟩ = false) :
    CallsD Tryz.prog 56 #[.pointer (some ⟨b, 0, none⟩), .pointer (some ⟨b + 1, 0, none⟩)] .returning w fun e u' w' => e = .returned (.tuple #[]) ∧ u' = .returning ∧ ∃ w1, Ext w w1 ∧ w' = ((w1.setCell ⟨b, 0, none⟩ (.pointer va)).setCell ⟨b + 1, 0, none⟩ (.int .i64 0)) := by
  refine callsD_of_wpS Tryz.func56 rfl fun c₀ cs hu => ?_
  refine wpS_region_any 8 rfl (by kernel_rfl) ?_
  refine wpAnyS_two (i := 0) (j := 1) (by decide +kernel) ?_ ?_
  · simp [wpOpS, go_sem, recoverD, hu, Tryz.ntmps56]
    refine wpAnyS_one (i := 1) (by decide +kernel) ?_
    simp [wpOpS, go_sem, hp]
    refine wpAnyS_one (i := 2) (by decide +kernel) ?_
    simp [wpOpS, go_sem]
    refine (settle_nilB _ _).mono ?_
    rintro e w' ⟨rfl, rfl⟩
    refine wpAnyS_one (i := 3) (by decide +kernel) ?_
    simp [wpOpS, go_sem]
    refine wpAnyS_two (i := 4) (j := 5) (by decide +kernel) ?_ ?_
    · simp [wpOpS, go_sem]
      refine wpAnyS_two (i := 5) (j := 6) (by decide +kernel) ?_ ?_
      · simp [wpOpS, go_sem]
        refine wpAnyS_one (i := 6) (by decide +kernel) ?_
        simp [wpOpS, go_sem, hp, hpz]
        refine wpAnyS_one (i := 7) (by decide +kernel) ?_
        simp [wpOpS, go_sem, hq, hqz]
        refine wpAnyS_done (by decide +kernel) ?_ _
        exact ⟨rfl, .returning, by rw [← hu], .tuple #[], results_none (by rfl) _ _ _, rfl, rfl, w.drew, (Ext.refl w).drew, rfl⟩
      · simp [wpOpS, go_sem, hp, hpz]
        refine wpAnyS_one (i := 5) (by decide +kernel) ?_
        simp [wpOpS, go_sem]
        refine wpAnyS_one (i := 7) (by decide +kernel) ?_
        simp [wpOpS, go_sem, hq, hqz]
        refine wpAnyS_done (by decide +kernel) ?_ _
        exact ⟨rfl, .returning, by rw [← hu], .tuple #[], results_none (by rfl) _ _ _, rfl, rfl, w.drew, (Ext.refl w).drew, rfl⟩
    · simp [wpOpS, go_sem]
      refine wpAnyS_one (i := 4) (by decide +kernel) ?_
      simp [wpOpS, go_sem]
      refine wpAnyS_one (i := 6) (by decide +kernel) ?_
      simp [wpOpS, go_sem, hp, hpz]
      refine wpAnyS_one (i := 7) (by decide +kernel) ?_
      simp [wpOpS, go_sem, hq, hqz]
      refine wpAnyS_done (by decide +kernel) ?_ _
      exact ⟨rfl, .returning, by rw [← hu], .tuple #[], results_none (by rfl) _ _ _, rfl, rfl, w.drew, (Ext.refl w).drew, rfl⟩
  · simp [wpOpS, go_sem, hp, Tryz.ntmps56]
    refine wpAnyS_one (i := 0) (by decide +kernel) ?_
    simp [wpOpS, go_sem, recoverD, hu]
    refine wpAnyS_one (i := 2) (by decide +kernel) ?_
    simp [wpOpS, go_sem]
    refine (settle_nilB _ _).mono ?_
    rintro e w' ⟨rfl, rfl⟩
    refine wpAnyS_one (i := 3) (by decide +kernel) ?_
    simp [wpOpS, go_sem]
    refine wpAnyS_two (i := 4) (j := 5) (by decide +kernel) ?_ ?_
    · simp [wpOpS, go_sem]
      refine wpAnyS_two (i := 5) (j := 6) (by decide +kernel) ?_ ?_
      · simp [wpOpS, go_sem]
        refine wpAnyS_one (i := 6) (by decide +kernel) ?_
        simp [wpOpS, go_sem, hp, hpz]
        refine wpAnyS_one (i := 7) (by decide +kernel) ?_
        simp [wpOpS, go_sem, hq, hqz]
        refine wpAnyS_done (by decide +kernel) ?_ _
        exact ⟨rfl, .returning, by rw [← hu], .tuple #[], results_none (by rfl) _ _ _, rfl, rfl, w.drew, (Ext.refl w).drew, rfl⟩
      · simp [wpOpS, go_sem, hp, hpz]
        refine wpAnyS_one (i := 5) (by decide +kernel) ?_
        simp [wpOpS, go_sem]
        refine wpAnyS_one (i := 7) (by decide +kernel) ?_
        simp [wpOpS, go_sem, hq, hqz]
        refine wpAnyS_done (by decide +kernel) ?_ _
        exact ⟨rfl, .returning, by rw [← hu], .tuple #[], results_none (by rfl) _ _ _, rfl, rfl, w.drew, (Ext.refl w).drew, rfl⟩
    · simp [wpOpS, go_sem]
      refine wpAnyS_one (i := 4) (by decide +kernel) ?_
      simp [wpOpS, go_sem]
      refine wpAnyS_one (i := 6) (by decide +kernel) ?_
      simp [wpOpS, go_sem, hp, hpz]
      refine wpAnyS_one (i := 7) (by decide +kernel) ?_
      simp [wpOpS, go_sem, hq, hqz]
      refine wpAnyS_done (by decide +kernel) ?_ _
      exact ⟨rfl, .returning, by rw [← hu], .tuple #[], results_none (by rfl) _ _ _, rfl, rfl, w.drew, (Ext.refl w).drew, rfl⟩

theorem new_catch (b : Nat) (c : Int) (va : Option Addr) (z : Int) (older : List PanicEntry) (w : World) (hp : w.cell? ⟨b, 0, none⟩ = some (.pointer va)) (hq : w.cell? ⟨b + 1, 0, none⟩ = some (.int .i64 z)) (hpz : w.frozen? ⟨b, 0, none⟩ = false) (hqz : w.frozen? ⟨b + 1, 0, none⟩ = false) :
    CallsD Tryz.prog 56 #[.pointer (some ⟨b, 0, none⟩), .pointer (some ⟨b + 1, 0, none⟩)] (.panicking ({ v := .iface 33 (.int .i64 c), recovered := false } :: older)) w fun e u' w' => e = .returned (.tuple #[]) ∧ u' = .panicking ({ v := .iface 33 (.int .i64 c), recovered := true } :: older) ∧ ∃ w1, Ext w w1 ∧ w' = ((w1.setCell ⟨b, 0, none⟩ (.pointer none)).setCell ⟨b + 1, 0, none⟩ (.int .i64 c)) := by
  refine callsD_of_wpS Tryz.func56 rfl fun c₀ cs hu => ?_
  refine wpS_region_any 8 rfl (by kernel_rfl) ?_
  refine wpAnyS_two (i := 0) (j := 1) (by decide +kernel) ?_ ?_
  · simp [wpOpS, go_sem, recoverD, hu, Tryz.ntmps56]
    refine wpAnyS_one (i := 1) (by decide +kernel) ?_
    simp [wpOpS, go_sem, hp]
    refine wpAnyS_one (i := 2) (by decide +kernel) ?_
    simp [wpOpS, go_sem]
    refine (settle_thrownB _ _ _).mono ?_
    rintro e w' ⟨rfl, rfl⟩
    refine wpAnyS_one (i := 3) (by decide +kernel) ?_
    simp [wpOpS, go_sem]
    refine wpAnyS_two (i := 4) (j := 5) (by decide +kernel) ?_ ?_
    · simp [wpOpS, go_sem]
      refine wpAnyS_two (i := 5) (j := 6) (by decide +kernel) ?_ ?_
      · simp [wpOpS, go_sem]
        refine wpAnyS_one (i := 6) (by decide +kernel) ?_
        simp [wpOpS, go_sem, hp, hpz]
        refine wpAnyS_one (i := 7) (by decide +kernel) ?_
        simp [wpOpS, go_sem, hq, hqz]
        refine wpAnyS_done (by decide +kernel) ?_ _
        exact ⟨rfl, _, rfl, .tuple #[], results_none (by rfl) _ _ _, rfl, rfl, w.drew, (Ext.refl w).drew, rfl⟩
      · simp [wpOpS, go_sem, hp, hpz]
        refine wpAnyS_one (i := 5) (by decide +kernel) ?_
        simp [wpOpS, go_sem]
        refine wpAnyS_one (i := 7) (by decide +kernel) ?_
        simp [wpOpS, go_sem, hq, hqz]
        refine wpAnyS_done (by decide +kernel) ?_ _
        exact ⟨rfl, _, rfl, .tuple #[], results_none (by rfl) _ _ _, rfl, rfl, w.drew, (Ext.refl w).drew, rfl⟩
    · simp [wpOpS, go_sem]
      refine wpAnyS_one (i := 4) (by decide +kernel) ?_
      simp [wpOpS, go_sem]
      refine wpAnyS_one (i := 6) (by decide +kernel) ?_
      simp [wpOpS, go_sem, hp, hpz]
      refine wpAnyS_one (i := 7) (by decide +kernel) ?_
      simp [wpOpS, go_sem, hq, hqz]
      refine wpAnyS_done (by decide +kernel) ?_ _
      exact ⟨rfl, _, rfl, .tuple #[], results_none (by rfl) _ _ _, rfl, rfl, w.drew, (Ext.refl w).drew, rfl⟩
  · simp [wpOpS, go_sem, hp, Tryz.ntmps56]
    refine wpAnyS_one (i := 0) (by decide +kernel) ?_
    simp [wpOpS, go_sem, recoverD, hu]
    refine wpAnyS_one (i := 2) (by decide +kernel) ?_
    simp [wpOpS, go_sem]
    refine (settle_thrownB _ _ _).mono ?_
    rintro e w' ⟨rfl, rfl⟩
    refine wpAnyS_one (i := 3) (by decide +kernel) ?_
    simp [wpOpS, go_sem]
    refine wpAnyS_two (i := 4) (j := 5) (by decide +kernel) ?_ ?_
    · simp [wpOpS, go_sem]
      refine wpAnyS_two (i := 5) (j := 6) (by decide +kernel) ?_ ?_
      · simp [wpOpS, go_sem]
        refine wpAnyS_one (i := 6) (by decide +kernel) ?_
        simp [wpOpS, go_sem, hp, hpz]
        refine wpAnyS_one (i := 7) (by decide +kernel) ?_
        simp [wpOpS, go_sem, hq, hqz]
        refine wpAnyS_done (by decide +kernel) ?_ _
        exact ⟨rfl, _, rfl, .tuple #[], results_none (by rfl) _ _ _, rfl, rfl, w.drew, (Ext.refl w).drew, rfl⟩
      · simp [wpOpS, go_sem, hp, hpz]
        refine wpAnyS_one (i := 5) (by decide +kernel) ?_
        simp [wpOpS, go_sem]
        refine wpAnyS_one (i := 7) (by decide +kernel) ?_
        simp [wpOpS, go_sem, hq, hqz]
        refine wpAnyS_done (by decide +kernel) ?_ _
        exact ⟨rfl, _, rfl, .tuple #[], results_none (by rfl) _ _ _, rfl, rfl, w.drew, (Ext.refl w).drew, rfl⟩
    · simp [wpOpS, go_sem]
      refine wpAnyS_one (i := 4) (by decide +kernel) ?_
      simp [wpOpS, go_sem]
      refine wpAnyS_one (i := 6) (by decide +kernel) ?_
      simp [wpOpS, go_sem, hp, hpz]
      refine wpAnyS_one (i := 7) (by decide +kernel) ?_
      simp [wpOpS, go_sem, hq, hqz]
      refine wpAnyS_done (by decide +kernel) ?_ _
      exact ⟨rfl, _, rfl, .tuple #[], results_none (by rfl) _ _ _, rfl, rfl, w.drew, (Ext.refl w).drew, rfl⟩

theorem other {w : World} {b o b' o' : Nat} (x : Value) (h : b ≠ b' ∨ o ≠ o') : (w.setCell ⟨b, o, none⟩ x).cell? ⟨b', o', none⟩ = w.cell? ⟨b', o', none⟩ :=
  by
    apply World.cell?_setCell_other
    intro e
    injection e with e1 e2
    omega
theorem same {w : World} {a : Addr} {v u : Value} (h : w.cell? a = some u) : (w.setCell a v).cell? a = some v := by
  apply World.cell?_setCell_same
  exact h
/-- What a face has deferred. -/
def dfr (f : FuncId) (Z : Nat) : List Deferred := [{ target := .fn (.func f) #[.pointer (some ⟨Z, 0, none⟩), .pointer (some ⟨Z + 1, 0, none⟩)], args := #[] }]
/-- The world of a face at its end: the two results' blocks at Z, and all that was there. -/
structure Fac (w : World) (Z : Nat) (W : World) (v : Value) (z : Int) : Prop where
  p : W.cell? ⟨Z, 0, none⟩ = some v
  q : W.cell? ⟨Z + 1, 0, none⟩ = some (.int .i64 z)
  pz : W.frozen? ⟨Z, 0, none⟩ = false
  qz : W.frozen? ⟨Z + 1, 0, none⟩ = false
  lo : w.heap.size ≤ Z
  ext : Ext w W
theorem Fac.begin (w W : World) (v : Value) (t s : TypeId) (hx : Ext w W) : Fac w W.heap.size ((W.alloc (.cells #[v] t)).alloc (.cells #[.int .i64 0] s)) v 0 :=
  ⟨by simp [go_sem], by simp [go_sem], by simp [go_sem], by simp [go_sem], hx.size, hx.trans (((Ext.refl W).alloc _ _).alloc _ _)⟩
theorem Fac.on {w W W' : World} {Z : Nat} {v : Value} {z : Int} (h : Fac w Z W v z) (hx : Ext W W') : Fac w Z W' v z :=
  ⟨hx.cell_of h.p, hx.cell_of h.q, by rw [hx.froz _ _ (lt_of_cell h.p)]; exact h.pz, by rw [hx.froz _ _ (lt_of_cell h.q)]; exact h.qz, h.lo, h.ext.trans hx⟩
theorem Fac.set1 {w W : World} {Z : Nat} {v : Value} {z : Int} (h : Fac w Z W v z) (x : Value) : Fac w Z (W.setCell ⟨Z, 0, none⟩ x) x z :=
  ⟨same h.p, by rw [other _ (Or.inl (by omega))]; exact h.q, by simp [go_sem, h.pz], by simp [go_sem, h.qz], h.lo, h.ext.setCell h.lo _⟩
theorem Fac.set2 {w W : World} {Z : Nat} {v : Value} {z : Int} (h : Fac w Z W v z) (x : Int) : Fac w Z (W.setCell ⟨Z + 1, 0, none⟩ (.int .i64 x)) v x :=
  ⟨by rw [other _ (Or.inl (by omega))]; exact h.p, same h.q, by simp [go_sem, h.pz], by simp [go_sem, h.qz], h.lo, h.ext.setCell (by have := h.lo; show w.heap.size ≤ Z + 1; omega) _⟩
theorem div_leave_catch (w W : World) (Z : Nat) (tm : Array Value) (c : Int) (v : Int) (z : Int) (R : Ending → World → Prop) (h1 : tm[6]? = some (.pointer (some ⟨Z, 0, none⟩))) (h2 : tm[7]? = some (.pointer (some ⟨Z + 1, 0, none⟩))) (hf : Fac w Z W (.int .i64 v) z)
    (hR : ∀ w2, Ext W w2 → R (.returned (.tuple #[.int .i64 0, .int .i64 c])) ((w2.setCell ⟨Z, 0, none⟩ (.int .i64 0)).setCell ⟨Z + 1, 0, none⟩ (.int .i64 c))) :
    Leaves Tryz.prog Tryz.f92 tm R (dfr 111 Z) (.panicking [{ v := .iface 33 (.int .i64 c), recovered := false }]) W := by
  refine leaves_cons (f := 111) (args := #[.pointer (some ⟨Z, 0, none⟩), .pointer (some ⟨Z + 1, 0, none⟩)]) (by simp) (by simp [go_sem]) ?_
  refine (div_catch Z c v z [] _ hf.p hf.q hf.pz hf.qz).mono ?_
  rintro e u' w'' ⟨rfl, rfl, w2, hy, rfl⟩
  have hg := hf.on hy
  simp [Leaves, settle, results, Tryz.results92, go_sem, h1, h2, hg.p, hg.q]
  exact hR w2 hy
theorem div_leave_idle (w W : World) (Z : Nat) (tm : Array Value) (v : Int) (z : Int) (R : Ending → World → Prop) (h1 : tm[6]? = some (.pointer (some ⟨Z, 0, none⟩))) (h2 : tm[7]? = some (.pointer (some ⟨Z + 1, 0, none⟩))) (hf : Fac w Z W (.int .i64 v) z)
    (hR : ∀ w2, Ext W w2 → R (.returned (.tuple #[.int .i64 v, .int .i64 0])) ((w2.setCell ⟨Z, 0, none⟩ (.int .i64 v)).setCell ⟨Z + 1, 0, none⟩ (.int .i64 0))) :
    Leaves Tryz.prog Tryz.f92 tm R (dfr 111 Z) (.returning) W := by
  refine leaves_cons (f := 111) (args := #[.pointer (some ⟨Z, 0, none⟩), .pointer (some ⟨Z + 1, 0, none⟩)]) (by simp) (by simp [go_sem]) ?_
  refine (div_idle Z v z _ hf.p hf.q hf.pz hf.qz).mono ?_
  rintro e u' w'' ⟨rfl, rfl, w2, hy, rfl⟩
  have hg := hf.on hy
  simp [Leaves, settle, results, Tryz.results92, go_sem, h1, h2, hg.p, hg.q]
  exact hR w2 hy
theorem plus_leave_catch (w W : World) (Z : Nat) (tm : Array Value) (c : Int) (v : Int) (z : Int) (R : Ending → World → Prop) (h1 : tm[4]? = some (.pointer (some ⟨Z, 0, none⟩))) (h2 : tm[5]? = some (.pointer (some ⟨Z + 1, 0, none⟩))) (hf : Fac w Z W (.int .i64 v) z)
    (hR : ∀ w2, Ext W w2 → R (.returned (.tuple #[.int .i64 0, .int .i64 c])) ((w2.setCell ⟨Z, 0, none⟩ (.int .i64 0)).setCell ⟨Z + 1, 0, none⟩ (.int .i64 c))) :
    Leaves Tryz.prog Tryz.f93 tm R (dfr 113 Z) (.panicking [{ v := .iface 33 (.int .i64 c), recovered := false }]) W := by
  refine leaves_cons (f := 113) (args := #[.pointer (some ⟨Z, 0, none⟩), .pointer (some ⟨Z + 1, 0, none⟩)]) (by simp) (by simp [go_sem]) ?_
  refine (plus_catch Z c v z [] _ hf.p hf.q hf.pz hf.qz).mono ?_
  rintro e u' w'' ⟨rfl, rfl, w2, hy, rfl⟩
  have hg := hf.on hy
  simp [Leaves, settle, results, Tryz.results93, go_sem, h1, h2, hg.p, hg.q]
  exact hR w2 hy
theorem plus_leave_idle (w W : World) (Z : Nat) (tm : Array Value) (v : Int) (z : Int) (R : Ending → World → Prop) (h1 : tm[4]? = some (.pointer (some ⟨Z, 0, none⟩))) (h2 : tm[5]? = some (.pointer (some ⟨Z + 1, 0, none⟩))) (hf : Fac w Z W (.int .i64 v) z)
    (hR : ∀ w2, Ext W w2 → R (.returned (.tuple #[.int .i64 v, .int .i64 0])) ((w2.setCell ⟨Z, 0, none⟩ (.int .i64 v)).setCell ⟨Z + 1, 0, none⟩ (.int .i64 0))) :
    Leaves Tryz.prog Tryz.f93 tm R (dfr 113 Z) (.returning) W := by
  refine leaves_cons (f := 113) (args := #[.pointer (some ⟨Z, 0, none⟩), .pointer (some ⟨Z + 1, 0, none⟩)]) (by simp) (by simp [go_sem]) ?_
  refine (plus_idle Z v z _ hf.p hf.q hf.pz hf.qz).mono ?_
  rintro e u' w'' ⟨rfl, rfl, w2, hy, rfl⟩
  have hg := hf.on hy
  simp [Leaves, settle, results, Tryz.results93, go_sem, h1, h2, hg.p, hg.q]
  exact hR w2 hy
theorem parts_leave_catch (w W : World) (Z : Nat) (tm : Array Value) (c : Int) (v : Int) (z : Int) (R : Ending → World → Prop) (h1 : tm[2]? = some (.pointer (some ⟨Z, 0, none⟩))) (h2 : tm[3]? = some (.pointer (some ⟨Z + 1, 0, none⟩))) (hf : Fac w Z W (.int .i64 v) z)
    (hR : ∀ w2, Ext W w2 → R (.returned (.tuple #[.int .i64 0, .int .i64 c])) ((w2.setCell ⟨Z, 0, none⟩ (.int .i64 0)).setCell ⟨Z + 1, 0, none⟩ (.int .i64 c))) :
    Leaves Tryz.prog Tryz.f59 tm R (dfr 86 Z) (.panicking [{ v := .iface 33 (.int .i64 c), recovered := false }]) W := by
  refine leaves_cons (f := 86) (args := #[.pointer (some ⟨Z, 0, none⟩), .pointer (some ⟨Z + 1, 0, none⟩)]) (by simp) (by simp [go_sem]) ?_
  refine (parts_catch Z c v z [] _ hf.p hf.q hf.pz hf.qz).mono ?_
  rintro e u' w'' ⟨rfl, rfl, w2, hy, rfl⟩
  have hg := hf.on hy
  simp [Leaves, settle, results, Tryz.results59, go_sem, h1, h2, hg.p, hg.q]
  exact hR w2 hy
theorem parts_leave_idle (w W : World) (Z : Nat) (tm : Array Value) (v : Int) (z : Int) (R : Ending → World → Prop) (h1 : tm[2]? = some (.pointer (some ⟨Z, 0, none⟩))) (h2 : tm[3]? = some (.pointer (some ⟨Z + 1, 0, none⟩))) (hf : Fac w Z W (.int .i64 v) z)
    (hR : ∀ w2, Ext W w2 → R (.returned (.tuple #[.int .i64 v, .int .i64 0])) ((w2.setCell ⟨Z, 0, none⟩ (.int .i64 v)).setCell ⟨Z + 1, 0, none⟩ (.int .i64 0))) :
    Leaves Tryz.prog Tryz.f59 tm R (dfr 86 Z) (.returning) W := by
  refine leaves_cons (f := 86) (args := #[.pointer (some ⟨Z, 0, none⟩), .pointer (some ⟨Z + 1, 0, none⟩)]) (by simp) (by simp [go_sem]) ?_
  refine (parts_idle Z v z _ hf.p hf.q hf.pz hf.qz).mono ?_
  rintro e u' w'' ⟨rfl, rfl, w2, hy, rfl⟩
  have hg := hf.on hy
  simp [Leaves, settle, results, Tryz.results59, go_sem, h1, h2, hg.p, hg.q]
  exact hR w2 hy
theorem bear_leave_catch (w W : World) (Z : Nat) (tm : Array Value) (c : Int) (v : Int) (z : Int) (R : Ending → World → Prop) (h1 : tm[8]? = some (.pointer (some ⟨Z, 0, none⟩))) (h2 : tm[9]? = some (.pointer (some ⟨Z + 1, 0, none⟩))) (hf : Fac w Z W (.int .i64 v) z)
    (hR : ∀ w2, Ext W w2 → R (.returned (.tuple #[.int .i64 0, .int .i64 c])) ((w2.setCell ⟨Z, 0, none⟩ (.int .i64 0)).setCell ⟨Z + 1, 0, none⟩ (.int .i64 c))) :
    Leaves Tryz.prog Tryz.f41 tm R (dfr 62 Z) (.panicking [{ v := .iface 33 (.int .i64 c), recovered := false }]) W := by
  refine leaves_cons (f := 62) (args := #[.pointer (some ⟨Z, 0, none⟩), .pointer (some ⟨Z + 1, 0, none⟩)]) (by simp) (by simp [go_sem]) ?_
  refine (bear_catch Z c v z [] _ hf.p hf.q hf.pz hf.qz).mono ?_
  rintro e u' w'' ⟨rfl, rfl, w2, hy, rfl⟩
  have hg := hf.on hy
  simp [Leaves, settle, results, Tryz.results41, go_sem, h1, h2, hg.p, hg.q]
  exact hR w2 hy
theorem bear_leave_idle (w W : World) (Z : Nat) (tm : Array Value) (v : Int) (z : Int) (R : Ending → World → Prop) (h1 : tm[8]? = some (.pointer (some ⟨Z, 0, none⟩))) (h2 : tm[9]? = some (.pointer (some ⟨Z + 1, 0, none⟩))) (hf : Fac w Z W (.int .i64 v) z)
    (hR : ∀ w2, Ext W w2 → R (.returned (.tuple #[.int .i64 v, .int .i64 0])) ((w2.setCell ⟨Z, 0, none⟩ (.int .i64 v)).setCell ⟨Z + 1, 0, none⟩ (.int .i64 0))) :
    Leaves Tryz.prog Tryz.f41 tm R (dfr 62 Z) (.returning) W := by
  refine leaves_cons (f := 62) (args := #[.pointer (some ⟨Z, 0, none⟩), .pointer (some ⟨Z + 1, 0, none⟩)]) (by simp) (by simp [go_sem]) ?_
  refine (bear_idle Z v z _ hf.p hf.q hf.pz hf.qz).mono ?_
  rintro e u' w'' ⟨rfl, rfl, w2, hy, rfl⟩
  have hg := hf.on hy
  simp [Leaves, settle, results, Tryz.results41, go_sem, h1, h2, hg.p, hg.q]
  exact hR w2 hy
theorem of_leave_catch (w W : World) (Z : Nat) (tm : Array Value) (c : Int) (v : Int) (z : Int) (R : Ending → World → Prop) (h1 : tm[2]? = some (.pointer (some ⟨Z, 0, none⟩))) (h2 : tm[3]? = some (.pointer (some ⟨Z + 1, 0, none⟩))) (hf : Fac w Z W (.int .i64 v) z)
    (hR : ∀ w2, Ext W w2 → R (.returned (.tuple #[.agg #[.int .i64 0], .int .i64 c])) ((w2.setCell ⟨Z, 0, none⟩ (.int .i64 0)).setCell ⟨Z + 1, 0, none⟩ (.int .i64 c))) :
    Leaves Tryz.prog Tryz.f61 tm R (dfr 88 Z) (.panicking [{ v := .iface 33 (.int .i64 c), recovered := false }]) W := by
  refine leaves_cons (f := 88) (args := #[.pointer (some ⟨Z, 0, none⟩), .pointer (some ⟨Z + 1, 0, none⟩)]) (by simp) (by simp [go_sem]) ?_
  refine (of_catch Z c v z [] _ hf.p hf.q hf.pz hf.qz).mono ?_
  rintro e u' w'' ⟨rfl, rfl, w2, hy, rfl⟩
  have hg := hf.on hy
  simp [Leaves, settle, results, Tryz.results61, go_sem, h1, h2, hg.p, hg.q]
  exact hR w2 hy
theorem of_leave_idle (w W : World) (Z : Nat) (tm : Array Value) (v : Int) (z : Int) (R : Ending → World → Prop) (h1 : tm[2]? = some (.pointer (some ⟨Z, 0, none⟩))) (h2 : tm[3]? = some (.pointer (some ⟨Z + 1, 0, none⟩))) (hf : Fac w Z W (.int .i64 v) z)
    (hR : ∀ w2, Ext W w2 → R (.returned (.tuple #[.agg #[.int .i64 v], .int .i64 0])) ((w2.setCell ⟨Z, 0, none⟩ (.int .i64 v)).setCell ⟨Z + 1, 0, none⟩ (.int .i64 0))) :
    Leaves Tryz.prog Tryz.f61 tm R (dfr 88 Z) (.returning) W := by
  refine leaves_cons (f := 88) (args := #[.pointer (some ⟨Z, 0, none⟩), .pointer (some ⟨Z + 1, 0, none⟩)]) (by simp) (by simp [go_sem]) ?_
  refine (of_idle Z v z _ hf.p hf.q hf.pz hf.qz).mono ?_
  rintro e u' w'' ⟨rfl, rfl, w2, hy, rfl⟩
  have hg := hf.on hy
  simp [Leaves, settle, results, Tryz.results61, go_sem, h1, h2, hg.p, hg.q]
  exact hR w2 hy
theorem new_leave_catch (w W : World) (Z : Nat) (tm : Array Value) (c : Int) (va : Option Addr) (z : Int) (R : Ending → World → Prop) (h1 : tm[4]? = some (.pointer (some ⟨Z, 0, none⟩))) (h2 : tm[5]? = some (.pointer (some ⟨Z + 1, 0, none⟩))) (hf : Fac w Z W (.pointer va) z)
    (hR : ∀ w2, Ext W w2 → R (.returned (.tuple #[.pointer none, .int .i64 c])) ((w2.setCell ⟨Z, 0, none⟩ (.pointer none)).setCell ⟨Z + 1, 0, none⟩ (.int .i64 c))) :
    Leaves Tryz.prog Tryz.f40 tm R (dfr 56 Z) (.panicking [{ v := .iface 33 (.int .i64 c), recovered := false }]) W := by
  refine leaves_cons (f := 56) (args := #[.pointer (some ⟨Z, 0, none⟩), .pointer (some ⟨Z + 1, 0, none⟩)]) (by simp) (by simp [go_sem]) ?_
  refine (new_catch Z c va z [] _ hf.p hf.q hf.pz hf.qz).mono ?_
  rintro e u' w'' ⟨rfl, rfl, w2, hy, rfl⟩
  have hg := hf.on hy
  simp [Leaves, settle, results, Tryz.results40, go_sem, h1, h2, hg.p, hg.q]
  exact hR w2 hy
theorem new_leave_idle (w W : World) (Z : Nat) (tm : Array Value) (va : Option Addr) (z : Int) (R : Ending → World → Prop) (h1 : tm[4]? = some (.pointer (some ⟨Z, 0, none⟩))) (h2 : tm[5]? = some (.pointer (some ⟨Z + 1, 0, none⟩))) (hf : Fac w Z W (.pointer va) z)
    (hR : ∀ w2, Ext W w2 → R (.returned (.tuple #[.pointer va, .int .i64 0])) ((w2.setCell ⟨Z, 0, none⟩ (.pointer va)).setCell ⟨Z + 1, 0, none⟩ (.int .i64 0))) :
    Leaves Tryz.prog Tryz.f40 tm R (dfr 56 Z) (.returning) W := by
  refine leaves_cons (f := 56) (args := #[.pointer (some ⟨Z, 0, none⟩), .pointer (some ⟨Z + 1, 0, none⟩)]) (by simp) (by simp [go_sem]) ?_
  refine (new_idle Z va z _ hf.p hf.q hf.pz hf.qz).mono ?_
  rintro e u' w'' ⟨rfl, rfl, w2, hy, rfl⟩
  have hg := hf.on hy
  simp [Leaves, settle, results, Tryz.results40, go_sem, h1, h2, hg.p, hg.q]
  exact hR w2 hy
theorem sureI_ok (v : Value) (w : World) :
    Calls Tryz.prog 58 #[v, .int .i64 0] w fun e w' => e = .returned (v) ∧ Ext w w' := by
  go_enter Tryz.func58, Tryz.ntmps58
  go_wp2_with fail
  refine (need_ok _ _).mono ?_
  rintro e w1 ⟨rfl, rfl⟩
  go_wp2
  exact bodyPost_ret (v := v) (by simp [results, Tryz.results58, go_sem]) rfl ⟨rfl, by repeat (first | exact Ext.refl _ | apply Ext.alloc)⟩
theorem sureI_no (v : Value) (c : Int) (hc : (c == 0) = false) (w : World) :
    Calls Tryz.prog 58 #[v, .int .i64 c] w fun e w' => e = .panicked [{ v := .iface 33 (.int .i64 c), recovered := false }] ∧ Ext w w' := by
  go_enter Tryz.func58, Tryz.ntmps58
  go_wp2_with fail
  refine (need_no _ _).mono ?_
  rintro e w1 ⟨rfl, rfl⟩
  go_wp2
  exact ⟨rfl, rfl, by repeat (first | exact Ext.refl _ | apply Ext.alloc)⟩
theorem sureR_ok (m : Int) (w : World) :
    Calls Tryz.prog 60 #[.agg #[.int .i64 m], .int .i64 0] w fun e w' => e = .returned (.agg #[.int .i64 m]) ∧ Ext w w' := by
  go_enter Tryz.func60, Tryz.ntmps60
  go_wp2_with fail
  refine (need_ok _ _).mono ?_
  rintro e w1 ⟨rfl, rfl⟩
  go_wp2
  exact bodyPost_ret (v := .agg #[.int .i64 m]) (by simp [results, Tryz.results60, go_sem]) rfl ⟨rfl, by repeat (first | exact Ext.refl _ | apply Ext.alloc)⟩
theorem sureR_no (m : Int) (c : Int) (hc : (c == 0) = false) (w : World) :
    Calls Tryz.prog 60 #[.agg #[.int .i64 m], .int .i64 c] w fun e w' => e = .panicked [{ v := .iface 33 (.int .i64 c), recovered := false }] ∧ Ext w w' := by
  go_enter Tryz.func60, Tryz.ntmps60
  go_wp2_with fail
  refine (need_no _ _).mono ?_
  rintro e w1 ⟨rfl, rfl⟩
  go_wp2
  exact ⟨rfl, rfl, by repeat (first | exact Ext.refl _ | apply Ext.alloc)⟩
end Go.Proofs.YtafjmpaefikdcaaGreatDoor.L12