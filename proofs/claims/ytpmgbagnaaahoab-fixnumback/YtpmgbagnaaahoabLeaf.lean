/- What the small functions of the program and the deferred closures of its faces do, as contracts: no statement of the seat is proved here. -/
import Derived.Test.YtpmgbagnaaahoabRows
import Derived.Test.YtpmgbagnaaahoabBase
namespace Go.Proofs.Ytpmgbagnaaahoab
open Go.RowKit

theorem fits_any (v : Int) (w : World) :
    Calls Try.prog 22 #[.int .i64 v] w fun e w' => e = .returned (.bool (decide (-1000000000000000 ≤ v) && decide (v ≤ 1000000000000000))) ∧ w' = w := by
  by_cases h1 : -1000000000000000 ≤ v <;> by_cases h2 : v ≤ 1000000000000000 <;>
  · go_enter Try.func22, Try.ntmps22
    go_wp2
    go_ret
    exact ⟨by simp [h1, h2], rfl⟩

theorem need_ok (c : Int) (w : World) :
    Calls Try.prog 12 #[.bool true, .int .i64 c] w fun e w' => e = .returned (.tuple #[]) ∧ w' = w := by
  go_enter Try.func12, Try.ntmps12
  go_wp2
  go_end0
  exact ⟨rfl, rfl⟩

/-- What is thrown. -/
def thrown (c : Int) : Ending := .panicked [{ v := .iface 26 (.int .i64 c), recovered := false }]

theorem need_no (c : Int) (w : World) :
    Calls Try.prog 12 #[.bool false, .int .i64 c] w fun e w' => e = .panicked [{ v := .iface 26 (.int .i64 c), recovered := false }] ∧ w' = w := by
  go_enter Try.func12, Try.ntmps12
  go_wp2
  exact ⟨rfl, rfl, rfl⟩

theorem fitting_ok (v : Int) (w : World) (h1 : -1000000000000000 ≤ v) (h2 : v ≤ 1000000000000000) :
    Calls Try.prog 18 #[.int .i64 v] w fun e w' => e = .returned (.int .i64 v) ∧ w' = w := by
  go_enter Try.func18, Try.ntmps18
  go_wp2
  go_end0
  go_wp2
  go_ret
  exact ⟨rfl, rfl⟩

theorem fitting_no (v : Int) (w : World) (h : ¬ (-1000000000000000 ≤ v ∧ v ≤ 1000000000000000)) :
    Calls Try.prog 18 #[.int .i64 v] w fun e w' => e = .panicked [{ v := .iface 26 (.int .i64 3), recovered := false }] ∧ w' = w := by
  by_cases h1 : -1000000000000000 ≤ v
  · have h2 : ¬ v ≤ 1000000000000000 := fun k => h ⟨h1, k⟩
    clear h
    go_enter Try.func18, Try.ntmps18
    go_wp2
    exact ⟨rfl, rfl, rfl, rfl⟩
  · clear h
    go_enter Try.func18, Try.ntmps18
    go_wp2
    exact ⟨rfl, rfl, rfl, rfl⟩

theorem assert_errno (W : World) (x : Value) : (Instr.typeAssert (.iface 26 x) 20 26 true).run Try.prog W = .ok (.tuple #[x, .bool true]) W := by kernel_rfl

theorem settleAt_nil (v : Int) (w : World) :
    Calls Try.prog 24 #[.nilIface, .int .i64 v] w fun e w' => e = .returned (.tuple #[.int .i64 v, .int .i64 0, .int .i64 0]) ∧ w' = w := by
  go_enter Try.func24, Try.ntmps24
  go_wp2
  exact bodyPost_ret (v := .tuple #[.int .i64 v, .int .i64 0, .int .i64 0]) (by simp [results, Try.results24, go_sem]) rfl ⟨rfl, rfl⟩

theorem settleAt_thrown (c v : Int) (w : World) :
    Calls Try.prog 24 #[.iface 26 (.int .i64 c), .int .i64 v] w fun e w' => e = .returned (.tuple #[.int .i64 0, .int .i64 0, .int .i64 c]) ∧ w' = w := by
  have hta := assert_errno
  go_enter Try.func24, Try.ntmps24
  go_wp2
  exact bodyPost_ret (v := .tuple #[.int .i64 0, .int .i64 0, .int .i64 c]) (by simp [results, Try.results24, go_sem]) rfl ⟨rfl, rfl⟩

theorem settle_nil (v : Int) (w : World) :
    Calls Try.prog 14 #[.nilIface, .int .i64 v] w fun e w' => e = .returned (.tuple #[.int .i64 v, .int .i64 0]) ∧ w' = w := by
  go_enter Try.func14, Try.ntmps14
  go_wp2_with fail
  refine (settleAt_nil _ _).mono ?_
  rintro e w1 ⟨rfl, rfl⟩
  go_wp2
  go_ret2
  exact ⟨rfl, rfl⟩

theorem settle_thrown (c v : Int) (w : World) :
    Calls Try.prog 14 #[.iface 26 (.int .i64 c), .int .i64 v] w fun e w' => e = .returned (.tuple #[.int .i64 0, .int .i64 c]) ∧ w' = w := by
  go_enter Try.func14, Try.ntmps14
  go_wp2_with fail
  refine (settleAt_thrown _ _ _).mono ?_
  rintro e w1 ⟨rfl, rfl⟩
  go_wp2
  go_ret2
  exact ⟨rfl, rfl⟩

theorem rsettleAt_nil (v : Int) (w : World) :
    Calls Try.prog 23 #[.nilIface, .agg #[.int .i64 v]] w fun e w' => e = .returned (.tuple #[.agg #[.int .i64 v], .int .i64 0, .int .i64 0]) ∧ Ext w w' := by
  go_enter Try.func23, Try.ntmps23
  go_wp2
  exact bodyPost_ret (v := .tuple #[.agg #[.int .i64 v], .int .i64 0, .int .i64 0]) (by simp [results, Try.results23, go_sem]) rfl ⟨rfl, by repeat (first | exact Ext.refl _ | apply Ext.alloc)⟩

theorem rsettleAt_thrown (c v : Int) (w : World) :
    Calls Try.prog 23 #[.iface 26 (.int .i64 c), .agg #[.int .i64 v]] w fun e w' => e = .returned (.tuple #[.agg #[.int .i64 0], .int .i64 0, .int .i64 c]) ∧ Ext w w' := by
  have hta := assert_errno
  go_enter Try.func23, Try.ntmps23
  go_wp2
  exact bodyPost_ret (v := .tuple #[.agg #[.int .i64 0], .int .i64 0, .int .i64 c]) (by simp [results, Try.results23, go_sem]) rfl ⟨rfl, by repeat (first | exact Ext.refl _ | apply Ext.alloc)⟩

theorem two_boxes {w w1 : World} {x y : Value} {t s : TypeId} (hx : Ext ((w.alloc (.cells #[x] t)).alloc (.cells #[y] s)) w1) :
    w1.cell? ⟨w.heap.size, 0, none⟩ = some x ∧ w1.cell? ⟨w.heap.size + 1, 0, none⟩ = some y ∧ w1.frozen? ⟨w.heap.size, 0, none⟩ = false ∧ w1.frozen? ⟨w.heap.size + 1, 0, none⟩ = false ∧ Ext w w1 :=
  ⟨by rw [hx.cell _ _ (by simp; omega)]; simp [go_sem], by rw [hx.cell _ _ (by simp)]; simp [go_sem], by rw [hx.froz]; simp [go_sem], by rw [hx.froz]; simp [go_sem], (by exact ((Ext.refl w).alloc _ _).alloc _ _ : Ext w _).trans hx⟩

theorem two_set {w w1 : World} {x y : Value} (u : Value) (_ : w1.cell? ⟨w.heap.size, 0, none⟩ = some x) (h1 : w1.cell? ⟨w.heap.size + 1, 0, none⟩ = some y) (hx : Ext w w1) :
    ((w1.setCell ⟨w.heap.size, 0, none⟩ u).setCell ⟨w.heap.size + 1, 0, none⟩ u).cell? ⟨w.heap.size + 1, 0, none⟩ = some u ∧ Ext w ((w1.setCell ⟨w.heap.size, 0, none⟩ u).setCell ⟨w.heap.size + 1, 0, none⟩ u) := by
  have h2 : (w1.setCell ⟨w.heap.size, 0, none⟩ u).cell? ⟨w.heap.size + 1, 0, none⟩ = some y := by
    rw [← h1]
    apply World.cell?_setCell_other
    intro e
    injection e with e1 e2
    omega
  refine ⟨?_, (hx.setCell (Nat.le_refl _) _).setCell (by show w.heap.size ≤ w.heap.size + 1; omega) _⟩
  apply World.cell?_setCell_same
  exact h2

theorem rsettle_nil (v : Int) (w : World) :
    Calls Try.prog 11 #[.nilIface, .agg #[.int .i64 v]] w fun e w' => e = .returned (.tuple #[.agg #[.int .i64 v], .int .i64 0]) ∧ Ext w w' := by
  go_enter Try.func11, Try.ntmps11
  go_wp2_with fail
  refine (rsettleAt_nil _ _).mono ?_
  rintro e w1 ⟨rfl, hx⟩
  obtain ⟨c0, c1, z0, z1, hx1⟩ := two_boxes hx
  obtain ⟨k1, hx2⟩ := two_set (.int .i64 v) c0 c1 hx1
  replace hx2 : Hid _ := hx2
  clear hx hx1
  go_wp2
  exact bodyPost_ret (v := .tuple #[.agg #[.int .i64 v], .int .i64 0]) (by simp [results, Try.results11, go_sem, k1]) rfl ⟨rfl, hx2.out⟩

theorem rsettle_thrown (c v : Int) (w : World) :
    Calls Try.prog 11 #[.iface 26 (.int .i64 c), .agg #[.int .i64 v]] w fun e w' => e = .returned (.tuple #[.agg #[.int .i64 0], .int .i64 c]) ∧ Ext w w' := by
  go_enter Try.func11, Try.ntmps11
  go_wp2_with fail
  refine (rsettleAt_thrown _ _ _).mono ?_
  rintro e w1 ⟨rfl, hx⟩
  obtain ⟨c0, c1, z0, z1, hx1⟩ := two_boxes hx
  obtain ⟨k1, hx2⟩ := two_set (.int .i64 0) c0 c1 hx1
  replace hx2 : Hid _ := hx2
  clear hx hx1
  go_wp2
  exact bodyPost_ret (v := .tuple #[.agg #[.int .i64 0], .int .i64 c]) (by simp [results, Try.results11, go_sem, k1]) rfl ⟨rfl, hx2.out⟩

theorem div_idle (b : Nat) (v z : Int) (w : World) (hp : w.cell? ⟨b, 0, none⟩ = some (.int .i64 v)) (hq : w.cell? ⟨b + 1, 0, none⟩ = some (.int .i64 z)) (hpz : w.frozen? ⟨b, 0, none⟩ = false) (hqz : w.frozen? ⟨b + 1, 0, none⟩ = false) :
    CallsD Try.prog 20 #[.pointer (some ⟨b, 0, none⟩), .pointer (some ⟨b + 1, 0, none⟩)] .returning w fun e u' w' => e = .returned (.tuple #[]) ∧ u' = .returning ∧ ∃ w1, Ext w w1 ∧ w' = ((w1.setCell ⟨b, 0, none⟩ (.int .i64 v)).setCell ⟨b + 1, 0, none⟩ (.int .i64 0)) := by
  refine callsD_of_wpS Try.func20 rfl fun c₀ cs hu => ?_
  refine wpS_region_any 8 rfl (by kernel_rfl) ?_
  refine wpAnyS_two (i := 0) (j := 1) (by decide +kernel) ?_ ?_
  · simp [wpOpS, go_sem, recoverD, hu, Try.ntmps20]
    refine wpAnyS_one (i := 1) (by decide +kernel) ?_
    simp [wpOpS, go_sem, hp]
    refine wpAnyS_one (i := 2) (by decide +kernel) ?_
    simp [wpOpS, go_sem]
    refine (settle_nil _ _).mono ?_
    rintro e w' ⟨rfl, rfl⟩
    refine wpAnyS_one (i := 3) (by decide +kernel) ?_
    simp [wpOpS, go_sem]
    refine wpAnyS_two (i := 4) (j := 5) (by decide +kernel) ?_ ?_
    · simp [wpOpS, go_sem]
      refine wpAnyS_two (i := 5) (j := 6) (by decide +kernel) ?_ ?_
      · simp [wpOpS, go_sem]
        refine wpAnyS_one (i := 6) (by decide +kernel) ?_
        simp [wpOpS, go_sem, hp, hpz]
        refine wpAnyS_one (i := 7) (by decide +kernel) ?_
        simp [wpOpS, go_sem, hq, hqz]
        refine wpAnyS_done (by decide +kernel) ?_ _
        exact ⟨rfl, .returning, by rw [← hu], .tuple #[], results_none (by rfl) _ _ _, rfl, rfl, w.drew, (Ext.refl w).drew, rfl⟩
      · simp [wpOpS, go_sem, hp, hpz]
        refine wpAnyS_one (i := 5) (by decide +kernel) ?_
        simp [wpOpS, go_sem]
        refine wpAnyS_one (i := 7) (by decide +kernel) ?_
        simp [wpOpS, go_sem, hq, hqz]
        refine wpAnyS_done (by decide +kernel) ?_ _
        exact ⟨rfl, .returning, by rw [← hu], .tuple #[], results_none (by rfl) _ _ _, rfl, rfl, w.drew, (Ext.refl w).drew, rfl⟩
    · simp [wpOpS, go_sem]
      refine wpAnyS_one (i := 4) (by decide +kernel) ?_
      simp [wpOpS, go_sem]
      refine wpAnyS_one (i := 6) (by decide +kernel) ?_
      simp [wpOpS, go_sem, hp, hpz]
      refine wpAnyS_one (i := 7) (by decide +kernel) ?_
      simp [wpOpS, go_sem, hq, hqz]
      refine wpAnyS_done (by decide +kernel) ?_ _
      exact ⟨rfl, .returning, by rw [← hu], .tuple #[], results_none (by rfl) _ _ _, rfl, rfl, w.drew, (Ext.refl w).drew, rfl⟩
  · simp [wpOpS, go_sem, hp, Try.ntmps20]
    refine wpAnyS_one (i := 0) (by decide +kernel) ?_
    simp [wpOpS, go_sem, recoverD, hu]
    refine wpAnyS_one (i := 2) (by decide +kernel) ?_
    simp [wpOpS, go_sem]
    refine (settle_nil _ _).mono ?_
    rintro e w' ⟨rfl, rfl⟩
    refine wpAnyS_one (i := 3) (by decide +kernel) ?_
    simp [wpOpS, go_sem]
    refine wpAnyS_two (i := 4) (j := 5) (by decide +kernel) ?_ ?_
    · simp [wpOpS, go_sem]
      refine wpAnyS_two (i := 5) (j := 6) (by decide +kernel) ?_ ?_
      · simp [wpOpS, go_sem]
        refine wpAnyS_one (i := 6) (by decide +kernel) ?_
        simp [wpOpS, go_sem, hp, hpz]
        refine wpAnyS_one (i := 7) (by decide +kernel) ?_
        simp [wpOpS, go_sem, hq, hqz]
        refine wpAnyS_done (by decide +kernel) ?_ _
        exact ⟨rfl, .returning, by rw [← hu], .tuple #[], results_none (by rfl) _ _ _, rfl, rfl, w.drew, (Ext.refl w).drew, rfl⟩
      · simp [wpOpS, go_sem, hp, hpz]
        refine wpAnyS_one (i := 5) (by decide +kernel) ?_
        simp [wpOpS, go_sem]
        refine wpAnyS_one (i := 7) (by decide +kernel) ?_
        simp [wpOpS, go_sem, hq, hqz]
        refine wpAnyS_done (by decide +kernel) ?_ _
        exact ⟨rfl, .returning, by rw [← hu], .tuple #[], results_none (by rfl) _ _ _, rfl, rfl, w.drew, (Ext.refl w).drew, rfl⟩
    · simp [wpOpS, go_sem]
      refine wpAnyS_one (i := 4) (by decide +kernel) ?_
      simp [wpOpS, go_sem]
      refine wpAnyS_one (i := 6) (by decide +kernel) ?_
      simp [wpOpS, go_sem, hp, hpz]
      refine wpAnyS_one (i := 7) (by decide +kernel) ?_
      simp [wpOpS, go_sem, hq, hqz]
      refine wpAnyS_done (by decide +kernel) ?_ _
      exact ⟨rfl, .returning, by rw [← hu], .tuple #[], results_none (by rfl) _ _ _, rfl, rfl, w.drew, (Ext.refl w).drew, rfl⟩

theorem div_catch (b : Nat) (c v z : Int) (older : List PanicEntry) (w : World) (hp : w.cell? ⟨b, 0, none⟩ = some (.int .i64 v)) (hq : w.cell? ⟨b + 1, 0, none⟩ = some (.int .i64 z)) (hpz : w.frozen? ⟨b, 0, none⟩ = false) (hqz : w.frozen? ⟨b + 1, 0, none⟩ = false) :
    CallsD Try.prog 20 #[.pointer (some ⟨b, 0, none⟩), .pointer (some ⟨b + 1, 0, none⟩)] (.panicking ({ v := .iface 26 (.int .i64 c), recovered := false } :: older)) w fun e u' w' => e = .returned (.tuple #[]) ∧ u' = .panicking ({ v := .iface 26 (.int .i64 c), recovered := true } :: older) ∧ ∃ w1, Ext w w1 ∧ w' = ((w1.setCell ⟨b, 0, none⟩ (.int .i64 0)).setCell ⟨b + 1, 0, none⟩ (.int .i64 c)) := by
  refine callsD_of_wpS Try.func20 rfl fun c₀ cs hu => ?_
  refine wpS_region_any 8 rfl (by kernel_rfl) ?_
  refine wpAnyS_two (i := 0) (j := 1) (by decide +kernel) ?_ ?_
  · simp [wpOpS, go_sem, recoverD, hu, Try.ntmps20]
    refine wpAnyS_one (i := 1) (by decide +kernel) ?_
    simp [wpOpS, go_sem, hp]
    refine wpAnyS_one (i := 2) (by decide +kernel) ?_
    simp [wpOpS, go_sem]
    refine (settle_thrown _ _ _).mono ?_
    rintro e w' ⟨rfl, rfl⟩
    refine wpAnyS_one (i := 3) (by decide +kernel) ?_
    simp [wpOpS, go_sem]
    refine wpAnyS_two (i := 4) (j := 5) (by decide +kernel) ?_ ?_
    · simp [wpOpS, go_sem]
      refine wpAnyS_two (i := 5) (j := 6) (by decide +kernel) ?_ ?_
      · simp [wpOpS, go_sem]
        refine wpAnyS_one (i := 6) (by decide +kernel) ?_
        simp [wpOpS, go_sem, hp, hpz]
        refine wpAnyS_one (i := 7) (by decide +kernel) ?_
        simp [wpOpS, go_sem, hq, hqz]
        refine wpAnyS_done (by decide +kernel) ?_ _
        exact ⟨rfl, _, rfl, .tuple #[], results_none (by rfl) _ _ _, rfl, rfl, w.drew, (Ext.refl w).drew, rfl⟩
      · simp [wpOpS, go_sem, hp, hpz]
        refine wpAnyS_one (i := 5) (by decide +kernel) ?_
        simp [wpOpS, go_sem]
        refine wpAnyS_one (i := 7) (by decide +kernel) ?_
        simp [wpOpS, go_sem, hq, hqz]
        refine wpAnyS_done (by decide +kernel) ?_ _
        exact ⟨rfl, _, rfl, .tuple #[], results_none (by rfl) _ _ _, rfl, rfl, w.drew, (Ext.refl w).drew, rfl⟩
    · simp [wpOpS, go_sem]
      refine wpAnyS_one (i := 4) (by decide +kernel) ?_
      simp [wpOpS, go_sem]
      refine wpAnyS_one (i := 6) (by decide +kernel) ?_
      simp [wpOpS, go_sem, hp, hpz]
      refine wpAnyS_one (i := 7) (by decide +kernel) ?_
      simp [wpOpS, go_sem, hq, hqz]
      refine wpAnyS_done (by decide +kernel) ?_ _
      exact ⟨rfl, _, rfl, .tuple #[], results_none (by rfl) _ _ _, rfl, rfl, w.drew, (Ext.refl w).drew, rfl⟩
  · simp [wpOpS, go_sem, hp, Try.ntmps20]
    refine wpAnyS_one (i := 0) (by decide +kernel) ?_
    simp [wpOpS, go_sem, recoverD, hu]
    refine wpAnyS_one (i := 2) (by decide +kernel) ?_
    simp [wpOpS, go_sem]
    refine (settle_thrown _ _ _).mono ?_
    rintro e w' ⟨rfl, rfl⟩
    refine wpAnyS_one (i := 3) (by decide +kernel) ?_
    simp [wpOpS, go_sem]
    refine wpAnyS_two (i := 4) (j := 5) (by decide +kernel) ?_ ?_
    · simp [wpOpS, go_sem]
      refine wpAnyS_two (i := 5) (j := 6) (by decide +kernel) ?_ ?_
      · simp [wpOpS, go_sem]
        refine wpAnyS_one (i := 6) (by decide +kernel) ?_
        simp [wpOpS, go_sem, hp, hpz]
        refine wpAnyS_one (i := 7) (by decide +kernel) ?_
        simp [wpOpS, go_sem, hq, hqz]
        refine wpAnyS_done (by decide +kernel) ?_ _
        exact ⟨rfl, _, rfl, .tuple #[], results_none (by rfl) _ _ _, rfl, rfl, w.drew, (Ext.refl w).drew, rfl⟩
      · simp [wpOpS, go_sem, hp, hpz]
        refine wpAnyS_one (i := 5) (by decide +kernel) ?_
        simp [wpOpS, go_sem]
        refine wpAnyS_one (i := 7) (by decide +kernel) ?_
        simp [wpOpS, go_sem, hq, hqz]
        refine wpAnyS_done (by decide +kernel) ?_ _
        exact ⟨rfl, _, rfl, .tuple #[], results_none (by rfl) _ _ _, rfl, rfl, w.drew, (Ext.refl w).drew, rfl⟩
    · simp [wpOpS, go_sem]
      refine wpAnyS_one (i := 4) (by decide +kernel) ?_
      simp [wpOpS, go_sem]
      refine wpAnyS_one (i := 6) (by decide +kernel) ?_
      simp [wpOpS, go_sem, hp, hpz]
      refine wpAnyS_one (i := 7) (by decide +kernel) ?_
      simp [wpOpS, go_sem, hq, hqz]
      refine wpAnyS_done (by decide +kernel) ?_ _
      exact ⟨rfl, _, rfl, .tuple #[], results_none (by rfl) _ _ _, rfl, rfl, w.drew, (Ext.refl w).drew, rfl⟩

theorem rat_idle (b : Nat) (v z : Int) (w : World) (hp : w.cell? ⟨b, 0, none⟩ = some (.int .i64 v)) (hq : w.cell? ⟨b + 1, 0, none⟩ = some (.int .i64 z)) (hpz : w.frozen? ⟨b, 0, none⟩ = false) (hqz : w.frozen? ⟨b + 1, 0, none⟩ = false) :
    CallsD Try.prog 13 #[.pointer (some ⟨b, 0, none⟩), .pointer (some ⟨b + 1, 0, none⟩)] .returning w fun e u' w' => e = .returned (.tuple #[]) ∧ u' = .returning ∧ ∃ w1, Ext w w1 ∧ w' = ((w1.setCell ⟨b, 0, none⟩ (.int .i64 v)).setCell ⟨b + 1, 0, none⟩ (.int .i64 0)) := by
  refine callsD_of_wpS Try.func13 rfl fun c₀ cs hu => ?_
  refine wpS_region_any 8 rfl (by kernel_rfl) ?_
  refine wpAnyS_two (i := 0) (j := 1) (by decide +kernel) ?_ ?_
  · simp [wpOpS, go_sem, recoverD, hu, Try.ntmps13]
    refine wpAnyS_one (i := 1) (by decide +kernel) ?_
    simp [wpOpS, go_sem, hp]
    refine wpAnyS_one (i := 2) (by decide +kernel) ?_
    simp [wpOpS, go_sem]
    refine (settle_nil _ _).mono ?_
    rintro e w' ⟨rfl, rfl⟩
    refine wpAnyS_one (i := 3) (by decide +kernel) ?_
    simp [wpOpS, go_sem]
    refine wpAnyS_two (i := 4) (j := 5) (by decide +kernel) ?_ ?_
    · simp [wpOpS, go_sem]
      refine wpAnyS_two (i := 5) (j := 6) (by decide +kernel) ?_ ?_
      · simp [wpOpS, go_sem]
        refine wpAnyS_one (i := 6) (by decide +kernel) ?_
        simp [wpOpS, go_sem, hp, hpz]
        refine wpAnyS_one (i := 7) (by decide +kernel) ?_
        simp [wpOpS, go_sem, hq, hqz]
        refine wpAnyS_done (by decide +kernel) ?_ _
        exact ⟨rfl, .returning, by rw [← hu], .tuple #[], results_none (by rfl) _ _ _, rfl, rfl, w.drew, (Ext.refl w).drew, rfl⟩
      · simp [wpOpS, go_sem, hp, hpz]
        refine wpAnyS_one (i := 5) (by decide +kernel) ?_
        simp [wpOpS, go_sem]
        refine wpAnyS_one (i := 7) (by decide +kernel) ?_
        simp [wpOpS, go_sem, hq, hqz]
        refine wpAnyS_done (by decide +kernel) ?_ _
        exact ⟨rfl, .returning, by rw [← hu], .tuple #[], results_none (by rfl) _ _ _, rfl, rfl, w.drew, (Ext.refl w).drew, rfl⟩
    · simp [wpOpS, go_sem]
      refine wpAnyS_one (i := 4) (by decide +kernel) ?_
      simp [wpOpS, go_sem]
      refine wpAnyS_one (i := 6) (by decide +kernel) ?_
      simp [wpOpS, go_sem, hp, hpz]
      refine wpAnyS_one (i := 7) (by decide +kernel) ?_
      simp [wpOpS, go_sem, hq, hqz]
      refine wpAnyS_done (by decide +kernel) ?_ _
      exact ⟨rfl, .returning, by rw [← hu], .tuple #[], results_none (by rfl) _ _ _, rfl, rfl, w.drew, (Ext.refl w).drew, rfl⟩
  · simp [wpOpS, go_sem, hp, Try.ntmps13]
    refine wpAnyS_one (i := 0) (by decide +kernel) ?_
    simp [wpOpS, go_sem, recoverD, hu]
    refine wpAnyS_one (i := 2) (by decide +kernel) ?_
    simp [wpOpS, go_sem]
    refine (settle_nil _ _).mono ?_
    rintro e w' ⟨rfl, rfl⟩
    refine wpAnyS_one (i := 3) (by decide +kernel) ?_
    simp [wpOpS, go_sem]
    refine wpAnyS_two (i := 4) (j := 5) (by decide +kernel) ?_ ?_
    · simp [wpOpS, go_sem]
      refine wpAnyS_two (i := 5) (j := 6) (by decide +kernel) ?_ ?_
      · simp [wpOpS, go_sem]
        refine wpAnyS_one (i := 6) (by decide +kernel) ?_
        simp [wpOpS, go_sem, hp, hpz]
        refine wpAnyS_one (i := 7) (by decide +kernel) ?_
        simp [wpOpS, go_sem, hq, hqz]
        refine wpAnyS_done (by decide +kernel) ?_ _
        exact ⟨rfl, .returning, by rw [← hu], .tuple #[], results_none (by rfl) _ _ _, rfl, rfl, w.drew, (Ext.refl w).drew, rfl⟩
      · simp [wpOpS, go_sem, hp, hpz]
        refine wpAnyS_one (i := 5) (by decide +kernel) ?_
        simp [wpOpS, go_sem]
        refine wpAnyS_one (i := 7) (by decide +kernel) ?_
        simp [wpOpS, go_sem, hq, hqz]
        refine wpAnyS_done (by decide +kernel) ?_ _
        exact ⟨rfl, .returning, by rw [← hu], .tuple #[], results_none (by rfl) _ _ _, rfl, rfl, w.drew, (Ext.refl w).drew, rfl⟩
    · simp [wpOpS, go_sem]
      refine wpAnyS_one (i := 4) (by decide +kernel) ?_
      simp [wpOpS, go_sem]
      refine wpAnyS_one (i := 6) (by decide +kernel) ?_
      simp [wpOpS, go_sem, hp, hpz]
      refine wpAnyS_one (i := 7) (by decide +kernel) ?_
      simp [wpOpS, go_sem, hq, hqz]
      refine wpAnyS_done (by decide +kernel) ?_ _
      exact ⟨rfl, .returning, by rw [← hu], .tuple #[], results_none (by rfl) _ _ _, rfl, rfl, w.drew, (Ext.refl w).drew, rfl⟩

theorem rat_catch (b : Nat) (c v z : Int) (older : List PanicEntry) (w : World) (hp : w.cell? ⟨b, 0, none⟩ = some (.int .i64 v)) (hq : w.cell? ⟨b + 1, 0, none⟩ = some (.int .i64 z)) (hpz : w.frozen? ⟨b, 0, none⟩ = false) (hqz : w.frozen? ⟨b + 1, 0, none⟩ = false) :
    CallsD Try.prog 13 #[.pointer (some ⟨b, 0, none⟩), .pointer (some ⟨b + 1, 0, none⟩)] (.panicking ({ v := .iface 26 (.int .i64 c), recovered := false } :: older)) w fun e u' w' => e = .returned (.tuple #[]) ∧ u' = .panicking ({ v := .iface 26 (.int .i64 c), recovered := true } :: older) ∧ ∃ w1, Ext w w1 ∧ w' = ((w1.setCell ⟨b, 0, none⟩ (.int .i64 0)).setCell ⟨b + 1, 0, none⟩ (.int .i64 c)) := by
  refine callsD_of_wpS Try.func13 rfl fun c₀ cs hu => ?_
  refine wpS_region_any 8 rfl (by kernel_rfl) ?_
  refine wpAnyS_two (i := 0) (j := 1) (by decide +kernel) ?_ ?_
  · simp [wpOpS, go_sem, recoverD, hu, Try.ntmps13]
    refine wpAnyS_one (i := 1) (by decide +kernel) ?_
    simp [wpOpS, go_sem, hp]
    refine wpAnyS_one (i := 2) (by decide +kernel) ?_
    simp [wpOpS, go_sem]
    refine (settle_thrown _ _ _).mono ?_
    rintro e w' ⟨rfl, rfl⟩
    refine wpAnyS_one (i := 3) (by decide +kernel) ?_
    simp [wpOpS, go_sem]
    refine wpAnyS_two (i := 4) (j := 5) (by decide +kernel) ?_ ?_
    · simp [wpOpS, go_sem]
      refine wpAnyS_two (i := 5) (j := 6) (by decide +kernel) ?_ ?_
      · simp [wpOpS, go_sem]
        refine wpAnyS_one (i := 6) (by decide +kernel) ?_
        simp [wpOpS, go_sem, hp, hpz]
        refine wpAnyS_one (i := 7) (by decide +kernel) ?_
        simp [wpOpS, go_sem, hq, hqz]
        refine wpAnyS_done (by decide +kernel) ?_ _
        exact ⟨rfl, _, rfl, .tuple #[], results_none (by rfl) _ _ _, rfl, rfl, w.drew, (Ext.refl w).drew, rfl⟩
      · simp [wpOpS, go_sem, hp, hpz]
        refine wpAnyS_one (i := 5) (by decide +kernel) ?_
        simp [wpOpS, go_sem]
        refine wpAnyS_one (i := 7) (by decide +kernel) ?_
        simp [wpOpS, go_sem, hq, hqz]
        refine wpAnyS_done (by decide +kernel) ?_ _
        exact ⟨rfl, _, rfl, .tuple #[], results_none (by rfl) _ _ _, rfl, rfl, w.drew, (Ext.refl w).drew, rfl⟩
    · simp [wpOpS, go_sem]
      refine wpAnyS_one (i := 4) (by decide +kernel) ?_
      simp [wpOpS, go_sem]
      refine wpAnyS_one (i := 6) (by decide +kernel) ?_
      simp [wpOpS, go_sem, hp, hpz]
      refine wpAnyS_one (i := 7) (by decide +kernel) ?_
      simp [wpOpS, go_sem, hq, hqz]
      refine wpAnyS_done (by decide +kernel) ?_ _
      exact ⟨rfl, _, rfl, .tuple #[], results_none (by rfl) _ _ _, rfl, rfl, w.drew, (Ext.refl w).drew, rfl⟩
  · simp [wpOpS, go_sem, hp, Try.ntmps13]
    refine wpAnyS_one (i := 0) (by decide +kernel) ?_
    simp [wpOpS, go_sem, recoverD, hu]
    refine wpAnyS_one (i := 2) (by decide +kernel) ?_
    simp [wpOpS, go_sem]
    refine (settle_thrown _ _ _).mono ?_
    rintro e w' ⟨rfl, rfl⟩
    refine wpAnyS_one (i := 3) (by decide +kernel) ?_
    simp [wpOpS, go_sem]
    refine wpAnyS_two (i := 4) (j := 5) (by decide +kernel) ?_ ?_
    · simp [wpOpS, go_sem]
      refine wpAnyS_two (i := 5) (j := 6) (by decide +kernel) ?_ ?_
      · simp [wpOpS, go_sem]
        refine wpAnyS_one (i := 6) (by decide +kernel) ?_
        simp [wpOpS, go_sem, hp, hpz]
        refine wpAnyS_one (i := 7) (by decide +kernel) ?_
        simp [wpOpS, go_sem, hq, hqz]
        refine wpAnyS_done (by decide +kernel) ?_ _
        exact ⟨rfl, _, rfl, .tuple #[], results_none (by rfl) _ _ _, rfl, rfl, w.drew, (Ext.refl w).drew, rfl⟩
      · simp [wpOpS, go_sem, hp, hpz]
        refine wpAnyS_one (i := 5) (by decide +kernel) ?_
        simp [wpOpS, go_sem]
        refine wpAnyS_one (i := 7) (by decide +kernel) ?_
        simp [wpOpS, go_sem, hq, hqz]
        refine wpAnyS_done (by decide +kernel) ?_ _
        exact ⟨rfl, _, rfl, .tuple #[], results_none (by rfl) _ _ _, rfl, rfl, w.drew, (Ext.refl w).drew, rfl⟩
    · simp [wpOpS, go_sem]
      refine wpAnyS_one (i := 4) (by decide +kernel) ?_
      simp [wpOpS, go_sem]
      refine wpAnyS_one (i := 6) (by decide +kernel) ?_
      simp [wpOpS, go_sem, hp, hpz]
      refine wpAnyS_one (i := 7) (by decide +kernel) ?_
      simp [wpOpS, go_sem, hq, hqz]
      refine wpAnyS_done (by decide +kernel) ?_ _
      exact ⟨rfl, _, rfl, .tuple #[], results_none (by rfl) _ _ _, rfl, rfl, w.drew, (Ext.refl w).drew, rfl⟩

theorem plus_idle (b : Nat) (v z : Int) (w : World) (hp : w.cell? ⟨b, 0, none⟩ = some (.int .i64 v)) (hq : w.cell? ⟨b + 1, 0, none⟩ = some (.int .i64 z)) (hpz : w.frozen? ⟨b, 0, none⟩ = false) (hqz : w.frozen? ⟨b + 1, 0, none⟩ = false) :
    CallsD Try.prog 21 #[.pointer (some ⟨b, 0, none⟩), .pointer (some ⟨b + 1, 0, none⟩)] .returning w fun e u' w' => e = .returned (.tuple #[]) ∧ u' = .returning ∧ ∃ w1, Ext w w1 ∧ w' = ((w1.setCell ⟨b, 0, none⟩ (.int .i64 v)).setCell ⟨b + 1, 0, none⟩ (.int .i64 0)) := by
  refine callsD_of_wpS Try.func21 rfl fun c₀ cs hu => ?_
  refine wpS_region_any 8 rfl (by kernel_rfl) ?_
  refine wpAnyS_two (i := 0) (j := 1) (by decide +kernel) ?_ ?_
  · simp [wpOpS, go_sem, recoverD, hu, Try.ntmps21]
    refine wpAnyS_one (i := 1) (by decide +kernel) ?_
    simp [wpOpS, go_sem, hp]
    refine wpAnyS_one (i := 2) (by decide +kernel) ?_
    simp [wpOpS, go_sem]
    refine (settle_nil _ _).mono ?_
    rintro e w' ⟨rfl, rfl⟩
    refine wpAnyS_one (i := 3) (by decide +kernel) ?_
    simp [wpOpS, go_sem]
    refine wpAnyS_two (i := 4) (j := 5) (by decide +kernel) ?_ ?_
    · simp [wpOpS, go_sem]
      refine wpAnyS_two (i := 5) (j := 6) (by decide +kernel) ?_ ?_
      · simp [wpOpS, go_sem]
        refine wpAnyS_one (i := 6) (by decide +kernel) ?_
        simp [wpOpS, go_sem, hp, hpz]
        refine wpAnyS_one (i := 7) (by decide +kernel) ?_
        simp [wpOpS, go_sem, hq, hqz]
        refine wpAnyS_done (by decide +kernel) ?_ _
        exact ⟨rfl, .returning, by rw [← hu], .tuple #[], results_none (by rfl) _ _ _, rfl, rfl, w.drew, (Ext.refl w).drew, rfl⟩
      · simp [wpOpS, go_sem, hp, hpz]
        refine wpAnyS_one (i := 5) (by decide +kernel) ?_
        simp [wpOpS, go_sem]
        refine wpAnyS_one (i := 7) (by decide +kernel) ?_
        simp [wpOpS, go_sem, hq, hqz]
        refine wpAnyS_done (by decide +kernel) ?_ _
        exact ⟨rfl, .returning, by rw [← hu], .tuple #[], results_none (by rfl) _ _ _, rfl, rfl, w.drew, (Ext.refl w).drew, rfl⟩
    · simp [wpOpS, go_sem]
      refine wpAnyS_one (i := 4) (by decide +kernel) ?_
      simp [wpOpS, go_sem]
      refine wpAnyS_one (i := 6) (by decide +kernel) ?_
      simp [wpOpS, go_sem, hp, hpz]
      refine wpAnyS_one (i := 7) (by decide +kernel) ?_
      simp [wpOpS, go_sem, hq, hqz]
      refine wpAnyS_done (by decide +kernel) ?_ _
      exact ⟨rfl, .returning, by rw [← hu], .tuple #[], results_none (by rfl) _ _ _, rfl, rfl, w.drew, (Ext.refl w).drew, rfl⟩
  · simp [wpOpS, go_sem, hp, Try.ntmps21]
    refine wpAnyS_one (i := 0) (by decide +kernel) ?_
    simp [wpOpS, go_sem, recoverD, hu]
    refine wpAnyS_one (i := 2) (by decide +kernel) ?_
    simp [wpOpS, go_sem]
    refine (settle_nil _ _).mono ?_
    rintro e w' ⟨rfl, rfl⟩
    refine wpAnyS_one (i := 3) (by decide +kernel) ?_
    simp [wpOpS, go_sem]
    refine wpAnyS_two (i := 4) (j := 5) (by decide +kernel) ?_ ?_
    · simp [wpOpS, go_sem]
      refine wpAnyS_two (i := 5) (j := 6) (by decide +kernel) ?_ ?_
      · simp [wpOpS, go_sem]
        refine wpAnyS_one (i := 6) (by decide +kernel) ?_
        simp [wpOpS, go_sem, hp, hpz]
        refine wpAnyS_one (i := 7) (by decide +kernel) ?_
        simp [wpOpS, go_sem, hq, hqz]
        refine wpAnyS_done (by decide +kernel) ?_ _
        exact ⟨rfl, .returning, by rw [← hu], .tuple #[], results_none (by rfl) _ _ _, rfl, rfl, w.drew, (Ext.refl w).drew, rfl⟩
      · simp [wpOpS, go_sem, hp, hpz]
        refine wpAnyS_one (i := 5) (by decide +kernel) ?_
        simp [wpOpS, go_sem]
        refine wpAnyS_one (i := 7) (by decide +kernel) ?_
        simp [wpOpS, go_sem, hq, hqz]
        refine wpAnyS_done (by decide +kernel) ?_ _
        exact ⟨rfl, .returning, by rw [← hu], .tuple #[], results_none (by rfl) _ _ _, rfl, rfl, w.drew, (Ext.refl w).drew, rfl⟩
    · simp [wpOpS, go_sem]
      refine wpAnyS_one (i := 4) (by decide +kernel) ?_
      simp [wpOpS, go_sem]
      refine wpAnyS_one (i := 6) (by decide +kernel) ?_
      simp [wpOpS, go_sem, hp, hpz]
      refine wpAnyS_one (i := 7) (by decide +kernel) ?_
      simp [wpOpS, go_sem, hq, hqz]
      refine wpAnyS_done (by decide +kernel) ?_ _
      exact ⟨rfl, .returning, by rw [← hu], .tuple #[], results_none (by rfl) _ _ _, rfl, rfl, w.drew, (Ext.refl w).drew, rfl⟩

theorem plus_catch (b : Nat) (c v z : Int) (older : List PanicEntry) (w : World) (hp : w.cell? ⟨b, 0, none⟩ = some (.int .i64 v)) (hq : w.cell? ⟨b + 1, 0, none⟩ = some (.int .i64 z)) (hpz : w.frozen? ⟨b, 0, none⟩ = false) (hqz : w.frozen? ⟨b + 1, 0, none⟩ = false) :
    CallsD Try.prog 21 #[.pointer (some ⟨b, 0, none⟩), .pointer (some ⟨b + 1, 0, none⟩)] (.panicking ({ v := .iface 26 (.int .i64 c), recovered := false } :: older)) w fun e u' w' => e = .returned (.tuple #[]) ∧ u' = .panicking ({ v := .iface 26 (.int .i64 c), recovered := true } :: older) ∧ ∃ w1, Ext w w1 ∧ w' = ((w1.setCell ⟨b, 0, none⟩ (.int .i64 0)).setCell ⟨b + 1, 0, none⟩ (.int .i64 c)) := by
  refine callsD_of_wpS Try.func21 rfl fun c₀ cs hu => ?_
  refine wpS_region_any 8 rfl (by kernel_rfl) ?_
  refine wpAnyS_two (i := 0) (j := 1) (by decide +kernel) ?_ ?_
  · simp [wpOpS, go_sem, recoverD, hu, Try.ntmps21]
    refine wpAnyS_one (i := 1) (by decide +kernel) ?_
    simp [wpOpS, go_sem, hp]
    refine wpAnyS_one (i := 2) (by decide +kernel) ?_
    simp [wpOpS, go_sem]
    refine (settle_thrown _ _ _).mono ?_
    rintro e w' ⟨rfl, rfl⟩
    refine wpAnyS_one (i := 3) (by decide +kernel) ?_
    simp [wpOpS, go_sem]
    refine wpAnyS_two (i := 4) (j := 5) (by decide +kernel) ?_ ?_
    · simp [wpOpS, go_sem]
      refine wpAnyS_two (i := 5) (j := 6) (by decide +kernel) ?_ ?_
      · simp [wpOpS, go_sem]
        refine wpAnyS_one (i := 6) (by decide +kernel) ?_
        simp [wpOpS, go_sem, hp, hpz]
        refine wpAnyS_one (i := 7) (by decide +kernel) ?_
        simp [wpOpS, go_sem, hq, hqz]
        refine wpAnyS_done (by decide +kernel) ?_ _
        exact ⟨rfl, _, rfl, .tuple #[], results_none (by rfl) _ _ _, rfl, rfl, w.drew, (Ext.refl w).drew, rfl⟩
      · simp [wpOpS, go_sem, hp, hpz]
        refine wpAnyS_one (i := 5) (by decide +kernel) ?_
        simp [wpOpS, go_sem]
        refine wpAnyS_one (i := 7) (by decide +kernel) ?_
        simp [wpOpS, go_sem, hq, hqz]
        refine wpAnyS_done (by decide +kernel) ?_ _
        exact ⟨rfl, _, rfl, .tuple #[], results_none (by rfl) _ _ _, rfl, rfl, w.drew, (Ext.refl w).drew, rfl⟩
    · simp [wpOpS, go_sem]
      refine wpAnyS_one (i := 4) (by decide +kernel) ?_
      simp [wpOpS, go_sem]
      refine wpAnyS_one (i := 6) (by decide +kernel) ?_
      simp [wpOpS, go_sem, hp, hpz]
      refine wpAnyS_one (i := 7) (by decide +kernel) ?_
      simp [wpOpS, go_sem, hq, hqz]
      refine wpAnyS_done (by decide +kernel) ?_ _
      exact ⟨rfl, _, rfl, .tuple #[], results_none (by rfl) _ _ _, rfl, rfl, w.drew, (Ext.refl w).drew, rfl⟩
  · simp [wpOpS, go_sem, hp, Try.ntmps21]
    refine wpAnyS_one (i := 0) (by decide +kernel) ?_
    simp [wpOpS, go_sem, recoverD, hu]
    refine wpAnyS_one (i := 2) (by decide +kernel) ?_
    simp [wpOpS, go_sem]
    refine (settle_thrown _ _ _).mono ?_
    rintro e w' ⟨rfl, rfl⟩
    refine wpAnyS_one (i := 3) (by decide +kernel) ?_
    simp [wpOpS, go_sem]
    refine wpAnyS_two (i := 4) (j := 5) (by decide +kernel) ?_ ?_
    · simp [wpOpS, go_sem]
      refine wpAnyS_two (i := 5) (j := 6) (by decide +kernel) ?_ ?_
      · simp [wpOpS, go_sem]
        refine wpAnyS_one (i := 6) (by decide +kernel) ?_
        simp [wpOpS, go_sem, hp, hpz]
        refine wpAnyS_one (i := 7) (by decide +kernel) ?_
        simp [wpOpS, go_sem, hq, hqz]
        refine wpAnyS_done (by decide +kernel) ?_ _
        exact ⟨rfl, _, rfl, .tuple #[], results_none (by rfl) _ _ _, rfl, rfl, w.drew, (Ext.refl w).drew, rfl⟩
      · simp [wpOpS, go_sem, hp, hpz]
        refine wpAnyS_one (i := 5) (by decide +kernel) ?_
        simp [wpOpS, go_sem]
        refine wpAnyS_one (i := 7) (by decide +kernel) ?_
        simp [wpOpS, go_sem, hq, hqz]
        refine wpAnyS_done (by decide +kernel) ?_ _
        exact ⟨rfl, _, rfl, .tuple #[], results_none (by rfl) _ _ _, rfl, rfl, w.drew, (Ext.refl w).drew, rfl⟩
    · simp [wpOpS, go_sem]
      refine wpAnyS_one (i := 4) (by decide +kernel) ?_
      simp [wpOpS, go_sem]
      refine wpAnyS_one (i := 6) (by decide +kernel) ?_
      simp [wpOpS, go_sem, hp, hpz]
      refine wpAnyS_one (i := 7) (by decide +kernel) ?_
      simp [wpOpS, go_sem, hq, hqz]
      refine wpAnyS_done (by decide +kernel) ?_ _
      exact ⟨rfl, _, rfl, .tuple #[], results_none (by rfl) _ _ _, rfl, rfl, w.drew, (Ext.refl w).drew, rfl⟩

theorem times_idle (b : Nat) (v z : Int) (w : World) (hp : w.cell? ⟨b, 0, none⟩ = some (.int .i64 v)) (hq : w.cell? ⟨b + 1, 0, none⟩ = some (.int .i64 z)) (hpz : w.frozen? ⟨b, 0, none⟩ = false) (hqz : w.frozen? ⟨b + 1, 0, none⟩ = false) :
    CallsD Try.prog 16 #[.pointer (some ⟨b, 0, none⟩), .pointer (some ⟨b + 1, 0, none⟩)] .returning w fun e u' w' => e = .returned (.tuple #[]) ∧ u' = .returning ∧ ∃ w1, Ext w w1 ∧ w' = ((w1.setCell ⟨b, 0, none⟩ (.int .i64 v)).setCell ⟨b + 1, 0, none⟩ (.int .i64 0)) := by
  refine callsD_of_wpS Try.func16 rfl fun c₀ cs hu => ?_
  refine wpS_region_any 8 rfl (by kernel_rfl) ?_
  refine wpAnyS_two (i := 0) (j := 1) (by decide +kernel) ?_ ?_
  · simp [wpOpS, go_sem, recoverD, hu, Try.ntmps16]
    refine wpAnyS_one (i := 1) (by decide +kernel) ?_
    simp [wpOpS, go_sem, hp]
    refine wpAnyS_one (i := 2) (by decide +kernel) ?_
    simp [wpOpS, go_sem]
    refine (settle_nil _ _).mono ?_
    rintro e w' ⟨rfl, rfl⟩
    refine wpAnyS_one (i := 3) (by decide +kernel) ?_
    simp [wpOpS, go_sem]
    refine wpAnyS_two (i := 4) (j := 5) (by decide +kernel) ?_ ?_
    · simp [wpOpS, go_sem]
      refine wpAnyS_two (i := 5) (j := 6) (by decide +kernel) ?_ ?_
      · simp [wpOpS, go_sem]
        refine wpAnyS_one (i := 6) (by decide +kernel) ?_
        simp [wpOpS, go_sem, hp, hpz]
        refine wpAnyS_one (i := 7) (by decide +kernel) ?_
        simp [wpOpS, go_sem, hq, hqz]
        refine wpAnyS_done (by decide +kernel) ?_ _
        exact ⟨rfl, .returning, by rw [← hu], .tuple #[], results_none (by rfl) _ _ _, rfl, rfl, w.drew, (Ext.refl w).drew, rfl⟩
      · simp [wpOpS, go_sem, hp, hpz]
        refine wpAnyS_one (i := 5) (by decide +kernel) ?_
        simp [wpOpS, go_sem]
        refine wpAnyS_one (i := 7) (by decide +kernel) ?_
        simp [wpOpS, go_sem, hq, hqz]
        refine wpAnyS_done (by decide +kernel) ?_ _
        exact ⟨rfl, .returning, by rw [← hu], .tuple #[], results_none (by rfl) _ _ _, rfl, rfl, w.drew, (Ext.refl w).drew, rfl⟩
    · simp [wpOpS, go_sem]
      refine wpAnyS_one (i := 4) (by decide +kernel) ?_
      simp [wpOpS, go_sem]
      refine wpAnyS_one (i := 6) (by decide +kernel) ?_
      simp [wpOpS, go_sem, hp, hpz]
      refine wpAnyS_one (i := 7) (by decide +kernel) ?_
      simp [wpOpS, go_sem, hq, hqz]
      refine wpAnyS_done (by decide +kernel) ?_ _
      exact ⟨rfl, .returning, by rw [← hu], .tuple #[], results_none (by rfl) _ _ _, rfl, rfl, w.drew, (Ext.refl w).drew, rfl⟩
  · simp [wpOpS, go_sem, hp, Try.ntmps16]
    refine wpAnyS_one (i := 0) (by decide +kernel) ?_
    simp [wpOpS, go_sem, recoverD, hu]
    refine wpAnyS_one (i := 2) (by decide +kernel) ?_
    simp [wpOpS, go_sem]
    refine (settle_nil _ _).mono ?_
    rintro e w' ⟨rfl, rfl⟩
    refine wpAnyS_one (i := 3) (by decide +kernel) ?_
    simp [wpOpS, go_sem]
    refine wpAnyS_two (i := 4) (j := 5) (by decide +kernel) ?_ ?_
    · simp [wpOpS, go_sem]
      refine wpAnyS_two (i := 5) (j := 6) (by decide +kernel) ?_ ?_
      · simp [wpOpS, go_sem]
        refine wpAnyS_one (i := 6) (by decide +kernel) ?_
        simp [wpOpS, go_sem, hp, hpz]
        refine wpAnyS_one (i := 7) (by decide +kernel) ?_
        simp [wpOpS, go_sem, hq, hqz]
        refine wpAnyS_done (by decide +kernel) ?_ _
        exact ⟨rfl, .returning, by rw [← hu], .tuple #[], results_none (by rfl) _ _ _, rfl, rfl, w.drew, (Ext.refl w).drew, rfl⟩
      · simp [wpOpS, go_sem, hp, hpz]
        refine wpAnyS_one (i := 5) (by decide +kernel) ?_
        simp [wpOpS, go_sem]
        refine wpAnyS_one (i := 7) (by decide +kernel) ?_
        simp [wpOpS, go_sem, hq, hqz]
        refine wpAnyS_done (by decide +kernel) ?_ _
        exact ⟨rfl, .returning, by rw [← hu], .tuple #[], results_none (by rfl) _ _ _, rfl, rfl, w.drew, (Ext.refl w).drew, rfl⟩
    · simp [wpOpS, go_sem]
      refine wpAnyS_one (i := 4) (by decide +kernel) ?_
      simp [wpOpS, go_sem]
      refine wpAnyS_one (i := 6) (by decide +kernel) ?_
      simp [wpOpS, go_sem, hp, hpz]
      refine wpAnyS_one (i := 7) (by decide +kernel) ?_
      simp [wpOpS, go_sem, hq, hqz]
      refine wpAnyS_done (by decide +kernel) ?_ _
      exact ⟨rfl, .returning, by rw [← hu], .tuple #[], results_none (by rfl) _ _ _, rfl, rfl, w.drew, (Ext.refl w).drew, rfl⟩

theorem times_catch (b : Nat) (c v z : Int) (older : List PanicEntry) (w : World) (hp : w.cell? ⟨b, 0, none⟩ = some (.int .i64 v)) (hq : w.cell? ⟨b + 1, 0, none⟩ = some (.int .i64 z)) (hpz : w.frozen? ⟨b, 0, none⟩ = false) (hqz : w.frozen? ⟨b + 1, 0, none⟩ = false) :
    CallsD Try.prog 16 #[.pointer (some ⟨b, 0, none⟩), .pointer (some ⟨b + 1, 0, none⟩)] (.panicking ({ v := .iface 26 (.int .i64 c), recovered := false } :: older)) w fun e u' w' => e = .returned (.tuple #[]) ∧ u' = .panicking ({ v := .iface 26 (.int .i64 c), recovered := true } :: older) ∧ ∃ w1, Ext w w1 ∧ w' = ((w1.setCell ⟨b, 0, none⟩ (.int .i64 0)).setCell ⟨b + 1, 0, none⟩ (.int .i64 c)) := by
  refine callsD_of_wpS Try.func16 rfl fun c₀ cs hu => ?_
  refine wpS_region_any 8 rfl (by kernel_rfl) ?_
  refine wpAnyS_two (i := 0) (j := 1) (by decide +kernel) ?_ ?_
  · simp [wpOpS, go_sem, recoverD, hu, Try.ntmps16]
    refine wpAnyS_one (i := 1) (by decide +kernel) ?_
    simp [wpOpS, go_sem, hp]
    refine wpAnyS_one (i := 2) (by decide +kernel) ?_
    simp [wpOpS, go_sem]
    refine (settle_thrown _ _ _).mono ?_
    rintro e w' ⟨rfl, rfl⟩
    refine wpAnyS_one (i := 3) (by decide +kernel) ?_
    simp [wpOpS, go_sem]
    refine wpAnyS_two (i := 4) (j := 5) (by decide +kernel) ?_ ?_
    · simp [wpOpS, go_sem]
      refine wpAnyS_two (i := 5) (j := 6) (by decide +kernel) ?_ ?_
      · simp [wpOpS, go_sem]
        refine wpAnyS_one (i := 6) (by decide +kernel) ?_
        simp [wpOpS, go_sem, hp, hpz]
        refine wpAnyS_one (i := 7) (by decide +kernel) ?_
        simp [wpOpS, go_sem, hq, hqz]
        refine wpAnyS_done (by decide +kernel) ?_ _
        exact ⟨rfl, _, rfl, .tuple #[], results_none (by rfl) _ _ _, rfl, rfl, w.drew, (Ext.refl w).drew, rfl⟩
      · simp [wpOpS, go_sem, hp, hpz]
        refine wpAnyS_one (i := 5) (by decide +kernel) ?_
        simp [wpOpS, go_sem]
        refine wpAnyS_one (i := 7) (by decide +kernel) ?_
        simp [wpOpS, go_sem, hq, hqz]
        refine wpAnyS_done (by decide +kernel) ?_ _
        exact ⟨rfl, _, rfl, .tuple #[], results_none (by rfl) _ _ _, rfl, rfl, w.drew, (Ext.refl w).drew, rfl⟩
    · simp [wpOpS, go_sem]
      refine wpAnyS_one (i := 4) (by decide +kernel) ?_
      simp [wpOpS, go_sem]
      refine wpAnyS_one (i := 6) (by decide +kernel) ?_
      simp [wpOpS, go_sem, hp, hpz]
      refine wpAnyS_one (i := 7) (by decide +kernel) ?_
      simp [wpOpS, go_sem, hq, hqz]
      refine wpAnyS_done (by decide +kernel) ?_ _
      exact ⟨rfl, _, rfl, .tuple #[], results_none (by rfl) _ _ _, rfl, rfl, w.drew, (Ext.refl w).drew, rfl⟩
  · simp [wpOpS, go_sem, hp, Try.ntmps16]
    refine wpAnyS_one (i := 0) (by decide +kernel) ?_
    simp [wpOpS, go_sem, recoverD, hu]
    refine wpAnyS_one (i := 2) (by decide +kernel) ?_
    simp [wpOpS, go_sem]
    refine (settle_thrown _ _ _).mono ?_
    rintro e w' ⟨rfl, rfl⟩
    refine wpAnyS_one (i := 3) (by decide +kernel) ?_
    simp [wpOpS, go_sem]
    refine wpAnyS_two (i := 4) (j := 5) (by decide +kernel) ?_ ?_
    · simp [wpOpS, go_sem]
      refine wpAnyS_two (i := 5) (j := 6) (by decide +kernel) ?_ ?_
      · simp [wpOpS, go_sem]
        refine wpAnyS_one (i := 6) (by decide +kernel) ?_
        simp [wpOpS, go_sem, hp, hpz]
        refine wpAnyS_one (i := 7) (by decide +kernel) ?_
        simp [wpOpS, go_sem, hq, hqz]
        refine wpAnyS_done (by decide +kernel) ?_ _
        exact ⟨rfl, _, rfl, .tuple #[], results_none (by rfl) _ _ _, rfl, rfl, w.drew, (Ext.refl w).drew, rfl⟩
      · simp [wpOpS, go_sem, hp, hpz]
        refine wpAnyS_one (i := 5) (by decide +kernel) ?_
        simp [wpOpS, go_sem]
        refine wpAnyS_one (i := 7) (by decide +kernel) ?_
        simp [wpOpS, go_sem, hq, hqz]
        refine wpAnyS_done (by decide +kernel) ?_ _
        exact ⟨rfl, _, rfl, .tuple #[], results_none (by rfl) _ _ _, rfl, rfl, w.drew, (Ext.refl w).drew, rfl⟩
    · simp [wpOpS, go_sem]
      refine wpAnyS_one (i := 4) (by decide +kernel) ?_
      simp [wpOpS, go_sem]
      refine wpAnyS_one (i := 6) (by decide +kernel) ?_
      simp [wpOpS, go_sem, hp, hpz]
      refine wpAnyS_one (i := 7) (by decide +kernel) ?_
      simp [wpOpS, go_sem, hq, hqz]
      refine wpAnyS_done (by decide +kernel) ?_ _
      exact ⟨rfl, _, rfl, .tuple #[], results_none (by rfl) _ _ _, rfl, rfl, w.drew, (Ext.refl w).drew, rfl⟩

theorem of_idle (b : Nat) (v z : Int) (w : World) (hp : w.cell? ⟨b, 0, none⟩ = some (.int .i64 v)) (hq : w.cell? ⟨b + 1, 0, none⟩ = some (.int .i64 z)) (hpz : w.frozen? ⟨b, 0, none⟩ = false) (hqz : w.frozen? ⟨b + 1, 0, none⟩ = false) :
    CallsD Try.prog 10 #[.pointer (some ⟨b, 0, none⟩), .pointer (some ⟨b + 1, 0, none⟩)] .returning w fun e u' w' => e = .returned (.tuple #[]) ∧ u' = .returning ∧ ∃ w1, Ext w w1 ∧ w' = ((w1.setCell ⟨b, 0, none⟩ (.int .i64 v)).setCell ⟨b + 1, 0, none⟩ (.int .i64 0)) := by
  have hb0 := lt_of_cell hp
  have hb1 := lt_of_cell hq
  refine callsD_of_wpS Try.func10 rfl fun c₀ cs hu => ?_
  refine wpS_region_any 8 rfl (by kernel_rfl) ?_
  refine wpAnyS_two (i := 0) (j := 1) (by decide +kernel) ?_ ?_
  · simp [wpOpS, go_sem, recoverD, hu, Try.ntmps10]
    refine wpAnyS_one (i := 1) (by decide +kernel) ?_
    simp [wpOpS, go_sem, hp]
    refine wpAnyS_one (i := 2) (by decide +kernel) ?_
    simp [wpOpS, go_sem]
    refine (rsettle_nil v _).mono ?_
    rintro e w1 ⟨rfl, hx⟩
    have gp : w1.cell? ⟨b, 0, none⟩ = some (.int .i64 v) := by rw [hx.cell b 0 (by simpa using hb0)]; simpa using hp
    have gq : w1.cell? ⟨b + 1, 0, none⟩ = some (.int .i64 z) := by rw [hx.cell (b + 1) 0 (by simpa using hb1)]; simpa using hq
    have gpz : w1.frozen? ⟨b, 0, none⟩ = false := by rw [hx.froz]; simpa using hpz
    have gqz : w1.frozen? ⟨b + 1, 0, none⟩ = false := by rw [hx.froz]; simpa using hqz
    refine wpAnyS_one (i := 3) (by decide +kernel) ?_
    simp [wpOpS, go_sem]
    refine wpAnyS_two (i := 4) (j := 5) (by decide +kernel) ?_ ?_
    · simp [wpOpS, go_sem]
      refine wpAnyS_two (i := 5) (j := 6) (by decide +kernel) ?_ ?_
      · simp [wpOpS, go_sem]
        refine wpAnyS_one (i := 6) (by decide +kernel) ?_
        simp [wpOpS, go_sem, gp, gpz]
        refine wpAnyS_one (i := 7) (by decide +kernel) ?_
        simp [wpOpS, go_sem, gq, gqz]
        refine wpAnyS_done (by decide +kernel) ?_ _
        exact ⟨rfl, .returning, by rw [← hu], .tuple #[], results_none (by rfl) _ _ _, rfl, rfl, w1, (Ext.refl w).drew.trans hx, rfl⟩
      · simp [wpOpS, go_sem, gp, gpz]
        refine wpAnyS_one (i := 5) (by decide +kernel) ?_
        simp [wpOpS, go_sem]
        refine wpAnyS_one (i := 7) (by decide +kernel) ?_
        simp [wpOpS, go_sem, gq, gqz]
        refine wpAnyS_done (by decide +kernel) ?_ _
        exact ⟨rfl, .returning, by rw [← hu], .tuple #[], results_none (by rfl) _ _ _, rfl, rfl, w1, (Ext.refl w).drew.trans hx, rfl⟩
    · simp [wpOpS, go_sem]
      refine wpAnyS_one (i := 4) (by decide +kernel) ?_
      simp [wpOpS, go_sem]
      refine wpAnyS_one (i := 6) (by decide +kernel) ?_
      simp [wpOpS, go_sem, gp, gpz]
      refine wpAnyS_one (i := 7) (by decide +kernel) ?_
      simp [wpOpS, go_sem, gq, gqz]
      refine wpAnyS_done (by decide +kernel) ?_ _
      exact ⟨rfl, .returning, by rw [← hu], .tuple #[], results_none (by rfl) _ _ _, rfl, rfl, w1, (Ext.refl w).drew.trans hx, rfl⟩
  · simp [wpOpS, go_sem, hp, Try.ntmps10]
    refine wpAnyS_one (i := 0) (by decide +kernel) ?_
    simp [wpOpS, go_sem, recoverD, hu]
    refine wpAnyS_one (i := 2) (by decide +kernel) ?_
    simp [wpOpS, go_sem]
    refine (rsettle_nil v _).mono ?_
    rintro e w1 ⟨rfl, hx⟩
    have gp : w1.cell? ⟨b, 0, none⟩ = some (.int .i64 v) := by rw [hx.cell b 0 (by simpa using hb0)]; simpa using hp
    have gq : w1.cell? ⟨b + 1, 0, none⟩ = some (.int .i64 z) := by rw [hx.cell (b + 1) 0 (by simpa using hb1)]; simpa using hq
    have gpz : w1.frozen? ⟨b, 0, none⟩ = false := by rw [hx.froz]; simpa using hpz
    have gqz : w1.frozen? ⟨b + 1, 0, none⟩ = false := by rw [hx.froz]; simpa using hqz
    refine wpAnyS_one (i := 3) (by decide +kernel) ?_
    simp [wpOpS, go_sem]
    refine wpAnyS_two (i := 4) (j := 5) (by decide +kernel) ?_ ?_
    · simp [wpOpS, go_sem]
      refine wpAnyS_two (i := 5) (j := 6) (by decide +kernel) ?_ ?_
      · simp [wpOpS, go_sem]
        refine wpAnyS_one (i := 6) (by decide +kernel) ?_
        simp [wpOpS, go_sem, gp, gpz]
        refine wpAnyS_one (i := 7) (by decide +kernel) ?_
        simp [wpOpS, go_sem, gq, gqz]
        refine wpAnyS_done (by decide +kernel) ?_ _
        exact ⟨rfl, .returning, by rw [← hu], .tuple #[], results_none (by rfl) _ _ _, rfl, rfl, w1, (Ext.refl w).drew.trans hx, rfl⟩
      · simp [wpOpS, go_sem, gp, gpz]
        refine wpAnyS_one (i := 5) (by decide +kernel) ?_
        simp [wpOpS, go_sem]
        refine wpAnyS_one (i := 7) (by decide +kernel) ?_
        simp [wpOpS, go_sem, gq, gqz]
        refine wpAnyS_done (by decide +kernel) ?_ _
        exact ⟨rfl, .returning, by rw [← hu], .tuple #[], results_none (by rfl) _ _ _, rfl, rfl, w1, (Ext.refl w).drew.trans hx, rfl⟩
    · simp [wpOpS, go_sem]
      refine wpAnyS_one (i := 4) (by decide +kernel) ?_
      simp [wpOpS, go_sem]
      refine wpAnyS_one (i := 6) (by decide +kernel) ?_
      simp [wpOpS, go_sem, gp, gpz]
      refine wpAnyS_one (i := 7) (by decide +kernel) ?_
      simp [wpOpS, go_sem, gq, gqz]
      refine wpAnyS_done (by decide +kernel) ?_ _
      exact ⟨rfl, .returning, by rw [← hu], .tuple #[], results_none (by rfl) _ _ _, rfl, rfl, w1, (Ext.refl w).drew.trans hx, rfl⟩

theorem of_catch (b : Nat) (c v z : Int) (older : List PanicEntry) (w : World) (hp : w.cell? ⟨b, 0, none⟩ = some (.int .i64 v)) (hq : w.cell? ⟨b + 1, 0, none⟩ = some (.int .i64 z)) (hpz : w.frozen? ⟨b, 0, none⟩ = false) (hqz : w.frozen? ⟨b + 1, 0, none⟩ = false) :
    CallsD Try.prog 10 #[.pointer (some ⟨b, 0, none⟩), .pointer (some ⟨b + 1, 0, none⟩)] (.panicking ({ v := .iface 26 (.int .i64 c), recovered := false } :: older)) w fun e u' w' => e = .returned (.tuple #[]) ∧ u' = .panicking ({ v := .iface 26 (.int .i64 c), recovered := true } :: older) ∧ ∃ w1, Ext w w1 ∧ w' = ((w1.setCell ⟨b, 0, none⟩ (.int .i64 0)).setCell ⟨b + 1, 0, none⟩ (.int .i64 c)) := by
  have hb0 := lt_of_cell hp
  have hb1 := lt_of_cell hq
  refine callsD_of_wpS Try.func10 rfl fun c₀ cs hu => ?_
  refine wpS_region_any 8 rfl (by kernel_rfl) ?_
  refine wpAnyS_two (i := 0) (j := 1) (by decide +kernel) ?_ ?_
  · simp [wpOpS, go_sem, recoverD, hu, Try.ntmps10]
    refine wpAnyS_one (i := 1) (by decide +kernel) ?_
    simp [wpOpS, go_sem, hp]
    refine wpAnyS_one (i := 2) (by decide +kernel) ?_
    simp [wpOpS, go_sem]
    refine (rsettle_thrown c v _).mono ?_
    rintro e w1 ⟨rfl, hx⟩
    have gp : w1.cell? ⟨b, 0, none⟩ = some (.int .i64 v) := by rw [hx.cell b 0 (by simpa using hb0)]; simpa using hp
    have gq : w1.cell? ⟨b + 1, 0, none⟩ = some (.int .i64 z) := by rw [hx.cell (b + 1) 0 (by simpa using hb1)]; simpa using hq
    have gpz : w1.frozen? ⟨b, 0, none⟩ = false := by rw [hx.froz]; simpa using hpz
    have gqz : w1.frozen? ⟨b + 1, 0, none⟩ = false := by rw [hx.froz]; simpa using hqz
    refine wpAnyS_one (i := 3) (by decide +kernel) ?_
    simp [wpOpS, go_sem]
    refine wpAnyS_two (i := 4) (j := 5) (by decide +kernel) ?_ ?_
    · simp [wpOpS, go_sem]
      refine wpAnyS_two (i := 5) (j := 6) (by decide +kernel) ?_ ?_
      · simp [wpOpS, go_sem]
        refine wpAnyS_one (i := 6) (by decide +kernel) ?_
        simp [wpOpS, go_sem, gp, gpz]
        refine wpAnyS_one (i := 7) (by decide +kernel) ?_
        simp [wpOpS, go_sem, gq, gqz]
        refine wpAnyS_done (by decide +kernel) ?_ _
        exact ⟨rfl, _, rfl, .tuple #[], results_none (by rfl) _ _ _, rfl, rfl, w1, (Ext.refl w).drew.trans hx, rfl⟩
      · simp [wpOpS, go_sem, gp, gpz]
        refine wpAnyS_one (i := 5) (by decide +kernel) ?_
        simp [wpOpS, go_sem]
        refine wpAnyS_one (i := 7) (by decide +kernel) ?_
        simp [wpOpS, go_sem, gq, gqz]
        refine wpAnyS_done (by decide +kernel) ?_ _
        exact ⟨rfl, _, rfl, .tuple #[], results_none (by rfl) _ _ _, rfl, rfl, w1, (Ext.refl w).drew.trans hx, rfl⟩
    · simp [wpOpS, go_sem]
      refine wpAnyS_one (i := 4) (by decide +kernel) ?_
      simp [wpOpS, go_sem]
      refine wpAnyS_one (i := 6) (by decide +kernel) ?_
      simp [wpOpS, go_sem, gp, gpz]
      refine wpAnyS_one (i := 7) (by decide +kernel) ?_
      simp [wpOpS, go_sem, gq, gqz]
      refine wpAnyS_done (by decide +kernel) ?_ _
      exact ⟨rfl, _, rfl, .tuple #[], results_none (by rfl) _ _ _, rfl, rfl, w1, (Ext.refl w).drew.trans hx, rfl⟩
  · simp [wpOpS, go_sem, hp, Try.ntmps10]
    refine wpAnyS_one (i := 0) (by decide +kernel) ?_
    simp [wpOpS, go_sem, recoverD, hu]
    refine wpAnyS_one (i := 2) (by decide +kernel) ?_
    simp [wpOpS, go_sem]
    refine (rsettle_thrown c v _).mono ?_
    rintro e w1 ⟨rfl, hx⟩
    have gp : w1.cell? ⟨b, 0, none⟩ = some (.int .i64 v) := by rw [hx.cell b 0 (by simpa using hb0)]; simpa using hp
    have gq : w1.cell? ⟨b + 1, 0, none⟩ = some (.int .i64 z) := by rw [hx.cell (b + 1) 0 (by simpa using hb1)]; simpa using hq
    have gpz : w1.frozen? ⟨b, 0, none⟩ = false := by rw [hx.froz]; simpa using hpz
    have gqz : w1.frozen? ⟨b + 1, 0, none⟩ = false := by rw [hx.froz]; simpa using hqz
    refine wpAnyS_one (i := 3) (by decide +kernel) ?_
    simp [wpOpS, go_sem]
    refine wpAnyS_two (i := 4) (j := 5) (by decide +kernel) ?_ ?_
    · simp [wpOpS, go_sem]
      refine wpAnyS_two (i := 5) (j := 6) (by decide +kernel) ?_ ?_
      · simp [wpOpS, go_sem]
        refine wpAnyS_one (i := 6) (by decide +kernel) ?_
        simp [wpOpS, go_sem, gp, gpz]
        refine wpAnyS_one (i := 7) (by decide +kernel) ?_
        simp [wpOpS, go_sem, gq, gqz]
        refine wpAnyS_done (by decide +kernel) ?_ _
        exact ⟨rfl, _, rfl, .tuple #[], results_none (by rfl) _ _ _, rfl, rfl, w1, (Ext.refl w).drew.trans hx, rfl⟩
      · simp [wpOpS, go_sem, gp, gpz]
        refine wpAnyS_one (i := 5) (by decide +kernel) ?_
        simp [wpOpS, go_sem]
        refine wpAnyS_one (i := 7) (by decide +kernel) ?_
        simp [wpOpS, go_sem, gq, gqz]
        refine wpAnyS_done (by decide +kernel) ?_ _
        exact ⟨rfl, _, rfl, .tuple #[], results_none (by rfl) _ _ _, rfl, rfl, w1, (Ext.refl w).drew.trans hx, rfl⟩
    · simp [wpOpS, go_sem]
      refine wpAnyS_one (i := 4) (by decide +kernel) ?_
      simp [wpOpS, go_sem]
      refine wpAnyS_one (i := 6) (by decide +kernel) ?_
      simp [wpOpS, go_sem, gp, gpz]
      refine wpAnyS_one (i := 7) (by decide +kernel) ?_
      simp [wpOpS, go_sem, gq, gqz]
      refine wpAnyS_done (by decide +kernel) ?_ _
      exact ⟨rfl, _, rfl, .tuple #[], results_none (by rfl) _ _ _, rfl, rfl, w1, (Ext.refl w).drew.trans hx, rfl⟩

end Go.Proofs.Ytpmgbagnaaahoab
