/- What SettleAt of package throw and the deferred closure of All do, in every order: as contracts; no statement of the seat is proved here. -/
import Derived.Test.YtocdkgmmnkmlpaaDoorLex3
namespace Go.Proofs.YtocdkgmmnkmlpaaDoor
open Go.RowKit Go.Lib
set_option linter.unusedVariables false

theorem wpAnyS_three {P : Program} {ops : Array Oper} {Q : Exit → Act → List Frame → World → Prop} {md : Region.Mode} {a : Act} {cs : List Frame} {w : World} {i j k : Nat} {fuel : Nat} {listed : Array Bool} (hr : Region.ready md ops listed = [i, j, k])
    (h1 : wpOpS P ops Q i (wpAnyS P md ops Q fuel (listed.setIfInBounds i true)) a cs w)
    (h2 : wpOpS P ops Q j (wpAnyS P md ops Q fuel (listed.setIfInBounds j true)) a cs w)
    (h3 : wpOpS P ops Q k (wpAnyS P md ops Q fuel (listed.setIfInBounds k true)) a cs w) : wpAnyS P md ops Q (fuel + 1) listed a cs w :=
  wpAnyS_all hr (by simp) (by simpa using ⟨h1, h2, h3⟩)
/-- A slice, whichever. -/
def Slc1 (v : Value) : Prop := ∃ ao n c, v = .slice ao n c
theorem need_ok (c : Int) (w : World) :
    Calls Tryd.prog 14 #[.bool true, .int .i64 c] w fun e w' => e = .returned (.tuple #[]) ∧ w' = w := by
  go_enter Tryd.func14, Tryd.ntmps14
  go_wp2
  go_end0
  exact ⟨rfl, rfl⟩
theorem need_no (c : Int) (w : World) :
    Calls Tryd.prog 14 #[.bool false, .int .i64 c] w fun e w' => e = .panicked [{ v := .iface 24 (.int .i64 c), recovered := false }] ∧ w' = w := by
  go_enter Tryd.func14, Tryd.ntmps14
  go_wp2
  exact ⟨rfl, rfl, rfl⟩
theorem assert_errno (W : World) (x : Value) : (Instr.typeAssert (.iface 24 x) 20 24 true).run Tryd.prog W = .ok (.tuple #[x, .bool true]) W := by kernel_rfl
theorem assert_other (W : World) (x : Value) : (Instr.typeAssert (.iface 42 x) 20 24 true).run Tryd.prog W = .ok (.tuple #[.int .i64 0, .bool false]) W := by kernel_rfl
theorem assert_placed (W : World) (x : Value) : (Instr.typeAssert (.iface 42 x) 20 42 true).run Tryd.prog W = .ok (.tuple #[x, .bool true]) W := by kernel_rfl
theorem settleAt_nil (v : Value) (w : World) :
    Calls Tryd.prog 13 #[.nilIface, v] w fun e w' => e = .returned (.tuple #[v, .int .i64 0, .int .i64 0]) ∧ Ext w w' := by
  go_enter Tryd.func13, Tryd.ntmps13
  go_wp2
  exact bodyPost_ret (v := .tuple #[v, .int .i64 0, .int .i64 0]) (by simp [results, Tryd.results13, go_sem]) rfl ⟨rfl, Ext.refl _⟩
theorem settleAt_errno (c : Int) (v : Value) (w : World) :
    Calls Tryd.prog 13 #[.iface 24 (.int .i64 c), v] w fun e w' => e = .returned (.tuple #[.slice none 0 0, .int .i64 0, .int .i64 c]) ∧ Ext w w' := by
  have hta := assert_errno
  go_enter Tryd.func13, Tryd.ntmps13
  go_wp2
  exact bodyPost_ret (v := .tuple #[.slice none 0 0, .int .i64 0, .int .i64 c]) (by simp [results, Tryd.results13, go_sem]) rfl ⟨rfl, Ext.refl _⟩
theorem settleAt_placed (c k : Int) (v : Value) (w : World) :
    Calls Tryd.prog 13 #[.iface 42 (.agg #[.int .i64 c, .int .i64 k]), v] w fun e w' => e = .returned (.tuple #[.slice none 0 0, .int .i64 k, .int .i64 c]) ∧ Ext w w' := by
  have hta := assert_placed
  have htb := assert_other
  go_enter Tryd.func13, Tryd.ntmps13
  go_wp2
  go_quiet (fail)
  go_wp2
  exact bodyPost_ret (v := .tuple #[.slice none 0 0, .int .i64 k, .int .i64 c]) (by simp [results, Tryd.results13, go_sem]) rfl ⟨rfl, by first | exact ((Ext.refl w).alloc _ _).drewN _ | exact ((Ext.refl w).alloc _ _).drew⟩
set_option maxHeartbeats 2000000 in
theorem all_idle (b : Nat) (V : Value) (y z : Int) (w : World) (hp : w.cell? ⟨b, 0, none⟩ = some V) (h1 : Slc1 V) (hq : w.cell? ⟨b + 1, 0, none⟩ = some (.int .i64 y)) (hr : w.cell? ⟨b + 2, 0, none⟩ = some (.int .i64 z)) (hpz : w.frozen? ⟨b, 0, none⟩ = false) (hqz : w.frozen? ⟨b + 1, 0, none⟩ = false) (hrz : w.frozen? ⟨b + 2, 0, none⟩ = false) :
    CallsD Tryd.prog 12 #[.pointer (some ⟨b, 0, none⟩), .pointer (some ⟨b + 1, 0, none⟩), .pointer (some ⟨b + 2, 0, none⟩)] .returning w fun e u' w' => e = .returned (.tuple #[]) ∧ u' = .returning ∧ ∃ w1, Ext w w1 ∧ w' = (((w1.setCell ⟨b, 0, none⟩ V).setCell ⟨b + 1, 0, none⟩ (.int .i64 0)).setCell ⟨b + 2, 0, none⟩ (.int .i64 0)) := by
  obtain ⟨ao, n, m, rfl⟩ := h1
  have hb0 := lt_of_cell hp
  have hb1 := lt_of_cell hq
  have hb2 := lt_of_cell hr
  refine callsD_of_wpS Tryd.func12 rfl fun c₀ cs hu => ?_
  refine wpS_region_any 10 rfl (by kernel_rfl) ?_
  refine wpAnyS_two (i := 0) (j := 1) (by decide +kernel) ?_ ?_
  · simp [wpOpS, go_sem, recoverD, hu, Tryd.ntmps12]
    refine wpAnyS_one (i := 1) (by decide +kernel) ?_
    simp [wpOpS, go_sem, hp]
    refine wpAnyS_one (i := 2) (by decide +kernel) ?_
    simp [wpOpS, go_sem]
    refine (settleAt_nil _ _).mono ?_
    rintro e w1 ⟨rfl, hx⟩
    have gp : w1.cell? ⟨b, 0, none⟩ = some (.slice ao n m) := by rw [hx.cell b 0 (by simpa using hb0)]; simpa using hp
    have gq : w1.cell? ⟨b + 1, 0, none⟩ = some (.int .i64 y) := by rw [hx.cell (b + 1) 0 (by simpa using hb1)]; simpa using hq
    have gr : w1.cell? ⟨b + 2, 0, none⟩ = some (.int .i64 z) := by rw [hx.cell (b + 2) 0 (by simpa using hb2)]; simpa using hr
    have gpz : w1.frozen? ⟨b, 0, none⟩ = false := by rw [hx.froz b 0 (by simpa using hb0)]; simpa using hpz
    have gqz : w1.frozen? ⟨b + 1, 0, none⟩ = false := by rw [hx.froz (b + 1) 0 (by simpa using hb1)]; simpa using hqz
    have grz : w1.frozen? ⟨b + 2, 0, none⟩ = false := by rw [hx.froz (b + 2) 0 (by simpa using hb2)]; simpa using hrz
    refine wpAnyS_one (i := 3) (by decide +kernel) ?_
    simp [wpOpS, go_sem]
    refine wpAnyS_three (i := 4) (j := 5) (k := 6) (by decide +kernel) ?_ ?_ ?_
    · simp [wpOpS, go_sem]
      refine wpAnyS_three (i := 5) (j := 6) (k := 7) (by decide +kernel) ?_ ?_ ?_
      · simp [wpOpS, go_sem]
        refine wpAnyS_two (i := 6) (j := 7) (by decide +kernel) ?_ ?_
        · simp [wpOpS, go_sem]
          refine wpAnyS_one (i := 7) (by decide +kernel) ?_
          simp [wpOpS, go_sem, gp, gpz]
          refine wpAnyS_one (i := 8) (by decide +kernel) ?_
          simp [wpOpS, go_sem, gq, gqz]
          refine wpAnyS_one (i := 9) (by decide +kernel) ?_
          simp [wpOpS, go_sem, gr, grz]
          refine wpAnyS_done (by decide +kernel) ?_ _
          exact ⟨rfl, .returning, by rw [← hu], .tuple #[], results_none (by rfl) _ _ _, rfl, rfl, w1, (Ext.refl w).drew.trans hx, rfl⟩
        · simp [wpOpS, go_sem, gp, gpz]
          refine wpAnyS_two (i := 6) (j := 8) (by decide +kernel) ?_ ?_
          · simp [wpOpS, go_sem]
            refine wpAnyS_one (i := 8) (by decide +kernel) ?_
            simp [wpOpS, go_sem, gq, gqz]
            refine wpAnyS_one (i := 9) (by decide +kernel) ?_
            simp [wpOpS, go_sem, gr, grz]
            refine wpAnyS_done (by decide +kernel) ?_ _
            exact ⟨rfl, .returning, by rw [← hu], .tuple #[], results_none (by rfl) _ _ _, rfl, rfl, w1, (Ext.refl w).drew.trans hx, rfl⟩
          · simp [wpOpS, go_sem, gq, gqz]
            refine wpAnyS_one (i := 6) (by decide +kernel) ?_
            simp [wpOpS, go_sem]
            refine wpAnyS_one (i := 9) (by decide +kernel) ?_
            simp [wpOpS, go_sem, gr, grz]
            refine wpAnyS_done (by decide +kernel) ?_ _
            exact ⟨rfl, .returning, by rw [← hu], .tuple #[], results_none (by rfl) _ _ _, rfl, rfl, w1, (Ext.refl w).drew.trans hx, rfl⟩
      · simp [wpOpS, go_sem]
        refine wpAnyS_two (i := 5) (j := 7) (by decide +kernel) ?_ ?_
        · simp [wpOpS, go_sem]
          refine wpAnyS_one (i := 7) (by decide +kernel) ?_
          simp [wpOpS, go_sem, gp, gpz]
          refine wpAnyS_one (i := 8) (by decide +kernel) ?_
          simp [wpOpS, go_sem, gq, gqz]
          refine wpAnyS_one (i := 9) (by decide +kernel) ?_
          simp [wpOpS, go_sem, gr, grz]
          refine wpAnyS_done (by decide +kernel) ?_ _
          exact ⟨rfl, .returning, by rw [← hu], .tuple #[], results_none (by rfl) _ _ _, rfl, rfl, w1, (Ext.refl w).drew.trans hx, rfl⟩
        · simp [wpOpS, go_sem, gp, gpz]
          refine wpAnyS_one (i := 5) (by decide +kernel) ?_
          simp [wpOpS, go_sem]
          refine wpAnyS_one (i := 8) (by decide +kernel) ?_
          simp [wpOpS, go_sem, gq, gqz]
          refine wpAnyS_one (i := 9) (by decide +kernel) ?_
          simp [wpOpS, go_sem, gr, grz]
          refine wpAnyS_done (by decide +kernel) ?_ _
          exact ⟨rfl, .returning, by rw [← hu], .tuple #[], results_none (by rfl) _ _ _, rfl, rfl, w1, (Ext.refl w).drew.trans hx, rfl⟩
      · simp [wpOpS, go_sem, gp, gpz]
        refine wpAnyS_two (i := 5) (j := 6) (by decide +kernel) ?_ ?_
        · simp [wpOpS, go_sem]
          refine wpAnyS_two (i := 6) (j := 8) (by decide +kernel) ?_ ?_
          · simp [wpOpS, go_sem]
            refine wpAnyS_one (i := 8) (by decide +kernel) ?_
            simp [wpOpS, go_sem, gq, gqz]
            refine wpAnyS_one (i := 9) (by decide +kernel) ?_
            simp [wpOpS, go_sem, gr, grz]
            refine wpAnyS_done (by decide +kernel) ?_ _
            exact ⟨rfl, .returning, by rw [← hu], .tuple #[], results_none (by rfl) _ _ _, rfl, rfl, w1, (Ext.refl w).drew.trans hx, rfl⟩
          · simp [wpOpS, go_sem, gq, gqz]
            refine wpAnyS_one (i := 6) (by decide +kernel) ?_
            simp [wpOpS, go_sem]
            refine wpAnyS_one (i := 9) (by decide +kernel) ?_
            simp [wpOpS, go_sem, gr, grz]
            refine wpAnyS_done (by decide +kernel) ?_ _
            exact ⟨rfl, .returning, by rw [← hu], .tuple #[], results_none (by rfl) _ _ _, rfl, rfl, w1, (Ext.refl w).drew.trans hx, rfl⟩
        · simp [wpOpS, go_sem]
          refine wpAnyS_one (i := 5) (by decide +kernel) ?_
          simp [wpOpS, go_sem]
          refine wpAnyS_one (i := 8) (by decide +kernel) ?_
          simp [wpOpS, go_sem, gq, gqz]
          refine wpAnyS_one (i := 9) (by decide +kernel) ?_
          simp [wpOpS, go_sem, gr, grz]
          refine wpAnyS_done (by decide +kernel) ?_ _
          exact ⟨rfl, .returning, by rw [← hu], .tuple #[], results_none (by rfl) _ _ _, rfl, rfl, w1, (Ext.refl w).drew.trans hx, rfl⟩
    · simp [wpOpS, go_sem]
      refine wpAnyS_two (i := 4) (j := 6) (by decide +kernel) ?_ ?_
      · simp [wpOpS, go_sem]
        refine wpAnyS_two (i := 6) (j := 7) (by decide +kernel) ?_ ?_
        · simp [wpOpS, go_sem]
          refine wpAnyS_one (i := 7) (by decide +kernel) ?_
          simp [wpOpS, go_sem, gp, gpz]
          refine wpAnyS_one (i := 8) (by decide +kernel) ?_
          simp [wpOpS, go_sem, gq, gqz]
          refine wpAnyS_one (i := 9) (by decide +kernel) ?_
          simp [wpOpS, go_sem, gr, grz]
          refine wpAnyS_done (by decide +kernel) ?_ _
          exact ⟨rfl, .returning, by rw [← hu], .tuple #[], results_none (by rfl) _ _ _, rfl, rfl, w1, (Ext.refl w).drew.trans hx, rfl⟩
        · simp [wpOpS, go_sem, gp, gpz]
          refine wpAnyS_two (i := 6) (j := 8) (by decide +kernel) ?_ ?_
          · simp [wpOpS, go_sem]
            refine wpAnyS_one (i := 8) (by decide +kernel) ?_
            simp [wpOpS, go_sem, gq, gqz]
            refine wpAnyS_one (i := 9) (by decide +kernel) ?_
            simp [wpOpS, go_sem, gr, grz]
            refine wpAnyS_done (by decide +kernel) ?_ _
            exact ⟨rfl, .returning, by rw [← hu], .tuple #[], results_none (by rfl) _ _ _, rfl, rfl, w1, (Ext.refl w).drew.trans hx, rfl⟩
          · simp [wpOpS, go_sem, gq, gqz]
            refine wpAnyS_one (i := 6) (by decide +kernel) ?_
            simp [wpOpS, go_sem]
            refine wpAnyS_one (i := 9) (by decide +kernel) ?_
            simp [wpOpS, go_sem, gr, grz]
            refine wpAnyS_done (by decide +kernel) ?_ _
            exact ⟨rfl, .returning, by rw [← hu], .tuple #[], results_none (by rfl) _ _ _, rfl, rfl, w1, (Ext.refl w).drew.trans hx, rfl⟩
      · simp [wpOpS, go_sem]
        refine wpAnyS_one (i := 4) (by decide +kernel) ?_
        simp [wpOpS, go_sem]
        refine wpAnyS_one (i := 7) (by decide +kernel) ?_
        simp [wpOpS, go_sem, gp, gpz]
        refine wpAnyS_one (i := 8) (by decide +kernel) ?_
        simp [wpOpS, go_sem, gq, gqz]
        refine wpAnyS_one (i := 9) (by decide +kernel) ?_
        simp [wpOpS, go_sem, gr, grz]
        refine wpAnyS_done (by decide +kernel) ?_ _
        exact ⟨rfl, .returning, by rw [← hu], .tuple #[], results_none (by rfl) _ _ _, rfl, rfl, w1, (Ext.refl w).drew.trans hx, rfl⟩
    · simp [wpOpS, go_sem]
      refine wpAnyS_two (i := 4) (j := 5) (by decide +kernel) ?_ ?_
      · simp [wpOpS, go_sem]
        refine wpAnyS_two (i := 5) (j := 7) (by decide +kernel) ?_ ?_
        · simp [wpOpS, go_sem]
          refine wpAnyS_one (i := 7) (by decide +kernel) ?_
          simp [wpOpS, go_sem, gp, gpz]
          refine wpAnyS_one (i := 8) (by decide +kernel) ?_
          simp [wpOpS, go_sem, gq, gqz]
          refine wpAnyS_one (i := 9) (by decide +kernel) ?_
          simp [wpOpS, go_sem, gr, grz]
          refine wpAnyS_done (by decide +kernel) ?_ _
          exact ⟨rfl, .returning, by rw [← hu], .tuple #[], results_none (by rfl) _ _ _, rfl, rfl, w1, (Ext.refl w).drew.trans hx, rfl⟩
        · simp [wpOpS, go_sem, gp, gpz]
          refine wpAnyS_one (i := 5) (by decide +kernel) ?_
          simp [wpOpS, go_sem]
          refine wpAnyS_one (i := 8) (by decide +kernel) ?_
          simp [wpOpS, go_sem, gq, gqz]
          refine wpAnyS_one (i := 9) (by decide +kernel) ?_
          simp [wpOpS, go_sem, gr, grz]
          refine wpAnyS_done (by decide +kernel) ?_ _
          exact ⟨rfl, .returning, by rw [← hu], .tuple #[], results_none (by rfl) _ _ _, rfl, rfl, w1, (Ext.refl w).drew.trans hx, rfl⟩
      · simp [wpOpS, go_sem]
        refine wpAnyS_one (i := 4) (by decide +kernel) ?_
        simp [wpOpS, go_sem]
        refine wpAnyS_one (i := 7) (by decide +kernel) ?_
        simp [wpOpS, go_sem, gp, gpz]
        refine wpAnyS_one (i := 8) (by decide +kernel) ?_
        simp [wpOpS, go_sem, gq, gqz]
        refine wpAnyS_one (i := 9) (by decide +kernel) ?_
        simp [wpOpS, go_sem, gr, grz]
        refine wpAnyS_done (by decide +kernel) ?_ _
        exact ⟨rfl, .returning, by rw [← hu], .tuple #[], results_none (by rfl) _ _ _, rfl, rfl, w1, (Ext.refl w).drew.trans hx, rfl⟩
  · simp [wpOpS, go_sem, hp, Tryd.ntmps12]
    refine wpAnyS_one (i := 0) (by decide +kernel) ?_
    simp [wpOpS, go_sem, recoverD, hu]
    refine wpAnyS_one (i := 2) (by decide +kernel) ?_
    simp [wpOpS, go_sem]
    refine (settleAt_nil _ _).mono ?_
    rintro e w1 ⟨rfl, hx⟩
    have gp : w1.cell? ⟨b, 0, none⟩ = some (.slice ao n m) := by rw [hx.cell b 0 (by simpa using hb0)]; simpa using hp
    have gq : w1.cell? ⟨b + 1, 0, none⟩ = some (.int .i64 y) := by rw [hx.cell (b + 1) 0 (by simpa using hb1)]; simpa using hq
    have gr : w1.cell? ⟨b + 2, 0, none⟩ = some (.int .i64 z) := by rw [hx.cell (b + 2) 0 (by simpa using hb2)]; simpa using hr
    have gpz : w1.frozen? ⟨b, 0, none⟩ = false := by rw [hx.froz b 0 (by simpa using hb0)]; simpa using hpz
    have gqz : w1.frozen? ⟨b + 1, 0, none⟩ = false := by rw [hx.froz (b + 1) 0 (by simpa using hb1)]; simpa using hqz
    have grz : w1.frozen? ⟨b + 2, 0, none⟩ = false := by rw [hx.froz (b + 2) 0 (by simpa using hb2)]; simpa using hrz
    refine wpAnyS_one (i := 3) (by decide +kernel) ?_
    simp [wpOpS, go_sem]
    refine wpAnyS_three (i := 4) (j := 5) (k := 6) (by decide +kernel) ?_ ?_ ?_
    · simp [wpOpS, go_sem]
      refine wpAnyS_three (i := 5) (j := 6) (k := 7) (by decide +kernel) ?_ ?_ ?_
      · simp [wpOpS, go_sem]
        refine wpAnyS_two (i := 6) (j := 7) (by decide +kernel) ?_ ?_
        · simp [wpOpS, go_sem]
          refine wpAnyS_one (i := 7) (by decide +kernel) ?_
          simp [wpOpS, go_sem, gp, gpz]
          refine wpAnyS_one (i := 8) (by decide +kernel) ?_
          simp [wpOpS, go_sem, gq, gqz]
          refine wpAnyS_one (i := 9) (by decide +kernel) ?_
          simp [wpOpS, go_sem, gr, grz]
          refine wpAnyS_done (by decide +kernel) ?_ _
          exact ⟨rfl, .returning, by rw [← hu], .tuple #[], results_none (by rfl) _ _ _, rfl, rfl, w1, (Ext.refl w).drew.trans hx, rfl⟩
        · simp [wpOpS, go_sem, gp, gpz]
          refine wpAnyS_two (i := 6) (j := 8) (by decide +kernel) ?_ ?_
          · simp [wpOpS, go_sem]
            refine wpAnyS_one (i := 8) (by decide +kernel) ?_
            simp [wpOpS, go_sem, gq, gqz]
            refine wpAnyS_one (i := 9) (by decide +kernel) ?_
            simp [wpOpS, go_sem, gr, grz]
            refine wpAnyS_done (by decide +kernel) ?_ _
            exact ⟨rfl, .returning, by rw [← hu], .tuple #[], results_none (by rfl) _ _ _, rfl, rfl, w1, (Ext.refl w).drew.trans hx, rfl⟩
          · simp [wpOpS, go_sem, gq, gqz]
            refine wpAnyS_one (i := 6) (by decide +kernel) ?_
            simp [wpOpS, go_sem]
            refine wpAnyS_one (i := 9) (by decide +kernel) ?_
            simp [wpOpS, go_sem, gr, grz]
            refine wpAnyS_done (by decide +kernel) ?_ _
            exact ⟨rfl, .returning, by rw [← hu], .tuple #[], results_none (by rfl) _ _ _, rfl, rfl, w1, (Ext.refl w).drew.trans hx, rfl⟩
      · simp [wpOpS, go_sem]
        refine wpAnyS_two (i := 5) (j := 7) (by decide +kernel) ?_ ?_
        · simp [wpOpS, go_sem]
          refine wpAnyS_one (i := 7) (by decide +kernel) ?_
          simp [wpOpS, go_sem, gp, gpz]
          refine wpAnyS_one (i := 8) (by decide +kernel) ?_
          simp [wpOpS, go_sem, gq, gqz]
          refine wpAnyS_one (i := 9) (by decide +kernel) ?_
          simp [wpOpS, go_sem, gr, grz]
          refine wpAnyS_done (by decide +kernel) ?_ _
          exact ⟨rfl, .returning, by rw [← hu], .tuple #[], results_none (by rfl) _ _ _, rfl, rfl, w1, (Ext.refl w).drew.trans hx, rfl⟩
        · simp [wpOpS, go_sem, gp, gpz]
          refine wpAnyS_one (i := 5) (by decide +kernel) ?_
          simp [wpOpS, go_sem]
          refine wpAnyS_one (i := 8) (by decide +kernel) ?_
          simp [wpOpS, go_sem, gq, gqz]
          refine wpAnyS_one (i := 9) (by decide +kernel) ?_
          simp [wpOpS, go_sem, gr, grz]
          refine wpAnyS_done (by decide +kernel) ?_ _
          exact ⟨rfl, .returning, by rw [← hu], .tuple #[], results_none (by rfl) _ _ _, rfl, rfl, w1, (Ext.refl w).drew.trans hx, rfl⟩
      · simp [wpOpS, go_sem, gp, gpz]
        refine wpAnyS_two (i := 5) (j := 6) (by decide +kernel) ?_ ?_
        · simp [wpOpS, go_sem]
          refine wpAnyS_two (i := 6) (j := 8) (by decide +kernel) ?_ ?_
          · simp [wpOpS, go_sem]
            refine wpAnyS_one (i := 8) (by decide +kernel) ?_
            simp [wpOpS, go_sem, gq, gqz]
            refine wpAnyS_one (i := 9) (by decide +kernel) ?_
            simp [wpOpS, go_sem, gr, grz]
            refine wpAnyS_done (by decide +kernel) ?_ _
            exact ⟨rfl, .returning, by rw [← hu], .tuple #[], results_none (by rfl) _ _ _, rfl, rfl, w1, (Ext.refl w).drew.trans hx, rfl⟩
          · simp [wpOpS, go_sem, gq, gqz]
            refine wpAnyS_one (i := 6) (by decide +kernel) ?_
            simp [wpOpS, go_sem]
            refine wpAnyS_one (i := 9) (by decide +kernel) ?_
            simp [wpOpS, go_sem, gr, grz]
            refine wpAnyS_done (by decide +kernel) ?_ _
            exact ⟨rfl, .returning, by rw [← hu], .tuple #[], results_none (by rfl) _ _ _, rfl, rfl, w1, (Ext.refl w).drew.trans hx, rfl⟩
        · simp [wpOpS, go_sem]
          refine wpAnyS_one (i := 5) (by decide +kernel) ?_
          simp [wpOpS, go_sem]
          refine wpAnyS_one (i := 8) (by decide +kernel) ?_
          simp [wpOpS, go_sem, gq, gqz]
          refine wpAnyS_one (i := 9) (by decide +kernel) ?_
          simp [wpOpS, go_sem, gr, grz]
          refine wpAnyS_done (by decide +kernel) ?_ _
          exact ⟨rfl, .returning, by rw [← hu], .tuple #[], results_none (by rfl) _ _ _, rfl, rfl, w1, (Ext.refl w).drew.trans hx, rfl⟩
    · simp [wpOpS, go_sem]
      refine wpAnyS_two (i := 4) (j := 6) (by decide +kernel) ?_ ?_
      · simp [wpOpS, go_sem]
        refine wpAnyS_two (i := 6) (j := 7) (by decide +kernel) ?_ ?_
        · simp [wpOpS, go_sem]
          refine wpAnyS_one (i := 7) (by decide +kernel) ?_
          simp [wpOpS, go_sem, gp, gpz]
          refine wpAnyS_one (i := 8) (by decide +kernel) ?_
          simp [wpOpS, go_sem, gq, gqz]
          refine wpAnyS_one (i := 9) (by decide +kernel) ?_
          simp [wpOpS, go_sem, gr, grz]
          refine wpAnyS_done (by decide +kernel) ?_ _
          exact ⟨rfl, .returning, by rw [← hu], .tuple #[], results_none (by rfl) _ _ _, rfl, rfl, w1, (Ext.refl w).drew.trans hx, rfl⟩
        · simp [wpOpS, go_sem, gp, gpz]
          refine wpAnyS_two (i := 6) (j := 8) (by decide +kernel) ?_ ?_
          · simp [wpOpS, go_sem]
            refine wpAnyS_one (i := 8) (by decide +kernel) ?_
            simp [wpOpS, go_sem, gq, gqz]
            refine wpAnyS_one (i := 9) (by decide +kernel) ?_
            simp [wpOpS, go_sem, gr, grz]
            refine wpAnyS_done (by decide +kernel) ?_ _
            exact ⟨rfl, .returning, by rw [← hu], .tuple #[], results_none (by rfl) _ _ _, rfl, rfl, w1, (Ext.refl w).drew.trans hx, rfl⟩
          · simp [wpOpS, go_sem, gq, gqz]
            refine wpAnyS_one (i := 6) (by decide +kernel) ?_
            simp [wpOpS, go_sem]
            refine wpAnyS_one (i := 9) (by decide +kernel) ?_
            simp [wpOpS, go_sem, gr, grz]
            refine wpAnyS_done (by decide +kernel) ?_ _
            exact ⟨rfl, .returning, by rw [← hu], .tuple #[], results_none (by rfl) _ _ _, rfl, rfl, w1, (Ext.refl w).drew.trans hx, rfl⟩
      · simp [wpOpS, go_sem]
        refine wpAnyS_one (i := 4) (by decide +kernel) ?_
        simp [wpOpS, go_sem]
        refine wpAnyS_one (i := 7) (by decide +kernel) ?_
        simp [wpOpS, go_sem, gp, gpz]
        refine wpAnyS_one (i := 8) (by decide +kernel) ?_
        simp [wpOpS, go_sem, gq, gqz]
        refine wpAnyS_one (i := 9) (by decide +kernel) ?_
        simp [wpOpS, go_sem, gr, grz]
        refine wpAnyS_done (by decide +kernel) ?_ _
        exact ⟨rfl, .returning, by rw [← hu], .tuple #[], results_none (by rfl) _ _ _, rfl, rfl, w1, (Ext.refl w).drew.trans hx, rfl⟩
    · simp [wpOpS, go_sem]
      refine wpAnyS_two (i := 4) (j := 5) (by decide +kernel) ?_ ?_
      · simp [wpOpS, go_sem]
        refine wpAnyS_two (i := 5) (j := 7) (by decide +kernel) ?_ ?_
        · simp [wpOpS, go_sem]
          refine wpAnyS_one (i := 7) (by decide +kernel) ?_
          simp [wpOpS, go_sem, gp, gpz]
          refine wpAnyS_one (i := 8) (by decide +kernel) ?_
          simp [wpOpS, go_sem, gq, gqz]
          refine wpAnyS_one (i := 9) (by decide +kernel) ?_
          simp [wpOpS, go_sem, gr, grz]
          refine wpAnyS_done (by decide +kernel) ?_ _
          exact ⟨rfl, .returning, by rw [← hu], .tuple #[], results_none (by rfl) _ _ _, rfl, rfl, w1, (Ext.refl w).drew.trans hx, rfl⟩
        · simp [wpOpS, go_sem, gp, gpz]
          refine wpAnyS_one (i := 5) (by decide +kernel) ?_
          simp [wpOpS, go_sem]
          refine wpAnyS_one (i := 8) (by decide +kernel) ?_
          simp [wpOpS, go_sem, gq, gqz]
          refine wpAnyS_one (i := 9) (by decide +kernel) ?_
          simp [wpOpS, go_sem, gr, grz]
          refine wpAnyS_done (by decide +kernel) ?_ _
          exact ⟨rfl, .returning, by rw [← hu], .tuple #[], results_none (by rfl) _ _ _, rfl, rfl, w1, (Ext.refl w).drew.trans hx, rfl⟩
      · simp [wpOpS, go_sem]
        refine wpAnyS_one (i := 4) (by decide +kernel) ?_
        simp [wpOpS, go_sem]
        refine wpAnyS_one (i := 7) (by decide +kernel) ?_
        simp [wpOpS, go_sem, gp, gpz]
        refine wpAnyS_one (i := 8) (by decide +kernel) ?_
        simp [wpOpS, go_sem, gq, gqz]
        refine wpAnyS_one (i := 9) (by decide +kernel) ?_
        simp [wpOpS, go_sem, gr, grz]
        refine wpAnyS_done (by decide +kernel) ?_ _
        exact ⟨rfl, .returning, by rw [← hu], .tuple #[], results_none (by rfl) _ _ _, rfl, rfl, w1, (Ext.refl w).drew.trans hx, rfl⟩
set_option maxHeartbeats 2000000 in
theorem all_placed (b : Nat) (V : Value) (c k : Int) (older : List PanicEntry) (y z : Int) (w : World) (hp : w.cell? ⟨b, 0, none⟩ = some V) (h1 : Slc1 V) (hq : w.cell? ⟨b + 1, 0, none⟩ = some (.int .i64 y)) (hr : w.cell? ⟨b + 2, 0, none⟩ = some (.int .i64 z)) (hpz : w.frozen? ⟨b, 0, none⟩ = false) (hqz : w.frozen? ⟨b + 1, 0, none⟩ = false) (hrz : w.frozen? ⟨b + 2, 0, none⟩ = false) :
    CallsD Tryd.prog 12 #[.pointer (some ⟨b, 0, none⟩), .pointer (some ⟨b + 1, 0, none⟩), .pointer (some ⟨b + 2, 0, none⟩)] (.panicking ({ v := .iface 42 (.agg #[.int .i64 c, .int .i64 k]), recovered := false } :: older)) w fun e u' w' => e = .returned (.tuple #[]) ∧ u' = .panicking ({ v := .iface 42 (.agg #[.int .i64 c, .int .i64 k]), recovered := true } :: older) ∧ ∃ w1, Ext w w1 ∧ w' = (((w1.setCell ⟨b, 0, none⟩ (.slice none 0 0)).setCell ⟨b + 1, 0, none⟩ (.int .i64 k)).setCell ⟨b + 2, 0, none⟩ (.int .i64 c)) := by
  obtain ⟨ao, n, m, rfl⟩ := h1
  have hb0 := lt_of_cell hp
  have hb1 := lt_of_cell hq
  have hb2 := lt_of_cell hr
  refine callsD_of_wpS Tryd.func12 rfl fun c₀ cs hu => ?_
  refine wpS_region_any 10 rfl (by kernel_rfl) ?_
  refine wpAnyS_two (i := 0) (j := 1) (by decide +kernel) ?_ ?_
  · simp [wpOpS, go_sem, recoverD, hu, Tryd.ntmps12]
    refine wpAnyS_one (i := 1) (by decide +kernel) ?_
    simp [wpOpS, go_sem, hp]
    refine wpAnyS_one (i := 2) (by decide +kernel) ?_
    simp [wpOpS, go_sem]
    refine (settleAt_placed _ _ _ _).mono ?_
    rintro e w1 ⟨rfl, hx⟩
    have gp : w1.cell? ⟨b, 0, none⟩ = some (.slice ao n m) := by rw [hx.cell b 0 (by simpa using hb0)]; simpa using hp
    have gq : w1.cell? ⟨b + 1, 0, none⟩ = some (.int .i64 y) := by rw [hx.cell (b + 1) 0 (by simpa using hb1)]; simpa using hq
    have gr : w1.cell? ⟨b + 2, 0, none⟩ = some (.int .i64 z) := by rw [hx.cell (b + 2) 0 (by simpa using hb2)]; simpa using hr
    have gpz : w1.frozen? ⟨b, 0, none⟩ = false := by rw [hx.froz b 0 (by simpa using hb0)]; simpa using hpz
    have gqz : w1.frozen? ⟨b + 1, 0, none⟩ = false := by rw [hx.froz (b + 1) 0 (by simpa using hb1)]; simpa using hqz
    have grz : w1.frozen? ⟨b + 2, 0, none⟩ = false := by rw [hx.froz (b + 2) 0 (by simpa using hb2)]; simpa using hrz
    refine wpAnyS_one (i := 3) (by decide +kernel) ?_
    simp [wpOpS, go_sem]
    refine wpAnyS_three (i := 4) (j := 5) (k := 6) (by decide +kernel) ?_ ?_ ?_
    · simp [wpOpS, go_sem]
      refine wpAnyS_three (i := 5) (j := 6) (k := 7) (by decide +kernel) ?_ ?_ ?_
      · simp [wpOpS, go_sem]
        refine wpAnyS_two (i := 6) (j := 7) (by decide +kernel) ?_ ?_
        · simp [wpOpS, go_sem]
          refine wpAnyS_one (i := 7) (by decide +kernel) ?_
          simp [wpOpS, go_sem, gp, gpz]
          refine wpAnyS_one (i := 8) (by decide +kernel) ?_
          simp [wpOpS, go_sem, gq, gqz]
          refine wpAnyS_one (i := 9) (by decide +kernel) ?_
          simp [wpOpS, go_sem, gr, grz]
          refine wpAnyS_done (by decide +kernel) ?_ _
          exact ⟨rfl, _, rfl, .tuple #[], results_none (by rfl) _ _ _, rfl, rfl, w1, (Ext.refl w).drew.trans hx, rfl⟩
        · simp [wpOpS, go_sem, gp, gpz]
          refine wpAnyS_two (i := 6) (j := 8) (by decide +kernel) ?_ ?_
          · simp [wpOpS, go_sem]
            refine wpAnyS_one (i := 8) (by decide +kernel) ?_
            simp [wpOpS, go_sem, gq, gqz]
            refine wpAnyS_one (i := 9) (by decide +kernel) ?_
            simp [wpOpS, go_sem, gr, grz]
            refine wpAnyS_done (by decide +kernel) ?_ _
            exact ⟨rfl, _, rfl, .tuple #[], results_none (by rfl) _ _ _, rfl, rfl, w1, (Ext.refl w).drew.trans hx, rfl⟩
          · simp [wpOpS, go_sem, gq, gqz]
            refine wpAnyS_one (i := 6) (by decide +kernel) ?_
            simp [wpOpS, go_sem]
            refine wpAnyS_one (i := 9) (by decide +kernel) ?_
            simp [wpOpS, go_sem, gr, grz]
            refine wpAnyS_done (by decide +kernel) ?_ _
            exact ⟨rfl, _, rfl, .tuple #[], results_none (by rfl) _ _ _, rfl, rfl, w1, (Ext.refl w).drew.trans hx, rfl⟩
      · simp [wpOpS, go_sem]
        refine wpAnyS_two (i := 5) (j := 7) (by decide +kernel) ?_ ?_
        · simp [wpOpS, go_sem]
          refine wpAnyS_one (i := 7) (by decide +kernel) ?_
          simp [wpOpS, go_sem, gp, gpz]
          refine wpAnyS_one (i := 8) (by decide +kernel) ?_
          simp [wpOpS, go_sem, gq, gqz]
          refine wpAnyS_one (i := 9) (by decide +kernel) ?_
          simp [wpOpS, go_sem, gr, grz]
          refine wpAnyS_done (by decide +kernel) ?_ _
          exact ⟨rfl, _, rfl, .tuple #[], results_none (by rfl) _ _ _, rfl, rfl, w1, (Ext.refl w).drew.trans hx, rfl⟩
        · simp [wpOpS, go_sem, gp, gpz]
          refine wpAnyS_one (i := 5) (by decide +kernel) ?_
          simp [wpOpS, go_sem]
          refine wpAnyS_one (i := 8) (by decide +kernel) ?_
          simp [wpOpS, go_sem, gq, gqz]
          refine wpAnyS_one (i := 9) (by decide +kernel) ?_
          simp [wpOpS, go_sem, gr, grz]
          refine wpAnyS_done (by decide +kernel) ?_ _
          exact ⟨rfl, _, rfl, .tuple #[], results_none (by rfl) _ _ _, rfl, rfl, w1, (Ext.refl w).drew.trans hx, rfl⟩
      · simp [wpOpS, go_sem, gp, gpz]
        refine wpAnyS_two (i := 5) (j := 6) (by decide +kernel) ?_ ?_
        · simp [wpOpS, go_sem]
          refine wpAnyS_two (i := 6) (j := 8) (by decide +kernel) ?_ ?_
          · simp [wpOpS, go_sem]
            refine wpAnyS_one (i := 8) (by decide +kernel) ?_
            simp [wpOpS, go_sem, gq, gqz]
            refine wpAnyS_one (i := 9) (by decide +kernel) ?_
            simp [wpOpS, go_sem, gr, grz]
            refine wpAnyS_done (by decide +kernel) ?_ _
            exact ⟨rfl, _, rfl, .tuple #[], results_none (by rfl) _ _ _, rfl, rfl, w1, (Ext.refl w).drew.trans hx, rfl⟩
          · simp [wpOpS, go_sem, gq, gqz]
            refine wpAnyS_one (i := 6) (by decide +kernel) ?_
            simp [wpOpS, go_sem]
            refine wpAnyS_one (i := 9) (by decide +kernel) ?_
            simp [wpOpS, go_sem, gr, grz]
            refine wpAnyS_done (by decide +kernel) ?_ _
            exact ⟨rfl, _, rfl, .tuple #[], results_none (by rfl) _ _ _, rfl, rfl, w1, (Ext.refl w).drew.trans hx, rfl⟩
        · simp [wpOpS, go_sem]
          refine wpAnyS_one (i := 5) (by decide +kernel) ?_
          simp [wpOpS, go_sem]
          refine wpAnyS_one (i := 8) (by decide +kernel) ?_
          simp [wpOpS, go_sem, gq, gqz]
          refine wpAnyS_one (i := 9) (by decide +kernel) ?_
          simp [wpOpS, go_sem, gr, grz]
          refine wpAnyS_done (by decide +kernel) ?_ _
          exact ⟨rfl, _, rfl, .tuple #[], results_none (by rfl) _ _ _, rfl, rfl, w1, (Ext.refl w).drew.trans hx, rfl⟩
    · simp [wpOpS, go_sem]
      refine wpAnyS_two (i := 4) (j := 6) (by decide +kernel) ?_ ?_
      · simp [wpOpS, go_sem]
        refine wpAnyS_two (i := 6) (j := 7) (by decide +kernel) ?_ ?_
        · simp [wpOpS, go_sem]
          refine wpAnyS_one (i := 7) (by decide +kernel) ?_
          simp [wpOpS, go_sem, gp, gpz]
          refine wpAnyS_one (i := 8) (by decide +kernel) ?_
          simp [wpOpS, go_sem, gq, gqz]
          refine wpAnyS_one (i := 9) (by decide +kernel) ?_
          simp [wpOpS, go_sem, gr, grz]
          refine wpAnyS_done (by decide +kernel) ?_ _
          exact ⟨rfl, _, rfl, .tuple #[], results_none (by rfl) _ _ _, rfl, rfl, w1, (Ext.refl w).drew.trans hx, rfl⟩
        · simp [wpOpS, go_sem, gp, gpz]
          refine wpAnyS_two (i := 6) (j := 8) (by decide +kernel) ?_ ?_
          · simp [wpOpS, go_sem]
            refine wpAnyS_one (i := 8) (by decide +kernel) ?_
            simp [wpOpS, go_sem, gq, gqz]
            refine wpAnyS_one (i := 9) (by decide +kernel) ?_
            simp [wpOpS, go_sem, gr, grz]
            refine wpAnyS_done (by decide +kernel) ?_ _
            exact ⟨rfl, _, rfl, .tuple #[], results_none (by rfl) _ _ _, rfl, rfl, w1, (Ext.refl w).drew.trans hx, rfl⟩
          · simp [wpOpS, go_sem, gq, gqz]
            refine wpAnyS_one (i := 6) (by decide +kernel) ?_
            simp [wpOpS, go_sem]
            refine wpAnyS_one (i := 9) (by decide +kernel) ?_
            simp [wpOpS, go_sem, gr, grz]
            refine wpAnyS_done (by decide +kernel) ?_ _
            exact ⟨rfl, _, rfl, .tuple #[], results_none (by rfl) _ _ _, rfl, rfl, w1, (Ext.refl w).drew.trans hx, rfl⟩
      · simp [wpOpS, go_sem]
        refine wpAnyS_one (i := 4) (by decide +kernel) ?_
        simp [wpOpS, go_sem]
        refine wpAnyS_one (i := 7) (by decide +kernel) ?_
        simp [wpOpS, go_sem, gp, gpz]
        refine wpAnyS_one (i := 8) (by decide +kernel) ?_
        simp [wpOpS, go_sem, gq, gqz]
        refine wpAnyS_one (i := 9) (by decide +kernel) ?_
        simp [wpOpS, go_sem, gr, grz]
        refine wpAnyS_done (by decide +kernel) ?_ _
        exact ⟨rfl, _, rfl, .tuple #[], results_none (by rfl) _ _ _, rfl, rfl, w1, (Ext.refl w).drew.trans hx, rfl⟩
    · simp [wpOpS, go_sem]
      refine wpAnyS_two (i := 4) (j := 5) (by decide +kernel) ?_ ?_
      · simp [wpOpS, go_sem]
        refine wpAnyS_two (i := 5) (j := 7) (by decide +kernel) ?_ ?_
        · simp [wpOpS, go_sem]
          refine wpAnyS_one (i := 7) (by decide +kernel) ?_
          simp [wpOpS, go_sem, gp, gpz]
          refine wpAnyS_one (i := 8) (by decide +kernel) ?_
          simp [wpOpS, go_sem, gq, gqz]
          refine wpAnyS_one (i := 9) (by decide +kernel) ?_
          simp [wpOpS, go_sem, gr, grz]
          refine wpAnyS_done (by decide +kernel) ?_ _
          exact ⟨rfl, _, rfl, .tuple #[], results_none (by rfl) _ _ _, rfl, rfl, w1, (Ext.refl w).drew.trans hx, rfl⟩
        · simp [wpOpS, go_sem, gp, gpz]
          refine wpAnyS_one (i := 5) (by decide +kernel) ?_
          simp [wpOpS, go_sem]
          refine wpAnyS_one (i := 8) (by decide +kernel) ?_
          simp [wpOpS, go_sem, gq, gqz]
          refine wpAnyS_one (i := 9) (by decide +kernel) ?_
          simp [wpOpS, go_sem, gr, grz]
          refine wpAnyS_done (by decide +kernel) ?_ _
          exact ⟨rfl, _, rfl, .tuple #[], results_none (by rfl) _ _ _, rfl, rfl, w1, (Ext.refl w).drew.trans hx, rfl⟩
      · simp [wpOpS, go_sem]
        refine wpAnyS_one (i := 4) (by decide +kernel) ?_
        simp [wpOpS, go_sem]
        refine wpAnyS_one (i := 7) (by decide +kernel) ?_
        simp [wpOpS, go_sem, gp, gpz]
        refine wpAnyS_one (i := 8) (by decide +kernel) ?_
        simp [wpOpS, go_sem, gq, gqz]
        refine wpAnyS_one (i := 9) (by decide +kernel) ?_
        simp [wpOpS, go_sem, gr, grz]
        refine wpAnyS_done (by decide +kernel) ?_ _
        exact ⟨rfl, _, rfl, .tuple #[], results_none (by rfl) _ _ _, rfl, rfl, w1, (Ext.refl w).drew.trans hx, rfl⟩
  · simp [wpOpS, go_sem, hp, Tryd.ntmps12]
    refine wpAnyS_one (i := 0) (by decide +kernel) ?_
    simp [wpOpS, go_sem, recoverD, hu]
    refine wpAnyS_one (i := 2) (by decide +kernel) ?_
    simp [wpOpS, go_sem]
    refine (settleAt_placed _ _ _ _).mono ?_
    rintro e w1 ⟨rfl, hx⟩
    have gp : w1.cell? ⟨b, 0, none⟩ = some (.slice ao n m) := by rw [hx.cell b 0 (by simpa using hb0)]; simpa using hp
    have gq : w1.cell? ⟨b + 1, 0, none⟩ = some (.int .i64 y) := by rw [hx.cell (b + 1) 0 (by simpa using hb1)]; simpa using hq
    have gr : w1.cell? ⟨b + 2, 0, none⟩ = some (.int .i64 z) := by rw [hx.cell (b + 2) 0 (by simpa using hb2)]; simpa using hr
    have gpz : w1.frozen? ⟨b, 0, none⟩ = false := by rw [hx.froz b 0 (by simpa using hb0)]; simpa using hpz
    have gqz : w1.frozen? ⟨b + 1, 0, none⟩ = false := by rw [hx.froz (b + 1) 0 (by simpa using hb1)]; simpa using hqz
    have grz : w1.frozen? ⟨b + 2, 0, none⟩ = false := by rw [hx.froz (b + 2) 0 (by simpa using hb2)]; simpa using hrz
    refine wpAnyS_one (i := 3) (by decide +kernel) ?_
    simp [wpOpS, go_sem]
    refine wpAnyS_three (i := 4) (j := 5) (k := 6) (by decide +kernel) ?_ ?_ ?_
    · simp [wpOpS, go_sem]
      refine wpAnyS_three (i := 5) (j := 6) (k := 7) (by decide +kernel) ?_ ?_ ?_
      · simp [wpOpS, go_sem]
        refine wpAnyS_two (i := 6) (j := 7) (by decide +kernel) ?_ ?_
        · simp [wpOpS, go_sem]
          refine wpAnyS_one (i := 7) (by decide +kernel) ?_
          simp [wpOpS, go_sem, gp, gpz]
          refine wpAnyS_one (i := 8) (by decide +kernel) ?_
          simp [wpOpS, go_sem, gq, gqz]
          refine wpAnyS_one (i := 9) (by decide +kernel) ?_
          simp [wpOpS, go_sem, gr, grz]
          refine wpAnyS_done (by decide +kernel) ?_ _
          exact ⟨rfl, _, rfl, .tuple #[], results_none (by rfl) _ _ _, rfl, rfl, w1, (Ext.refl w).drew.trans hx, rfl⟩
        · simp [wpOpS, go_sem, gp, gpz]
          refine wpAnyS_two (i := 6) (j := 8) (by decide +kernel) ?_ ?_
          · simp [wpOpS, go_sem]
            refine wpAnyS_one (i := 8) (by decide +kernel) ?_
            simp [wpOpS, go_sem, gq, gqz]
            refine wpAnyS_one (i := 9) (by decide +kernel) ?_
            simp [wpOpS, go_sem, gr, grz]
            refine wpAnyS_done (by decide +kernel) ?_ _
            exact ⟨rfl, _, rfl, .tuple #[], results_none (by rfl) _ _ _, rfl, rfl, w1, (Ext.refl w).drew.trans hx, rfl⟩
          · simp [wpOpS, go_sem, gq, gqz]
            refine wpAnyS_one (i := 6) (by decide +kernel) ?_
            simp [wpOpS, go_sem]
            refine wpAnyS_one (i := 9) (by decide +kernel) ?_
            simp [wpOpS, go_sem, gr, grz]
            refine wpAnyS_done (by decide +kernel) ?_ _
            exact ⟨rfl, _, rfl, .tuple #[], results_none (by rfl) _ _ _, rfl, rfl, w1, (Ext.refl w).drew.trans hx, rfl⟩
      · simp [wpOpS, go_sem]
        refine wpAnyS_two (i := 5) (j := 7) (by decide +kernel) ?_ ?_
        · simp [wpOpS, go_sem]
          refine wpAnyS_one (i := 7) (by decide +kernel) ?_
          simp [wpOpS, go_sem, gp, gpz]
          refine wpAnyS_one (i := 8) (by decide +kernel) ?_
          simp [wpOpS, go_sem, gq, gqz]
          refine wpAnyS_one (i := 9) (by decide +kernel) ?_
          simp [wpOpS, go_sem, gr, grz]
          refine wpAnyS_done (by decide +kernel) ?_ _
          exact ⟨rfl, _, rfl, .tuple #[], results_none (by rfl) _ _ _, rfl, rfl, w1, (Ext.refl w).drew.trans hx, rfl⟩
        · simp [wpOpS, go_sem, gp, gpz]
          refine wpAnyS_one (i := 5) (by decide +kernel) ?_
          simp [wpOpS, go_sem]
          refine wpAnyS_one (i := 8) (by decide +kernel) ?_
          simp [wpOpS, go_sem, gq, gqz]
          refine wpAnyS_one (i := 9) (by decide +kernel) ?_
          simp [wpOpS, go_sem, gr, grz]
          refine wpAnyS_done (by decide +kernel) ?_ _
          exact ⟨rfl, _, rfl, .tuple #[], results_none (by rfl) _ _ _, rfl, rfl, w1, (Ext.refl w).drew.trans hx, rfl⟩
      · simp [wpOpS, go_sem, gp, gpz]
        refine wpAnyS_two (i := 5) (j := 6) (by decide +kernel) ?_ ?_
        · simp [wpOpS, go_sem]
          refine wpAnyS_two (i := 6) (j := 8) (by decide +kernel) ?_ ?_
          · simp [wpOpS, go_sem]
            refine wpAnyS_one (i := 8) (by decide +kernel) ?_
            simp [wpOpS, go_sem, gq, gqz]
            refine wpAnyS_one (i := 9) (by decide +kernel) ?_
            simp [wpOpS, go_sem, gr, grz]
            refine wpAnyS_done (by decide +kernel) ?_ _
            exact ⟨rfl, _, rfl, .tuple #[], results_none (by rfl) _ _ _, rfl, rfl, w1, (Ext.refl w).drew.trans hx, rfl⟩
          · simp [wpOpS, go_sem, gq, gqz]
            refine wpAnyS_one (i := 6) (by decide +kernel) ?_
            simp [wpOpS, go_sem]
            refine wpAnyS_one (i := 9) (by decide +kernel) ?_
            simp [wpOpS, go_sem, gr, grz]
            refine wpAnyS_done (by decide +kernel) ?_ _
            exact ⟨rfl, _, rfl, .tuple #[], results_none (by rfl) _ _ _, rfl, rfl, w1, (Ext.refl w).drew.trans hx, rfl⟩
        · simp [wpOpS, go_sem]
          refine wpAnyS_one (i := 5) (by decide +kernel) ?_
          simp [wpOpS, go_sem]
          refine wpAnyS_one (i := 8) (by decide +kernel) ?_
          simp [wpOpS, go_sem, gq, gqz]
          refine wpAnyS_one (i := 9) (by decide +kernel) ?_
          simp [wpOpS, go_sem, gr, grz]
          refine wpAnyS_done (by decide +kernel) ?_ _
          exact ⟨rfl, _, rfl, .tuple #[], results_none (by rfl) _ _ _, rfl, rfl, w1, (Ext.refl w).drew.trans hx, rfl⟩
    · simp [wpOpS, go_sem]
      refine wpAnyS_two (i := 4) (j := 6) (by decide +kernel) ?_ ?_
      · simp [wpOpS, go_sem]
        refine wpAnyS_two (i := 6) (j := 7) (by decide +kernel) ?_ ?_
        · simp [wpOpS, go_sem]
          refine wpAnyS_one (i := 7) (by decide +kernel) ?_
          simp [wpOpS, go_sem, gp, gpz]
          refine wpAnyS_one (i := 8) (by decide +kernel) ?_
          simp [wpOpS, go_sem, gq, gqz]
          refine wpAnyS_one (i := 9) (by decide +kernel) ?_
          simp [wpOpS, go_sem, gr, grz]
          refine wpAnyS_done (by decide +kernel) ?_ _
          exact ⟨rfl, _, rfl, .tuple #[], results_none (by rfl) _ _ _, rfl, rfl, w1, (Ext.refl w).drew.trans hx, rfl⟩
        · simp [wpOpS, go_sem, gp, gpz]
          refine wpAnyS_two (i := 6) (j := 8) (by decide +kernel) ?_ ?_
          · simp [wpOpS, go_sem]
            refine wpAnyS_one (i := 8) (by decide +kernel) ?_
            simp [wpOpS, go_sem, gq, gqz]
            refine wpAnyS_one (i := 9) (by decide +kernel) ?_
            simp [wpOpS, go_sem, gr, grz]
            refine wpAnyS_done (by decide +kernel) ?_ _
            exact ⟨rfl, _, rfl, .tuple #[], results_none (by rfl) _ _ _, rfl, rfl, w1, (Ext.refl w).drew.trans hx, rfl⟩
          · simp [wpOpS, go_sem, gq, gqz]
            refine wpAnyS_one (i := 6) (by decide +kernel) ?_
            simp [wpOpS, go_sem]
            refine wpAnyS_one (i := 9) (by decide +kernel) ?_
            simp [wpOpS, go_sem, gr, grz]
            refine wpAnyS_done (by decide +kernel) ?_ _
            exact ⟨rfl, _, rfl, .tuple #[], results_none (by rfl) _ _ _, rfl, rfl, w1, (Ext.refl w).drew.trans hx, rfl⟩
      · simp [wpOpS, go_sem]
        refine wpAnyS_one (i := 4) (by decide +kernel) ?_
        simp [wpOpS, go_sem]
        refine wpAnyS_one (i := 7) (by decide +kernel) ?_
        simp [wpOpS, go_sem, gp, gpz]
        refine wpAnyS_one (i := 8) (by decide +kernel) ?_
        simp [wpOpS, go_sem, gq, gqz]
        refine wpAnyS_one (i := 9) (by decide +kernel) ?_
        simp [wpOpS, go_sem, gr, grz]
        refine wpAnyS_done (by decide +kernel) ?_ _
        exact ⟨rfl, _, rfl, .tuple #[], results_none (by rfl) _ _ _, rfl, rfl, w1, (Ext.refl w).drew.trans hx, rfl⟩
    · simp [wpOpS, go_sem]
      refine wpAnyS_two (i := 4) (j := 5) (by decide +kernel) ?_ ?_
      · simp [wpOpS, go_sem]
        refine wpAnyS_two (i := 5) (j := 7) (by decide +kernel) ?_ ?_
        · simp [wpOpS, go_sem]
          refine wpAnyS_one (i := 7) (by decide +kernel) ?_
          simp [wpOpS, go_sem, gp, gpz]
          refine wpAnyS_one (i := 8) (by decide +kernel) ?_
          simp [wpOpS, go_sem, gq, gqz]
          refine wpAnyS_one (i := 9) (by decide +kernel) ?_
          simp [wpOpS, go_sem, gr, grz]
          refine wpAnyS_done (by decide +kernel) ?_ _
          exact ⟨rfl, _, rfl, .tuple #[], results_none (by rfl) _ _ _, rfl, rfl, w1, (Ext.refl w).drew.trans hx, rfl⟩
        · simp [wpOpS, go_sem, gp, gpz]
          refine wpAnyS_one (i := 5) (by decide +kernel) ?_
          simp [wpOpS, go_sem]
          refine wpAnyS_one (i := 8) (by decide +kernel) ?_
          simp [wpOpS, go_sem, gq, gqz]
          refine wpAnyS_one (i := 9) (by decide +kernel) ?_
          simp [wpOpS, go_sem, gr, grz]
          refine wpAnyS_done (by decide +kernel) ?_ _
          exact ⟨rfl, _, rfl, .tuple #[], results_none (by rfl) _ _ _, rfl, rfl, w1, (Ext.refl w).drew.trans hx, rfl⟩
      · simp [wpOpS, go_sem]
        refine wpAnyS_one (i := 4) (by decide +kernel) ?_
        simp [wpOpS, go_sem]
        refine wpAnyS_one (i := 7) (by decide +kernel) ?_
        simp [wpOpS, go_sem, gp, gpz]
        refine wpAnyS_one (i := 8) (by decide +kernel) ?_
        simp [wpOpS, go_sem, gq, gqz]
        refine wpAnyS_one (i := 9) (by decide +kernel) ?_
        simp [wpOpS, go_sem, gr, grz]
        refine wpAnyS_done (by decide +kernel) ?_ _
        exact ⟨rfl, _, rfl, .tuple #[], results_none (by rfl) _ _ _, rfl, rfl, w1, (Ext.refl w).drew.trans hx, rfl⟩
set_option maxHeartbeats 2000000 in
theorem all_errno (b : Nat) (V : Value) (c : Int) (older : List PanicEntry) (y z : Int) (w : World) (hp : w.cell? ⟨b, 0, none⟩ = some V) (h1 : Slc1 V) (hq : w.cell? ⟨b + 1, 0, none⟩ = some (.int .i64 y)) (hr : w.cell? ⟨b + 2, 0, none⟩ = some (.int .i64 z)) (hpz : w.frozen? ⟨b, 0, none⟩ = false) (hqz : w.frozen? ⟨b + 1, 0, none⟩ = false) (hrz : w.frozen? ⟨b + 2, 0, none⟩ = false) :
    CallsD Tryd.prog 12 #[.pointer (some ⟨b, 0, none⟩), .pointer (some ⟨b + 1, 0, none⟩), .pointer (some ⟨b + 2, 0, none⟩)] (.panicking ({ v := .iface 24 (.int .i64 c), recovered := false } :: older)) w fun e u' w' => e = .returned (.tuple #[]) ∧ u' = .panicking ({ v := .iface 24 (.int .i64 c), recovered := true } :: older) ∧ ∃ w1, Ext w w1 ∧ w' = (((w1.setCell ⟨b, 0, none⟩ (.slice none 0 0)).setCell ⟨b + 1, 0, none⟩ (.int .i64 0)).setCell ⟨b + 2, 0, none⟩ (.int .i64 c)) := by
  obtain ⟨ao, n, m, rfl⟩ := h1
  have hb0 := lt_of_cell hp
  have hb1 := lt_of_cell hq
  have hb2 := lt_of_cell hr
  refine callsD_of_wpS Tryd.func12 rfl fun c₀ cs hu => ?_
  refine wpS_region_any 10 rfl (by kernel_rfl) ?_
  refine wpAnyS_two (i := 0) (j := 1) (by decide +kernel) ?_ ?_
  · simp [wpOpS, go_sem, recoverD, hu, Tryd.ntmps12]
    refine wpAnyS_one (i := 1) (by decide +kernel) ?_
    simp [wpOpS, go_sem, hp]
    refine wpAnyS_one (i := 2) (by decide +kernel) ?_
    simp [wpOpS, go_sem]
    refine (settleAt_errno _ _ _).mono ?_
    rintro e w1 ⟨rfl, hx⟩
    have gp : w1.cell? ⟨b, 0, none⟩ = some (.slice ao n m) := by rw [hx.cell b 0 (by simpa using hb0)]; simpa using hp
    have gq : w1.cell? ⟨b + 1, 0, none⟩ = some (.int .i64 y) := by rw [hx.cell (b + 1) 0 (by simpa using hb1)]; simpa using hq
    have gr : w1.cell? ⟨b + 2, 0, none⟩ = some (.int .i64 z) := by rw [hx.cell (b + 2) 0 (by simpa using hb2)]; simpa using hr
    have gpz : w1.frozen? ⟨b, 0, none⟩ = false := by rw [hx.froz b 0 (by simpa using hb0)]; simpa using hpz
    have gqz : w1.frozen? ⟨b + 1, 0, none⟩ = false := by rw [hx.froz (b + 1) 0 (by simpa using hb1)]; simpa using hqz
    have grz : w1.frozen? ⟨b + 2, 0, none⟩ = false := by rw [hx.froz (b + 2) 0 (by simpa using hb2)]; simpa using hrz
    refine wpAnyS_one (i := 3) (by decide +kernel) ?_
    simp [wpOpS, go_sem]
    refine wpAnyS_three (i := 4) (j := 5) (k := 6) (by decide +kernel) ?_ ?_ ?_
    · simp [wpOpS, go_sem]
      refine wpAnyS_three (i := 5) (j := 6) (k := 7) (by decide +kernel) ?_ ?_ ?_
      · simp [wpOpS, go_sem]
        refine wpAnyS_two (i := 6) (j := 7) (by decide +kernel) ?_ ?_
        · simp [wpOpS, go_sem]
          refine wpAnyS_one (i := 7) (by decide +kernel) ?_
          simp [wpOpS, go_sem, gp, gpz]
          refine wpAnyS_one (i := 8) (by decide +kernel) ?_
          simp [wpOpS, go_sem, gq, gqz]
          refine wpAnyS_one (i := 9) (by decide +kernel) ?_
          simp [wpOpS, go_sem, gr, grz]
          refine wpAnyS_done (by decide +kernel) ?_ _
          exact ⟨rfl, _, rfl, .tuple #[], results_none (by rfl) _ _ _, rfl, rfl, w1, (Ext.refl w).drew.trans hx, rfl⟩
        · simp [wpOpS, go_sem, gp, gpz]
          refine wpAnyS_two (i := 6) (j := 8) (by decide +kernel) ?_ ?_
          · simp [wpOpS, go_sem]
            refine wpAnyS_one (i := 8) (by decide +kernel) ?_
            simp [wpOpS, go_sem, gq, gqz]
            refine wpAnyS_one (i := 9) (by decide +kernel) ?_
            simp [wpOpS, go_sem, gr, grz]
            refine wpAnyS_done (by decide +kernel) ?_ _
            exact ⟨rfl, _, rfl, .tuple #[], results_none (by rfl) _ _ _, rfl, rfl, w1, (Ext.refl w).drew.trans hx, rfl⟩
          · simp [wpOpS, go_sem, gq, gqz]
            refine wpAnyS_one (i := 6) (by decide +kernel) ?_
            simp [wpOpS, go_sem]
            refine wpAnyS_one (i := 9) (by decide +kernel) ?_
            simp [wpOpS, go_sem, gr, grz]
            refine wpAnyS_done (by decide +kernel) ?_ _
            exact ⟨rfl, _, rfl, .tuple #[], results_none (by rfl) _ _ _, rfl, rfl, w1, (Ext.refl w).drew.trans hx, rfl⟩
      · simp [wpOpS, go_sem]
        refine wpAnyS_two (i := 5) (j := 7) (by decide +kernel) ?_ ?_
        · simp [wpOpS, go_sem]
          refine wpAnyS_one (i := 7) (by decide +kernel) ?_
          simp [wpOpS, go_sem, gp, gpz]
          refine wpAnyS_one (i := 8) (by decide +kernel) ?_
          simp [wpOpS, go_sem, gq, gqz]
          refine wpAnyS_one (i := 9) (by decide +kernel) ?_
          simp [wpOpS, go_sem, gr, grz]
          refine wpAnyS_done (by decide +kernel) ?_ _
          exact ⟨rfl, _, rfl, .tuple #[], results_none (by rfl) _ _ _, rfl, rfl, w1, (Ext.refl w).drew.trans hx, rfl⟩
        · simp [wpOpS, go_sem, gp, gpz]
          refine wpAnyS_one (i := 5) (by decide +kernel) ?_
          simp [wpOpS, go_sem]
          refine wpAnyS_one (i := 8) (by decide +kernel) ?_
          simp [wpOpS, go_sem, gq, gqz]
          refine wpAnyS_one (i := 9) (by decide +kernel) ?_
          simp [wpOpS, go_sem, gr, grz]
          refine wpAnyS_done (by decide +kernel) ?_ _
          exact ⟨rfl, _, rfl, .tuple #[], results_none (by rfl) _ _ _, rfl, rfl, w1, (Ext.refl w).drew.trans hx, rfl⟩
      · simp [wpOpS, go_sem, gp, gpz]
        refine wpAnyS_two (i := 5) (j := 6) (by decide +kernel) ?_ ?_
        · simp [wpOpS, go_sem]
          refine wpAnyS_two (i := 6) (j := 8) (by decide +kernel) ?_ ?_
          · simp [wpOpS, go_sem]
            refine wpAnyS_one (i := 8) (by decide +kernel) ?_
            simp [wpOpS, go_sem, gq, gqz]
            refine wpAnyS_one (i := 9) (by decide +kernel) ?_
            simp [wpOpS, go_sem, gr, grz]
            refine wpAnyS_done (by decide +kernel) ?_ _
            exact ⟨rfl, _, rfl, .tuple #[], results_none (by rfl) _ _ _, rfl, rfl, w1, (Ext.refl w).drew.trans hx, rfl⟩
          · simp [wpOpS, go_sem, gq, gqz]
            refine wpAnyS_one (i := 6) (by decide +kernel) ?_
            simp [wpOpS, go_sem]
            refine wpAnyS_one (i := 9) (by decide +kernel) ?_
            simp [wpOpS, go_sem, gr, grz]
            refine wpAnyS_done (by decide +kernel) ?_ _
            exact ⟨rfl, _, rfl, .tuple #[], results_none (by rfl) _ _ _, rfl, rfl, w1, (Ext.refl w).drew.trans hx, rfl⟩
        · simp [wpOpS, go_sem]
          refine wpAnyS_one (i := 5) (by decide +kernel) ?_
          simp [wpOpS, go_sem]
          refine wpAnyS_one (i := 8) (by decide +kernel) ?_
          simp [wpOpS, go_sem, gq, gqz]
          refine wpAnyS_one (i := 9) (by decide +kernel) ?_
          simp [wpOpS, go_sem, gr, grz]
          refine wpAnyS_done (by decide +kernel) ?_ _
          exact ⟨rfl, _, rfl, .tuple #[], results_none (by rfl) _ _ _, rfl, rfl, w1, (Ext.refl w).drew.trans hx, rfl⟩
    · simp [wpOpS, go_sem]
      refine wpAnyS_two (i := 4) (j := 6) (by decide +kernel) ?_ ?_
      · simp [wpOpS, go_sem]
        refine wpAnyS_two (i := 6) (j := 7) (by decide +kernel) ?_ ?_
        · simp [wpOpS, go_sem]
          refine wpAnyS_one (i := 7) (by decide +kernel) ?_
          simp [wpOpS, go_sem, gp, gpz]
          refine wpAnyS_one (i := 8) (by decide +kernel) ?_
          simp [wpOpS, go_sem, gq, gqz]
          refine wpAnyS_one (i := 9) (by decide +kernel) ?_
          simp [wpOpS, go_sem, gr, grz]
          refine wpAnyS_done (by decide +kernel) ?_ _
          exact ⟨rfl, _, rfl, .tuple #[], results_none (by rfl) _ _ _, rfl, rfl, w1, (Ext.refl w).drew.trans hx, rfl⟩
        · simp [wpOpS, go_sem, gp, gpz]
          refine wpAnyS_two (i := 6) (j := 8) (by decide +kernel) ?_ ?_
          · simp [wpOpS, go_sem]
            refine wpAnyS_one (i := 8) (by decide +kernel) ?_
            simp [wpOpS, go_sem, gq, gqz]
            refine wpAnyS_one (i := 9) (by decide +kernel) ?_
            simp [wpOpS, go_sem, gr, grz]
            refine wpAnyS_done (by decide +kernel) ?_ _
            exact ⟨rfl, _, rfl, .tuple #[], results_none (by rfl) _ _ _, rfl, rfl, w1, (Ext.refl w).drew.trans hx, rfl⟩
          · simp [wpOpS, go_sem, gq, gqz]
            refine wpAnyS_one (i := 6) (by decide +kernel) ?_
            simp [wpOpS, go_sem]
            refine wpAnyS_one (i := 9) (by decide +kernel) ?_
            simp [wpOpS, go_sem, gr, grz]
            refine wpAnyS_done (by decide +kernel) ?_ _
            exact ⟨rfl, _, rfl, .tuple #[], results_none (by rfl) _ _ _, rfl, rfl, w1, (Ext.refl w).drew.trans hx, rfl⟩
      · simp [wpOpS, go_sem]
        refine wpAnyS_one (i := 4) (by decide +kernel) ?_
        simp [wpOpS, go_sem]
        refine wpAnyS_one (i := 7) (by decide +kernel) ?_
        simp [wpOpS, go_sem, gp, gpz]
        refine wpAnyS_one (i := 8) (by decide +kernel) ?_
        simp [wpOpS, go_sem, gq, gqz]
        refine wpAnyS_one (i := 9) (by decide +kernel) ?_
        simp [wpOpS, go_sem, gr, grz]
        refine wpAnyS_done (by decide +kernel) ?_ _
        exact ⟨rfl, _, rfl, .tuple #[], results_none (by rfl) _ _ _, rfl, rfl, w1, (Ext.refl w).drew.trans hx, rfl⟩
    · simp [wpOpS, go_sem]
      refine wpAnyS_two (i := 4) (j := 5) (by decide +kernel) ?_ ?_
      · simp [wpOpS, go_sem]
        refine wpAnyS_two (i := 5) (j := 7) (by decide +kernel) ?_ ?_
        · simp [wpOpS, go_sem]
          refine wpAnyS_one (i := 7) (by decide +kernel) ?_
          simp [wpOpS, go_sem, gp, gpz]
          refine wpAnyS_one (i := 8) (by decide +kernel) ?_
          simp [wpOpS, go_sem, gq, gqz]
          refine wpAnyS_one (i := 9) (by decide +kernel) ?_
          simp [wpOpS, go_sem, gr, grz]
          refine wpAnyS_done (by decide +kernel) ?_ _
          exact ⟨rfl, _, rfl, .tuple #[], results_none (by rfl) _ _ _, rfl, rfl, w1, (Ext.refl w).drew.trans hx, rfl⟩
        · simp [wpOpS, go_sem, gp, gpz]
          refine wpAnyS_one (i := 5) (by decide +kernel) ?_
          simp [wpOpS, go_sem]
          refine wpAnyS_one (i := 8) (by decide +kernel) ?_
          simp [wpOpS, go_sem, gq, gqz]
          refine wpAnyS_one (i := 9) (by decide +kernel) ?_
          simp [wpOpS, go_sem, gr, grz]
          refine wpAnyS_done (by decide +kernel) ?_ _
          exact ⟨rfl, _, rfl, .tuple #[], results_none (by rfl) _ _ _, rfl, rfl, w1, (Ext.refl w).drew.trans hx, rfl⟩
      · simp [wpOpS, go_sem]
        refine wpAnyS_one (i := 4) (by decide +kernel) ?_
        simp [wpOpS, go_sem]
        refine wpAnyS_one (i := 7) (by decide +kernel) ?_
        simp [wpOpS, go_sem, gp, gpz]
        refine wpAnyS_one (i := 8) (by decide +kernel) ?_
        simp [wpOpS, go_sem, gq, gqz]
        refine wpAnyS_one (i := 9) (by decide +kernel) ?_
        simp [wpOpS, go_sem, gr, grz]
        refine wpAnyS_done (by decide +kernel) ?_ _
        exact ⟨rfl, _, rfl, .tuple #[], results_none (by rfl) _ _ _, rfl, rfl, w1, (Ext.refl w).drew.trans hx, rfl⟩
  · simp [wpOpS, go_sem, hp, Tryd.ntmps12]
    refine wpAnyS_one (i := 0) (by decide +kernel) ?_
    simp [wpOpS, go_sem, recoverD, hu]
    refine wpAnyS_one (i := 2) (by decide +kernel) ?_
    simp [wpOpS, go_sem]
    refine (settleAt_errno _ _ _).mono ?_
    rintro e w1 ⟨rfl, hx⟩
    have gp : w1.cell? ⟨b, 0, none⟩ = some (.slice ao n m) := by rw [hx.cell b 0 (by simpa using hb0)]; simpa using hp
    have gq : w1.cell? ⟨b + 1, 0, none⟩ = some (.int .i64 y) := by rw [hx.cell (b + 1) 0 (by simpa using hb1)]; simpa using hq
    have gr : w1.cell? ⟨b + 2, 0, none⟩ = some (.int .i64 z) := by rw [hx.cell (b + 2) 0 (by simpa using hb2)]; simpa using hr
    have gpz : w1.frozen? ⟨b, 0, none⟩ = false := by rw [hx.froz b 0 (by simpa using hb0)]; simpa using hpz
    have gqz : w1.frozen? ⟨b + 1, 0, none⟩ = false := by rw [hx.froz (b + 1) 0 (by simpa using hb1)]; simpa using hqz
    have grz : w1.frozen? ⟨b + 2, 0, none⟩ = false := by rw [hx.froz (b + 2) 0 (by simpa using hb2)]; simpa using hrz
    refine wpAnyS_one (i := 3) (by decide +kernel) ?_
    simp [wpOpS, go_sem]
    refine wpAnyS_three (i := 4) (j := 5) (k := 6) (by decide +kernel) ?_ ?_ ?_
    · simp [wpOpS, go_sem]
      refine wpAnyS_three (i := 5) (j := 6) (k := 7) (by decide +kernel) ?_ ?_ ?_
      · simp [wpOpS, go_sem]
        refine wpAnyS_two (i := 6) (j := 7) (by decide +kernel) ?_ ?_
        · simp [wpOpS, go_sem]
          refine wpAnyS_one (i := 7) (by decide +kernel) ?_
          simp [wpOpS, go_sem, gp, gpz]
          refine wpAnyS_one (i := 8) (by decide +kernel) ?_
          simp [wpOpS, go_sem, gq, gqz]
          refine wpAnyS_one (i := 9) (by decide +kernel) ?_
          simp [wpOpS, go_sem, gr, grz]
          refine wpAnyS_done (by decide +kernel) ?_ _
          exact ⟨rfl, _, rfl, .tuple #[], results_none (by rfl) _ _ _, rfl, rfl, w1, (Ext.refl w).drew.trans hx, rfl⟩
        · simp [wpOpS, go_sem, gp, gpz]
          refine wpAnyS_two (i := 6) (j := 8) (by decide +kernel) ?_ ?_
          · simp [wpOpS, go_sem]
            refine wpAnyS_one (i := 8) (by decide +kernel) ?_
            simp [wpOpS, go_sem, gq, gqz]
            refine wpAnyS_one (i := 9) (by decide +kernel) ?_
            simp [wpOpS, go_sem, gr, grz]
            refine wpAnyS_done (by decide +kernel) ?_ _
            exact ⟨rfl, _, rfl, .tuple #[], results_none (by rfl) _ _ _, rfl, rfl, w1, (Ext.refl w).drew.trans hx, rfl⟩
          · simp [wpOpS, go_sem, gq, gqz]
            refine wpAnyS_one (i := 6) (by decide +kernel) ?_
            simp [wpOpS, go_sem]
            refine wpAnyS_one (i := 9) (by decide +kernel) ?_
            simp [wpOpS, go_sem, gr, grz]
            refine wpAnyS_done (by decide +kernel) ?_ _
            exact ⟨rfl, _, rfl, .tuple #[], results_none (by rfl) _ _ _, rfl, rfl, w1, (Ext.refl w).drew.trans hx, rfl⟩
      · simp [wpOpS, go_sem]
        refine wpAnyS_two (i := 5) (j := 7) (by decide +kernel) ?_ ?_
        · simp [wpOpS, go_sem]
          refine wpAnyS_one (i := 7) (by decide +kernel) ?_
          simp [wpOpS, go_sem, gp, gpz]
          refine wpAnyS_one (i := 8) (by decide +kernel) ?_
          simp [wpOpS, go_sem, gq, gqz]
          refine wpAnyS_one (i := 9) (by decide +kernel) ?_
          simp [wpOpS, go_sem, gr, grz]
          refine wpAnyS_done (by decide +kernel) ?_ _
          exact ⟨rfl, _, rfl, .tuple #[], results_none (by rfl) _ _ _, rfl, rfl, w1, (Ext.refl w).drew.trans hx, rfl⟩
        · simp [wpOpS, go_sem, gp, gpz]
          refine wpAnyS_one (i := 5) (by decide +kernel) ?_
          simp [wpOpS, go_sem]
          refine wpAnyS_one (i := 8) (by decide +kernel) ?_
          simp [wpOpS, go_sem, gq, gqz]
          refine wpAnyS_one (i := 9) (by decide +kernel) ?_
          simp [wpOpS, go_sem, gr, grz]
          refine wpAnyS_done (by decide +kernel) ?_ _
          exact ⟨rfl, _, rfl, .tuple #[], results_none (by rfl) _ _ _, rfl, rfl, w1, (Ext.refl w).drew.trans hx, rfl⟩
      · simp [wpOpS, go_sem, gp, gpz]
        refine wpAnyS_two (i := 5) (j := 6) (by decide +kernel) ?_ ?_
        · simp [wpOpS, go_sem]
          refine wpAnyS_two (i := 6) (j := 8) (by decide +kernel) ?_ ?_
          · simp [wpOpS, go_sem]
            refine wpAnyS_one (i := 8) (by decide +kernel) ?_
            simp [wpOpS, go_sem, gq, gqz]
            refine wpAnyS_one (i := 9) (by decide +kernel) ?_
            simp [wpOpS, go_sem, gr, grz]
            refine wpAnyS_done (by decide +kernel) ?_ _
            exact ⟨rfl, _, rfl, .tuple #[], results_none (by rfl) _ _ _, rfl, rfl, w1, (Ext.refl w).drew.trans hx, rfl⟩
          · simp [wpOpS, go_sem, gq, gqz]
            refine wpAnyS_one (i := 6) (by decide +kernel) ?_
            simp [wpOpS, go_sem]
            refine wpAnyS_one (i := 9) (by decide +kernel) ?_
            simp [wpOpS, go_sem, gr, grz]
            refine wpAnyS_done (by decide +kernel) ?_ _
            exact ⟨rfl, _, rfl, .tuple #[], results_none (by rfl) _ _ _, rfl, rfl, w1, (Ext.refl w).drew.trans hx, rfl⟩
        · simp [wpOpS, go_sem]
          refine wpAnyS_one (i := 5) (by decide +kernel) ?_
          simp [wpOpS, go_sem]
          refine wpAnyS_one (i := 8) (by decide +kernel) ?_
          simp [wpOpS, go_sem, gq, gqz]
          refine wpAnyS_one (i := 9) (by decide +kernel) ?_
          simp [wpOpS, go_sem, gr, grz]
          refine wpAnyS_done (by decide +kernel) ?_ _
          exact ⟨rfl, _, rfl, .tuple #[], results_none (by rfl) _ _ _, rfl, rfl, w1, (Ext.refl w).drew.trans hx, rfl⟩
    · simp [wpOpS, go_sem]
      refine wpAnyS_two (i := 4) (j := 6) (by decide +kernel) ?_ ?_
      · simp [wpOpS, go_sem]
        refine wpAnyS_two (i := 6) (j := 7) (by decide +kernel) ?_ ?_
        · simp [wpOpS, go_sem]
          refine wpAnyS_one (i := 7) (by decide +kernel) ?_
          simp [wpOpS, go_sem, gp, gpz]
          refine wpAnyS_one (i := 8) (by decide +kernel) ?_
          simp [wpOpS, go_sem, gq, gqz]
          refine wpAnyS_one (i := 9) (by decide +kernel) ?_
          simp [wpOpS, go_sem, gr, grz]
          refine wpAnyS_done (by decide +kernel) ?_ _
          exact ⟨rfl, _, rfl, .tuple #[], results_none (by rfl) _ _ _, rfl, rfl, w1, (Ext.refl w).drew.trans hx, rfl⟩
        · simp [wpOpS, go_sem, gp, gpz]
          refine wpAnyS_two (i := 6) (j := 8) (by decide +kernel) ?_ ?_
          · simp [wpOpS, go_sem]
            refine wpAnyS_one (i := 8) (by decide +kernel) ?_
            simp [wpOpS, go_sem, gq, gqz]
            refine wpAnyS_one (i := 9) (by decide +kernel) ?_
            simp [wpOpS, go_sem, gr, grz]
            refine wpAnyS_done (by decide +kernel) ?_ _
            exact ⟨rfl, _, rfl, .tuple #[], results_none (by rfl) _ _ _, rfl, rfl, w1, (Ext.refl w).drew.trans hx, rfl⟩
          · simp [wpOpS, go_sem, gq, gqz]
            refine wpAnyS_one (i := 6) (by decide +kernel) ?_
            simp [wpOpS, go_sem]
            refine wpAnyS_one (i := 9) (by decide +kernel) ?_
            simp [wpOpS, go_sem, gr, grz]
            refine wpAnyS_done (by decide +kernel) ?_ _
            exact ⟨rfl, _, rfl, .tuple #[], results_none (by rfl) _ _ _, rfl, rfl, w1, (Ext.refl w).drew.trans hx, rfl⟩
      · simp [wpOpS, go_sem]
        refine wpAnyS_one (i := 4) (by decide +kernel) ?_
        simp [wpOpS, go_sem]
        refine wpAnyS_one (i := 7) (by decide +kernel) ?_
        simp [wpOpS, go_sem, gp, gpz]
        refine wpAnyS_one (i := 8) (by decide +kernel) ?_
        simp [wpOpS, go_sem, gq, gqz]
        refine wpAnyS_one (i := 9) (by decide +kernel) ?_
        simp [wpOpS, go_sem, gr, grz]
        refine wpAnyS_done (by decide +kernel) ?_ _
        exact ⟨rfl, _, rfl, .tuple #[], results_none (by rfl) _ _ _, rfl, rfl, w1, (Ext.refl w).drew.trans hx, rfl⟩
    · simp [wpOpS, go_sem]
      refine wpAnyS_two (i := 4) (j := 5) (by decide +kernel) ?_ ?_
      · simp [wpOpS, go_sem]
        refine wpAnyS_two (i := 5) (j := 7) (by decide +kernel) ?_ ?_
        · simp [wpOpS, go_sem]
          refine wpAnyS_one (i := 7) (by decide +kernel) ?_
          simp [wpOpS, go_sem, gp, gpz]
          refine wpAnyS_one (i := 8) (by decide +kernel) ?_
          simp [wpOpS, go_sem, gq, gqz]
          refine wpAnyS_one (i := 9) (by decide +kernel) ?_
          simp [wpOpS, go_sem, gr, grz]
          refine wpAnyS_done (by decide +kernel) ?_ _
          exact ⟨rfl, _, rfl, .tuple #[], results_none (by rfl) _ _ _, rfl, rfl, w1, (Ext.refl w).drew.trans hx, rfl⟩
        · simp [wpOpS, go_sem, gp, gpz]
          refine wpAnyS_one (i := 5) (by decide +kernel) ?_
          simp [wpOpS, go_sem]
          refine wpAnyS_one (i := 8) (by decide +kernel) ?_
          simp [wpOpS, go_sem, gq, gqz]
          refine wpAnyS_one (i := 9) (by decide +kernel) ?_
          simp [wpOpS, go_sem, gr, grz]
          refine wpAnyS_done (by decide +kernel) ?_ _
          exact ⟨rfl, _, rfl, .tuple #[], results_none (by rfl) _ _ _, rfl, rfl, w1, (Ext.refl w).drew.trans hx, rfl⟩
      · simp [wpOpS, go_sem]
        refine wpAnyS_one (i := 4) (by decide +kernel) ?_
        simp [wpOpS, go_sem]
        refine wpAnyS_one (i := 7) (by decide +kernel) ?_
        simp [wpOpS, go_sem, gp, gpz]
        refine wpAnyS_one (i := 8) (by decide +kernel) ?_
        simp [wpOpS, go_sem, gq, gqz]
        refine wpAnyS_one (i := 9) (by decide +kernel) ?_
        simp [wpOpS, go_sem, gr, grz]
        refine wpAnyS_done (by decide +kernel) ?_ _
        exact ⟨rfl, _, rfl, .tuple #[], results_none (by rfl) _ _ _, rfl, rfl, w1, (Ext.refl w).drew.trans hx, rfl⟩
end Go.Proofs.YtocdkgmmnkmlpaaDoor
