/- Texts of an elder layer, one behind the other (layer 6), as contracts: no statement of the seat is proved here. -/
import Derived.Test.YtafjmpaefikdcaaGreatDoorM3
import Derived.Test.YtafjmpaefikdcaaGreatDoorLate
import Derived.Deep.DeepCutAuto
import Derived.Laws.EntriesVeiled
import Derived.Deep.RegionHeld3
/- A year's parts, by themselves: at how many parts a day lies, by each count, and how many a day has: plain arithmetic, no program is spoken of here. -/
namespace Go.Proofs.YtafjmpaefikdcaaGreatDoor.L6
open Go.Proofs.YtafjmpaefikdcaaGreatDoor.L3
set_option linter.unusedVariables false

theorem inD_iff (n : Int) : inD n = true ↔ -25567 ≤ n ∧ n ≤ 84370 := by unfold inD; exact decide_eq_true_iff
theorem inD_t {n : Int} (h1 : -25567 ≤ n) (h2 : n ≤ 84370) : inD n = true := (inD_iff n).2 ⟨h1, h2⟩
theorem inD_f {n : Int} (h : n < -25567 ∨ 84370 < n) : inD n = false := by
  cases e : inD n
  · rfl
  · have := (inD_iff n).1 e; omega
/-- The year of a day. -/
theorem yOf_sp (n : Int) (h1 : -25567 ≤ n) (h2 : n ≤ 84370) : 1900 ≤ yOf n ∧ yOf n ≤ 2200 ∧ st (yOf n) ≤ n ∧ n < st (yOf n + 1) := by
  obtain ⟨hv, hn⟩ := ofDay n h1 h2
  have m1 := hv.m1; have m2 := hv.m2
  have c1 := cum_bd (yOf n) (mOf n) m1 (by omega)
  have c2 := cum_succ (yOf n) (mOf n) m1 m2
  have c3 := cum_end (yOf n)
  have c4 : cum (yOf n) (mOf n + 1) ≤ cum (yOf n) 13 := by
    rcases Int.lt_or_eq_of_le m2 with k | k
    · have := cum_mono (yOf n) (mOf n) 13 m1 (by omega) (by omega); exact this
    · rw [k]; exact Int.le_refl _
  have s := st_succ (yOf n)
  obtain ⟨y1, y2, d1, d2⟩ := hv
  unfold num at hn
  exact ⟨y1, y2, by omega, by omega⟩
theorem yOf_at {n y : Int} (h1 : -25567 ≤ n) (h2 : n ≤ 84370) (k1 : st y ≤ n) (k2 : n < st (y + 1)) : yOf n = y := by
  obtain ⟨y1, y2, s1, s2⟩ := yOf_sp n h1 h2
  rcases Int.lt_trichotomy (yOf n) y with h | h | h
  · have := st_mono (yOf n + 1) y (by omega); omega
  · exact h
  · have := st_mono (y + 1) (yOf n) (by omega); omega
/-- A day is of the year of the one ahead of it, or the first of the next one. -/
theorem yOf_next (n : Int) (h1 : -25567 ≤ n) (h2 : n + 1 ≤ 84370) : yOf (n + 1) = yOf n ∨ (yOf (n + 1) = yOf n + 1 ∧ n + 1 = st (yOf n + 1)) := by
  obtain ⟨y1, y2, s1, s2⟩ := yOf_sp n h1 (by omega)
  by_cases h : n + 1 < st (yOf n + 1)
  · exact Or.inl (yOf_at (by omega) h2 (by omega) h)
  · have e : n + 1 = st (yOf n + 1) := by omega
    have s := st_succ (yOf n + 1)
    have l := lp_01 (yOf n + 1)
    exact Or.inr ⟨yOf_at (by omega) h2 (by omega) (by omega), e⟩

/-- The parts of a day, by Actual. -/
def dpt (y : Int) : Int := if lng y = true then 365 else 366
theorem dpt_lp (y : Int) : dpt y = 366 - lp y := by unfold dpt lp; split <;> omega
def d30 (n : Int) : Int := if dOf n ≤ 30 then dOf n else 30
def plT (n : Int) : Int := 360 * yOf n + 30 * mOf n + d30 n
def plA (n : Int) : Int := yOf n * 133590 + (n - st (yOf n)) * dpt (yOf n)
/-- At how many parts a day lies. -/
def plc (c n : Int) : Int := if c = 1 then plT n else if c = 2 then n else plA n
theorem plc_1 (n : Int) : plc 1 n = plT n := rfl
theorem plc_2 (n : Int) : plc 2 n = n := rfl
theorem plc_3 (n : Int) : plc 3 n = plA n := rfl
theorem d30_bd {n : Int} (h1 : -25567 ≤ n) (h2 : n ≤ 84370) : 1 ≤ d30 n ∧ d30 n ≤ 30 := by
  obtain ⟨hv, hn⟩ := ofDay n h1 h2
  have := hv.d1
  unfold d30; split <;> omega
theorem plT_bd {n : Int} (h1 : -25567 ≤ n) (h2 : n ≤ 84370) : 0 ≤ plT n ∧ plT n ≤ 400000000 := by
  obtain ⟨y1, y2, s1, s2⟩ := yOf_sp n h1 h2
  obtain ⟨hv, hn⟩ := ofDay n h1 h2
  have m1 := hv.m1; have m2 := hv.m2
  have := d30_bd h1 h2
  unfold plT; omega
theorem mul_dpt (k y : Int) (h1 : 0 ≤ k) (h2 : k ≤ 366) : 0 ≤ k * dpt y ∧ k * dpt y ≤ 133956 := by
  rw [dpt_lp]
  have l := lp_01 y
  rcases (by omega : lp y = 0 ∨ lp y = 1) with e | e <;> rw [e] <;> omega
theorem plA_bd {n : Int} (h1 : -25567 ≤ n) (h2 : n ≤ 84370) : 0 ≤ plA n ∧ plA n ≤ 400000000 := by
  obtain ⟨y1, y2, s1, s2⟩ := yOf_sp n h1 h2
  have s := st_succ (yOf n)
  have l := lp_01 (yOf n)
  have := mul_dpt (n - st (yOf n)) (yOf n) (by omega) (by omega)
  unfold plA; omega
theorem plc_bd (c : Int) {n : Int} (h1 : -25567 ≤ n) (h2 : n ≤ 84370) : -400000000 ≤ plc c n ∧ plc c n ≤ 400000000 := by
  have := plT_bd h1 h2
  have := plA_bd h1 h2
  unfold plc; split
  · omega
  · split <;> omega
/-- The parts of the span from a day to the next one. -/
def oneP (c n : Int) : Int := if c = 2 then 1 else if c = 3 then dpt (yOf n) else plT (n + 1) - plT n
theorem plA_next (n : Int) (h1 : -25567 ≤ n) (h2 : n + 1 ≤ 84370) : plA (n + 1) = plA n + dpt (yOf n) := by
  have l := lp_01 (yOf n)
  have s := st_succ (yOf n)
  rcases yOf_next n h1 h2 with h | ⟨h, e⟩
  · unfold plA; rw [h, dpt_lp]
    rcases (by omega : lp (yOf n) = 0 ∨ lp (yOf n) = 1) with e | e <;> rw [e] <;> omega
  · unfold plA; rw [h, dpt_lp (yOf n), ← e]
    have e2 : n - st (yOf n) = 364 + lp (yOf n) := by omega
    rw [e2, show n + 1 - (n + 1) = 0 by omega, Int.zero_mul]
    rcases (by omega : lp (yOf n) = 0 ∨ lp (yOf n) = 1) with e | e <;> rw [e] <;> omega
theorem plc_next (c n : Int) (k1 : 1 ≤ c) (k2 : c ≤ 3) (h1 : -25567 ≤ n) (h2 : n + 1 ≤ 84370) : plc c (n + 1) = plc c n + oneP c n := by
  rcases (by omega : c = 1 ∨ c = 2 ∨ c = 3) with e | e | e <;> subst e
  · show plT (n + 1) = plT n + (plT (n + 1) - plT n); omega
  · rfl
  · exact plA_next n h1 h2
theorem oneP_bd (c n : Int) (k1 : 1 ≤ c) (k2 : c ≤ 3) (h1 : -25567 ≤ n) (h2 : n + 1 ≤ 84370) : -800000000 ≤ oneP c n ∧ oneP c n ≤ 800000000 := by
  have := plc_next c n k1 k2 h1 h2
  have := plc_bd c h1 (by omega : n ≤ 84370)
  have := plc_bd c (by omega : -25567 ≤ n + 1) h2
  omega

/-- What Parts and Between answer. -/
def ptA (c : Int) : Int := if c = 1 then 360 else if c = 2 then 365 else if c = 3 then 133590 else 0
def ptE (c : Int) : Int := if 1 ≤ c ∧ c ≤ 3 then 0 else 1
def btA (c f t : Int) : Int := if (1 ≤ c ∧ c ≤ 3) ∧ inD f = true ∧ inD t = true then plc c t - plc c f else 0
def btE (c f t : Int) : Int := if 1 ≤ c ∧ c ≤ 3 then (if inD f = true ∧ inD t = true then 0 else 5) else 1
theorem pt_ok {c : Int} (h1 : 1 ≤ c) (h2 : c ≤ 3) : ptE c = 0 := by unfold ptE; rw [if_pos ⟨h1, h2⟩]
theorem pt_no {c : Int} (h : ¬ (1 ≤ c ∧ c ≤ 3)) : ptA c = 0 ∧ ptE c = 1 := by
  unfold ptA ptE; rw [if_neg h]
  refine ⟨?_, rfl⟩
  rw [if_neg (by omega), if_neg (by omega), if_neg (by omega)]
theorem bt_ok {c f t : Int} (h1 : 1 ≤ c) (h2 : c ≤ 3) (hf : inD f = true) (ht : inD t = true) : btA c f t = plc c t - plc c f ∧ btE c f t = 0 := by
  unfold btA btE; rw [if_pos ⟨⟨h1, h2⟩, hf, ht⟩, if_pos ⟨h1, h2⟩, if_pos ⟨hf, ht⟩]; exact ⟨rfl, rfl⟩
theorem bt_no {c f t : Int} (h : ¬ (1 ≤ c ∧ c ≤ 3)) : btA c f t = 0 ∧ btE c f t = 1 := by
  unfold btA btE; rw [if_neg (fun k => h k.1), if_neg h]; exact ⟨rfl, rfl⟩
theorem bt_day {c f t : Int} (h1 : 1 ≤ c) (h2 : c ≤ 3) (h : ¬ (inD f = true ∧ inD t = true)) : btA c f t = 0 ∧ btE c f t = 5 := by
  unfold btA btE; rw [if_neg (fun k => h k.2), if_pos ⟨h1, h2⟩, if_neg h]; exact ⟨rfl, rfl⟩
theorem bt_bd (c f t : Int) : -800000000 ≤ btA c f t ∧ btA c f t ≤ 800000000 := by
  unfold btA; split
  · rename_i h
    have a := (inD_iff f).1 h.2.1
    have b := (inD_iff t).1 h.2.2
    have := plc_bd c a.1 a.2
    have := plc_bd c b.1 b.2
    omega
  · omega
/-- A day by its date. -/
theorem plT_of {y m d : Int} (h : Vld y m d) : plT (num y m d) = 360 * y + 30 * m + (if d ≤ 30 then d else 30) := by
  obtain ⟨e1, e2, e3⟩ := ofDay_of h rfl
  unfold plT d30
  rw [← e1, ← e2, ← e3]
theorem vld_of {y m d : Int} (y1 : 1900 ≤ y) (y2 : y ≤ 2200) (m1 : 1 ≤ m) (m2 : m ≤ 12) (d1 : 1 ≤ d) (d2 : d ≤ 28) : Vld y m d :=
  ⟨y1, y2, d1, by have := dim_bd y m m1 m2; omega⟩
theorem num_11 (y : Int) : num y 1 1 = st y := by unfold num; rw [cum_one]; omega
theorem plT_st (y : Int) (y1 : 1900 ≤ y) (y2 : y ≤ 2200) : plT (st y) = 360 * y + 31 := by
  have := plT_of (vld_of y1 y2 (by omega : (1:Int) ≤ 1) (by omega) (by omega : (1:Int) ≤ 1) (by omega))
  rw [num_11] at this
  rw [this]; simp; omega
theorem plA_st (y : Int) (y1 : 1900 ≤ y) (y2 : y ≤ 2200) : plA (st y) = y * 133590 := by
  have b := num_bd (vld_of y1 y2 (by omega : (1:Int) ≤ 1) (by omega) (by omega : (1:Int) ≤ 1) (by omega))
  rw [num_11] at b
  have s := st_succ y
  have l := lp_01 y
  have e : yOf (st y) = y := yOf_at b.1 b.2 (by omega) (by omega)
  unfold plA
  rw [e, show st y - st y = 0 by omega, Int.zero_mul]; omega
end Go.Proofs.YtafjmpaefikdcaaGreatDoor.L6
/- What package throw, the deferred closures of the faces and the small functions of package fraction do, as contracts: no statement of the seat is proved here. -/
namespace Go.Proofs.YtafjmpaefikdcaaGreatDoor.L6
open Go.Proofs.YtafjmpaefikdcaaGreatDoor.L3
open Go.RowKit
set_option linter.unusedVariables false

theorem need_ok (c : Int) (w : World) :
    Calls Tryz.prog 20 #[.bool true, .int .i64 c] w fun e w' => e = .returned (.tuple #[]) ∧ w' = w := by
  go_enter Tryz.func20, Tryz.ntmps20
  go_wp2
  go_end0
  exact ⟨rfl, rfl⟩
theorem need_no (c : Int) (w : World) :
    Calls Tryz.prog 20 #[.bool false, .int .i64 c] w fun e w' => e = .panicked [{ v := .iface 33 (.int .i64 c), recovered := false }] ∧ w' = w := by
  go_enter Tryz.func20, Tryz.ntmps20
  go_wp2
  exact ⟨rfl, rfl, rfl⟩
theorem assert_errno (W : World) (x : Value) : (Instr.typeAssert (.iface 33 x) 20 33 true).run Tryz.prog W = .ok (.tuple #[x, .bool true]) W := by kernel_rfl
theorem settleAt_nil (v : Int) (w : World) :
    Calls Tryz.prog 37 #[.nilIface, .int .i64 v] w fun e w' => e = .returned (.tuple #[.int .i64 v, .int .i64 0, .int .i64 0]) ∧ w' = w := by
  go_enter Tryz.func37, Tryz.ntmps37
  go_wp2
  exact bodyPost_ret (v := .tuple #[.int .i64 v, .int .i64 0, .int .i64 0]) (by simp [results, Tryz.results37, go_sem]) rfl ⟨rfl, rfl⟩
theorem settleAt_thrown (c v : Int) (w : World) :
    Calls Tryz.prog 37 #[.iface 33 (.int .i64 c), .int .i64 v] w fun e w' => e = .returned (.tuple #[.int .i64 0, .int .i64 0, .int .i64 c]) ∧ w' = w := by
  have hta := assert_errno
  go_enter Tryz.func37, Tryz.ntmps37
  go_wp2
  exact bodyPost_ret (v := .tuple #[.int .i64 0, .int .i64 0, .int .i64 c]) (by simp [results, Tryz.results37, go_sem]) rfl ⟨rfl, rfl⟩
theorem settle_nil (v : Int) (w : World) :
    Calls Tryz.prog 18 #[.nilIface, .int .i64 v] w fun e w' => e = .returned (.tuple #[.int .i64 v, .int .i64 0]) ∧ w' = w := by
  go_enter Tryz.func18, Tryz.ntmps18
  go_wp2_with fail
  refine (settleAt_nil _ _).mono ?_
  rintro e w1 ⟨rfl, rfl⟩
  go_wp2
  go_ret2
  exact ⟨rfl, rfl⟩
theorem settle_thrown (c v : Int) (w : World) :
    Calls Tryz.prog 18 #[.iface 33 (.int .i64 c), .int .i64 v] w fun e w' => e = .returned (.tuple #[.int .i64 0, .int .i64 c]) ∧ w' = w := by
  go_enter Tryz.func18, Tryz.ntmps18
  go_wp2_with fail
  refine (settleAt_thrown _ _ _).mono ?_
  rintro e w1 ⟨rfl, rfl⟩
  go_wp2
  go_ret2
  exact ⟨rfl, rfl⟩
theorem parts_idle (b : Nat) (v z : Int) (w : World) (hp : w.cell? ⟨b, 0, none⟩ = some (.int .i64 v)) (hq : w.cell? ⟨b + 1, 0, none⟩ = some (.int .i64 z)) (hpz : w.frozen? ⟨b, 0, none⟩ = false) (hqz : w.frozen? ⟨b + 1, 0, none⟩ = false) :
    CallsD Tryz.prog 86 #[.pointer (some ⟨b, 0, none⟩), .pointer (some ⟨b + 1, 0, none⟩)] .returning w fun e u' w' => e = .returned (.tuple #[]) ∧ u' = .returning ∧ ∃ w1, Ext w w1 ∧ w' = ((w1.setCell ⟨b, 0, none⟩ (.int .i64 v)).setCell ⟨b + 1, 0, none⟩ (.int .i64 0)) := by
  refine callsD_of_wpS Tryz.func86 rfl fun c₀ cs hu => ?_
  refine wpS_region_any 8 rfl (by kernel_rfl) ?_
  refine wpAnyS_two (i := 0) (j := 1) (by decide +kernel) ?_ ?_
  · simp [wpOpS, go_sem, recoverD, hu, Tryz.ntmps86]
    refine wpAnyS_one (i := 1) (by decide +kernel) ?_
    simp [wpOpS, go_sem, hp]
    refine wpAnyS_one (i := 2) (by decide +kernel) ?_
    simp [wpOpS, go_sem]
    refine (settle_nil _ _).mono ?_
    rintro e w' ⟨rfl, rfl⟩
    refine wpAnyS_one (i := 3) (by decide +kernel) ?_
    simp [wpOpS, go_sem]
    refine wpAnyS_two (i := 4) (j := 5) (by decide +kernel) ?_ ?_
    · simp [wpOpS, go_sem]
      refine wpAnyS_two (i := 5) (j := 6) (by decide +kernel) ?_ ?_
      · simp [wpOpS, go_sem]
        refine wpAnyS_one (i := 6) (by decide +kernel) ?_
        simp [wpOpS, go_sem, hp, hpz]
        refine wpAnyS_one (i := 7) (by decide +kernel) ?_
        simp [wpOpS, go_sem, hq, hqz]
        refine wpAnyS_done (by decide +kernel) ?_ _
        exact ⟨rfl, .returning, by rw [← hu], .tuple #[], results_none (by rfl) _ _ _, rfl, rfl, w.drew, (Ext.refl w).drew, rfl⟩
      · simp [wpOpS, go_sem, hp, hpz]
        refine wpAnyS_one (i := 5) (by decide +kernel) ?_
        simp [wpOpS, go_sem]
        refine wpAnyS_one (i := 7) (by decide +kernel) ?_
        simp [wpOpS, go_sem, hq, hqz]
        refine wpAnyS_done (by decide +kernel) ?_ _
        exact ⟨rfl, .returning, by rw [← hu], .tuple #[], results_none (by rfl) _ _ _, rfl, rfl, w.drew, (Ext.refl w).drew, rfl⟩
    · simp [wpOpS, go_sem]
      refine wpAnyS_one (i := 4) (by decide +kernel) ?_
      simp [wpOpS, go_sem]
      refine wpAnyS_one (i := 6) (by decide +kernel) ?_
      simp [wpOpS, go_sem, hp, hpz]
      refine wpAnyS_one (i := 7) (by decide +kernel) ?_
      simp [wpOpS, go_sem, hq, hqz]
      refine wpAnyS_done (by decide +kernel) ?_ _
      exact ⟨rfl, .returning, by rw [← hu], .tuple #[], results_none (by rfl) _ _ _, rfl, rfl, w.drew, (Ext.refl w).drew, rfl⟩
  · simp [wpOpS, go_sem, hp, Tryz.ntmps86]
    refine wpAnyS_one (i := 0) (by decide +kernel) ?_
    simp [wpOpS, go_sem, recoverD, hu]
    refine wpAnyS_one (i := 2) (by decide +kernel) ?_
    simp [wpOpS, go_sem]
    refine (settle_nil _ _).mono ?_
    rintro e w' ⟨rfl, rfl⟩
    refine wpAnyS_one (i := 3) (by decide +kernel) ?_
    simp [wpOpS, go_sem]
    refine wpAnyS_two (i := 4) (j := 5) (by decide +kernel) ?_ ?_
    · simp [wpOpS, go_sem]
      refine wpAnyS_two (i := 5) (j := 6) (by decide +kernel) ?_ ?_
      · simp [wpOpS, go_sem]
        refine wpAnyS_one (i := 6) (by decide +kernel) ?_
        simp [wpOpS, go_sem, hp, hpz]
        refine wpAnyS_one (i := 7) (by decide +kernel) ?_
        simp [wpOpS, go_sem, hq, hqz]
        refine wpAnyS_done (by decide +kernel) ?_ _
        exact ⟨rfl, .returning, by rw [← hu], .tuple #[], results_none (by rfl) _ _ _, rfl, rfl, w.drew, (Ext.refl w).drew, rfl⟩
      · simp [wpOpS, go_sem, hp, hpz]
        refine wpAnyS_one (i := 5) (by decide +kernel) ?_
        simp [wpOpS, go_sem]
        refine wpAnyS_one (i := 7) (by decide +kernel) ?_
        simp [wpOpS, go_sem, hq, hqz]
        refine wpAnyS_done (by decide +kernel) ?_ _
        exact ⟨rfl, .returning, by rw [← hu], .tuple #[], results_none (by rfl) _ _ _, rfl, rfl, w.drew, (Ext.refl w).drew, rfl⟩
    · simp [wpOpS, go_sem]
      refine wpAnyS_one (i := 4) (by decide +kernel) ?_
      simp [wpOpS, go_sem]
      refine wpAnyS_one (i := 6) (by decide +kernel) ?_
      simp [wpOpS, go_sem, hp, hpz]
      refine wpAnyS_one (i := 7) (by decide +kernel) ?_
      simp [wpOpS, go_sem, hq, hqz]
      refine wpAnyS_done (by decide +kernel) ?_ _
      exact ⟨rfl, .returning, by rw [← hu], .tuple #[], results_none (by rfl) _ _ _, rfl, rfl, w.drew, (Ext.refl w).drew, rfl⟩
theorem parts_catch (b : Nat) (c v z : Int) (older : List PanicEntry) (w : World) (hp : w.cell? ⟨b, 0, none⟩ = some (.int .i64 v)) (hq : w.cell? ⟨b + 1, 0, none⟩ = some (.int .i64 z)) (hpz : w.frozen? ⟨b, 0, none⟩ = false) (hqz : w.frozen? ⟨b + 1, 0, none⟩ = false) :
    CallsD Tryz.prog 86 #[.pointer (some ⟨b, 0, none⟩), .pointer (some ⟨b + 1, 0, none⟩)] (.panicking ({ v := .iface 33 (.int .i64 c), recovered := false } :: older)) w fun e u' w' => e = .returned (.tuple #[]) ∧ u' = .panicking ({ v := .iface 33 (.int .i64 c), recovered := true } :: older) ∧ ∃ w1, Ext w w1 ∧ w' = ((w1.setCell ⟨b, 0, none⟩ (.int .i64 0)).setCell ⟨b + 1, 0, none⟩ (.int .i64 c)) := by
  refine callsD_of_wpS Tryz.func86 rfl fun c₀ cs hu => ?_
  refine wpS_region_any 8 rfl (by kernel_rfl) ?_
  refine wpAnyS_two (i := 0) (j := 1) (by decide +kernel) ?_ ?_
  · simp [wpOpS, go_sem, recoverD, hu, Tryz.ntmps86]
    refine wpAnyS_one (i := 1) (by decide +kernel) ?_
    simp [wpOpS, go_sem, hp]
    refine wpAnyS_one (i := 2) (by decide +kernel) ?_
    simp [wpOpS, go_sem]
    refine (settle_thrown _ _ _).mono ?_
    rintro e w' ⟨rfl, rfl⟩
    refine wpAnyS_one (i := 3) (by decide +kernel) ?_
    simp [wpOpS, go_sem]
    refine wpAnyS_two (i := 4) (j := 5) (by decide +kernel) ?_ ?_
    · simp [wpOpS, go_sem]
      refine wpAnyS_two (i := 5) (j := 6) (by decide +kernel) ?_ ?_
      · simp [wpOpS, go_sem]
        refine wpAnyS_one (i := 6) (by decide +kernel) ?_
        simp [wpOpS, go_sem, hp, hpz]
        refine wpAnyS_one (i := 7) (by decide +kernel) ?_
        simp [wpOpS, go_sem, hq, hqz]
        refine wpAnyS_done (by decide +kernel) ?_ _
        exact ⟨rfl, _, rfl, .tuple #[], results_none (by rfl) _ _ _, rfl, rfl, w.drew, (Ext.refl w).drew, rfl⟩
      · simp [wpOpS, go_sem, hp, hpz]
        refine wpAnyS_one (i := 5) (by decide +kernel) ?_
        simp [wpOpS, go_sem]
        refine wpAnyS_one (i := 7) (by decide +kernel) ?_
        simp [wpOpS, go_sem, hq, hqz]
        refine wpAnyS_done (by decide +kernel) ?_ _
        exact ⟨rfl, _, rfl, .tuple #[], results_none (by rfl) _ _ _, rfl, rfl, w.drew, (Ext.refl w).drew, rfl⟩
    · simp [wpOpS, go_sem]
      refine wpAnyS_one (i := 4) (by decide +kernel) ?_
      simp [wpOpS, go_sem]
      refine wpAnyS_one (i := 6) (by decide +kernel) ?_
      simp [wpOpS, go_sem, hp, hpz]
      refine wpAnyS_one (i := 7) (by decide +kernel) ?_
      simp [wpOpS, go_sem, hq, hqz]
      refine wpAnyS_done (by decide +kernel) ?_ _
      exact ⟨rfl, _, rfl, .tuple #[], results_none (by rfl) _ _ _, rfl, rfl, w.drew, (Ext.refl w).drew, rfl⟩
  · simp [wpOpS, go_sem, hp, Tryz.ntmps86]
    refine wpAnyS_one (i := 0) (by decide +kernel) ?_
    simp [wpOpS, go_sem, recoverD, hu]
    refine wpAnyS_one (i := 2) (by decide +kernel) ?_
    simp [wpOpS, go_sem]
    refine (settle_thrown _ _ _).mono ?_
    rintro e w' ⟨rfl, rfl⟩
    refine wpAnyS_one (i := 3) (by decide +kernel) ?_
    simp [wpOpS, go_sem]
    refine wpAnyS_two (i := 4) (j := 5) (by decide +kernel) ?_ ?_
    · simp [wpOpS, go_sem]
      refine wpAnyS_two (i := 5) (j := 6) (by decide +kernel) ?_ ?_
      · simp [wpOpS, go_sem]
        refine wpAnyS_one (i := 6) (by decide +kernel) ?_
        simp [wpOpS, go_sem, hp, hpz]
        refine wpAnyS_one (i := 7) (by decide +kernel) ?_
        simp [wpOpS, go_sem, hq, hqz]
        refine wpAnyS_done (by decide +kernel) ?_ _
        exact ⟨rfl, _, rfl, .tuple #[], results_none (by rfl) _ _ _, rfl, rfl, w.drew, (Ext.refl w).drew, rfl⟩
      · simp [wpOpS, go_sem, hp, hpz]
        refine wpAnyS_one (i := 5) (by decide +kernel) ?_
        simp [wpOpS, go_sem]
        refine wpAnyS_one (i := 7) (by decide +kernel) ?_
        simp [wpOpS, go_sem, hq, hqz]
        refine wpAnyS_done (by decide +kernel) ?_ _
        exact ⟨rfl, _, rfl, .tuple #[], results_none (by rfl) _ _ _, rfl, rfl, w.drew, (Ext.refl w).drew, rfl⟩
    · simp [wpOpS, go_sem]
      refine wpAnyS_one (i := 4) (by decide +kernel) ?_
      simp [wpOpS, go_sem]
      refine wpAnyS_one (i := 6) (by decide +kernel) ?_
      simp [wpOpS, go_sem, hp, hpz]
      refine wpAnyS_one (i := 7) (by decide +kernel) ?_
      simp [wpOpS, go_sem, hq, hqz]
      refine wpAnyS_done (by decide +kernel) ?_ _
      exact ⟨rfl, _, rfl, .tuple #[], results_none (by rfl) _ _ _, rfl, rfl, w.drew, (Ext.refl w).drew, rfl⟩
theorem box3f (w : World) (x y z : Value) (t : TypeId) : ∃ W b, w.alloc (.cells #[x, y, z] t) = W ∧ w.heap.size = b ∧ Ext w W ∧ W.cell? ⟨b, 0, none⟩ = some x ∧ W.cell? ⟨b, 1, none⟩ = some y ∧ W.cell? ⟨b, 2, none⟩ = some z ∧
    W.frozen? ⟨b, 0, none⟩ = false ∧ W.frozen? ⟨b, 1, none⟩ = false ∧ W.frozen? ⟨b, 2, none⟩ = false :=
  ⟨_, _, rfl, rfl, (Ext.refl w).alloc _ _, by simp [go_sem], by simp [go_sem], by simp [go_sem], by simp [go_sem], by simp [go_sem], by simp [go_sem]⟩
theorem rDate_f (n : Int) (w : World) (h1 : -25567 ≤ n) (h2 : n ≤ 84370) :
    Calls Tryz.prog 71 #[.int .i64 n] w fun e w' => e = .returned (.tuple #[.agg #[.int .i64 (yOf n), .int .i64 (mOf n), .int .i64 (dOf n)], .int .i64 0]) ∧ Ext w w' :=
  (rDate_ok n w h1 h2).mono fun e w' ⟨⟨y, m, d, he, hv, hn⟩, hx⟩ => by
    obtain ⟨rfl, rfl, rfl⟩ := ofDay_of hv hn
    exact ⟨he, hx⟩

theorem sureI_ok (v : Int) (w : World) :
    Calls Tryz.prog 120 #[.int .i64 v, .int .i64 0] w fun e w' => e = .returned (.int .i64 v) ∧ w' = w := by
  go_enter Tryz.func120, Tryz.ntmps120
  go_wp2_with fail
  refine (need_ok _ _).mono ?_
  rintro e w1 ⟨rfl, rfl⟩
  go_wp2
  go_ret
  exact ⟨rfl, rfl⟩
theorem dayParts_c (y : Int) (w : World) :
    Calls Tryz.prog 122 #[.int .i64 y] w fun e w' => e = .returned (.int .i64 (dpt y)) ∧ w' = w := by
  go_enter Tryz.func122, Tryz.ntmps122
  go_wp2_with fail
  refine (Long_c _ _).mono ?_
  rintro e w1 ⟨rfl, rfl⟩
  cases hl : lng y
  · have hd : dpt y = 366 := by unfold dpt; rw [hl]; rfl
    go_wp2
    go_ret
    exact ⟨ret_int hd.symm, rfl⟩
  · have hd : dpt y = 365 := by unfold dpt; rw [hl]; rfl
    go_wp2
    go_ret
    exact ⟨ret_int hd.symm, rfl⟩
theorem fixed_c (n y m d : Int) (w : World) :
    Calls Tryz.prog 106 #[.int .i64 n, .agg #[.int .i64 y, .int .i64 m, .int .i64 d]] w fun e w' => e = .returned (.int .i64 n) ∧ Ext w w' := by
  go_enter Tryz.func106, Tryz.ntmps106
  go_wp2
  go_ret
  exact ⟨rfl, by repeat (first | exact Ext.refl _ | apply Ext.alloc)⟩
theorem thirty_c (n y m d : Int) (w : World) (y1 : 1900 ≤ y) (y2 : y ≤ 2200) (m1 : 1 ≤ m) (m2 : m ≤ 12) (d1 : 1 ≤ d) (d2 : d ≤ 31) :
    Calls Tryz.prog 105 #[.int .i64 n, .agg #[.int .i64 y, .int .i64 m, .int .i64 d]] w fun e w' => e = .returned (.int .i64 (360 * y + 30 * m + (if d ≤ 30 then d else 30))) ∧ Ext w w' := by
  by_cases hd : d ≤ 30
  · go_enter Tryz.func105, Tryz.ntmps105
    go_wp2
    go_ret
    exact ⟨ret_int (by simp), (Ext.refl _).alloc _ _⟩
  · go_enter Tryz.func105, Tryz.ntmps105
    go_wp2
    go_ret
    exact ⟨ret_int (by simp), (Ext.refl _).alloc _ _⟩
end Go.Proofs.YtafjmpaefikdcaaGreatDoor.L6
/- The places of days by each count, which year a count has, and a day's place, as contracts: no statement of the seat is proved here. -/
namespace Go.Proofs.YtafjmpaefikdcaaGreatDoor.L6
open Go.Proofs.YtafjmpaefikdcaaGreatDoor.L3
open Go.RowKit
set_option linter.unusedVariables false

set_option maxHeartbeats 1000000 in
theorem actual_c (n y m d : Int) (w : World) (y1 : 1900 ≤ y) (y2 : y ≤ 2200) (h1 : st y ≤ n) (h2 : n < st (y + 1)) (he : Hid (Env w)) :
    Calls Tryz.prog 107 #[.int .i64 n, .agg #[.int .i64 y, .int .i64 m, .int .i64 d]] w fun e w' => e = .returned (.int .i64 (y * 133590 + (n - st y) * dpt y)) ∧ Ext w w' := by
  have sb := st_bd y y1 (by omega)
  obtain ⟨s1, s2⟩ := sb
  have hl := lp_01 y
  have hs := st_succ y
  have hv : Hid (Vld y 1 1) := vld_of y1 y2 (by omega) (by omega) (by omega) (by omega)
  have hnum : num y 1 1 = st y := num_11 y
  obtain ⟨k, hk⟩ : ∃ k, n - st y = k := ⟨_, rfl⟩
  have hkb : 0 ≤ k ∧ k ≤ 366 := by omega
  have hmb := mul_dpt k y hkb.1 hkb.2
  obtain ⟨S, hS⟩ : ∃ S, st y = S := ⟨_, rfl⟩
  obtain ⟨p, hp⟩ : ∃ p, k * dpt y = p := ⟨_, rfl⟩
  obtain ⟨D, hD⟩ : ∃ D, dpt y = D := ⟨_, rfl⟩
  have hd := dpt_lp y
  rw [hS] at hnum h1 hk s1 s2
  rw [hS, hk, hp]
  rw [hp] at hmb
  rw [hD] at hp hd
  have q1 : 0 ≤ D ∧ D ≤ 366 := by omega
  obtain ⟨p1, p2⟩ := hmb
  obtain ⟨b1, b2⟩ := hkb
  obtain ⟨q1, q2⟩ := q1
  have hnb : n ≤ 84738 := by omega
  clear hs hl hd h2
  replace hnum := show Hid _ from hnum
  replace hS := show Hid _ from hS
  replace hD := show Hid _ from hD
  go_enter Tryz.func107, Tryz.ntmps107
  go_upto_region 1 with fail
  obtain ⟨W0, b, hW0, hb, hx0, k0, k1, k2⟩ := box3 w (.int .i64 y) (.int .i64 m) (.int .i64 d) 116
  rw [hW0, hb]
  clear hW0 hb
  replace hx0 := show Hid _ from hx0
  replace he : Hid (Env W0) := he.out.ext hx0.out
  go_wp2_with fail
  refine (Number_ok _ _ _ _ hv.out he).mono ?_
  rintro e W1 ⟨rfl, hx1⟩
  rw [hnum.out]
  replace k0 := hx1.cell_of k0
  replace hx0 : Hid (Ext w W1) := hx0.out.trans hx1
  clear hx1 k1 k2
  go_wp2_with fail
  refine (sureI_ok _ _).mono ?_
  rintro e W1 ⟨rfl, rfl⟩
  go_wp2
  have j0 := Late.cell k0
  have hNe1 : Nonempty (Late W1) := ⟨⟨_, Ext.refl _⟩⟩
  refine wp_region_late (by kernel_rfl) (by kernel_rfl) ?_
  have hdp : Hid (∀ W : World, Calls Tryz.prog 122 #[.int .i64 y] W fun e w' => e = .returned (.int .i64 D) ∧ w' = W) := fun W => by
    have := dayParts_c y W
    rw [hD.out] at this; exact this
  repeat (go_big_quiet_step ((first
    | (go_at_call 122; exact late_same (hdp.out _)))))
  refine wpQuiet_nil ?_
  intro W2 hw'
  have hx2 := late_ext hw'
  clear hw' j0
  go_wp2
  go_ret
  exact ⟨ret_int (rfl), hx0.out.trans hx2⟩
/-- The function by which a count tells a day's place. -/
def fvOf (c : Int) : FuncId := if c = 1 then 105 else if c = 2 then 106 else 107
theorem yearOf_1 (w : World) :
    Calls Tryz.prog 87 #[.int .i64 1] w fun e w' => e = .returned (.agg #[.int .i64 360, .func (.func 105) #[] #[]]) ∧ Ext w w' := by
  go_enter Tryz.func87, Tryz.ntmps87
  go_wp2
  exact bodyPost_ret (v := .agg #[.int .i64 360, .func (.func 105) #[] #[]]) (by simp [results, Tryz.results87, go_sem]) rfl ⟨rfl, (Ext.refl _).alloc _ _⟩
theorem yearOf_2 (w : World) :
    Calls Tryz.prog 87 #[.int .i64 2] w fun e w' => e = .returned (.agg #[.int .i64 365, .func (.func 106) #[] #[]]) ∧ Ext w w' := by
  go_enter Tryz.func87, Tryz.ntmps87
  go_wp2
  exact bodyPost_ret (v := .agg #[.int .i64 365, .func (.func 106) #[] #[]]) (by simp [results, Tryz.results87, go_sem]) rfl ⟨rfl, (Ext.refl _).alloc _ _⟩
theorem yearOf_3 (w : World) :
    Calls Tryz.prog 87 #[.int .i64 3] w fun e w' => e = .returned (.agg #[.int .i64 133590, .func (.func 107) #[] #[]]) ∧ Ext w w' := by
  go_enter Tryz.func87, Tryz.ntmps87
  go_wp2
  exact bodyPost_ret (v := .agg #[.int .i64 133590, .func (.func 107) #[] #[]]) (by simp [results, Tryz.results87, go_sem]) rfl ⟨rfl, (Ext.refl _).alloc _ _⟩
theorem yearOf_ok (c : Int) (w : World) (h1 : 1 ≤ c) (h2 : c ≤ 3) :
    Calls Tryz.prog 87 #[.int .i64 c] w fun e w' => e = .returned (.agg #[.int .i64 (ptA c), .func (.func (fvOf c)) #[] #[]]) ∧ Ext w w' := by
  rcases (by omega : c = 1 ∨ c = 2 ∨ c = 3) with e | e | e <;> subst e
  · exact yearOf_1 w
  · exact yearOf_2 w
  · exact yearOf_3 w
theorem yearOf_no (c : Int) (w : World) (h : ¬ (1 ≤ c ∧ c ≤ 3)) :
    Calls Tryz.prog 87 #[.int .i64 c] w fun e w' => e = .panicked [{ v := .iface 33 (.int .i64 1), recovered := false }] ∧ Ext w w' := by
  have h1 : c ≠ 1 := by omega
  have h2 : c ≠ 2 := by omega
  have h3 : c ≠ 3 := by omega
  clear h
  go_enter Tryz.func87, Tryz.ntmps87
  go_wp2
  exact ⟨rfl, rfl, (Ext.refl _).alloc _ _⟩
theorem box2f (w : World) (x y : Value) (t : TypeId) : ∃ W b, w.alloc (.cells #[x, y] t) = W ∧ w.heap.size = b ∧ Ext w W ∧ W.cell? ⟨b, 0, none⟩ = some x ∧ W.cell? ⟨b, 1, none⟩ = some y ∧
    W.frozen? ⟨b, 0, none⟩ = false ∧ W.frozen? ⟨b, 1, none⟩ = false :=
  ⟨_, _, rfl, rfl, (Ext.refl w).alloc _ _, by simp [go_sem], by simp [go_sem], by simp [go_sem], by simp [go_sem]⟩
theorem thirty_p (n : Int) (w : World) (y1 : 1900 ≤ yOf n) (y2 : yOf n ≤ 2200) (m1 : 1 ≤ mOf n) (m2 : mOf n ≤ 12) (d1 : 1 ≤ dOf n) (d2 : dOf n ≤ 31) :
    Calls Tryz.prog 105 #[.int .i64 n, .agg #[.int .i64 (yOf n), .int .i64 (mOf n), .int .i64 (dOf n)]] w fun e w' => e = .returned (.int .i64 (plT n)) ∧ Ext w w' :=
  thirty_c n _ _ _ w y1 y2 m1 m2 d1 d2
theorem actual_p (n : Int) (w : World) (y1 : 1900 ≤ yOf n) (y2 : yOf n ≤ 2200) (h1 : st (yOf n) ≤ n) (h2 : n < st (yOf n + 1)) (he : Hid (Env w)) :
    Calls Tryz.prog 107 #[.int .i64 n, .agg #[.int .i64 (yOf n), .int .i64 (mOf n), .int .i64 (dOf n)]] w fun e w' => e = .returned (.int .i64 (plA n)) ∧ Ext w w' :=
  actual_c n _ _ _ w y1 y2 h1 h2 he
end Go.Proofs.YtafjmpaefikdcaaGreatDoor.L6
/- A region that draws its order and may throw: what is asked behind a throw speaks of some slots of the frame alone; no program of its own is spoken of here. -/
namespace Go.Proofs.YtafjmpaefikdcaaGreatDoor.L6
open Go.Proofs.YtafjmpaefikdcaaGreatDoor.L3
open Go.RowKit
set_option linter.unusedVariables false

theorem held_on {W0 W W' : World} {b o : Nat} {v : Value} (hx : Ext W W') (h : W.cell? ⟨b, o, none⟩ = some v ∧ Ext W0 W) : W'.cell? ⟨b, o, none⟩ = some v ∧ Ext W0 W' :=
  ⟨hx.cell_of h.1, h.2.trans hx⟩
theorem held_in {W0 : World} {b o : Nat} {v : Value} (h : W0.cell? ⟨b, o, none⟩ = some v) : W0.drew.cell? ⟨b, o, none⟩ = some v ∧ Ext W0 W0.drew :=
  ⟨(Ext.refl W0).drew.cell_of h, (Ext.refl W0).drew⟩
/-- What is asked behind a region; behind a throw: of what is deferred, of some slots, and of the world. -/
def ThrowQ (Q : Exit → Act → World → Prop) (D : Act → Prop) (keep : List Nat) (T : Nat → Option Value) (R : List PanicEntry → World → Prop) : Exit → Act → World → Prop
  | .panic c, a, w => D { a with tmps := #[] } ∧ (∀ t ∈ keep, a.tmps[t]? = T t) ∧ R c w
  | e, a, w => Q e a w
theorem ThrowQ.imp {Q : Exit → Act → World → Prop} {D : Act → Prop} {keep : List Nat} {T : Nat → Option Value} {R : List PanicEntry → World → Prop}
    (h : ∀ c a w, D { a with tmps := #[] } → (∀ t ∈ keep, a.tmps[t]? = T t) → R c w → Q (.panic c) a w) : ∀ e a w, ThrowQ Q D keep T R e a w → Q e a w := fun e a w k => by
  cases e <;> first | exact k | exact h _ _ _ k.1 k.2.1 k.2.2
theorem ThrowQ.normal {Q : Exit → Act → World → Prop} {D : Act → Prop} {keep : List Nat} {T : Nat → Option Value} {R : List PanicEntry → World → Prop} {a : Act} {w : World} (h : Q .normal a w) : ThrowQ Q D keep T R .normal a w := h
theorem put_defers (a : Act) (d : Option Tmp) (v : Value) : ({ a.put d v with tmps := #[] } : Act) = { a with tmps := #[] } := by cases d <;> rfl
theorem put_tmps (a : Act) (d : Option Tmp) (v : Value) (t : Nat) (h : d ≠ some t) : (a.put d v).tmps[t]? = a.tmps[t]? := by
  cases d with
  | none => rfl
  | some k => exact Array.getElem?_setIfInBounds_ne (fun e => h (by rw [e]))
section
variable {P : Program} {ops : Array Oper} {md : Region.Mode} {S : World → Prop} {Q : Exit → Act → World → Prop} {D : Act → Prop} {keep : List Nat} {T : Nat → Option Value} {R : List PanicEntry → World → Prop}
theorem takeT (i : Nat) {oi : Oper} {v : Value} {fuel : Nat} {listed : Array Bool} {a : Act} {w : World} (hi : ops[i]? = some oi)
    (hs : Region.noSelect ops = true) (hf : Region.free md ops listed i = true) (hr : (Region.ready md ops listed).contains i = true) (hd : ∀ t ∈ keep, oi.dst ≠ some t)
    (hy : YieldsIf P ops S oi v a) (hS : S w)
    (h : wpAnyH P md ops (ThrowQ Q D keep T R) S fuel (listed.setIfInBounds i true) (a.put oi.dst v) w) : wpAnyH P md ops (ThrowQ Q D keep T R) S (fuel + 1) listed a w :=
  wpAnyH_take hi hs hf hr (fun c a w ⟨h1, h2, h3⟩ => ⟨put_defers a oi.dst v ▸ h1, fun t ht => (put_tmps a oi.dst v t (hd t ht)) ▸ h2 t ht, h3⟩) hy hS h
end
theorem wp_region_thrown {P : Program} {id : Nat} {Q : Exit → Act → World → Prop} {a : Act} {w : World} {l : List Oper} (S : World → Prop) (D : Act → Prop) (keep : List Nat) (T : Nat → Option Value) (R : List PanicEntry → World → Prop) (hm : P.follows .mixedOrders = true)
    (hp : ∀ c a w, D { a with tmps := #[] } → (∀ t ∈ keep, a.tmps[t]? = T t) → R c w → Q (.panic c) a w) (hS : S w.drew)
    (h : S w.drew → wpAnyH P .any l.toArray (ThrowQ Q D keep T R) S l.toArray.size (Array.replicate l.toArray.size false) a w.drew) : (Code.region id l.toArray true).wp P Q a w :=
  Code.wp_mono (ThrowQ.imp hp) (wp_region_held_drew hm hS h)
end Go.Proofs.YtafjmpaefikdcaaGreatDoor.L6
/- A day's place where there is no such day; Parts and Between, as contracts: no statement of the seat is proved here. -/
namespace Go.Proofs.YtafjmpaefikdcaaGreatDoor.L6
open Go.Proofs.YtafjmpaefikdcaaGreatDoor.L3
open Go.RowKit
set_option linter.unusedVariables false

theorem make_func (fn : Fn) (first cap : Array Value) (w : World) : (Instr.makeFunc fn first cap).run Tryz.prog w = .ok (.func fn first cap) w := rfl
/-- What a face of package fraction has deferred. -/
def dfr (f : FuncId) (Z : Nat) : List Deferred := [{ target := .fn (.func f) #[.pointer (some ⟨Z, 0, none⟩), .pointer (some ⟨Z + 1, 0, none⟩)], args := #[] }]
/-- The world of a face at its end: the two results' blocks, and all that was there. -/
structure Fac (w W : World) (v z : Int) : Prop where
  p : W.cell? ⟨w.heap.size, 0, none⟩ = some (.int .i64 v)
  q : W.cell? ⟨w.heap.size + 1, 0, none⟩ = some (.int .i64 z)
  pz : W.frozen? ⟨w.heap.size, 0, none⟩ = false
  qz : W.frozen? ⟨w.heap.size + 1, 0, none⟩ = false
  ext : Ext w W
theorem Fac.begin (w : World) (t s : TypeId) : Fac w ((w.alloc (.cells #[.int .i64 0] t)).alloc (.cells #[.int .i64 0] s)) 0 0 :=
  ⟨by simp [go_sem], by simp [go_sem], by simp [go_sem], by simp [go_sem], ((Ext.refl w).alloc _ _).alloc _ _⟩
theorem Fac.on {w W W' : World} {v z : Int} (h : Fac w W v z) (hx : Ext W W') : Fac w W' v z :=
  ⟨hx.cell_of h.p, hx.cell_of h.q, by rw [hx.froz _ _ (lt_of_cell h.p)]; exact h.pz, by rw [hx.froz _ _ (lt_of_cell h.q)]; exact h.qz, h.ext.trans hx⟩
theorem Fac.set1 {w W : World} {v z : Int} (h : Fac w W v z) (x : Int) : Fac w (W.setCell ⟨w.heap.size, 0, none⟩ (.int .i64 x)) x z :=
  ⟨same h.p, by rw [other _ (Or.inl (by omega))]; exact h.q, by simp [go_sem, h.pz], by simp [go_sem, h.qz], h.ext.setCell (Nat.le_refl _) _⟩
theorem Fac.set2 {w W : World} {v z : Int} (h : Fac w W v z) (x : Int) : Fac w (W.setCell ⟨w.heap.size + 1, 0, none⟩ (.int .i64 x)) v x :=
  ⟨by rw [other _ (Or.inl (by omega))]; exact h.p, same h.q, by simp [go_sem, h.pz], by simp [go_sem, h.qz], h.ext.setCell (by show w.heap.size ≤ w.heap.size + 1; omega) _⟩
theorem parts_leave_catch (w W : World) (tm : Array Value) (c v z : Int) (h1 : tm[2]? = some (.pointer (some ⟨w.heap.size, 0, none⟩))) (h2 : tm[3]? = some (.pointer (some ⟨w.heap.size + 1, 0, none⟩))) (hf : Fac w W v z) :
    Leaves Tryz.prog Tryz.f59 tm (fun e w' => e = .returned (.tuple #[.int .i64 0, .int .i64 c]) ∧ Ext w w') (dfr 86 w.heap.size) (.panicking [{ v := .iface 33 (.int .i64 c), recovered := false }]) W := by
  refine leaves_cons (f := 86) (args := #[.pointer (some ⟨w.heap.size, 0, none⟩), .pointer (some ⟨w.heap.size + 1, 0, none⟩)]) (by simp) (by simp [go_sem]) ?_
  refine (parts_catch w.heap.size c v z [] _ hf.p hf.q hf.pz hf.qz).mono ?_
  rintro e u' w'' ⟨rfl, rfl, w2, hy, rfl⟩
  have hg := hf.on hy
  simp [Leaves, settle, results, Tryz.results59, go_sem, h1, h2, hg.p, hg.q]
  exact ((hg.set1 _).set2 _).ext
theorem parts_leave_idle (w W : World) (tm : Array Value) (v z : Int) (h1 : tm[2]? = some (.pointer (some ⟨w.heap.size, 0, none⟩))) (h2 : tm[3]? = some (.pointer (some ⟨w.heap.size + 1, 0, none⟩))) (hf : Fac w W v z) :
    Leaves Tryz.prog Tryz.f59 tm (fun e w' => e = .returned (.tuple #[.int .i64 v, .int .i64 0]) ∧ Ext w w') (dfr 86 w.heap.size) .returning W := by
  refine leaves_cons (f := 86) (args := #[.pointer (some ⟨w.heap.size, 0, none⟩), .pointer (some ⟨w.heap.size + 1, 0, none⟩)]) (by simp) (by simp [go_sem]) ?_
  refine (parts_idle w.heap.size v z _ hf.p hf.q hf.pz hf.qz).mono ?_
  rintro e u' w'' ⟨rfl, rfl, w2, hy, rfl⟩
  have hg := hf.on hy
  simp [Leaves, settle, results, Tryz.results59, go_sem, h1, h2, hg.p, hg.q]
  exact ((hg.set1 _).set2 _).ext
end Go.Proofs.YtafjmpaefikdcaaGreatDoor.L6
/- Parts and Between of package fraction, as contracts: no statement of the seat is proved here. -/
namespace Go.Proofs.YtafjmpaefikdcaaGreatDoor.L6
open Go.Proofs.YtafjmpaefikdcaaGreatDoor.L3
open Go.RowKit
set_option linter.unusedVariables false

theorem field_y (x y : Value) (w : World) : (Instr.field 126 (.agg #[x, y]) 0).run Tryz.prog w = .ok x w := by kernel_rfl
theorem Parts_ok (c : Int) (w : World) (h1 : 1 ≤ c) (h2 : c ≤ 3) :
    Calls Tryz.prog 59 #[.int .i64 c] w fun e w' => e = .returned (.tuple #[.int .i64 (ptA c), .int .i64 0]) ∧ Ext w w' := by
  have hmf := make_func
  have hfy := field_y
  go_enter_defers Tryz.func59, Tryz.ntmps59
  go_wp2_with fail
  refine (yearOf_ok _ _ h1 h2).mono ?_
  rintro e w1 ⟨rfl, hx⟩
  have hf := (Fac.begin w 2 33).on hx
  have gp := hf.p; have gq := hf.q; have gpz := hf.pz; have gqz := hf.qz
  replace hf := show Hid _ from hf
  clear hx
  go_wp2
  refine parts_leave_idle w _ _ _ _ ?_ ?_ (((hf.out.set1 _).set2 _))
  · rfl
  · rfl
theorem Parts_no (c : Int) (w : World) (h : ¬ (1 ≤ c ∧ c ≤ 3)) :
    Calls Tryz.prog 59 #[.int .i64 c] w fun e w' => e = .returned (.tuple #[.int .i64 0, .int .i64 1]) ∧ Ext w w' := by
  have hmf := make_func
  replace h := show Hid _ from h
  go_enter_defers Tryz.func59, Tryz.ntmps59
  go_wp2_with fail
  refine (yearOf_no _ _ h.out).mono ?_
  rintro e w1 ⟨rfl, hx⟩
  have hf := (Fac.begin w 2 33).on hx
  replace hf := show Hid _ from hf
  clear hx
  go_wp2
  refine parts_leave_catch w _ _ _ _ _ ?_ ?_ (hf.out)
  · rfl
  · rfl
theorem Parts_c (c : Int) (w : World) :
    Calls Tryz.prog 59 #[.int .i64 c] w fun e w' => e = .returned (.tuple #[.int .i64 (ptA c), .int .i64 (ptE c)]) ∧ Ext w w' := by
  by_cases h : 1 ≤ c ∧ c ≤ 3
  · rw [pt_ok h.1 h.2]; exact Parts_ok c w h.1 h.2
  · rw [(pt_no h).1, (pt_no h).2]; exact Parts_no c w h
theorem held2_in {W0 : World} {b : Nat} {u v : Value} (h : W0.cell? ⟨b, 0, none⟩ = some u) (k : W0.cell? ⟨b, 1, none⟩ = some v) : W0.drew.cell? ⟨b, 0, none⟩ = some u ∧ W0.drew.cell? ⟨b, 1, none⟩ = some v ∧ Ext W0 W0.drew :=
  ⟨(Ext.refl W0).drew.cell_of h, (Ext.refl W0).drew.cell_of k, (Ext.refl W0).drew⟩
theorem held2_on {W0 W W' : World} {b : Nat} {u v : Value} (hx : Ext W W') (h : W.cell? ⟨b, 0, none⟩ = some u ∧ W.cell? ⟨b, 1, none⟩ = some v ∧ Ext W0 W) : W'.cell? ⟨b, 0, none⟩ = some u ∧ W'.cell? ⟨b, 1, none⟩ = some v ∧ Ext W0 W' :=
  ⟨hx.cell_of h.1, hx.cell_of h.2.1, h.2.2.trans hx⟩
theorem held3_on {W W' : World} {b : Nat} {u v : Value} (hx : Ext W W') (h : W.cell? ⟨b, 0, none⟩ = some u ∧ W.cell? ⟨b, 1, none⟩ = some v) : W'.cell? ⟨b, 0, none⟩ = some u ∧ W'.cell? ⟨b, 1, none⟩ = some v :=
  ⟨hx.cell_of h.1, hx.cell_of h.2⟩
theorem held3_far {W : World} {b z : Nat} {u v x : Value} (hz : z < b) (h : W.cell? ⟨b, 0, none⟩ = some u ∧ W.cell? ⟨b, 1, none⟩ = some v) : (W.setCell ⟨z, 0, none⟩ x).cell? ⟨b, 0, none⟩ = some u ∧ (W.setCell ⟨z, 0, none⟩ x).cell? ⟨b, 1, none⟩ = some v :=
  ⟨by rw [other _ (Or.inl (by omega))]; exact h.1, by rw [other _ (Or.inl (by omega))]; exact h.2⟩
end Go.Proofs.YtafjmpaefikdcaaGreatDoor.L6
/- The document's own Parts, One and Between of layer 6, as contracts: no statement of the seat is proved here. -/
namespace Go.Proofs.YtafjmpaefikdcaaGreatDoor.L6
open Go.Proofs.YtafjmpaefikdcaaGreatDoor.L3
open Go.RowKit
set_option linter.unusedVariables false

theorem rParts_c (c : Int) (w : World) :
    Calls Tryz.prog 64 #[.int .i64 c] w fun e w' => e = .returned (.tuple #[.int .i64 (ptA c), .int .i64 (ptE c)]) ∧ w' = w := by
  by_cases h1 : c = 1
  · subst h1
    go_enter Tryz.func64, Tryz.ntmps64
    go_wp2
    go_ret2
    exact ⟨rfl, rfl⟩
  · by_cases h2 : c = 2
    · subst h2
      go_enter Tryz.func64, Tryz.ntmps64
      go_wp2
      go_ret2
      exact ⟨rfl, rfl⟩
    · by_cases h3 : c = 3
      · subst h3
        go_enter Tryz.func64, Tryz.ntmps64
        go_wp2
        go_ret2
        exact ⟨rfl, rfl⟩
      · have e := pt_no (c := c) (by omega)
        rw [e.1, e.2]
        clear e
        go_enter Tryz.func64, Tryz.ntmps64
        go_wp2
        go_ret2
        exact ⟨rfl, rfl⟩
theorem rthirty_c (n : Int) (w : World) (h1 : -25567 ≤ n) (h2 : n ≤ 84370) :
    Calls Tryz.prog 49 #[.int .i64 n] w fun e w' => e = .returned (.int .i64 (plT n)) ∧ Ext w w' := by
  obtain ⟨y1, y2, s1, s2⟩ := yOf_sp n h1 h2
  have hv := (ofDay n h1 h2).1
  have m1 := hv.m1; have m2 := hv.m2; have d1 := hv.d1; have d2 := hv.d31
  clear hv s1 s2
  have hp : plT n = 360 * yOf n + 30 * mOf n + (if dOf n ≤ 30 then dOf n else 30) := rfl
  obtain ⟨y, hy⟩ : ∃ y, yOf n = y := ⟨_, rfl⟩
  obtain ⟨m, hm⟩ : ∃ m, mOf n = m := ⟨_, rfl⟩
  obtain ⟨d, hd⟩ : ∃ d, dOf n = d := ⟨_, rfl⟩
  have hc : Hid (∀ W, Calls Tryz.prog 71 #[.int .i64 n] W fun e w' => e = .returned (.tuple #[.agg #[.int .i64 y, .int .i64 m, .int .i64 d], .int .i64 0]) ∧ Ext W w') := fun W => by
    have := rDate_f n W h1 h2
    rw [hy, hm, hd] at this; exact this
  rw [hp, hy, hm, hd]
  rw [hy] at y1 y2; rw [hm] at m1 m2; rw [hd] at d1 d2
  clear hp hy hm hd
  by_cases h30 : d ≤ 30
  · go_enter Tryz.func49, Tryz.ntmps49
    go_wp2_with fail
    refine (hc.out _).mono ?_
    rintro e w1 ⟨rfl, hx⟩
    replace hx := show Hid _ from hx
    go_wp2
    go_ret
    exact ⟨ret_int (by simp), hx.out.alloc _ _⟩
  · go_enter Tryz.func49, Tryz.ntmps49
    go_wp2_with fail
    refine (hc.out _).mono ?_
    rintro e w1 ⟨rfl, hx⟩
    replace hx := show Hid _ from hx
    go_wp2
    go_ret
    exact ⟨ret_int (by simp), hx.out.alloc _ _⟩
theorem One_c (c n : Int) (w : World) (k1 : 1 ≤ c) (k2 : c ≤ 3) (h1 : -25567 ≤ n) (h2 : n + 1 ≤ 84370) :
    Calls Tryz.prog 50 #[.int .i64 c, .int .i64 n] w fun e w' => e = .returned (.int .i64 (oneP c n)) ∧ Ext w w' := by
  obtain ⟨y, hy⟩ : ∃ y, yOf n = y := ⟨_, rfl⟩
  obtain ⟨m, hm⟩ : ∃ m, mOf n = m := ⟨_, rfl⟩
  obtain ⟨d, hd⟩ : ∃ d, dOf n = d := ⟨_, rfl⟩
  have hc : Hid (∀ W, Calls Tryz.prog 71 #[.int .i64 n] W fun e w' => e = .returned (.tuple #[.agg #[.int .i64 y, .int .i64 m, .int .i64 d], .int .i64 0]) ∧ Ext W w') := fun W => by
    have := rDate_f n W h1 (by omega)
    rw [hy, hm, hd] at this; exact this
  rcases (by omega : c = 1 ∨ c = 2 ∨ c = 3) with e | e | e <;> subst e
  · have e : oneP 1 n = plT (n + 1) - plT n := rfl
    have b1 := plT_bd h1 (by omega : n ≤ 84370)
    have b2 := plT_bd (by omega : -25567 ≤ n + 1) h2
    obtain ⟨x, hX⟩ : ∃ x, plT n = x := ⟨_, rfl⟩
    obtain ⟨z, hZ⟩ : ∃ z, plT (n + 1) = z := ⟨_, rfl⟩
    rw [e, hX, hZ]
    rw [hX] at b1; rw [hZ] at b2
    obtain ⟨b1, b3⟩ := b1
    obtain ⟨b2, b4⟩ := b2
    replace hX := show Hid _ from hX
    replace hZ := show Hid _ from hZ
    clear e hy hm hd
    go_enter Tryz.func50, Tryz.ntmps50
    go_wp2_with fail
    refine (hc.out _).mono ?_
    rintro e w1 ⟨rfl, hx⟩
    replace hx := show Hid _ from hx
    go_wp2_with fail
    refine (rthirty_c _ _ (by omega) (by omega)).mono ?_
    rw [hZ.out]
    rintro e w2 ⟨rfl, hx2⟩
    replace hx : Hid (Ext w w2) := (hx.out.alloc _ _).trans hx2
    clear hx2
    go_wp2_with fail
    refine (rthirty_c _ _ (by omega) (by omega)).mono ?_
    rw [hX.out]
    rintro e w3 ⟨rfl, hx2⟩
    replace hx : Hid (Ext w w3) := hx.out.trans hx2
    clear hx2
    go_wp2
    go_ret
    exact ⟨rfl, hx.out⟩
  · clear hy hm hd
    go_enter Tryz.func50, Tryz.ntmps50
    go_wp2_with fail
    refine (hc.out _).mono ?_
    rintro e w1 ⟨rfl, hx⟩
    replace hx := show Hid _ from hx
    go_wp2
    go_ret
    exact ⟨rfl, hx.out.alloc _ _⟩
  · have e : oneP 3 n = dpt (yOf n) := rfl
    rw [e, hy]
    clear e hy hm hd
    go_enter Tryz.func50, Tryz.ntmps50
    go_wp2_with fail
    refine (hc.out _).mono ?_
    rintro e w1 ⟨rfl, hx⟩
    replace hx := show Hid _ from hx
    go_wp2_with fail
    refine (rLong_c _ _).mono ?_
    rintro e w2 ⟨rfl, rfl⟩
    cases hl : lng y
    · have hd : dpt y = 366 := by unfold dpt; rw [hl]; rfl
      go_wp2
      go_ret
      exact ⟨ret_int hd.symm, hx.out.alloc _ _⟩
    · have hd : dpt y = 365 := by unfold dpt; rw [hl]; rfl
      go_wp2
      go_ret
      exact ⟨ret_int hd.symm, hx.out.alloc _ _⟩
end Go.Proofs.YtafjmpaefikdcaaGreatDoor.L6
/- The document's own Between of layer 6, as a contract: no statement of the seat is proved here. -/
namespace Go.Proofs.YtafjmpaefikdcaaGreatDoor.L6
open Go.Proofs.YtafjmpaefikdcaaGreatDoor.L3
open Go.RowKit
set_option linter.unusedVariables false

theorem rBetween_no (c f t : Int) (w : World) (h : ¬ (1 ≤ c ∧ c ≤ 3)) :
    Calls Tryz.prog 29 #[.int .i64 c, .int .i64 f, .int .i64 t] w fun e w' => e = .returned (.tuple #[.int .i64 0, .int .i64 1]) ∧ Ext w w' := by
  by_cases h1 : c < 1
  · go_enter Tryz.func29, Tryz.ntmps29
    go_wp2
    go_ret2
    exact ⟨rfl, Ext.refl _⟩
  · have h3 : 3 < c := by omega
    clear h
    go_enter Tryz.func29, Tryz.ntmps29
    go_wp2
    go_ret2
    exact ⟨rfl, Ext.refl _⟩
theorem rBetween_day (c f t : Int) (w : World) (k1 : 1 ≤ c) (k2 : c ≤ 3) (h : ¬ ((-25567 ≤ f ∧ f ≤ 84370) ∧ (-25567 ≤ t ∧ t ≤ 84370))) :
    Calls Tryz.prog 29 #[.int .i64 c, .int .i64 f, .int .i64 t] w fun e w' => e = .returned (.tuple #[.int .i64 0, .int .i64 5]) ∧ Ext w w' := by
  have c1 : ¬ c < 1 := by omega
  have c3 : ¬ 3 < c := by omega
  by_cases hf : -25567 ≤ f ∧ f ≤ 84370
  · have ht : Hid (t < -25567 ∨ 84370 < t) := by show t < -25567 ∨ 84370 < t; omega
    replace hf := show Hid _ from hf
    clear h
    go_enter Tryz.func29, Tryz.ntmps29
    go_wp2_with fail
    refine (Is_t _ _ hf.out.1 hf.out.2).mono ?_
    rintro e w1 ⟨rfl, rfl⟩
    go_wp2_with fail
    refine (Is_f _ _ ht.out).mono ?_
    rintro e w1 ⟨rfl, rfl⟩
    go_wp2
    go_ret2
    exact ⟨rfl, Ext.refl _⟩
  · have hf : Hid (f < -25567 ∨ 84370 < f) := by show f < -25567 ∨ 84370 < f; omega
    clear h
    go_enter Tryz.func29, Tryz.ntmps29
    go_wp2_with fail
    refine (Is_f _ _ hf.out).mono ?_
    rintro e w1 ⟨rfl, rfl⟩
    go_wp2
    go_ret2
    exact ⟨rfl, Ext.refl _⟩
theorem rBetween_1 (f t : Int) (w : World) (f1 : -25567 ≤ f) (f2 : f ≤ 84370) (t1 : -25567 ≤ t) (t2 : t ≤ 84370) :
    Calls Tryz.prog 29 #[.int .i64 1, .int .i64 f, .int .i64 t] w fun e w' => e = .returned (.tuple #[.int .i64 (plT t - plT f), .int .i64 0]) ∧ Ext w w' := by
  have hf := show Hid (-25567 ≤ f ∧ f ≤ 84370) from ⟨f1, f2⟩
  have ht := show Hid (-25567 ≤ t ∧ t ≤ 84370) from ⟨t1, t2⟩
  have pf := plT_bd f1 f2
  have pt := plT_bd t1 t2
  obtain ⟨x, hX⟩ : ∃ x, plT t = x := ⟨_, rfl⟩
  obtain ⟨y, hY⟩ : ∃ y, plT f = y := ⟨_, rfl⟩
  rw [hX, hY]
  rw [hY] at pf
  rw [hX] at pt
  obtain ⟨pf1, pf2⟩ := pf
  obtain ⟨pt1, pt2⟩ := pt
  replace hX := show Hid _ from hX
  replace hY := show Hid _ from hY
  go_enter Tryz.func29, Tryz.ntmps29
  go_wp2_with fail
  refine (Is_t _ _ hf.out.1 hf.out.2).mono ?_
  rintro e w1 ⟨rfl, rfl⟩
  go_wp2_with fail
  refine (Is_t _ _ ht.out.1 ht.out.2).mono ?_
  rintro e w1 ⟨rfl, rfl⟩
  go_wp2_with fail
  refine (rthirty_c _ _ ht.out.1 ht.out.2).mono ?_
  rw [hX.out]
  rintro e w2 ⟨rfl, hx⟩
  replace hx := show Hid _ from hx
  go_wp2_with fail
  refine (rthirty_c _ _ hf.out.1 hf.out.2).mono ?_
  rw [hY.out]
  rintro e w3 ⟨rfl, hx2⟩
  replace hx := show Hid _ from hx.out.trans hx2
  clear hx2
  go_wp2
  go_ret2
  exact ⟨rfl, hx.out⟩
set_option maxHeartbeats 1000000 in
theorem rBetween_up (c f t : Int) (w : World) (k1 : 2 ≤ c) (k2 : c ≤ 3) (f1 : -25567 ≤ f) (f2 : f ≤ 84370) (t1 : -25567 ≤ t) (t2 : t ≤ 84370) (hle : f < t) :
    Calls Tryz.prog 29 #[.int .i64 c, .int .i64 f, .int .i64 t] w fun e w' => e = .returned (.tuple #[.int .i64 (plc c t - plc c f), .int .i64 0]) ∧ Ext w w' := by
  have c0 : (c == 1) = false := by simp; omega
  have c1 : ¬ c < 1 := by omega
  have c3 : ¬ 3 < c := by omega
  have hf := show Hid (-25567 ≤ f ∧ f ≤ 84370) from ⟨f1, f2⟩
  have ht := show Hid (-25567 ≤ t ∧ t ≤ 84370) from ⟨t1, t2⟩
  go_enter Tryz.func29, Tryz.ntmps29
  go_wp2_with fail
  refine (Is_t _ _ hf.out.1 hf.out.2).mono ?_
  rintro e w1 ⟨rfl, rfl⟩
  go_wp2_with fail
  refine (Is_t _ _ ht.out.1 ht.out.2).mono ?_
  rintro e w1 ⟨rfl, rfl⟩
  go_wp2_with fail
  go_loopw [8, 9] (fun s i wr => ∃ D S : Int, f ≤ D ∧ D ≤ t ∧ i = .int .i64 D ∧ s = .int .i64 S ∧ -800000000 ≤ S ∧ S ≤ 800000000 ∧ Hid (S = plc c D - plc c f) ∧ Hid (Ext w1 wr)) (fun _ i _ => (t - RowKit.intOf i).toNat)
  case atStart => exact ⟨f, 0, by omega, by omega, rfl, rfl, by omega, by omega, (by show (0 : Int) = _; omega), Ext.refl _⟩
  case round =>
    obtain ⟨D, S, d1, d2, rfl, rfl, s1, s2, hS, hx⟩ := hrel
    by_cases hlt : D < t
    · have ob := oneP_bd c D (by omega) k2 (by omega) (by omega)
      have hn := plc_next c D (by omega) k2 (by omega) (by omega)
      have pb := plc_bd c (by omega : -25567 ≤ D + 1) (by omega)
      have pl := plc_bd c f1 f2
      have hS' := hS.out
      obtain ⟨o, ho⟩ : ∃ o, oneP c D = o := ⟨_, rfl⟩
      rw [ho] at ob hn
      obtain ⟨o1, o2⟩ := ob
      have hS2 : Hid (S + o = plc c (D + 1) - plc c f) := by show S + o = _; omega
      have r1 : -800000000 ≤ S + o := by omega
      have r2 : S + o ≤ 800000000 := by omega
      clear hn pb pl hS'
      replace ho := show Hid _ from ho
      go_wp2_with fail
      refine (One_c _ _ _ (by omega) k2 (by omega) (by omega)).mono ?_
      rw [ho.out]
      rintro e w3 ⟨rfl, hx2⟩
      replace hx := show Hid _ from hx.out.trans hx2
      clear hx2
      go_wp2
      go_roundw
      case rel => exact ⟨D + 1, S + o, by omega, by omega, rfl, rfl, r1, r2, hS2, hx⟩
      case measure => simp [RowKit.intOf]; omega
    · obtain rfl : D = t := by omega
      go_wp2
      go_ret2
      exact ⟨ret_two (by have := hS.out; omega) rfl, hx.out⟩
set_option maxHeartbeats 1000000 in
theorem rBetween_dn (c f t : Int) (w : World) (k1 : 2 ≤ c) (k2 : c ≤ 3) (f1 : -25567 ≤ f) (f2 : f ≤ 84370) (t1 : -25567 ≤ t) (t2 : t ≤ 84370) (hle : t < f) :
    Calls Tryz.prog 29 #[.int .i64 c, .int .i64 f, .int .i64 t] w fun e w' => e = .returned (.tuple #[.int .i64 (-(plc c f - plc c t)), .int .i64 0]) ∧ Ext w w' := by
  have c0 : (c == 1) = false := by simp; omega
  have c1 : ¬ c < 1 := by omega
  have c3 : ¬ 3 < c := by omega
  have hf := show Hid (-25567 ≤ f ∧ f ≤ 84370) from ⟨f1, f2⟩
  have ht := show Hid (-25567 ≤ t ∧ t ≤ 84370) from ⟨t1, t2⟩
  go_enter Tryz.func29, Tryz.ntmps29
  go_wp2_with fail
  refine (Is_t _ _ hf.out.1 hf.out.2).mono ?_
  rintro e w1 ⟨rfl, rfl⟩
  go_wp2_with fail
  refine (Is_t _ _ ht.out.1 ht.out.2).mono ?_
  rintro e w1 ⟨rfl, rfl⟩
  go_wp2_with fail
  go_loopw [8, 9] (fun s i wr => ∃ D S : Int, t ≤ D ∧ D ≤ f ∧ i = .int .i64 D ∧ s = .int .i64 S ∧ -800000000 ≤ S ∧ S ≤ 800000000 ∧ Hid (S = plc c D - plc c t) ∧ Hid (Ext w1 wr)) (fun _ i _ => (f - RowKit.intOf i).toNat)
  case atStart => exact ⟨t, 0, by omega, by omega, rfl, rfl, by omega, by omega, (by show (0 : Int) = _; omega), Ext.refl _⟩
  case round =>
    obtain ⟨D, S, d1, d2, rfl, rfl, s1, s2, hS, hx⟩ := hrel
    by_cases hlt : D < f
    · have ob := oneP_bd c D (by omega) k2 (by omega) (by omega)
      have hn := plc_next c D (by omega) k2 (by omega) (by omega)
      have pb := plc_bd c (by omega : -25567 ≤ D + 1) (by omega)
      have pl := plc_bd c t1 t2
      have hS' := hS.out
      obtain ⟨o, ho⟩ : ∃ o, oneP c D = o := ⟨_, rfl⟩
      rw [ho] at ob hn
      obtain ⟨o1, o2⟩ := ob
      have hS2 : Hid (S + o = plc c (D + 1) - plc c t) := by show S + o = _; omega
      have r1 : -800000000 ≤ S + o := by omega
      have r2 : S + o ≤ 800000000 := by omega
      clear hn pb pl hS'
      replace ho := show Hid _ from ho
      go_wp2_with fail
      refine (One_c _ _ _ (by omega) k2 (by omega) (by omega)).mono ?_
      rw [ho.out]
      rintro e w3 ⟨rfl, hx2⟩
      replace hx := show Hid _ from hx.out.trans hx2
      clear hx2
      go_wp2
      go_roundw
      case rel => exact ⟨D + 1, S + o, by omega, by omega, rfl, rfl, r1, r2, hS2, hx⟩
      case measure => simp [RowKit.intOf]; omega
    · obtain rfl : D = f := by omega
      go_wp2
      go_ret2
      exact ⟨ret_two (by have := hS.out; omega) rfl, hx.out⟩
set_option maxHeartbeats 1000000 in
theorem rBetween_eq (c f : Int) (w : World) (k1 : 2 ≤ c) (k2 : c ≤ 3) (f1 : -25567 ≤ f) (f2 : f ≤ 84370)   :
    Calls Tryz.prog 29 #[.int .i64 c, .int .i64 f, .int .i64 f] w fun e w' => e = .returned (.tuple #[.int .i64 (plc c f - plc c f), .int .i64 0]) ∧ Ext w w' := by
  have c0 : (c == 1) = false := by simp; omega
  have c1 : ¬ c < 1 := by omega
  have c3 : ¬ 3 < c := by omega
  have hf := show Hid (-25567 ≤ f ∧ f ≤ 84370) from ⟨f1, f2⟩
  have ht := show Hid (-25567 ≤ f ∧ f ≤ 84370) from ⟨f1, f2⟩
  go_enter Tryz.func29, Tryz.ntmps29
  go_wp2_with fail
  refine (Is_t _ _ hf.out.1 hf.out.2).mono ?_
  rintro e w1 ⟨rfl, rfl⟩
  go_wp2_with fail
  refine (Is_t _ _ ht.out.1 ht.out.2).mono ?_
  rintro e w1 ⟨rfl, rfl⟩
  go_wp2_with fail
  go_loopw [8, 9] (fun s i wr => ∃ D S : Int, f ≤ D ∧ D ≤ f ∧ i = .int .i64 D ∧ s = .int .i64 S ∧ -800000000 ≤ S ∧ S ≤ 800000000 ∧ Hid (S = plc c D - plc c f) ∧ Hid (Ext w1 wr)) (fun _ i _ => (f - RowKit.intOf i).toNat)
  case atStart => exact ⟨f, 0, by omega, by omega, rfl, rfl, by omega, by omega, (by show (0 : Int) = _; omega), Ext.refl _⟩
  case round =>
    obtain ⟨D, S, d1, d2, rfl, rfl, s1, s2, hS, hx⟩ := hrel
    by_cases hlt : D < f
    · have ob := oneP_bd c D (by omega) k2 (by omega) (by omega)
      have hn := plc_next c D (by omega) k2 (by omega) (by omega)
      have pb := plc_bd c (by omega : -25567 ≤ D + 1) (by omega)
      have pl := plc_bd c f1 f2
      have hS' := hS.out
      obtain ⟨o, ho⟩ : ∃ o, oneP c D = o := ⟨_, rfl⟩
      rw [ho] at ob hn
      obtain ⟨o1, o2⟩ := ob
      have hS2 : Hid (S + o = plc c (D + 1) - plc c f) := by show S + o = _; omega
      have r1 : -800000000 ≤ S + o := by omega
      have r2 : S + o ≤ 800000000 := by omega
      clear hn pb pl hS'
      replace ho := show Hid _ from ho
      go_wp2_with fail
      refine (One_c _ _ _ (by omega) k2 (by omega) (by omega)).mono ?_
      rw [ho.out]
      rintro e w3 ⟨rfl, hx2⟩
      replace hx := show Hid _ from hx.out.trans hx2
      clear hx2
      go_wp2
      go_roundw
      case rel => exact ⟨D + 1, S + o, by omega, by omega, rfl, rfl, r1, r2, hS2, hx⟩
      case measure => simp [RowKit.intOf]; omega
    · obtain rfl : D = f := by omega
      go_wp2
      go_ret2
      exact ⟨ret_two (by have := hS.out; omega) rfl, hx.out⟩
theorem rBetween_c (c f t : Int) (w : World) :
    Calls Tryz.prog 29 #[.int .i64 c, .int .i64 f, .int .i64 t] w fun e w' => e = .returned (.tuple #[.int .i64 (btA c f t), .int .i64 (btE c f t)]) ∧ Ext w w' := by
  by_cases h : 1 ≤ c ∧ c ≤ 3
  · by_cases hd : (-25567 ≤ f ∧ f ≤ 84370) ∧ (-25567 ≤ t ∧ t ≤ 84370)
    · have e := bt_ok h.1 h.2 (inD_t hd.1.1 hd.1.2) (inD_t hd.2.1 hd.2.2)
      rw [e.1, e.2]
      by_cases h1 : c = 1
      · subst h1; exact rBetween_1 f t w hd.1.1 hd.1.2 hd.2.1 hd.2.2
      · by_cases hle : f ≤ t
        · by_cases heq : f = t
          · subst heq; exact rBetween_eq c f w (by omega) h.2 hd.1.1 hd.1.2
          · exact rBetween_up c f t w (by omega) h.2 hd.1.1 hd.1.2 hd.2.1 hd.2.2 (by omega)
        · have := rBetween_dn c f t w (by omega) h.2 hd.1.1 hd.1.2 hd.2.1 hd.2.2 (by omega)
          rwa [show -(plc c f - plc c t) = plc c t - plc c f by omega] at this
    · have e := bt_day (f := f) (t := t) h.1 h.2 (fun k => hd ⟨(inD_iff f).1 k.1, (inD_iff t).1 k.2⟩)
      rw [e.1, e.2]; exact rBetween_day c f t w h.1 h.2 hd
  · have e := bt_no (f := f) (t := t) h
    rw [e.1, e.2]; exact rBetween_no c f t w h
end Go.Proofs.YtafjmpaefikdcaaGreatDoor.L6
