/- A year's parts, by themselves: at how many parts a day lies, by each count, and how many a day has: plain arithmetic, no program is spoken of here. -/
import Derived.Test.YtkjdhefmhooplaaDoorMon0
namespace Go.Proofs.YtkjdhefmhooplaaDoor
set_option linter.unusedVariables false

theorem inD_iff (n : Int) : inD n = true ↔ -25567 ≤ n ∧ n ≤ 84370 := by unfold inD; exact decide_eq_true_iff
theorem inD_t {n : Int} (h1 : -25567 ≤ n) (h2 : n ≤ 84370) : inD n = true := (inD_iff n).2 ⟨h1, h2⟩
theorem inD_f {n : Int} (h : n < -25567 ∨ 84370 < n) : inD n = false := by
  cases e : inD n
  · rfl
  · have := (inD_iff n).1 e; omega
/-- The year of a day. -/
theorem yOf_sp (n : Int) (h1 : -25567 ≤ n) (h2 : n ≤ 84370) : 1900 ≤ yOf n ∧ yOf n ≤ 2200 ∧ st (yOf n) ≤ n ∧ n < st (yOf n + 1) := by
  obtain ⟨hv, hn⟩ := ofDay n h1 h2
  have m1 := hv.m1; have m2 := hv.m2
  have c1 := cum_bd (yOf n) (mOf n) m1 (by omega)
  have c2 := cum_succ (yOf n) (mOf n) m1 m2
  have c3 := cum_end (yOf n)
  have c4 : cum (yOf n) (mOf n + 1) ≤ cum (yOf n) 13 := by
    rcases Int.lt_or_eq_of_le m2 with k | k
    · have := cum_mono (yOf n) (mOf n) 13 m1 (by omega) (by omega); exact this
    · rw [k]; exact Int.le_refl _
  have s := st_succ (yOf n)
  obtain ⟨y1, y2, d1, d2⟩ := hv
  unfold num at hn
  exact ⟨y1, y2, by omega, by omega⟩
theorem yOf_at {n y : Int} (h1 : -25567 ≤ n) (h2 : n ≤ 84370) (k1 : st y ≤ n) (k2 : n < st (y + 1)) : yOf n = y := by
  obtain ⟨y1, y2, s1, s2⟩ := yOf_sp n h1 h2
  rcases Int.lt_trichotomy (yOf n) y with h | h | h
  · have := st_mono (yOf n + 1) y (by omega); omega
  · exact h
  · have := st_mono (y + 1) (yOf n) (by omega); omega
/-- A day is of the year of the one ahead of it, or the first of the next one. -/
theorem yOf_next (n : Int) (h1 : -25567 ≤ n) (h2 : n + 1 ≤ 84370) : yOf (n + 1) = yOf n ∨ (yOf (n + 1) = yOf n + 1 ∧ n + 1 = st (yOf n + 1)) := by
  obtain ⟨y1, y2, s1, s2⟩ := yOf_sp n h1 (by omega)
  by_cases h : n + 1 < st (yOf n + 1)
  · exact Or.inl (yOf_at (by omega) h2 (by omega) h)
  · have e : n + 1 = st (yOf n + 1) := by omega
    have s := st_succ (yOf n + 1)
    have l := lp_01 (yOf n + 1)
    exact Or.inr ⟨yOf_at (by omega) h2 (by omega) (by omega), e⟩

/-- The parts of a day, by Actual. -/
def dpt (y : Int) : Int := if lng y = true then 365 else 366
theorem dpt_lp (y : Int) : dpt y = 366 - lp y := by unfold dpt lp; split <;> omega
def d30 (n : Int) : Int := if dOf n ≤ 30 then dOf n else 30
def plT (n : Int) : Int := 360 * yOf n + 30 * mOf n + d30 n
def plA (n : Int) : Int := yOf n * 133590 + (n - st (yOf n)) * dpt (yOf n)
/-- At how many parts a day lies. -/
def plc (c n : Int) : Int := if c = 1 then plT n else if c = 2 then n else plA n
theorem plc_1 (n : Int) : plc 1 n = plT n := rfl
theorem plc_2 (n : Int) : plc 2 n = n := rfl
theorem plc_3 (n : Int) : plc 3 n = plA n := rfl
theorem d30_bd {n : Int} (h1 : -25567 ≤ n) (h2 : n ≤ 84370) : 1 ≤ d30 n ∧ d30 n ≤ 30 := by
  obtain ⟨hv, hn⟩ := ofDay n h1 h2
  have := hv.d1
  unfold d30; split <;> omega
theorem plT_bd {n : Int} (h1 : -25567 ≤ n) (h2 : n ≤ 84370) : 0 ≤ plT n ∧ plT n ≤ 400000000 := by
  obtain ⟨y1, y2, s1, s2⟩ := yOf_sp n h1 h2
  obtain ⟨hv, hn⟩ := ofDay n h1 h2
  have m1 := hv.m1; have m2 := hv.m2
  have := d30_bd h1 h2
  unfold plT; omega
theorem mul_dpt (k y : Int) (h1 : 0 ≤ k) (h2 : k ≤ 366) : 0 ≤ k * dpt y ∧ k * dpt y ≤ 133956 := by
  rw [dpt_lp]
  have l := lp_01 y
  rcases (by omega : lp y = 0 ∨ lp y = 1) with e | e <;> rw [e] <;> omega
theorem plA_bd {n : Int} (h1 : -25567 ≤ n) (h2 : n ≤ 84370) : 0 ≤ plA n ∧ plA n ≤ 400000000 := by
  obtain ⟨y1, y2, s1, s2⟩ := yOf_sp n h1 h2
  have s := st_succ (yOf n)
  have l := lp_01 (yOf n)
  have := mul_dpt (n - st (yOf n)) (yOf n) (by omega) (by omega)
  unfold plA; omega
theorem plc_bd (c : Int) {n : Int} (h1 : -25567 ≤ n) (h2 : n ≤ 84370) : -400000000 ≤ plc c n ∧ plc c n ≤ 400000000 := by
  have := plT_bd h1 h2
  have := plA_bd h1 h2
  unfold plc; split
  · omega
  · split <;> omega
/-- The parts of the span from a day to the next one. -/
def oneP (c n : Int) : Int := if c = 2 then 1 else if c = 3 then dpt (yOf n) else plT (n + 1) - plT n
theorem plA_next (n : Int) (h1 : -25567 ≤ n) (h2 : n + 1 ≤ 84370) : plA (n + 1) = plA n + dpt (yOf n) := by
  have l := lp_01 (yOf n)
  have s := st_succ (yOf n)
  rcases yOf_next n h1 h2 with h | ⟨h, e⟩
  · unfold plA; rw [h, dpt_lp]
    rcases (by omega : lp (yOf n) = 0 ∨ lp (yOf n) = 1) with e | e <;> rw [e] <;> omega
  · unfold plA; rw [h, dpt_lp (yOf n), ← e]
    have e2 : n - st (yOf n) = 364 + lp (yOf n) := by omega
    rw [e2, show n + 1 - (n + 1) = 0 by omega, Int.zero_mul]
    rcases (by omega : lp (yOf n) = 0 ∨ lp (yOf n) = 1) with e | e <;> rw [e] <;> omega
theorem plc_next (c n : Int) (k1 : 1 ≤ c) (k2 : c ≤ 3) (h1 : -25567 ≤ n) (h2 : n + 1 ≤ 84370) : plc c (n + 1) = plc c n + oneP c n := by
  rcases (by omega : c = 1 ∨ c = 2 ∨ c = 3) with e | e | e <;> subst e
  · show plT (n + 1) = plT n + (plT (n + 1) - plT n); omega
  · rfl
  · exact plA_next n h1 h2
theorem oneP_bd (c n : Int) (k1 : 1 ≤ c) (k2 : c ≤ 3) (h1 : -25567 ≤ n) (h2 : n + 1 ≤ 84370) : -800000000 ≤ oneP c n ∧ oneP c n ≤ 800000000 := by
  have := plc_next c n k1 k2 h1 h2
  have := plc_bd c h1 (by omega : n ≤ 84370)
  have := plc_bd c (by omega : -25567 ≤ n + 1) h2
  omega

/-- What Parts and Between answer. -/
def ptA (c : Int) : Int := if c = 1 then 360 else if c = 2 then 365 else if c = 3 then 133590 else 0
def ptE (c : Int) : Int := if 1 ≤ c ∧ c ≤ 3 then 0 else 1
def btA (c f t : Int) : Int := if (1 ≤ c ∧ c ≤ 3) ∧ inD f = true ∧ inD t = true then plc c t - plc c f else 0
def btE (c f t : Int) : Int := if 1 ≤ c ∧ c ≤ 3 then (if inD f = true ∧ inD t = true then 0 else 5) else 1
theorem pt_ok {c : Int} (h1 : 1 ≤ c) (h2 : c ≤ 3) : ptE c = 0 := by unfold ptE; rw [if_pos ⟨h1, h2⟩]
theorem pt_no {c : Int} (h : ¬ (1 ≤ c ∧ c ≤ 3)) : ptA c = 0 ∧ ptE c = 1 := by
  unfold ptA ptE; rw [if_neg h]
  refine ⟨?_, rfl⟩
  rw [if_neg (by omega), if_neg (by omega), if_neg (by omega)]
theorem bt_ok {c f t : Int} (h1 : 1 ≤ c) (h2 : c ≤ 3) (hf : inD f = true) (ht : inD t = true) : btA c f t = plc c t - plc c f ∧ btE c f t = 0 := by
  unfold btA btE; rw [if_pos ⟨⟨h1, h2⟩, hf, ht⟩, if_pos ⟨h1, h2⟩, if_pos ⟨hf, ht⟩]; exact ⟨rfl, rfl⟩
theorem bt_no {c f t : Int} (h : ¬ (1 ≤ c ∧ c ≤ 3)) : btA c f t = 0 ∧ btE c f t = 1 := by
  unfold btA btE; rw [if_neg (fun k => h k.1), if_neg h]; exact ⟨rfl, rfl⟩
theorem bt_day {c f t : Int} (h1 : 1 ≤ c) (h2 : c ≤ 3) (h : ¬ (inD f = true ∧ inD t = true)) : btA c f t = 0 ∧ btE c f t = 5 := by
  unfold btA btE; rw [if_neg (fun k => h k.2), if_pos ⟨h1, h2⟩, if_neg h]; exact ⟨rfl, rfl⟩
theorem bt_bd (c f t : Int) : -800000000 ≤ btA c f t ∧ btA c f t ≤ 800000000 := by
  unfold btA; split
  · rename_i h
    have a := (inD_iff f).1 h.2.1
    have b := (inD_iff t).1 h.2.2
    have := plc_bd c a.1 a.2
    have := plc_bd c b.1 b.2
    omega
  · omega
/-- A day by its date. -/
theorem plT_of {y m d : Int} (h : Vld y m d) : plT (num y m d) = 360 * y + 30 * m + (if d ≤ 30 then d else 30) := by
  obtain ⟨e1, e2, e3⟩ := ofDay_of h rfl
  unfold plT d30
  rw [← e1, ← e2, ← e3]
theorem vld_of {y m d : Int} (y1 : 1900 ≤ y) (y2 : y ≤ 2200) (m1 : 1 ≤ m) (m2 : m ≤ 12) (d1 : 1 ≤ d) (d2 : d ≤ 28) : Vld y m d :=
  ⟨y1, y2, d1, by have := dim_bd y m m1 m2; omega⟩
theorem num_11 (y : Int) : num y 1 1 = st y := by unfold num; rw [cum_one]; omega
theorem plT_st (y : Int) (y1 : 1900 ≤ y) (y2 : y ≤ 2200) : plT (st y) = 360 * y + 31 := by
  have := plT_of (vld_of y1 y2 (by omega : (1:Int) ≤ 1) (by omega) (by omega : (1:Int) ≤ 1) (by omega))
  rw [num_11] at this
  rw [this]; simp; omega
theorem plA_st (y : Int) (y1 : 1900 ≤ y) (y2 : y ≤ 2200) : plA (st y) = y * 133590 := by
  have b := num_bd (vld_of y1 y2 (by omega : (1:Int) ≤ 1) (by omega) (by omega : (1:Int) ≤ 1) (by omega))
  rw [num_11] at b
  have s := st_succ y
  have l := lp_01 y
  have e : yOf (st y) = y := yOf_at b.1 b.2 (by omega) (by omega)
  unfold plA
  rw [e, show st y - st y = 0 by omega, Int.zero_mul]; omega
end Go.Proofs.YtkjdhefmhooplaaDoor
