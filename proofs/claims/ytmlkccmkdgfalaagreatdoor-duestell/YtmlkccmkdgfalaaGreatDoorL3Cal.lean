
/- The calendar by itself: long years, months, the days ahead of a year and of a month, which day a date is: plain arithmetic, no program is spoken of here. -/
namespace Go.Proofs.YtmlkccmkdgfalaaGreatDoor.L3
/-- A year of 366 days. -/
def lng (y : Int) : Bool := decide (y % 4 = 0 ∧ (y % 100 ≠ 0 ∨ y % 400 = 0))
def lp (y : Int) : Int := if lng y = true then 1 else 0
/-- How many days a month has; 0 of one that there is not. -/
def dim (y m : Int) : Int := if m < 1 ∨ 12 < m then 0 else if m = 2 then 28 + lp y else if m = 4 ∨ m = 6 ∨ m = 9 ∨ m = 11 then 30 else 31
def la (y : Int) : Int := (y - 1) / 4 - (y - 1) / 100 + (y - 1) / 400
/-- The number of a year's first day. -/
def st (y : Int) : Int := 365 * (y - 1970) + la y - 477
/-- The days of the months ahead. -/
def cum (y m : Int) : Int :=
  if m ≤ 1 then 0 else if m = 2 then 31 else if m = 3 then 59 + lp y else if m = 4 then 90 + lp y else if m = 5 then 120 + lp y else if m = 6 then 151 + lp y
  else if m = 7 then 181 + lp y else if m = 8 then 212 + lp y else if m = 9 then 243 + lp y else if m = 10 then 273 + lp y else if m = 11 then 304 + lp y else if m = 12 then 334 + lp y else 365 + lp y
/-- Which day a date is. -/
def num (y m d : Int) : Int := st y + cum y m + d - 1
/-- Is there such a day? -/
structure Vld (y m d : Int) : Prop where
  y1 : 1900 ≤ y
  y2 : y ≤ 2200
  d1 : 1 ≤ d
  d2 : d ≤ dim y m
def vldB (y m d : Int) : Bool := decide (1900 ≤ y ∧ y ≤ 2200 ∧ 1 ≤ d ∧ d ≤ dim y m)
theorem vldB_iff (y m d : Int) : vldB y m d = true ↔ Vld y m d :=
  ⟨fun h => by have := of_decide_eq_true h; exact ⟨this.1, this.2.1, this.2.2.1, this.2.2.2⟩, fun h => decide_eq_true ⟨h.y1, h.y2, h.d1, h.d2⟩⟩

theorem lp_01 (y : Int) : 0 ≤ lp y ∧ lp y ≤ 1 := by unfold lp; split <;> omega
theorem lng_of (y : Int) (h : y % 4 = 0) (k : y % 100 ≠ 0 ∨ y % 400 = 0) : lng y = true := decide_eq_true ⟨h, k⟩
theorem lng_not (y : Int) (h : ¬ (y % 4 = 0 ∧ (y % 100 ≠ 0 ∨ y % 400 = 0))) : lng y = false := decide_eq_false h
theorem lp_spec (y : Int) : (y % 4 = 0 ∧ (y % 100 ≠ 0 ∨ y % 400 = 0) ∧ lp y = 1) ∨ (¬ (y % 4 = 0 ∧ (y % 100 ≠ 0 ∨ y % 400 = 0)) ∧ lp y = 0) := by
  unfold lp lng
  by_cases h : y % 4 = 0 ∧ (y % 100 ≠ 0 ∨ y % 400 = 0)
  · left; exact ⟨h.1, h.2, by simp [h]⟩
  · right; exact ⟨h, by simp [h]⟩
theorem la_succ (y : Int) : la (y + 1) = la y + lp y := by
  have := lp_spec y
  unfold la
  rw [show y + 1 - 1 = y by omega]
  omega
theorem st_succ (y : Int) : st (y + 1) = st y + 365 + lp y := by unfold st; rw [la_succ]; omega
theorem st_mono (a b : Int) (h : a ≤ b) : st a ≤ st b := by unfold st la; omega
theorem st_bd (y : Int) (h : 1900 ≤ y) (k : y ≤ 2201) : -25567 ≤ st y ∧ st y ≤ 84371 := by
  have a := st_mono 1900 y h
  have b := st_mono y 2201 k
  have c : st 1900 = -25567 := by decide
  have d : st 2201 = 84371 := by decide
  omega
theorem la_bd (y : Int) (h : 1900 ≤ y) (k : y ≤ 2201) : 400 ≤ la y ∧ la y ≤ 600 := by unfold la; omega
theorem dim_out (y m : Int) (h : m < 1 ∨ 12 < m) : dim y m = 0 := by unfold dim; rw [if_pos h]
theorem dim_bd (y m : Int) (h : 1 ≤ m) (k : m ≤ 12) : 28 ≤ dim y m ∧ dim y m ≤ 31 := by
  have := lp_01 y
  unfold dim; rw [if_neg (by omega)]; split
  · omega
  · split <;> omega
theorem dim_le (y m : Int) : 0 ≤ dim y m ∧ dim y m ≤ 31 := by
  by_cases h : m < 1 ∨ 12 < m
  · rw [dim_out _ _ h]; omega
  · have := dim_bd y m (by omega) (by omega); omega
theorem Vld.m1 {y m d : Int} (h : Vld y m d) : 1 ≤ m := by
  by_cases k : 1 ≤ m
  · exact k
  · have := dim_out y m (by omega); have := h.d1; have := h.d2; omega
theorem Vld.m2 {y m d : Int} (h : Vld y m d) : m ≤ 12 := by
  by_cases k : m ≤ 12
  · exact k
  · have := dim_out y m (by omega); have := h.d1; have := h.d2; omega
theorem Vld.d31 {y m d : Int} (h : Vld y m d) : d ≤ 31 := by have := dim_le y m; have := h.d2; omega
theorem cases12 {m : Int} (h : 1 ≤ m) (k : m ≤ 12) : m = 1 ∨ m = 2 ∨ m = 3 ∨ m = 4 ∨ m = 5 ∨ m = 6 ∨ m = 7 ∨ m = 8 ∨ m = 9 ∨ m = 10 ∨ m = 11 ∨ m = 12 := by omega
theorem cum_succ (y m : Int) (h : 1 ≤ m) (k : m ≤ 12) : cum y (m + 1) = cum y m + dim y m := by
  rcases cases12 h k with rfl | rfl | rfl | rfl | rfl | rfl | rfl | rfl | rfl | rfl | rfl | rfl <;> simp [cum, dim] <;> omega
theorem cum_one (y : Int) : cum y 1 = 0 := rfl
theorem cum_end (y : Int) : cum y 13 = 365 + lp y := rfl
theorem cum_up (y a : Int) (j : Nat) : 1 ≤ a → a + j ≤ 13 → cum y a ≤ cum y (a + j) := by
  induction j with
  | zero => intro _ _; simp
  | succ j ih =>
    intro h1 h2
    have h3 := ih h1 (by omega)
    have h4 := cum_succ y (a + j) (by omega) (by omega)
    have h5 := dim_le y (a + j)
    rw [show a + ((j + 1 : Nat) : Int) = a + j + 1 by omega]
    omega
theorem cum_mono (y m k : Int) (h : 1 ≤ m) (hk : m < k) (h2 : k ≤ 13) : cum y (m + 1) ≤ cum y k := by
  have := cum_up y (m + 1) (k - (m + 1)).toNat (by omega) (by omega)
  rwa [show m + 1 + ((k - (m + 1)).toNat : Int) = k by omega] at this
theorem cum_bd (y m : Int) (h : 1 ≤ m) (k : m ≤ 13) : 0 ≤ cum y m ∧ cum y m ≤ 366 := by
  have a := cum_up y 1 (m - 1).toNat (by omega) (by omega)
  have b := cum_up y m (13 - m).toNat (by omega) (by omega)
  rw [show (1 : Int) + ((m - 1).toNat : Int) = m by omega, cum_one] at a
  rw [show m + ((13 - m).toNat : Int) = 13 by omega, cum_end] at b
  have := lp_01 y
  omega

theorem num_bd {y m d : Int} (h : Vld y m d) : -25567 ≤ num y m d ∧ num y m d ≤ 84370 := by
  have a := st_bd y h.y1 (by have := h.y2; omega)
  have b := cum_bd y m h.m1 (by have := h.m2; omega)
  have c := st_succ y
  have e := cum_succ y m h.m1 h.m2
  have f := cum_mono y m 13 h.m1 (by have := h.m2; omega) (by omega)
  have g := cum_end y
  have i := st_bd (y + 1) (by have := h.y1; omega) (by have := h.y2; omega)
  have := h.d1; have := h.d2
  unfold num; omega
/-- A date that is ahead is a day that is ahead. -/
theorem num_lt {y m d y' m' d' : Int} (h : Vld y m d) (h' : Vld y' m' d') (k : y < y' ∨ y = y' ∧ (m < m' ∨ m = m' ∧ d < d')) : num y m d < num y' m' d' := by
  have e := cum_succ y m h.m1 h.m2
  have f := cum_mono y m 13 h.m1 (by have := h.m2; omega) (by omega)
  have g := cum_end y
  have b := cum_bd y' m' h'.m1 (by have := h'.m2; omega)
  have := h.d1; have := h.d2; have := h'.d1; have := h'.d2
  rcases k with k | ⟨rfl, k | ⟨rfl, k⟩⟩
  · have c := st_succ y
    have s := st_mono (y + 1) y' (by omega)
    unfold num; omega
  · have s := cum_mono y m m' h.m1 k (by have := h'.m2; omega)
    unfold num; omega
  · unfold num; omega
theorem num_iff {y m d y' m' d' : Int} (h : Vld y m d) (h' : Vld y' m' d') : (y < y' ∨ y = y' ∧ (m < m' ∨ m = m' ∧ d < d')) ↔ num y m d < num y' m' d' := by
  refine ⟨num_lt h h', fun k => ?_⟩
  by_cases a : y < y' ∨ y = y' ∧ (m < m' ∨ m = m' ∧ d < d')
  · exact a
  · by_cases b : y' < y ∨ y' = y ∧ (m' < m ∨ m' = m ∧ d' < d)
    · have := num_lt h' h b; omega
    · have h1 : y = y' := by omega
      have h2 : m = m' := by omega
      have h3 : d = d' := by omega
      subst h1; subst h2; subst h3; omega
/-- One date a day. -/
theorem num_inj {y m d y' m' d' : Int} (h : Vld y m d) (h' : Vld y' m' d') (k : num y m d = num y' m' d') : y = y' ∧ m = m' ∧ d = d' := by
  have a := num_iff h h'
  have b := num_iff h' h
  by_cases c : y < y' ∨ y = y' ∧ (m < m' ∨ m = m' ∧ d < d')
  · have := a.1 c; omega
  · by_cases e : y' < y ∨ y' = y ∧ (m' < m ∨ m' = m ∧ d' < d)
    · have := b.1 e; omega
    · omega

/-- The table of the months, from 0 on. -/
def mtab : List Int := [31, 28, 31, 30, 31, 30, 31, 31, 30, 31, 30, 31]
theorem mtab_dim (y m : Int) (h : 1 ≤ m) (k : m ≤ 12) (hn : ¬ (m = 2 ∧ lng y = true)) : mtab[(m - 1).toNat]? = some (dim y m) := by
  rcases cases12 h k with rfl | rfl | rfl | rfl | rfl | rfl | rfl | rfl | rfl | rfl | rfl | rfl <;> simp [mtab, dim]
  have : lng y = false := by simpa using hn
  simp [lp, this]
theorem dim_feb (y : Int) (h : lng y = true) : dim y 2 = 29 := by simp [dim, lp, h]

/-- The year in which a day is: the first guess is never too late. -/
theorem guess_le (n : Int) (h : -25567 ≤ n) (k : n ≤ 84370) : 1900 ≤ 1900 + (n + 25567) / 366 ∧ 1900 + (n + 25567) / 366 ≤ 2200 ∧ st (1900 + (n + 25567) / 366) ≤ n := by
  have h0 : 0 ≤ (n + 25567) / 366 := by omega
  have h1 : (n + 25567) / 366 ≤ 300 := by omega
  refine ⟨by omega, by omega, ?_⟩
  have hb : ∀ j : Int, 0 ≤ j → j ≤ 300 → st (1900 + j) ≤ 366 * j - 25567 := by
    intro j a b
    unfold st la; omega
  have := hb _ h0 h1
  omega
/-- The document's own count, in steps of four years. -/
theorem la_four (y k : Int) (h1 : 1900 + 4 * k < y + 4) (h2 : y ≤ 1900 + 4 * k) : la (1900 + 4 * k) = la y := by
  unfold la; omega
theorem la_step (k : Int) : la (1900 + 4 * (k + 1)) = la (1900 + 4 * k) + lp (1900 + 4 * k) := by
  have := lp_spec (1900 + 4 * k)
  unfold la; omega
theorem st_before (y : Int) : 365 * (y - 1900) + (la y - la 1900) = st y + 25567 := by
  have : la 1900 = 460 := by decide
  unfold st; omega
end Go.Proofs.YtmlkccmkdgfalaaGreatDoor.L3