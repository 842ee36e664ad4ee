/- Texts of an elder layer, one behind the other (layer 3), as contracts: no statement of the seat is proved here. -/
import Derived.Test.YtafjmpaefikdcaaGreatDoorProg
import Derived.Test.YtafjmpaefikdcaaGreatDoorBase
import Derived.Deep.QuietTactic
import Derived.BigQuiet
import Derived.Test.YtafjmpaefikdcaaGreatDoorLate
/- The calendar by itself: long years, months, the days ahead of a year and of a month, which day a date is: plain arithmetic, no program is spoken of here. -/
namespace Go.Proofs.YtafjmpaefikdcaaGreatDoor.L3
/-- A year of 366 days. -/
def lng (y : Int) : Bool := decide (y % 4 = 0 ∧ (y % 100 ≠ 0 ∨ y % 400 = 0))
def lp (y : Int) : Int := if lng y = true then 1 else 0
/-- How many days a month has; 0 of one that there is not. -/
def dim (y m : Int) : Int := if m < 1 ∨ 12 < m then 0 else if m = 2 then 28 + lp y else if m = 4 ∨ m = 6 ∨ m = 9 ∨ m = 11 then 30 else 31
def la (y : Int) : Int := (y - 1) / 4 - (y - 1) / 100 + (y - 1) / 400
/-- The number of a year's first day. -/
def st (y : Int) : Int := 365 * (y - 1970) + la y - 477
/-- The days of the months ahead. -/
def cum (y m : Int) : Int :=
  if m ≤ 1 then 0 else if m = 2 then 31 else if m = 3 then 59 + lp y else if m = 4 then 90 + lp y else if m = 5 then 120 + lp y else if m = 6 then 151 + lp y
  else if m = 7 then 181 + lp y else if m = 8 then 212 + lp y else if m = 9 then 243 + lp y else if m = 10 then 273 + lp y else if m = 11 then 304 + lp y else if m = 12 then 334 + lp y else 365 + lp y
/-- Which day a date is. -/
def num (y m d : Int) : Int := st y + cum y m + d - 1
/-- Is there such a day? -/
structure Vld (y m d : Int) : Prop where
  y1 : 1900 ≤ y
  y2 : y ≤ 2200
  d1 : 1 ≤ d
  d2 : d ≤ dim y m
def vldB (y m d : Int) : Bool := decide (1900 ≤ y ∧ y ≤ 2200 ∧ 1 ≤ d ∧ d ≤ dim y m)
theorem vldB_iff (y m d : Int) : vldB y m d = true ↔ Vld y m d :=
  ⟨fun h => by have := of_decide_eq_true h; exact ⟨this.1, this.2.1, this.2.2.1, this.2.2.2⟩, fun h => decide_eq_true ⟨h.y1, h.y2, h.d1, h.d2⟩⟩

theorem lp_01 (y : Int) : 0 ≤ lp y ∧ lp y ≤ 1 := by unfold lp; split <;> omega
theorem lng_of (y : Int) (h : y % 4 = 0) (k : y % 100 ≠ 0 ∨ y % 400 = 0) : lng y = true := decide_eq_true ⟨h, k⟩
theorem lng_not (y : Int) (h : ¬ (y % 4 = 0 ∧ (y % 100 ≠ 0 ∨ y % 400 = 0))) : lng y = false := decide_eq_false h
theorem lp_spec (y : Int) : (y % 4 = 0 ∧ (y % 100 ≠ 0 ∨ y % 400 = 0) ∧ lp y = 1) ∨ (¬ (y % 4 = 0 ∧ (y % 100 ≠ 0 ∨ y % 400 = 0)) ∧ lp y = 0) := by
  unfold lp lng
  by_cases h : y % 4 = 0 ∧ (y % 100 ≠ 0 ∨ y % 400 = 0)
  · left; exact ⟨h.1, h.2, by simp [h]⟩
  · right; exact ⟨h, by simp [h]⟩
theorem la_succ (y : Int) : la (y + 1) = la y + lp y := by
  have := lp_spec y
  unfold la
  rw [show y + 1 - 1 = y by omega]
  omega
theorem st_succ (y : Int) : st (y + 1) = st y + 365 + lp y := by unfold st; rw [la_succ]; omega
theorem st_mono (a b : Int) (h : a ≤ b) : st a ≤ st b := by unfold st la; omega
theorem st_bd (y : Int) (h : 1900 ≤ y) (k : y ≤ 2201) : -25567 ≤ st y ∧ st y ≤ 84371 := by
  have a := st_mono 1900 y h
  have b := st_mono y 2201 k
  have c : st 1900 = -25567 := by decide
  have d : st 2201 = 84371 := by decide
  omega
theorem la_bd (y : Int) (h : 1900 ≤ y) (k : y ≤ 2201) : 400 ≤ la y ∧ la y ≤ 600 := by unfold la; omega
theorem dim_out (y m : Int) (h : m < 1 ∨ 12 < m) : dim y m = 0 := by unfold dim; rw [if_pos h]
theorem dim_bd (y m : Int) (h : 1 ≤ m) (k : m ≤ 12) : 28 ≤ dim y m ∧ dim y m ≤ 31 := by
  have := lp_01 y
  unfold dim; rw [if_neg (by omega)]; split
  · omega
  · split <;> omega
theorem dim_le (y m : Int) : 0 ≤ dim y m ∧ dim y m ≤ 31 := by
  by_cases h : m < 1 ∨ 12 < m
  · rw [dim_out _ _ h]; omega
  · have := dim_bd y m (by omega) (by omega); omega
theorem Vld.m1 {y m d : Int} (h : Vld y m d) : 1 ≤ m := by
  by_cases k : 1 ≤ m
  · exact k
  · have := dim_out y m (by omega); have := h.d1; have := h.d2; omega
theorem Vld.m2 {y m d : Int} (h : Vld y m d) : m ≤ 12 := by
  by_cases k : m ≤ 12
  · exact k
  · have := dim_out y m (by omega); have := h.d1; have := h.d2; omega
theorem Vld.d31 {y m d : Int} (h : Vld y m d) : d ≤ 31 := by have := dim_le y m; have := h.d2; omega
theorem cases12 {m : Int} (h : 1 ≤ m) (k : m ≤ 12) : m = 1 ∨ m = 2 ∨ m = 3 ∨ m = 4 ∨ m = 5 ∨ m = 6 ∨ m = 7 ∨ m = 8 ∨ m = 9 ∨ m = 10 ∨ m = 11 ∨ m = 12 := by omega
theorem cum_succ (y m : Int) (h : 1 ≤ m) (k : m ≤ 12) : cum y (m + 1) = cum y m + dim y m := by
  rcases cases12 h k with rfl | rfl | rfl | rfl | rfl | rfl | rfl | rfl | rfl | rfl | rfl | rfl <;> simp [cum, dim] <;> omega
theorem cum_one (y : Int) : cum y 1 = 0 := rfl
theorem cum_end (y : Int) : cum y 13 = 365 + lp y := rfl
theorem cum_up (y a : Int) (j : Nat) : 1 ≤ a → a + j ≤ 13 → cum y a ≤ cum y (a + j) := by
  induction j with
  | zero => intro _ _; simp
  | succ j ih =>
    intro h1 h2
    have h3 := ih h1 (by omega)
    have h4 := cum_succ y (a + j) (by omega) (by omega)
    have h5 := dim_le y (a + j)
    rw [show a + ((j + 1 : Nat) : Int) = a + j + 1 by omega]
    omega
theorem cum_mono (y m k : Int) (h : 1 ≤ m) (hk : m < k) (h2 : k ≤ 13) : cum y (m + 1) ≤ cum y k := by
  have := cum_up y (m + 1) (k - (m + 1)).toNat (by omega) (by omega)
  rwa [show m + 1 + ((k - (m + 1)).toNat : Int) = k by omega] at this
theorem cum_bd (y m : Int) (h : 1 ≤ m) (k : m ≤ 13) : 0 ≤ cum y m ∧ cum y m ≤ 366 := by
  have a := cum_up y 1 (m - 1).toNat (by omega) (by omega)
  have b := cum_up y m (13 - m).toNat (by omega) (by omega)
  rw [show (1 : Int) + ((m - 1).toNat : Int) = m by omega, cum_one] at a
  rw [show m + ((13 - m).toNat : Int) = 13 by omega, cum_end] at b
  have := lp_01 y
  omega

theorem num_bd {y m d : Int} (h : Vld y m d) : -25567 ≤ num y m d ∧ num y m d ≤ 84370 := by
  have a := st_bd y h.y1 (by have := h.y2; omega)
  have b := cum_bd y m h.m1 (by have := h.m2; omega)
  have c := st_succ y
  have e := cum_succ y m h.m1 h.m2
  have f := cum_mono y m 13 h.m1 (by have := h.m2; omega) (by omega)
  have g := cum_end y
  have i := st_bd (y + 1) (by have := h.y1; omega) (by have := h.y2; omega)
  have := h.d1; have := h.d2
  unfold num; omega
/-- A date that is ahead is a day that is ahead. -/
theorem num_lt {y m d y' m' d' : Int} (h : Vld y m d) (h' : Vld y' m' d') (k : y < y' ∨ y = y' ∧ (m < m' ∨ m = m' ∧ d < d')) : num y m d < num y' m' d' := by
  have e := cum_succ y m h.m1 h.m2
  have f := cum_mono y m 13 h.m1 (by have := h.m2; omega) (by omega)
  have g := cum_end y
  have b := cum_bd y' m' h'.m1 (by have := h'.m2; omega)
  have := h.d1; have := h.d2; have := h'.d1; have := h'.d2
  rcases k with k | ⟨rfl, k | ⟨rfl, k⟩⟩
  · have c := st_succ y
    have s := st_mono (y + 1) y' (by omega)
    unfold num; omega
  · have s := cum_mono y m m' h.m1 k (by have := h'.m2; omega)
    unfold num; omega
  · unfold num; omega
theorem num_iff {y m d y' m' d' : Int} (h : Vld y m d) (h' : Vld y' m' d') : (y < y' ∨ y = y' ∧ (m < m' ∨ m = m' ∧ d < d')) ↔ num y m d < num y' m' d' := by
  refine ⟨num_lt h h', fun k => ?_⟩
  by_cases a : y < y' ∨ y = y' ∧ (m < m' ∨ m = m' ∧ d < d')
  · exact a
  · by_cases b : y' < y ∨ y' = y ∧ (m' < m ∨ m' = m ∧ d' < d)
    · have := num_lt h' h b; omega
    · have h1 : y = y' := by omega
      have h2 : m = m' := by omega
      have h3 : d = d' := by omega
      subst h1; subst h2; subst h3; omega
/-- One date a day. -/
theorem num_inj {y m d y' m' d' : Int} (h : Vld y m d) (h' : Vld y' m' d') (k : num y m d = num y' m' d') : y = y' ∧ m = m' ∧ d = d' := by
  have a := num_iff h h'
  have b := num_iff h' h
  by_cases c : y < y' ∨ y = y' ∧ (m < m' ∨ m = m' ∧ d < d')
  · have := a.1 c; omega
  · by_cases e : y' < y ∨ y' = y ∧ (m' < m ∨ m' = m ∧ d' < d)
    · have := b.1 e; omega
    · omega

/-- The table of the months, from 0 on. -/
def mtab : List Int := [31, 28, 31, 30, 31, 30, 31, 31, 30, 31, 30, 31]
theorem mtab_dim (y m : Int) (h : 1 ≤ m) (k : m ≤ 12) (hn : ¬ (m = 2 ∧ lng y = true)) : mtab[(m - 1).toNat]? = some (dim y m) := by
  rcases cases12 h k with rfl | rfl | rfl | rfl | rfl | rfl | rfl | rfl | rfl | rfl | rfl | rfl <;> simp [mtab, dim]
  have : lng y = false := by simpa using hn
  simp [lp, this]
theorem dim_feb (y : Int) (h : lng y = true) : dim y 2 = 29 := by simp [dim, lp, h]

/-- The year in which a day is: the first guess is never too late. -/
theorem guess_le (n : Int) (h : -25567 ≤ n) (k : n ≤ 84370) : 1900 ≤ 1900 + (n + 25567) / 366 ∧ 1900 + (n + 25567) / 366 ≤ 2200 ∧ st (1900 + (n + 25567) / 366) ≤ n := by
  have h0 : 0 ≤ (n + 25567) / 366 := by omega
  have h1 : (n + 25567) / 366 ≤ 300 := by omega
  refine ⟨by omega, by omega, ?_⟩
  have hb : ∀ j : Int, 0 ≤ j → j ≤ 300 → st (1900 + j) ≤ 366 * j - 25567 := by
    intro j a b
    unfold st la; omega
  have := hb _ h0 h1
  omega
/-- The document's own count, in steps of four years. -/
theorem la_four (y k : Int) (h1 : 1900 + 4 * k < y + 4) (h2 : y ≤ 1900 + 4 * k) : la (1900 + 4 * k) = la y := by
  unfold la; omega
theorem la_step (k : Int) : la (1900 + 4 * (k + 1)) = la (1900 + 4 * k) + lp (1900 + 4 * k) := by
  have := lp_spec (1900 + 4 * k)
  unfold la; omega
theorem st_before (y : Int) : 365 * (y - 1900) + (la y - la 1900) = st y + 25567 := by
  have : la 1900 = 460 := by decide
  unfold st; omega
end Go.Proofs.YtafjmpaefikdcaaGreatDoor.L3
/- What the small functions of package civil, and the document's own, do, as contracts: no statement of the seat is proved here. -/
namespace Go.Proofs.YtafjmpaefikdcaaGreatDoor.L3
open Go.RowKit
set_option linter.unusedVariables false

/-- What the walks ask of the listed variables: the months' table. -/
structure Env (w : World) : Prop where
  mon : ∀ (i : Nat) (v : Int), mtab[i]? = some v → w.cell? ⟨2, i, none⟩ = some (.int .i64 v)
theorem Env.ext {w w' : World} (h : Env w) (hx : Ext w w') : Env w' :=
  ⟨fun i v hi => by
    have := h.mon i v hi
    rw [hx.cell _ _ (lt_of_cell this)]; exact this⟩
def I64 (n : Int) : Prop := -9223372036854775808 ≤ n ∧ n ≤ 9223372036854775807
theorem tmod_zero (a b : Int) : a.tmod b = 0 ↔ a % b = 0 := by
  rw [← Int.dvd_iff_tmod_eq_zero, ← Int.dvd_iff_emod_eq_zero]
theorem ret_bool {a b : Bool} (h : a = b) : Ending.returned (.bool a) = .returned (.bool b) := by rw [h]
theorem ret_int {k : IntKind} {a b : Int} (h : a = b) : Ending.returned (.int k a) = .returned (.int k b) := by rw [h]

theorem long_c (y : Int) (w : World) :
    Calls Tryz.prog 136 #[.int .i64 y] w fun e w' => e = .returned (.bool (lng y)) ∧ w' = w := by
  have e4 := tmod_zero y 4; have e100 := tmod_zero y 100; have e400 := tmod_zero y 400
  replace e4 := show Hid _ from e4; replace e100 := show Hid _ from e100; replace e400 := show Hid _ from e400
  by_cases h4 : y.tmod 4 = 0
  · by_cases h100 : y.tmod 100 = 0
    · by_cases h400 : y.tmod 400 = 0
      · have hl : lng y = true := lng_of y (e4.out.1 h4) (Or.inr (e400.out.1 h400))
        rw [hl]
        clear hl
        go_enter Tryz.func136, Tryz.ntmps136
        go_wp2
        go_ret
        exact ⟨rfl, rfl⟩
      · have hl : lng y = false := lng_not y (fun k => by have := e100.out.1 h100; have := mt e400.out.2 h400; omega)
        rw [hl]
        clear hl
        go_enter Tryz.func136, Tryz.ntmps136
        go_wp2
        go_ret
        exact ⟨ret_bool (by simp [h400]), rfl⟩
    · have hl : lng y = true := lng_of y (e4.out.1 h4) (Or.inl (mt e100.out.2 h100))
      rw [hl]
      clear hl
      go_enter Tryz.func136, Tryz.ntmps136
      go_wp2
      go_ret
      exact ⟨rfl, rfl⟩
  · have hl : lng y = false := lng_not y (fun k => h4 (e4.out.2 k.1))
    rw [hl]
    clear hl
    go_enter Tryz.func136, Tryz.ntmps136
    go_wp2
    go_ret
    exact ⟨rfl, rfl⟩
theorem Long_c (y : Int) (w : World) :
    Calls Tryz.prog 133 #[.int .i64 y] w fun e w' => e = .returned (.bool (lng y)) ∧ w' = w := by
  go_enter Tryz.func133, Tryz.ntmps133
  go_wp2_with (go_at_call 136; refine (long_c _ _).mono ?_; rintro e w' ⟨rfl, rfl⟩)
  go_ret
  exact ⟨rfl, rfl⟩

theorem month_c (y m : Int) (w : World) (hm : I64 m) (he : Hid (Env w)) :
    Calls Tryz.prog 130 #[.int .i64 y, .int .i64 m] w fun e w' => e = .returned (.int .i64 (dim y m)) ∧ w' = w := by
  obtain ⟨m1, m2⟩ := hm
  by_cases h1 : m < 1
  · rw [dim_out y m (Or.inl h1)]
    go_enter Tryz.func130, Tryz.ntmps130
    go_wp2
    go_ret
    exact ⟨rfl, rfl⟩
  · by_cases h2 : 12 < m
    · rw [dim_out y m (Or.inr h2)]
      go_enter Tryz.func130, Tryz.ntmps130
      go_wp2
      go_ret
      exact ⟨rfl, rfl⟩
    · by_cases h3 : m = 2
      · subst h3
        cases hl : lng y
        · have hc := he.out.mon 1 28 rfl
          rw [show dim y 2 = 28 by simp [dim, lp, hl]]
          go_enter Tryz.func130, Tryz.ntmps130
          go_wp2_with (go_at_call 136; refine (long_c _ _).mono ?_; rintro e w' ⟨rfl, rfl⟩; rw [hl])
          go_ret
          exact ⟨rfl, rfl⟩
        · have hc := he.out.mon 1 28 rfl
          rw [dim_feb y hl]
          go_enter Tryz.func130, Tryz.ntmps130
          go_wp2_with (go_at_call 136; refine (long_c _ _).mono ?_; rintro e w' ⟨rfl, rfl⟩; rw [hl])
          go_ret
          exact ⟨rfl, rfl⟩
      · have hc := he.out.mon _ _ (mtab_dim y m (by omega) (by omega) (fun k => h3 k.1))
        rw [show (m - 1).toNat = m.toNat - 1 by omega] at hc
        generalize dim y m = v at hc ⊢
        go_enter Tryz.func130, Tryz.ntmps130
        go_wp2
        go_ret
        exact ⟨rfl, rfl⟩
/-- The day of the week. -/
def wday (n : Int) : Int := (n + 3) % 7
theorem rLong_c (y : Int) (w : World) :
    Calls Tryz.prog 72 #[.int .i64 y] w fun e w' => e = .returned (.bool (lng y)) ∧ w' = w := by
  have e4 := tmod_zero y 4; have e100 := tmod_zero y 100; have e400 := tmod_zero y 400
  replace e4 := show Hid _ from e4; replace e100 := show Hid _ from e100; replace e400 := show Hid _ from e400
  by_cases h400 : y.tmod 400 = 0
  · have hl : lng y = true := lng_of y (by have := e400.out.1 h400; omega) (Or.inr (e400.out.1 h400))
    rw [hl]
    clear hl
    go_enter Tryz.func72, Tryz.ntmps72
    go_wp2
    go_ret
    exact ⟨rfl, rfl⟩
  · by_cases h4 : y.tmod 4 = 0
    · by_cases h100 : y.tmod 100 = 0
      · have hl : lng y = false := lng_not y (fun k => by have := e100.out.1 h100; have := mt e400.out.2 h400; omega)
        rw [hl]
        clear hl
        go_enter Tryz.func72, Tryz.ntmps72
        go_wp2
        go_ret
        exact ⟨rfl, rfl⟩
      · have hl : lng y = true := lng_of y (e4.out.1 h4) (Or.inl (mt e100.out.2 h100))
        rw [hl]
        clear hl
        go_enter Tryz.func72, Tryz.ntmps72
        go_wp2
        go_ret
        exact ⟨ret_bool (by simp [h100]), rfl⟩
    · have hl : lng y = false := lng_not y (fun k => h4 (e4.out.2 k.1))
      rw [hl]
      clear hl
      go_enter Tryz.func72, Tryz.ntmps72
      go_wp2
      go_ret
      exact ⟨rfl, rfl⟩
end Go.Proofs.YtafjmpaefikdcaaGreatDoor.L3
/- Years and months of package civil, and the document's own, as contracts: no statement of the seat is proved here. -/
namespace Go.Proofs.YtafjmpaefikdcaaGreatDoor.L3
open Go.RowKit
set_option linter.unusedVariables false

theorem tdiv_pos (a b : Int) (h : 0 ≤ a) : a.tdiv b = a / b := Int.tdiv_eq_ediv_of_nonneg h
theorem longAhead_c (y : Int) (w : World) (h1 : 1900 ≤ y) (h2 : y ≤ 2201) :
    Calls Tryz.prog 137 #[.int .i64 y] w fun e w' => e = .returned (.int .i64 (la y)) ∧ w' = w := by
  unfold la
  go_enter Tryz.func137, Tryz.ntmps137
  go_wp2
  go_ret
  exact ⟨rfl, rfl⟩
theorem start_c (y : Int) (w : World) (h1 : 1900 ≤ y) (h2 : y ≤ 2201) :
    Calls Tryz.prog 131 #[.int .i64 y] w fun e w' => e = .returned (.int .i64 (st y)) ∧ w' = w := by
  obtain ⟨b1, b2⟩ := la_bd y h1 h2
  have hl : la 1970 = 477 := by decide
  unfold st
  go_enter Tryz.func131, Tryz.ntmps131
  go_wp2_with (go_at_call 137; refine (longAhead_c _ _ (by omega) (by omega)).mono ?_; rintro e w' ⟨rfl, rfl⟩)
  go_ret
  exact ⟨ret_int (by omega), rfl⟩
theorem known_c (y : Int) (w : World) :
    Calls Tryz.prog 129 #[.int .i64 y] w fun e w' => e = .returned (.bool (decide (1900 ≤ y ∧ y ≤ 2200))) ∧ w' = w := by
  by_cases h1 : 1900 ≤ y
  · by_cases h2 : y ≤ 2200
    · rw [decide_eq_true (show 1900 ≤ y ∧ y ≤ 2200 from ⟨h1, h2⟩)]
      go_enter Tryz.func129, Tryz.ntmps129
      go_wp2
      go_ret
      exact ⟨rfl, rfl⟩
    · rw [decide_eq_false (show ¬ (1900 ≤ y ∧ y ≤ 2200) from fun k => h2 k.2)]
      go_enter Tryz.func129, Tryz.ntmps129
      go_wp2
      go_ret
      exact ⟨rfl, rfl⟩
  · rw [decide_eq_false (show ¬ (1900 ≤ y ∧ y ≤ 2200) from fun k => h1 k.1)]
    go_enter Tryz.func129, Tryz.ntmps129
    go_wp2
    go_ret
    exact ⟨rfl, rfl⟩
theorem index_mon (k v : Int) (i : Nat) (hk : k = i) (hv : mtab[i]? = some v) (w : World) :
    (Instr.index 148 (.agg #[.int .i64 31, .int .i64 28, .int .i64 31, .int .i64 30, .int .i64 31, .int .i64 30, .int .i64 31, .int .i64 31, .int .i64 30, .int .i64 31, .int .i64 30, .int .i64 31]) (.int .i64 k)).run Tryz.prog w = .ok (.int .i64 v) w := by
  have hi : i < 12 := by
    rcases Nat.lt_or_ge i 12 with h | h
    · exact h
    · rw [List.getElem?_eq_none (by simpa [mtab] using h)] at hv; cases hv
  subst hk
  have hc : i = 0 ∨ i = 1 ∨ i = 2 ∨ i = 3 ∨ i = 4 ∨ i = 5 ∨ i = 6 ∨ i = 7 ∨ i = 8 ∨ i = 9 ∨ i = 10 ∨ i = 11 := by omega
  rcases hc with rfl | rfl | rfl | rfl | rfl | rfl | rfl | rfl | rfl | rfl | rfl | rfl <;> (obtain rfl := Option.some.inj hv; simp [Instr.index, asIntOf, run_underlying Tryz.underlying148, part, go_sem])
theorem rMonth_c (y m : Int) (w : World) (hm : I64 m) :
    Calls Tryz.prog 95 #[.int .i64 y, .int .i64 m] w fun e w' => e = .returned (.int .i64 (dim y m)) ∧ w' = w := by
  obtain ⟨m1, m2⟩ := hm
  by_cases h1 : m < 1
  · rw [dim_out y m (Or.inl h1)]
    go_enter Tryz.func95, Tryz.ntmps95
    go_wp2
    go_ret
    exact ⟨rfl, rfl⟩
  · by_cases h2 : 12 < m
    · rw [dim_out y m (Or.inr h2)]
      go_enter Tryz.func95, Tryz.ntmps95
      go_wp2
      go_ret
      exact ⟨rfl, rfl⟩
    · by_cases h3 : m = 2
      · subst h3
        have hx := index_mon 1 28 1 rfl rfl
        cases hl : lng y
        · rw [show dim y 2 = 28 by simp [dim, lp, hl]]
          go_enter Tryz.func95, Tryz.ntmps95
          go_wp2_with (go_at_call 72; refine (rLong_c _ _).mono ?_; rintro e w' ⟨rfl, rfl⟩; rw [hl])
          go_ret
          exact ⟨rfl, rfl⟩
        · rw [dim_feb y hl]
          go_enter Tryz.func95, Tryz.ntmps95
          go_wp2_with (go_at_call 72; refine (rLong_c _ _).mono ?_; rintro e w' ⟨rfl, rfl⟩; rw [hl])
          go_ret
          exact ⟨rfl, rfl⟩
      · have hx := index_mon (m - 1) _ _ (by omega) (mtab_dim y m (by omega) (by omega) (fun k => h3 k.1))
        generalize dim y m = v at hx ⊢
        go_enter Tryz.func95, Tryz.ntmps95
        go_wp2
        go_ret
        exact ⟨rfl, rfl⟩

/-- y.month as a value. -/
theorem ahead_c (y m : Int) (w : World) (h1 : 1 ≤ m) (h2 : m ≤ 12) (he : Hid (Env w)) :
    Calls Tryz.prog 132 #[.int .i64 m, .func (.func 130) #[.int .i64 y] #[]] w fun e w' => e = .returned (.int .i64 (cum y m)) ∧ w' = w := by
  go_enter Tryz.func132, Tryz.ntmps132
  go_wp2
  go_loop [5, 6] (fun s k => ∃ j : Int, 1 ≤ j ∧ j ≤ m ∧ k = .int .i64 j ∧ s = .int .i64 (cum y j)) (fun _ k => (m - RowKit.intOf k).toNat)
  case atStart => exact ⟨1, by omega, by omega, rfl, rfl⟩
  case round =>
    obtain ⟨j, j1, j2, rfl, rfl⟩ := hrel
    have cb := cum_bd y j j1 (by omega)
    obtain ⟨c1, c2⟩ := cb
    have db := dim_bd y j j1 (by omega)
    obtain ⟨d1, d2⟩ := db
    have cs := cum_succ y j j1 (by omega)
    replace cs := show Hid _ from cs
    by_cases hj : j < m
    · go_wp2_with (go_at_call 130; refine (month_c _ _ _ (by unfold I64; omega) he).mono ?_; rintro e w' ⟨rfl, rfl⟩)
      go_round
      case rel => exact ⟨j + 1, by omega, by omega, by go_num, by rw [cs.out]⟩
      case measure => simp [RowKit.intOf]; omega
    · obtain rfl : j = m := by omega
      go_wp2
      go_ret
      exact ⟨rfl, rfl⟩
theorem before_c (y : Int) (w : World) (h1 : 1900 ≤ y) (h2 : y ≤ 2201) :
    Calls Tryz.prog 97 #[.int .i64 y] w fun e w' => e = .returned (.int .i64 (st y + 25567)) ∧ w' = w := by
  have hb := st_before y
  rw [← hb]
  clear hb
  go_enter Tryz.func97, Tryz.ntmps97
  go_wp2
  go_loop [3, 4] (fun s t => ∃ k : Int, 0 ≤ k ∧ 1900 + 4 * k < y + 4 ∧ t = .int .i64 (1900 + 4 * k) ∧ s = .int .i64 (365 * (y - 1900) + (la (1900 + 4 * k) - la 1900))) (fun _ t => (y - RowKit.intOf t).toNat)
  case atStart => exact ⟨0, by omega, by omega, rfl, by simp⟩
  case round =>
    obtain ⟨k, k1, k2, rfl, rfl⟩ := hrel
    have hs := show Hid _ from la_step k
    obtain ⟨b1, b2⟩ : 400 ≤ la (1900 + 4 * k) ∧ la (1900 + 4 * k) ≤ 600 := by unfold la; omega
    have b3 : la 1900 = 460 := by decide
    rw [b3]
    generalize hq : la (1900 + 4 * k) = q at *
    replace hq := show Hid _ from hq
    by_cases hk : 1900 + 4 * k < y
    · cases hl : lng (1900 + 4 * k)
      · go_wp2_with (go_at_call 72; refine (rLong_c _ _).mono ?_; rintro e w' ⟨rfl, rfl⟩; rw [hl])
        go_round
        case rel => exact ⟨k + 1, by omega, by omega, by go_num, by rw [hs.out]; simp [lp, hl]⟩
        case measure => simp [RowKit.intOf]; omega
      · go_wp2_with (go_at_call 72; refine (rLong_c _ _).mono ?_; rintro e w' ⟨rfl, rfl⟩; rw [hl])
        go_round
        case rel => exact ⟨k + 1, by omega, by omega, by go_num, by rw [hs.out]; simp [lp, hl]; omega⟩
        case measure => simp [RowKit.intOf]; omega
    · have hf := la_four y k k2 (by omega)
      go_wp2
      go_ret
      exact ⟨ret_int (by rw [← hf, hq.out]), rfl⟩
end Go.Proofs.YtafjmpaefikdcaaGreatDoor.L3
/- Number of package civil, and the document's own, as contracts: no statement of the seat is proved here. -/
namespace Go.Proofs.YtafjmpaefikdcaaGreatDoor.L3
open Go.RowKit
set_option linter.unusedVariables false

/-- What Number answers. -/
def numA (y m d : Int) : Int := if vldB y m d = true then num y m d else 0
def numE (y m d : Int) : Int := if vldB y m d = true then 0 else 5
theorem numA_ok (y m d : Int) (h : Vld y m d) : numA y m d = num y m d ∧ numE y m d = 0 := by
  unfold numA numE; simp [(vldB_iff y m d).2 h]
theorem numA_no (y m d : Int) (h : ¬ Vld y m d) : numA y m d = 0 ∧ numE y m d = 5 := by
  unfold numA numE; simp [mt (vldB_iff y m d).1 h]

theorem ret_two {a b c d : Int} (h : a = b) (k : c = d) : Ending.returned (.tuple #[.int .i64 a, .int .i64 c]) = .returned (.tuple #[.int .i64 b, .int .i64 d]) := by rw [h, k]
theorem known_t (y : Int) (w : World) (h1 : 1900 ≤ y) (h2 : y ≤ 2200) :
    Calls Tryz.prog 129 #[.int .i64 y] w fun e w' => e = .returned (.bool true) ∧ w' = w := by
  have := known_c y w
  rwa [decide_eq_true (show 1900 ≤ y ∧ y ≤ 2200 from ⟨h1, h2⟩)] at this
theorem known_f (y : Int) (w : World) (h : ¬ (1900 ≤ y ∧ y ≤ 2200)) :
    Calls Tryz.prog 129 #[.int .i64 y] w fun e w' => e = .returned (.bool false) ∧ w' = w := by
  have := known_c y w
  rwa [decide_eq_false h] at this
set_option maxHeartbeats 1000000 in
theorem Number_ok (y m d : Int) (w : World) (hv : Vld y m d) (he : Hid (Env w)) :
    Calls Tryz.prog 121 #[.agg #[.int .i64 y, .int .i64 m, .int .i64 d]] w fun e w' => e = .returned (.tuple #[.int .i64 (num y m d), .int .i64 0]) ∧ Ext w w' := by
  have y1 := hv.y1; have y2 := hv.y2; have d1 := hv.d1; have d2 := hv.d2; have m1 := hv.m1; have m2 := hv.m2
  have hm : I64 m := by unfold I64; omega
  replace hm := show Hid _ from hm
  have sb := st_bd y y1 (by omega)
  obtain ⟨s1, s2⟩ := sb
  have cb := cum_bd y m m1 (by omega)
  obtain ⟨c1, c2⟩ := cb
  have d31 := hv.d31
  have hn : num y m d = st y + cum y m + d - 1 := rfl
  rw [hn]
  have e1 : decide (d < 1) = false := decide_eq_false (by omega)
  have e2 : decide (dim y m < d) = false := decide_eq_false (by omega)
  clear hn hv
  go_enter Tryz.func121, Tryz.ntmps121
  go_wp2
  obtain ⟨W0, b, hW0, hb, hx0, k0, k1, k2⟩ := box3 w (.int .i64 y) (.int .i64 m) (.int .i64 d) 116
  rw [hW0, hb]
  clear hW0 hb
  replace hx0 := show Hid _ from hx0
  replace he : Hid (Env W0) := he.out.ext hx0.out
  have j0 := Late.cell k0; have j1 := Late.cell k1; have j2 := Late.cell k2
  have hE : Hid (∀ s : Late W0, Hid (Env s.to)) := fun s => he.out.ext s.ext
  have hNe1 : Nonempty (Late W0) := ⟨⟨_, Ext.refl _⟩⟩
  refine wp_region_late (by kernel_rfl) (by kernel_rfl) ?_
  repeat (go_big_quiet_step ((first
    | (go_at_call 129; exact late_same (known_t _ _ y1 y2))
    | (go_at_call 130; exact late_same (month_c _ _ _ hm.out (hE.out _))))))
  refine wpQuiet_nil ?_
  intro W1 hw'
  have hx1 := late_ext hw'
  clear hw'
  clear j0 j1 j2 hE
  replace k0 := hx1.cell_of k0; replace k1 := hx1.cell_of k1; replace k2 := hx1.cell_of k2
  replace he : Hid (Env W1) := he.out.ext hx1
  replace hx0 : Hid (Ext w W1) := hx0.out.trans hx1
  clear hx1
  go_wp2
  have j0 := Late.cell k0; have j1 := Late.cell k1; have j2 := Late.cell k2
  have hE : Hid (∀ s : Late W1, Hid (Env s.to)) := fun s => he.out.ext s.ext
  have hNe2 : Nonempty (Late W1) := ⟨⟨_, Ext.refl _⟩⟩
  refine wp_region_late (by kernel_rfl) (by kernel_rfl) ?_
  repeat (go_big_quiet_step ((first
    | (go_at_call 131; exact late_same (start_c _ _ y1 (by omega)))
    | (go_at_call 132; exact late_same (ahead_c _ _ _ m1 m2 (hE.out _))))))
  refine wpQuiet_nil ?_
  intro W2 hw'
  have hx2 := late_ext hw'
  clear hw'

  go_wp2
  go_ret2
  exact ⟨rfl, hx0.out.trans hx2⟩
set_option maxHeartbeats 1000000 in
theorem Number_a (y m d : Int) (w : World) (h : ¬ (1900 ≤ y ∧ y ≤ 2200)) (hm : Hid (I64 m)) (he : Hid (Env w)) :
    Calls Tryz.prog 121 #[.agg #[.int .i64 y, .int .i64 m, .int .i64 d]] w fun e w' => e = .returned (.tuple #[.int .i64 0, .int .i64 5]) ∧ Ext w w' := by
  replace h := show Hid _ from h
  go_enter Tryz.func121, Tryz.ntmps121
  go_wp2
  obtain ⟨W0, b, hW0, hb, hx0, k0, k1, k2⟩ := box3 w (.int .i64 y) (.int .i64 m) (.int .i64 d) 116
  rw [hW0, hb]
  clear hW0 hb
  replace hx0 := show Hid _ from hx0
  replace he : Hid (Env W0) := he.out.ext hx0.out
  have j0 := Late.cell k0; have j1 := Late.cell k1; have j2 := Late.cell k2
  have hE : Hid (∀ s : Late W0, Hid (Env s.to)) := fun s => he.out.ext s.ext
  have hNe1 : Nonempty (Late W0) := ⟨⟨_, Ext.refl _⟩⟩
  refine wp_region_late (by kernel_rfl) (by kernel_rfl) ?_
  repeat (go_big_quiet_step ((first
    | (go_at_call 129; exact late_same (known_f _ _ h.out))
    | (go_at_call 130; exact late_same (month_c _ _ _ hm.out (hE.out _))))))
  refine wpQuiet_nil ?_
  intro W1 hw'
  have hx1 := late_ext hw'
  clear hw'
  go_wp2
  go_ret2
  exact ⟨rfl, hx0.out.trans hx1⟩
set_option maxHeartbeats 1000000 in
theorem Number_b (y m d : Int) (w : World) (y1 : 1900 ≤ y) (y2 : y ≤ 2200) (h : d < 1) (hm : Hid (I64 m)) (he : Hid (Env w)) :
    Calls Tryz.prog 121 #[.agg #[.int .i64 y, .int .i64 m, .int .i64 d]] w fun e w' => e = .returned (.tuple #[.int .i64 0, .int .i64 5]) ∧ Ext w w' := by
  have e1 : decide (d < 1) = true := decide_eq_true h
  go_enter Tryz.func121, Tryz.ntmps121
  go_wp2
  obtain ⟨W0, b, hW0, hb, hx0, k0, k1, k2⟩ := box3 w (.int .i64 y) (.int .i64 m) (.int .i64 d) 116
  rw [hW0, hb]
  clear hW0 hb
  replace hx0 := show Hid _ from hx0
  replace he : Hid (Env W0) := he.out.ext hx0.out
  have j0 := Late.cell k0; have j1 := Late.cell k1; have j2 := Late.cell k2
  have hE : Hid (∀ s : Late W0, Hid (Env s.to)) := fun s => he.out.ext s.ext
  have hNe1 : Nonempty (Late W0) := ⟨⟨_, Ext.refl _⟩⟩
  refine wp_region_late (by kernel_rfl) (by kernel_rfl) ?_
  repeat (go_big_quiet_step ((first
    | (go_at_call 129; exact late_same (known_t _ _ y1 y2))
    | (go_at_call 130; exact late_same (month_c _ _ _ hm.out (hE.out _))))))
  refine wpQuiet_nil ?_
  intro W1 hw'
  have hx1 := late_ext hw'
  clear hw'
  go_wp2
  go_ret2
  exact ⟨rfl, hx0.out.trans hx1⟩
set_option maxHeartbeats 1000000 in
theorem Number_d (y m d : Int) (w : World) (y1 : 1900 ≤ y) (y2 : y ≤ 2200) (h1 : ¬ d < 1) (h : dim y m < d) (hm : Hid (I64 m)) (he : Hid (Env w)) :
    Calls Tryz.prog 121 #[.agg #[.int .i64 y, .int .i64 m, .int .i64 d]] w fun e w' => e = .returned (.tuple #[.int .i64 0, .int .i64 5]) ∧ Ext w w' := by
  have e1 : decide (d < 1) = false := decide_eq_false h1
  have e2 : decide (dim y m < d) = true := decide_eq_true h
  go_enter Tryz.func121, Tryz.ntmps121
  go_wp2
  obtain ⟨W0, b, hW0, hb, hx0, k0, k1, k2⟩ := box3 w (.int .i64 y) (.int .i64 m) (.int .i64 d) 116
  rw [hW0, hb]
  clear hW0 hb
  replace hx0 := show Hid _ from hx0
  replace he : Hid (Env W0) := he.out.ext hx0.out
  have j0 := Late.cell k0; have j1 := Late.cell k1; have j2 := Late.cell k2
  have hE : Hid (∀ s : Late W0, Hid (Env s.to)) := fun s => he.out.ext s.ext
  have hNe1 : Nonempty (Late W0) := ⟨⟨_, Ext.refl _⟩⟩
  refine wp_region_late (by kernel_rfl) (by kernel_rfl) ?_
  repeat (go_big_quiet_step ((first
    | (go_at_call 129; exact late_same (known_t _ _ y1 y2))
    | (go_at_call 130; exact late_same (month_c _ _ _ hm.out (hE.out _))))))
  refine wpQuiet_nil ?_
  intro W1 hw'
  have hx1 := late_ext hw'
  clear hw'
  go_wp2
  go_ret2
  exact ⟨rfl, hx0.out.trans hx1⟩
theorem Number_no (y m d : Int) (w : World) (hv : ¬ Vld y m d) (hm : I64 m) (he : Hid (Env w)) :
    Calls Tryz.prog 121 #[.agg #[.int .i64 y, .int .i64 m, .int .i64 d]] w fun e w' => e = .returned (.tuple #[.int .i64 0, .int .i64 5]) ∧ Ext w w' := by
  by_cases h : 1900 ≤ y ∧ y ≤ 2200
  · by_cases h1 : d < 1
    · exact Number_b y m d w h.1 h.2 h1 hm he
    · by_cases h2 : dim y m < d
      · exact Number_d y m d w h.1 h.2 h1 h2 hm he
      · exact absurd ⟨h.1, h.2, by omega, by omega⟩ hv
  · exact Number_a y m d w h hm he
theorem Number_c (y m d : Int) (w : World) (hm : I64 m) (he : Hid (Env w)) :
    Calls Tryz.prog 121 #[.agg #[.int .i64 y, .int .i64 m, .int .i64 d]] w fun e w' => e = .returned (.tuple #[.int .i64 (numA y m d), .int .i64 (numE y m d)]) ∧ Ext w w' := by
  by_cases h : Vld y m d
  · rw [(numA_ok y m d h).1, (numA_ok y m d h).2]; exact Number_ok y m d w h he
  · rw [(numA_no y m d h).1, (numA_no y m d h).2]; exact Number_no y m d w h hm he
set_option maxHeartbeats 1000000 in
theorem rNumber_ok (y m d : Int) (w : World) (hv : Vld y m d) (he : Hid (Env w)) :
    Calls Tryz.prog 94 #[.agg #[.int .i64 y, .int .i64 m, .int .i64 d]] w fun e w' => e = .returned (.tuple #[.int .i64 (num y m d), .int .i64 0]) ∧ Ext w w' := by
  have y1 := hv.y1; have y2 := hv.y2; have d1 := hv.d1; have d2 := hv.d2; have m1 := hv.m1; have m2 := hv.m2
  have hm : I64 m := by unfold I64; omega
  replace hm := show Hid _ from hm
  have sb := st_bd y y1 (by omega)
  obtain ⟨s1, s2⟩ := sb
  have cb := cum_bd y m m1 (by omega)
  obtain ⟨c1, c2⟩ := cb
  have d31 := hv.d31
  have hn : num y m d = st y + cum y m + d - 1 := rfl
  replace hn := show Hid _ from hn
  have e3 : decide (y < 1900) = false := decide_eq_false (by omega)
  have e4 : decide (2200 < y) = false := decide_eq_false (by omega)
  have e1 : decide (d < 1) = false := decide_eq_false (by omega)
  have e2 : decide (dim y m < d) = false := decide_eq_false (by omega)
  clear hv
  go_enter Tryz.func94, Tryz.ntmps94
  go_wp2
  obtain ⟨W0, b, hW0, hb, hx0, k0, k1, k2⟩ := box3 w (.int .i64 y) (.int .i64 m) (.int .i64 d) 116
  rw [hW0, hb]
  clear hW0 hb
  replace hx0 := show Hid _ from hx0
  replace he : Hid (Env W0) := he.out.ext hx0.out
  have j0 := Late.cell k0; have j1 := Late.cell k1; have j2 := Late.cell k2
  have hE : Hid (∀ s : Late W0, Hid (Env s.to)) := fun s => he.out.ext s.ext
  have hNe1 : Nonempty (Late W0) := ⟨⟨_, Ext.refl _⟩⟩
  refine wp_region_late (by kernel_rfl) (by kernel_rfl) ?_
  repeat (go_big_quiet_step ((first
    | (go_at_call 95; exact late_same (rMonth_c _ _ _ hm.out)))))
  refine wpQuiet_nil ?_
  intro W1 hw'
  have hx1 := late_ext hw'
  clear hw'
  clear j0 j1 j2 hE
  replace k0 := hx1.cell_of k0; replace k1 := hx1.cell_of k1; replace k2 := hx1.cell_of k2
  replace he : Hid (Env W1) := he.out.ext hx1
  replace hx0 : Hid (Ext w W1) := hx0.out.trans hx1
  clear hx1
  go_wp2
  have j0 := Late.cell k0; have j1 := Late.cell k1; have j2 := Late.cell k2
  have hE : Hid (∀ s : Late W1, Hid (Env s.to)) := fun s => he.out.ext s.ext
  have hNe2 : Nonempty (Late W1) := ⟨⟨_, Ext.refl _⟩⟩
  refine wp_region_late (by kernel_rfl) (by kernel_rfl) ?_
  repeat (go_big_quiet_step ((first
    | (go_at_call 97; exact late_same (before_c _ _ y1 (by omega))))))
  refine wpQuiet_nil ?_
  intro W2 hw'
  have hx2 := late_ext hw'
  clear hw'
  clear j0 j1 j2 hE
  replace k0 := hx2.cell_of k0; replace k1 := hx2.cell_of k1; replace k2 := hx2.cell_of k2
  replace hx0 : Hid (Ext w W2) := hx0.out.trans hx2
  clear hx2
  go_wp2
  go_loop [4, 5] (fun s t => ∃ j : Int, 1 ≤ j ∧ j ≤ m ∧ t = .int .i64 j ∧ s = .int .i64 (st y + cum y j + d - 1)) (fun _ t => (m - RowKit.intOf t).toNat)
  case atStart => exact ⟨1, by omega, by omega, rfl, by rw [cum_one]; go_num⟩
  case round =>
    obtain ⟨j, a1, a2, rfl, rfl⟩ := hrel
    obtain ⟨b1, b2⟩ := cum_bd y j a1 (by omega)
    obtain ⟨b3, b4⟩ := dim_bd y j a1 (by omega)
    have cs := show Hid _ from cum_succ y j a1 (by omega)
    by_cases hj : j < m
    · go_wp2_with (go_at_call 95; refine (rMonth_c _ _ _ (by unfold I64; omega)).mono ?_; rintro e w' ⟨rfl, rfl⟩)
      go_round
      case rel => exact ⟨j + 1, by omega, by omega, by go_num, by rw [cs.out]; go_num⟩
      case measure => simp [RowKit.intOf]; omega
    · obtain rfl : j = m := by omega
      go_wp2
      go_ret2
      exact ⟨ret_two hn.out.symm rfl, hx0.out⟩
set_option maxHeartbeats 1000000 in
theorem rNumber_a (y m d : Int) (w : World) (h : y < 1900) (hm : Hid (I64 m)) (he : Hid (Env w)) :
    Calls Tryz.prog 94 #[.agg #[.int .i64 y, .int .i64 m, .int .i64 d]] w fun e w' => e = .returned (.tuple #[.int .i64 0, .int .i64 5]) ∧ Ext w w' := by
  have e1 : decide (y < 1900) = true := decide_eq_true h
  go_enter Tryz.func94, Tryz.ntmps94
  go_wp2
  obtain ⟨W0, b, hW0, hb, hx0, k0, k1, k2⟩ := box3 w (.int .i64 y) (.int .i64 m) (.int .i64 d) 116
  rw [hW0, hb]
  clear hW0 hb
  replace hx0 := show Hid _ from hx0
  replace he : Hid (Env W0) := he.out.ext hx0.out
  have j0 := Late.cell k0; have j1 := Late.cell k1; have j2 := Late.cell k2
  have hE : Hid (∀ s : Late W0, Hid (Env s.to)) := fun s => he.out.ext s.ext
  have hNe1 : Nonempty (Late W0) := ⟨⟨_, Ext.refl _⟩⟩
  refine wp_region_late (by kernel_rfl) (by kernel_rfl) ?_
  repeat (go_big_quiet_step ((first
    | (go_at_call 95; exact late_same (rMonth_c _ _ _ hm.out)))))
  refine wpQuiet_nil ?_
  intro W1 hw'
  have hx1 := late_ext hw'
  clear hw'
  go_wp2
  go_ret2
  exact ⟨rfl, hx0.out.trans hx1⟩
set_option maxHeartbeats 1000000 in
theorem rNumber_b (y m d : Int) (w : World) (h0 : ¬ y < 1900) (h : 2200 < y) (hm : Hid (I64 m)) (he : Hid (Env w)) :
    Calls Tryz.prog 94 #[.agg #[.int .i64 y, .int .i64 m, .int .i64 d]] w fun e w' => e = .returned (.tuple #[.int .i64 0, .int .i64 5]) ∧ Ext w w' := by
  have e1 : decide (y < 1900) = false := decide_eq_false h0
  have e2 : decide (2200 < y) = true := decide_eq_true h
  go_enter Tryz.func94, Tryz.ntmps94
  go_wp2
  obtain ⟨W0, b, hW0, hb, hx0, k0, k1, k2⟩ := box3 w (.int .i64 y) (.int .i64 m) (.int .i64 d) 116
  rw [hW0, hb]
  clear hW0 hb
  replace hx0 := show Hid _ from hx0
  replace he : Hid (Env W0) := he.out.ext hx0.out
  have j0 := Late.cell k0; have j1 := Late.cell k1; have j2 := Late.cell k2
  have hE : Hid (∀ s : Late W0, Hid (Env s.to)) := fun s => he.out.ext s.ext
  have hNe1 : Nonempty (Late W0) := ⟨⟨_, Ext.refl _⟩⟩
  refine wp_region_late (by kernel_rfl) (by kernel_rfl) ?_
  repeat (go_big_quiet_step ((first
    | (go_at_call 95; exact late_same (rMonth_c _ _ _ hm.out)))))
  refine wpQuiet_nil ?_
  intro W1 hw'
  have hx1 := late_ext hw'
  clear hw'
  go_wp2
  go_ret2
  exact ⟨rfl, hx0.out.trans hx1⟩
set_option maxHeartbeats 1000000 in
theorem rNumber_d (y m d : Int) (w : World) (h0 : ¬ y < 1900) (h1 : ¬ 2200 < y) (h : d < 1) (hm : Hid (I64 m)) (he : Hid (Env w)) :
    Calls Tryz.prog 94 #[.agg #[.int .i64 y, .int .i64 m, .int .i64 d]] w fun e w' => e = .returned (.tuple #[.int .i64 0, .int .i64 5]) ∧ Ext w w' := by
  have e1 : decide (y < 1900) = false := decide_eq_false h0
  have e2 : decide (2200 < y) = false := decide_eq_false h1
  have e3 : decide (d < 1) = true := decide_eq_true h
  go_enter Tryz.func94, Tryz.ntmps94
  go_wp2
  obtain ⟨W0, b, hW0, hb, hx0, k0, k1, k2⟩ := box3 w (.int .i64 y) (.int .i64 m) (.int .i64 d) 116
  rw [hW0, hb]
  clear hW0 hb
  replace hx0 := show Hid _ from hx0
  replace he : Hid (Env W0) := he.out.ext hx0.out
  have j0 := Late.cell k0; have j1 := Late.cell k1; have j2 := Late.cell k2
  have hE : Hid (∀ s : Late W0, Hid (Env s.to)) := fun s => he.out.ext s.ext
  have hNe1 : Nonempty (Late W0) := ⟨⟨_, Ext.refl _⟩⟩
  refine wp_region_late (by kernel_rfl) (by kernel_rfl) ?_
  repeat (go_big_quiet_step ((first
    | (go_at_call 95; exact late_same (rMonth_c _ _ _ hm.out)))))
  refine wpQuiet_nil ?_
  intro W1 hw'
  have hx1 := late_ext hw'
  clear hw'
  go_wp2
  go_ret2
  exact ⟨rfl, hx0.out.trans hx1⟩
set_option maxHeartbeats 1000000 in
theorem rNumber_e (y m d : Int) (w : World) (h0 : ¬ y < 1900) (h1 : ¬ 2200 < y) (h2 : ¬ d < 1) (h : dim y m < d) (hm : Hid (I64 m)) (he : Hid (Env w)) :
    Calls Tryz.prog 94 #[.agg #[.int .i64 y, .int .i64 m, .int .i64 d]] w fun e w' => e = .returned (.tuple #[.int .i64 0, .int .i64 5]) ∧ Ext w w' := by
  have e1 : decide (y < 1900) = false := decide_eq_false h0
  have e2 : decide (2200 < y) = false := decide_eq_false h1
  have e3 : decide (d < 1) = false := decide_eq_false h2
  have e4 : decide (dim y m < d) = true := decide_eq_true h
  go_enter Tryz.func94, Tryz.ntmps94
  go_wp2
  obtain ⟨W0, b, hW0, hb, hx0, k0, k1, k2⟩ := box3 w (.int .i64 y) (.int .i64 m) (.int .i64 d) 116
  rw [hW0, hb]
  clear hW0 hb
  replace hx0 := show Hid _ from hx0
  replace he : Hid (Env W0) := he.out.ext hx0.out
  have j0 := Late.cell k0; have j1 := Late.cell k1; have j2 := Late.cell k2
  have hE : Hid (∀ s : Late W0, Hid (Env s.to)) := fun s => he.out.ext s.ext
  have hNe1 : Nonempty (Late W0) := ⟨⟨_, Ext.refl _⟩⟩
  refine wp_region_late (by kernel_rfl) (by kernel_rfl) ?_
  repeat (go_big_quiet_step ((first
    | (go_at_call 95; exact late_same (rMonth_c _ _ _ hm.out)))))
  refine wpQuiet_nil ?_
  intro W1 hw'
  have hx1 := late_ext hw'
  clear hw'
  go_wp2
  go_ret2
  exact ⟨rfl, hx0.out.trans hx1⟩
theorem rNumber_no (y m d : Int) (w : World) (hv : ¬ Vld y m d) (hm : I64 m) (he : Hid (Env w)) :
    Calls Tryz.prog 94 #[.agg #[.int .i64 y, .int .i64 m, .int .i64 d]] w fun e w' => e = .returned (.tuple #[.int .i64 0, .int .i64 5]) ∧ Ext w w' := by
  by_cases h0 : y < 1900
  · exact rNumber_a y m d w h0 hm he
  · by_cases h1 : 2200 < y
    · exact rNumber_b y m d w h0 h1 hm he
    · by_cases h2 : d < 1
      · exact rNumber_d y m d w h0 h1 h2 hm he
      · by_cases h3 : dim y m < d
        · exact rNumber_e y m d w h0 h1 h2 h3 hm he
        · exact absurd ⟨by omega, by omega, by omega, by omega⟩ hv
theorem rNumber_c (y m d : Int) (w : World) (hm : I64 m) (he : Hid (Env w)) :
    Calls Tryz.prog 94 #[.agg #[.int .i64 y, .int .i64 m, .int .i64 d]] w fun e w' => e = .returned (.tuple #[.int .i64 (numA y m d), .int .i64 (numE y m d)]) ∧ Ext w w' := by
  by_cases h : Vld y m d
  · rw [(numA_ok y m d h).1, (numA_ok y m d h).2]; exact rNumber_ok y m d w h he
  · rw [(numA_no y m d h).1, (numA_no y m d h).2]; exact rNumber_no y m d w h hm he
end Go.Proofs.YtafjmpaefikdcaaGreatDoor.L3
/- Date of package civil, as a contract: no statement of the seat is proved here. -/
namespace Go.Proofs.YtafjmpaefikdcaaGreatDoor.L3
open Go.RowKit
set_option linter.unusedVariables false

end Go.Proofs.YtafjmpaefikdcaaGreatDoor.L3
/- Date and Weekday of the document's own, as contracts: no statement of the seat is proved here. -/
namespace Go.Proofs.YtafjmpaefikdcaaGreatDoor.L3
open Go.RowKit
set_option linter.unusedVariables false

theorem rWeekday_c (n : Int) (w : World) (h : I64 n) :
    Calls Tryz.prog 96 #[.int .i64 n] w fun e w' => e = .returned (.int .i64 (wday n)) ∧ w' = w := by
  obtain ⟨h1, h2⟩ := h
  obtain ⟨r, hr⟩ : ∃ r, n.tmod 7 = r := ⟨_, rfl⟩
  have hb : -7 < r ∧ r < 7 := by rw [← hr]; rw [Int.tmod_eq_emod]; split <;> omega
  obtain ⟨b1, b2⟩ := hb
  obtain ⟨q, hq⟩ : ∃ q, (r + 3).tmod 7 = q := ⟨_, rfl⟩
  have hc : -7 < q ∧ q < 7 := by rw [← hq]; rw [Int.tmod_eq_emod]; split <;> omega
  obtain ⟨c1, c2⟩ := hc
  have hw : wday n = if q < 0 then q + 7 else q := by
    unfold wday; rw [← hq, ← hr, Int.tmod_eq_emod, Int.tmod_eq_emod]; repeat' split
    all_goals omega
  rw [hw]
  clear hw h1 h2
  by_cases h0 : q < 0
  · rw [if_pos h0]
    go_enter Tryz.func96, Tryz.ntmps96
    go_wp2
    go_ret
    exact ⟨rfl, rfl⟩
  · rw [if_neg h0]
    go_enter Tryz.func96, Tryz.ntmps96
    go_wp2
    go_ret
    exact ⟨rfl, rfl⟩
theorem Is_t (n : Int) (w : World) (h1 : -25567 ≤ n) (h2 : n ≤ 84370) :
    Calls Tryz.prog 48 #[.int .i64 n] w fun e w' => e = .returned (.bool true) ∧ w' = w := by
  go_enter Tryz.func48, Tryz.ntmps48
  go_wp2
  go_ret
  exact ⟨rfl, rfl⟩
theorem Is_f (n : Int) (w : World) (h : n < -25567 ∨ 84370 < n) :
    Calls Tryz.prog 48 #[.int .i64 n] w fun e w' => e = .returned (.bool false) ∧ w' = w := by
  rcases h with h | h
  · have h' : ¬ -25567 ≤ n := by omega
    go_enter Tryz.func48, Tryz.ntmps48
    go_wp2
    go_ret
    exact ⟨rfl, rfl⟩
  · have h' : -25567 ≤ n := by omega
    have h2 : ¬ n ≤ 84370 := by omega
    go_enter Tryz.func48, Tryz.ntmps48
    go_wp2
    go_ret
    exact ⟨rfl, rfl⟩
theorem rDate_no (n : Int) (w : World) (h : n < -25567 ∨ 84370 < n) :
    Calls Tryz.prog 71 #[.int .i64 n] w fun e w' => e = .returned (.tuple #[.agg #[.int .i64 0, .int .i64 0, .int .i64 0], .int .i64 5]) ∧ Ext w w' := by
  replace h := show Hid _ from h
  go_enter Tryz.func71, Tryz.ntmps71
  go_wp2_with (go_at_call 48; refine (Is_f _ _ h.out).mono ?_; rintro e w' ⟨rfl, rfl⟩)
  exact bodyPost_ret (v := .tuple #[.agg #[.int .i64 0, .int .i64 0, .int .i64 0], .int .i64 5]) (by simp [results, Tryz.results71, go_sem]) rfl ⟨rfl, (Ext.refl _).alloc _ _⟩

/-- The number in a cell. -/
def cellInt (w : World) (b o : Nat) : Int := match w.cell? ⟨b, o, none⟩ with | some (.int _ n) => n | _ => 0
theorem cellInt_of {w : World} {b o : Nat} {k : IntKind} {n : Int} (h : w.cell? ⟨b, o, none⟩ = some (.int k n)) : cellInt w b o = n := by unfold cellInt; rw [h]
/-- The result's cells and those of the date that is sought. -/
structure Dst (w wr : World) (r b : Nat) (y m d : Int) : Prop where
  ext : Ext w wr
  lo : w.heap.size ≤ r
  ne : r < b
  r0 : wr.cell? ⟨r, 0, none⟩ = some (.int .i64 0)
  r1 : wr.cell? ⟨r, 1, none⟩ = some (.int .i64 0)
  r2 : wr.cell? ⟨r, 2, none⟩ = some (.int .i64 0)
  b0 : wr.cell? ⟨b, 0, none⟩ = some (.int .i64 y)
  b1 : wr.cell? ⟨b, 1, none⟩ = some (.int .i64 m)
  b2 : wr.cell? ⟨b, 2, none⟩ = some (.int .i64 d)
  f0 : wr.frozen? ⟨r, 0, none⟩ = false
  f1 : wr.frozen? ⟨r, 1, none⟩ = false
  f2 : wr.frozen? ⟨r, 2, none⟩ = false
  g0 : wr.frozen? ⟨b, 0, none⟩ = false
  g1 : wr.frozen? ⟨b, 1, none⟩ = false
  g2 : wr.frozen? ⟨b, 2, none⟩ = false
theorem Dst.start (w : World) (y m : Int) (t : TypeId) :
    ∃ W r b, (w.alloc (.cells #[.int .i64 0, .int .i64 0, .int .i64 0] t)).alloc (.cells #[.int .i64 y, .int .i64 m, .int .i64 0] t) = W ∧ w.heap.size = r ∧ r + 1 = b ∧ Dst w W r b y m 0 :=
  ⟨_, _, _, rfl, rfl, rfl, ((Ext.refl w).alloc _ _).alloc _ _, Nat.le_refl _, by omega, by simp [go_sem], by simp [go_sem], by simp [go_sem], by simp [go_sem], by simp [go_sem], by simp [go_sem],
    by simp [go_sem], by simp [go_sem], by simp [go_sem], by simp [go_sem], by simp [go_sem], by simp [go_sem]⟩
theorem other {w : World} {b o b' o' : Nat} (x : Value) (h : b ≠ b' ∨ o ≠ o') : (w.setCell ⟨b, o, none⟩ x).cell? ⟨b', o', none⟩ = w.cell? ⟨b', o', none⟩ :=
  by
    apply World.cell?_setCell_other
    intro e
    injection e with e1 e2
    omega
theorem same {w : World} {a : Addr} {v u : Value} (h : w.cell? a = some u) : (w.setCell a v).cell? a = some v := by
  apply World.cell?_setCell_same
  exact h
theorem Dst.year {w wr : World} {r b : Nat} {y m d : Int} (h : Dst w wr r b y m d) (z : Int) : Dst w (wr.setCell ⟨b, 0, none⟩ (.int .i64 z)) r b z m d := by
  have := h.ne; have := h.lo
  exact ⟨h.ext.setCell (show w.heap.size ≤ b by omega) _, h.lo, h.ne, by rw [other _ (by omega)]; exact h.r0, by rw [other _ (by omega)]; exact h.r1, by rw [other _ (by omega)]; exact h.r2,
    same h.b0, by rw [other _ (by omega)]; exact h.b1, by rw [other _ (by omega)]; exact h.b2,
    by simpa using h.f0, by simpa using h.f1, by simpa using h.f2, by simpa using h.g0, by simpa using h.g1, by simpa using h.g2⟩
theorem Dst.month {w wr : World} {r b : Nat} {y m d : Int} (h : Dst w wr r b y m d) (z : Int) : Dst w (wr.setCell ⟨b, 1, none⟩ (.int .i64 z)) r b y z d := by
  have := h.ne; have := h.lo
  exact ⟨h.ext.setCell (show w.heap.size ≤ b by omega) _, h.lo, h.ne, by rw [other _ (by omega)]; exact h.r0, by rw [other _ (by omega)]; exact h.r1, by rw [other _ (by omega)]; exact h.r2,
    by rw [other _ (by omega)]; exact h.b0, same h.b1, by rw [other _ (by omega)]; exact h.b2,
    by simpa using h.f0, by simpa using h.f1, by simpa using h.f2, by simpa using h.g0, by simpa using h.g1, by simpa using h.g2⟩
theorem Dst.day {w wr : World} {r b : Nat} {y m d : Int} (h : Dst w wr r b y m d) (z : Int) : Dst w (wr.setCell ⟨b, 2, none⟩ (.int .i64 z)) r b y m z := by
  have := h.ne; have := h.lo
  exact ⟨h.ext.setCell (show w.heap.size ≤ b by omega) _, h.lo, h.ne, by rw [other _ (by omega)]; exact h.r0, by rw [other _ (by omega)]; exact h.r1, by rw [other _ (by omega)]; exact h.r2,
    by rw [other _ (by omega)]; exact h.b0, by rw [other _ (by omega)]; exact h.b1, same h.b2,
    by simpa using h.f0, by simpa using h.f1, by simpa using h.f2, by simpa using h.g0, by simpa using h.g1, by simpa using h.g2⟩

theorem Dst.done {w wr : World} {r b : Nat} {y m d : Int} (h : Dst w wr r b y m d) (z : Int) :
    ∃ W, (((wr.setCell ⟨b, 2, none⟩ (.int .i64 z)).setCell ⟨r, 0, none⟩ (.int .i64 y)).setCell ⟨r, 1, none⟩ (.int .i64 m)).setCell ⟨r, 2, none⟩ (.int .i64 z) = W ∧
      W.cell? ⟨r, 0, none⟩ = some (.int .i64 y) ∧ W.cell? ⟨r, 1, none⟩ = some (.int .i64 m) ∧ W.cell? ⟨r, 2, none⟩ = some (.int .i64 z) ∧ Ext w W := by
  have k := h.day z
  have := h.ne; have := h.lo
  refine ⟨_, rfl, ?_, ?_, ?_, ?_⟩
  · rw [other _ (by omega), other _ (by omega)]; exact same k.r0
  · rw [other _ (by omega)]; exact same (by rw [other _ (by omega)]; exact k.r1)
  · exact same (by rw [other _ (by omega), other _ (by omega)]; exact k.r2)
  · exact ((k.ext.setCell (show w.heap.size ≤ r from h.lo) _).setCell (show w.heap.size ≤ r from h.lo) _).setCell (show w.heap.size ≤ r from h.lo) _

set_option maxHeartbeats 1000000 in
theorem rDate_ok (n : Int) (w : World) (h1 : -25567 ≤ n) (h2 : n ≤ 84370) :
    Calls Tryz.prog 71 #[.int .i64 n] w fun e w' => (∃ y m d : Int, e = .returned (.tuple #[.agg #[.int .i64 y, .int .i64 m, .int .i64 d], .int .i64 0]) ∧ Vld y m d ∧ num y m d = n) ∧ Ext w w' := by
  obtain ⟨g1, g2, g3⟩ := guess_le n h1 h2
  go_enter Tryz.func71, Tryz.ntmps71
  go_wp2_with (go_at_call 48; refine (Is_t _ _ h1 h2).mono ?_; rintro e w' ⟨rfl, rfl⟩)
  obtain ⟨W0, r, b, hW, hr, hb, hd⟩ := Dst.start w (1900 + (n + 25567) / 366) 1 116
  rw [hW, hr, hb]
  clear hW hr hb
  replace hd := show Hid _ from hd
  generalize hy0 : 1900 + (n + 25567) / 366 = y0 at *
  clear hy0
  go_loopw [] (fun wr => ∃ y : Int, 1900 ≤ y ∧ y ≤ 2200 ∧ st y ≤ n ∧ Hid (Dst w wr r b y 1 0)) (fun wr => (2200 - cellInt wr b 0).toNat)
  case atStart => exact ⟨y0, g1, g2, g3, hd⟩
  case round =>
    clear g1 g2 g3 hd
    obtain ⟨y, y1, y2, y3, hd⟩ := hrel
    have c0 := hd.out.b0; have c1 := hd.out.b1; have c2 := hd.out.b2; have g0 := hd.out.g0
    have hs := show Hid _ from st_succ y
    obtain ⟨b1, b2⟩ := st_bd (y + 1) (by omega) (by omega)
    by_cases hc : st (y + 1) ≤ n
    · have y4 : y < 2200 := by
        rcases Int.lt_or_le y 2200 with k | k
        · exact k
        · obtain rfl : y = 2200 := by omega
          have : st (2200 + 1) = 84371 := by decide
          omega
      go_wp2_with (go_at_call 97; refine (before_c _ _ (by omega) (by omega)).mono ?_; rintro e w' ⟨rfl, rfl⟩)
      go_roundw
      case rel => exact ⟨y + 1, by omega, by omega, hc, hd.out.year (y + 1)⟩
      case measure => rw [cellInt_of (hd.out.year (y + 1)).b0, cellInt_of c0]; omega
    · have y5 : n < st y + 365 + lp y := by have := hs.out; omega
      obtain ⟨s1, s2⟩ := st_bd y y1 (by omega)
      obtain ⟨l1, l2⟩ := lp_01 y
      go_wp2_with (go_at_call 97; refine (before_c _ _ (by omega) (by omega)).mono ?_; rintro e w' ⟨rfl, rfl⟩)
      clear c0 c1 c2 g0 hs hc
      go_loopw [4] (fun t wr => ∃ m : Int, 1 ≤ m ∧ m ≤ 12 ∧ cum y m ≤ n - st y ∧ t = .int .i64 (n - st y - cum y m) ∧ Hid (Dst w wr r b y m 0)) (fun _ wr => (12 - cellInt wr b 1).toNat)
      case atStart => exact ⟨1, by omega, by omega, by rw [cum_one]; omega, by rw [cum_one]; go_num, hd⟩
      case round =>
        clear hd
        obtain ⟨m, m1, m2, m3, rfl, hd⟩ := hrel
        have c0 := hd.out.b0; have c1 := hd.out.b1; have c2 := hd.out.b2; have g1 := hd.out.g1; have g2 := hd.out.g2
        obtain ⟨k1, k2⟩ := cum_bd y m m1 (by omega)
        obtain ⟨k3, k4⟩ := dim_bd y m m1 (by omega)
        have cs := show Hid _ from cum_succ y m m1 (by omega)
        have ce := show Hid _ from cum_end y
        by_cases hj : dim y m ≤ n - st y - cum y m
        · have j3 : m < 12 := by
            have := cs.out; have := ce.out
            rcases Int.lt_or_le m 12 with k | k
            · exact k
            · obtain rfl : m = 12 := by omega
              simp only [show (12 : Int) + 1 = 13 from rfl] at this cs
              have := cs.out
              omega
          go_wp2_with (go_at_call 95; refine (rMonth_c _ _ _ (by unfold I64; omega)).mono ?_; rintro e w' ⟨rfl, rfl⟩)
          go_roundw
          case rel => exact ⟨m + 1, by omega, by omega, by rw [cs.out]; omega, by rw [cs.out]; go_num, hd.out.month (m + 1)⟩
          case measure => rw [cellInt_of (hd.out.month (m + 1)).b1, cellInt_of c1]; omega
        · have hv : Hid (Vld y m (n - st y - cum y m + 1)) := ⟨y1, y2, by omega, by omega⟩
          have hn : Hid (num y m (n - st y - cum y m + 1) = n) := by show num y m _ = n; unfold num; omega
          have q0 := hd.out.r0; have q1 := hd.out.r1; have q2 := hd.out.r2
          have f0 := hd.out.f0; have f1 := hd.out.f1; have f2 := hd.out.f2; have lo := hd.out.lo; have ne := hd.out.ne
          clear cs ce
          go_wp2_with (go_at_call 95; refine (rMonth_c _ _ _ (by unfold I64; omega)).mono ?_; rintro e w' ⟨rfl, rfl⟩)
          obtain ⟨W, hW, z0, z1, z2, hX⟩ := hd.out.done (n - st y - cum y m + 1)
          rw [hW]
          clear hW
          exact bodyPost_ret (v := .tuple #[.agg #[.int .i64 y, .int .i64 m, .int .i64 (n - st y - cum y m + 1)], .int .i64 0]) (by simp [results, Tryz.results71, go_sem, z0, z1, z2]) rfl ⟨⟨y, m, _, rfl, hv.out, hn.out⟩, hX⟩
end Go.Proofs.YtafjmpaefikdcaaGreatDoor.L3
/- Months further on, by themselves: which date a day is, which month lies so many months behind, which day is answered: plain arithmetic, no program is spoken of here. -/
namespace Go.Proofs.YtafjmpaefikdcaaGreatDoor.L3
/-- The greatest of the first k + 1 places at which f is at most n. -/
def lastLe (f : Int → Int) (n a : Int) : Nat → Int
  | 0 => a
  | k + 1 => if f (a + ((k + 1 : Nat) : Int)) ≤ n then a + ((k + 1 : Nat) : Int) else lastLe f n a k
theorem lastLe_spec (f : Int → Int) (n a : Int) (h : f a ≤ n) : ∀ (k : Nat), n < f (a + k + 1) → a ≤ lastLe f n a k ∧ lastLe f n a k ≤ a + k ∧ f (lastLe f n a k) ≤ n ∧ n < f (lastLe f n a k + 1)
  | 0, hn => by
    simp only [lastLe]
    have e : a + ((0 : Nat) : Int) = a := by omega
    rw [e] at hn ⊢
    exact ⟨Int.le_refl _, Int.le_refl _, h, hn⟩
  | k + 1, hn => by
    simp only [lastLe]
    by_cases c : f (a + ((k + 1 : Nat) : Int)) ≤ n
    · rw [if_pos c]; exact ⟨by omega, Int.le_refl _, c, hn⟩
    · rw [if_neg c]
      obtain ⟨p, q, r, s⟩ := lastLe_spec f n a h k (by rw [show a + (k : Int) + 1 = a + ((k + 1 : Nat) : Int) by omega]; omega)
      exact ⟨p, by omega, r, s⟩
/-- The date of a day. -/
def yOf (n : Int) : Int := lastLe st n 1900 300
def mOf (n : Int) : Int := lastLe (cum (yOf n)) (n - st (yOf n)) 1 11
def dOf (n : Int) : Int := n - st (yOf n) - cum (yOf n) (mOf n) + 1
theorem ofDay (n : Int) (h1 : -25567 ≤ n) (h2 : n ≤ 84370) : Vld (yOf n) (mOf n) (dOf n) ∧ num (yOf n) (mOf n) (dOf n) = n := by
  have s0 : st 1900 = -25567 := by decide
  have s1 : st 2201 = 84371 := by decide
  obtain ⟨a, b, c, d⟩ := lastLe_spec st n 1900 (by omega) 300 (by rw [show (1900 : Int) + ((300 : Nat) : Int) + 1 = 2201 by decide]; omega)
  change 1900 ≤ yOf n at a
  change yOf n ≤ 1900 + ((300 : Nat) : Int) at b
  change st (yOf n) ≤ n at c
  change n < st (yOf n + 1) at d
  have ss := st_succ (yOf n)
  have ce := cum_end (yOf n)
  obtain ⟨p, q, r, s⟩ := lastLe_spec (cum (yOf n)) (n - st (yOf n)) 1 (by rw [cum_one]; omega) 11 (by rw [show (1 : Int) + ((11 : Nat) : Int) + 1 = 13 by decide, ce]; omega)
  change 1 ≤ mOf n at p
  change mOf n ≤ 1 + ((11 : Nat) : Int) at q
  change cum (yOf n) (mOf n) ≤ n - st (yOf n) at r
  change n - st (yOf n) < cum (yOf n) (mOf n + 1) at s
  have cs := cum_succ (yOf n) (mOf n) p (by omega)
  have hd : dOf n = n - st (yOf n) - cum (yOf n) (mOf n) + 1 := rfl
  refine ⟨⟨a, by omega, by omega, by omega⟩, ?_⟩
  unfold num
  omega
theorem ofDay_of {n y m d : Int} (h : Vld y m d) (k : num y m d = n) : y = yOf n ∧ m = mOf n ∧ d = dOf n := by
  have b := num_bd h
  have o := ofDay n (by omega) (by omega)
  exact num_inj h o.1 (by rw [o.2, k])
def inD (n : Int) : Bool := decide (-25567 ≤ n ∧ n ≤ 84370)

/-- Which month it is, from January of 1900 on. -/
def mi (y m : Int) : Int := (y - 1900) * 12 + m - 1
def yO (t : Int) : Int := 1900 + t / 12
def mO (t : Int) : Int := t % 12 + 1
/-- The same day of the month, or its last one. -/
def dO (t d : Int) : Int := if dim (yO t) (mO t) < d then dim (yO t) (mO t) else d
def inM (t : Int) : Bool := decide (0 ≤ t ∧ t ≤ 3611)
theorem mi_bd {y m d : Int} (h : Vld y m d) : 0 ≤ mi y m ∧ mi y m ≤ 3611 := by
  have := h.y1; have := h.y2; have := h.m1; have := h.m2
  unfold mi; omega
theorem mi_O (t : Int) : mi (yO t) (mO t) = t := by unfold mi yO mO; omega
theorem O_mi {y m d : Int} (h : Vld y m d) : yO (mi y m) = y ∧ mO (mi y m) = m := by
  have := h.m1; have := h.m2
  unfold mi yO mO; omega
theorem O_bd (t : Int) (h1 : 0 ≤ t) (h2 : t ≤ 3611) : 1900 ≤ yO t ∧ yO t ≤ 2200 ∧ 1 ≤ mO t ∧ mO t ≤ 12 := by unfold yO mO; omega
theorem dO_bd (t d : Int) (h1 : 0 ≤ t) (h2 : t ≤ 3611) (hd : 1 ≤ d) : 1 ≤ dO t d ∧ dO t d ≤ dim (yO t) (mO t) ∧ dO t d ≤ d ∧ (dO t d = d ∨ dO t d = dim (yO t) (mO t)) ∧ (d ≤ 28 → dO t d = d) := by
  obtain ⟨a, b, c, e⟩ := O_bd t h1 h2
  have f := dim_bd (yO t) (mO t) c e
  unfold dO; split <;> omega
theorem O_vld (t d : Int) (h1 : 0 ≤ t) (h2 : t ≤ 3611) (hd : 1 ≤ d) : Vld (yO t) (mO t) (dO t d) := by
  obtain ⟨a, b, c, e⟩ := O_bd t h1 h2
  obtain ⟨p, q, _⟩ := dO_bd t d h1 h2 hd
  exact ⟨a, b, p, q⟩
theorem mi_lt {y m d y' m' d' : Int} (h : Vld y m d) (h' : Vld y' m' d') (k : mi y m < mi y' m') : num y m d < num y' m' d' := by
  apply num_lt h h'
  have := h.m1; have := h.m2; have := h'.m1; have := h'.m2
  unfold mi at k; omega
/-- What Add answers of a day, and of so many months. -/
def nA (n k : Int) : Int := if inD n = true ∧ inM (mi (yOf n) (mOf n) + k) = true then num (yO (mi (yOf n) (mOf n) + k)) (mO (mi (yOf n) (mOf n) + k)) (dO (mi (yOf n) (mOf n) + k) (dOf n)) else 0
def nE (n k : Int) : Int := if inD n = true ∧ inM (mi (yOf n) (mOf n) + k) = true then 0 else 5
/-- Is there an answer? -/
structure Has (n k : Int) : Prop where
  n1 : -25567 ≤ n
  n2 : n ≤ 84370
  t1 : 0 ≤ mi (yOf n) (mOf n) + k
  t2 : mi (yOf n) (mOf n) + k ≤ 3611
theorem has_iff (n k : Int) : (inD n = true ∧ inM (mi (yOf n) (mOf n) + k) = true) ↔ Has n k := by
  unfold inD inM
  simp only [decide_eq_true_eq]
  exact ⟨fun ⟨⟨a, b⟩, ⟨c, d⟩⟩ => ⟨a, b, c, d⟩, fun ⟨a, b, c, d⟩ => ⟨⟨a, b⟩, ⟨c, d⟩⟩⟩
theorem nE_ok {n k : Int} (h : Has n k) : nE n k = 0 := by unfold nE; rw [if_pos ((has_iff n k).2 h)]
theorem nE_no {n k : Int} (h : ¬ Has n k) : nE n k = 5 := by unfold nE; rw [if_neg (mt (has_iff n k).1 h)]
theorem nA_no {n k : Int} (h : ¬ Has n k) : nA n k = 0 := by unfold nA; rw [if_neg (mt (has_iff n k).1 h)]
theorem nA_ok {n k : Int} (h : Has n k) : nA n k = num (yO (mi (yOf n) (mOf n) + k)) (mO (mi (yOf n) (mOf n) + k)) (dO (mi (yOf n) (mOf n) + k) (dOf n)) := by unfold nA; rw [if_pos ((has_iff n k).2 h)]
theorem nE_two (n k : Int) : nE n k = 0 ∨ nE n k = 5 := by unfold nE; split <;> simp
theorem has_of {n k : Int} (h : nE n k = 0) : Has n k := by
  by_cases c : Has n k
  · exact c
  · rw [nE_no c] at h; omega
/-- What is answered, as a date. -/
theorem nA_date {n k : Int} (h : Has n k) : Vld (yOf (nA n k)) (mOf (nA n k)) (dOf (nA n k)) ∧ mi (yOf (nA n k)) (mOf (nA n k)) = mi (yOf n) (mOf n) + k ∧ dOf (nA n k) = dO (mi (yOf n) (mOf n) + k) (dOf n) ∧ -25567 ≤ nA n k ∧ nA n k ≤ 84370 := by
  obtain ⟨v, e⟩ := ofDay n h.n1 h.n2
  have V := O_vld _ _ h.t1 h.t2 v.d1
  obtain ⟨a, b, c⟩ := ofDay_of V (nA_ok h).symm
  have B := num_bd V
  rw [← nA_ok h] at B
  refine ⟨by rw [← a, ← b, ← c]; exact V, by rw [← a, ← b, mi_O], c.symm, B.1, B.2⟩
theorem nA_bd (n k : Int) : -25567 ≤ nA n k ∧ nA n k ≤ 84370 := by
  by_cases h : Has n k
  · exact ⟨(nA_date h).2.2.2.1, (nA_date h).2.2.2.2⟩
  · rw [nA_no h]; omega
end Go.Proofs.YtafjmpaefikdcaaGreatDoor.L3
