
/- What the small functions of package civil, and the document's own, do, as contracts: no statement of the seat is proved here. -/
import Derived.Test.YtmlkccmkdgfalaaGreatDoorProg
import Derived.Test.YtmlkccmkdgfalaaGreatDoorBase
import Derived.Test.YtmlkccmkdgfalaaGreatDoorL3Cal
import Derived.Deep.QuietTactic
import Derived.BigQuiet
namespace Go.Proofs.YtmlkccmkdgfalaaGreatDoor.L3
open Go.RowKit
set_option linter.unusedVariables false

/-- What the walks ask of the listed variables: the months' table. -/
structure Env (w : World) : Prop where
  mon : ∀ (i : Nat) (v : Int), mtab[i]? = some v → w.cell? ⟨0, i, none⟩ = some (.int .i64 v)
theorem Env.ext {w w' : World} (h : Env w) (hx : Ext w w') : Env w' :=
  ⟨fun i v hi => by
    have := h.mon i v hi
    rw [hx.cell _ _ (lt_of_cell this)]; exact this⟩
def I64 (n : Int) : Prop := -9223372036854775808 ≤ n ∧ n ≤ 9223372036854775807
theorem tmod_zero (a b : Int) : a.tmod b = 0 ↔ a % b = 0 := by
  rw [← Int.dvd_iff_tmod_eq_zero, ← Int.dvd_iff_emod_eq_zero]
theorem ret_bool {a b : Bool} (h : a = b) : Ending.returned (.bool a) = .returned (.bool b) := by rw [h]
theorem ret_int {k : IntKind} {a b : Int} (h : a = b) : Ending.returned (.int k a) = .returned (.int k b) := by rw [h]

theorem long_c (y : Int) (w : World) :
    Calls Tryz.prog 112 #[.int .i64 y] w fun e w' => e = .returned (.bool (lng y)) ∧ w' = w := by
  have e4 := tmod_zero y 4; have e100 := tmod_zero y 100; have e400 := tmod_zero y 400
  replace e4 := show Hid _ from e4; replace e100 := show Hid _ from e100; replace e400 := show Hid _ from e400
  by_cases h4 : y.tmod 4 = 0
  · by_cases h100 : y.tmod 100 = 0
    · by_cases h400 : y.tmod 400 = 0
      · have hl : lng y = true := lng_of y (e4.out.1 h4) (Or.inr (e400.out.1 h400))
        rw [hl]
        clear hl
        go_enter Tryz.func112, Tryz.ntmps112
        go_wp2
        go_ret
        exact ⟨rfl, rfl⟩
      · have hl : lng y = false := lng_not y (fun k => by have := e100.out.1 h100; have := mt e400.out.2 h400; omega)
        rw [hl]
        clear hl
        go_enter Tryz.func112, Tryz.ntmps112
        go_wp2
        go_ret
        exact ⟨ret_bool (by simp [h400]), rfl⟩
    · have hl : lng y = true := lng_of y (e4.out.1 h4) (Or.inl (mt e100.out.2 h100))
      rw [hl]
      clear hl
      go_enter Tryz.func112, Tryz.ntmps112
      go_wp2
      go_ret
      exact ⟨rfl, rfl⟩
  · have hl : lng y = false := lng_not y (fun k => h4 (e4.out.2 k.1))
    rw [hl]
    clear hl
    go_enter Tryz.func112, Tryz.ntmps112
    go_wp2
    go_ret
    exact ⟨rfl, rfl⟩
theorem Long_c (y : Int) (w : World) :
    Calls Tryz.prog 124 #[.int .i64 y] w fun e w' => e = .returned (.bool (lng y)) ∧ w' = w := by
  go_enter Tryz.func124, Tryz.ntmps124
  go_wp2_with (go_at_call 112; refine (long_c _ _).mono ?_; rintro e w' ⟨rfl, rfl⟩)
  go_ret
  exact ⟨rfl, rfl⟩

theorem month_c (y m : Int) (w : World) (hm : I64 m) (he : Hid (Env w)) :
    Calls Tryz.prog 92 #[.int .i64 y, .int .i64 m] w fun e w' => e = .returned (.int .i64 (dim y m)) ∧ w' = w := by
  obtain ⟨m1, m2⟩ := hm
  by_cases h1 : m < 1
  · rw [dim_out y m (Or.inl h1)]
    go_enter Tryz.func92, Tryz.ntmps92
    go_wp2
    go_ret
    exact ⟨rfl, rfl⟩
  · by_cases h2 : 12 < m
    · rw [dim_out y m (Or.inr h2)]
      go_enter Tryz.func92, Tryz.ntmps92
      go_wp2
      go_ret
      exact ⟨rfl, rfl⟩
    · by_cases h3 : m = 2
      · subst h3
        cases hl : lng y
        · have hc := he.out.mon 1 28 rfl
          rw [show dim y 2 = 28 by simp [dim, lp, hl]]
          go_enter Tryz.func92, Tryz.ntmps92
          go_wp2_with (go_at_call 112; refine (long_c _ _).mono ?_; rintro e w' ⟨rfl, rfl⟩; rw [hl])
          go_ret
          exact ⟨rfl, rfl⟩
        · have hc := he.out.mon 1 28 rfl
          rw [dim_feb y hl]
          go_enter Tryz.func92, Tryz.ntmps92
          go_wp2_with (go_at_call 112; refine (long_c _ _).mono ?_; rintro e w' ⟨rfl, rfl⟩; rw [hl])
          go_ret
          exact ⟨rfl, rfl⟩
      · have hc := he.out.mon _ _ (mtab_dim y m (by omega) (by omega) (fun k => h3 k.1))
        rw [show (m - 1).toNat = m.toNat - 1 by omega] at hc
        generalize dim y m = v at hc ⊢
        go_enter Tryz.func92, Tryz.ntmps92
        go_wp2
        go_ret
        exact ⟨rfl, rfl⟩
theorem Month_c (y m : Int) (w : World) (hm : I64 m) (he : Hid (Env w)) :
    Calls Tryz.prog 94 #[.int .i64 y, .int .i64 m] w fun e w' => e = .returned (.int .i64 (dim y m)) ∧ w' = w := by
  go_enter Tryz.func94, Tryz.ntmps94
  go_wp2_with (go_at_call 92; refine (month_c _ _ _ hm he).mono ?_; rintro e w' ⟨rfl, rfl⟩)
  go_ret
  exact ⟨rfl, rfl⟩

/-- The day of the week. -/
def wday (n : Int) : Int := (n + 3) % 7
theorem Weekday_c (n : Int) (w : World) (h : I64 n) :
    Calls Tryz.prog 115 #[.int .i64 n] w fun e w' => e = .returned (.int .i64 (wday n)) ∧ w' = w := by
  obtain ⟨h1, h2⟩ := h
  obtain ⟨r, hr⟩ : ∃ r, n.tmod 7 = r := ⟨_, rfl⟩
  have hb : -7 < r ∧ r < 7 := by rw [← hr]; rw [Int.tmod_eq_emod]; split <;> omega
  obtain ⟨b1, b2⟩ := hb
  have hw : wday n = (r + 7 + 3) % 7 := by unfold wday; rw [← hr, Int.tmod_eq_emod]; split <;> omega
  rw [hw]
  clear hw h1 h2
  go_enter Tryz.func115, Tryz.ntmps115
  go_wp2
  go_ret
  exact ⟨rfl, rfl⟩

theorem rLong_c (y : Int) (w : World) :
    Calls Tryz.prog 56 #[.int .i64 y] w fun e w' => e = .returned (.bool (lng y)) ∧ w' = w := by
  have e4 := tmod_zero y 4; have e100 := tmod_zero y 100; have e400 := tmod_zero y 400
  replace e4 := show Hid _ from e4; replace e100 := show Hid _ from e100; replace e400 := show Hid _ from e400
  by_cases h400 : y.tmod 400 = 0
  · have hl : lng y = true := lng_of y (by have := e400.out.1 h400; omega) (Or.inr (e400.out.1 h400))
    rw [hl]
    clear hl
    go_enter Tryz.func56, Tryz.ntmps56
    go_wp2
    go_ret
    exact ⟨rfl, rfl⟩
  · by_cases h4 : y.tmod 4 = 0
    · by_cases h100 : y.tmod 100 = 0
      · have hl : lng y = false := lng_not y (fun k => by have := e100.out.1 h100; have := mt e400.out.2 h400; omega)
        rw [hl]
        clear hl
        go_enter Tryz.func56, Tryz.ntmps56
        go_wp2
        go_ret
        exact ⟨rfl, rfl⟩
      · have hl : lng y = true := lng_of y (e4.out.1 h4) (Or.inl (mt e100.out.2 h100))
        rw [hl]
        clear hl
        go_enter Tryz.func56, Tryz.ntmps56
        go_wp2
        go_ret
        exact ⟨ret_bool (by simp [h100]), rfl⟩
    · have hl : lng y = false := lng_not y (fun k => h4 (e4.out.2 k.1))
      rw [hl]
      clear hl
      go_enter Tryz.func56, Tryz.ntmps56
      go_wp2
      go_ret
      exact ⟨rfl, rfl⟩
end Go.Proofs.YtmlkccmkdgfalaaGreatDoor.L3