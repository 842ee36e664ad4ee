/- Dates of package monthly, as a contract: no statement of the seat is proved here. -/
import Derived.Test.YtnpclkkjhbljbaaDoorMon5
namespace Go.Proofs.YtnpclkkjhbljbaaDoor
open Go.RowKit
set_option linter.unusedVariables false

/-- The first of T places at which it does not hold. -/
theorem first_not (p : Nat → Prop) : ∀ T : Nat, (∀ j, j < T → p j) ∨ ∃ J, J < T ∧ ¬ p J ∧ ∀ j, j < J → p j
  | 0 => Or.inl fun j hj => absurd hj (Nat.not_lt_zero _)
  | T + 1 => by
    rcases first_not p T with h | ⟨J, h1, h2, h3⟩
    · by_cases c : p T
      · exact Or.inl fun j hj => by
          by_cases e : j = T
          · exact e ▸ c
          · exact h j (by omega)
      · exact Or.inr ⟨T, by omega, c, h⟩
    · exact Or.inr ⟨J, by omega, h2, h3⟩
theorem serE_two (n ev : Int) (k : Nat) : serE n ev k = 0 ∨ serE n ev k = 5 := nE_two _ _

theorem Dates_arg (n ev tm : Int) (w : World) (h : ev < 1 ∨ 12 < ev ∨ tm < 1 ∨ 600 < tm) :
    Calls Tryd.prog 9 #[.int .i64 n, .int .i64 ev, .int .i64 tm] w fun e w' => e = .returned (.tuple #[.slice none 0 0, .int .i64 1]) ∧ w' = w := by
  by_cases h1 : ev < 1
  · have d1 : decide (ev < 1) = true := decide_eq_true h1
    go_enter Tryd.func9, Tryd.ntmps9
    go_wp2
    go_ret2
    exact ⟨rfl, rfl⟩
  · have d1 : decide (ev < 1) = false := decide_eq_false h1
    by_cases h2 : 12 < ev
    · have d2 : decide (12 < ev) = true := decide_eq_true h2
      go_enter Tryd.func9, Tryd.ntmps9
      go_wp2
      go_ret2
      exact ⟨rfl, rfl⟩
    · have d2 : decide (12 < ev) = false := decide_eq_false h2
      by_cases h3 : tm < 1
      · have d3 : decide (tm < 1) = true := decide_eq_true h3
        go_enter Tryd.func9, Tryd.ntmps9
        go_wp2
        go_ret2
        exact ⟨rfl, rfl⟩
      · have d3 : decide (tm < 1) = false := decide_eq_false h3
        have h4 : 600 < tm := by omega
        have d4 : decide (600 < tm) = true := decide_eq_true h4
        go_enter Tryd.func9, Tryd.ntmps9
        go_wp2
        go_ret2
        exact ⟨rfl, rfl⟩
theorem Dates_day (n ev tm : Int) (w : World) (h : n < -25567 ∨ 84370 < n) (e1 : 1 ≤ ev) (e2 : ev ≤ 12) (t1 : 1 ≤ tm) (t2 : tm ≤ 600) :
    Calls Tryd.prog 9 #[.int .i64 n, .int .i64 ev, .int .i64 tm] w fun e w' => e = .returned (.tuple #[.slice none 0 0, .int .i64 5]) ∧ Ext w w' := by
  replace h := show Hid _ from h
  have d1 : decide (ev < 1) = false := decide_eq_false (by omega)
  have d2 : decide (12 < ev) = false := decide_eq_false (by omega)
  have d3 : decide (tm < 1) = false := decide_eq_false (by omega)
  have d4 : decide (600 < tm) = false := decide_eq_false (by omega)
  go_enter Tryd.func9, Tryd.ntmps9
  go_wp2_with fail
  refine (Date_no n _ h.out).mono ?_
  rintro e w1 ⟨rfl, hx1⟩
  replace hx1 := show Hid _ from hx1
  go_wp2
  go_ret2
  exact ⟨rfl, hx1.out.trans ((Ext.refl _).alloc _ _)⟩
theorem Dates_ok (n ev : Int) (T : Nat) (w : World) (n1 : -25567 ≤ n) (n2 : n ≤ 84370) (e1 : 1 ≤ ev) (e2 : ev ≤ 12) (t1 : 1 ≤ T) (t2 : T ≤ 600) (hall : ∀ j, j < T → serE n ev j = 0) (he : Hid (Env w)) :
    Calls Tryd.prog 9 #[.int .i64 n, .int .i64 ev, .int .i64 T] w
      fun e w' => (∃ g, e = .returned (.tuple #[.slice (some ⟨g, 0, none⟩) T T, .int .i64 0]) ∧ Arr w' g T (serA n ev)) ∧ Ext w w' := by
  have hS : Hid (∀ w : World, Hid (Env w) → Calls Tryd.prog 18 #[.func (.func 16) #[.agg #[.int .i64 (yOf n), .int .i64 (mOf n), .int .i64 (dOf n)]] #[], .int .i64 ev, .int .i64 T] w
      fun e w' => (∃ g, e = .returned (.tuple #[.slice (some ⟨g, 0, none⟩) T T, .int .i64 0]) ∧ Arr w' g T (serA n ev)) ∧ Ext w w') := fun w he => series_ok n ev T w n1 n2 e1 e2 t1 t2 hall he
  have hD : Hid (∀ w : World, Hid (Env w) → Calls Tryd.prog 15 #[.int .i64 n] w fun e w' => e = .returned (.tuple #[.agg #[.int .i64 (yOf n), .int .i64 (mOf n), .int .i64 (dOf n)], .int .i64 0]) ∧ Ext w w') := fun w he => Date_f n w n1 n2 he
  generalize yOf n = y at *
  generalize mOf n = m at *
  generalize dOf n = d at *
  clear hall
  generalize serA n ev = F at *
  have d1 : decide (ev < 1) = false := decide_eq_false (by omega)
  have d2 : decide (12 < ev) = false := decide_eq_false (by omega)
  have d3 : decide ((T : Int) < 1) = false := decide_eq_false (by omega)
  have d4 : decide (600 < (T : Int)) = false := decide_eq_false (by omega)
  go_enter Tryd.func9, Tryd.ntmps9
  go_wp2_with fail
  refine (hD.out _ he).mono ?_
  rintro e w1 ⟨rfl, hx1⟩
  replace he : Hid (Env w1) := he.out.ext hx1
  have hx := show Hid (Ext w w1) from hx1
  clear hx1 hD
  go_wp2_with fail
  obtain ⟨W0, b, hW0, hb, hxb, k0, k1, k2⟩ := box3 w1 (.int .i64 y) (.int .i64 m) (.int .i64 d) 33
  rw [hW0, hb]
  clear hW0 hb
  replace he : Hid (Env W0) := he.out.ext hxb
  replace hx : Hid (Ext w W0) := hx.out.trans hxb
  clear hxb
  refine (hS.out _ he).mono ?_
  rintro e w2 ⟨⟨g, rfl, hr⟩, hx1⟩
  replace hx : Hid (Ext w w2) := hx.out.trans hx1
  replace hr := show Hid _ from hr
  clear hx1 hS
  go_wp2
  go_ret2
  exact ⟨⟨g, rfl, hr.out⟩, hx.out⟩
theorem Dates_no (n ev : Int) (T : Nat) (w : World) (n1 : -25567 ≤ n) (n2 : n ≤ 84370) (e1 : 1 ≤ ev) (e2 : ev ≤ 12) (t1 : 1 ≤ T) (t2 : T ≤ 600) (hall : ¬ ∀ j, j < T → serE n ev j = 0) (he : Hid (Env w)) :
    Calls Tryd.prog 9 #[.int .i64 n, .int .i64 ev, .int .i64 T] w fun e w' => e = .returned (.tuple #[.slice none 0 0, .int .i64 5]) ∧ Ext w w' := by
  have hS : Hid (∀ w : World, Hid (Env w) → Calls Tryd.prog 18 #[.func (.func 16) #[.agg #[.int .i64 (yOf n), .int .i64 (mOf n), .int .i64 (dOf n)]] #[], .int .i64 ev, .int .i64 T] w
      fun e w' => e = .returned (.tuple #[.slice none 0 0, .int .i64 5]) ∧ Ext w w') := fun w he => by
    rcases first_not (fun j => serE n ev j = 0) T with h | ⟨J, h1, h2, h3⟩
    · exact absurd h hall
    · exact series_no n ev T J w n1 n2 e1 e2 t1 t2 h1 h3 ((serE_two n ev J).resolve_left h2) he
  have hD : Hid (∀ w : World, Hid (Env w) → Calls Tryd.prog 15 #[.int .i64 n] w fun e w' => e = .returned (.tuple #[.agg #[.int .i64 (yOf n), .int .i64 (mOf n), .int .i64 (dOf n)], .int .i64 0]) ∧ Ext w w') := fun w he => Date_f n w n1 n2 he
  generalize yOf n = y at *
  generalize mOf n = m at *
  generalize dOf n = d at *
  clear hall
  have d1 : decide (ev < 1) = false := decide_eq_false (by omega)
  have d2 : decide (12 < ev) = false := decide_eq_false (by omega)
  have d3 : decide ((T : Int) < 1) = false := decide_eq_false (by omega)
  have d4 : decide (600 < (T : Int)) = false := decide_eq_false (by omega)
  go_enter Tryd.func9, Tryd.ntmps9
  go_wp2_with fail
  refine (hD.out _ he).mono ?_
  rintro e w1 ⟨rfl, hx1⟩
  replace he : Hid (Env w1) := he.out.ext hx1
  have hx := show Hid (Ext w w1) from hx1
  clear hx1 hD
  go_wp2_with fail
  obtain ⟨W0, b, hW0, hb, hxb, k0, k1, k2⟩ := box3 w1 (.int .i64 y) (.int .i64 m) (.int .i64 d) 33
  rw [hW0, hb]
  clear hW0 hb
  replace he : Hid (Env W0) := he.out.ext hxb
  replace hx : Hid (Ext w W0) := hx.out.trans hxb
  clear hxb
  refine (hS.out _ he).mono ?_
  rintro e w2 ⟨rfl, hx1⟩
  replace hx : Hid (Ext w w2) := hx.out.trans hx1
  clear hx1 hS
  go_wp2
  go_ret2
  exact ⟨rfl, hx.out⟩
end Go.Proofs.YtnpclkkjhbljbaaDoor
