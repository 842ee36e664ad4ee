
/- Years and months of package civil, and the document's own, as contracts: no statement of the seat is proved here. -/
import Derived.Test.YtmlkccmkdgfalaaGreatDoorL3Civ1
namespace Go.Proofs.YtmlkccmkdgfalaaGreatDoor.L3
open Go.RowKit
set_option linter.unusedVariables false

theorem tdiv_pos (a b : Int) (h : 0 ≤ a) : a.tdiv b = a / b := Int.tdiv_eq_ediv_of_nonneg h
theorem longAhead_c (y : Int) (w : World) (h1 : 1900 ≤ y) (h2 : y ≤ 2201) :
    Calls Tryz.prog 111 #[.int .i64 y] w fun e w' => e = .returned (.int .i64 (la y)) ∧ w' = w := by
  unfold la
  go_enter Tryz.func111, Tryz.ntmps111
  go_wp2
  go_ret
  exact ⟨rfl, rfl⟩
theorem start_c (y : Int) (w : World) (h1 : 1900 ≤ y) (h2 : y ≤ 2201) :
    Calls Tryz.prog 91 #[.int .i64 y] w fun e w' => e = .returned (.int .i64 (st y)) ∧ w' = w := by
  obtain ⟨b1, b2⟩ := la_bd y h1 h2
  have hl : la 1970 = 477 := by decide
  unfold st
  go_enter Tryz.func91, Tryz.ntmps91
  go_wp2_with (go_at_call 111; refine (longAhead_c _ _ (by omega) (by omega)).mono ?_; rintro e w' ⟨rfl, rfl⟩)
  go_ret
  exact ⟨ret_int (by omega), rfl⟩
theorem known_c (y : Int) (w : World) :
    Calls Tryz.prog 113 #[.int .i64 y] w fun e w' => e = .returned (.bool (decide (1900 ≤ y ∧ y ≤ 2200))) ∧ w' = w := by
  by_cases h1 : 1900 ≤ y
  · by_cases h2 : y ≤ 2200
    · rw [decide_eq_true (show 1900 ≤ y ∧ y ≤ 2200 from ⟨h1, h2⟩)]
      go_enter Tryz.func113, Tryz.ntmps113
      go_wp2
      go_ret
      exact ⟨rfl, rfl⟩
    · rw [decide_eq_false (show ¬ (1900 ≤ y ∧ y ≤ 2200) from fun k => h2 k.2)]
      go_enter Tryz.func113, Tryz.ntmps113
      go_wp2
      go_ret
      exact ⟨rfl, rfl⟩
  · rw [decide_eq_false (show ¬ (1900 ≤ y ∧ y ≤ 2200) from fun k => h1 k.1)]
    go_enter Tryz.func113, Tryz.ntmps113
    go_wp2
    go_ret
    exact ⟨rfl, rfl⟩
theorem index_mon (k v : Int) (i : Nat) (hk : k = i) (hv : mtab[i]? = some v) (w : World) :
    (Instr.index 123 (.agg #[.int .i64 31, .int .i64 28, .int .i64 31, .int .i64 30, .int .i64 31, .int .i64 30, .int .i64 31, .int .i64 31, .int .i64 30, .int .i64 31, .int .i64 30, .int .i64 31]) (.int .i64 k)).run Tryz.prog w = .ok (.int .i64 v) w := by
  have hi : i < 12 := by
    rcases Nat.lt_or_ge i 12 with h | h
    · exact h
    · rw [List.getElem?_eq_none (by simpa [mtab] using h)] at hv; cases hv
  subst hk
  have hc : i = 0 ∨ i = 1 ∨ i = 2 ∨ i = 3 ∨ i = 4 ∨ i = 5 ∨ i = 6 ∨ i = 7 ∨ i = 8 ∨ i = 9 ∨ i = 10 ∨ i = 11 := by omega
  rcases hc with rfl | rfl | rfl | rfl | rfl | rfl | rfl | rfl | rfl | rfl | rfl | rfl <;> (obtain rfl := Option.some.inj hv; simp [Instr.index, asIntOf, run_underlying Tryz.underlying123, part, go_sem])
theorem rMonth_c (y m : Int) (w : World) (hm : I64 m) :
    Calls Tryz.prog 71 #[.int .i64 y, .int .i64 m] w fun e w' => e = .returned (.int .i64 (dim y m)) ∧ w' = w := by
  obtain ⟨m1, m2⟩ := hm
  by_cases h1 : m < 1
  · rw [dim_out y m (Or.inl h1)]
    go_enter Tryz.func71, Tryz.ntmps71
    go_wp2
    go_ret
    exact ⟨rfl, rfl⟩
  · by_cases h2 : 12 < m
    · rw [dim_out y m (Or.inr h2)]
      go_enter Tryz.func71, Tryz.ntmps71
      go_wp2
      go_ret
      exact ⟨rfl, rfl⟩
    · by_cases h3 : m = 2
      · subst h3
        have hx := index_mon 1 28 1 rfl rfl
        cases hl : lng y
        · rw [show dim y 2 = 28 by simp [dim, lp, hl]]
          go_enter Tryz.func71, Tryz.ntmps71
          go_wp2_with (go_at_call 56; refine (rLong_c _ _).mono ?_; rintro e w' ⟨rfl, rfl⟩; rw [hl])
          go_ret
          exact ⟨rfl, rfl⟩
        · rw [dim_feb y hl]
          go_enter Tryz.func71, Tryz.ntmps71
          go_wp2_with (go_at_call 56; refine (rLong_c _ _).mono ?_; rintro e w' ⟨rfl, rfl⟩; rw [hl])
          go_ret
          exact ⟨rfl, rfl⟩
      · have hx := index_mon (m - 1) _ _ (by omega) (mtab_dim y m (by omega) (by omega) (fun k => h3 k.1))
        generalize dim y m = v at hx ⊢
        go_enter Tryz.func71, Tryz.ntmps71
        go_wp2
        go_ret
        exact ⟨rfl, rfl⟩

/-- y.month as a value. -/
theorem ahead_c (y m : Int) (w : World) (h1 : 1 ≤ m) (h2 : m ≤ 12) (he : Hid (Env w)) :
    Calls Tryz.prog 114 #[.int .i64 m, .func (.func 92) #[.int .i64 y] #[]] w fun e w' => e = .returned (.int .i64 (cum y m)) ∧ w' = w := by
  go_enter Tryz.func114, Tryz.ntmps114
  go_wp2
  go_loop [5, 6] (fun s k => ∃ j : Int, 1 ≤ j ∧ j ≤ m ∧ k = .int .i64 j ∧ s = .int .i64 (cum y j)) (fun _ k => (m - RowKit.intOf k).toNat)
  case atStart => exact ⟨1, by omega, by omega, rfl, rfl⟩
  case round =>
    obtain ⟨j, j1, j2, rfl, rfl⟩ := hrel
    have cb := cum_bd y j j1 (by omega)
    obtain ⟨c1, c2⟩ := cb
    have db := dim_bd y j j1 (by omega)
    obtain ⟨d1, d2⟩ := db
    have cs := cum_succ y j j1 (by omega)
    replace cs := show Hid _ from cs
    by_cases hj : j < m
    · go_wp2_with (go_at_call 92; refine (month_c _ _ _ (by unfold I64; omega) he).mono ?_; rintro e w' ⟨rfl, rfl⟩)
      go_round
      case rel => exact ⟨j + 1, by omega, by omega, by go_num, by rw [cs.out]⟩
      case measure => simp [RowKit.intOf]; omega
    · obtain rfl : j = m := by omega
      go_wp2
      go_ret
      exact ⟨rfl, rfl⟩
theorem monthOf_c (y n : Int) (w : World) (h1 : 0 ≤ n) (h2 : n < 365 + lp y) (he : Hid (Env w)) :
    Calls Tryz.prog 90 #[.int .i64 n, .func (.func 92) #[.int .i64 y] #[]] w
      fun e w' => (∃ m : Int, 1 ≤ m ∧ m ≤ 12 ∧ cum y m ≤ n ∧ n < cum y m + dim y m ∧ e = .returned (.tuple #[.int .i64 m, .int .i64 (n - cum y m)])) ∧ w' = w := by
  have hl := lp_01 y
  obtain ⟨l1, l2⟩ := hl
  go_enter Tryz.func90, Tryz.ntmps90
  go_wp2
  go_loop [0, 4] (fun r k => ∃ j : Int, 1 ≤ j ∧ j ≤ 12 ∧ k = .int .i64 j ∧ cum y j ≤ n ∧ r = .int .i64 (n - cum y j)) (fun _ k => (12 - RowKit.intOf k).toNat)
  case atStart => exact ⟨1, by omega, by omega, rfl, h1, by rw [cum_one]; simp⟩
  case round =>
    obtain ⟨j, j1, j2, rfl, c3, rfl⟩ := hrel
    have cb := cum_bd y j j1 (by omega)
    obtain ⟨c1, c2⟩ := cb
    have db := dim_bd y j j1 (by omega)
    obtain ⟨d1, d2⟩ := db
    have cs := cum_succ y j j1 (by omega)
    have ce := cum_end y
    replace cs := show Hid _ from cs
    replace ce := show Hid _ from ce
    by_cases hj : dim y j ≤ n - cum y j
    · have j3 : j < 12 := by
        have := cs.out; have := ce.out
        rcases Int.lt_or_le j 12 with k | k
        · exact k
        · obtain rfl : j = 12 := by omega
          simp only [show (12 : Int) + 1 = 13 from rfl] at this cs
          have := cs.out
          omega
      go_wp2_with (go_at_call 92; refine (month_c _ _ _ (by unfold I64; omega) he).mono ?_; rintro e w' ⟨rfl, rfl⟩)
      go_round
      case rel => exact ⟨j + 1, by omega, by omega, by go_num, by rw [cs.out]; omega, by rw [cs.out]; go_num⟩
      case measure => simp [RowKit.intOf]; omega
    · go_wp2_with (go_at_call 92; refine (month_c _ _ _ (by unfold I64; omega) he).mono ?_; rintro e w' ⟨rfl, rfl⟩)
      go_ret2
      exact ⟨⟨j, j1, j2, c3, by omega, rfl⟩, rfl⟩
theorem yearOf_c (n : Int) (w : World) (h1 : -25567 ≤ n) (h2 : n ≤ 84370) :
    Calls Tryz.prog 89 #[.int .i64 n] w fun e w' => (∃ y : Int, 1900 ≤ y ∧ y ≤ 2200 ∧ st y ≤ n ∧ n < st y + 365 + lp y ∧ e = .returned (.int .i64 y)) ∧ w' = w := by
  obtain ⟨g1, g2, g3⟩ := guess_le n h1 h2
  go_enter Tryz.func89, Tryz.ntmps89
  go_wp2
  go_loop [3] (fun t => ∃ y : Int, 1900 ≤ y ∧ y ≤ 2200 ∧ st y ≤ n ∧ t = .int .i64 y) (fun t => (2200 - RowKit.intOf t).toNat)
  case atStart => exact ⟨_, g1, g2, g3, rfl⟩
  case round =>
    clear g1 g2 g3
    obtain ⟨y, y1, y2, y3, rfl⟩ := hrel
    have hs := show Hid _ from st_succ y
    have hb := st_bd (y + 1) (by omega) (by omega)
    obtain ⟨b1, b2⟩ := hb
    by_cases hc : st (y + 1) ≤ n
    · have y4 : y < 2200 := by
        rcases Int.lt_or_le y 2200 with k | k
        · exact k
        · obtain rfl : y = 2200 := by omega
          have : st (2200 + 1) = 84371 := by decide
          omega
      go_wp2_with (go_at_call 91; refine (start_c _ _ (by omega) (by omega)).mono ?_; rintro e w' ⟨rfl, rfl⟩)
      go_round
      case rel => exact ⟨y + 1, by omega, by omega, hc, by go_num⟩
      case measure => simp [RowKit.intOf]; omega
    · go_wp2_with (go_at_call 91; refine (start_c _ _ (by omega) (by omega)).mono ?_; rintro e w' ⟨rfl, rfl⟩)
      go_ret
      exact ⟨⟨y, y1, y2, y3, by have := hs.out; omega, rfl⟩, rfl⟩
theorem before_c (y : Int) (w : World) (h1 : 1900 ≤ y) (h2 : y ≤ 2201) :
    Calls Tryz.prog 72 #[.int .i64 y] w fun e w' => e = .returned (.int .i64 (st y + 25567)) ∧ w' = w := by
  have hb := st_before y
  rw [← hb]
  clear hb
  go_enter Tryz.func72, Tryz.ntmps72
  go_wp2
  go_loop [3, 4] (fun s t => ∃ k : Int, 0 ≤ k ∧ 1900 + 4 * k < y + 4 ∧ t = .int .i64 (1900 + 4 * k) ∧ s = .int .i64 (365 * (y - 1900) + (la (1900 + 4 * k) - la 1900))) (fun _ t => (y - RowKit.intOf t).toNat)
  case atStart => exact ⟨0, by omega, by omega, rfl, by simp⟩
  case round =>
    obtain ⟨k, k1, k2, rfl, rfl⟩ := hrel
    have hs := show Hid _ from la_step k
    obtain ⟨b1, b2⟩ : 400 ≤ la (1900 + 4 * k) ∧ la (1900 + 4 * k) ≤ 600 := by unfold la; omega
    have b3 : la 1900 = 460 := by decide
    rw [b3]
    generalize hq : la (1900 + 4 * k) = q at *
    replace hq := show Hid _ from hq
    by_cases hk : 1900 + 4 * k < y
    · cases hl : lng (1900 + 4 * k)
      · go_wp2_with (go_at_call 56; refine (rLong_c _ _).mono ?_; rintro e w' ⟨rfl, rfl⟩; rw [hl])
        go_round
        case rel => exact ⟨k + 1, by omega, by omega, by go_num, by rw [hs.out]; simp [lp, hl]⟩
        case measure => simp [RowKit.intOf]; omega
      · go_wp2_with (go_at_call 56; refine (rLong_c _ _).mono ?_; rintro e w' ⟨rfl, rfl⟩; rw [hl])
        go_round
        case rel => exact ⟨k + 1, by omega, by omega, by go_num, by rw [hs.out]; simp [lp, hl]; omega⟩
        case measure => simp [RowKit.intOf]; omega
    · have hf := la_four y k k2 (by omega)
      go_wp2
      go_ret
      exact ⟨ret_int (by rw [← hf, hq.out]), rfl⟩
end Go.Proofs.YtmlkccmkdgfalaaGreatDoor.L3