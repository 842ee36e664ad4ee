/- What the statements' own small functions of layer 6 do: awake, near, days within the bounds, first days of years, as contracts: no statement of the seat is proved here. -/
import Derived.Test.YtkjdhefmhooplaaDoorFra7
namespace Go.Proofs.YtkjdhefmhooplaaDoor
open Go.RowKit
set_option linter.unusedVariables false

theorem awake_c (w : World) (he : Hid (Env w)) :
    Calls Tryd.prog 12 #[] w fun e w' => e = .returned (.bool true) ∧ Ext w w' := by
  have hP : Hid (∀ w : World, Calls Tryd.prog 8 #[.int .i64 3] w fun e w' => e = .returned (.tuple #[.int .i64 133590, .int .i64 0]) ∧ Ext w w') := fun w => Parts_ok 3 w (by omega) (by omega)
  have hB : Hid (∀ w : World, Hid (Env w) → Calls Tryd.prog 10 #[.int .i64 2, .int .i64 5, .int .i64 12] w fun e w' => e = .returned (.tuple #[.int .i64 7, .int .i64 0]) ∧ Ext w w') := fun w he => Between_ok 2 5 12 w (by omega) (by omega) (by omega) (by omega) he
  go_enter Tryd.func12, Tryd.ntmps12
  go_wp2_with fail
  refine (hP.out _).mono ?_
  rintro e w1 ⟨rfl, hx1⟩
  replace he : Hid (Env w1) := he.out.ext hx1
  have hx := show Hid (Ext w w1) from hx1
  clear hx1
  go_wp2_with fail
  refine (hB.out _ he).mono ?_
  rintro e w2 ⟨rfl, hx1⟩
  replace hx : Hid (Ext w w2) := hx.out.trans hx1
  clear hx1
  go_wp2
  go_ret
  exact ⟨rfl, hx.out⟩
theorem near_c (f t : Int) (w : World) :
    Calls Tryd.prog 7 #[.int .i64 f, .int .i64 t] w fun e w' => (∃ n, e = .returned (.int .i64 n)) ∧ w' = w := by
  by_cases h1 : -25567 ≤ f <;> by_cases h2 : f ≤ 84370 <;> by_cases h3 : -25567 ≤ t <;> by_cases h4 : t ≤ 84370 <;>
  · go_enter Tryd.func7, Tryd.ntmps7
    go_wp2
    all_goals
      go_ret
      exact ⟨⟨_, rfl⟩, rfl⟩
theorem day_c (n : Int) (w : World) :
    Calls Tryd.prog 13 #[.int .i64 n] w fun e w' => (∃ d, e = .returned (.int .i64 d) ∧ -25567 ≤ d ∧ d < 84370) ∧ w' = w := by
  obtain ⟨u, hu⟩ : ∃ u, IntKind.u64.wrap n = u := ⟨_, rfl⟩
  have p0 : 0 ≤ u ∧ u < 18446744073709551616 := by rw [← hu, IntKind.wrap_u64]; omega
  obtain ⟨r0, s0⟩ := p0
  obtain ⟨v, hv⟩ : ∃ v, u % 109937 = v := ⟨_, rfl⟩
  have p0 : 0 ≤ v ∧ v < 109937 := by omega
  obtain ⟨g0, l0⟩ := p0
  go_enter Tryd.func13, Tryd.ntmps13
  go_wp2
  go_ret
  exact ⟨⟨-25567 + v, rfl, by omega, by omega⟩, rfl⟩
theorem longs_c (Y : Int) (w : World) (h1 : 1900 ≤ Y) (h2 : Y ≤ 2201) :
    Calls Tryd.prog 16 #[.int .i64 Y] w fun e w' => e = .returned (.int .i64 (la Y - la 1900)) ∧ w' = w := by
  go_enter Tryd.func16, Tryd.ntmps16
  go_wp2_with fail
  go_loop [3, 4] (fun s i => ∃ k L : Int, 1900 ≤ k ∧ k ≤ Y ∧ i = .int .i64 k ∧ s = .int .i64 L ∧ 0 ≤ L ∧ L ≤ k - 1900 ∧ Hid (L = la k - la 1900)) (fun _ i => (Y - RowKit.intOf i).toNat)
  case atStart => exact ⟨1900, 0, by omega, by omega, rfl, rfl, by omega, by omega, (by show (0 : Int) = _; omega)⟩
  case round =>
    obtain ⟨k, L, k1, k2, rfl, rfl, l1, l2, hL⟩ := hrel
    by_cases hlt : k < Y
    · have hs := la_succ k
      have hp := lp_spec k
      replace hs := show Hid _ from hs; replace hp := show Hid _ from hp
      by_cases h4 : k % 4 = 0
      · by_cases h100 : k % 100 = 0
        · by_cases h400 : k % 400 = 0
          · have hn : Hid (L + 1 = la (k + 1) - la 1900) := by
              show L + 1 = _
              have a4 := h4; have a400 := h400
              have := hp.out; have := hs.out; have := hL.out; omega
            clear hL hs hp
            go_wp2
            go_round
            case rel => exact ⟨k + 1, L + 1, by omega, by omega, by go_num, by go_num, by omega, by omega, hn⟩
            case measure => simp [RowKit.intOf]; omega
          · have b400 : (k % 400 == 0) = false := by simpa using h400
            have hn : Hid (L = la (k + 1) - la 1900) := by
              show L = _
              have a4 := h4; have a100 := h100; have a400 := h400
              have := hp.out; have := hs.out; have := hL.out; omega
            clear hL hs hp
            go_wp2
            go_round
            case rel => exact ⟨k + 1, L, by omega, by omega, by go_num, rfl, by omega, by omega, hn⟩
            case measure => simp [RowKit.intOf]; omega
        · have b100 : (k % 100 == 0) = false := by simpa using h100
          have b100' : (k % 100 != 0) = true := by simpa using h100
          have hn : Hid (L + 1 = la (k + 1) - la 1900) := by
            show L + 1 = _
            have a4 := h4; have a100 := h100
            have := hp.out; have := hs.out; have := hL.out; omega
          clear hL hs hp
          go_wp2
          go_round
          case rel => exact ⟨k + 1, L + 1, by omega, by omega, by go_num, by go_num, by omega, by omega, hn⟩
          case measure => simp [RowKit.intOf]; omega
      · have b4 : (k % 4 == 0) = false := by simpa using h4
        have hn : Hid (L = la (k + 1) - la 1900) := by
          show L = _
          have a4 := h4
          have := hp.out; have := hs.out; have := hL.out; omega
        clear hL hs hp
        go_wp2
        go_round
        case rel => exact ⟨k + 1, L, by omega, by omega, by go_num, rfl, by omega, by omega, hn⟩
        case measure => simp [RowKit.intOf]; omega
    · obtain rfl : k = Y := by omega
      go_wp2
      go_ret
      exact ⟨ret_int hL.out, rfl⟩
theorem first_c (Y : Int) (w : World) (h1 : 1900 ≤ Y) (h2 : Y ≤ 2201) :
    Calls Tryd.prog 15 #[.int .i64 Y] w fun e w' => e = .returned (.int .i64 (st Y)) ∧ w' = w := by
  have hb := la_bd Y h1 h2
  have h0 := la_bd 1900 (by omega) (by omega)
  have hs := st_before Y
  obtain ⟨L, hL⟩ : ∃ L, la Y - la 1900 = L := ⟨_, rfl⟩
  rw [hL] at hs
  have b1 : -300 ≤ L ∧ L ≤ 300 := by omega
  obtain ⟨b1, b2⟩ := b1
  clear hb h0
  replace hL := show Hid _ from hL
  have hs' : Hid (-25567 + 365 * (Y - 1900) + L = st Y) := by show -25567 + 365 * (Y - 1900) + L = st Y; omega
  clear hs
  go_enter Tryd.func15, Tryd.ntmps15
  go_wp2_with fail
  refine (longs_c _ _ h1 h2).mono ?_
  rw [hL.out]
  rintro e w1 ⟨rfl, rfl⟩
  go_wp2
  go_ret
  exact ⟨ret_int hs'.out, rfl⟩
end Go.Proofs.YtkjdhefmhooplaaDoor
