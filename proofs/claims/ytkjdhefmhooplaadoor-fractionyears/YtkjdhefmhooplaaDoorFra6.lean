/- The document's own Parts, One and Between of layer 6, as contracts: no statement of the seat is proved here. -/
import Derived.Test.YtkjdhefmhooplaaDoorFra5
namespace Go.Proofs.YtkjdhefmhooplaaDoor
open Go.RowKit
set_option linter.unusedVariables false

theorem rParts_c (c : Int) (w : World) :
    Calls Tryd.prog 9 #[.int .i64 c] w fun e w' => e = .returned (.tuple #[.int .i64 (ptA c), .int .i64 (ptE c)]) ∧ w' = w := by
  by_cases h1 : c = 1
  · subst h1
    go_enter Tryd.func9, Tryd.ntmps9
    go_wp2
    go_ret2
    exact ⟨rfl, rfl⟩
  · by_cases h2 : c = 2
    · subst h2
      go_enter Tryd.func9, Tryd.ntmps9
      go_wp2
      go_ret2
      exact ⟨rfl, rfl⟩
    · by_cases h3 : c = 3
      · subst h3
        go_enter Tryd.func9, Tryd.ntmps9
        go_wp2
        go_ret2
        exact ⟨rfl, rfl⟩
      · have e := pt_no (c := c) (by omega)
        rw [e.1, e.2]
        clear e
        go_enter Tryd.func9, Tryd.ntmps9
        go_wp2
        go_ret2
        exact ⟨rfl, rfl⟩
theorem rthirty_c (n : Int) (w : World) (h1 : -25567 ≤ n) (h2 : n ≤ 84370) :
    Calls Tryd.prog 24 #[.int .i64 n] w fun e w' => e = .returned (.int .i64 (plT n)) ∧ Ext w w' := by
  obtain ⟨y1, y2, s1, s2⟩ := yOf_sp n h1 h2
  have hv := (ofDay n h1 h2).1
  have m1 := hv.m1; have m2 := hv.m2; have d1 := hv.d1; have d2 := hv.d31
  clear hv s1 s2
  have hp : plT n = 360 * yOf n + 30 * mOf n + (if dOf n ≤ 30 then dOf n else 30) := rfl
  obtain ⟨y, hy⟩ : ∃ y, yOf n = y := ⟨_, rfl⟩
  obtain ⟨m, hm⟩ : ∃ m, mOf n = m := ⟨_, rfl⟩
  obtain ⟨d, hd⟩ : ∃ d, dOf n = d := ⟨_, rfl⟩
  have hc : Hid (∀ W, Calls Tryd.prog 25 #[.int .i64 n] W fun e w' => e = .returned (.tuple #[.agg #[.int .i64 y, .int .i64 m, .int .i64 d], .int .i64 0]) ∧ Ext W w') := fun W => by
    have := rDate_f n W h1 h2
    rw [hy, hm, hd] at this; exact this
  rw [hp, hy, hm, hd]
  rw [hy] at y1 y2; rw [hm] at m1 m2; rw [hd] at d1 d2
  clear hp hy hm hd
  by_cases h30 : d ≤ 30
  · go_enter Tryd.func24, Tryd.ntmps24
    go_wp2_with fail
    refine (hc.out _).mono ?_
    rintro e w1 ⟨rfl, hx⟩
    replace hx := show Hid _ from hx
    go_wp2
    go_ret
    exact ⟨ret_int (by simp), hx.out.alloc _ _⟩
  · go_enter Tryd.func24, Tryd.ntmps24
    go_wp2_with fail
    refine (hc.out _).mono ?_
    rintro e w1 ⟨rfl, hx⟩
    replace hx := show Hid _ from hx
    go_wp2
    go_ret
    exact ⟨ret_int (by simp), hx.out.alloc _ _⟩
theorem One_c (c n : Int) (w : World) (k1 : 1 ≤ c) (k2 : c ≤ 3) (h1 : -25567 ≤ n) (h2 : n + 1 ≤ 84370) :
    Calls Tryd.prog 14 #[.int .i64 c, .int .i64 n] w fun e w' => e = .returned (.int .i64 (oneP c n)) ∧ Ext w w' := by
  obtain ⟨y, hy⟩ : ∃ y, yOf n = y := ⟨_, rfl⟩
  obtain ⟨m, hm⟩ : ∃ m, mOf n = m := ⟨_, rfl⟩
  obtain ⟨d, hd⟩ : ∃ d, dOf n = d := ⟨_, rfl⟩
  have hc : Hid (∀ W, Calls Tryd.prog 25 #[.int .i64 n] W fun e w' => e = .returned (.tuple #[.agg #[.int .i64 y, .int .i64 m, .int .i64 d], .int .i64 0]) ∧ Ext W w') := fun W => by
    have := rDate_f n W h1 (by omega)
    rw [hy, hm, hd] at this; exact this
  rcases (by omega : c = 1 ∨ c = 2 ∨ c = 3) with e | e | e <;> subst e
  · have e : oneP 1 n = plT (n + 1) - plT n := rfl
    have b1 := plT_bd h1 (by omega : n ≤ 84370)
    have b2 := plT_bd (by omega : -25567 ≤ n + 1) h2
    obtain ⟨x, hX⟩ : ∃ x, plT n = x := ⟨_, rfl⟩
    obtain ⟨z, hZ⟩ : ∃ z, plT (n + 1) = z := ⟨_, rfl⟩
    rw [e, hX, hZ]
    rw [hX] at b1; rw [hZ] at b2
    obtain ⟨b1, b3⟩ := b1
    obtain ⟨b2, b4⟩ := b2
    replace hX := show Hid _ from hX
    replace hZ := show Hid _ from hZ
    clear e hy hm hd
    go_enter Tryd.func14, Tryd.ntmps14
    go_wp2_with fail
    refine (hc.out _).mono ?_
    rintro e w1 ⟨rfl, hx⟩
    replace hx := show Hid _ from hx
    go_wp2_with fail
    refine (rthirty_c _ _ (by omega) (by omega)).mono ?_
    rw [hZ.out]
    rintro e w2 ⟨rfl, hx2⟩
    replace hx : Hid (Ext w w2) := (hx.out.alloc _ _).trans hx2
    clear hx2
    go_wp2_with fail
    refine (rthirty_c _ _ (by omega) (by omega)).mono ?_
    rw [hX.out]
    rintro e w3 ⟨rfl, hx2⟩
    replace hx : Hid (Ext w w3) := hx.out.trans hx2
    clear hx2
    go_wp2
    go_ret
    exact ⟨rfl, hx.out⟩
  · clear hy hm hd
    go_enter Tryd.func14, Tryd.ntmps14
    go_wp2_with fail
    refine (hc.out _).mono ?_
    rintro e w1 ⟨rfl, hx⟩
    replace hx := show Hid _ from hx
    go_wp2
    go_ret
    exact ⟨rfl, hx.out.alloc _ _⟩
  · have e : oneP 3 n = dpt (yOf n) := rfl
    rw [e, hy]
    clear e hy hm hd
    go_enter Tryd.func14, Tryd.ntmps14
    go_wp2_with fail
    refine (hc.out _).mono ?_
    rintro e w1 ⟨rfl, hx⟩
    replace hx := show Hid _ from hx
    go_wp2_with fail
    refine (rLong_c _ _).mono ?_
    rintro e w2 ⟨rfl, rfl⟩
    cases hl : lng y
    · have hd : dpt y = 366 := by unfold dpt; rw [hl]; rfl
      go_wp2
      go_ret
      exact ⟨ret_int hd.symm, hx.out.alloc _ _⟩
    · have hd : dpt y = 365 := by unfold dpt; rw [hl]; rfl
      go_wp2
      go_ret
      exact ⟨ret_int hd.symm, hx.out.alloc _ _⟩
end Go.Proofs.YtkjdhefmhooplaaDoor
