/- The document's own Add, and awake, as contracts: no statement of the seat is proved here. -/
import Derived.Test.YtnpclkkjhbljbaaDoorMon2
namespace Go.Proofs.YtnpclkkjhbljbaaDoor
open Go.RowKit
set_option linter.unusedVariables false

theorem rO (y m k : Int) : (12 * y + m - 1 + k) / 12 = yO (mi y m + k) ∧ (12 * y + m - 1 + k) % 12 + 1 = mO (mi y m + k) := by unfold yO mO mi; omega
/-- The document's Add, from a date on, where there is an answer. -/
theorem rAdd_ok (n k : Int) (w : World) (h : Has n k) (hk : I64 k) (he : Hid (Env w)) :
    Calls Tryd.prog 8 #[.int .i64 n, .int .i64 k] w fun e w' => e = .returned (.tuple #[.int .i64 (nA n k), .int .i64 (nE n k)]) ∧ Ext w w' := by
  have n1 := h.n1; have n2 := h.n2
  obtain ⟨hv, hn⟩ := ofDay n n1 n2
  have hD : Hid (∀ w : World, Calls Tryd.prog 13 #[.int .i64 n] w fun e w' => e = .returned (.tuple #[.agg #[.int .i64 (yOf n), .int .i64 (mOf n), .int .i64 (dOf n)], .int .i64 0]) ∧ Ext w w') := fun w => rDate_f n w n1 n2
  have hV := O_vld _ _ h.t1 h.t2 hv.d1
  have t1 := h.t1; have t2 := h.t2
  obtain ⟨b1, b2⟩ := mi_bd hv
  rw [nA_ok h, nE_ok h]
  have y1 := hv.y1; have y2 := hv.y2; have m1 := hv.m1; have m2 := hv.m2; have d1 := hv.d1; have d2 := hv.d31
  have hr := rO (yOf n) (mOf n) k
  have hm : mi (yOf n) (mOf n) = (yOf n - 1900) * 12 + mOf n - 1 := rfl
  have hdO : dO (mi (yOf n) (mOf n) + k) (dOf n) = if dim (yO (mi (yOf n) (mOf n) + k)) (mO (mi (yOf n) (mOf n) + k)) < dOf n then dim (yO (mi (yOf n) (mOf n) + k)) (mO (mi (yOf n) (mOf n) + k)) else dOf n := rfl
  rw [hdO] at hV ⊢
  clear hdO
  rw [← hr.1, ← hr.2] at hV ⊢
  clear hr hn hv h
  generalize yOf n = y at *
  generalize mOf n = m at *
  generalize dOf n = d at *
  rw [hm] at t1 t2 b1 b2
  clear hm
  have e1 : decide (k < -4000) = false := decide_eq_false (by omega)
  have e2 : decide (4000 < k) = false := decide_eq_false (by omega)
  have e3 : decide (12 * y + m - 1 + k < 22800) = false := decide_eq_false (by omega)
  have e4 : decide (26412 ≤ 12 * y + m - 1 + k) = false := decide_eq_false (by omega)
  replace hV := show Hid _ from hV
  go_enter Tryd.func8, Tryd.ntmps8
  go_wp2_with fail
  refine (hD.out _).mono ?_
  rintro e w1 ⟨rfl, hx1⟩
  replace he : Hid (Env w1) := he.out.ext hx1
  have hx := show Hid (Ext w w1) from hx1
  clear hx1 hD
  go_wp2_with fail
  obtain ⟨W0, b, hW0, hb, hxb, k0, k1, k2⟩ := box3 w1 (.int .i64 y) (.int .i64 m) (.int .i64 d) 33
  rw [hW0, hb]
  clear hW0 hb
  replace he : Hid (Env W0) := he.out.ext hxb
  replace hx : Hid (Ext w W0) := hx.out.trans hxb
  clear hxb
  have hm2 : Hid (I64 ((12 * y + m - 1 + k) % 12 + 1)) := by show I64 _; unfold I64; omega
  have j2 := Late.cell k2
  have hE : Hid (∀ s : Late W0, Hid (Env s.to)) := fun s => he.out.ext s.ext
  have hNe1 : Nonempty (Late W0) := ⟨⟨_, Ext.refl _⟩⟩
  refine wp_region_late (by kernel_rfl) (by kernel_rfl) ?_
  repeat (go_big_quiet_step ((first
    | (go_at_call 14; exact late_same (rMonth_c _ _ _ hm2.out))
    | (go_at_call 17; exact late_of (rNumber_ok _ _ _ _ hV.out (hE.out _))))))
  refine wpQuiet_nil ?_
  intro W1 hw'
  have hx1 := late_ext hw'
  clear hw'
  go_wp2
  all_goals (go_ret2; exact ⟨rfl, hx.out.trans hx1⟩)
theorem rAdd_far (n k : Int) (w : World) (n1 : -25567 ≤ n) (n2 : n ≤ 84370) (h : k < -4000 ∨ 4000 < k) (hk : I64 k) :
    Calls Tryd.prog 8 #[.int .i64 n, .int .i64 k] w fun e w' => e = .returned (.tuple #[.int .i64 0, .int .i64 5]) ∧ Ext w w' := by
  have hD : Hid (∀ w : World, Calls Tryd.prog 13 #[.int .i64 n] w fun e w' => e = .returned (.tuple #[.agg #[.int .i64 (yOf n), .int .i64 (mOf n), .int .i64 (dOf n)], .int .i64 0]) ∧ Ext w w') := fun w => rDate_f n w n1 n2
  obtain ⟨k1, k2⟩ := hk
  generalize yOf n = y at *
  generalize mOf n = m at *
  generalize dOf n = d at *
  rcases h with h | h
  · have e1 : decide (k < -4000) = true := decide_eq_true h
    go_enter Tryd.func8, Tryd.ntmps8
    go_wp2_with fail
    refine (hD.out _).mono ?_
    rintro e w1 ⟨rfl, hx1⟩
    have hx := show Hid (Ext w w1) from hx1
    clear hx1 hD
    go_wp2
    go_ret2
    exact ⟨rfl, hx.out.trans ((Ext.refl _).alloc _ _)⟩
  · have e1 : decide (k < -4000) = false := decide_eq_false (by omega)
    have e2 : decide (4000 < k) = true := decide_eq_true h
    go_enter Tryd.func8, Tryd.ntmps8
    go_wp2_with fail
    refine (hD.out _).mono ?_
    rintro e w1 ⟨rfl, hx1⟩
    have hx := show Hid (Ext w w1) from hx1
    clear hx1 hD
    go_wp2
    go_ret2
    exact ⟨rfl, hx.out.trans ((Ext.refl _).alloc _ _)⟩
theorem rAdd_out (n k : Int) (w : World) (n1 : -25567 ≤ n) (n2 : n ≤ 84370) (h1 : -4000 ≤ k) (h2 : k ≤ 4000) (h : mi (yOf n) (mOf n) + k < 0 ∨ 3611 < mi (yOf n) (mOf n) + k) :
    Calls Tryd.prog 8 #[.int .i64 n, .int .i64 k] w fun e w' => e = .returned (.tuple #[.int .i64 0, .int .i64 5]) ∧ Ext w w' := by
  have hD : Hid (∀ w : World, Calls Tryd.prog 13 #[.int .i64 n] w fun e w' => e = .returned (.tuple #[.agg #[.int .i64 (yOf n), .int .i64 (mOf n), .int .i64 (dOf n)], .int .i64 0]) ∧ Ext w w') := fun w => rDate_f n w n1 n2
  obtain ⟨hv, hn⟩ := ofDay n n1 n2
  have y1 := hv.y1; have y2 := hv.y2; have m1 := hv.m1; have m2 := hv.m2
  clear hv hn
  unfold mi at h
  generalize yOf n = y at *
  generalize mOf n = m at *
  generalize dOf n = d at *
  have e1 : decide (k < -4000) = false := decide_eq_false (by omega)
  have e2 : decide (4000 < k) = false := decide_eq_false (by omega)
  rcases h with h | h
  · have e3 : decide (12 * y + m - 1 + k < 22800) = true := decide_eq_true (by omega)
    go_enter Tryd.func8, Tryd.ntmps8
    go_wp2_with fail
    refine (hD.out _).mono ?_
    rintro e w1 ⟨rfl, hx1⟩
    have hx := show Hid (Ext w w1) from hx1
    clear hx1 hD
    go_wp2
    go_ret2
    exact ⟨rfl, hx.out.trans ((Ext.refl _).alloc _ _)⟩
  · have e3 : decide (12 * y + m - 1 + k < 22800) = false := decide_eq_false (by omega)
    have e4 : decide (26412 ≤ 12 * y + m - 1 + k) = true := decide_eq_true (by omega)
    go_enter Tryd.func8, Tryd.ntmps8
    go_wp2_with fail
    refine (hD.out _).mono ?_
    rintro e w1 ⟨rfl, hx1⟩
    have hx := show Hid (Ext w w1) from hx1
    clear hx1 hD
    go_wp2
    go_ret2
    exact ⟨rfl, hx.out.trans ((Ext.refl _).alloc _ _)⟩
theorem rAdd_day (n k : Int) (w : World) (h : n < -25567 ∨ 84370 < n) :
    Calls Tryd.prog 8 #[.int .i64 n, .int .i64 k] w fun e w' => e = .returned (.tuple #[.int .i64 0, .int .i64 5]) ∧ Ext w w' := by
  replace h := show Hid _ from h
  go_enter Tryd.func8, Tryd.ntmps8
  go_wp2_with fail
  refine (rDate_no n _ h.out).mono ?_
  rintro e w1 ⟨rfl, hx1⟩
  have hx := show Hid (Ext w w1) from hx1
  clear hx1
  go_wp2
  go_ret2
  exact ⟨rfl, hx.out.trans ((Ext.refl _).alloc _ _)⟩
theorem rAdd_c (n k : Int) (w : World) (hk : Hid (I64 k)) (he : Hid (Env w)) :
    Calls Tryd.prog 8 #[.int .i64 n, .int .i64 k] w fun e w' => e = .returned (.tuple #[.int .i64 (nA n k), .int .i64 (nE n k)]) ∧ Ext w w' := by
  by_cases h : Has n k
  · exact rAdd_ok n k w h hk.out he
  · rw [nA_no h, nE_no h]
    by_cases hn : n < -25567 ∨ 84370 < n
    · exact rAdd_day n k w hn
    · by_cases hf : k < -4000 ∨ 4000 < k
      · exact rAdd_far n k w (by omega) (by omega) hf hk.out
      · refine rAdd_out n k w (by omega) (by omega) (by omega) (by omega) ?_
        rcases Int.lt_or_le (mi (yOf n) (mOf n) + k) 0 with a | a
        · exact Or.inl a
        · rcases Int.lt_or_le 3611 (mi (yOf n) (mOf n) + k) with b | b
          · exact Or.inr b
          · exact absurd ⟨by omega, by omega, a, b⟩ h
theorem nA_awake : nA 19753 1 = 19782 ∧ nE 19753 1 = 0 := by decide
theorem awake_c (w : World) (he : Hid (Env w)) :
    Calls Tryd.prog 11 #[] w fun e w' => e = .returned (.bool true) ∧ Ext w w' := by
  have hA : Hid (∀ w : World, Hid (Env w) → Calls Tryd.prog 7 #[.int .i64 19753, .int .i64 1] w fun e w' => e = .returned (.tuple #[.int .i64 19782, .int .i64 0]) ∧ Ext w w') := fun w he => by
    have := Add_c 19753 1 w (by show I64 1; unfold I64; omega) he
    rwa [nA_awake.1, nA_awake.2] at this
  go_enter Tryd.func11, Tryd.ntmps11
  go_wp2_with fail
  refine (hA.out _ he).mono ?_
  rintro e w1 ⟨rfl, hx1⟩
  have hx := show Hid (Ext w w1) from hx1
  clear hx1 hA
  go_wp2
  go_ret
  exact ⟨rfl, hx.out⟩
end Go.Proofs.YtnpclkkjhbljbaaDoor
