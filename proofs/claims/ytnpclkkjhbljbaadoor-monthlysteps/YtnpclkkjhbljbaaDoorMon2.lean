/- The method add of package monthly's date, as a contract: no statement of the seat is proved here. -/
import Derived.Test.YtnpclkkjhbljbaaDoorMon1
namespace Go.Proofs.YtnpclkkjhbljbaaDoor
open Go.RowKit
set_option linter.unusedVariables false

theorem dadd_lo (y m d k : Int) (w : World) (hv : Vld y m d) (hk : I64 k) (h : mi y m + k < 0) :
    Calls Tryd.prog 16 #[.agg #[.int .i64 y, .int .i64 m, .int .i64 d], .int .i64 k] w fun e w' => e = .returned (.tuple #[.int .i64 0, .int .i64 5]) ∧ Ext w w' := by
  have hmo : Hid (∀ w, Calls Tryd.prog 28 #[.agg #[.int .i64 y, .int .i64 m, .int .i64 d]] w fun e w' => e = .returned (.int .i64 (mi y m)) ∧ Ext w w') := fun w => dmonth_c y m d w hv.y1 hv.y2 hv.m1 hv.m2
  obtain ⟨b1, b2⟩ := mi_bd hv
  obtain ⟨k1, k2⟩ := hk
  generalize mi y m = M at *
  clear hv
  have e1 : decide (k < -M) = true := decide_eq_true (by omega)
  go_enter Tryd.func16, Tryd.ntmps16
  go_wp2_with fail
  obtain ⟨W0, b, hW0, hb, hx, k0, k1, k2⟩ := box3 w (.int .i64 y) (.int .i64 m) (.int .i64 d) 39
  rw [hW0, hb]
  clear hW0 hb
  replace hx := show Hid _ from hx
  refine (hmo.out _).mono ?_
  rintro e w1 ⟨rfl, hx1⟩
  replace hx : Hid (Ext w w1) := hx.out.trans hx1
  clear hx1
  go_wp2
  go_ret2
  exact ⟨rfl, hx.out⟩
theorem dadd_hi (y m d k : Int) (w : World) (hv : Vld y m d) (hk : I64 k) (h : 3611 < mi y m + k) :
    Calls Tryd.prog 16 #[.agg #[.int .i64 y, .int .i64 m, .int .i64 d], .int .i64 k] w fun e w' => e = .returned (.tuple #[.int .i64 0, .int .i64 5]) ∧ Ext w w' := by
  have hmo : Hid (∀ w, Calls Tryd.prog 28 #[.agg #[.int .i64 y, .int .i64 m, .int .i64 d]] w fun e w' => e = .returned (.int .i64 (mi y m)) ∧ Ext w w') := fun w => dmonth_c y m d w hv.y1 hv.y2 hv.m1 hv.m2
  obtain ⟨b1, b2⟩ := mi_bd hv
  obtain ⟨k1, k2⟩ := hk
  generalize mi y m = M at *
  clear hv
  have e1 : decide (k < -M) = false := decide_eq_false (by omega)
  have e2 : decide (3611 - M < k) = true := decide_eq_true (by omega)
  go_enter Tryd.func16, Tryd.ntmps16
  go_wp2_with fail
  obtain ⟨W0, b, hW0, hb, hx, k0, k1, k2⟩ := box3 w (.int .i64 y) (.int .i64 m) (.int .i64 d) 39
  rw [hW0, hb]
  clear hW0 hb
  replace hx := show Hid _ from hx
  refine (hmo.out _).mono ?_
  rintro e w1 ⟨rfl, hx1⟩
  replace k0 := hx1.cell_of k0; replace k1 := hx1.cell_of k1; replace k2 := hx1.cell_of k2
  replace hx : Hid (Ext w w1) := hx.out.trans hx1
  clear hx1
  go_wp2_with fail
  refine (hmo.out _).mono ?_
  rintro e w2 ⟨rfl, hx1⟩
  replace hx : Hid (Ext w w2) := hx.out.trans hx1
  clear hx1
  go_wp2
  go_ret2
  exact ⟨rfl, hx.out⟩
theorem dadd_ok (y m d k : Int) (w : World) (hv : Vld y m d) (hk : I64 k) (h1 : 0 ≤ mi y m + k) (h2 : mi y m + k ≤ 3611) (he : Hid (Env w)) :
    Calls Tryd.prog 16 #[.agg #[.int .i64 y, .int .i64 m, .int .i64 d], .int .i64 k] w
      fun e w' => e = .returned (.tuple #[.int .i64 (num (yO (mi y m + k)) (mO (mi y m + k)) (dO (mi y m + k) d)), .int .i64 0]) ∧ Ext w w' := by
  have he0 := he
  have hmo : Hid (∀ w, Calls Tryd.prog 28 #[.agg #[.int .i64 y, .int .i64 m, .int .i64 d]] w fun e w' => e = .returned (.int .i64 (mi y m)) ∧ Ext w w') := fun w => dmonth_c y m d w hv.y1 hv.y2 hv.m1 hv.m2
  have hV := show Hid _ from O_vld (mi y m + k) d h1 h2 hv.d1
  obtain ⟨b1, b2⟩ := mi_bd hv
  obtain ⟨k1, k2⟩ := hk
  have d1 := hv.d1; have d2 := hv.d31
  generalize mi y m = M at *
  clear hv
  have e1 : decide (k < -M) = false := decide_eq_false (by omega)
  have e2 : decide (3611 - M < k) = false := decide_eq_false (by omega)
  go_enter Tryd.func16, Tryd.ntmps16
  go_wp2_with fail
  obtain ⟨W0, b, hW0, hb, hx, k0, k1, k2⟩ := box3 w (.int .i64 y) (.int .i64 m) (.int .i64 d) 39
  rw [hW0, hb]
  clear hW0 hb
  replace he : Hid (Env W0) := he.out.ext hx
  replace hx := show Hid _ from hx
  refine (hmo.out _).mono ?_
  rintro e w1 ⟨rfl, hx1⟩
  replace k0 := hx1.cell_of k0; replace k1 := hx1.cell_of k1; replace k2 := hx1.cell_of k2
  replace he : Hid (Env w1) := he.out.ext hx1
  replace hx : Hid (Ext w w1) := hx.out.trans hx1
  clear hx1
  go_wp2_with fail
  refine (hmo.out _).mono ?_
  rintro e w2 ⟨rfl, hx1⟩
  replace k0 := hx1.cell_of k0; replace k1 := hx1.cell_of k1; replace k2 := hx1.cell_of k2
  replace he : Hid (Env w2) := he.out.ext hx1
  replace hx : Hid (Ext w w2) := hx.out.trans hx1
  clear hx1
  go_wp2_with fail
  refine (hmo.out _).mono ?_
  rintro e w3 ⟨rfl, hx1⟩
  replace k0 := hx1.cell_of k0; replace k1 := hx1.cell_of k1; replace k2 := hx1.cell_of k2
  replace he : Hid (Env w3) := he.out.ext hx1
  replace hx : Hid (Ext w w3) := hx.out.trans hx1
  clear hx1 hmo
  go_wp2_with fail
  obtain ⟨W1, c, hW1, hc, hxb, j0, j1, j2, f0, f1, f2⟩ := box3f w3 (.int .i64 (1900 + (M + k) / 12)) (.int .i64 ((M + k) % 12 + 1)) (.int .i64 0) 33
  rw [hW1, hc]
  have lo : w.heap.size ≤ c := by have := hx.out.size; omega
  clear hW1 hc
  replace k0 := hxb.cell_of k0; replace k1 := hxb.cell_of k1; replace k2 := hxb.cell_of k2
  replace he : Hid (Env W1) := he.out.ext hxb
  replace hx : Hid (Ext w W1) := hx.out.trans hxb
  clear hxb
  refine wp_region_tail 8 (by kernel_rfl) (by kernel_rfl) ?_
  intro W2 hxb
  replace k0 := hxb.cell_of k0; replace k1 := hxb.cell_of k1; replace k2 := hxb.cell_of k2
  replace f0 := hxb.froz_of j0 f0; replace f1 := hxb.froz_of j1 f1; replace f2 := hxb.froz_of j2 f2
  replace j0 := hxb.cell_of j0; replace j1 := hxb.cell_of j1; replace j2 := hxb.cell_of j2
  replace he : Hid (Env W2) := he.out.ext hxb
  replace hx : Hid (Ext w W2) := hx.out.trans hxb
  clear hxb
  simp only [List.take_succ_cons, List.take_zero, List.drop_succ_cons, List.drop_zero]
  still_step
  still_step
  still_step
  still_step
  still_step
  still_step
  still_call (Month_c _ _ _ (by unfold I64; omega) he)
  still_step
  refine wpStill_nil ?_
  have hV2 : Hid (Vld (1900 + (M + k) / 12) ((M + k) % 12 + 1) (if dim (1900 + (M + k) / 12) ((M + k) % 12 + 1) < d then dim (1900 + (M + k) / 12) ((M + k) % 12 + 1) else d)) := hV
  obtain ⟨D, hD⟩ : ∃ D, (if dim (1900 + (M + k) / 12) ((M + k) % 12 + 1) < d then dim (1900 + (M + k) / 12) ((M + k) % 12 + 1) else d) = D := ⟨_, rfl⟩
  rw [hD]
  rw [hD] at hV2
  have hD' : Hid (dO (M + k) d = D) := hD
  clear hD hV
  have lo' : Hid (Ext w (W2.setCell ⟨c, 2, none⟩ (.int .i64 D))) := hx.out.setCell lo _
  have he' : Hid (Env (W2.setCell ⟨c, 2, none⟩ (.int .i64 D))) := he0.out.ext lo'.out
  go_wp2_with fail
  refine (Number_ok _ _ _ _ hV2.out he').mono ?_
  rintro e w4 ⟨rfl, hx1⟩
  replace lo' : Hid (Ext w w4) := lo'.out.trans hx1
  clear hx1
  go_wp2
  go_ret2
  exact ⟨by rw [hD'.out]; rfl, lo'.out⟩
/-- What add answers, whatever the months. -/
theorem dadd_c (n k : Int) (w : World) (n1 : -25567 ≤ n) (n2 : n ≤ 84370) (hk : I64 k) (he : Hid (Env w)) :
    Calls Tryd.prog 16 #[.agg #[.int .i64 (yOf n), .int .i64 (mOf n), .int .i64 (dOf n)], .int .i64 k] w fun e w' => e = .returned (.tuple #[.int .i64 (nA n k), .int .i64 (nE n k)]) ∧ Ext w w' := by
  obtain ⟨hv, hn⟩ := ofDay n n1 n2
  by_cases h1 : mi (yOf n) (mOf n) + k < 0
  · have no : ¬ Has n k := fun h => by have := h.t1; omega
    rw [nA_no no, nE_no no]
    exact dadd_lo _ _ _ k w hv hk h1
  · by_cases h2 : 3611 < mi (yOf n) (mOf n) + k
    · have no : ¬ Has n k := fun h => by have := h.t2; omega
      rw [nA_no no, nE_no no]
      exact dadd_hi _ _ _ k w hv hk h2
    · have ok : Has n k := ⟨n1, n2, by omega, by omega⟩
      rw [nA_ok ok, nE_ok ok]
      exact dadd_ok _ _ _ k w hv hk (by omega) (by omega) he
theorem Add_c (n k : Int) (w : World) (hk : Hid (I64 k)) (he : Hid (Env w)) :
    Calls Tryd.prog 7 #[.int .i64 n, .int .i64 k] w fun e w' => e = .returned (.tuple #[.int .i64 (nA n k), .int .i64 (nE n k)]) ∧ Ext w w' := by
  by_cases hn : -25567 ≤ n ∧ n ≤ 84370
  · have n1 := hn.1; have n2 := hn.2
    have hD : Hid (∀ w : World, Hid (Env w) → Calls Tryd.prog 15 #[.int .i64 n] w fun e w' => e = .returned (.tuple #[.agg #[.int .i64 (yOf n), .int .i64 (mOf n), .int .i64 (dOf n)], .int .i64 0]) ∧ Ext w w') := fun w he => Date_f n w n1 n2 he
    have hA : Hid (∀ w : World, Hid (Env w) → Calls Tryd.prog 16 #[.agg #[.int .i64 (yOf n), .int .i64 (mOf n), .int .i64 (dOf n)], .int .i64 k] w fun e w' => e = .returned (.tuple #[.int .i64 (nA n k), .int .i64 (nE n k)]) ∧ Ext w w') := fun w he => dadd_c n k w n1 n2 hk.out he
    generalize nA n k = A at *
    generalize nE n k = E at *
    generalize yOf n = y at *
    generalize mOf n = m at *
    generalize dOf n = d at *
    clear hn n1 n2
    go_enter Tryd.func7, Tryd.ntmps7
    go_wp2_with fail
    refine (hD.out _ he).mono ?_
    rintro e w1 ⟨rfl, hx1⟩
    replace he : Hid (Env w1) := he.out.ext hx1
    have hx := show Hid (Ext w w1) from hx1
    clear hx1 hD
    go_wp2_with fail
    obtain ⟨W0, b, hW0, hb, hxb, k0, k1, k2⟩ := box3 w1 (.int .i64 y) (.int .i64 m) (.int .i64 d) 33
    rw [hW0, hb]
    clear hW0 hb
    replace he : Hid (Env W0) := he.out.ext hxb
    replace hx : Hid (Ext w W0) := hx.out.trans hxb
    clear hxb
    refine (hA.out _ he).mono ?_
    rintro e w2 ⟨rfl, hx1⟩
    replace hx : Hid (Ext w w2) := hx.out.trans hx1
    clear hx1 hA
    go_wp2
    go_ret2
    exact ⟨rfl, hx.out⟩
  · have no : ¬ Has n k := fun h => hn ⟨h.n1, h.n2⟩
    rw [nA_no no, nE_no no]
    have hn' : Hid (n < -25567 ∨ 84370 < n) := by show n < -25567 ∨ 84370 < n; omega
    clear hn no
    go_enter Tryd.func7, Tryd.ntmps7
    go_wp2_with fail
    refine (Date_no n _ hn'.out).mono ?_
    rintro e w1 ⟨rfl, hx1⟩
    have hx := show Hid (Ext w w1) from hx1
    clear hx1
    go_wp2
    go_ret2
    exact ⟨rfl, hx.out.trans ((Ext.refl _).alloc _ _)⟩
end Go.Proofs.YtnpclkkjhbljbaaDoor
