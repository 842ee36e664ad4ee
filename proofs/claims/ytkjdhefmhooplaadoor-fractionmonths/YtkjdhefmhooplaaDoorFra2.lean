/- The places of days by each count, which year a count has, and a day's place, as contracts: no statement of the seat is proved here. -/
import Derived.Test.YtkjdhefmhooplaaDoorFra1
import Derived.Deep.DeepCutAuto
import Derived.Laws.EntriesVeiled
namespace Go.Proofs.YtkjdhefmhooplaaDoor
open Go.RowKit
set_option linter.unusedVariables false

set_option maxHeartbeats 1000000 in
theorem actual_c (n y m d : Int) (w : World) (y1 : 1900 ≤ y) (y2 : y ≤ 2200) (h1 : st y ≤ n) (h2 : n < st (y + 1)) (he : Hid (Env w)) :
    Calls Tryd.prog 34 #[.int .i64 n, .agg #[.int .i64 y, .int .i64 m, .int .i64 d]] w fun e w' => e = .returned (.int .i64 (y * 133590 + (n - st y) * dpt y)) ∧ Ext w w' := by
  have sb := st_bd y y1 (by omega)
  obtain ⟨s1, s2⟩ := sb
  have hl := lp_01 y
  have hs := st_succ y
  have hv : Hid (Vld y 1 1) := vld_of y1 y2 (by omega) (by omega) (by omega) (by omega)
  have hnum : num y 1 1 = st y := num_11 y
  obtain ⟨k, hk⟩ : ∃ k, n - st y = k := ⟨_, rfl⟩
  have hkb : 0 ≤ k ∧ k ≤ 366 := by omega
  have hmb := mul_dpt k y hkb.1 hkb.2
  obtain ⟨S, hS⟩ : ∃ S, st y = S := ⟨_, rfl⟩
  obtain ⟨p, hp⟩ : ∃ p, k * dpt y = p := ⟨_, rfl⟩
  obtain ⟨D, hD⟩ : ∃ D, dpt y = D := ⟨_, rfl⟩
  have hd := dpt_lp y
  rw [hS] at hnum h1 hk s1 s2
  rw [hS, hk, hp]
  rw [hp] at hmb
  rw [hD] at hp hd
  have q1 : 0 ≤ D ∧ D ≤ 366 := by omega
  obtain ⟨p1, p2⟩ := hmb
  obtain ⟨b1, b2⟩ := hkb
  obtain ⟨q1, q2⟩ := q1
  have hnb : n ≤ 84738 := by omega
  clear hs hl hd h2
  replace hnum := show Hid _ from hnum
  replace hS := show Hid _ from hS
  replace hD := show Hid _ from hD
  go_enter Tryd.func34, Tryd.ntmps34
  go_upto_region 1 with fail
  obtain ⟨W0, b, hW0, hb, hx0, k0, k1, k2⟩ := box3 w (.int .i64 y) (.int .i64 m) (.int .i64 d) 37
  rw [hW0, hb]
  clear hW0 hb
  replace hx0 := show Hid _ from hx0
  replace he : Hid (Env W0) := he.out.ext hx0.out
  go_wp2_with fail
  refine (Number_ok _ _ _ _ hv.out he).mono ?_
  rintro e W1 ⟨rfl, hx1⟩
  rw [hnum.out]
  replace k0 := hx1.cell_of k0
  replace hx0 : Hid (Ext w W1) := hx0.out.trans hx1
  clear hx1 k1 k2
  go_wp2_with fail
  refine (sureI_ok _ _).mono ?_
  rintro e W1 ⟨rfl, rfl⟩
  go_wp2
  have j0 := Late.cell k0
  have hNe1 : Nonempty (Late W1) := ⟨⟨_, Ext.refl _⟩⟩
  refine wp_region_late (by kernel_rfl) (by kernel_rfl) ?_
  have hdp : Hid (∀ W : World, Calls Tryd.prog 42 #[.int .i64 y] W fun e w' => e = .returned (.int .i64 D) ∧ w' = W) := fun W => by
    have := dayParts_c y W
    rw [hD.out] at this; exact this
  repeat (go_big_quiet_step ((first
    | (go_at_call 42; exact late_same (hdp.out _)))))
  refine wpQuiet_nil ?_
  intro W2 hw'
  have hx2 := late_ext hw'
  clear hw' j0
  go_wp2
  go_ret
  exact ⟨ret_int (rfl), hx0.out.trans hx2⟩
/-- The function by which a count tells a day's place. -/
def fvOf (c : Int) : FuncId := if c = 1 then 32 else if c = 2 then 33 else 34
theorem yearOf_1 (w : World) :
    Calls Tryd.prog 20 #[.int .i64 1] w fun e w' => e = .returned (.agg #[.int .i64 360, .func (.func 32) #[] #[]]) ∧ Ext w w' := by
  go_enter Tryd.func20, Tryd.ntmps20
  go_wp2
  exact bodyPost_ret (v := .agg #[.int .i64 360, .func (.func 32) #[] #[]]) (by simp [results, Tryd.results20, go_sem]) rfl ⟨rfl, (Ext.refl _).alloc _ _⟩
theorem yearOf_2 (w : World) :
    Calls Tryd.prog 20 #[.int .i64 2] w fun e w' => e = .returned (.agg #[.int .i64 365, .func (.func 33) #[] #[]]) ∧ Ext w w' := by
  go_enter Tryd.func20, Tryd.ntmps20
  go_wp2
  exact bodyPost_ret (v := .agg #[.int .i64 365, .func (.func 33) #[] #[]]) (by simp [results, Tryd.results20, go_sem]) rfl ⟨rfl, (Ext.refl _).alloc _ _⟩
theorem yearOf_3 (w : World) :
    Calls Tryd.prog 20 #[.int .i64 3] w fun e w' => e = .returned (.agg #[.int .i64 133590, .func (.func 34) #[] #[]]) ∧ Ext w w' := by
  go_enter Tryd.func20, Tryd.ntmps20
  go_wp2
  exact bodyPost_ret (v := .agg #[.int .i64 133590, .func (.func 34) #[] #[]]) (by simp [results, Tryd.results20, go_sem]) rfl ⟨rfl, (Ext.refl _).alloc _ _⟩
theorem yearOf_ok (c : Int) (w : World) (h1 : 1 ≤ c) (h2 : c ≤ 3) :
    Calls Tryd.prog 20 #[.int .i64 c] w fun e w' => e = .returned (.agg #[.int .i64 (ptA c), .func (.func (fvOf c)) #[] #[]]) ∧ Ext w w' := by
  rcases (by omega : c = 1 ∨ c = 2 ∨ c = 3) with e | e | e <;> subst e
  · exact yearOf_1 w
  · exact yearOf_2 w
  · exact yearOf_3 w
theorem yearOf_no (c : Int) (w : World) (h : ¬ (1 ≤ c ∧ c ≤ 3)) :
    Calls Tryd.prog 20 #[.int .i64 c] w fun e w' => e = .panicked [{ v := .iface 23 (.int .i64 1), recovered := false }] ∧ Ext w w' := by
  have h1 : c ≠ 1 := by omega
  have h2 : c ≠ 2 := by omega
  have h3 : c ≠ 3 := by omega
  clear h
  go_enter Tryd.func20, Tryd.ntmps20
  go_wp2
  exact ⟨rfl, rfl, (Ext.refl _).alloc _ _⟩
theorem box2f (w : World) (x y : Value) (t : TypeId) : ∃ W b, w.alloc (.cells #[x, y] t) = W ∧ w.heap.size = b ∧ Ext w W ∧ W.cell? ⟨b, 0, none⟩ = some x ∧ W.cell? ⟨b, 1, none⟩ = some y ∧
    W.frozen? ⟨b, 0, none⟩ = false ∧ W.frozen? ⟨b, 1, none⟩ = false :=
  ⟨_, _, rfl, rfl, (Ext.refl w).alloc _ _, by simp [go_sem], by simp [go_sem], by simp [go_sem], by simp [go_sem]⟩
theorem thirty_p (n : Int) (w : World) (y1 : 1900 ≤ yOf n) (y2 : yOf n ≤ 2200) (m1 : 1 ≤ mOf n) (m2 : mOf n ≤ 12) (d1 : 1 ≤ dOf n) (d2 : dOf n ≤ 31) :
    Calls Tryd.prog 32 #[.int .i64 n, .agg #[.int .i64 (yOf n), .int .i64 (mOf n), .int .i64 (dOf n)]] w fun e w' => e = .returned (.int .i64 (plT n)) ∧ Ext w w' :=
  thirty_c n _ _ _ w y1 y2 m1 m2 d1 d2
theorem actual_p (n : Int) (w : World) (y1 : 1900 ≤ yOf n) (y2 : yOf n ≤ 2200) (h1 : st (yOf n) ≤ n) (h2 : n < st (yOf n + 1)) (he : Hid (Env w)) :
    Calls Tryd.prog 34 #[.int .i64 n, .agg #[.int .i64 (yOf n), .int .i64 (mOf n), .int .i64 (dOf n)]] w fun e w' => e = .returned (.int .i64 (plA n)) ∧ Ext w w' :=
  actual_c n _ _ _ w y1 y2 h1 h2 he
set_option maxHeartbeats 1000000 in
theorem at_1 (p n : Int) (w : World) (h1 : -25567 ≤ n) (h2 : n ≤ 84370) (he : Hid (Env w)) :
    Calls Tryd.prog 22 #[.agg #[.int .i64 p, .func (.func 32) #[] #[]], .int .i64 n] w fun e w' => e = .returned (.int .i64 (plT n)) ∧ Ext w w' := by
  obtain ⟨y1, y2, s1, s2⟩ := yOf_sp n h1 h2
  have hv := (ofDay n h1 h2).1
  have m1 := hv.m1; have m2 := hv.m2; have d1 := hv.d1; have d2 := hv.d31
  clear hv
  go_enter Tryd.func22, Tryd.ntmps22
  go_upto_region 1 with fail
  obtain ⟨W0, b, hW0, hb, hx0, k0, k1, z0, z1⟩ := box2f w (.int .i64 p) (.func (.func 32) #[] #[]) 41
  rw [hW0, hb]
  clear hW0 hb z0 z1
  replace hx0 := show Hid _ from hx0
  replace he : Hid (Env W0) := he.out.ext hx0.out
  go_wp2
  have j1 := Late.cell k1
  have hE : Hid (∀ s : Late W0, Hid (Env s.to)) := fun s => he.out.ext s.ext
  have hNe1 : Nonempty (Late W0) := ⟨⟨_, Ext.refl _⟩⟩
  refine wp_region_late (by kernel_rfl) (by kernel_rfl) ?_
  repeat (go_big_quiet_step ((first
    | (go_at_call 36; exact late_of (Date_f _ _ h1 h2 (hE.out _)))
    | (go_at_call 35; exact late_of (sureD_ok _ _ _ _))
    | (go_at_call 32; exact late_of (thirty_p _ _ y1 y2 m1 m2 d1 d2)))))
  refine wpQuiet_nil ?_
  intro W2 hw'
  have hx2 := late_ext hw'
  clear hw' j1
  go_wp2
  go_ret
  exact ⟨rfl, hx0.out.trans hx2⟩
set_option maxHeartbeats 1000000 in
theorem at_2 (p n : Int) (w : World) (h1 : -25567 ≤ n) (h2 : n ≤ 84370) (he : Hid (Env w)) :
    Calls Tryd.prog 22 #[.agg #[.int .i64 p, .func (.func 33) #[] #[]], .int .i64 n] w fun e w' => e = .returned (.int .i64 (n)) ∧ Ext w w' := by
  obtain ⟨y1, y2, s1, s2⟩ := yOf_sp n h1 h2
  have hv := (ofDay n h1 h2).1
  have m1 := hv.m1; have m2 := hv.m2; have d1 := hv.d1; have d2 := hv.d31
  clear hv
  go_enter Tryd.func22, Tryd.ntmps22
  go_upto_region 1 with fail
  obtain ⟨W0, b, hW0, hb, hx0, k0, k1, z0, z1⟩ := box2f w (.int .i64 p) (.func (.func 33) #[] #[]) 41
  rw [hW0, hb]
  clear hW0 hb z0 z1
  replace hx0 := show Hid _ from hx0
  replace he : Hid (Env W0) := he.out.ext hx0.out
  go_wp2
  have j1 := Late.cell k1
  have hE : Hid (∀ s : Late W0, Hid (Env s.to)) := fun s => he.out.ext s.ext
  have hNe1 : Nonempty (Late W0) := ⟨⟨_, Ext.refl _⟩⟩
  refine wp_region_late (by kernel_rfl) (by kernel_rfl) ?_
  repeat (go_big_quiet_step ((first
    | (go_at_call 36; exact late_of (Date_f _ _ h1 h2 (hE.out _)))
    | (go_at_call 35; exact late_of (sureD_ok _ _ _ _))
    | (go_at_call 33; exact late_of (fixed_c _ _ _ _ _)))))
  refine wpQuiet_nil ?_
  intro W2 hw'
  have hx2 := late_ext hw'
  clear hw' j1
  go_wp2
  go_ret
  exact ⟨rfl, hx0.out.trans hx2⟩
set_option maxHeartbeats 1000000 in
theorem at_3 (p n : Int) (w : World) (h1 : -25567 ≤ n) (h2 : n ≤ 84370) (he : Hid (Env w)) :
    Calls Tryd.prog 22 #[.agg #[.int .i64 p, .func (.func 34) #[] #[]], .int .i64 n] w fun e w' => e = .returned (.int .i64 (plA n)) ∧ Ext w w' := by
  obtain ⟨y1, y2, s1, s2⟩ := yOf_sp n h1 h2
  have hv := (ofDay n h1 h2).1
  have m1 := hv.m1; have m2 := hv.m2; have d1 := hv.d1; have d2 := hv.d31
  clear hv
  go_enter Tryd.func22, Tryd.ntmps22
  go_upto_region 1 with fail
  obtain ⟨W0, b, hW0, hb, hx0, k0, k1, z0, z1⟩ := box2f w (.int .i64 p) (.func (.func 34) #[] #[]) 41
  rw [hW0, hb]
  clear hW0 hb z0 z1
  replace hx0 := show Hid _ from hx0
  replace he : Hid (Env W0) := he.out.ext hx0.out
  go_wp2
  have j1 := Late.cell k1
  have hE : Hid (∀ s : Late W0, Hid (Env s.to)) := fun s => he.out.ext s.ext
  have hNe1 : Nonempty (Late W0) := ⟨⟨_, Ext.refl _⟩⟩
  refine wp_region_late (by kernel_rfl) (by kernel_rfl) ?_
  repeat (go_big_quiet_step ((first
    | (go_at_call 36; exact late_of (Date_f _ _ h1 h2 (hE.out _)))
    | (go_at_call 35; exact late_of (sureD_ok _ _ _ _))
    | (go_at_call 34; exact late_of (actual_p _ _ y1 y2 s1 s2 (hE.out _))))))
  refine wpQuiet_nil ?_
  intro W2 hw'
  have hx2 := late_ext hw'
  clear hw' j1
  go_wp2
  go_ret
  exact ⟨rfl, hx0.out.trans hx2⟩
theorem at_ok (c p n : Int) (w : World) (k1 : 1 ≤ c) (k2 : c ≤ 3) (h1 : -25567 ≤ n) (h2 : n ≤ 84370) (he : Hid (Env w)) :
    Calls Tryd.prog 22 #[.agg #[.int .i64 p, .func (.func (fvOf c)) #[] #[]], .int .i64 n] w fun e w' => e = .returned (.int .i64 (plc c n)) ∧ Ext w w' := by
  rcases (by omega : c = 1 ∨ c = 2 ∨ c = 3) with e | e | e <;> subst e
  · exact at_1 p n w h1 h2 he
  · exact at_2 p n w h1 h2 he
  · exact at_3 p n w h1 h2 he
end Go.Proofs.YtkjdhefmhooplaaDoor
