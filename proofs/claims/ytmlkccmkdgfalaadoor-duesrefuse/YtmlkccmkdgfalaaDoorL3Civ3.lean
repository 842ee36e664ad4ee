
/- Number of package civil, and the document's own, as contracts: no statement of the seat is proved here. -/
import Derived.Test.YtmlkccmkdgfalaaDoorL3Civ2
import Derived.Test.YtmlkccmkdgfalaaDoorLate
namespace Go.Proofs.YtmlkccmkdgfalaaDoor.L3
open Go.RowKit
set_option linter.unusedVariables false

/-- What Number answers. -/
def numA (y m d : Int) : Int := if vldB y m d = true then num y m d else 0
def numE (y m d : Int) : Int := if vldB y m d = true then 0 else 5
theorem numA_ok (y m d : Int) (h : Vld y m d) : numA y m d = num y m d ∧ numE y m d = 0 := by
  unfold numA numE; simp [(vldB_iff y m d).2 h]
theorem numA_no (y m d : Int) (h : ¬ Vld y m d) : numA y m d = 0 ∧ numE y m d = 5 := by
  unfold numA numE; simp [mt (vldB_iff y m d).1 h]

theorem ret_two {a b c d : Int} (h : a = b) (k : c = d) : Ending.returned (.tuple #[.int .i64 a, .int .i64 c]) = .returned (.tuple #[.int .i64 b, .int .i64 d]) := by rw [h, k]
theorem known_t (y : Int) (w : World) (h1 : 1900 ≤ y) (h2 : y ≤ 2200) :
    Calls Tryd.prog 78 #[.int .i64 y] w fun e w' => e = .returned (.bool true) ∧ w' = w := by
  have := known_c y w
  rwa [decide_eq_true (show 1900 ≤ y ∧ y ≤ 2200 from ⟨h1, h2⟩)] at this
theorem known_f (y : Int) (w : World) (h : ¬ (1900 ≤ y ∧ y ≤ 2200)) :
    Calls Tryd.prog 78 #[.int .i64 y] w fun e w' => e = .returned (.bool false) ∧ w' = w := by
  have := known_c y w
  rwa [decide_eq_false h] at this
set_option maxHeartbeats 1000000 in
theorem Number_ok (y m d : Int) (w : World) (hv : Vld y m d) (he : Hid (Env w)) :
    Calls Tryd.prog 60 #[.agg #[.int .i64 y, .int .i64 m, .int .i64 d]] w fun e w' => e = .returned (.tuple #[.int .i64 (num y m d), .int .i64 0]) ∧ Ext w w' := by
  have y1 := hv.y1; have y2 := hv.y2; have d1 := hv.d1; have d2 := hv.d2; have m1 := hv.m1; have m2 := hv.m2
  have hm : I64 m := by unfold I64; omega
  replace hm := show Hid _ from hm
  have sb := st_bd y y1 (by omega)
  obtain ⟨s1, s2⟩ := sb
  have cb := cum_bd y m m1 (by omega)
  obtain ⟨c1, c2⟩ := cb
  have d31 := hv.d31
  have hn : num y m d = st y + cum y m + d - 1 := rfl
  rw [hn]
  have e1 : decide (d < 1) = false := decide_eq_false (by omega)
  have e2 : decide (dim y m < d) = false := decide_eq_false (by omega)
  clear hn hv
  go_enter Tryd.func60, Tryd.ntmps60
  go_wp2
  obtain ⟨W0, b, hW0, hb, hx0, k0, k1, k2⟩ := box3 w (.int .i64 y) (.int .i64 m) (.int .i64 d) 68
  rw [hW0, hb]
  clear hW0 hb
  replace hx0 := show Hid _ from hx0
  replace he : Hid (Env W0) := he.out.ext hx0.out
  have j0 := Late.cell k0; have j1 := Late.cell k1; have j2 := Late.cell k2
  have hE : Hid (∀ s : Late W0, Hid (Env s.to)) := fun s => he.out.ext s.ext
  have hNe1 : Nonempty (Late W0) := ⟨⟨_, Ext.refl _⟩⟩
  refine wp_region_late (by kernel_rfl) (by kernel_rfl) ?_
  repeat (go_big_quiet_step ((first
    | (go_at_call 78; exact late_same (known_t _ _ y1 y2))
    | (go_at_call 57; exact late_same (month_c _ _ _ hm.out (hE.out _))))))
  refine wpQuiet_nil ?_
  intro W1 hw'
  have hx1 := late_ext hw'
  clear hw'
  clear j0 j1 j2 hE
  replace k0 := hx1.cell_of k0; replace k1 := hx1.cell_of k1; replace k2 := hx1.cell_of k2
  replace he : Hid (Env W1) := he.out.ext hx1
  replace hx0 : Hid (Ext w W1) := hx0.out.trans hx1
  clear hx1
  go_wp2
  have j0 := Late.cell k0; have j1 := Late.cell k1; have j2 := Late.cell k2
  have hE : Hid (∀ s : Late W1, Hid (Env s.to)) := fun s => he.out.ext s.ext
  have hNe2 : Nonempty (Late W1) := ⟨⟨_, Ext.refl _⟩⟩
  refine wp_region_late (by kernel_rfl) (by kernel_rfl) ?_
  repeat (go_big_quiet_step ((first
    | (go_at_call 56; exact late_same (start_c _ _ y1 (by omega)))
    | (go_at_call 79; exact late_same (ahead_c _ _ _ m1 m2 (hE.out _))))))
  refine wpQuiet_nil ?_
  intro W2 hw'
  have hx2 := late_ext hw'
  clear hw'

  go_wp2
  go_ret2
  exact ⟨rfl, hx0.out.trans hx2⟩
set_option maxHeartbeats 1000000 in
theorem Number_a (y m d : Int) (w : World) (h : ¬ (1900 ≤ y ∧ y ≤ 2200)) (hm : Hid (I64 m)) (he : Hid (Env w)) :
    Calls Tryd.prog 60 #[.agg #[.int .i64 y, .int .i64 m, .int .i64 d]] w fun e w' => e = .returned (.tuple #[.int .i64 0, .int .i64 5]) ∧ Ext w w' := by
  replace h := show Hid _ from h
  go_enter Tryd.func60, Tryd.ntmps60
  go_wp2
  obtain ⟨W0, b, hW0, hb, hx0, k0, k1, k2⟩ := box3 w (.int .i64 y) (.int .i64 m) (.int .i64 d) 68
  rw [hW0, hb]
  clear hW0 hb
  replace hx0 := show Hid _ from hx0
  replace he : Hid (Env W0) := he.out.ext hx0.out
  have j0 := Late.cell k0; have j1 := Late.cell k1; have j2 := Late.cell k2
  have hE : Hid (∀ s : Late W0, Hid (Env s.to)) := fun s => he.out.ext s.ext
  have hNe1 : Nonempty (Late W0) := ⟨⟨_, Ext.refl _⟩⟩
  refine wp_region_late (by kernel_rfl) (by kernel_rfl) ?_
  repeat (go_big_quiet_step ((first
    | (go_at_call 78; exact late_same (known_f _ _ h.out))
    | (go_at_call 57; exact late_same (month_c _ _ _ hm.out (hE.out _))))))
  refine wpQuiet_nil ?_
  intro W1 hw'
  have hx1 := late_ext hw'
  clear hw'
  go_wp2
  go_ret2
  exact ⟨rfl, hx0.out.trans hx1⟩
set_option maxHeartbeats 1000000 in
theorem Number_b (y m d : Int) (w : World) (y1 : 1900 ≤ y) (y2 : y ≤ 2200) (h : d < 1) (hm : Hid (I64 m)) (he : Hid (Env w)) :
    Calls Tryd.prog 60 #[.agg #[.int .i64 y, .int .i64 m, .int .i64 d]] w fun e w' => e = .returned (.tuple #[.int .i64 0, .int .i64 5]) ∧ Ext w w' := by
  have e1 : decide (d < 1) = true := decide_eq_true h
  go_enter Tryd.func60, Tryd.ntmps60
  go_wp2
  obtain ⟨W0, b, hW0, hb, hx0, k0, k1, k2⟩ := box3 w (.int .i64 y) (.int .i64 m) (.int .i64 d) 68
  rw [hW0, hb]
  clear hW0 hb
  replace hx0 := show Hid _ from hx0
  replace he : Hid (Env W0) := he.out.ext hx0.out
  have j0 := Late.cell k0; have j1 := Late.cell k1; have j2 := Late.cell k2
  have hE : Hid (∀ s : Late W0, Hid (Env s.to)) := fun s => he.out.ext s.ext
  have hNe1 : Nonempty (Late W0) := ⟨⟨_, Ext.refl _⟩⟩
  refine wp_region_late (by kernel_rfl) (by kernel_rfl) ?_
  repeat (go_big_quiet_step ((first
    | (go_at_call 78; exact late_same (known_t _ _ y1 y2))
    | (go_at_call 57; exact late_same (month_c _ _ _ hm.out (hE.out _))))))
  refine wpQuiet_nil ?_
  intro W1 hw'
  have hx1 := late_ext hw'
  clear hw'
  go_wp2
  go_ret2
  exact ⟨rfl, hx0.out.trans hx1⟩
set_option maxHeartbeats 1000000 in
theorem Number_d (y m d : Int) (w : World) (y1 : 1900 ≤ y) (y2 : y ≤ 2200) (h1 : ¬ d < 1) (h : dim y m < d) (hm : Hid (I64 m)) (he : Hid (Env w)) :
    Calls Tryd.prog 60 #[.agg #[.int .i64 y, .int .i64 m, .int .i64 d]] w fun e w' => e = .returned (.tuple #[.int .i64 0, .int .i64 5]) ∧ Ext w w' := by
  have e1 : decide (d < 1) = false := decide_eq_false h1
  have e2 : decide (dim y m < d) = true := decide_eq_true h
  go_enter Tryd.func60, Tryd.ntmps60
  go_wp2
  obtain ⟨W0, b, hW0, hb, hx0, k0, k1, k2⟩ := box3 w (.int .i64 y) (.int .i64 m) (.int .i64 d) 68
  rw [hW0, hb]
  clear hW0 hb
  replace hx0 := show Hid _ from hx0
  replace he : Hid (Env W0) := he.out.ext hx0.out
  have j0 := Late.cell k0; have j1 := Late.cell k1; have j2 := Late.cell k2
  have hE : Hid (∀ s : Late W0, Hid (Env s.to)) := fun s => he.out.ext s.ext
  have hNe1 : Nonempty (Late W0) := ⟨⟨_, Ext.refl _⟩⟩
  refine wp_region_late (by kernel_rfl) (by kernel_rfl) ?_
  repeat (go_big_quiet_step ((first
    | (go_at_call 78; exact late_same (known_t _ _ y1 y2))
    | (go_at_call 57; exact late_same (month_c _ _ _ hm.out (hE.out _))))))
  refine wpQuiet_nil ?_
  intro W1 hw'
  have hx1 := late_ext hw'
  clear hw'
  go_wp2
  go_ret2
  exact ⟨rfl, hx0.out.trans hx1⟩
theorem Number_no (y m d : Int) (w : World) (hv : ¬ Vld y m d) (hm : I64 m) (he : Hid (Env w)) :
    Calls Tryd.prog 60 #[.agg #[.int .i64 y, .int .i64 m, .int .i64 d]] w fun e w' => e = .returned (.tuple #[.int .i64 0, .int .i64 5]) ∧ Ext w w' := by
  by_cases h : 1900 ≤ y ∧ y ≤ 2200
  · by_cases h1 : d < 1
    · exact Number_b y m d w h.1 h.2 h1 hm he
    · by_cases h2 : dim y m < d
      · exact Number_d y m d w h.1 h.2 h1 h2 hm he
      · exact absurd ⟨h.1, h.2, by omega, by omega⟩ hv
  · exact Number_a y m d w h hm he
theorem Number_c (y m d : Int) (w : World) (hm : I64 m) (he : Hid (Env w)) :
    Calls Tryd.prog 60 #[.agg #[.int .i64 y, .int .i64 m, .int .i64 d]] w fun e w' => e = .returned (.tuple #[.int .i64 (numA y m d), .int .i64 (numE y m d)]) ∧ Ext w w' := by
  by_cases h : Vld y m d
  · rw [(numA_ok y m d h).1, (numA_ok y m d h).2]; exact Number_ok y m d w h he
  · rw [(numA_no y m d h).1, (numA_no y m d h).2]; exact Number_no y m d w h hm he
end Go.Proofs.YtmlkccmkdgfalaaDoor.L3