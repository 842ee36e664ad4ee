/- For every Date d, every int n and every string s, of the project's tree at the commit that COMMIT names, CivilTells returns true and leaves its arguments as they were, with the listed variables laid as the program's text lays them. -/
import Derived.Test.YtbdninnopfdnbaaDoorFrame
import Derived.Test.YtbdninnopfdnbaaDoorCiv9
namespace Go.Proofs.YtbdninnopfdnbaaDoor.civilTells
open Go.ChangeShapes Go.WideShapes Go.ChangeAt Go.RowKit Go.Lib
set_option linter.unusedVariables false

theorem tells_long (x0 y0 z0 a1 : Int) (l : List UInt8) (w : World) (he : Hid (Env w)) (h : (100 : Int) < (l.length : Int)) :
    Calls Tryd.prog 3 #[.agg #[.int .i64 x0, .int .i64 y0, .int .i64 z0], .int .i64 a1, .string ⟨l.toArray⟩] w fun e w' => e = .returned (.bool true) ∧ Ext w w' := by
  go_enter Tryd.func3, Tryd.ntmps3
  go_wp2_with fail
  obtain ⟨W1, b1, hW, hb, hxb, k0, k1, k2⟩ := box3 w (.int .i64 x0) (.int .i64 y0) (.int .i64 z0) 23
  rw [hW, hb]
  clear hW hb
  replace he : Hid (Env W1) := he.out.ext hxb
  have hx := show Hid (Ext w W1) from hxb
  clear hxb
  refine (awake_c _ he).mono ?_
  rintro e w2 ⟨rfl, hx1⟩
  replace k0 := hx1.cell_of k0
  replace k1 := hx1.cell_of k1
  replace k2 := hx1.cell_of k2
  replace he : Hid (Env w2) := he.out.ext hx1
  replace hx : Hid (Ext w w2) := hx.out.trans hx1
  clear hx1
  go_wp2
  go_ret
  exact ⟨rfl, hx.out⟩
set_option maxHeartbeats 8000000 in
theorem tells_in (x0 y0 z0 a1 : Int) (l : List UInt8) (w : World) (he : Hid (Env w)) (hm0 : I64 y0) (hn0 : I64 a1) (hlen : l.length ≤ 100) (hlong : ¬ (100 : Int) < (l.length : Int)) (n1 : -25567 ≤ a1) (n2 : a1 ≤ 84370) :
    Calls Tryd.prog 3 #[.agg #[.int .i64 x0, .int .i64 y0, .int .i64 z0], .int .i64 a1, .string ⟨l.toArray⟩] w fun e w' => e = .returned (.bool true) ∧ Ext w w' := by
  have hm : Hid (I64 y0) := hm0
  have hn : Hid (I64 a1) := hn0
  clear hm0 hn0
  have hNum : Hid (∀ w : World, Hid (Env w) → Calls Tryd.prog 10 #[.agg #[.int .i64 x0, .int .i64 y0, .int .i64 z0]] w fun e w' => e = .returned (.tuple #[.int .i64 (numA x0 y0 z0), .int .i64 (numE x0 y0 z0)]) ∧ Ext w w') := fun w he => Number_c x0 y0 z0 w hm.out he
  have hNur : Hid (∀ w : World, Hid (Env w) → Calls Tryd.prog 11 #[.agg #[.int .i64 x0, .int .i64 y0, .int .i64 z0]] w fun e w' => e = .returned (.tuple #[.int .i64 (numA x0 y0 z0), .int .i64 (numE x0 y0 z0)]) ∧ Ext w w') := fun w he => rNumber_c x0 y0 z0 w hm.out he
  have hTak : Hid (∀ w : World, Hid (Env w) → Calls Tryd.prog 16 #[.string ⟨l.toArray⟩] w fun e w' => e = .returned (.tuple #[.int .i64 (takA l), .int .i64 (takE l)]) ∧ Ext w w') := fun w he => Take_c l w (by omega) he
  have hTar : Hid (∀ w : World, Hid (Env w) → Calls Tryd.prog 17 #[.string ⟨l.toArray⟩] w fun e w' => e = .returned (.tuple #[.int .i64 (takA l), .int .i64 (takE l)]) ∧ Ext w w') := fun w he => rTake_c l w (by omega) he
  have hLo : Hid (∀ w : World, Calls Tryd.prog 18 #[.int .i64 x0] w fun e w' => e = .returned (.bool (lng x0)) ∧ w' = w) := fun w => Long_c x0 w
  have hLr : Hid (∀ w : World, Calls Tryd.prog 19 #[.int .i64 x0] w fun e w' => e = .returned (.bool (lng x0)) ∧ w' = w) := fun w => rLong_c x0 w
  have hMo : Hid (∀ w : World, Hid (Env w) → Calls Tryd.prog 20 #[.int .i64 x0, .int .i64 y0] w fun e w' => e = .returned (.int .i64 (dim x0 y0)) ∧ w' = w) := fun w he => Month_c x0 y0 w hm.out he
  have hMr : Hid (∀ w : World, Calls Tryd.prog 21 #[.int .i64 x0, .int .i64 y0] w fun e w' => e = .returned (.int .i64 (dim x0 y0)) ∧ w' = w) := fun w => rMonth_c x0 y0 w hm.out
  have hWe : Hid (∀ w : World, Calls Tryd.prog 22 #[.int .i64 a1] w fun e w' => e = .returned (.int .i64 (wday a1)) ∧ w' = w) := fun w => Weekday_c a1 w hn.out
  have hWr : Hid (∀ w : World, Calls Tryd.prog 23 #[.int .i64 a1] w fun e w' => e = .returned (.int .i64 (wday a1)) ∧ w' = w) := fun w => rWeekday_c a1 w hn.out
  generalize numA x0 y0 z0 = A at *
  generalize numE x0 y0 z0 = E at *
  generalize takA l = B at *
  generalize takE l = F at *
  generalize lng x0 = L at *
  generalize dim x0 y0 = M at *
  generalize wday a1 = V at *
  clear hm hn
  go_enter Tryd.func3, Tryd.ntmps3
  go_wp2_with fail
  obtain ⟨W1, b1, hW, hb, hxb, k0, k1, k2⟩ := box3 w (.int .i64 x0) (.int .i64 y0) (.int .i64 z0) 23
  rw [hW, hb]
  clear hW hb
  replace he : Hid (Env W1) := he.out.ext hxb
  have hx := show Hid (Ext w W1) from hxb
  clear hxb
  refine (hNum.out _ he).mono ?_
  rintro e w2 ⟨rfl, hx1⟩
  replace k0 := hx1.cell_of k0
  replace k1 := hx1.cell_of k1
  replace k2 := hx1.cell_of k2
  replace he : Hid (Env w2) := he.out.ext hx1
  replace hx : Hid (Ext w w2) := hx.out.trans hx1
  clear hx1
  go_wp2_with fail
  refine (hNur.out _ he).mono ?_
  rintro e w3 ⟨rfl, hx1⟩
  replace k0 := hx1.cell_of k0
  replace k1 := hx1.cell_of k1
  replace k2 := hx1.cell_of k2
  replace he : Hid (Env w3) := he.out.ext hx1
  replace hx : Hid (Ext w w3) := hx.out.trans hx1
  clear hx1
  go_wp2_with fail
  refine (Date_ok a1 _ n1 n2 he).mono ?_
  rintro e w4 ⟨⟨y, m, d, rfl, hv, hn⟩, hx1⟩
  replace k0 := hx1.cell_of k0
  replace k1 := hx1.cell_of k1
  replace k2 := hx1.cell_of k2
  replace he : Hid (Env w4) := he.out.ext hx1
  replace hx : Hid (Ext w w4) := hx.out.trans hx1
  clear hx1
  go_wp2_with fail
  obtain ⟨W5, b5, hW, hb, hxb, j0, j1, j2⟩ := box3 w4 (.int .i64 y) (.int .i64 m) (.int .i64 d) 23
  rw [hW, hb]
  clear hW hb
  replace k0 := hxb.cell_of k0
  replace k1 := hxb.cell_of k1
  replace k2 := hxb.cell_of k2
  replace he : Hid (Env W5) := he.out.ext hxb
  replace hx : Hid (Ext w W5) := hx.out.trans hxb
  clear hxb
  refine (rDate_ok a1 _ n1 n2).mono ?_
  rintro e w6 ⟨⟨y', m', d', rfl, hv', hn'⟩, hx1⟩
  replace k0 := hx1.cell_of k0
  replace k1 := hx1.cell_of k1
  replace k2 := hx1.cell_of k2
  replace j0 := hx1.cell_of j0
  replace j1 := hx1.cell_of j1
  replace j2 := hx1.cell_of j2
  replace he : Hid (Env w6) := he.out.ext hx1
  replace hx : Hid (Ext w w6) := hx.out.trans hx1
  clear hx1
  obtain ⟨rfl, rfl, rfl⟩ := num_inj hv' hv (hn'.trans hn.symm)
  clear hv hv' hn hn'
  go_wp2_with fail
  obtain ⟨W7, b7, hW, hb, hxb, i0, i1, i2⟩ := box3 w6 (.int .i64 y') (.int .i64 m') (.int .i64 d') 23
  rw [hW, hb]
  clear hW hb
  replace k0 := hxb.cell_of k0
  replace k1 := hxb.cell_of k1
  replace k2 := hxb.cell_of k2
  replace j0 := hxb.cell_of j0
  replace j1 := hxb.cell_of j1
  replace j2 := hxb.cell_of j2
  replace he : Hid (Env W7) := he.out.ext hxb
  replace hx : Hid (Ext w W7) := hx.out.trans hxb
  clear hxb
  refine (Text_ok a1 _ n1 n2 he).mono ?_
  rintro e w8 ⟨⟨p, q, r, rfl, hv, hn⟩, hx1⟩
  replace k0 := hx1.cell_of k0
  replace k1 := hx1.cell_of k1
  replace k2 := hx1.cell_of k2
  replace j0 := hx1.cell_of j0
  replace j1 := hx1.cell_of j1
  replace j2 := hx1.cell_of j2
  replace i0 := hx1.cell_of i0
  replace i1 := hx1.cell_of i1
  replace i2 := hx1.cell_of i2
  replace he : Hid (Env w8) := he.out.ext hx1
  replace hx : Hid (Ext w w8) := hx.out.trans hx1
  clear hx1
  go_wp2_with fail
  refine (rText_ok a1 _ n1 n2 he).mono ?_
  rintro e w9 ⟨⟨p', q', r', rfl, hv', hn'⟩, hx1⟩
  replace k0 := hx1.cell_of k0
  replace k1 := hx1.cell_of k1
  replace k2 := hx1.cell_of k2
  replace j0 := hx1.cell_of j0
  replace j1 := hx1.cell_of j1
  replace j2 := hx1.cell_of j2
  replace i0 := hx1.cell_of i0
  replace i1 := hx1.cell_of i1
  replace i2 := hx1.cell_of i2
  replace he : Hid (Env w9) := he.out.ext hx1
  replace hx : Hid (Ext w w9) := hx.out.trans hx1
  clear hx1
  obtain ⟨rfl, rfl, rfl⟩ := num_inj hv' hv (hn'.trans hn.symm)
  clear hv hv' hn hn' n1 n2
  generalize textL p' q' r' = T at *
  go_wp2_with fail
  refine (hTak.out _ he).mono ?_
  rintro e w10 ⟨rfl, hx1⟩
  replace k0 := hx1.cell_of k0
  replace k1 := hx1.cell_of k1
  replace k2 := hx1.cell_of k2
  replace j0 := hx1.cell_of j0
  replace j1 := hx1.cell_of j1
  replace j2 := hx1.cell_of j2
  replace i0 := hx1.cell_of i0
  replace i1 := hx1.cell_of i1
  replace i2 := hx1.cell_of i2
  replace he : Hid (Env w10) := he.out.ext hx1
  replace hx : Hid (Ext w w10) := hx.out.trans hx1
  clear hx1
  go_wp2_with fail
  refine (hTar.out _ he).mono ?_
  rintro e w11 ⟨rfl, hx1⟩
  replace k0 := hx1.cell_of k0
  replace k1 := hx1.cell_of k1
  replace k2 := hx1.cell_of k2
  replace j0 := hx1.cell_of j0
  replace j1 := hx1.cell_of j1
  replace j2 := hx1.cell_of j2
  replace i0 := hx1.cell_of i0
  replace i1 := hx1.cell_of i1
  replace i2 := hx1.cell_of i2
  replace he : Hid (Env w11) := he.out.ext hx1
  replace hx : Hid (Ext w w11) := hx.out.trans hx1
  clear hx1
  clear hNum hNur hTak hTar
  skip
  go_wp2_with fail
  simp only [List.append_eq, List.cons_append, List.nil_append]
  have Lk0 := Late.cell k0
  have Lk1 := Late.cell k1
  have Lk2 := Late.cell k2
  have Lj0 := Late.cell j0
  have Lj1 := Late.cell j1
  have Lj2 := Late.cell j2
  have Li0 := Late.cell i0
  have Li1 := Late.cell i1
  have Li2 := Late.cell i2
  have hE : Hid (∀ s : Late w11, Hid (Env s.to)) := fun s => he.out.ext s.ext
  have hNe1 : Nonempty (Late w11) := ⟨⟨_, Ext.refl _⟩⟩
  refine wp_region_late (by kernel_rfl) (by kernel_rfl) ?_
  repeat (go_big_quiet_step ((first
    | (go_at_call 9; exact late_of (awake_c _ (hE.out _)))
    | (go_at_call 18; exact late_same (hLo.out _))
    | (go_at_call 19; exact late_same (hLr.out _))
    | (go_at_call 20; exact late_same (hMo.out _ (hE.out _)))
    | (go_at_call 21; exact late_same (hMr.out _))
    | (go_at_call 22; exact late_same (hWe.out _))
    | (go_at_call 23; exact late_same (hWr.out _)))))
  refine wpQuiet_nil ?_
  intro W9 hw'
  have hx1 := late_ext hw'
  clear hw'
  go_wp2
  go_ret
  exact ⟨rfl, hx.out.trans hx1⟩
set_option maxHeartbeats 8000000 in
theorem tells_out (x0 y0 z0 a1 : Int) (l : List UInt8) (w : World) (he : Hid (Env w)) (hm0 : I64 y0) (hn0 : I64 a1) (hlen : l.length ≤ 100) (hlong : ¬ (100 : Int) < (l.length : Int)) (ho : a1 < -25567 ∨ 84370 < a1) :
    Calls Tryd.prog 3 #[.agg #[.int .i64 x0, .int .i64 y0, .int .i64 z0], .int .i64 a1, .string ⟨l.toArray⟩] w fun e w' => e = .returned (.bool true) ∧ Ext w w' := by
  replace ho := show Hid _ from ho
  have hm : Hid (I64 y0) := hm0
  have hn : Hid (I64 a1) := hn0
  clear hm0 hn0
  have hNum : Hid (∀ w : World, Hid (Env w) → Calls Tryd.prog 10 #[.agg #[.int .i64 x0, .int .i64 y0, .int .i64 z0]] w fun e w' => e = .returned (.tuple #[.int .i64 (numA x0 y0 z0), .int .i64 (numE x0 y0 z0)]) ∧ Ext w w') := fun w he => Number_c x0 y0 z0 w hm.out he
  have hNur : Hid (∀ w : World, Hid (Env w) → Calls Tryd.prog 11 #[.agg #[.int .i64 x0, .int .i64 y0, .int .i64 z0]] w fun e w' => e = .returned (.tuple #[.int .i64 (numA x0 y0 z0), .int .i64 (numE x0 y0 z0)]) ∧ Ext w w') := fun w he => rNumber_c x0 y0 z0 w hm.out he
  have hTak : Hid (∀ w : World, Hid (Env w) → Calls Tryd.prog 16 #[.string ⟨l.toArray⟩] w fun e w' => e = .returned (.tuple #[.int .i64 (takA l), .int .i64 (takE l)]) ∧ Ext w w') := fun w he => Take_c l w (by omega) he
  have hTar : Hid (∀ w : World, Hid (Env w) → Calls Tryd.prog 17 #[.string ⟨l.toArray⟩] w fun e w' => e = .returned (.tuple #[.int .i64 (takA l), .int .i64 (takE l)]) ∧ Ext w w') := fun w he => rTake_c l w (by omega) he
  have hLo : Hid (∀ w : World, Calls Tryd.prog 18 #[.int .i64 x0] w fun e w' => e = .returned (.bool (lng x0)) ∧ w' = w) := fun w => Long_c x0 w
  have hLr : Hid (∀ w : World, Calls Tryd.prog 19 #[.int .i64 x0] w fun e w' => e = .returned (.bool (lng x0)) ∧ w' = w) := fun w => rLong_c x0 w
  have hMo : Hid (∀ w : World, Hid (Env w) → Calls Tryd.prog 20 #[.int .i64 x0, .int .i64 y0] w fun e w' => e = .returned (.int .i64 (dim x0 y0)) ∧ w' = w) := fun w he => Month_c x0 y0 w hm.out he
  have hMr : Hid (∀ w : World, Calls Tryd.prog 21 #[.int .i64 x0, .int .i64 y0] w fun e w' => e = .returned (.int .i64 (dim x0 y0)) ∧ w' = w) := fun w => rMonth_c x0 y0 w hm.out
  have hWe : Hid (∀ w : World, Calls Tryd.prog 22 #[.int .i64 a1] w fun e w' => e = .returned (.int .i64 (wday a1)) ∧ w' = w) := fun w => Weekday_c a1 w hn.out
  have hWr : Hid (∀ w : World, Calls Tryd.prog 23 #[.int .i64 a1] w fun e w' => e = .returned (.int .i64 (wday a1)) ∧ w' = w) := fun w => rWeekday_c a1 w hn.out
  generalize numA x0 y0 z0 = A at *
  generalize numE x0 y0 z0 = E at *
  generalize takA l = B at *
  generalize takE l = F at *
  generalize lng x0 = L at *
  generalize dim x0 y0 = M at *
  generalize wday a1 = V at *
  clear hm hn
  go_enter Tryd.func3, Tryd.ntmps3
  go_wp2_with fail
  obtain ⟨W1, b1, hW, hb, hxb, k0, k1, k2⟩ := box3 w (.int .i64 x0) (.int .i64 y0) (.int .i64 z0) 23
  rw [hW, hb]
  clear hW hb
  replace he : Hid (Env W1) := he.out.ext hxb
  have hx := show Hid (Ext w W1) from hxb
  clear hxb
  refine (hNum.out _ he).mono ?_
  rintro e w2 ⟨rfl, hx1⟩
  replace k0 := hx1.cell_of k0
  replace k1 := hx1.cell_of k1
  replace k2 := hx1.cell_of k2
  replace he : Hid (Env w2) := he.out.ext hx1
  replace hx : Hid (Ext w w2) := hx.out.trans hx1
  clear hx1
  go_wp2_with fail
  refine (hNur.out _ he).mono ?_
  rintro e w3 ⟨rfl, hx1⟩
  replace k0 := hx1.cell_of k0
  replace k1 := hx1.cell_of k1
  replace k2 := hx1.cell_of k2
  replace he : Hid (Env w3) := he.out.ext hx1
  replace hx : Hid (Ext w w3) := hx.out.trans hx1
  clear hx1
  go_wp2_with fail
  refine (Date_no a1 _ ho.out).mono ?_
  rintro e w4 ⟨rfl, hx1⟩
  replace k0 := hx1.cell_of k0
  replace k1 := hx1.cell_of k1
  replace k2 := hx1.cell_of k2
  replace he : Hid (Env w4) := he.out.ext hx1
  replace hx : Hid (Ext w w4) := hx.out.trans hx1
  clear hx1
  go_wp2_with fail
  obtain ⟨W5, b5, hW, hb, hxb, j0, j1, j2⟩ := box3 w4 (.int .i64 0) (.int .i64 0) (.int .i64 0) 23
  rw [hW, hb]
  clear hW hb
  replace k0 := hxb.cell_of k0
  replace k1 := hxb.cell_of k1
  replace k2 := hxb.cell_of k2
  replace he : Hid (Env W5) := he.out.ext hxb
  replace hx : Hid (Ext w W5) := hx.out.trans hxb
  clear hxb
  refine (rDate_no a1 _ ho.out).mono ?_
  rintro e w6 ⟨rfl, hx1⟩
  replace k0 := hx1.cell_of k0
  replace k1 := hx1.cell_of k1
  replace k2 := hx1.cell_of k2
  replace j0 := hx1.cell_of j0
  replace j1 := hx1.cell_of j1
  replace j2 := hx1.cell_of j2
  replace he : Hid (Env w6) := he.out.ext hx1
  replace hx : Hid (Ext w w6) := hx.out.trans hx1
  clear hx1
  go_wp2_with fail
  obtain ⟨W7, b7, hW, hb, hxb, i0, i1, i2⟩ := box3 w6 (.int .i64 0) (.int .i64 0) (.int .i64 0) 23
  rw [hW, hb]
  clear hW hb
  replace k0 := hxb.cell_of k0
  replace k1 := hxb.cell_of k1
  replace k2 := hxb.cell_of k2
  replace j0 := hxb.cell_of j0
  replace j1 := hxb.cell_of j1
  replace j2 := hxb.cell_of j2
  replace he : Hid (Env W7) := he.out.ext hxb
  replace hx : Hid (Ext w W7) := hx.out.trans hxb
  clear hxb
  refine (Text_no a1 _ ho.out).mono ?_
  rintro e w8 ⟨rfl, hx1⟩
  replace k0 := hx1.cell_of k0
  replace k1 := hx1.cell_of k1
  replace k2 := hx1.cell_of k2
  replace j0 := hx1.cell_of j0
  replace j1 := hx1.cell_of j1
  replace j2 := hx1.cell_of j2
  replace i0 := hx1.cell_of i0
  replace i1 := hx1.cell_of i1
  replace i2 := hx1.cell_of i2
  replace he : Hid (Env w8) := he.out.ext hx1
  replace hx : Hid (Ext w w8) := hx.out.trans hx1
  clear hx1
  go_wp2_with fail
  refine (rText_no a1 _ ho.out).mono ?_
  rintro e w9 ⟨rfl, hx1⟩
  replace k0 := hx1.cell_of k0
  replace k1 := hx1.cell_of k1
  replace k2 := hx1.cell_of k2
  replace j0 := hx1.cell_of j0
  replace j1 := hx1.cell_of j1
  replace j2 := hx1.cell_of j2
  replace i0 := hx1.cell_of i0
  replace i1 := hx1.cell_of i1
  replace i2 := hx1.cell_of i2
  replace he : Hid (Env w9) := he.out.ext hx1
  replace hx : Hid (Ext w w9) := hx.out.trans hx1
  clear hx1
  go_wp2_with fail
  refine (hTak.out _ he).mono ?_
  rintro e w10 ⟨rfl, hx1⟩
  replace k0 := hx1.cell_of k0
  replace k1 := hx1.cell_of k1
  replace k2 := hx1.cell_of k2
  replace j0 := hx1.cell_of j0
  replace j1 := hx1.cell_of j1
  replace j2 := hx1.cell_of j2
  replace i0 := hx1.cell_of i0
  replace i1 := hx1.cell_of i1
  replace i2 := hx1.cell_of i2
  replace he : Hid (Env w10) := he.out.ext hx1
  replace hx : Hid (Ext w w10) := hx.out.trans hx1
  clear hx1
  go_wp2_with fail
  refine (hTar.out _ he).mono ?_
  rintro e w11 ⟨rfl, hx1⟩
  replace k0 := hx1.cell_of k0
  replace k1 := hx1.cell_of k1
  replace k2 := hx1.cell_of k2
  replace j0 := hx1.cell_of j0
  replace j1 := hx1.cell_of j1
  replace j2 := hx1.cell_of j2
  replace i0 := hx1.cell_of i0
  replace i1 := hx1.cell_of i1
  replace i2 := hx1.cell_of i2
  replace he : Hid (Env w11) := he.out.ext hx1
  replace hx : Hid (Ext w w11) := hx.out.trans hx1
  clear hx1
  clear hNum hNur hTak hTar
  skip
  go_wp2_with fail
  simp only [List.append_eq, List.cons_append, List.nil_append]
  have Lk0 := Late.cell k0
  have Lk1 := Late.cell k1
  have Lk2 := Late.cell k2
  have Lj0 := Late.cell j0
  have Lj1 := Late.cell j1
  have Lj2 := Late.cell j2
  have Li0 := Late.cell i0
  have Li1 := Late.cell i1
  have Li2 := Late.cell i2
  have hE : Hid (∀ s : Late w11, Hid (Env s.to)) := fun s => he.out.ext s.ext
  have hNe1 : Nonempty (Late w11) := ⟨⟨_, Ext.refl _⟩⟩
  refine wp_region_late (by kernel_rfl) (by kernel_rfl) ?_
  repeat (go_big_quiet_step ((first
    | (go_at_call 9; exact late_of (awake_c _ (hE.out _)))
    | (go_at_call 18; exact late_same (hLo.out _))
    | (go_at_call 19; exact late_same (hLr.out _))
    | (go_at_call 20; exact late_same (hMo.out _ (hE.out _)))
    | (go_at_call 21; exact late_same (hMr.out _))
    | (go_at_call 22; exact late_same (hWe.out _))
    | (go_at_call 23; exact late_same (hWr.out _)))))
  refine wpQuiet_nil ?_
  intro W9 hw'
  have hx1 := late_ext hw'
  clear hw'
  go_wp2
  go_ret
  exact ⟨rfl, hx.out.trans hx1⟩

theorem walk (x0 y0 z0 : Int) (wx0 : (Lit.int .i64 x0).wf = true) (wy0 : (Lit.int .i64 y0).wf = true) (wz0 : (Lit.int .i64 z0).wf = true) (a1 : Int) (w1 : (Lit.int .i64 a1).wf = true) (a2 : ByteArray) (w2 : a2.size ≤ maxLen) (w : World) (he : Env w) :
    Calls Tryd.prog 3 #[.agg #[.int .i64 x0, .int .i64 y0, .int .i64 z0], .int .i64 a1, .string a2] w fun e w' => e = .returned (.bool true) ∧ Ext w w' := by
  replace he : Hid (Env w) := he
  obtain ⟨l, rfl⟩ : ∃ l : List UInt8, a2 = ⟨l.toArray⟩ := ⟨a2.data.toList, by simp⟩
  by_cases hlong : (100 : Int) < (l.length : Int)
  · exact tells_long x0 y0 z0 a1 l w he hlong
  · by_cases ho : a1 < -25567 ∨ 84370 < a1
    · exact tells_out x0 y0 z0 a1 l w he (bounds_i64 wy0) (bounds_i64 w1) (by omega) hlong ho
    · exact tells_in x0 y0 z0 a1 l w he (bounds_i64 wy0) (bounds_i64 w1) (by omega) hlong (by omega) (by omega)

set_option maxRecDepth 100000 in
theorem lifted (os : Os) (started : os.Started) (H : Type) (enc : TypeId × Value → H) :
    ReturnsInHanded {} Tryd.checked os 3 .any (fun w args => (Rows.civilTellsSpec.pre enc Tryd.prog Tryd.f3 [] false w args ∧ laidMetH Tryd.prog laid w) ∧ sizedMet enc Tryd.prog Tryd.f3 (OpenSpec.ofChange Rows.civilTellsSpec) false w args)
      (Rows.civilTellsSpec.post enc Tryd.prog Tryd.f3 false true false false) := by
  refine wrap started (by kernel_rfl) Tryd.func3
    (ChangeSpec.witness_shaped (enc := enc) (C := Tryd.checked) (os := os) (X := fun w _ => laidMetH Tryd.prog laid w) false (World.laidAll Tryd.prog os laid) #[.agg #[.int .i64 0, .int .i64 0, .int .i64 0], .int .i64 0, .string ⟨#[]⟩] 8 (World.laidAll_os _ _ _)
      (World.shaped_of_ZipB (by kernel_rfl) (by kernel_rfl)) (by kernel_rfl) (by kernel_rfl) (by kernel_rfl)
      (by rw [MakeChecks.laidMetH_plain _ _ _ (by kernel_rfl)]; exact laidMet_laidAll _ (by kernel_rfl) (by kernel_rfl))) ?_
  intro W base args ds gs before hval0 hW hE
  have hval : ∀ (j : Nat) t v, Tryd.f3.params[j]? = some t → args[j]? = some v → Value.okWide Tryd.prog W .any base t v := hval0
  have hW' := hW
  obtain ⟨p, q, hA0, hV, rfl, _, _⟩ := hW
  have hA : DataW.TrodAll enc Tryd.prog W 0 (fun _ => true) true Tryd.f3.params.toList args.toList ds p := hA0
  rw [Tryd.params3] at hA hval
  obtain ⟨v0, vs0, d0, ds0, p0, q0, hargs, rfl, rfl, h0, r0⟩ := trodAll_cons hA
  obtain ⟨v1, vs1, d1, ds1, p1, q1, rfl, rfl, rfl, h1, r1⟩ := trodAll_cons r0
  obtain ⟨v2, vs2, d2, ds2, p2, q2, rfl, rfl, rfl, h2, r2⟩ := trodAll_cons r1
  obtain ⟨rfl, rfl, rfl⟩ := trodAll_nil r2
  obtain rfl : args = #[v0, v1, v2] := by cases args; simp_all
  obtain ⟨rfl, rfl⟩ := trodVars_none hV
  obtain ⟨x0, y0, z0, rfl, rfl, rfl, wx0, wy0, wz0⟩ := open_date (hval 0 23 v0 rfl rfl) h0
  obtain ⟨a1, rfl, rfl, rfl, w1⟩ := open_int Tryd.underlying3 (hval 1 3 v1 rfl rfl) h1
  obtain ⟨a2, rfl, rfl, rfl, w2⟩ := Go.ChangeMaps.open_string Tryd.underlying9 (hval 2 9 v2 rfl rfl) h2
  clear hA0 hval0
  simp only [List.append_nil] at hW'
  refine (walk x0 y0 z0 wx0 wy0 wz0 a1 w1 a2 w2 W hE).mono fun e W' ⟨he, hb⟩ => ?_
  subst he
  exact ⟨_, rfl, _, _, _, [], [], [], hW', (trodAll_cons_mk (shut_bool Tryd.underlying4 _) trodAll_mk0), (trodAll_cons_mk (shut_date wx0 wy0 wz0) (trodAll_cons_mk (shut_int Tryd.underlying3 w1) (trodAll_cons_mk (Go.ChangeMaps.shut_string Tryd.underlying9 w2) trodAll_mk0))), rfl, hb.below.frame _, fun h => by cases h⟩

theorem over : Rows.civilTellsRow.holds Tryd.pinned (OpenSpec.ofChange Rows.civilTellsSpec) :=
  OpenClaim.holds_of_wide 3 Tryd.f3 rfl rfl rfl rfl rfl rfl rfl ⟨rfl, rfl, rfl, rfl, rfl⟩ rfl rfl rfl rfl rfl (by kernel_rfl) Tryd.func3 (by kernel_rfl)
    (of_decide_eq_true (by kernel_rfl)) (by unfold Func.isWrapper; first | (rw [if_pos (by decide +kernel)]; kernel_rfl) | (rw [if_neg (by decide +kernel)]; exact ⟨rfl, rfl⟩))
    (fun os started H enc _ => lifted os started H enc)
end Go.Proofs.YtbdninnopfdnbaaDoor.civilTells
namespace Go.Proofs.YtbdninnopfdnbaaDoor
theorem civilTells_holds : Rows.CivilTellsCardSaid :=
  Claim7.holds_tied_plain_at .later [] [.data, .data, .data, .sentinel, .sentinel, .data] true (true, "f9020bd6947e917c8eb02aa199ac44401b4a49270a74dcbb55531bc928ef3fbb") true civilTells.over (fun _ h => by cases h) (by kernel_rfl) (fun _ h => by cases h) civilTells_row_tie rfl ⟨rfl, rfl⟩ (by kernel_rfl) rfl
    (fun f fn hf hfn => by
      obtain rfl : f = 3 := Option.some.inj ((show Tryd.prog.funcNamed "quittance/quittancelaw03.CivilTells" = some 3 by kernel_rfl).symm.trans hf) |>.symm
      obtain rfl : fn = Tryd.f3 := (Option.some.inj (Tryd.func3.symm.trans hfn)).symm
      exact ⟨by kernel_rfl, fun j t ht => by
        rw [Tryd.params3] at ht
        have hm : t ∈ [23, 3, 9] := by simpa using Array.mem_of_getElem? ht
        have hall : ([23, 3, 9].all fun u => !Tryd.prog.wantsStandIn u) = true := by kernel_rfl
        exact (show Tryd.prog.wantsStandIn t = false by simpa using List.all_eq_true.1 hall t hm)⟩)
    (by kernel_rfl)
#print axioms civilTells_holds
end Go.Proofs.YtbdninnopfdnbaaDoor
