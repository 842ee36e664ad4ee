/- For all ints day, every and times, of the project's tree at the commit that COMMIT names, MonthlySteps returns true and leaves its arguments as they were, with the listed variables laid as the program's text lays them. -/
import Derived.Test.YtnpclkkjhbljbaaDoorFrame
import Derived.Test.YtnpclkkjhbljbaaDoorMon9
namespace Go.Proofs.YtnpclkkjhbljbaaDoor.monthlySteps
open Go.ChangeShapes Go.WideShapes Go.ChangeAt Go.RowKit Go.Lib
set_option linter.unusedVariables false

set_option maxRecDepth 100000 in
set_option maxHeartbeats 4000000 in

theorem walk (a0 : Int) (w0 : (Lit.int .i64 a0).wf = true) (a1 : Int) (w1 : (Lit.int .i64 a1).wf = true) (a2 : Int) (w2 : (Lit.int .i64 a2).wf = true) (w : World) (he : Env w) :
    Calls Tryd.prog 4 #[.int .i64 a0, .int .i64 a1, .int .i64 a2] w fun e w' => e = .returned (.bool true) ∧ Ext w w' := by
  replace he : Hid (Env w) := he
  clear w0 w1 w2
  obtain ⟨u0, hu0⟩ : ∃ u, IntKind.u64.wrap a0 = u := ⟨_, rfl⟩
  have p0 : 0 ≤ u0 ∧ u0 < 18446744073709551616 := by rw [← hu0, IntKind.wrap_u64]; omega
  obtain ⟨r0, s0⟩ := p0
  obtain ⟨v0, hv0⟩ : ∃ v, u0 % 100000 = v := ⟨_, rfl⟩
  have p0 : 0 ≤ v0 ∧ v0 < 100000 := by omega
  obtain ⟨g0, l0⟩ := p0
  obtain ⟨u1, hu1⟩ : ∃ u, IntKind.u64.wrap a1 = u := ⟨_, rfl⟩
  have p1 : 0 ≤ u1 ∧ u1 < 18446744073709551616 := by rw [← hu1, IntKind.wrap_u64]; omega
  obtain ⟨r1, s1⟩ := p1
  obtain ⟨v1, hv1⟩ : ∃ v, u1 % 12 = v := ⟨_, rfl⟩
  have p1 : 0 ≤ v1 ∧ v1 < 12 := by omega
  obtain ⟨g1, l1⟩ := p1
  obtain ⟨u2, hu2⟩ : ∃ u, IntKind.u64.wrap a2 = u := ⟨_, rfl⟩
  have p2 : 0 ≤ u2 ∧ u2 < 18446744073709551616 := by rw [← hu2, IntKind.wrap_u64]; omega
  obtain ⟨r2, s2⟩ := p2
  obtain ⟨v2, hv2⟩ : ∃ v, u2 % 24 = v := ⟨_, rfl⟩
  have p2 : 0 ≤ v2 ∧ v2 < 24 := by omega
  obtain ⟨g2, l2⟩ := p2
  obtain ⟨N, hN⟩ : ∃ N, -25567 + v0 = N := ⟨_, rfl⟩
  have n1 : -25567 ≤ N := by omega
  have n2 : N ≤ 74432 := by omega
  obtain ⟨ev, hev⟩ : ∃ ev, 1 + v1 = ev := ⟨_, rfl⟩
  have e1 : 1 ≤ ev := by omega
  have e2 : ev ≤ 12 := by omega
  obtain ⟨T, hT⟩ : ∃ T : Nat, 1 + v2 = (T : Int) := ⟨(1 + v2).toNat, by omega⟩
  have t1 : 1 ≤ T := by omega
  have t2 : T ≤ 24 := by omega
  have hD : Hid (∀ w : World, Hid (Env w) → Calls Tryd.prog 9 #[.int .i64 N, .int .i64 ev, .int .i64 T] w fun e w' => (∃ g, e = .returned (.tuple #[.slice (some ⟨g, 0, none⟩) T T, .int .i64 0]) ∧ Arr w' g T (serA N ev)) ∧ Ext w w') := fun w he => Dates_ok N ev T w n1 (by omega) e1 e2 t1 (by omega) (fun j hj => nE_ok (all4 N ev T j n1 n2 e1 e2 t2 hj)) he
  have hP : Hid (∀ w : World, Calls Tryd.prog 13 #[.int .i64 N] w fun e w' => e = .returned (.tuple #[.agg #[.int .i64 (yOf N), .int .i64 (mOf N), .int .i64 (dOf N)], .int .i64 0]) ∧ Ext w w') := fun w => rDate_f N w n1 (by omega)
  have hS : Hid (∀ k, k < T → ∃ y m d, Step N ev k y m d ∧ ∀ w : World, Calls Tryd.prog 13 #[.int .i64 (serA N ev k)] w fun e w' => e = .returned (.tuple #[.agg #[.int .i64 y, .int .i64 m, .int .i64 d], .int .i64 0]) ∧ Ext w w') := fun k hk => by
    have q := step_of N ev T k n1 n2 e1 e2 t2 hk
    exact ⟨_, _, _, q, fun w => rDate_f _ w q.b1 q.b2⟩
  have hU : Hid (∀ k, k + 1 < T → serA N ev k < serA N ev (k + 1)) := fun k hk => step_up N ev T k n1 n2 e1 e2 t2 hk
  have hB : Hid (∀ k, k < T → 1 ≤ ((k : Int) + 1) * ev ∧ ((k : Int) + 1) * ev ≤ 7200) := fun k hk => by rw [mul_comm']; exact mul_bd ev k e1 e2 (by omega)
  have hV := (ofDay N n1 (by omega)).1
  have y1 := hV.y1; have y2 := hV.y2; have m1 := hV.m1; have m2 := hV.m2; have d1 := hV.d1; have d2 := hV.d31
  clear hV
  go_enter Tryd.func4, Tryd.ntmps4
  go_wp2_with fail
  refine (hD.out _ he).mono ?_
  rintro e wd ⟨⟨g, rfl, hr⟩, hx1⟩
  replace hr := show Hid _ from hr
  replace he : Hid (Env wd) := he.out.ext hx1
  have hx := show Hid (Ext w wd) from hx1
  clear hx1
  go_wp2_with fail
  refine (awake_c _ he).mono ?_
  rintro e we ⟨rfl, hx1⟩
  replace hr : Hid (Arr we g T (serA N ev)) := hr.out.ext hx1
  replace he : Hid (Env we) := he.out.ext hx1
  replace hx : Hid (Ext w we) := hx.out.trans hx1
  clear hx1
  go_wp2_with fail
  refine (hP.out _).mono ?_
  rintro e wf ⟨rfl, hx1⟩
  replace hr : Hid (Arr wf g T (serA N ev)) := hr.out.ext hx1
  replace he : Hid (Env wf) := he.out.ext hx1
  replace hx : Hid (Ext w wf) := hx.out.trans hx1
  clear hx1
  go_wp2_with fail
  obtain ⟨W0, b, hW0, hb, hxb, k0, k1, k2⟩ := box3 wf (.int .i64 (yOf N)) (.int .i64 (mOf N)) (.int .i64 (dOf N)) 33
  rw [hW0, hb]
  clear hW0 hb
  replace hr : Hid (Arr W0 g T (serA N ev)) := hr.out.ext hxb
  replace hx : Hid (Ext w W0) := hx.out.trans hxb
  clear hxb hD hP he
  go_loopw [11] (fun i wr => ∃ k : Nat, k ≤ T ∧ i = .int .i64 k ∧ Hid (Ext W0 wr)) (fun i _ => T - (RowKit.intOf i).toNat)
  case atStart => exact ⟨0, Nat.zero_le _, rfl, Ext.refl W0⟩
  case round =>
    obtain ⟨k, hk, rfl, hxx⟩ := hrel
    by_cases hlt : k < T
    · obtain ⟨y, m, d, hs, hC⟩ := hS.out k hlt
      replace hC := show Hid _ from hC
      have dd := hs.dd; have mm := hs.mm; have up := hs.up; have b1 := hs.b1; have b2 := hs.b2
      have z1 := hs.v.y1; have z2 := hs.v.y2; have z3 := hs.v.m1; have z4 := hs.v.m2; have z5 := hs.v.d1; have z6 := hs.v.d31
      clear hs
      have c0 := hxx.out.cell_of (hr.out.cell k hlt)
      have q0 := hxx.out.cell_of k0; have q1 := hxx.out.cell_of k1; have q2 := hxx.out.cell_of k2
      obtain ⟨X, hX⟩ : ∃ X, ((k : Int) + 1) * ev = X := ⟨_, rfl⟩
      obtain ⟨x1, x2⟩ := hB.out k hlt
      rw [hX] at mm x1 x2
      rcases Nat.eq_zero_or_pos k with hk0 | hk0
      · subst hk0
        have hXe : X = ev := by rw [← hX]; simp
        rw [hXe] at mm x1 x2
        clear hX hXe
        have fm : (12 * y + m - (12 * yOf N + mOf N) != ev) = false := by rw [mm]; simp
        clear mm
        rcases dd with dd | ⟨dm, dl⟩
        · generalize serA N ev 0 = L at *
          have f4 : decide (L ≤ N) = false := decide_eq_false (by omega)
          subst dd
          go_wp2_with fail
          refine (hC.out _).mono ?_
          rintro e w1 ⟨rfl, hx1⟩
          replace c0 := hx1.cell_of c0
          replace q0 := hx1.cell_of q0
          replace q1 := hx1.cell_of q1
          replace q2 := hx1.cell_of q2
          replace hxx : Hid (Ext W0 w1) := hxx.out.trans hx1
          clear hx1 hC
          go_wp2_with fail
          obtain ⟨W1, c, hW1, hc, hxb, j0, j1, j2⟩ := box3 w1 (.int .i64 y) (.int .i64 m) (.int .i64 (dOf N)) 33
          rw [hW1, hc]
          clear hW1 hc
          replace c0 := hxb.cell_of c0
          replace q0 := hxb.cell_of q0
          replace q1 := hxb.cell_of q1
          replace q2 := hxb.cell_of q2
          replace hxx : Hid (Ext W0 W1) := hxx.out.trans hxb
          clear hxb
          have lc0 := Late.cell c0
          have lq0 := Late.cell q0
          have lq1 := Late.cell q1
          have lq2 := Late.cell q2
          have lj0 := Late.cell j0
          have lj1 := Late.cell j1
          have lj2 := Late.cell j2
          have hNe1 : Nonempty (Late W1) := ⟨⟨_, Ext.refl _⟩⟩
          try simp only [List.append_eq, List.cons_append, List.nil_append]
          refine wp_region_late (by kernel_rfl) (by kernel_rfl) ?_
          repeat (go_big_quiet_step ((first
            | fail)))
          refine wpQuiet_nil ?_
          intro W2 hw'
          have hx2 := late_ext hw'
          clear hw' lc0 lq0 lq1 lq2 lj0 lj1 lj2
          replace q0 := hx2.cell_of q0
          replace q1 := hx2.cell_of q1
          replace q2 := hx2.cell_of q2
          replace j0 := hx2.cell_of j0
          replace j1 := hx2.cell_of j1
          replace j2 := hx2.cell_of j2
          replace hxx : Hid (Ext W0 W2) := hxx.out.trans hx2
          clear hx2
          go_wp2
          go_roundw
          case rel => exact ⟨0 + 1, by omega, by go_num, hxx⟩
          case measure => simp [RowKit.intOf]; omega
        · have hM : Hid (∀ w : World, Calls Tryd.prog 14 #[.int .i64 y, .int .i64 m] w fun e w' => e = .returned (.int .i64 d) ∧ w' = w) := fun w => dm ▸ rMonth_c y m w (by unfold I64; omega)
          have f1 : decide (d = dOf N) = false := decide_eq_false (by omega)
          have f2 : decide (dOf N < d) = false := decide_eq_false (by omega)
          have hne : ¬ d = dOf N := by omega
          have hnx : (d != dOf N) = true := bne_iff_ne.2 hne
          clear dm
          generalize serA N ev 0 = L at *
          have f4 : decide (L ≤ N) = false := decide_eq_false (by omega)
          go_wp2_with fail
          refine (hC.out _).mono ?_
          rintro e w1 ⟨rfl, hx1⟩
          replace c0 := hx1.cell_of c0
          replace q0 := hx1.cell_of q0
          replace q1 := hx1.cell_of q1
          replace q2 := hx1.cell_of q2
          replace hxx : Hid (Ext W0 w1) := hxx.out.trans hx1
          clear hx1 hC
          go_wp2_with fail
          obtain ⟨W1, c, hW1, hc, hxb, j0, j1, j2⟩ := box3 w1 (.int .i64 y) (.int .i64 m) (.int .i64 d) 33
          rw [hW1, hc]
          clear hW1 hc
          replace c0 := hxb.cell_of c0
          replace q0 := hxb.cell_of q0
          replace q1 := hxb.cell_of q1
          replace q2 := hxb.cell_of q2
          replace hxx : Hid (Ext W0 W1) := hxx.out.trans hxb
          clear hxb
          have lc0 := Late.cell c0
          have lq0 := Late.cell q0
          have lq1 := Late.cell q1
          have lq2 := Late.cell q2
          have lj0 := Late.cell j0
          have lj1 := Late.cell j1
          have lj2 := Late.cell j2
          have hNe1 : Nonempty (Late W1) := ⟨⟨_, Ext.refl _⟩⟩
          try simp only [List.append_eq, List.cons_append, List.nil_append]
          refine wp_region_late (by kernel_rfl) (by kernel_rfl) ?_
          repeat (go_big_quiet_step ((first
            | (go_at_call 14; exact late_same (hM.out _)))))
          refine wpQuiet_nil ?_
          intro W2 hw'
          have hx2 := late_ext hw'
          clear hw' lc0 lq0 lq1 lq2 lj0 lj1 lj2
          replace q0 := hx2.cell_of q0
          replace q1 := hx2.cell_of q1
          replace q2 := hx2.cell_of q2
          replace j0 := hx2.cell_of j0
          replace j1 := hx2.cell_of j1
          replace j2 := hx2.cell_of j2
          replace hxx : Hid (Ext W0 W2) := hxx.out.trans hx2
          clear hx2
          go_wp2
          go_roundw
          case rel => exact ⟨0 + 1, by omega, by go_num, hxx⟩
          case measure => simp [RowKit.intOf]; omega
      · obtain ⟨p, rfl⟩ : ∃ p, k = p + 1 := ⟨k - 1, by omega⟩
        replace hX : ((p : Int) + 1 + 1) * ev = X := hX
        have fm : (12 * y + m - (12 * yOf N + mOf N) != X) = false := by rw [mm]; simp
        clear mm
        rcases dd with dd | ⟨dm, dl⟩
        · have c1 := hxx.out.cell_of (hr.out.cell p (by omega))
          have up1 := hU.out p hlt
          generalize serA N ev p = L1 at *
          generalize serA N ev (p + 1) = L at *
          have f4 : decide (L ≤ N) = false := decide_eq_false (by omega)
          have f3 : decide (L ≤ L1) = false := decide_eq_false (by omega)
          subst dd
          go_wp2_with fail
          refine (hC.out _).mono ?_
          rintro e w1 ⟨rfl, hx1⟩
          replace c0 := hx1.cell_of c0
          replace q0 := hx1.cell_of q0
          replace q1 := hx1.cell_of q1
          replace q2 := hx1.cell_of q2
          replace c1 := hx1.cell_of c1
          replace hxx : Hid (Ext W0 w1) := hxx.out.trans hx1
          clear hx1 hC
          go_wp2_with fail
          obtain ⟨W1, c, hW1, hc, hxb, j0, j1, j2⟩ := box3 w1 (.int .i64 y) (.int .i64 m) (.int .i64 (dOf N)) 33
          rw [hW1, hc]
          clear hW1 hc
          replace c0 := hxb.cell_of c0
          replace q0 := hxb.cell_of q0
          replace q1 := hxb.cell_of q1
          replace q2 := hxb.cell_of q2
          replace c1 := hxb.cell_of c1
          replace hxx : Hid (Ext W0 W1) := hxx.out.trans hxb
          clear hxb
          have lc0 := Late.cell c0
          have lq0 := Late.cell q0
          have lq1 := Late.cell q1
          have lq2 := Late.cell q2
          have lc1 := Late.cell c1
          have lj0 := Late.cell j0
          have lj1 := Late.cell j1
          have lj2 := Late.cell j2
          have hNe1 : Nonempty (Late W1) := ⟨⟨_, Ext.refl _⟩⟩
          try simp only [List.append_eq, List.cons_append, List.nil_append]
          refine wp_region_late (by kernel_rfl) (by kernel_rfl) ?_
          repeat (go_big_quiet_step ((first
            | fail)))
          refine wpQuiet_nil ?_
          intro W2 hw'
          have hx2 := late_ext hw'
          clear hw' lc0 lq0 lq1 lq2 lc1 lj0 lj1 lj2
          replace q0 := hx2.cell_of q0
          replace q1 := hx2.cell_of q1
          replace q2 := hx2.cell_of q2
          replace j0 := hx2.cell_of j0
          replace j1 := hx2.cell_of j1
          replace j2 := hx2.cell_of j2
          replace hxx : Hid (Ext W0 W2) := hxx.out.trans hx2
          clear hx2
          go_wp2
          go_roundw
          case rel => exact ⟨(p + 1) + 1, by omega, by go_num, hxx⟩
          case measure => simp [RowKit.intOf]; omega
        · have hM : Hid (∀ w : World, Calls Tryd.prog 14 #[.int .i64 y, .int .i64 m] w fun e w' => e = .returned (.int .i64 d) ∧ w' = w) := fun w => dm ▸ rMonth_c y m w (by unfold I64; omega)
          have f1 : decide (d = dOf N) = false := decide_eq_false (by omega)
          have f2 : decide (dOf N < d) = false := decide_eq_false (by omega)
          have hne : ¬ d = dOf N := by omega
          have hnx : (d != dOf N) = true := bne_iff_ne.2 hne
          clear dm
          have c1 := hxx.out.cell_of (hr.out.cell p (by omega))
          have up1 := hU.out p hlt
          generalize serA N ev p = L1 at *
          generalize serA N ev (p + 1) = L at *
          have f4 : decide (L ≤ N) = false := decide_eq_false (by omega)
          have f3 : decide (L ≤ L1) = false := decide_eq_false (by omega)
          go_wp2_with fail
          refine (hC.out _).mono ?_
          rintro e w1 ⟨rfl, hx1⟩
          replace c0 := hx1.cell_of c0
          replace q0 := hx1.cell_of q0
          replace q1 := hx1.cell_of q1
          replace q2 := hx1.cell_of q2
          replace c1 := hx1.cell_of c1
          replace hxx : Hid (Ext W0 w1) := hxx.out.trans hx1
          clear hx1 hC
          go_wp2_with fail
          obtain ⟨W1, c, hW1, hc, hxb, j0, j1, j2⟩ := box3 w1 (.int .i64 y) (.int .i64 m) (.int .i64 d) 33
          rw [hW1, hc]
          clear hW1 hc
          replace c0 := hxb.cell_of c0
          replace q0 := hxb.cell_of q0
          replace q1 := hxb.cell_of q1
          replace q2 := hxb.cell_of q2
          replace c1 := hxb.cell_of c1
          replace hxx : Hid (Ext W0 W1) := hxx.out.trans hxb
          clear hxb
          have lc0 := Late.cell c0
          have lq0 := Late.cell q0
          have lq1 := Late.cell q1
          have lq2 := Late.cell q2
          have lc1 := Late.cell c1
          have lj0 := Late.cell j0
          have lj1 := Late.cell j1
          have lj2 := Late.cell j2
          have hNe1 : Nonempty (Late W1) := ⟨⟨_, Ext.refl _⟩⟩
          try simp only [List.append_eq, List.cons_append, List.nil_append]
          refine wp_region_late (by kernel_rfl) (by kernel_rfl) ?_
          repeat (go_big_quiet_step ((first
            | (go_at_call 14; exact late_same (hM.out _)))))
          refine wpQuiet_nil ?_
          intro W2 hw'
          have hx2 := late_ext hw'
          clear hw' lc0 lq0 lq1 lq2 lc1 lj0 lj1 lj2
          replace q0 := hx2.cell_of q0
          replace q1 := hx2.cell_of q1
          replace q2 := hx2.cell_of q2
          replace j0 := hx2.cell_of j0
          replace j1 := hx2.cell_of j1
          replace j2 := hx2.cell_of j2
          replace hxx : Hid (Ext W0 W2) := hxx.out.trans hx2
          clear hx2
          go_wp2
          go_roundw
          case rel => exact ⟨(p + 1) + 1, by omega, by go_num, hxx⟩
          case measure => simp [RowKit.intOf]; omega
    · obtain rfl : k = T := by omega
      go_wp2
      go_ret
      exact ⟨rfl, hx.out.trans hxx.out⟩

set_option maxRecDepth 100000 in
theorem lifted (os : Os) (started : os.Started) (H : Type) (enc : TypeId × Value → H) :
    ReturnsInHanded {} Tryd.checked os 4 .any (fun w args => (Rows.monthlyStepsSpec.pre enc Tryd.prog Tryd.f4 [] false w args ∧ laidMetH Tryd.prog laid w) ∧ sizedMet enc Tryd.prog Tryd.f4 (OpenSpec.ofChange Rows.monthlyStepsSpec) false w args)
      (Rows.monthlyStepsSpec.post enc Tryd.prog Tryd.f4 false true false false) := by
  refine wrap started (by kernel_rfl) Tryd.func4
    (ChangeSpec.witness_shaped (enc := enc) (C := Tryd.checked) (os := os) (X := fun w _ => laidMetH Tryd.prog laid w) false (World.laidAll Tryd.prog os laid) #[.int .i64 0, .int .i64 0, .int .i64 0] 8 (World.laidAll_os _ _ _)
      (World.shaped_of_ZipB (by kernel_rfl) (by kernel_rfl)) (by kernel_rfl) (by kernel_rfl) (by kernel_rfl)
      (by rw [MakeChecks.laidMetH_plain _ _ _ (by kernel_rfl)]; exact laidMet_laidAll _ (by kernel_rfl) (by kernel_rfl))) ?_
  intro W base args ds gs before hval0 hW hE
  have hval : ∀ (j : Nat) t v, Tryd.f4.params[j]? = some t → args[j]? = some v → Value.okWide Tryd.prog W .any base t v := hval0
  have hW' := hW
  obtain ⟨p, q, hA0, hV, rfl, _, _⟩ := hW
  have hA : DataW.TrodAll enc Tryd.prog W 0 (fun _ => true) true Tryd.f4.params.toList args.toList ds p := hA0
  rw [Tryd.params4] at hA hval
  obtain ⟨v0, vs0, d0, ds0, p0, q0, hargs, rfl, rfl, h0, r0⟩ := trodAll_cons hA
  obtain ⟨v1, vs1, d1, ds1, p1, q1, rfl, rfl, rfl, h1, r1⟩ := trodAll_cons r0
  obtain ⟨v2, vs2, d2, ds2, p2, q2, rfl, rfl, rfl, h2, r2⟩ := trodAll_cons r1
  obtain ⟨rfl, rfl, rfl⟩ := trodAll_nil r2
  obtain rfl : args = #[v0, v1, v2] := by cases args; simp_all
  obtain ⟨rfl, rfl⟩ := trodVars_none hV
  obtain ⟨a0, rfl, rfl, rfl, w0⟩ := open_int Tryd.underlying3 (hval 0 3 v0 rfl rfl) h0
  obtain ⟨a1, rfl, rfl, rfl, w1⟩ := open_int Tryd.underlying3 (hval 1 3 v1 rfl rfl) h1
  obtain ⟨a2, rfl, rfl, rfl, w2⟩ := open_int Tryd.underlying3 (hval 2 3 v2 rfl rfl) h2
  clear hA0 hval0
  simp only [List.append_nil] at hW'
  refine (walk a0 w0 a1 w1 a2 w2 W hE).mono fun e W' ⟨he, hb⟩ => ?_
  subst he
  exact ⟨_, rfl, _, _, _, [], [], [], hW', (trodAll_cons_mk (shut_bool Tryd.underlying4 _) trodAll_mk0), (trodAll_cons_mk (shut_int Tryd.underlying3 w0) (trodAll_cons_mk (shut_int Tryd.underlying3 w1) (trodAll_cons_mk (shut_int Tryd.underlying3 w2) trodAll_mk0))), rfl, hb.below.frame _, fun h => by cases h⟩

theorem over : Rows.monthlyStepsRow.holds Tryd.pinned (OpenSpec.ofChange Rows.monthlyStepsSpec) :=
  OpenClaim.holds_of_wide 4 Tryd.f4 rfl rfl rfl rfl rfl rfl rfl ⟨rfl, rfl, rfl, rfl, rfl⟩ rfl rfl rfl rfl rfl (by kernel_rfl) Tryd.func4 (by kernel_rfl)
    (of_decide_eq_true (by kernel_rfl)) (by unfold Func.isWrapper; first | (rw [if_pos (by decide +kernel)]; kernel_rfl) | (rw [if_neg (by decide +kernel)]; exact ⟨rfl, rfl⟩))
    (fun os started H enc _ => lifted os started H enc)
end Go.Proofs.YtnpclkkjhbljbaaDoor.monthlySteps
namespace Go.Proofs.YtnpclkkjhbljbaaDoor
theorem monthlySteps_holds : Rows.MonthlyStepsCardSaid :=
  Claim7.holds_tied_plain_at .later [] [.data] true (true, "f64786f04bd68122c1fe47ea3c9234a45002eee6a7814b61a031ff2083509a08") false monthlySteps.over (fun _ h => by cases h) (by kernel_rfl) (fun _ h => by cases h) monthlySteps_row_tie rfl ⟨rfl, rfl⟩ (by kernel_rfl) rfl
    (fun f fn hf hfn => by
      obtain rfl : f = 4 := Option.some.inj ((show Tryd.prog.funcNamed "quittance/quittancelaw04.MonthlySteps" = some 4 by kernel_rfl).symm.trans hf) |>.symm
      obtain rfl : fn = Tryd.f4 := (Option.some.inj (Tryd.func4.symm.trans hfn)).symm
      exact ⟨by kernel_rfl, fun j t ht => by
        rw [Tryd.params4] at ht
        have hm : t ∈ [3, 3, 3] := by simpa using Array.mem_of_getElem? ht
        have hall : ([3, 3, 3].all fun u => !Tryd.prog.wantsStandIn u) = true := by kernel_rfl
        exact (show Tryd.prog.wantsStandIn t = false by simpa using List.all_eq_true.1 hall t hm)⟩)
    (by kernel_rfl)
#print axioms monthlySteps_holds
end Go.Proofs.YtnpclkkjhbljbaaDoor
