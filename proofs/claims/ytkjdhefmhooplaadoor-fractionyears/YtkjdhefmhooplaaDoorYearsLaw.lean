/- For all ints year and years, of the project's tree at the commit that COMMIT names, FractionYears returns true and leaves its arguments as they were, with the listed variables laid as the program's text lays them. -/
import Derived.Test.YtkjdhefmhooplaaDoorFrame
namespace Go.Proofs.YtkjdhefmhooplaaDoor.fractionYears
open Go.ChangeShapes Go.WideShapes Go.ChangeAt Go.RowKit Go.Lib
set_option linter.unusedVariables false

set_option maxHeartbeats 4000000 in

theorem walk (a0 : Int) (w0 : (Lit.int .i64 a0).wf = true) (a1 : Int) (w1 : (Lit.int .i64 a1).wf = true) (w : World) (he : Env w) :
    Calls Tryd.prog 5 #[.int .i64 a0, .int .i64 a1] w fun e w' => e = .returned (.bool true) ∧ Ext w w' := by
  replace he : Hid (Env w) := he
  clear w0 w1
  obtain ⟨u0, hu0⟩ : ∃ u, IntKind.u64.wrap a0 = u := ⟨_, rfl⟩
  have p0 : 0 ≤ u0 ∧ u0 < 18446744073709551616 := by rw [← hu0, IntKind.wrap_u64]; omega
  obtain ⟨r0, s0⟩ := p0
  obtain ⟨v0, hv0⟩ : ∃ v, u0 % 250 = v := ⟨_, rfl⟩
  have p0 : 0 ≤ v0 ∧ v0 < 250 := by omega
  obtain ⟨g0, l0⟩ := p0
  obtain ⟨u1, hu1⟩ : ∃ u, IntKind.u64.wrap a1 = u := ⟨_, rfl⟩
  have p1 : 0 ≤ u1 ∧ u1 < 18446744073709551616 := by rw [← hu1, IntKind.wrap_u64]; omega
  obtain ⟨r1, s1⟩ := p1
  obtain ⟨v1, hv1⟩ : ∃ v, u1 % 50 = v := ⟨_, rfl⟩
  have p1 : 0 ≤ v1 ∧ v1 < 50 := by omega
  obtain ⟨g1, l1⟩ := p1
  obtain ⟨Y, hY⟩ : ∃ Y, 1900 + v0 = Y := ⟨_, rfl⟩
  obtain ⟨Z, hZ⟩ : ∃ Z, Y + v1 = Z := ⟨_, rfl⟩
  have Y1 : 1900 ≤ Y := by omega
  have Y2 : Y ≤ 2149 := by omega
  have Z1 : 1900 ≤ Z := by omega
  have Z2 : Z ≤ 2198 := by omega
  have bY := num_bd (vld_of Y1 (by omega : Y ≤ 2200) (by omega : (1:Int) ≤ 1) (by omega) (by omega : (1:Int) ≤ 1) (by omega))
  have bZ := num_bd (vld_of Z1 (by omega : Z ≤ 2200) (by omega : (1:Int) ≤ 1) (by omega) (by omega : (1:Int) ≤ 1) (by omega))
  rw [num_11] at bY bZ
  have tY := plT_st Y Y1 (by omega); have tZ := plT_st Z Z1 (by omega)
  have aY := plA_st Y Y1 (by omega); have aZ := plA_st Z Z1 (by omega)
  have hfY : Hid (∀ w : World, Calls Tryd.prog 15 #[.int .i64 Y] w fun e w' => e = .returned (.int .i64 (st Y)) ∧ w' = w) := fun w => first_c Y w Y1 (by omega)
  have hfZ : Hid (∀ w : World, Calls Tryd.prog 15 #[.int .i64 Z] w fun e w' => e = .returned (.int .i64 (st Z)) ∧ w' = w) := fun w => first_c Z w Z1 (by omega)
  obtain ⟨A, hA⟩ : ∃ A, st Y = A := ⟨_, rfl⟩
  obtain ⟨C, hC⟩ : ∃ C, st Z = C := ⟨_, rfl⟩
  rw [hA] at bY tY aY hfY
  rw [hC] at bZ tZ aZ hfZ
  clear hA hC
  have h1 : Hid (∀ w : World, Hid (Env w) → Calls Tryd.prog 10 #[.int .i64 (1), .int .i64 (A), .int .i64 (C)] w fun e w' => e = .returned (.tuple #[.int .i64 (360 * v1), .int .i64 0]) ∧ Ext w w') := fun w he => by
    have h := Between_ok 1 (A) (C) w (by omega) (by omega) bY bZ he
    rwa [plc_1, plc_1, show plT C - plT A = 360 * v1 by omega] at h
  have h3 : Hid (∀ w : World, Hid (Env w) → Calls Tryd.prog 10 #[.int .i64 (3), .int .i64 (A), .int .i64 (C)] w fun e w' => e = .returned (.tuple #[.int .i64 (133590 * v1), .int .i64 0]) ∧ Ext w w') := fun w he => by
    have h := Between_ok 3 (A) (C) w (by omega) (by omega) bY bZ he
    rwa [plc_3, plc_3, show plA C - plA A = 133590 * v1 by omega] at h
  have h2 : Hid (∀ w : World, Hid (Env w) → Calls Tryd.prog 10 #[.int .i64 (2), .int .i64 (A), .int .i64 (C)] w fun e w' => e = .returned (.tuple #[.int .i64 (C - A), .int .i64 0]) ∧ Ext w w') := fun w he => by
    have h := Between_ok 2 (A) (C) w (by omega) (by omega) bY bZ he
    rwa [plc_2, plc_2] at h
  obtain ⟨bY1, bY2⟩ := bY
  obtain ⟨bZ1, bZ2⟩ := bZ
  clear tY tZ aY aZ
  go_enter Tryd.func5, Tryd.ntmps5
  go_wp2_with fail
  refine (hfY.out _).mono ?_
  rintro e w ⟨rfl, rfl⟩
  go_wp2_with fail
  refine (hfZ.out _).mono ?_
  rintro e w ⟨rfl, rfl⟩
  go_wp2_with fail
  refine (h1.out _ he).mono ?_
  rintro e w1 ⟨rfl, hx1⟩
  replace he : Hid (Env w1) := he.out.ext hx1
  have hx := show Hid (Ext w w1) from hx1
  clear hx1
  go_wp2_with fail
  refine (h3.out _ he).mono ?_
  rintro e w2 ⟨rfl, hx1⟩
  replace he : Hid (Env w2) := he.out.ext hx1
  replace hx : Hid (Ext w w2) := hx.out.trans hx1
  clear hx1
  go_wp2_with fail
  refine (h2.out _ he).mono ?_
  rintro e w3 ⟨rfl, hx1⟩
  replace he : Hid (Env w3) := he.out.ext hx1
  replace hx : Hid (Ext w w3) := hx.out.trans hx1
  clear hx1
  go_wp2_with fail
  refine (awake_c _ he).mono ?_
  rintro e w4 ⟨rfl, hx1⟩
  replace he : Hid (Env w4) := he.out.ext hx1
  replace hx : Hid (Ext w w4) := hx.out.trans hx1
  clear hx1
  clear h1 h2 h3 hfY hfZ
  go_wp2
  go_ret
  exact ⟨rfl, hx.out⟩

set_option maxRecDepth 100000 in
theorem lifted (os : Os) (started : os.Started) (H : Type) (enc : TypeId × Value → H) :
    ReturnsInHanded {} Tryd.checked os 5 .any (fun w args => (Rows.fractionYearsSpec.pre enc Tryd.prog Tryd.f5 [] false w args ∧ laidMetH Tryd.prog laid w) ∧ sizedMet enc Tryd.prog Tryd.f5 (OpenSpec.ofChange Rows.fractionYearsSpec) false w args)
      (Rows.fractionYearsSpec.post enc Tryd.prog Tryd.f5 false true false false) := by
  refine wrap started (by kernel_rfl) Tryd.func5
    (ChangeSpec.witness_shaped (enc := enc) (C := Tryd.checked) (os := os) (X := fun w _ => laidMetH Tryd.prog laid w) false (World.laidAll Tryd.prog os laid) #[.int .i64 0, .int .i64 0] 8 (World.laidAll_os _ _ _)
      (World.shaped_of_ZipB (by kernel_rfl) (by kernel_rfl)) (by kernel_rfl) (by kernel_rfl) (by kernel_rfl)
      (by rw [MakeChecks.laidMetH_plain _ _ _ (by kernel_rfl)]; exact laidMet_laidAll _ (by kernel_rfl) (by kernel_rfl))) ?_
  intro W base args ds gs before hval0 hW hE
  have hval : ∀ (j : Nat) t v, Tryd.f5.params[j]? = some t → args[j]? = some v → Value.okWide Tryd.prog W .any base t v := hval0
  have hW' := hW
  obtain ⟨p, q, hA0, hV, rfl, _, _⟩ := hW
  have hA : DataW.TrodAll enc Tryd.prog W 0 (fun _ => true) true Tryd.f5.params.toList args.toList ds p := hA0
  rw [Tryd.params5] at hA hval
  obtain ⟨v0, vs0, d0, ds0, p0, q0, hargs, rfl, rfl, h0, r0⟩ := trodAll_cons hA
  obtain ⟨v1, vs1, d1, ds1, p1, q1, rfl, rfl, rfl, h1, r1⟩ := trodAll_cons r0
  obtain ⟨rfl, rfl, rfl⟩ := trodAll_nil r1
  obtain rfl : args = #[v0, v1] := by cases args; simp_all
  obtain ⟨rfl, rfl⟩ := trodVars_none hV
  obtain ⟨a0, rfl, rfl, rfl, w0⟩ := open_int Tryd.underlying3 (hval 0 3 v0 rfl rfl) h0
  obtain ⟨a1, rfl, rfl, rfl, w1⟩ := open_int Tryd.underlying3 (hval 1 3 v1 rfl rfl) h1
  clear hA0 hval0
  simp only [List.append_nil] at hW'
  refine (walk a0 w0 a1 w1 W hE).mono fun e W' ⟨he, hb⟩ => ?_
  subst he
  exact ⟨_, rfl, _, _, _, [], _, [], hW', (trodAll_cons_mk (shut_bool Tryd.underlying4 _) trodAll_mk0), (trodAll_cons_mk (shut_int Tryd.underlying3 w0) (trodAll_cons_mk (shut_int Tryd.underlying3 w1) trodAll_mk0)), rfl, hb.below.frame _, fun h => by cases h⟩

theorem over : Rows.fractionYearsRow.holds Tryd.pinned (OpenSpec.ofChange Rows.fractionYearsSpec) :=
  OpenClaim.holds_of_wide 5 Tryd.f5 rfl rfl rfl rfl rfl rfl rfl ⟨rfl, rfl, rfl, rfl, rfl⟩ rfl rfl rfl rfl rfl (by kernel_rfl) Tryd.func5 (by kernel_rfl)
    (of_decide_eq_true (by kernel_rfl)) (by unfold Func.isWrapper; first | (rw [if_pos (by decide +kernel)]; kernel_rfl) | (rw [if_neg (by decide +kernel)]; exact ⟨rfl, rfl⟩))
    (fun os started H enc _ => lifted os started H enc)
end Go.Proofs.YtkjdhefmhooplaaDoor.fractionYears
namespace Go.Proofs.YtkjdhefmhooplaaDoor
theorem fractionYears_holds : Rows.FractionYearsCardSaid :=
  Claim7.holds_tied_plain_at .later [] [.data] true (true, "07fceca6bf3a052230ee5bdebad8d05fb1e1a50b7abbfdd8d74db451e6f620fb") true fractionYears.over (fun _ h => by cases h) (by kernel_rfl) (fun _ h => by cases h) fractionYears_row_tie rfl ⟨rfl, rfl⟩ (by kernel_rfl) rfl
    (fun f fn hf hfn => by
      obtain rfl : f = 5 := Option.some.inj ((show Tryd.prog.funcNamed "quittance/quittancelaw06.FractionYears" = some 5 by kernel_rfl).symm.trans hf) |>.symm
      obtain rfl : fn = Tryd.f5 := (Option.some.inj (Tryd.func5.symm.trans hfn)).symm
      exact ⟨by kernel_rfl, fun j t ht => by
        rw [Tryd.params5] at ht
        have hm : t ∈ [3, 3] := by simpa using Array.mem_of_getElem? ht
        have hall : ([3, 3].all fun u => !Tryd.prog.wantsStandIn u) = true := by kernel_rfl
        exact (show Tryd.prog.wantsStandIn t = false by simpa using List.all_eq_true.1 hall t hm)⟩)
    (by kernel_rfl)
#print axioms fractionYears_holds
end Go.Proofs.YtkjdhefmhooplaaDoor
