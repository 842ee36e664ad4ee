/- For all ints year, month and at, of the project's tree at the commit that COMMIT names, FractionMonths returns true and leaves its arguments as they were, with the listed variables laid as the program's text lays them. -/
import Derived.Test.YtkjdhefmhooplaaDoorFrame
namespace Go.Proofs.YtkjdhefmhooplaaDoor.fractionMonths
open Go.ChangeShapes Go.WideShapes Go.ChangeAt Go.RowKit Go.Lib
set_option linter.unusedVariables false

set_option maxHeartbeats 4000000 in

theorem walk (a0 : Int) (w0 : (Lit.int .i64 a0).wf = true) (a1 : Int) (w1 : (Lit.int .i64 a1).wf = true) (a2 : Int) (w2 : (Lit.int .i64 a2).wf = true) (w : World) (he : Env w) :
    Calls Tryd.prog 6 #[.int .i64 a0, .int .i64 a1, .int .i64 a2] w fun e w' => e = .returned (.bool true) ∧ Ext w w' := by
  replace he : Hid (Env w) := he
  clear w0 w1 w2
  obtain ⟨u0, hu0⟩ : ∃ u, IntKind.u64.wrap a0 = u := ⟨_, rfl⟩
  have p0 : 0 ≤ u0 ∧ u0 < 18446744073709551616 := by rw [← hu0, IntKind.wrap_u64]; omega
  obtain ⟨r0, s0⟩ := p0
  obtain ⟨v0, hv0⟩ : ∃ v, u0 % 300 = v := ⟨_, rfl⟩
  have p0 : 0 ≤ v0 ∧ v0 < 300 := by omega
  obtain ⟨g0, l0⟩ := p0
  obtain ⟨u1, hu1⟩ : ∃ u, IntKind.u64.wrap a1 = u := ⟨_, rfl⟩
  have p1 : 0 ≤ u1 ∧ u1 < 18446744073709551616 := by rw [← hu1, IntKind.wrap_u64]; omega
  obtain ⟨r1, s1⟩ := p1
  obtain ⟨v1, hv1⟩ : ∃ v, u1 % 11 = v := ⟨_, rfl⟩
  have p1 : 0 ≤ v1 ∧ v1 < 11 := by omega
  obtain ⟨g1, l1⟩ := p1
  obtain ⟨u2, hu2⟩ : ∃ u, IntKind.u64.wrap a2 = u := ⟨_, rfl⟩
  have p2 : 0 ≤ u2 ∧ u2 < 18446744073709551616 := by rw [← hu2, IntKind.wrap_u64]; omega
  obtain ⟨r2, s2⟩ := p2
  obtain ⟨v2, hv2⟩ : ∃ v, u2 % 28 = v := ⟨_, rfl⟩
  have p2 : 0 ≤ v2 ∧ v2 < 28 := by omega
  obtain ⟨g2, l2⟩ := p2
  obtain ⟨Y, hY⟩ : ∃ Y, 1900 + v0 = Y := ⟨_, rfl⟩
  obtain ⟨M, hM⟩ : ∃ M, 1 + v1 = M := ⟨_, rfl⟩
  obtain ⟨D, hD⟩ : ∃ D, 1 + v2 = D := ⟨_, rfl⟩
  have Y1 : 1900 ≤ Y := by omega
  have Y2 : Y ≤ 2199 := by omega
  have M1 : 1 ≤ M := by omega
  have M2 : M ≤ 11 := by omega
  have D1 : 1 ≤ D := by omega
  have D2 : D ≤ 28 := by omega
  have dj : dim Y 1 = 31 := rfl
  have V1 : Vld Y M D := vld_of Y1 (by omega) M1 (by omega) D1 D2
  have V2 : Vld Y (M + 1) D := vld_of Y1 (by omega) (by omega) (by omega) D1 D2
  have V3 : Vld Y 1 30 := ⟨Y1, by omega, by omega, by omega⟩
  have V4 : Vld Y 1 31 := ⟨Y1, by omega, by omega, by omega⟩
  have V5 : Vld Y 2 1 := vld_of Y1 (by omega) (by omega) (by omega) (by omega) (by omega)
  have N1 : Hid (∀ w, Hid (Env w) → Calls Tryd.prog 17 #[.agg #[.int .i64 Y, .int .i64 M, .int .i64 D]] w fun e w' => e = .returned (.tuple #[.int .i64 (num Y M D), .int .i64 0]) ∧ Ext w w') := fun w he => Number_ok _ _ _ w V1 he
  have N2 : Hid (∀ w, Hid (Env w) → Calls Tryd.prog 17 #[.agg #[.int .i64 Y, .int .i64 (M + 1), .int .i64 D]] w fun e w' => e = .returned (.tuple #[.int .i64 (num Y (M + 1) D), .int .i64 0]) ∧ Ext w w') := fun w he => Number_ok _ _ _ w V2 he
  have N3 : Hid (∀ w, Hid (Env w) → Calls Tryd.prog 17 #[.agg #[.int .i64 Y, .int .i64 1, .int .i64 30]] w fun e w' => e = .returned (.tuple #[.int .i64 (num Y 1 30), .int .i64 0]) ∧ Ext w w') := fun w he => Number_ok _ _ _ w V3 he
  have b1 := num_bd V1; have b2 := num_bd V2; have b3 := num_bd V3; have b4 := num_bd V4; have b5 := num_bd V5
  have q1 := plT_of V1; have q2 := plT_of V2; have q3 := plT_of V3; have q4 := plT_of V4; have q5 := plT_of V5
  have e4 : num Y 1 31 = num Y 1 30 + 1 := by unfold num; omega
  have e5 : num Y 2 1 = num Y 1 30 + 2 := by
    have := cum_succ Y 1 (by omega) (by omega)
    have := cum_one Y
    unfold num; rw [show (2 : Int) = 1 + 1 by omega]; omega
  rw [e4] at b4 q4
  rw [e5] at b5 q5
  rw [if_pos (by omega)] at q1 q2 q3 q5
  rw [if_neg (by omega)] at q4
  clear e4 e5 V1 V2 V3 V4 V5 dj
  generalize num Y M D = P at *
  generalize num Y (M + 1) D = Q at *
  generalize num Y 1 30 = X at *
  have h1 : Hid (∀ w : World, Hid (Env w) → Calls Tryd.prog 10 #[.int .i64 (1), .int .i64 (P), .int .i64 (Q)] w fun e w' => e = .returned (.tuple #[.int .i64 (30), .int .i64 0]) ∧ Ext w w') := fun w he => by
    have h := Between_ok 1 (P) (Q) w (by omega) (by omega) b1 b2 he
    rwa [plc_1, plc_1, show plT Q - plT P = 30 by omega] at h
  have h2 : Hid (∀ w : World, Hid (Env w) → Calls Tryd.prog 10 #[.int .i64 (1), .int .i64 (X), .int .i64 (X + 1)] w fun e w' => e = .returned (.tuple #[.int .i64 (0), .int .i64 0]) ∧ Ext w w') := fun w he => by
    have h := Between_ok 1 (X) (X + 1) w (by omega) (by omega) b3 b4 he
    rwa [plc_1, plc_1, show plT (X + 1) - plT X = 0 by omega] at h
  have h3 : Hid (∀ w : World, Hid (Env w) → Calls Tryd.prog 10 #[.int .i64 (1), .int .i64 (X + 1), .int .i64 (X + 2)] w fun e w' => e = .returned (.tuple #[.int .i64 (1), .int .i64 0]) ∧ Ext w w') := fun w he => by
    have h := Between_ok 1 (X + 1) (X + 2) w (by omega) (by omega) b4 b5 he
    rwa [plc_1, plc_1, show plT (X + 2) - plT (X + 1) = 1 by omega] at h
  clear q1 q2 q3 q4 q5
  obtain ⟨b11, b12⟩ := b1
  obtain ⟨b21, b22⟩ := b2
  obtain ⟨b31, b32⟩ := b3
  clear b4 b5
  go_enter Tryd.func6, Tryd.ntmps6
  go_wp2_with fail
  refine (N1.out _ he).mono ?_
  rintro e w1 ⟨rfl, hx1⟩
  replace he : Hid (Env w1) := he.out.ext hx1
  have hx := show Hid (Ext w w1) from hx1
  clear hx1
  go_wp2_with fail
  refine (N2.out _ he).mono ?_
  rintro e w2 ⟨rfl, hx1⟩
  replace he : Hid (Env w2) := he.out.ext hx1
  replace hx : Hid (Ext w w2) := hx.out.trans hx1
  clear hx1
  go_wp2_with fail
  refine (h1.out _ he).mono ?_
  rintro e w3 ⟨rfl, hx1⟩
  replace he : Hid (Env w3) := he.out.ext hx1
  replace hx : Hid (Ext w w3) := hx.out.trans hx1
  clear hx1
  go_wp2_with fail
  refine (N3.out _ he).mono ?_
  rintro e w4 ⟨rfl, hx1⟩
  replace he : Hid (Env w4) := he.out.ext hx1
  replace hx : Hid (Ext w w4) := hx.out.trans hx1
  clear hx1
  go_wp2_with fail
  refine (h2.out _ he).mono ?_
  rintro e w5 ⟨rfl, hx1⟩
  replace he : Hid (Env w5) := he.out.ext hx1
  replace hx : Hid (Ext w w5) := hx.out.trans hx1
  clear hx1
  go_wp2_with fail
  refine (h3.out _ he).mono ?_
  rintro e w6 ⟨rfl, hx1⟩
  replace he : Hid (Env w6) := he.out.ext hx1
  replace hx : Hid (Ext w w6) := hx.out.trans hx1
  clear hx1
  go_wp2_with fail
  refine (awake_c _ he).mono ?_
  rintro e w7 ⟨rfl, hx1⟩
  replace he : Hid (Env w7) := he.out.ext hx1
  replace hx : Hid (Ext w w7) := hx.out.trans hx1
  clear hx1
  clear N1 N2 N3 h1 h2 h3
  go_wp2
  go_ret
  exact ⟨rfl, hx.out⟩

set_option maxRecDepth 100000 in
theorem lifted (os : Os) (started : os.Started) (H : Type) (enc : TypeId × Value → H) :
    ReturnsInHanded {} Tryd.checked os 6 .any (fun w args => (Rows.fractionMonthsSpec.pre enc Tryd.prog Tryd.f6 [] false w args ∧ laidMetH Tryd.prog laid w) ∧ sizedMet enc Tryd.prog Tryd.f6 (OpenSpec.ofChange Rows.fractionMonthsSpec) false w args)
      (Rows.fractionMonthsSpec.post enc Tryd.prog Tryd.f6 false true false false) := by
  refine wrap started (by kernel_rfl) Tryd.func6
    (ChangeSpec.witness_shaped (enc := enc) (C := Tryd.checked) (os := os) (X := fun w _ => laidMetH Tryd.prog laid w) false (World.laidAll Tryd.prog os laid) #[.int .i64 0, .int .i64 0, .int .i64 0] 8 (World.laidAll_os _ _ _)
      (World.shaped_of_ZipB (by kernel_rfl) (by kernel_rfl)) (by kernel_rfl) (by kernel_rfl) (by kernel_rfl)
      (by rw [MakeChecks.laidMetH_plain _ _ _ (by kernel_rfl)]; exact laidMet_laidAll _ (by kernel_rfl) (by kernel_rfl))) ?_
  intro W base args ds gs before hval0 hW hE
  have hval : ∀ (j : Nat) t v, Tryd.f6.params[j]? = some t → args[j]? = some v → Value.okWide Tryd.prog W .any base t v := hval0
  have hW' := hW
  obtain ⟨p, q, hA0, hV, rfl, _, _⟩ := hW
  have hA : DataW.TrodAll enc Tryd.prog W 0 (fun _ => true) true Tryd.f6.params.toList args.toList ds p := hA0
  rw [Tryd.params6] at hA hval
  obtain ⟨v0, vs0, d0, ds0, p0, q0, hargs, rfl, rfl, h0, r0⟩ := trodAll_cons hA
  obtain ⟨v1, vs1, d1, ds1, p1, q1, rfl, rfl, rfl, h1, r1⟩ := trodAll_cons r0
  obtain ⟨v2, vs2, d2, ds2, p2, q2, rfl, rfl, rfl, h2, r2⟩ := trodAll_cons r1
  obtain ⟨rfl, rfl, rfl⟩ := trodAll_nil r2
  obtain rfl : args = #[v0, v1, v2] := by cases args; simp_all
  obtain ⟨rfl, rfl⟩ := trodVars_none hV
  obtain ⟨a0, rfl, rfl, rfl, w0⟩ := open_int Tryd.underlying3 (hval 0 3 v0 rfl rfl) h0
  obtain ⟨a1, rfl, rfl, rfl, w1⟩ := open_int Tryd.underlying3 (hval 1 3 v1 rfl rfl) h1
  obtain ⟨a2, rfl, rfl, rfl, w2⟩ := open_int Tryd.underlying3 (hval 2 3 v2 rfl rfl) h2
  clear hA0 hval0
  simp only [List.append_nil] at hW'
  refine (walk a0 w0 a1 w1 a2 w2 W hE).mono fun e W' ⟨he, hb⟩ => ?_
  subst he
  exact ⟨_, rfl, _, _, _, [], _, [], hW', (trodAll_cons_mk (shut_bool Tryd.underlying4 _) trodAll_mk0), (trodAll_cons_mk (shut_int Tryd.underlying3 w0) (trodAll_cons_mk (shut_int Tryd.underlying3 w1) (trodAll_cons_mk (shut_int Tryd.underlying3 w2) trodAll_mk0))), rfl, hb.below.frame _, fun h => by cases h⟩

theorem over : Rows.fractionMonthsRow.holds Tryd.pinned (OpenSpec.ofChange Rows.fractionMonthsSpec) :=
  OpenClaim.holds_of_wide 6 Tryd.f6 rfl rfl rfl rfl rfl rfl rfl ⟨rfl, rfl, rfl, rfl, rfl⟩ rfl rfl rfl rfl rfl (by kernel_rfl) Tryd.func6 (by kernel_rfl)
    (of_decide_eq_true (by kernel_rfl)) (by unfold Func.isWrapper; first | (rw [if_pos (by decide +kernel)]; kernel_rfl) | (rw [if_neg (by decide +kernel)]; exact ⟨rfl, rfl⟩))
    (fun os started H enc _ => lifted os started H enc)
end Go.Proofs.YtkjdhefmhooplaaDoor.fractionMonths
namespace Go.Proofs.YtkjdhefmhooplaaDoor
theorem fractionMonths_holds : Rows.FractionMonthsCardSaid :=
  Claim7.holds_tied_plain_at .later [] [.data] true (true, "07fceca6bf3a052230ee5bdebad8d05fb1e1a50b7abbfdd8d74db451e6f620fb") true fractionMonths.over (fun _ h => by cases h) (by kernel_rfl) (fun _ h => by cases h) fractionMonths_row_tie rfl ⟨rfl, rfl⟩ (by kernel_rfl) rfl
    (fun f fn hf hfn => by
      obtain rfl : f = 6 := Option.some.inj ((show Tryd.prog.funcNamed "quittance/quittancelaw06.FractionMonths" = some 6 by kernel_rfl).symm.trans hf) |>.symm
      obtain rfl : fn = Tryd.f6 := (Option.some.inj (Tryd.func6.symm.trans hfn)).symm
      exact ⟨by kernel_rfl, fun j t ht => by
        rw [Tryd.params6] at ht
        have hm : t ∈ [3, 3, 3] := by simpa using Array.mem_of_getElem? ht
        have hall : ([3, 3, 3].all fun u => !Tryd.prog.wantsStandIn u) = true := by kernel_rfl
        exact (show Tryd.prog.wantsStandIn t = false by simpa using List.all_eq_true.1 hall t hm)⟩)
    (by kernel_rfl)
#print axioms fractionMonths_holds
end Go.Proofs.YtkjdhefmhooplaaDoor
