/- For all ints count, a, b and c, of the project's tree at the commit that COMMIT names, FractionSplits returns true and leaves its arguments as they were, with the listed variables laid as the program's text lays them. -/
import Derived.Test.YtkjdhefmhooplaaDoorFrame
namespace Go.Proofs.YtkjdhefmhooplaaDoor.fractionSplits
open Go.ChangeShapes Go.WideShapes Go.ChangeAt Go.RowKit Go.Lib
set_option linter.unusedVariables false

set_option maxHeartbeats 4000000 in

theorem walk (a0 : Int) (w0 : (Lit.int .i64 a0).wf = true) (a1 : Int) (w1 : (Lit.int .i64 a1).wf = true) (a2 : Int) (w2 : (Lit.int .i64 a2).wf = true) (a3 : Int) (w3 : (Lit.int .i64 a3).wf = true) (w : World) (he : Env w) :
    Calls Tryd.prog 4 #[.int .i64 a0, .int .i64 a1, .int .i64 a2, .int .i64 a3] w fun e w' => e = .returned (.bool true) ∧ Ext w w' := by
  replace he : Hid (Env w) := he
  clear w0 w1 w2 w3
  obtain ⟨u0, hu0⟩ : ∃ u, IntKind.u64.wrap a0 = u := ⟨_, rfl⟩
  have p0 : 0 ≤ u0 ∧ u0 < 18446744073709551616 := by rw [← hu0, IntKind.wrap_u64]; omega
  obtain ⟨r0, s0⟩ := p0
  obtain ⟨v0, hv0⟩ : ∃ v, u0 % 3 = v := ⟨_, rfl⟩
  have p0 : 0 ≤ v0 ∧ v0 < 3 := by omega
  obtain ⟨g0, l0⟩ := p0
  obtain ⟨K, hK⟩ : ∃ K, 1 + v0 = K := ⟨_, rfl⟩
  have K1 : 1 ≤ K := by omega
  have K2 : K ≤ 3 := by omega
  go_enter Tryd.func4, Tryd.ntmps4
  go_wp2_with fail
  refine (day_c _ _).mono ?_
  rintro e w ⟨⟨A, rfl, A1, A2⟩, rfl⟩
  go_wp2_with fail
  refine (day_c _ _).mono ?_
  rintro e w ⟨⟨B, rfl, B1, B2⟩, rfl⟩
  go_wp2_with fail
  refine (day_c _ _).mono ?_
  rintro e w ⟨⟨C, rfl, C1, C2⟩, rfl⟩
  have pA := plc_bd K A1 (by omega); have pB := plc_bd K B1 (by omega); have pC := plc_bd K C1 (by omega)
  have nA := plc_next K A K1 K2 A1 (by omega)
  obtain ⟨x, hX⟩ : ∃ x, plc K B - plc K A = x := ⟨_, rfl⟩
  obtain ⟨y, hY⟩ : ∃ y, plc K C - plc K B = y := ⟨_, rfl⟩
  obtain ⟨z, hZ⟩ : ∃ z, plc K C - plc K A = z := ⟨_, rfl⟩
  obtain ⟨q, hQ⟩ : ∃ q, plc K A - plc K C = q := ⟨_, rfl⟩
  obtain ⟨o, hO⟩ : ∃ o, oneP K A = o := ⟨_, rfl⟩
  have h1 : Hid (∀ w : World, Hid (Env w) → Calls Tryd.prog 10 #[.int .i64 (K), .int .i64 (A), .int .i64 (B)] w fun e w' => e = .returned (.tuple #[.int .i64 (x), .int .i64 0]) ∧ Ext w w') := fun w he => by
    have h := Between_ok K (A) (B) w K1 K2 ⟨A1, by omega⟩ ⟨B1, by omega⟩ he
    rwa [hX] at h
  have h2 : Hid (∀ w : World, Hid (Env w) → Calls Tryd.prog 10 #[.int .i64 (K), .int .i64 (B), .int .i64 (C)] w fun e w' => e = .returned (.tuple #[.int .i64 (y), .int .i64 0]) ∧ Ext w w') := fun w he => by
    have h := Between_ok K (B) (C) w K1 K2 ⟨B1, by omega⟩ ⟨C1, by omega⟩ he
    rwa [hY] at h
  have h3 : Hid (∀ w : World, Hid (Env w) → Calls Tryd.prog 10 #[.int .i64 (K), .int .i64 (A), .int .i64 (C)] w fun e w' => e = .returned (.tuple #[.int .i64 (z), .int .i64 0]) ∧ Ext w w') := fun w he => by
    have h := Between_ok K (A) (C) w K1 K2 ⟨A1, by omega⟩ ⟨C1, by omega⟩ he
    rwa [hZ] at h
  have h4 : Hid (∀ w : World, Hid (Env w) → Calls Tryd.prog 10 #[.int .i64 (K), .int .i64 (C), .int .i64 (A)] w fun e w' => e = .returned (.tuple #[.int .i64 (q), .int .i64 0]) ∧ Ext w w') := fun w he => by
    have h := Between_ok K (C) (A) w K1 K2 ⟨C1, by omega⟩ ⟨A1, by omega⟩ he
    rwa [hQ] at h
  have h5 : Hid (∀ w : World, Hid (Env w) → Calls Tryd.prog 10 #[.int .i64 (K), .int .i64 (A), .int .i64 (A + 1)] w fun e w' => e = .returned (.tuple #[.int .i64 (o), .int .i64 0]) ∧ Ext w w') := fun w he => by
    have h := Between_ok K (A) (A + 1) w K1 K2 ⟨A1, by omega⟩ ⟨by omega, by omega⟩ he
    rwa [show plc K (A + 1) - plc K A = o by omega] at h
  have h6 : Hid (∀ w : World, Calls Tryd.prog 14 #[.int .i64 K, .int .i64 A] w fun e w' => e = .returned (.int .i64 o) ∧ Ext w w') := fun w => by
    have h := One_c K A w K1 K2 A1 (by omega)
    rwa [hO] at h
  have x1 : -800000000 ≤ x ∧ x ≤ 800000000 := by omega
  have y1 : -800000000 ≤ y ∧ y ≤ 800000000 := by omega
  have z1 : -800000000 ≤ z ∧ z ≤ 800000000 := by omega
  have e1 : x + y = z := by omega
  have e2 : -z = q := by omega
  obtain ⟨x1, x2⟩ := x1
  obtain ⟨y1, y2⟩ := y1
  obtain ⟨z1, z2⟩ := z1
  clear pA pB pC nA hX hY hZ hQ hO
  go_wp2_with fail
  refine (h1.out _ he).mono ?_
  rintro e w1 ⟨rfl, hx1⟩
  replace he : Hid (Env w1) := he.out.ext hx1
  have hx := show Hid (Ext w w1) from hx1
  clear hx1
  go_wp2_with fail
  refine (h2.out _ he).mono ?_
  rintro e w2 ⟨rfl, hx1⟩
  replace he : Hid (Env w2) := he.out.ext hx1
  replace hx : Hid (Ext w w2) := hx.out.trans hx1
  clear hx1
  go_wp2_with fail
  refine (h3.out _ he).mono ?_
  rintro e w3 ⟨rfl, hx1⟩
  replace he : Hid (Env w3) := he.out.ext hx1
  replace hx : Hid (Ext w w3) := hx.out.trans hx1
  clear hx1
  go_wp2_with fail
  refine (h4.out _ he).mono ?_
  rintro e w4 ⟨rfl, hx1⟩
  replace he : Hid (Env w4) := he.out.ext hx1
  replace hx : Hid (Ext w w4) := hx.out.trans hx1
  clear hx1
  go_wp2_with fail
  refine (h5.out _ he).mono ?_
  rintro e w5 ⟨rfl, hx1⟩
  replace he : Hid (Env w5) := he.out.ext hx1
  replace hx : Hid (Ext w w5) := hx.out.trans hx1
  clear hx1
  go_wp2_with fail
  refine (awake_c _ he).mono ?_
  rintro e w6 ⟨rfl, hx1⟩
  replace he : Hid (Env w6) := he.out.ext hx1
  replace hx : Hid (Ext w w6) := hx.out.trans hx1
  clear hx1
  go_wp2_with fail
  refine (h6.out _).mono ?_
  rintro e w7 ⟨rfl, hx1⟩
  replace he : Hid (Env w7) := he.out.ext hx1
  replace hx : Hid (Ext w w7) := hx.out.trans hx1
  clear hx1
  clear h1 h2 h3 h4 h5 h6
  go_wp2
  go_ret
  exact ⟨rfl, hx.out⟩

set_option maxRecDepth 100000 in
theorem lifted (os : Os) (started : os.Started) (H : Type) (enc : TypeId × Value → H) :
    ReturnsInHanded {} Tryd.checked os 4 .any (fun w args => (Rows.fractionSplitsSpec.pre enc Tryd.prog Tryd.f4 [] false w args ∧ laidMetH Tryd.prog laid w) ∧ sizedMet enc Tryd.prog Tryd.f4 (OpenSpec.ofChange Rows.fractionSplitsSpec) false w args)
      (Rows.fractionSplitsSpec.post enc Tryd.prog Tryd.f4 false true false false) := by
  refine wrap started (by kernel_rfl) Tryd.func4
    (ChangeSpec.witness_shaped (enc := enc) (C := Tryd.checked) (os := os) (X := fun w _ => laidMetH Tryd.prog laid w) false (World.laidAll Tryd.prog os laid) #[.int .i64 0, .int .i64 0, .int .i64 0, .int .i64 0] 8 (World.laidAll_os _ _ _)
      (World.shaped_of_ZipB (by kernel_rfl) (by kernel_rfl)) (by kernel_rfl) (by kernel_rfl) (by kernel_rfl)
      (by rw [MakeChecks.laidMetH_plain _ _ _ (by kernel_rfl)]; exact laidMet_laidAll _ (by kernel_rfl) (by kernel_rfl))) ?_
  intro W base args ds gs before hval0 hW hE
  have hval : ∀ (j : Nat) t v, Tryd.f4.params[j]? = some t → args[j]? = some v → Value.okWide Tryd.prog W .any base t v := hval0
  have hW' := hW
  obtain ⟨p, q, hA0, hV, rfl, _, _⟩ := hW
  have hA : DataW.TrodAll enc Tryd.prog W 0 (fun _ => true) true Tryd.f4.params.toList args.toList ds p := hA0
  rw [Tryd.params4] at hA hval
  obtain ⟨v0, vs0, d0, ds0, p0, q0, hargs, rfl, rfl, h0, r0⟩ := trodAll_cons hA
  obtain ⟨v1, vs1, d1, ds1, p1, q1, rfl, rfl, rfl, h1, r1⟩ := trodAll_cons r0
  obtain ⟨v2, vs2, d2, ds2, p2, q2, rfl, rfl, rfl, h2, r2⟩ := trodAll_cons r1
  obtain ⟨v3, vs3, d3, ds3, p3, q3, rfl, rfl, rfl, h3, r3⟩ := trodAll_cons r2
  obtain ⟨rfl, rfl, rfl⟩ := trodAll_nil r3
  obtain rfl : args = #[v0, v1, v2, v3] := by cases args; simp_all
  obtain ⟨rfl, rfl⟩ := trodVars_none hV
  obtain ⟨a0, rfl, rfl, rfl, w0⟩ := open_int Tryd.underlying3 (hval 0 3 v0 rfl rfl) h0
  obtain ⟨a1, rfl, rfl, rfl, w1⟩ := open_int Tryd.underlying3 (hval 1 3 v1 rfl rfl) h1
  obtain ⟨a2, rfl, rfl, rfl, w2⟩ := open_int Tryd.underlying3 (hval 2 3 v2 rfl rfl) h2
  obtain ⟨a3, rfl, rfl, rfl, w3⟩ := open_int Tryd.underlying3 (hval 3 3 v3 rfl rfl) h3
  clear hA0 hval0
  simp only [List.append_nil] at hW'
  refine (walk a0 w0 a1 w1 a2 w2 a3 w3 W hE).mono fun e W' ⟨he, hb⟩ => ?_
  subst he
  exact ⟨_, rfl, _, _, _, [], _, [], hW', (trodAll_cons_mk (shut_bool Tryd.underlying4 _) trodAll_mk0), (trodAll_cons_mk (shut_int Tryd.underlying3 w0) (trodAll_cons_mk (shut_int Tryd.underlying3 w1) (trodAll_cons_mk (shut_int Tryd.underlying3 w2) (trodAll_cons_mk (shut_int Tryd.underlying3 w3) trodAll_mk0)))), rfl, hb.below.frame _, fun h => by cases h⟩

theorem over : Rows.fractionSplitsRow.holds Tryd.pinned (OpenSpec.ofChange Rows.fractionSplitsSpec) :=
  OpenClaim.holds_of_wide 4 Tryd.f4 rfl rfl rfl rfl rfl rfl rfl ⟨rfl, rfl, rfl, rfl, rfl⟩ rfl rfl rfl rfl rfl (by kernel_rfl) Tryd.func4 (by kernel_rfl)
    (of_decide_eq_true (by kernel_rfl)) (by unfold Func.isWrapper; first | (rw [if_pos (by decide +kernel)]; kernel_rfl) | (rw [if_neg (by decide +kernel)]; exact ⟨rfl, rfl⟩))
    (fun os started H enc _ => lifted os started H enc)
end Go.Proofs.YtkjdhefmhooplaaDoor.fractionSplits
namespace Go.Proofs.YtkjdhefmhooplaaDoor
theorem fractionSplits_holds : Rows.FractionSplitsCardSaid :=
  Claim7.holds_tied_plain_at .later [] [.data] true (true, "07fceca6bf3a052230ee5bdebad8d05fb1e1a50b7abbfdd8d74db451e6f620fb") true fractionSplits.over (fun _ h => by cases h) (by kernel_rfl) (fun _ h => by cases h) fractionSplits_row_tie rfl ⟨rfl, rfl⟩ (by kernel_rfl) rfl
    (fun f fn hf hfn => by
      obtain rfl : f = 4 := Option.some.inj ((show Tryd.prog.funcNamed "quittance/quittancelaw06.FractionSplits" = some 4 by kernel_rfl).symm.trans hf) |>.symm
      obtain rfl : fn = Tryd.f4 := (Option.some.inj (Tryd.func4.symm.trans hfn)).symm
      exact ⟨by kernel_rfl, fun j t ht => by
        rw [Tryd.params4] at ht
        have hm : t ∈ [3, 3, 3, 3] := by simpa using Array.mem_of_getElem? ht
        have hall : ([3, 3, 3, 3].all fun u => !Tryd.prog.wantsStandIn u) = true := by kernel_rfl
        exact (show Tryd.prog.wantsStandIn t = false by simpa using List.all_eq_true.1 hall t hm)⟩)
    (by kernel_rfl)
#print axioms fractionSplits_holds
end Go.Proofs.YtkjdhefmhooplaaDoor
