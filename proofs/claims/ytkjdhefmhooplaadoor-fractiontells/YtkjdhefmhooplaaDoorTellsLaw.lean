/- For all ints count, from and to, of the project's tree at the commit that COMMIT names, FractionTells returns true and leaves its arguments as they were, with the listed variables laid as the program's text lays them. -/
import Derived.Test.YtkjdhefmhooplaaDoorFrame
namespace Go.Proofs.YtkjdhefmhooplaaDoor.fractionTells
open Go.ChangeShapes Go.WideShapes Go.ChangeAt Go.RowKit Go.Lib
set_option linter.unusedVariables false

set_option maxHeartbeats 4000000 in

theorem walk (a0 : Int) (w0 : (Lit.int .i64 a0).wf = true) (a1 : Int) (w1 : (Lit.int .i64 a1).wf = true) (a2 : Int) (w2 : (Lit.int .i64 a2).wf = true) (w : World) (he : Env w) :
    Calls Tryd.prog 3 #[.int .i64 a0, .int .i64 a1, .int .i64 a2] w fun e w' => e = .returned (.bool true) ∧ Ext w w' := by
  replace he : Hid (Env w) := he
  clear w0 w1 w2
  have hP : Hid (∀ w : World, Calls Tryd.prog 8 #[.int .i64 a0] w fun e w' => e = .returned (.tuple #[.int .i64 (ptA a0), .int .i64 (ptE a0)]) ∧ Ext w w') := fun w => Parts_c a0 w
  have hR : Hid (∀ w : World, Calls Tryd.prog 9 #[.int .i64 a0] w fun e w' => e = .returned (.tuple #[.int .i64 (ptA a0), .int .i64 (ptE a0)]) ∧ w' = w) := fun w => rParts_c a0 w
  go_enter Tryd.func3, Tryd.ntmps3
  go_wp2_with fail
  refine (near_c _ _ _).mono ?_
  rintro e w1 ⟨⟨T, rfl⟩, rfl⟩
  have hB : Hid (∀ w : World, Hid (Env w) → Calls Tryd.prog 10 #[.int .i64 a0, .int .i64 a1, .int .i64 T] w fun e w' => e = .returned (.tuple #[.int .i64 (btA a0 a1 T), .int .i64 (btE a0 a1 T)]) ∧ Ext w w') := fun w he => Between_c a0 a1 T w he
  have hS : Hid (∀ w : World, Calls Tryd.prog 11 #[.int .i64 a0, .int .i64 a1, .int .i64 T] w fun e w' => e = .returned (.tuple #[.int .i64 (btA a0 a1 T), .int .i64 (btE a0 a1 T)]) ∧ Ext w w') := fun w => rBetween_c a0 a1 T w
  generalize ptA a0 = P at *
  generalize ptE a0 = E at *
  generalize btA a0 a1 T = Q at *
  generalize btE a0 a1 T = F at *
  go_wp2_with fail
  refine (hP.out _).mono ?_
  rintro e w2 ⟨rfl, hx1⟩
  replace he : Hid (Env w2) := he.out.ext hx1
  have hx := show Hid (Ext w1 w2) from hx1
  clear hx1
  go_wp2_with fail
  refine (hR.out _).mono ?_
  rintro e w2 ⟨rfl, rfl⟩
  go_wp2_with fail
  refine (hB.out _ he).mono ?_
  rintro e w3 ⟨rfl, hx1⟩
  replace he : Hid (Env w3) := he.out.ext hx1
  replace hx : Hid (Ext w1 w3) := hx.out.trans hx1
  clear hx1
  go_wp2_with fail
  refine (hS.out _).mono ?_
  rintro e w4 ⟨rfl, hx1⟩
  replace he : Hid (Env w4) := he.out.ext hx1
  replace hx : Hid (Ext w1 w4) := hx.out.trans hx1
  clear hx1
  go_wp2_with fail
  refine (awake_c _ he).mono ?_
  rintro e w5 ⟨rfl, hx1⟩
  replace hx : Hid (Ext w1 w5) := hx.out.trans hx1
  clear hx1
  clear hP hR hB hS
  go_wp2
  go_ret
  exact ⟨rfl, hx.out⟩

set_option maxRecDepth 100000 in
theorem lifted (os : Os) (started : os.Started) (H : Type) (enc : TypeId × Value → H) :
    ReturnsInHanded {} Tryd.checked os 3 .any (fun w args => (Rows.fractionTellsSpec.pre enc Tryd.prog Tryd.f3 [] false w args ∧ laidMetH Tryd.prog laid w) ∧ sizedMet enc Tryd.prog Tryd.f3 (OpenSpec.ofChange Rows.fractionTellsSpec) false w args)
      (Rows.fractionTellsSpec.post enc Tryd.prog Tryd.f3 false true false false) := by
  refine wrap started (by kernel_rfl) Tryd.func3
    (ChangeSpec.witness_shaped (enc := enc) (C := Tryd.checked) (os := os) (X := fun w _ => laidMetH Tryd.prog laid w) false (World.laidAll Tryd.prog os laid) #[.int .i64 0, .int .i64 0, .int .i64 0] 8 (World.laidAll_os _ _ _)
      (World.shaped_of_ZipB (by kernel_rfl) (by kernel_rfl)) (by kernel_rfl) (by kernel_rfl) (by kernel_rfl)
      (by rw [MakeChecks.laidMetH_plain _ _ _ (by kernel_rfl)]; exact laidMet_laidAll _ (by kernel_rfl) (by kernel_rfl))) ?_
  intro W base args ds gs before hval0 hW hE
  have hval : ∀ (j : Nat) t v, Tryd.f3.params[j]? = some t → args[j]? = some v → Value.okWide Tryd.prog W .any base t v := hval0
  have hW' := hW
  obtain ⟨p, q, hA0, hV, rfl, _, _⟩ := hW
  have hA : DataW.TrodAll enc Tryd.prog W 0 (fun _ => true) true Tryd.f3.params.toList args.toList ds p := hA0
  rw [Tryd.params3] at hA hval
  obtain ⟨v0, vs0, d0, ds0, p0, q0, hargs, rfl, rfl, h0, r0⟩ := trodAll_cons hA
  obtain ⟨v1, vs1, d1, ds1, p1, q1, rfl, rfl, rfl, h1, r1⟩ := trodAll_cons r0
  obtain ⟨v2, vs2, d2, ds2, p2, q2, rfl, rfl, rfl, h2, r2⟩ := trodAll_cons r1
  obtain ⟨rfl, rfl, rfl⟩ := trodAll_nil r2
  obtain rfl : args = #[v0, v1, v2] := by cases args; simp_all
  obtain ⟨rfl, rfl⟩ := trodVars_none hV
  obtain ⟨a0, rfl, rfl, rfl, w0⟩ := open_int Tryd.underlying3 (hval 0 3 v0 rfl rfl) h0
  obtain ⟨a1, rfl, rfl, rfl, w1⟩ := open_int Tryd.underlying3 (hval 1 3 v1 rfl rfl) h1
  obtain ⟨a2, rfl, rfl, rfl, w2⟩ := open_int Tryd.underlying3 (hval 2 3 v2 rfl rfl) h2
  clear hA0 hval0
  simp only [List.append_nil] at hW'
  refine (walk a0 w0 a1 w1 a2 w2 W hE).mono fun e W' ⟨he, hb⟩ => ?_
  subst he
  exact ⟨_, rfl, _, _, _, [], _, [], hW', (trodAll_cons_mk (shut_bool Tryd.underlying4 _) trodAll_mk0), (trodAll_cons_mk (shut_int Tryd.underlying3 w0) (trodAll_cons_mk (shut_int Tryd.underlying3 w1) (trodAll_cons_mk (shut_int Tryd.underlying3 w2) trodAll_mk0))), rfl, hb.below.frame _, fun h => by cases h⟩

theorem over : Rows.fractionTellsRow.holds Tryd.pinned (OpenSpec.ofChange Rows.fractionTellsSpec) :=
  OpenClaim.holds_of_wide 3 Tryd.f3 rfl rfl rfl rfl rfl rfl rfl ⟨rfl, rfl, rfl, rfl, rfl⟩ rfl rfl rfl rfl rfl (by kernel_rfl) Tryd.func3 (by kernel_rfl)
    (of_decide_eq_true (by kernel_rfl)) (by unfold Func.isWrapper; first | (rw [if_pos (by decide +kernel)]; kernel_rfl) | (rw [if_neg (by decide +kernel)]; exact ⟨rfl, rfl⟩))
    (fun os started H enc _ => lifted os started H enc)
end Go.Proofs.YtkjdhefmhooplaaDoor.fractionTells
namespace Go.Proofs.YtkjdhefmhooplaaDoor
theorem fractionTells_holds : Rows.FractionTellsCardSaid :=
  Claim7.holds_tied_plain_at .later [] [.data] true (true, "07fceca6bf3a052230ee5bdebad8d05fb1e1a50b7abbfdd8d74db451e6f620fb") true fractionTells.over (fun _ h => by cases h) (by kernel_rfl) (fun _ h => by cases h) fractionTells_row_tie rfl ⟨rfl, rfl⟩ (by kernel_rfl) rfl
    (fun f fn hf hfn => by
      obtain rfl : f = 3 := Option.some.inj ((show Tryd.prog.funcNamed "quittance/quittancelaw06.FractionTells" = some 3 by kernel_rfl).symm.trans hf) |>.symm
      obtain rfl : fn = Tryd.f3 := (Option.some.inj (Tryd.func3.symm.trans hfn)).symm
      exact ⟨by kernel_rfl, fun j t ht => by
        rw [Tryd.params3] at ht
        have hm : t ∈ [3, 3, 3] := by simpa using Array.mem_of_getElem? ht
        have hall : ([3, 3, 3].all fun u => !Tryd.prog.wantsStandIn u) = true := by kernel_rfl
        exact (show Tryd.prog.wantsStandIn t = false by simpa using List.all_eq_true.1 hall t hm)⟩)
    (by kernel_rfl)
#print axioms fractionTells_holds
end Go.Proofs.YtkjdhefmhooplaaDoor
