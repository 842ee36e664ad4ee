/- For all ints day, months, every and times, of the project's tree at the commit that COMMIT names, MonthlyTells returns true and leaves its arguments as they were, with the listed variables laid as the program's text lays them. -/
import Derived.Test.YtnpclkkjhbljbaaDoorFrame
import Derived.Test.YtnpclkkjhbljbaaDoorMon8
namespace Go.Proofs.YtnpclkkjhbljbaaDoor.monthlyTells
open Go.ChangeShapes Go.WideShapes Go.ChangeAt Go.RowKit Go.Lib
set_option linter.unusedVariables false

theorem nil_walk (a0 a1 a2 a3 x : Int) (w : World) (he : Hid (Env w)) (h1 : Hid (I64 a1))
    (hD : ∀ w : World, Hid (Env w) → Calls Tryd.prog 9 #[.int .i64 a0, .int .i64 a2, .int .i64 a3] w fun e w' => e = .returned (.tuple #[.slice none 0 0, .int .i64 x]) ∧ Ext w w')
    (hR : ∀ w : World, Hid (Env w) → Calls Tryd.prog 10 #[.int .i64 a0, .int .i64 a2, .int .i64 a3] w fun e w' => e = .returned (.tuple #[.slice none 0 0, .int .i64 x]) ∧ Ext w w') :
    Calls Tryd.prog 3 #[.int .i64 a0, .int .i64 a1, .int .i64 a2, .int .i64 a3] w fun e w' => e = .returned (.bool true) ∧ Ext w w' := by
  replace hD := show Hid _ from hD
  replace hR := show Hid _ from hR
  have hA : Hid (∀ w : World, Hid (Env w) → Calls Tryd.prog 7 #[.int .i64 a0, .int .i64 a1] w fun e w' => e = .returned (.tuple #[.int .i64 (nA a0 a1), .int .i64 (nE a0 a1)]) ∧ Ext w w') := fun w he => Add_c a0 a1 w h1 he
  have hB : Hid (∀ w : World, Hid (Env w) → Calls Tryd.prog 8 #[.int .i64 a0, .int .i64 a1] w fun e w' => e = .returned (.tuple #[.int .i64 (nA a0 a1), .int .i64 (nE a0 a1)]) ∧ Ext w w') := fun w he => rAdd_c a0 a1 w h1 he
  generalize nA a0 a1 = A at *
  generalize nE a0 a1 = E at *
  go_enter Tryd.func3, Tryd.ntmps3
  go_wp2_with fail
  refine (hA.out _ he).mono ?_
  rintro e w1 ⟨rfl, hx1⟩
  replace he : Hid (Env w1) := he.out.ext hx1
  have hx := show Hid (Ext w w1) from hx1
  clear hx1
  go_wp2_with fail
  refine (hB.out _ he).mono ?_
  rintro e w2 ⟨rfl, hx1⟩
  replace he : Hid (Env w2) := he.out.ext hx1
  replace hx : Hid (Ext w w2) := hx.out.trans hx1
  clear hx1
  go_wp2_with fail
  refine (hD.out _ he).mono ?_
  rintro e w3 ⟨rfl, hx1⟩
  replace he : Hid (Env w3) := he.out.ext hx1
  replace hx : Hid (Ext w w3) := hx.out.trans hx1
  clear hx1
  go_wp2_with fail
  refine (hR.out _ he).mono ?_
  rintro e w4 ⟨rfl, hx1⟩
  replace he : Hid (Env w4) := he.out.ext hx1
  replace hx : Hid (Ext w w4) := hx.out.trans hx1
  clear hx1
  go_wp2_with fail
  refine (awake_c _ he).mono ?_
  rintro e w5 ⟨rfl, hx1⟩
  replace he : Hid (Env w5) := he.out.ext hx1
  replace hx : Hid (Ext w w5) := hx.out.trans hx1
  clear hx1
  clear hA hB hD hR
  go_wp2_with (go_at_call 12; refine (Plain_nil _).mono ?_; rintro e w' ⟨rfl, rfl⟩)
  go_ret
  exact ⟨rfl, hx.out⟩
theorem list_walk (a0 a1 a2 : Int) (T : Nat) (f : Nat → Int) (w : World) (he : Hid (Env w)) (h1 : Hid (I64 a1)) (hT : T ≤ 600)
    (hD : ∀ w : World, Hid (Env w) → Calls Tryd.prog 9 #[.int .i64 a0, .int .i64 a2, .int .i64 T] w fun e w' => (∃ g, e = .returned (.tuple #[.slice (some ⟨g, 0, none⟩) T T, .int .i64 0]) ∧ Arr w' g T f) ∧ Ext w w')
    (hR : ∀ w : World, Hid (Env w) → Calls Tryd.prog 10 #[.int .i64 a0, .int .i64 a2, .int .i64 T] w fun e w' => (∃ g c, e = .returned (.tuple #[.slice (some ⟨g, 0, none⟩) T c, .int .i64 0]) ∧ Arr w' g T f) ∧ Ext w w') :
    Calls Tryd.prog 3 #[.int .i64 a0, .int .i64 a1, .int .i64 a2, .int .i64 T] w fun e w' => e = .returned (.bool true) ∧ Ext w w' := by
  replace hD := show Hid _ from hD
  replace hR := show Hid _ from hR
  have hA : Hid (∀ w : World, Hid (Env w) → Calls Tryd.prog 7 #[.int .i64 a0, .int .i64 a1] w fun e w' => e = .returned (.tuple #[.int .i64 (nA a0 a1), .int .i64 (nE a0 a1)]) ∧ Ext w w') := fun w he => Add_c a0 a1 w h1 he
  have hB : Hid (∀ w : World, Hid (Env w) → Calls Tryd.prog 8 #[.int .i64 a0, .int .i64 a1] w fun e w' => e = .returned (.tuple #[.int .i64 (nA a0 a1), .int .i64 (nE a0 a1)]) ∧ Ext w w') := fun w he => rAdd_c a0 a1 w h1 he
  generalize nA a0 a1 = A at *
  generalize nE a0 a1 = E at *
  go_enter Tryd.func3, Tryd.ntmps3
  go_wp2_with fail
  refine (hA.out _ he).mono ?_
  rintro e w1 ⟨rfl, hx1⟩
  replace he : Hid (Env w1) := he.out.ext hx1
  have hx := show Hid (Ext w w1) from hx1
  clear hx1
  go_wp2_with fail
  refine (hB.out _ he).mono ?_
  rintro e w2 ⟨rfl, hx1⟩
  replace he : Hid (Env w2) := he.out.ext hx1
  replace hx : Hid (Ext w w2) := hx.out.trans hx1
  clear hx1
  go_wp2_with fail
  refine (hD.out _ he).mono ?_
  rintro e wd ⟨⟨g, rfl, hr⟩, hx1⟩
  replace hr := show Hid _ from hr
  replace he : Hid (Env wd) := he.out.ext hx1
  replace hx : Hid (Ext w wd) := hx.out.trans hx1
  clear hx1
  go_wp2_with fail
  refine (hR.out _ he).mono ?_
  rintro e we ⟨⟨h, c, rfl, hq⟩, hx1⟩
  replace hr : Hid (Arr we g T f) := hr.out.ext hx1
  replace hq := show Hid _ from hq
  replace he : Hid (Env we) := he.out.ext hx1
  replace hx : Hid (Ext w we) := hx.out.trans hx1
  clear hx1
  go_wp2_with fail
  refine (awake_c _ he).mono ?_
  rintro e wf ⟨rfl, hx1⟩
  replace hr : Hid (Arr wf g T f) := hr.out.ext hx1
  replace hq : Hid (Arr wf h T f) := hq.out.ext hx1
  replace he : Hid (Env wf) := he.out.ext hx1
  replace hx : Hid (Ext w wf) := hx.out.trans hx1
  clear hx1
  clear hA hB hD hR
  go_wp2_with fail
  refine (Plain_t g h T T c f _ (by omega) hr.out hq.out).mono ?_
  rintro e wg ⟨rfl, hx1⟩
  replace he : Hid (Env wg) := he.out.ext hx1
  replace hx : Hid (Ext w wg) := hx.out.trans hx1
  clear hx1
  go_wp2
  go_ret
  exact ⟨rfl, hx.out⟩
set_option maxHeartbeats 4000000 in

theorem walk (a0 : Int) (w0 : (Lit.int .i64 a0).wf = true) (a1 : Int) (w1 : (Lit.int .i64 a1).wf = true) (a2 : Int) (w2 : (Lit.int .i64 a2).wf = true) (a3 : Int) (w3 : (Lit.int .i64 a3).wf = true) (w : World) (he : Env w) :
    Calls Tryd.prog 3 #[.int .i64 a0, .int .i64 a1, .int .i64 a2, .int .i64 a3] w fun e w' => e = .returned (.bool true) ∧ Ext w w' := by
  have h1 : Hid (I64 a1) := by exact bounds_i64 w1
  by_cases ha : a2 < 1 ∨ 12 < a2 ∨ a3 < 1 ∨ 600 < a3
  · exact nil_walk a0 a1 a2 a3 1 w he h1 (fun w _ => (Dates_arg a0 a2 a3 w ha).mono fun e w' h => ⟨h.1, by rw [h.2]; exact Ext.refl _⟩) (fun w _ => (rDates_arg a0 a2 a3 w ha).mono fun e w' h => ⟨h.1, by rw [h.2]; exact Ext.refl _⟩)
  · obtain ⟨T, rfl⟩ : ∃ T : Nat, a3 = (T : Int) := ⟨a3.toNat, by omega⟩
    by_cases hall : ∀ j, j < T → serE a0 a2 j = 0
    · have hh : Has a0 (a2 * ((0 : Nat) + 1 : Int)) := has_of (hall 0 (by omega))
      exact list_walk a0 a1 a2 T (serA a0 a2) w he h1 (by omega) (fun w he => Dates_ok a0 a2 T w hh.n1 hh.n2 (by omega) (by omega) (by omega) (by omega) hall he) (fun w he => rDates_ok a0 a2 T w (by omega) (by omega) (by omega) (by omega) hall he)
    · refine nil_walk a0 a1 a2 T 5 w he h1 (fun w he => ?_) (fun w he => rDates_no a0 a2 T w (by omega) (by omega) (by omega) (by omega) hall he)
      by_cases hn : a0 < -25567 ∨ 84370 < a0
      · exact Dates_day a0 a2 T w hn (by omega) (by omega) (by omega) (by omega)
      · exact Dates_no a0 a2 T w (by omega) (by omega) (by omega) (by omega) (by omega) (by omega) hall he

set_option maxRecDepth 100000 in
theorem lifted (os : Os) (started : os.Started) (H : Type) (enc : TypeId × Value → H) :
    ReturnsInHanded {} Tryd.checked os 3 .any (fun w args => (Rows.monthlyTellsSpec.pre enc Tryd.prog Tryd.f3 [] false w args ∧ laidMetH Tryd.prog laid w) ∧ sizedMet enc Tryd.prog Tryd.f3 (OpenSpec.ofChange Rows.monthlyTellsSpec) false w args)
      (Rows.monthlyTellsSpec.post enc Tryd.prog Tryd.f3 false true false false) := by
  refine wrap started (by kernel_rfl) Tryd.func3
    (ChangeSpec.witness_shaped (enc := enc) (C := Tryd.checked) (os := os) (X := fun w _ => laidMetH Tryd.prog laid w) false (World.laidAll Tryd.prog os laid) #[.int .i64 0, .int .i64 0, .int .i64 0, .int .i64 0] 8 (World.laidAll_os _ _ _)
      (World.shaped_of_ZipB (by kernel_rfl) (by kernel_rfl)) (by kernel_rfl) (by kernel_rfl) (by kernel_rfl)
      (by rw [MakeChecks.laidMetH_plain _ _ _ (by kernel_rfl)]; exact laidMet_laidAll _ (by kernel_rfl) (by kernel_rfl))) ?_
  intro W base args ds gs before hval0 hW hE
  have hval : ∀ (j : Nat) t v, Tryd.f3.params[j]? = some t → args[j]? = some v → Value.okWide Tryd.prog W .any base t v := hval0
  have hW' := hW
  obtain ⟨p, q, hA0, hV, rfl, _, _⟩ := hW
  have hA : DataW.TrodAll enc Tryd.prog W 0 (fun _ => true) true Tryd.f3.params.toList args.toList ds p := hA0
  rw [Tryd.params3] at hA hval
  obtain ⟨v0, vs0, d0, ds0, p0, q0, hargs, rfl, rfl, h0, r0⟩ := trodAll_cons hA
  obtain ⟨v1, vs1, d1, ds1, p1, q1, rfl, rfl, rfl, h1, r1⟩ := trodAll_cons r0
  obtain ⟨v2, vs2, d2, ds2, p2, q2, rfl, rfl, rfl, h2, r2⟩ := trodAll_cons r1
  obtain ⟨v3, vs3, d3, ds3, p3, q3, rfl, rfl, rfl, h3, r3⟩ := trodAll_cons r2
  obtain ⟨rfl, rfl, rfl⟩ := trodAll_nil r3
  obtain rfl : args = #[v0, v1, v2, v3] := by cases args; simp_all
  obtain ⟨rfl, rfl⟩ := trodVars_none hV
  obtain ⟨a0, rfl, rfl, rfl, w0⟩ := open_int Tryd.underlying3 (hval 0 3 v0 rfl rfl) h0
  obtain ⟨a1, rfl, rfl, rfl, w1⟩ := open_int Tryd.underlying3 (hval 1 3 v1 rfl rfl) h1
  obtain ⟨a2, rfl, rfl, rfl, w2⟩ := open_int Tryd.underlying3 (hval 2 3 v2 rfl rfl) h2
  obtain ⟨a3, rfl, rfl, rfl, w3⟩ := open_int Tryd.underlying3 (hval 3 3 v3 rfl rfl) h3
  clear hA0 hval0
  simp only [List.append_nil] at hW'
  refine (walk a0 w0 a1 w1 a2 w2 a3 w3 W hE).mono fun e W' ⟨he, hb⟩ => ?_
  subst he
  exact ⟨_, rfl, _, _, _, [], [], [], hW', (trodAll_cons_mk (shut_bool Tryd.underlying4 _) trodAll_mk0), (trodAll_cons_mk (shut_int Tryd.underlying3 w0) (trodAll_cons_mk (shut_int Tryd.underlying3 w1) (trodAll_cons_mk (shut_int Tryd.underlying3 w2) (trodAll_cons_mk (shut_int Tryd.underlying3 w3) trodAll_mk0)))), rfl, hb.below.frame _, fun h => by cases h⟩

theorem over : Rows.monthlyTellsRow.holds Tryd.pinned (OpenSpec.ofChange Rows.monthlyTellsSpec) :=
  OpenClaim.holds_of_wide 3 Tryd.f3 rfl rfl rfl rfl rfl rfl rfl ⟨rfl, rfl, rfl, rfl, rfl⟩ rfl rfl rfl rfl rfl (by kernel_rfl) Tryd.func3 (by kernel_rfl)
    (of_decide_eq_true (by kernel_rfl)) (by unfold Func.isWrapper; first | (rw [if_pos (by decide +kernel)]; kernel_rfl) | (rw [if_neg (by decide +kernel)]; exact ⟨rfl, rfl⟩))
    (fun os started H enc _ => lifted os started H enc)
end Go.Proofs.YtnpclkkjhbljbaaDoor.monthlyTells
namespace Go.Proofs.YtnpclkkjhbljbaaDoor
theorem monthlyTells_holds : Rows.MonthlyTellsCardSaid :=
  Claim7.holds_tied_plain_at .later [] [.data] true (true, "f64786f04bd68122c1fe47ea3c9234a45002eee6a7814b61a031ff2083509a08") false monthlyTells.over (fun _ h => by cases h) (by kernel_rfl) (fun _ h => by cases h) monthlyTells_row_tie rfl ⟨rfl, rfl⟩ (by kernel_rfl) rfl
    (fun f fn hf hfn => by
      obtain rfl : f = 3 := Option.some.inj ((show Tryd.prog.funcNamed "quittance/quittancelaw04.MonthlyTells" = some 3 by kernel_rfl).symm.trans hf) |>.symm
      obtain rfl : fn = Tryd.f3 := (Option.some.inj (Tryd.func3.symm.trans hfn)).symm
      exact ⟨by kernel_rfl, fun j t ht => by
        rw [Tryd.params3] at ht
        have hm : t ∈ [3, 3, 3, 3] := by simpa using Array.mem_of_getElem? ht
        have hall : ([3, 3, 3, 3].all fun u => !Tryd.prog.wantsStandIn u) = true := by kernel_rfl
        exact (show Tryd.prog.wantsStandIn t = false by simpa using List.all_eq_true.1 hall t hm)⟩)
    (by kernel_rfl)
#print axioms monthlyTells_holds
end Go.Proofs.YtnpclkkjhbljbaaDoor
