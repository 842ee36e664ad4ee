/- For all ints day and months, of the project's tree at the commit that COMMIT names, MonthlyBack returns true and leaves its arguments as they were, with the listed variables laid as the program's text lays them. -/
import Derived.Test.YtnpclkkjhbljbaaDoorFrame
import Derived.Test.YtnpclkkjhbljbaaDoorMon4
namespace Go.Proofs.YtnpclkkjhbljbaaDoor.monthlyBack
open Go.ChangeShapes Go.WideShapes Go.ChangeAt Go.RowKit Go.Lib
set_option linter.unusedVariables false

set_option maxHeartbeats 4000000 in

theorem walk (a0 : Int) (w0 : (Lit.int .i64 a0).wf = true) (a1 : Int) (w1 : (Lit.int .i64 a1).wf = true) (w : World) (he : Env w) :
    Calls Tryd.prog 5 #[.int .i64 a0, .int .i64 a1] w fun e w' => e = .returned (.bool true) ∧ Ext w w' := by
  replace he : Hid (Env w) := he
  clear w0 w1
  obtain ⟨u0, hu0⟩ : ∃ u, IntKind.u64.wrap a0 = u := ⟨_, rfl⟩
  have p0 : 0 ≤ u0 ∧ u0 < 18446744073709551616 := by rw [← hu0, IntKind.wrap_u64]; omega
  obtain ⟨r0, s0⟩ := p0
  obtain ⟨v0, hv0⟩ : ∃ v, u0 % 100000 = v := ⟨_, rfl⟩
  have p0 : 0 ≤ v0 ∧ v0 < 100000 := by omega
  obtain ⟨g0, l0⟩ := p0
  obtain ⟨u1, hu1⟩ : ∃ u, IntKind.u64.wrap a1 = u := ⟨_, rfl⟩
  have p1 : 0 ≤ u1 ∧ u1 < 18446744073709551616 := by rw [← hu1, IntKind.wrap_u64]; omega
  obtain ⟨r1, s1⟩ := p1
  obtain ⟨v1, hv1⟩ : ∃ v, u1 % 600 = v := ⟨_, rfl⟩
  have p1 : 0 ≤ v1 ∧ v1 < 600 := by omega
  obtain ⟨g1, l1⟩ := p1
  obtain ⟨N, hN⟩ : ∃ N, -25567 + v0 = N := ⟨_, rfl⟩
  have n1 : -25567 ≤ N := by omega
  have n2 : N ≤ 84370 := by omega
  have hD : Hid (∀ w : World, Calls Tryd.prog 13 #[.int .i64 N] w fun e w' => e = .returned (.tuple #[.agg #[.int .i64 (yOf N), .int .i64 (mOf N), .int .i64 (dOf N)], .int .i64 0]) ∧ Ext w w') := fun w => rDate_f N w n1 n2
  have hA : Hid (∀ w : World, Hid (Env w) → Calls Tryd.prog 7 #[.int .i64 N, .int .i64 v1] w fun e w' => e = .returned (.tuple #[.int .i64 (nA N v1), .int .i64 (nE N v1)]) ∧ Ext w w') := fun w he => Add_c N v1 w (by show I64 _; unfold I64; omega) he
  have hB : Hid (∀ w : World, Hid (Env w) → Calls Tryd.prog 7 #[.int .i64 (nA N v1), .int .i64 (-v1)] w fun e w' => e = .returned (.tuple #[.int .i64 (nA (nA N v1) (-v1)), .int .i64 (nE (nA N v1) (-v1))]) ∧ Ext w w') := fun w he => Add_c _ (-v1) w (by show I64 _; unfold I64; omega) he
  obtain ⟨c1, c2⟩ := nA_bd (nA N v1) (-v1)
  have key : Hid ((nE N v1 = 0 ∧ nE (nA N v1) (-v1) = 0 ∧ (dOf N ≤ 28 → nA (nA N v1) (-v1) = N) ∧ nA (nA N v1) (-v1) ≤ N ∧ N - nA (nA N v1) (-v1) ≤ 3) ∨ (nE N v1 = 5 ∧ nA N v1 = 0)) := by
    by_cases h : Has N v1
    · exact Or.inl ⟨nE_ok h, back4 N v1 h⟩
    · exact Or.inr ⟨nE_no h, nA_no h⟩
  generalize nA (nA N v1) (-v1) = B at *
  generalize nE (nA N v1) (-v1) = F at *
  generalize nA N v1 = A at *
  generalize nE N v1 = E at *
  generalize yOf N = y at *
  generalize mOf N = m at *
  generalize dOf N = d at *
  go_enter Tryd.func5, Tryd.ntmps5
  go_wp2_with fail
  refine (hD.out _).mono ?_
  rintro e w1 ⟨rfl, hx1⟩
  replace he : Hid (Env w1) := he.out.ext hx1
  have hx := show Hid (Ext w w1) from hx1
  clear hx1
  go_wp2_with fail
  obtain ⟨W2, b2, hW, hb, hxb, k0, k1, k2⟩ := box3 w1 (.int .i64 y) (.int .i64 m) (.int .i64 d) 33
  rw [hW, hb]
  clear hW hb
  replace he : Hid (Env W2) := he.out.ext hxb
  replace hx : Hid (Ext w W2) := hx.out.trans hxb
  clear hxb
  refine (hA.out _ he).mono ?_
  rintro e w3 ⟨rfl, hx1⟩
  replace k0 := hx1.cell_of k0
  replace k1 := hx1.cell_of k1
  replace k2 := hx1.cell_of k2
  replace he : Hid (Env w3) := he.out.ext hx1
  replace hx : Hid (Ext w w3) := hx.out.trans hx1
  clear hx1
  go_wp2_with fail
  refine (hB.out _ he).mono ?_
  rintro e w4 ⟨rfl, hx1⟩
  replace k0 := hx1.cell_of k0
  replace k1 := hx1.cell_of k1
  replace k2 := hx1.cell_of k2
  replace he : Hid (Env w4) := he.out.ext hx1
  replace hx : Hid (Ext w w4) := hx.out.trans hx1
  clear hx1
  go_wp2_with fail
  refine (awake_c _ he).mono ?_
  rintro e w5 ⟨rfl, hx1⟩
  replace k0 := hx1.cell_of k0
  replace k1 := hx1.cell_of k1
  replace k2 := hx1.cell_of k2
  replace he : Hid (Env w5) := he.out.ext hx1
  replace hx : Hid (Ext w w5) := hx.out.trans hx1
  clear hx1
  clear hD hA hB
  rcases key.out with ⟨rfl, rfl, q1, q2, q3⟩ | ⟨rfl, rfl⟩
  · clear key
    by_cases hd : 28 < d
    · clear q1
      go_wp2
      go_ret
      exact ⟨rfl, hx.out⟩
    · obtain rfl := q1 (by omega)
      go_wp2
      go_ret
      exact ⟨rfl, hx.out⟩
  · clear key
    go_wp2_with fail
    refine (awake_c _ he).mono ?_
    rintro e wz ⟨rfl, hx1⟩
    replace hx : Hid (Ext w wz) := hx.out.trans hx1
    clear hx1
    go_wp2
    go_ret
    exact ⟨rfl, hx.out⟩

set_option maxRecDepth 100000 in
theorem lifted (os : Os) (started : os.Started) (H : Type) (enc : TypeId × Value → H) :
    ReturnsInHanded {} Tryd.checked os 5 .any (fun w args => (Rows.monthlyBackSpec.pre enc Tryd.prog Tryd.f5 [] false w args ∧ laidMetH Tryd.prog laid w) ∧ sizedMet enc Tryd.prog Tryd.f5 (OpenSpec.ofChange Rows.monthlyBackSpec) false w args)
      (Rows.monthlyBackSpec.post enc Tryd.prog Tryd.f5 false true false false) := by
  refine wrap started (by kernel_rfl) Tryd.func5
    (ChangeSpec.witness_shaped (enc := enc) (C := Tryd.checked) (os := os) (X := fun w _ => laidMetH Tryd.prog laid w) false (World.laidAll Tryd.prog os laid) #[.int .i64 0, .int .i64 0] 8 (World.laidAll_os _ _ _)
      (World.shaped_of_ZipB (by kernel_rfl) (by kernel_rfl)) (by kernel_rfl) (by kernel_rfl) (by kernel_rfl)
      (by rw [MakeChecks.laidMetH_plain _ _ _ (by kernel_rfl)]; exact laidMet_laidAll _ (by kernel_rfl) (by kernel_rfl))) ?_
  intro W base args ds gs before hval0 hW hE
  have hval : ∀ (j : Nat) t v, Tryd.f5.params[j]? = some t → args[j]? = some v → Value.okWide Tryd.prog W .any base t v := hval0
  have hW' := hW
  obtain ⟨p, q, hA0, hV, rfl, _, _⟩ := hW
  have hA : DataW.TrodAll enc Tryd.prog W 0 (fun _ => true) true Tryd.f5.params.toList args.toList ds p := hA0
  rw [Tryd.params5] at hA hval
  obtain ⟨v0, vs0, d0, ds0, p0, q0, hargs, rfl, rfl, h0, r0⟩ := trodAll_cons hA
  obtain ⟨v1, vs1, d1, ds1, p1, q1, rfl, rfl, rfl, h1, r1⟩ := trodAll_cons r0
  obtain ⟨rfl, rfl, rfl⟩ := trodAll_nil r1
  obtain rfl : args = #[v0, v1] := by cases args; simp_all
  obtain ⟨rfl, rfl⟩ := trodVars_none hV
  obtain ⟨a0, rfl, rfl, rfl, w0⟩ := open_int Tryd.underlying3 (hval 0 3 v0 rfl rfl) h0
  obtain ⟨a1, rfl, rfl, rfl, w1⟩ := open_int Tryd.underlying3 (hval 1 3 v1 rfl rfl) h1
  clear hA0 hval0
  simp only [List.append_nil] at hW'
  refine (walk a0 w0 a1 w1 W hE).mono fun e W' ⟨he, hb⟩ => ?_
  subst he
  exact ⟨_, rfl, _, _, _, [], [], [], hW', (trodAll_cons_mk (shut_bool Tryd.underlying4 _) trodAll_mk0), (trodAll_cons_mk (shut_int Tryd.underlying3 w0) (trodAll_cons_mk (shut_int Tryd.underlying3 w1) trodAll_mk0)), rfl, hb.below.frame _, fun h => by cases h⟩

theorem over : Rows.monthlyBackRow.holds Tryd.pinned (OpenSpec.ofChange Rows.monthlyBackSpec) :=
  OpenClaim.holds_of_wide 5 Tryd.f5 rfl rfl rfl rfl rfl rfl rfl ⟨rfl, rfl, rfl, rfl, rfl⟩ rfl rfl rfl rfl rfl (by kernel_rfl) Tryd.func5 (by kernel_rfl)
    (of_decide_eq_true (by kernel_rfl)) (by unfold Func.isWrapper; first | (rw [if_pos (by decide +kernel)]; kernel_rfl) | (rw [if_neg (by decide +kernel)]; exact ⟨rfl, rfl⟩))
    (fun os started H enc _ => lifted os started H enc)
end Go.Proofs.YtnpclkkjhbljbaaDoor.monthlyBack
namespace Go.Proofs.YtnpclkkjhbljbaaDoor
theorem monthlyBack_holds : Rows.MonthlyBackCardSaid :=
  Claim7.holds_tied_plain_at .later [] [.data] true (true, "f64786f04bd68122c1fe47ea3c9234a45002eee6a7814b61a031ff2083509a08") false monthlyBack.over (fun _ h => by cases h) (by kernel_rfl) (fun _ h => by cases h) monthlyBack_row_tie rfl ⟨rfl, rfl⟩ (by kernel_rfl) rfl
    (fun f fn hf hfn => by
      obtain rfl : f = 5 := Option.some.inj ((show Tryd.prog.funcNamed "quittance/quittancelaw04.MonthlyBack" = some 5 by kernel_rfl).symm.trans hf) |>.symm
      obtain rfl : fn = Tryd.f5 := (Option.some.inj (Tryd.func5.symm.trans hfn)).symm
      exact ⟨by kernel_rfl, fun j t ht => by
        rw [Tryd.params5] at ht
        have hm : t ∈ [3, 3] := by simpa using Array.mem_of_getElem? ht
        have hall : ([3, 3].all fun u => !Tryd.prog.wantsStandIn u) = true := by kernel_rfl
        exact (show Tryd.prog.wantsStandIn t = false by simpa using List.all_eq_true.1 hall t hm)⟩)
    (by kernel_rfl)
#print axioms monthlyBack_holds
end Go.Proofs.YtnpclkkjhbljbaaDoor
