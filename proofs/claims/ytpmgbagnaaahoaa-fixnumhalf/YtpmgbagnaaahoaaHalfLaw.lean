/- Proved: for every n, d and mode, quittancelaw01.FixnumHalf returns true (what is rounded is off by half of one at most, of Down by less than one, below; ties go up, or to the even one); no condition on n, d or mode. -/
import Derived.Test.YtpmgbagnaaahoaaRows
import Derived.WalkKit
import Derived.ProofKit
import Derived.OpenShut
import Derived.ShutString
import Derived.Test.YtpmgbagnaaahoaaSmall
namespace Go.Proofs.Ytpmgbagnaaahoaa.fixnumHalf
open Go.ChangeShapes Go.WideShapes Go.ChangeAt Go.RowKit
open Go.ChangeMaps (open_string shut_string)
set_option linter.unusedVariables false      -- a walk need not use every 'w<i>' (that an integer argument fits its kind)

theorem own : ownKnob Try.prog.godebug = none := by kernel_rfl

open Go.Proofs.Ytpmgbagnaaahoaa

theorem walk (a0 : Int) (a1 : Int) (a2 : Int) (w0 : (Lit.int .i64 a0).wf = true) (w1 : (Lit.int .i64 a1).wf = true) (w2 : (Lit.int .i64 a2).wf = true) (w : World) :
    Calls Try.prog 5 #[.int .i64 a0, .int .i64 a1, .int .i64 a2] w fun e w' => e = .returned (.bool true) ∧ Grown w w' := by
  clear w0 w1 w2
  obtain ⟨N, HN, n1, n2⟩ := n_of_tmod a0 1000000 (by omega)
  obtain ⟨D, HD, d1, d2⟩ := d_of_mask12 a1
  have HM := m_of_mod a2
  have HN' : Hid (a0.tmod 1000000 = N) := HN
  have HD' : Hid (wrap64 (1 + bits .and .i64 a1 4095) = D) := HD
  clear HN HD
  rcases HM with HM | HM | HM
  · have HM' : Hid (wrap64 (1 + wrap64 ((IntKind.u64.wrap a2).tmod 3)) = 1) := HM
    clear HM
    go_enter Try.func5, Try.ntmps5
    go_wp2_with fail
    simp only [HN'.out, HD'.out, HM'.out]
    refine (of_1 _).mono ?_
    rintro e w1 ⟨rfl, x1⟩
    go_wp2_with fail
    refine (divide_small 1 N D _ (by decide) (by omega) (by omega) d1 (by omega)).mono ?_
    rintro e w2 ⟨rfl, hx⟩
    have x2 : Ext w w2 := Ext.trans (by repeat (first | exact x1 | apply Ext.alloc)) hx
    clear hx x1
    obtain ⟨b1, b2, b3, b4⟩ := rnd_bound 1 N D 1000000 (by decide) d1 (by omega) (by omega)
    obtain ⟨o1, o2⟩ := off_up N D (by omega)
    generalize rnd 1 N D = V at *
    go_wp2_with fail
    refine (awake_any _).mono ?_
    rintro e w3 ⟨rfl, hx⟩
    have x3 := x2.trans hx
    clear hx x2
    go_wp2_with fail
    go_ret
    exact ⟨rfl, x3.grown⟩
  · have HM' : Hid (wrap64 (1 + wrap64 ((IntKind.u64.wrap a2).tmod 3)) = 2) := HM
    clear HM
    go_enter Try.func5, Try.ntmps5
    go_wp2_with fail
    simp only [HN'.out, HD'.out, HM'.out]
    refine (of_2 _).mono ?_
    rintro e w1 ⟨rfl, x1⟩
    go_wp2_with fail
    refine (divide_small 2 N D _ (by decide) (by omega) (by omega) d1 (by omega)).mono ?_
    rintro e w2 ⟨rfl, hx⟩
    have x2 : Ext w w2 := Ext.trans (by repeat (first | exact x1 | apply Ext.alloc)) hx
    clear hx x1
    obtain ⟨b1, b2, b3, b4⟩ := rnd_bound 2 N D 1000000 (by decide) d1 (by omega) (by omega)
    have HO : Hid (_ ∨ _) := off_even N D (by omega)
    generalize rnd 2 N D = V at *
    go_wp2_with fail
    refine (awake_any _).mono ?_
    rintro e w3 ⟨rfl, hx⟩
    have x3 := x2.trans hx
    clear hx x2
    rcases HO.out with ⟨o1, o2⟩ | ⟨o1, o2⟩
    · go_wp2_with fail
      go_ret
      exact ⟨rfl, x3.grown⟩
    · have t0 : (V.tmod 2 == 0) = true := by
        have : V.tmod 2 = 0 := Int.tmod_eq_zero_of_dvd (Int.dvd_of_emod_eq_zero o2)
        simp [this]
      clear o2
      rcases o1 with o1 | o1
      · have g1 : (2 * (N - V * D) == D) = true := by simpa using o1
        have g2 : D ≤ 2 * (N - V * D) := by omega
        clear o1
        go_wp2_with fail
        go_ret
        exact ⟨rfl, x3.grown⟩
      · have g1 : (2 * (N - V * D) == D) = false := by simp; omega
        have g2 : (2 * (N - V * D) == -D) = true := by simpa using o1
        have g3 : 2 * (N - V * D) ≤ -D := by omega
        clear o1
        go_wp2_with fail
        go_ret
        exact ⟨rfl, x3.grown⟩
  · have HM' : Hid (wrap64 (1 + wrap64 ((IntKind.u64.wrap a2).tmod 3)) = 3) := HM
    clear HM
    go_enter Try.func5, Try.ntmps5
    go_wp2_with fail
    simp only [HN'.out, HD'.out, HM'.out]
    refine (of_3 _).mono ?_
    rintro e w1 ⟨rfl, x1⟩
    go_wp2_with fail
    refine (divide_small 3 N D _ (by decide) (by omega) (by omega) d1 (by omega)).mono ?_
    rintro e w2 ⟨rfl, hx⟩
    have x2 : Ext w w2 := Ext.trans (by repeat (first | exact x1 | apply Ext.alloc)) hx
    clear hx x1
    obtain ⟨b1, b2, b3, b4⟩ := rnd_bound 3 N D 1000000 (by decide) d1 (by omega) (by omega)
    obtain ⟨o1, o2⟩ := off_down N D (by omega)
    generalize rnd 3 N D = V at *
    go_wp2_with fail
    refine (awake_any _).mono ?_
    rintro e w3 ⟨rfl, hx⟩
    have x3 := x2.trans hx
    clear hx x2
    go_wp2_with fail
    go_ret
    exact ⟨rfl, x3.grown⟩

set_option maxRecDepth 100000 in
theorem lifted (os : Os) (started : os.Started) (H : Type) (enc : TypeId × Value → H) :
    ReturnsInHanded {} Try.checked os 5 .any (Rows.fixnumHalfSpec.pre6 enc Try.prog Try.f5 Rows.fixnumHalfRow.domain false) (Rows.fixnumHalfSpec.post enc Try.prog Try.f5 false true false false) := by
  refine returnsInHanded_of_change (C := Try.checked) own started (by kernel_rfl) Try.func5
    (ChangeSpec.witness6 (enc := enc) (C := Try.checked) false ⟨#[], #[.int .i64 0, .int .i64 0, .int .i64 0], []⟩ 8 (by kernel_rfl) (by kernel_rfl) (by kernel_rfl) (by kernel_rfl)) ?_
  intro W base args ds gs before hval0 hW hcnd _
  have hval : ∀ (j : Nat) t v, Try.f5.params[j]? = some t → args[j]? = some v → Value.okWide Try.prog W .any base t v := hval0
  have hW' := hW
  obtain ⟨p, q, hA0, hV, rfl, hfz, hnd⟩ := hW
  have hA : DataW.TrodAll enc Try.prog W 0 (fun _ => true) true Try.f5.params.toList args.toList ds p := hA0
  rw [Try.params5] at hA hval
  obtain ⟨v0, vs0, d0, ds0, p0, q0, hargs, rfl, rfl, h0, r0⟩ := trodAll_cons hA
  obtain ⟨v1, vs1, d1, ds1, p1, q1, rfl, rfl, rfl, h1, r1⟩ := trodAll_cons r0
  obtain ⟨v2, vs2, d2, ds2, p2, q2, rfl, rfl, rfl, h2, r2⟩ := trodAll_cons r1
  obtain ⟨rfl, rfl, rfl⟩ := trodAll_nil r2
  obtain rfl : args = #[v0, v1, v2] := by cases args; simp_all
  obtain ⟨rfl, rfl⟩ := trodVars_none hV
  obtain ⟨a0, rfl, rfl, rfl, w0⟩ := open_int Try.underlying2 (hval 0 2 v0 rfl rfl) h0
  obtain ⟨a1, rfl, rfl, rfl, w1⟩ := open_int Try.underlying2 (hval 1 2 v1 rfl rfl) h1
  obtain ⟨a2, rfl, rfl, rfl, w2⟩ := open_int Try.underlying3 (hval 2 3 v2 rfl rfl) h2
  clear hA0 hval0
  simp only [List.append_nil] at hW'
  refine (walk a0 a1 a2 w0 w1 w2 W).mono fun e W' ⟨he, hg⟩ => ?_
  subst he
  exact ⟨_, rfl, post_of_same (pa := []) (pv := []) hW' (fun _ _ _ => (trodAll_cons_mk (shut_bool Try.underlying4 _) trodAll_mk0)) (fun sp _ => (trodAll_cons_mk (shut_int Try.underlying2 w0) (trodAll_cons_mk (shut_int Try.underlying2 w1) (trodAll_cons_mk (shut_int Try.underlying3 w2) trodAll_mk0)))) (fun _ _ => rfl) rfl
    (hg.frame _) hg.2.1 (ok_one (by kernel_rfl) rfl (okWide_bool_mk Try.underlying4 _))⟩

theorem over : Rows.fixnumHalfRow.holds Try.pinned (OpenSpec.ofChange Rows.fixnumHalfSpec) :=
  OpenClaim.holds_of_wide 5 Try.f5 rfl rfl rfl rfl rfl rfl rfl ⟨rfl, rfl, rfl, rfl, rfl⟩ rfl rfl rfl rfl rfl (by kernel_rfl) Try.func5 (by kernel_rfl)
    (of_decide_eq_true (by kernel_rfl)) (by unfold Func.isWrapper; first | (rw [if_pos (by decide +kernel)]; kernel_rfl) | (rw [if_neg (by decide +kernel)]; exact ⟨rfl, rfl⟩))
    (fun os started H enc _ => lifted os started H enc)

theorem proved : Rows.FixnumHalfSaid :=
  over
end Go.Proofs.Ytpmgbagnaaahoaa.fixnumHalf
namespace Go.Proofs.Ytpmgbagnaaahoaa
theorem fixnumHalf_holds : Rows.FixnumHalfSaid := fixnumHalf.proved
#print axioms fixnumHalf_holds
end Go.Proofs.Ytpmgbagnaaahoaa
