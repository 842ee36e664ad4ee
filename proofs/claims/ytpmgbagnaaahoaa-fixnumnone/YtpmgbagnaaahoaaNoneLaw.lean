/- Proved: for every n and every d, quittancelaw01.FixnumNone returns true (a Round that rounds in no way answers nothing, and what is divided by nothing, or below, neither); no condition on n or d. -/
import Derived.Test.YtpmgbagnaaahoaaRows
import Derived.WalkKit
import Derived.ProofKit
import Derived.OpenShut
import Derived.ShutString
import Derived.Test.YtpmgbagnaaahoaaAwake
namespace Go.Proofs.Ytpmgbagnaaahoaa.fixnumNone
open Go.ChangeShapes Go.WideShapes Go.ChangeAt Go.RowKit
open Go.ChangeMaps (open_string shut_string)
set_option linter.unusedVariables false      -- a walk need not use every 'w<i>' (that an integer argument fits its kind)

theorem own : ownKnob Try.prog.godebug = none := by kernel_rfl

theorem walk (a0 : Int) (a1 : Int) (w0 : (Lit.int .i64 a0).wf = true) (w1 : (Lit.int .i64 a1).wf = true) (w : World) :
    Calls Try.prog 7 #[.int .i64 a0, .int .i64 a1] w fun e w' => e = .returned (.bool true) ∧ Grown w w' := by
  have hn : I64 a0 := i64_of_wf w0
  have hd : I64 a1 := i64_of_wf w1
  go_enter Try.func7, Try.ntmps7
  go_wp2_with fail
  refine (divide_zero _ _ _).mono ?_
  rintro e w1 ⟨rfl, hx⟩
  have c1 : w1.cell? ⟨w.heap.size, 0, none⟩ = some (.int .i64 0) := by rw [hx.cell _ _ (by simp)]; simp [go_sem]
  have x1 : Ext w w1 := Ext.trans ((Ext.refl _).alloc _ _) hx
  clear hx
  go_wp2_with fail
  refine (ratio_zero _ _ _ _).mono ?_
  rintro e w2 ⟨rfl, hx⟩
  have x2 : Ext w w2 := x1.trans hx
  clear hx c1 x1
  go_wp2_with fail
  refine (of_3 _).mono ?_
  rintro e w3 ⟨rfl, hx⟩
  have x3 : Ext w w3 := x2.trans hx
  clear hx x2
  go_wp2_with fail
  refine (divide_below 3 _ 0 _ (by decide) (by omega)).mono ?_
  rintro e w4 ⟨rfl, hx⟩
  have c4 : w4.cell? ⟨w3.heap.size, 0, none⟩ = some (.int .i64 3) := by rw [hx.cell _ _ (by simp)]; simp [go_sem]
  have x4 : Ext w w4 := Ext.trans (by repeat (first | exact x3 | apply Ext.alloc)) hx
  clear hx x3
  go_wp2_with fail
  refine (ratio_below 3 _ _ (-1) _ (by decide) (by omega)).mono ?_
  rintro e w5 ⟨rfl, hx⟩
  have x5 : Ext w w5 := x4.trans hx
  clear hx x4 c4
  go_wp2_with fail
  refine (awake_any _).mono ?_
  rintro e w6 ⟨rfl, hx⟩
  have x6 : Ext w w6 := x5.trans hx
  clear hx x5
  go_wp2_with fail
  go_ret
  exact ⟨rfl, x6.grown⟩

set_option maxRecDepth 100000 in
theorem lifted (os : Os) (started : os.Started) (H : Type) (enc : TypeId × Value → H) :
    ReturnsInHanded {} Try.checked os 7 .any (Rows.fixnumNoneSpec.pre6 enc Try.prog Try.f7 Rows.fixnumNoneRow.domain false) (Rows.fixnumNoneSpec.post enc Try.prog Try.f7 false true false false) := by
  refine returnsInHanded_of_change (C := Try.checked) own started (by kernel_rfl) Try.func7
    (ChangeSpec.witness6 (enc := enc) (C := Try.checked) false ⟨#[], #[.int .i64 0, .int .i64 0], []⟩ 8 (by kernel_rfl) (by kernel_rfl) (by kernel_rfl) (by kernel_rfl)) ?_
  intro W base args ds gs before hval0 hW hcnd _
  have hval : ∀ (j : Nat) t v, Try.f7.params[j]? = some t → args[j]? = some v → Value.okWide Try.prog W .any base t v := hval0
  have hW' := hW
  obtain ⟨p, q, hA0, hV, rfl, hfz, hnd⟩ := hW
  have hA : DataW.TrodAll enc Try.prog W 0 (fun _ => true) true Try.f7.params.toList args.toList ds p := hA0
  rw [Try.params7] at hA hval
  obtain ⟨v0, vs0, d0, ds0, p0, q0, hargs, rfl, rfl, h0, r0⟩ := trodAll_cons hA
  obtain ⟨v1, vs1, d1, ds1, p1, q1, rfl, rfl, rfl, h1, r1⟩ := trodAll_cons r0
  obtain ⟨rfl, rfl, rfl⟩ := trodAll_nil r1
  obtain rfl : args = #[v0, v1] := by cases args; simp_all
  obtain ⟨rfl, rfl⟩ := trodVars_none hV
  obtain ⟨a0, rfl, rfl, rfl, w0⟩ := open_int Try.underlying2 (hval 0 2 v0 rfl rfl) h0
  obtain ⟨a1, rfl, rfl, rfl, w1⟩ := open_int Try.underlying2 (hval 1 2 v1 rfl rfl) h1
  clear hA0 hval0
  simp only [List.append_nil] at hW'
  refine (walk a0 a1 w0 w1 W).mono fun e W' ⟨he, hg⟩ => ?_
  subst he
  exact ⟨_, rfl, post_of_same (pa := []) (pv := []) hW' (fun _ _ _ => (trodAll_cons_mk (shut_bool Try.underlying4 _) trodAll_mk0)) (fun sp _ => (trodAll_cons_mk (shut_int Try.underlying2 w0) (trodAll_cons_mk (shut_int Try.underlying2 w1) trodAll_mk0))) (fun _ _ => rfl) rfl
    (hg.frame _) hg.2.1 (ok_one (by kernel_rfl) rfl (okWide_bool_mk Try.underlying4 _))⟩

theorem over : Rows.fixnumNoneRow.holds Try.pinned (OpenSpec.ofChange Rows.fixnumNoneSpec) :=
  OpenClaim.holds_of_wide 7 Try.f7 rfl rfl rfl rfl rfl rfl rfl ⟨rfl, rfl, rfl, rfl, rfl⟩ rfl rfl rfl rfl rfl (by kernel_rfl) Try.func7 (by kernel_rfl)
    (of_decide_eq_true (by kernel_rfl)) (by unfold Func.isWrapper; first | (rw [if_pos (by decide +kernel)]; kernel_rfl) | (rw [if_neg (by decide +kernel)]; exact ⟨rfl, rfl⟩))
    (fun os started H enc _ => lifted os started H enc)

theorem proved : Rows.FixnumNoneSaid :=
  over
end Go.Proofs.Ytpmgbagnaaahoaa.fixnumNone
namespace Go.Proofs.Ytpmgbagnaaahoaa
theorem fixnumNone_holds : Rows.FixnumNoneSaid := fixnumNone.proved
#print axioms fixnumNone_holds
end Go.Proofs.Ytpmgbagnaaahoaa
