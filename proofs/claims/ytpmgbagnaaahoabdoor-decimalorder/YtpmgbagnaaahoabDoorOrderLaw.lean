/- For all int64 a and b, of the project's tree at the commit that COMMIT names, DecimalOrder returns true and leaves its arguments as they were, with the library's variables laid as the program's text lays them. -/
import Derived.Test.YtpmgbagnaaahoabDoorFrame
import Derived.Test.YtpmgbagnaaahoabDoorOrd
namespace Go.Proofs.YtpmgbagnaaahoabDoor.decimalOrder
open Go.ChangeShapes Go.WideShapes Go.ChangeAt Go.RowKit Go.Lib
set_option linter.unusedVariables false

theorem rem_range (a : Int) : 0 ≤ wrap64 ((IntKind.u64.wrap a).tmod 1000000000000000) ∧ wrap64 ((IntKind.u64.wrap a).tmod 1000000000000000) < 1000000000000000 := by
  have h0 : 0 ≤ IntKind.u64.wrap a := by rw [IntKind.wrap_u64]; omega
  have h1 := Int.tmod_nonneg 1000000000000000 h0
  have h2 := Int.tmod_lt_of_pos (IntKind.u64.wrap a) (show (0 : Int) < 1000000000000000 by omega)
  unfold wrap64; omega
set_option maxHeartbeats 4000000 in

theorem walk (a0 : Int) (w0 : (Lit.int .i64 a0).wf = true) (a1 : Int) (w1 : (Lit.int .i64 a1).wf = true) (w : World) (he : Env w) :
    Calls Tryd.prog 7 #[.int .i64 a0, .int .i64 a1] w fun e w' => e = .returned (.bool true) ∧ Ext w w' := by
  replace he : Hid (Env w) := he
  obtain ⟨A, hA⟩ : ∃ V : Int, wrap64 ((IntKind.u64.wrap a0).tmod 1000000000000000) = V := ⟨_, rfl⟩
  obtain ⟨B, hB⟩ : ∃ V : Int, wrap64 ((IntKind.u64.wrap a1).tmod 1000000000000000) = V := ⟨_, rfl⟩
  obtain ⟨rA0, rA1⟩ := hA ▸ rem_range a0
  obtain ⟨rB0, rB1⟩ := hB ▸ rem_range a1
  have iA : I64 A := ⟨by omega, by omega⟩
  have iB : I64 B := ⟨by omega, by omega⟩
  have k1 := money_less A B rA0 rB0
  have k2 := money_less B A rB0 rA0
  have k3 := money_lex A B rA0 rB0
  have k4 := money_inj A B iA iB (by omega) (by omega)
  generalize gA : moneyL A = S at *
  generalize gB : moneyL B = T at *
  replace gA := show Hid _ from gA
  replace gB := show Hid _ from gB
  replace k1 : Hid (S.length < T.length → A < B) := k1
  replace k2 : Hid (T.length < S.length → B < A) := k2
  replace k3 : Hid (S.length = T.length → Op.bytesLess S T = decide (A < B)) := k3
  replace k4 : Hid (S = T ↔ A = B) := k4
  have q : ((S == T) == (A == B)) = true := by
    have := k4.out
    by_cases h : A = B
    · simp [h, this.mpr h]
    · have h2 : ¬ S = T := fun e => h (this.mp e)
      have h3 : (S == T) = false := by simpa using h2
      have h4 : (A == B) = false := by simpa using h
      rw [h3, h4]; rfl
  replace q := show Hid _ from q
  clear rA0 rA1 rB0 rB1
  go_enter Tryd.func7, Tryd.ntmps7
  go_wp2_with fail
  refine (money_x A S gA.out _ iA he.out).mono ?_
  rintro e w1 ⟨rfl, hx1⟩
  have hx : Hid (Ext w w1) := hx1
  clear hx1
  go_wp2_with fail
  refine (money_x B T gB.out _ iB (Env.ext he.out hx.out)).mono ?_
  rintro e w1 ⟨rfl, hx1⟩
  replace hx : Hid (Ext w w1) := hx.out.trans hx1
  clear hx1
  by_cases c1 : S.length < T.length
  · have cI : (S.length : Int) < (T.length : Int) := by omega
    have hlt := k1.out c1
    go_wp2_with fail
    refine (awake_c _ (Env.ext he.out hx.out)).mono ?_
    rintro e w1 ⟨rfl, hx1⟩
    replace hx : Hid (Ext w w1) := hx.out.trans hx1
    clear hx1
    have q := q.out
    go_wp2
    go_ret
    exact ⟨rfl, hx.out⟩
  · by_cases c2 : S.length = T.length
    · have cI : (S.length : Int) = (T.length : Int) := by omega
      have hb := k3.out c2
      go_wp2_with fail
      refine (awake_c _ (Env.ext he.out hx.out)).mono ?_
      rintro e w1 ⟨rfl, hx1⟩
      replace hx : Hid (Ext w w1) := hx.out.trans hx1
      clear hx1
      have q := q.out
      by_cases hlt : A < B
      · rw [decide_eq_true hlt] at hb
        go_wp2
        go_ret
        exact ⟨rfl, hx.out⟩
      · rw [decide_eq_false hlt] at hb
        go_wp2
        go_ret
        exact ⟨rfl, hx.out⟩
    · have cI : ¬ (S.length : Int) < (T.length : Int) := by omega
      have cJ : ((S.length : Int) == (T.length : Int)) = false := by simp; omega
      have hlt : ¬ A < B := by have := k2.out (by omega); omega
      have hlt2 : decide (A < B) = false := decide_eq_false hlt
      go_wp2_with fail
      refine (awake_c _ (Env.ext he.out hx.out)).mono ?_
      rintro e w1 ⟨rfl, hx1⟩
      replace hx : Hid (Ext w w1) := hx.out.trans hx1
      clear hx1
      have q := q.out
      go_wp2
      go_ret
      exact ⟨rfl, hx.out⟩

set_option maxRecDepth 100000 in
theorem lifted (os : Os) (started : os.Started) (H : Type) (enc : TypeId × Value → H) :
    ReturnsInHanded {} Tryd.checked os 7 .any (fun w args => (Rows.decimalOrderSpec.pre enc Tryd.prog Tryd.f7 [] false w args ∧ laidMetH Tryd.prog laid w) ∧ sizedMet enc Tryd.prog Tryd.f7 (OpenSpec.ofChange Rows.decimalOrderSpec) false w args)
      (Rows.decimalOrderSpec.post enc Tryd.prog Tryd.f7 false true false false) := by
  refine wrap started (by kernel_rfl) Tryd.func7
    (ChangeSpec.witness_shaped (enc := enc) (C := Tryd.checked) (os := os) (X := fun w _ => laidMetH Tryd.prog laid w) false (World.laidAll Tryd.prog os laid) #[.int .i64 0, .int .i64 0] 8 (World.laidAll_os _ _ _)
      (World.shaped_of_ZipB (by kernel_rfl) (by kernel_rfl)) (by kernel_rfl) (by kernel_rfl) (by kernel_rfl)
      (by rw [MakeChecks.laidMetH_plain _ _ _ (by kernel_rfl)]; exact laidMet_laidAll _ (by kernel_rfl) (by kernel_rfl))) ?_
  intro W base args ds gs before hval0 hW hE
  have hval : ∀ (j : Nat) t v, Tryd.f7.params[j]? = some t → args[j]? = some v → Value.okWide Tryd.prog W .any base t v := hval0
  have hW' := hW
  obtain ⟨p, q, hA0, hV, rfl, _, _⟩ := hW
  have hA : DataW.TrodAll enc Tryd.prog W 0 (fun _ => true) true Tryd.f7.params.toList args.toList ds p := hA0
  rw [Tryd.params7] at hA hval
  obtain ⟨v0, vs0, d0, ds0, p0, q0, hargs, rfl, rfl, h0, r0⟩ := trodAll_cons hA
  obtain ⟨v1, vs1, d1, ds1, p1, q1, rfl, rfl, rfl, h1, r1⟩ := trodAll_cons r0
  obtain ⟨rfl, rfl, rfl⟩ := trodAll_nil r1
  obtain rfl : args = #[v0, v1] := by cases args; simp_all
  obtain ⟨rfl, rfl⟩ := trodVars_none hV
  obtain ⟨a0, rfl, rfl, rfl, w0⟩ := open_int Tryd.underlying2 (hval 0 2 v0 rfl rfl) h0
  obtain ⟨a1, rfl, rfl, rfl, w1⟩ := open_int Tryd.underlying2 (hval 1 2 v1 rfl rfl) h1
  clear hA0 hval0
  simp only [List.append_nil] at hW'
  refine (walk a0 w0 a1 w1 W hE).mono fun e W' ⟨he, hb⟩ => ?_
  subst he
  exact ⟨_, rfl, _, _, _, [], [], [], hW', (trodAll_cons_mk (shut_bool Tryd.underlying4 _) trodAll_mk0), (trodAll_cons_mk (shut_int Tryd.underlying2 w0) (trodAll_cons_mk (shut_int Tryd.underlying2 w1) trodAll_mk0)), rfl, hb.below.frame _, fun h => by cases h⟩

theorem over : Rows.decimalOrderRow.holds Tryd.pinned (OpenSpec.ofChange Rows.decimalOrderSpec) :=
  OpenClaim.holds_of_wide 7 Tryd.f7 rfl rfl rfl rfl rfl rfl rfl ⟨rfl, rfl, rfl, rfl, rfl⟩ rfl rfl rfl rfl rfl (by kernel_rfl) Tryd.func7 (by kernel_rfl)
    (of_decide_eq_true (by kernel_rfl)) (by unfold Func.isWrapper; first | (rw [if_pos (by decide +kernel)]; kernel_rfl) | (rw [if_neg (by decide +kernel)]; exact ⟨rfl, rfl⟩))
    (fun os started H enc _ => lifted os started H enc)
end Go.Proofs.YtpmgbagnaaahoabDoor.decimalOrder
namespace Go.Proofs.YtpmgbagnaaahoabDoor
theorem decimalOrder_holds : Rows.DecimalOrderCardSaid :=
  Claim7.holds_tied_plain_at .later [] [.data, .data, .data, .data, .pinned] true (true, "6c72434a28853cd36528dcda40ea39cd8b8d9ad355b7b9cabfd0f0281fc62663") true decimalOrder.over (fun _ h => by cases h) (by kernel_rfl) (fun _ h => by cases h) decimalOrder_row_tie rfl ⟨rfl, rfl⟩ (by kernel_rfl) rfl
    (fun f fn hf hfn => by
      obtain rfl : f = 7 := Option.some.inj ((show Tryd.prog.funcNamed "quittance/quittancelaw02.DecimalOrder" = some 7 by kernel_rfl).symm.trans hf) |>.symm
      obtain rfl : fn = Tryd.f7 := (Option.some.inj (Tryd.func7.symm.trans hfn)).symm
      exact ⟨by kernel_rfl, fun j t ht => by
        rw [Tryd.params7] at ht
        have hm : t ∈ [2, 2] := by simpa using Array.mem_of_getElem? ht
        have hall : ([2, 2].all fun u => !Tryd.prog.wantsStandIn u) = true := by kernel_rfl
        exact (show Tryd.prog.wantsStandIn t = false by simpa using List.all_eq_true.1 hall t hm)⟩)
    (by kernel_rfl)
#print axioms decimalOrder_holds
end Go.Proofs.YtpmgbagnaaahoabDoor
