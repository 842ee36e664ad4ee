/- For every int64 v and either bool, of the project's tree at the commit that COMMIT names, DecimalBounds returns true and leaves its arguments as they were, with the library's variables laid as the program's text lays them. -/
import Derived.Test.YtpmgbagnaaahoabDoorFrame
namespace Go.Proofs.YtpmgbagnaaahoabDoor.decimalBounds
open Go.ChangeShapes Go.WideShapes Go.ChangeAt Go.RowKit Go.Lib
set_option linter.unusedVariables false

set_option maxHeartbeats 4000000 in

theorem walk (a0 : Int) (w0 : (Lit.int .i64 a0).wf = true) (a1 : Bool) (w : World) (he : Env w) :
    Calls Tryd.prog 6 #[.int .i64 a0, .bool a1] w fun e w' => e = .returned (.bool true) ∧ Ext w w' := by
  replace he : Hid (Env w) := he
  obtain ⟨V, hV⟩ : ∃ V : Int, wrap64 ((IntKind.u64.wrap a0).tmod 1000) = V := ⟨_, rfl⟩
  obtain ⟨v0, v1⟩ : 0 ≤ V ∧ V < 1000 := by
    have h0 : 0 ≤ IntKind.u64.wrap a0 := by rw [IntKind.wrap_u64]; omega
    have h1 := Int.tmod_nonneg 1000 h0
    have h2 := Int.tmod_lt_of_pos (IntKind.u64.wrap a0) (show (0 : Int) < 1000 by omega)
    rw [← hV]; unfold wrap64; omega
  cases a1
  · obtain ⟨M1, hM1⟩ : ∃ x : Int, 1000000000000000 - V = x := ⟨_, rfl⟩
    obtain ⟨R1, hR1⟩ : ∃ x : Int, 10000000000 - V = x := ⟨_, rfl⟩
    obtain ⟨O1, hO1⟩ : ∃ x : Int, 1000000000000001 + V = x := ⟨_, rfl⟩
    obtain ⟨F1, hF1⟩ : ∃ x : Int, 10000000001 + V = x := ⟨_, rfl⟩
    have e1 : wrap64 (1000000000000000 - V) = M1 := by unfold wrap64; omega
    have e2 : wrap64 (10000000000 - V) = R1 := by unfold wrap64; omega
    have e3 : wrap64 (1000000000000001 + V) = O1 := by unfold wrap64; omega
    have e4 : wrap64 (10000000001 + V) = F1 := by unfold wrap64; omega
    obtain ⟨M, hM⟩ : ∃ x : Int, M1 = x := ⟨_, rfl⟩
    subst hM
    obtain ⟨R, hR⟩ : ∃ x : Int, R1 = x := ⟨_, rfl⟩
    subst hR
    obtain ⟨O, hO⟩ : ∃ x : Int, O1 = x := ⟨_, rfl⟩
    subst hO
    obtain ⟨F, hF⟩ : ∃ x : Int, F1 = x := ⟨_, rfl⟩
    subst hF
    have tM : takeM (moneyL M1) = (M1, 0) := by rw [take_money _ ⟨by omega, by omega⟩, if_pos (by omega)]
    have tO : takeM (moneyL O1) = (0, 3) := by rw [take_money _ ⟨by omega, by omega⟩, if_neg (by omega)]
    have tR : takeR (rateL R1) = (R1, 0) := by rw [take_rate, if_pos (by omega)]
    have tF : takeR (rateL F1) = (0, 4) := by rw [take_rate, if_neg (by omega)]
    have iM : I64 M1 := ⟨by omega, by omega⟩
    have iO : I64 O1 := ⟨by omega, by omega⟩
    have iR : I64 R1 := ⟨by omega, by omega⟩
    have iF : I64 F1 := ⟨by omega, by omega⟩
    have lM := money_len M1 iM
    have lO := money_len O1 iO
    have lR := rate_len R1 iR
    have lF := rate_len F1 iF
    replace tM := show Hid _ from tM
    replace tO := show Hid _ from tO
    replace tR := show Hid _ from tR
    replace tF := show Hid _ from tF
    replace iM := show Hid _ from iM
    replace iO := show Hid _ from iO
    replace iR := show Hid _ from iR
    replace iF := show Hid _ from iF
    replace lM := show Hid _ from lM
    replace lO := show Hid _ from lO
    replace lR := show Hid _ from lR
    replace lF := show Hid _ from lF
    clear hM1 hR1 hO1 hF1 v0 v1
    generalize gM : moneyL M1 = LM at tM tO tR tF lM lO lR lF
    replace gM := show Hid _ from gM
    generalize gO : moneyL O1 = LO at tM tO tR tF lM lO lR lF
    replace gO := show Hid _ from gO
    generalize gR : rateL R1 = LR at tM tO tR tF lM lO lR lF
    replace gR := show Hid _ from gR
    generalize gF : rateL F1 = LF at tM tO tR tF lM lO lR lF
    replace gF := show Hid _ from gF
    go_enter Tryd.func6, Tryd.ntmps6
    go_wp2_with fail
    refine (money_x M1 LM gM.out _ iM.out he.out).mono ?_
    rintro e w1 ⟨rfl, hx1⟩
    have hx : Hid (Ext w w1) := hx1
    clear hx1
    go_wp2_with fail
    refine (takeMoney_x LM _ _ tM.out _ lM.out (Env.ext he.out hx.out)).mono ?_
    rintro e w1 ⟨rfl, hx1⟩
    replace hx : Hid (Ext w w1) := hx.out.trans hx1
    clear hx1
    go_wp2_with fail
    refine (money_x O1 LO gO.out _ iO.out (Env.ext he.out hx.out)).mono ?_
    rintro e w1 ⟨rfl, hx1⟩
    replace hx : Hid (Ext w w1) := hx.out.trans hx1
    clear hx1
    go_wp2_with fail
    refine (takeMoney_x LO _ _ tO.out _ lO.out (Env.ext he.out hx.out)).mono ?_
    rintro e w1 ⟨rfl, hx1⟩
    replace hx : Hid (Ext w w1) := hx.out.trans hx1
    clear hx1
    go_wp2_with fail
    refine (rate_x R1 LR gR.out _ iR.out (Env.ext he.out hx.out)).mono ?_
    rintro e w1 ⟨rfl, hx1⟩
    replace hx : Hid (Ext w w1) := hx.out.trans hx1
    clear hx1
    go_wp2_with fail
    refine (takeRate_x LR _ _ tR.out _ lR.out (Env.ext he.out hx.out)).mono ?_
    rintro e w1 ⟨rfl, hx1⟩
    replace hx : Hid (Ext w w1) := hx.out.trans hx1
    clear hx1
    go_wp2_with fail
    refine (rate_x F1 LF gF.out _ iF.out (Env.ext he.out hx.out)).mono ?_
    rintro e w1 ⟨rfl, hx1⟩
    replace hx : Hid (Ext w w1) := hx.out.trans hx1
    clear hx1
    go_wp2_with fail
    refine (takeRate_x LF _ _ tF.out _ lF.out (Env.ext he.out hx.out)).mono ?_
    rintro e w1 ⟨rfl, hx1⟩
    replace hx : Hid (Ext w w1) := hx.out.trans hx1
    clear hx1
    go_wp2_with fail
    refine (awake_c _ (Env.ext he.out hx.out)).mono ?_
    rintro e w1 ⟨rfl, hx1⟩
    replace hx : Hid (Ext w w1) := hx.out.trans hx1
    clear hx1
    go_wp2
    go_ret
    exact ⟨rfl, hx.out⟩
  · obtain ⟨M1, hM1⟩ : ∃ x : Int, 1000000000000000 - V = x := ⟨_, rfl⟩
    obtain ⟨R1, hR1⟩ : ∃ x : Int, 10000000000 - V = x := ⟨_, rfl⟩
    obtain ⟨O1, hO1⟩ : ∃ x : Int, 1000000000000001 + V = x := ⟨_, rfl⟩
    obtain ⟨F1, hF1⟩ : ∃ x : Int, 10000000001 + V = x := ⟨_, rfl⟩
    have e1 : wrap64 (1000000000000000 - V) = M1 := by unfold wrap64; omega
    have e2 : wrap64 (10000000000 - V) = R1 := by unfold wrap64; omega
    have e3 : wrap64 (1000000000000001 + V) = O1 := by unfold wrap64; omega
    have e4 : wrap64 (10000000001 + V) = F1 := by unfold wrap64; omega
    obtain ⟨M, hM⟩ : ∃ x : Int, -M1 = x := ⟨_, rfl⟩
    have nM : wrap64 (-M1) = M := by unfold wrap64; omega
    obtain ⟨R, hR⟩ : ∃ x : Int, -R1 = x := ⟨_, rfl⟩
    have nR : wrap64 (-R1) = R := by unfold wrap64; omega
    obtain ⟨O, hO⟩ : ∃ x : Int, -O1 = x := ⟨_, rfl⟩
    have nO : wrap64 (-O1) = O := by unfold wrap64; omega
    obtain ⟨F, hF⟩ : ∃ x : Int, -F1 = x := ⟨_, rfl⟩
    have nF : wrap64 (-F1) = F := by unfold wrap64; omega
    have tM : takeM (moneyL M) = (M, 0) := by rw [take_money _ ⟨by omega, by omega⟩, if_pos (by omega)]
    have tO : takeM (moneyL O) = (0, 3) := by rw [take_money _ ⟨by omega, by omega⟩, if_neg (by omega)]
    have tR : takeR (rateL R) = (R, 0) := by rw [take_rate, if_pos (by omega)]
    have tF : takeR (rateL F) = (0, 4) := by rw [take_rate, if_neg (by omega)]
    have iM : I64 M := ⟨by omega, by omega⟩
    have iO : I64 O := ⟨by omega, by omega⟩
    have iR : I64 R := ⟨by omega, by omega⟩
    have iF : I64 F := ⟨by omega, by omega⟩
    have lM := money_len M iM
    have lO := money_len O iO
    have lR := rate_len R iR
    have lF := rate_len F iF
    replace tM := show Hid _ from tM
    replace tO := show Hid _ from tO
    replace tR := show Hid _ from tR
    replace tF := show Hid _ from tF
    replace iM := show Hid _ from iM
    replace iO := show Hid _ from iO
    replace iR := show Hid _ from iR
    replace iF := show Hid _ from iF
    replace lM := show Hid _ from lM
    replace lO := show Hid _ from lO
    replace lR := show Hid _ from lR
    replace lF := show Hid _ from lF
    clear hM1 hR1 hO1 hF1 hM hR hO hF v0 v1
    generalize gM : moneyL M = LM at tM tO tR tF lM lO lR lF
    replace gM := show Hid _ from gM
    generalize gO : moneyL O = LO at tM tO tR tF lM lO lR lF
    replace gO := show Hid _ from gO
    generalize gR : rateL R = LR at tM tO tR tF lM lO lR lF
    replace gR := show Hid _ from gR
    generalize gF : rateL F = LF at tM tO tR tF lM lO lR lF
    replace gF := show Hid _ from gF
    go_enter Tryd.func6, Tryd.ntmps6
    go_wp2_with fail
    refine (money_x M LM gM.out _ iM.out he.out).mono ?_
    rintro e w1 ⟨rfl, hx1⟩
    have hx : Hid (Ext w w1) := hx1
    clear hx1
    go_wp2_with fail
    refine (takeMoney_x LM _ _ tM.out _ lM.out (Env.ext he.out hx.out)).mono ?_
    rintro e w1 ⟨rfl, hx1⟩
    replace hx : Hid (Ext w w1) := hx.out.trans hx1
    clear hx1
    go_wp2_with fail
    refine (money_x O LO gO.out _ iO.out (Env.ext he.out hx.out)).mono ?_
    rintro e w1 ⟨rfl, hx1⟩
    replace hx : Hid (Ext w w1) := hx.out.trans hx1
    clear hx1
    go_wp2_with fail
    refine (takeMoney_x LO _ _ tO.out _ lO.out (Env.ext he.out hx.out)).mono ?_
    rintro e w1 ⟨rfl, hx1⟩
    replace hx : Hid (Ext w w1) := hx.out.trans hx1
    clear hx1
    go_wp2_with fail
    refine (rate_x R LR gR.out _ iR.out (Env.ext he.out hx.out)).mono ?_
    rintro e w1 ⟨rfl, hx1⟩
    replace hx : Hid (Ext w w1) := hx.out.trans hx1
    clear hx1
    go_wp2_with fail
    refine (takeRate_x LR _ _ tR.out _ lR.out (Env.ext he.out hx.out)).mono ?_
    rintro e w1 ⟨rfl, hx1⟩
    replace hx : Hid (Ext w w1) := hx.out.trans hx1
    clear hx1
    go_wp2_with fail
    refine (rate_x F LF gF.out _ iF.out (Env.ext he.out hx.out)).mono ?_
    rintro e w1 ⟨rfl, hx1⟩
    replace hx : Hid (Ext w w1) := hx.out.trans hx1
    clear hx1
    go_wp2_with fail
    refine (takeRate_x LF _ _ tF.out _ lF.out (Env.ext he.out hx.out)).mono ?_
    rintro e w1 ⟨rfl, hx1⟩
    replace hx : Hid (Ext w w1) := hx.out.trans hx1
    clear hx1
    go_wp2_with fail
    refine (awake_c _ (Env.ext he.out hx.out)).mono ?_
    rintro e w1 ⟨rfl, hx1⟩
    replace hx : Hid (Ext w w1) := hx.out.trans hx1
    clear hx1
    go_wp2
    go_ret
    exact ⟨rfl, hx.out⟩

set_option maxRecDepth 100000 in
theorem lifted (os : Os) (started : os.Started) (H : Type) (enc : TypeId × Value → H) :
    ReturnsInHanded {} Tryd.checked os 6 .any (fun w args => (Rows.decimalBoundsSpec.pre enc Tryd.prog Tryd.f6 [] false w args ∧ laidMetH Tryd.prog laid w) ∧ sizedMet enc Tryd.prog Tryd.f6 (OpenSpec.ofChange Rows.decimalBoundsSpec) false w args)
      (Rows.decimalBoundsSpec.post enc Tryd.prog Tryd.f6 false true false false) := by
  refine wrap started (by kernel_rfl) Tryd.func6
    (ChangeSpec.witness_shaped (enc := enc) (C := Tryd.checked) (os := os) (X := fun w _ => laidMetH Tryd.prog laid w) false (World.laidAll Tryd.prog os laid) #[.int .i64 0, .bool false] 8 (World.laidAll_os _ _ _)
      (World.shaped_of_ZipB (by kernel_rfl) (by kernel_rfl)) (by kernel_rfl) (by kernel_rfl) (by kernel_rfl)
      (by rw [MakeChecks.laidMetH_plain _ _ _ (by kernel_rfl)]; exact laidMet_laidAll _ (by kernel_rfl) (by kernel_rfl))) ?_
  intro W base args ds gs before hval0 hW hE
  have hval : ∀ (j : Nat) t v, Tryd.f6.params[j]? = some t → args[j]? = some v → Value.okWide Tryd.prog W .any base t v := hval0
  have hW' := hW
  obtain ⟨p, q, hA0, hV, rfl, _, _⟩ := hW
  have hA : DataW.TrodAll enc Tryd.prog W 0 (fun _ => true) true Tryd.f6.params.toList args.toList ds p := hA0
  rw [Tryd.params6] at hA hval
  obtain ⟨v0, vs0, d0, ds0, p0, q0, hargs, rfl, rfl, h0, r0⟩ := trodAll_cons hA
  obtain ⟨v1, vs1, d1, ds1, p1, q1, rfl, rfl, rfl, h1, r1⟩ := trodAll_cons r0
  obtain ⟨rfl, rfl, rfl⟩ := trodAll_nil r1
  obtain rfl : args = #[v0, v1] := by cases args; simp_all
  obtain ⟨rfl, rfl⟩ := trodVars_none hV
  obtain ⟨a0, rfl, rfl, rfl, w0⟩ := open_int Tryd.underlying2 (hval 0 2 v0 rfl rfl) h0
  obtain ⟨a1, rfl, rfl, rfl⟩ := open_bool Tryd.underlying4 (hval 1 4 v1 rfl rfl) h1
  clear hA0 hval0
  simp only [List.append_nil] at hW'
  refine (walk a0 w0 a1 W hE).mono fun e W' ⟨he, hb⟩ => ?_
  subst he
  exact ⟨_, rfl, _, _, _, [], [], [], hW', (trodAll_cons_mk (shut_bool Tryd.underlying4 _) trodAll_mk0), (trodAll_cons_mk (shut_int Tryd.underlying2 w0) (trodAll_cons_mk (shut_bool Tryd.underlying4 _) trodAll_mk0)), rfl, hb.below.frame _, fun h => by cases h⟩

theorem over : Rows.decimalBoundsRow.holds Tryd.pinned (OpenSpec.ofChange Rows.decimalBoundsSpec) :=
  OpenClaim.holds_of_wide 6 Tryd.f6 rfl rfl rfl rfl rfl rfl rfl ⟨rfl, rfl, rfl, rfl, rfl⟩ rfl rfl rfl rfl rfl (by kernel_rfl) Tryd.func6 (by kernel_rfl)
    (of_decide_eq_true (by kernel_rfl)) (by unfold Func.isWrapper; first | (rw [if_pos (by decide +kernel)]; kernel_rfl) | (rw [if_neg (by decide +kernel)]; exact ⟨rfl, rfl⟩))
    (fun os started H enc _ => lifted os started H enc)
end Go.Proofs.YtpmgbagnaaahoabDoor.decimalBounds
namespace Go.Proofs.YtpmgbagnaaahoabDoor
theorem decimalBounds_holds : Rows.DecimalBoundsCardSaid :=
  Claim7.holds_tied_plain_at .later [] [.data, .data, .data, .data, .pinned] true (true, "6c72434a28853cd36528dcda40ea39cd8b8d9ad355b7b9cabfd0f0281fc62663") true decimalBounds.over (fun _ h => by cases h) (by kernel_rfl) (fun _ h => by cases h) decimalBounds_row_tie rfl ⟨rfl, rfl⟩ (by kernel_rfl) rfl
    (fun f fn hf hfn => by
      obtain rfl : f = 6 := Option.some.inj ((show Tryd.prog.funcNamed "quittance/quittancelaw02.DecimalBounds" = some 6 by kernel_rfl).symm.trans hf) |>.symm
      obtain rfl : fn = Tryd.f6 := (Option.some.inj (Tryd.func6.symm.trans hfn)).symm
      exact ⟨by kernel_rfl, fun j t ht => by
        rw [Tryd.params6] at ht
        have hm : t ∈ [2, 4] := by simpa using Array.mem_of_getElem? ht
        have hall : ([2, 4].all fun u => !Tryd.prog.wantsStandIn u) = true := by kernel_rfl
        exact (show Tryd.prog.wantsStandIn t = false by simpa using List.all_eq_true.1 hall t hm)⟩)
    (by kernel_rfl)
#print axioms decimalBounds_holds
end Go.Proofs.YtpmgbagnaaahoabDoor
