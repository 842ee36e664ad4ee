/- For every int64 v and all strings s and t, of the project's tree at the commit that COMMIT names, DecimalTells returns true and leaves its arguments as they were, with the library's variables laid as the program's text lays them. -/
import Derived.Test.YtpmgbagnaaahoabDoorFrame
import Derived.Test.YtpmgbagnaaahoabDoorRef6
namespace Go.Proofs.YtpmgbagnaaahoabDoor.decimalTells
open Go.ChangeShapes Go.WideShapes Go.ChangeAt Go.RowKit Go.Lib
set_option linter.unusedVariables false

theorem rmoney_x (v : Int) (m : List UInt8) (hm : moneyL v = m) (w : World) (h : I64 v) :
    Calls Tryd.prog 14 #[.int .i64 v] w fun e w' => e = .returned (.string ⟨m.toArray⟩) ∧ Ext w w' := hm ▸ rmoney_c v w h
theorem rtakeMoney_x (l : List UInt8) (v c : Int) (hv : takeM l = (v, c)) (w : World) (hl : l.length ≤ 1000) :
    Calls Tryd.prog 10 #[.string ⟨l.toArray⟩] w fun e w' => e = .returned (.tuple #[.int .i64 v, .int .i64 c]) ∧ Ext w w' := by
  have := rtakeMoney_c l w hl
  rw [hv] at this
  exact this.mono fun _ _ ⟨h, k⟩ => ⟨h, k ▸ Ext.refl _⟩
theorem rtakeRate_x (l : List UInt8) (v c : Int) (hv : takeR l = (v, c)) (w : World) (hl : l.length ≤ 1000) :
    Calls Tryd.prog 12 #[.string ⟨l.toArray⟩] w fun e w' => e = .returned (.tuple #[.int .i64 v, .int .i64 c]) ∧ Ext w w' := by
  have := rtakeRate_c l w hl
  rw [hv] at this
  exact this
theorem long1 (a0 : Int) (l t : List UInt8) (w : World) (he : Hid (Env w)) (h : (100 : Int) < (l.length : Int)) :
    Calls Tryd.prog 3 #[.int .i64 a0, .string ⟨l.toArray⟩, .string ⟨t.toArray⟩] w fun e w' => e = .returned (.bool true) ∧ Ext w w' := by
  go_enter Tryd.func3, Tryd.ntmps3
  go_wp2_with fail
  refine (awake_c _ he.out).mono ?_
  rintro e w1 ⟨rfl, hx⟩
  go_wp2
  go_ret
  exact ⟨rfl, hx⟩
theorem long2 (a0 : Int) (l t : List UInt8) (w : World) (he : Hid (Env w)) (h1 : ¬ (100 : Int) < (l.length : Int)) (h : (100 : Int) < (t.length : Int)) :
    Calls Tryd.prog 3 #[.int .i64 a0, .string ⟨l.toArray⟩, .string ⟨t.toArray⟩] w fun e w' => e = .returned (.bool true) ∧ Ext w w' := by
  go_enter Tryd.func3, Tryd.ntmps3
  go_wp2_with fail
  refine (awake_c _ he.out).mono ?_
  rintro e w1 ⟨rfl, hx⟩
  go_wp2
  go_ret
  exact ⟨rfl, hx⟩
set_option maxHeartbeats 4000000 in
theorem main (a0 : Int) (l t : List UInt8) (w : World) (he : Hid (Env w)) (iA : I64 a0) (hl : l.length ≤ 100) (ht : t.length ≤ 100) (c g d h : Int) (t1 : takeM l = (c, g)) (t2 : takeR t = (d, h)) :
    Calls Tryd.prog 3 #[.int .i64 a0, .string ⟨l.toArray⟩, .string ⟨t.toArray⟩] w fun e w' => e = .returned (.bool true) ∧ Ext w w' := by
  have hl' : ¬ (100 : Int) < (l.length : Int) := by omega
  have ht' : ¬ (100 : Int) < (t.length : Int) := by omega
  generalize gM : moneyL a0 = M
  generalize gT : rateL a0 = T
  replace gM := show Hid _ from gM
  replace gT := show Hid _ from gT
  replace t1 := show Hid _ from t1
  replace t2 := show Hid _ from t2
  replace iA := show Hid _ from iA
  go_enter Tryd.func3, Tryd.ntmps3
  go_wp2_with fail
  refine (takeMoney_x l _ _ t1.out _ (by omega) he.out).mono ?_
  rintro e w1 ⟨rfl, hx1⟩
  have hx : Hid (Ext w w1) := hx1
  clear hx1
  go_wp2_with fail
  refine (rtakeMoney_x l _ _ t1.out _ (by omega)).mono ?_
  rintro e w1 ⟨rfl, hx1⟩
  replace hx : Hid (Ext w w1) := hx.out.trans hx1
  clear hx1
  go_wp2_with fail
  refine (takeRate_x t _ _ t2.out _ (by omega) (Env.ext he.out hx.out)).mono ?_
  rintro e w1 ⟨rfl, hx1⟩
  replace hx : Hid (Ext w w1) := hx.out.trans hx1
  clear hx1
  go_wp2_with fail
  refine (rtakeRate_x t _ _ t2.out _ (by omega)).mono ?_
  rintro e w1 ⟨rfl, hx1⟩
  replace hx : Hid (Ext w w1) := hx.out.trans hx1
  clear hx1
  go_wp2_with fail
  refine (awake_c _ (Env.ext he.out hx.out)).mono ?_
  rintro e w1 ⟨rfl, hx1⟩
  replace hx : Hid (Ext w w1) := hx.out.trans hx1
  clear hx1
  go_wp2_with fail
  refine (money_x a0 M gM.out _ iA.out (Env.ext he.out hx.out)).mono ?_
  rintro e w1 ⟨rfl, hx1⟩
  replace hx : Hid (Ext w w1) := hx.out.trans hx1
  clear hx1
  go_wp2_with fail
  refine (rmoney_x a0 M gM.out _ iA.out).mono ?_
  rintro e w1 ⟨rfl, hx1⟩
  replace hx : Hid (Ext w w1) := hx.out.trans hx1
  clear hx1
  go_wp2_with fail
  refine (rate_x a0 T gT.out _ iA.out (Env.ext he.out hx.out)).mono ?_
  rintro e w1 ⟨rfl, hx1⟩
  replace hx : Hid (Ext w w1) := hx.out.trans hx1
  clear hx1
  go_wp2_with fail
  refine (rrate_x a0 T gT.out _ iA.out).mono ?_
  rintro e w1 ⟨rfl, hx1⟩
  replace hx : Hid (Ext w w1) := hx.out.trans hx1
  clear hx1
  go_wp2
  go_ret
  exact ⟨rfl, hx.out⟩

theorem walk (a0 : Int) (w0 : (Lit.int .i64 a0).wf = true) (a1 : ByteArray) (w1 : a1.size ≤ maxLen) (a2 : ByteArray) (w2 : a2.size ≤ maxLen) (w : World) (he : Env w) :
    Calls Tryd.prog 3 #[.int .i64 a0, .string a1, .string a2] w fun e w' => e = .returned (.bool true) ∧ Ext w w' := by
  obtain ⟨l, rfl⟩ : ∃ l : List UInt8, a1 = ⟨l.toArray⟩ := ⟨a1.data.toList, (Lib.mk_data a1).symm⟩
  obtain ⟨t, rfl⟩ : ∃ l : List UInt8, a2 = ⟨l.toArray⟩ := ⟨a2.data.toList, (Lib.mk_data a2).symm⟩
  have iA : I64 a0 := by
    have : -9223372036854775808 ≤ a0 ∧ a0 ≤ 9223372036854775807 := by simpa [Lit.wf, IntKind.min, IntKind.max, IntKind.signed, IntKind.bits] using w0
    exact this
  by_cases h1 : (100 : Int) < (l.length : Int)
  · exact long1 a0 l t w he h1
  by_cases h2 : (100 : Int) < (t.length : Int)
  · exact long2 a0 l t w he h1 h2
  rcases t1 : takeM l with ⟨c, g⟩
  rcases t2 : takeR t with ⟨d, h⟩
  exact main a0 l t w he iA (by omega) (by omega) c g d h t1 t2

set_option maxRecDepth 100000 in
theorem lifted (os : Os) (started : os.Started) (H : Type) (enc : TypeId × Value → H) :
    ReturnsInHanded {} Tryd.checked os 3 .any (fun w args => (Rows.decimalTellsSpec.pre enc Tryd.prog Tryd.f3 [] false w args ∧ laidMetH Tryd.prog laid w) ∧ sizedMet enc Tryd.prog Tryd.f3 (OpenSpec.ofChange Rows.decimalTellsSpec) false w args)
      (Rows.decimalTellsSpec.post enc Tryd.prog Tryd.f3 false true false false) := by
  refine wrap started (by kernel_rfl) Tryd.func3
    (ChangeSpec.witness_shaped (enc := enc) (C := Tryd.checked) (os := os) (X := fun w _ => laidMetH Tryd.prog laid w) false (World.laidAll Tryd.prog os laid) #[.int .i64 0, .string ⟨#[]⟩, .string ⟨#[]⟩] 8 (World.laidAll_os _ _ _)
      (World.shaped_of_ZipB (by kernel_rfl) (by kernel_rfl)) (by kernel_rfl) (by kernel_rfl) (by kernel_rfl)
      (by rw [MakeChecks.laidMetH_plain _ _ _ (by kernel_rfl)]; exact laidMet_laidAll _ (by kernel_rfl) (by kernel_rfl))) ?_
  intro W base args ds gs before hval0 hW hE
  have hval : ∀ (j : Nat) t v, Tryd.f3.params[j]? = some t → args[j]? = some v → Value.okWide Tryd.prog W .any base t v := hval0
  have hW' := hW
  obtain ⟨p, q, hA0, hV, rfl, _, _⟩ := hW
  have hA : DataW.TrodAll enc Tryd.prog W 0 (fun _ => true) true Tryd.f3.params.toList args.toList ds p := hA0
  rw [Tryd.params3] at hA hval
  obtain ⟨v0, vs0, d0, ds0, p0, q0, hargs, rfl, rfl, h0, r0⟩ := trodAll_cons hA
  obtain ⟨v1, vs1, d1, ds1, p1, q1, rfl, rfl, rfl, h1, r1⟩ := trodAll_cons r0
  obtain ⟨v2, vs2, d2, ds2, p2, q2, rfl, rfl, rfl, h2, r2⟩ := trodAll_cons r1
  obtain ⟨rfl, rfl, rfl⟩ := trodAll_nil r2
  obtain rfl : args = #[v0, v1, v2] := by cases args; simp_all
  obtain ⟨rfl, rfl⟩ := trodVars_none hV
  obtain ⟨a0, rfl, rfl, rfl, w0⟩ := open_int Tryd.underlying2 (hval 0 2 v0 rfl rfl) h0
  obtain ⟨a1, rfl, rfl, rfl, w1⟩ := Go.ChangeMaps.open_string Tryd.underlying9 (hval 1 9 v1 rfl rfl) h1
  obtain ⟨a2, rfl, rfl, rfl, w2⟩ := Go.ChangeMaps.open_string Tryd.underlying9 (hval 2 9 v2 rfl rfl) h2
  clear hA0 hval0
  simp only [List.append_nil] at hW'
  refine (walk a0 w0 a1 w1 a2 w2 W hE).mono fun e W' ⟨he, hb⟩ => ?_
  subst he
  exact ⟨_, rfl, _, _, _, [], [], [], hW', (trodAll_cons_mk (shut_bool Tryd.underlying4 _) trodAll_mk0), (trodAll_cons_mk (shut_int Tryd.underlying2 w0) (trodAll_cons_mk (Go.ChangeMaps.shut_string Tryd.underlying9 w1) (trodAll_cons_mk (Go.ChangeMaps.shut_string Tryd.underlying9 w2) trodAll_mk0))), rfl, hb.below.frame _, fun h => by cases h⟩

theorem over : Rows.decimalTellsRow.holds Tryd.pinned (OpenSpec.ofChange Rows.decimalTellsSpec) :=
  OpenClaim.holds_of_wide 3 Tryd.f3 rfl rfl rfl rfl rfl rfl rfl ⟨rfl, rfl, rfl, rfl, rfl⟩ rfl rfl rfl rfl rfl (by kernel_rfl) Tryd.func3 (by kernel_rfl)
    (of_decide_eq_true (by kernel_rfl)) (by unfold Func.isWrapper; first | (rw [if_pos (by decide +kernel)]; kernel_rfl) | (rw [if_neg (by decide +kernel)]; exact ⟨rfl, rfl⟩))
    (fun os started H enc _ => lifted os started H enc)
end Go.Proofs.YtpmgbagnaaahoabDoor.decimalTells
namespace Go.Proofs.YtpmgbagnaaahoabDoor
theorem decimalTells_holds : Rows.DecimalTellsCardSaid :=
  Claim7.holds_tied_plain_at .later [] [.data, .data, .data, .data, .pinned] true (true, "6c72434a28853cd36528dcda40ea39cd8b8d9ad355b7b9cabfd0f0281fc62663") true decimalTells.over (fun _ h => by cases h) (by kernel_rfl) (fun _ h => by cases h) decimalTells_row_tie rfl ⟨rfl, rfl⟩ (by kernel_rfl) rfl
    (fun f fn hf hfn => by
      obtain rfl : f = 3 := Option.some.inj ((show Tryd.prog.funcNamed "quittance/quittancelaw02.DecimalTells" = some 3 by kernel_rfl).symm.trans hf) |>.symm
      obtain rfl : fn = Tryd.f3 := (Option.some.inj (Tryd.func3.symm.trans hfn)).symm
      exact ⟨by kernel_rfl, fun j t ht => by
        rw [Tryd.params3] at ht
        have hm : t ∈ [2, 9, 9] := by simpa using Array.mem_of_getElem? ht
        have hall : ([2, 9, 9].all fun u => !Tryd.prog.wantsStandIn u) = true := by kernel_rfl
        exact (show Tryd.prog.wantsStandIn t = false by simpa using List.all_eq_true.1 hall t hm)⟩)
    (by kernel_rfl)
#print axioms decimalTells_holds
end Go.Proofs.YtpmgbagnaaahoabDoor
