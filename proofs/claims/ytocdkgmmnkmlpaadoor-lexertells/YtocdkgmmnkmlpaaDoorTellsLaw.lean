/- For every string s, of the project's tree at the commit that COMMIT names, LexerTells returns true and leaves its argument as it was, with the listed variables laid as the program's text lays them. -/
import Derived.Test.YtocdkgmmnkmlpaaDoorFrame
namespace Go.Proofs.YtocdkgmmnkmlpaaDoor.lexerTells
open Go.ChangeShapes Go.WideShapes Go.ChangeAt Go.RowKit Go.Lib
set_option linter.unusedVariables false

set_option maxHeartbeats 4000000 in

theorem walk (a0 : ByteArray) (w0 : a0.size ≤ maxLen) (w : World) (he : Env w) :
    Calls Tryd.prog 3 #[.string a0] w fun e w' => e = .returned (.bool true) ∧ Ext w w' := by
  replace he : Hid (Env w) := he
  unfold maxLen at w0
  obtain ⟨l, rfl⟩ : ∃ l : List UInt8, a0 = ⟨l.toArray⟩ := ⟨a0.data.toList, by cases a0; simp⟩
  rw [Lib.size_mk] at w0
  obtain ⟨ts, hT⟩ : ∃ x, aT l = x := ⟨_, rfl⟩
  obtain ⟨p, hP⟩ : ∃ x, aP l = x := ⟨_, rfl⟩
  obtain ⟨q, hQ⟩ : ∃ x, aE l = x := ⟨_, rfl⟩
  have hle : ts.length ≤ 20001 := hT ▸ aT_le l
  replace hT := show Hid _ from hT
  replace hP := show Hid _ from hP
  replace hQ := show Hid _ from hQ
  by_cases hl : 20005 < l.length
  · go_enter Tryd.func3, Tryd.ntmps3
    go_wp2_with fail
    refine (awake_c _ he).mono ?_
    rintro e w1 ⟨rfl, hx⟩
    replace hx := show Hid _ from hx
    go_wp2
    go_ret
    exact ⟨rfl, hx.out⟩
  · go_enter Tryd.func3, Tryd.ntmps3
    go_wp2_with fail
    refine (All_x l ts p q hT.out hP.out hQ.out _ w0 he).mono ?_
    rintro e w1 ⟨⟨u, rfl, ho⟩, hx1⟩
    replace he : Hid (Env w1) := he.out.ext hx1
    have hx : Hid (Ext w w1) := hx1
    replace ho := show Hid (Own _ w1 u ts) from ho
    clear hx1
    go_wp2_with fail
    refine (rAll_x l ts p q hT.out hP.out hQ.out _ w0).mono ?_
    rintro e w2 ⟨⟨v, rfl, ho2⟩, hx1⟩
    replace he : Hid (Env w2) := he.out.ext hx1
    replace hx : Hid (Ext w w2) := hx.out.trans hx1
    replace ho : Hid (Own _ w2 u ts) := ho.out.ext hx1
    replace ho2 := show Hid (Own _ w2 v ts) from ho2
    clear hx1
    go_wp2_with fail
    refine (awake_c _ he).mono ?_
    rintro e w3 ⟨rfl, hx1⟩
    replace hx : Hid (Ext w w3) := hx.out.trans hx1
    replace ho : Hid (Own _ w3 u ts) := ho.out.ext hx1
    replace ho2 : Hid (Own _ w3 v ts) := ho2.out.ext hx1
    clear hx1
    go_wp2_with fail
    refine (Plain_c _ _ u v ts _ (by omega) ho.out ho2.out).mono ?_
    rintro e w4 ⟨rfl, hx1⟩
    replace hx : Hid (Ext w w4) := hx.out.trans hx1
    clear hx1 ho ho2
    go_wp2
    go_ret
    exact ⟨rfl, hx.out⟩

set_option maxRecDepth 100000 in
theorem lifted (os : Os) (started : os.Started) (H : Type) (enc : TypeId × Value → H) :
    ReturnsInHanded {} Tryd.checked os 3 .any (fun w args => (Rows.lexerTellsSpec.pre enc Tryd.prog Tryd.f3 [] false w args ∧ laidMetH Tryd.prog laid w) ∧ sizedMet enc Tryd.prog Tryd.f3 (OpenSpec.ofChange Rows.lexerTellsSpec) false w args)
      (Rows.lexerTellsSpec.post enc Tryd.prog Tryd.f3 false true false false) := by
  refine wrap started (by kernel_rfl) Tryd.func3
    (ChangeSpec.witness_shaped (enc := enc) (C := Tryd.checked) (os := os) (X := fun w _ => laidMetH Tryd.prog laid w) false (World.laidAll Tryd.prog os laid) #[.string ⟨#[]⟩] 8 (World.laidAll_os _ _ _)
      (World.shaped_of_ZipB (by kernel_rfl) (by kernel_rfl)) (by kernel_rfl) (by kernel_rfl) (by kernel_rfl)
      (by rw [MakeChecks.laidMetH_plain _ _ _ (by kernel_rfl)]; exact laidMet_laidAll _ (by kernel_rfl) (by kernel_rfl))) ?_
  intro W base args ds gs before hval0 hW hE
  have hval : ∀ (j : Nat) t v, Tryd.f3.params[j]? = some t → args[j]? = some v → Value.okWide Tryd.prog W .any base t v := hval0
  have hW' := hW
  obtain ⟨p, q, hA0, hV, rfl, _, _⟩ := hW
  have hA : DataW.TrodAll enc Tryd.prog W 0 (fun _ => true) true Tryd.f3.params.toList args.toList ds p := hA0
  rw [Tryd.params3] at hA hval
  obtain ⟨v0, vs0, d0, ds0, p0, q0, hargs, rfl, rfl, h0, r0⟩ := trodAll_cons hA
  obtain ⟨rfl, rfl, rfl⟩ := trodAll_nil r0
  obtain rfl : args = #[v0] := by cases args; simp_all
  obtain ⟨rfl, rfl⟩ := trodVars_none hV
  obtain ⟨a0, rfl, rfl, rfl, w0⟩ := Go.ChangeMaps.open_string Tryd.underlying9 (hval 0 9 v0 rfl rfl) h0
  clear hA0 hval0
  simp only [List.append_nil] at hW'
  refine (walk a0 w0 W hE).mono fun e W' ⟨he, hb⟩ => ?_
  subst he
  exact ⟨_, rfl, _, _, _, [], _, [], hW', (trodAll_cons_mk (shut_bool Tryd.underlying4 _) trodAll_mk0), (trodAll_cons_mk (Go.ChangeMaps.shut_string Tryd.underlying9 w0) trodAll_mk0), rfl, hb.below.frame _, fun h => by cases h⟩

theorem over : Rows.lexerTellsRow.holds Tryd.pinned (OpenSpec.ofChange Rows.lexerTellsSpec) :=
  OpenClaim.holds_of_wide 3 Tryd.f3 rfl rfl rfl rfl rfl rfl rfl ⟨rfl, rfl, rfl, rfl, rfl⟩ rfl rfl rfl rfl rfl (by kernel_rfl) Tryd.func3 (by kernel_rfl)
    (of_decide_eq_true (by kernel_rfl)) (by unfold Func.isWrapper; first | (rw [if_pos (by decide +kernel)]; kernel_rfl) | (rw [if_neg (by decide +kernel)]; exact ⟨rfl, rfl⟩))
    (fun os started H enc _ => lifted os started H enc)
end Go.Proofs.YtocdkgmmnkmlpaaDoor.lexerTells
namespace Go.Proofs.YtocdkgmmnkmlpaaDoor
theorem lexerTells_holds : Rows.LexerTellsCardSaid :=
  Claim7.holds_tied_plain_at .later [] [.data, .pinned] true (true, "bb02076f46fe85bca606fee8305af3083b78a2dd3027bd5c5d7b576488f40cbf") true lexerTells.over (fun _ h => by cases h) (by kernel_rfl) (fun _ h => by cases h) lexerTells_row_tie rfl ⟨rfl, rfl⟩ (by kernel_rfl) rfl
    (fun f fn hf hfn => by
      obtain rfl : f = 3 := Option.some.inj ((show Tryd.prog.funcNamed "quittance/quittancelaw07.LexerTells" = some 3 by kernel_rfl).symm.trans hf) |>.symm
      obtain rfl : fn = Tryd.f3 := (Option.some.inj (Tryd.func3.symm.trans hfn)).symm
      exact ⟨by kernel_rfl, fun j t ht => by
        rw [Tryd.params3] at ht
        have hm : t ∈ [9] := by simpa using Array.mem_of_getElem? ht
        have hall : ([9].all fun u => !Tryd.prog.wantsStandIn u) = true := by kernel_rfl
        exact (show Tryd.prog.wantsStandIn t = false by simpa using List.all_eq_true.1 hall t hm)⟩)
    (by kernel_rfl)
#print axioms lexerTells_holds
end Go.Proofs.YtocdkgmmnkmlpaaDoor
