/- For every string s, of the project's tree at the commit that COMMIT names, GrammarPlaces returns true and leaves its argument as it was, with the listed variables laid as the program's text lays them. -/
import Derived.Test.YtlbodoggfbdnjaaGreatDoorM8
import Derived.Test.YtlbodoggfbdnjaaGreatDoorM13
namespace Go.Proofs.YtlbodoggfbdnjaaGreatDoor.grammarPlaces
open Go.ChangeShapes Go.WideShapes Go.ChangeAt Go.RowKit Go.Lib
set_option linter.unusedVariables false

theorem prod_no (w : World) : Calls Tryz.prog 12 #[.agg zP, .agg #[.string ⟨#[]⟩, .int .i64 0, .int .i64 0, .int .i64 0, .int .i64 0, .int .i64 0, .int .i64 0, .int .i64 0, .slice none 0 0, .int .i64 0, .int .i64 0, .int .i64 0, .int .i64 0, .int .i64 0, .int .i64 0, .slice none 0 0, .int .i64 0, .int .i64 0, .slice none 0 0]] w fun e w' => e = .returned (.bool true) ∧ Ext w w' := Prod_z w
set_option maxRecDepth 100000 in
set_option maxHeartbeats 4000000 in
theorem places_no (l : List UInt8) (w : World) (hl : l.length ≤ 4000) (he : Hid (Env w)) (x y : Nat) (hp : prs l = .no x y) (known : Bool) (k0 : ((x : Int) == 0) = false) (hx5 : x = 3 ∨ x = 6 ∨ x = 7 ∨ x = 8 ∨ x = 9) (hy : y ≤ l.length) :
    Calls Tryz.prog 4 #[.string ⟨l.toArray⟩] w fun e w' => e = .returned (.bool true) ∧ Ext w w' := by
  have hnl : ¬ (4000 : Int) < (l.length : Int) := by omega
  have hnl2 : ¬ 4000 < l.length := by omega
  have hy1 : (y : Int) ≤ (l.length : Int) := by omega
  have hy0 : (0 : Int) ≤ (y : Int) := by omega
  go_enter Tryz.func4, Tryz.ntmps4
  go_wp2_with fail
  refine (Parse_c l _ (by omega) he).mono ?_
  rintro e w1 ⟨hx, hA⟩
  rw [hp] at hA
  obtain rfl : e = .returned (.tuple #[.agg zP, .int .i64 y, .int .i64 x]) := hA
  obtain ⟨W2, b, hW2, hb, hx2, hB2⟩ := layZ w1
  have hlo : w.heap.size ≤ b := by rw [← hb]; exact hx.size
  have hsz := zP_ok.1
  have hone := zP_ok.2
  replace hx := show Hid _ from hx.trans hx2
  go_wp2_with (refine store27 hB2 rfl hsz hone rfl rfl rfl rfl ?_)
  intro W3 hB3 hx3
  replace hx : Hid (Ext w W3) := hx3.ext hx.out hlo
  replace he : Hid (Env W3) := he.out.ext hx.out
  clear hW2 hb hx2 hB2 hx3 hsz hone hlo
  replace hB3 := show Hid _ from hB3
  rcases hx5 with rfl | rfl | rfl | rfl | rfl
  all_goals
    go_wp2_with fail
    refine (awake_c _ he).mono ?_
    rintro e w4 ⟨rfl, hx4⟩
    have hB4 := keep19 hB3.out hx4
    replace hx : Hid (Ext w w4) := hx.out.trans hx4
    clear hx4 he hB3
    go_wp2_with (refine load27 hB4 zP_ok.1 rfl rfl rfl ?_)
    refine (prod_no _).mono ?_
    rintro e w5 ⟨rfl, hx6⟩
    replace hx : Hid (Ext w w5) := hx.out.trans hx6
    clear hx6 hB4
    go_wp2
    go_ret
    exact ⟨rfl, hx.out⟩

theorem walk (a0 : ByteArray) (w0 : a0.size ≤ maxLen) (w : World) (he : Env w) :
    Calls Tryz.prog 4 #[.string a0] w fun e w' => e = .returned (.bool true) ∧ Ext w w' := by
  replace he : Hid (Env w) := he
  unfold maxLen at w0
  obtain ⟨l, rfl⟩ : ∃ l : List UInt8, a0 = ⟨l.toArray⟩ := ⟨a0.data.toList, by cases a0; simp⟩
  rw [Lib.size_mk] at w0
  by_cases hl : 4000 < l.length
  · have hl2 : (4000 : Int) < (l.length : Int) := by omega
    go_enter Tryz.func4, Tryz.ntmps4
    go_wp2_with fail
    refine (awake_c _ he).mono ?_
    rintro e w1 ⟨rfl, hx⟩
    replace hx := show Hid _ from hx
    go_wp2
    go_ret
    exact ⟨rfl, hx.out⟩
  · cases hp : prs l with
    | no x y =>
      obtain ⟨hx5, hy⟩ := prs_no hp
      exact places_no l w (by omega) he x y hp true (by rcases hx5 with rfl | rfl | rfl | rfl | rfl <;> rfl) hx5 hy
    | ok p =>
      have hnl : ¬ (4000 : Int) < (l.length : Int) := by omega
      go_enter Tryz.func4, Tryz.ntmps4
      go_wp2_with fail
      refine (Parse_c l _ w0 he).mono ?_
      rintro e w1 ⟨hx, hA⟩
      rw [hp] at hA
      obtain ⟨vr, vl, vh, rfl, hL⟩ := hA
      obtain ⟨W2, b, hW2, hb, hx2, hB2⟩ := layZ w1
      have hsz : (pcells p vr vl vh).size = 19 := rfl
      have hone := pcells_one (p := p) hL.sr hL.sl hL.sh
      have hlo : w.heap.size ≤ b := by rw [← hb]; exact hx.size
      clear hL
      replace hx := show Hid _ from hx.trans hx2
      go_wp2_with (refine store27 hB2 rfl hsz hone rfl rfl rfl rfl ?_)
      intro W3 hB3 hx3
      replace hx : Hid (Ext w W3) := hx3.ext hx.out hlo
      replace he : Hid (Env W3) := he.out.ext hx.out
      clear hW2 hb hx2 hB2 hx3 hB3 hsz hone hlo
      go_wp2_with fail
      refine (awake_c _ he).mono ?_
      rintro e w4 ⟨rfl, hx4⟩
      replace hx : Hid (Ext w w4) := hx.out.trans hx4
      clear hx4
      go_wp2
      go_ret
      exact ⟨rfl, hx.out⟩

set_option maxRecDepth 100000 in
theorem lifted (os : Os) (started : os.Started) (H : Type) (enc : TypeId × Value → H) :
    ReturnsInHanded {} Tryz.checked os 4 .any (fun w args => (Rows.grammarPlacesSpec.pre enc Tryz.prog Tryz.f4 [] false w args ∧ laidMetH Tryz.prog laid w) ∧ sizedMet enc Tryz.prog Tryz.f4 (OpenSpec.ofChange Rows.grammarPlacesSpec) false w args)
      (Rows.grammarPlacesSpec.post enc Tryz.prog Tryz.f4 false true false false) := by
  refine wrap started (by kernel_rfl) Tryz.func4
    (ChangeSpec.witness_shaped (enc := enc) (C := Tryz.checked) (os := os) (X := fun w _ => laidMetH Tryz.prog laid w) false (World.laidAll Tryz.prog os laid) #[.string ⟨#[]⟩] 8 (World.laidAll_os _ _ _)
      (World.shaped_of_ZipB (by kernel_rfl) (by kernel_rfl)) (by kernel_rfl) (by kernel_rfl) (by kernel_rfl)
      (by rw [MakeChecks.laidMetH_plain _ _ _ (by kernel_rfl)]; exact laidMet_laidAll _ (by kernel_rfl) (by kernel_rfl))) ?_
  intro W base args ds gs before hval0 hW hE
  have hval : ∀ (j : Nat) t v, Tryz.f4.params[j]? = some t → args[j]? = some v → Value.okWide Tryz.prog W .any base t v := hval0
  have hW' := hW
  obtain ⟨p, q, hA0, hV, rfl, _, _⟩ := hW
  have hA : DataW.TrodAll enc Tryz.prog W 0 (fun _ => true) true Tryz.f4.params.toList args.toList ds p := hA0
  rw [Tryz.params4] at hA hval
  obtain ⟨v0, vs0, d0, ds0, p0, q0, hargs, rfl, rfl, h0, r0⟩ := trodAll_cons hA
  obtain ⟨rfl, rfl, rfl⟩ := trodAll_nil r0
  obtain rfl : args = #[v0] := by cases args; simp_all
  obtain ⟨rfl, rfl⟩ := trodVars_none hV
  obtain ⟨a0, rfl, rfl, rfl, w0⟩ := Go.ChangeMaps.open_string Tryz.underlying9 (hval 0 9 v0 rfl rfl) h0
  clear hA0 hval0
  simp only [List.append_nil] at hW'
  refine (walk a0 w0 W hE).mono fun e W' ⟨he, hb⟩ => ?_
  subst he
  exact ⟨_, rfl, _, _, _, [], _, [], hW', (trodAll_cons_mk (shut_bool Tryz.underlying4 _) trodAll_mk0), (trodAll_cons_mk (Go.ChangeMaps.shut_string Tryz.underlying9 w0) trodAll_mk0), rfl, hb.below.frame _, fun h => by cases h⟩

theorem over : Rows.grammarPlacesRow.holds Tryz.pinned (OpenSpec.ofChange Rows.grammarPlacesSpec) :=
  OpenClaim.holds_of_wide 4 Tryz.f4 rfl rfl rfl rfl rfl rfl rfl ⟨rfl, rfl, rfl, rfl, rfl⟩ rfl rfl rfl rfl rfl (by kernel_rfl) Tryz.func4 (by kernel_rfl)
    (of_decide_eq_true (by kernel_rfl)) (by unfold Func.isWrapper; first | (rw [if_pos (by decide +kernel)]; kernel_rfl) | (rw [if_neg (by decide +kernel)]; exact ⟨rfl, rfl⟩))
    (fun os started H enc _ => lifted os started H enc)
end Go.Proofs.YtlbodoggfbdnjaaGreatDoor.grammarPlaces
namespace Go.Proofs.YtlbodoggfbdnjaaGreatDoor
theorem grammarPlaces_holds : Rows.GrammarPlacesCardSaid :=
  Claim7.holds_tied_plain_at .later [] [.data, .data, .data, .data, .sentinel, .sentinel, .data, .pinned] true (true, "71a4d669349a1374d27e06b42b74feeaaecf2230b7206da2054069eaee9351c6") true grammarPlaces.over (fun _ h => by cases h) (by kernel_rfl) (fun _ h => by cases h) grammarPlaces_row_tie rfl ⟨rfl, rfl⟩ (by kernel_rfl) rfl
    (fun f fn hf hfn => by
      obtain rfl : f = 4 := Option.some.inj ((show Tryz.prog.funcNamed "quittance/quittancelaw09.GrammarPlaces" = some 4 by kernel_rfl).symm.trans hf) |>.symm
      obtain rfl : fn = Tryz.f4 := (Option.some.inj (Tryz.func4.symm.trans hfn)).symm
      exact ⟨by kernel_rfl, fun j t ht => by
        rw [Tryz.params4] at ht
        have hm : t ∈ [9] := by simpa using Array.mem_of_getElem? ht
        have hall : ([9].all fun u => !Tryz.prog.wantsStandIn u) = true := by kernel_rfl
        exact (show Tryz.prog.wantsStandIn t = false by simpa using List.all_eq_true.1 hall t hm)⟩)
    (by kernel_rfl)
#print axioms grammarPlaces_holds
end Go.Proofs.YtlbodoggfbdnjaaGreatDoor
