/- For every int year, of the project's tree at the commit that COMMIT names, CivilYears returns true and leaves its argument as it was, with the listed variables laid as the program's text lays them. -/
import Derived.Test.YtbdninnopfdnbaaDoorFrame
namespace Go.Proofs.YtbdninnopfdnbaaDoor.civilYears
open Go.ChangeShapes Go.WideShapes Go.ChangeAt Go.RowKit Go.Lib
set_option linter.unusedVariables false

set_option maxHeartbeats 4000000 in

theorem walk (a0 : Int) (w0 : (Lit.int .i64 a0).wf = true) (w : World) (he : Env w) :
    Calls Tryd.prog 7 #[.int .i64 a0] w fun e w' => e = .returned (.bool true) ∧ Ext w w' := by
  replace he : Hid (Env w) := he
  obtain ⟨u, hu⟩ : ∃ u, a0 % 18446744073709551616 = u := ⟨_, rfl⟩
  have u1 : 0 ≤ u := by omega
  have u2 : u < 18446744073709551616 := by omega
  have e1 : IntKind.u64.wrap a0 = u := by rw [IntKind.wrap_u64]; omega
  obtain ⟨v, hv⟩ : ∃ v, u % 300 = v := ⟨_, rfl⟩
  have v1 : 0 ≤ v := by omega
  have v2 : v < 300 := by omega
  clear hu w0
  obtain ⟨Y, hY⟩ : ∃ Y, 1900 + v = Y := ⟨_, rfl⟩
  have Y1 : 1900 ≤ Y := by omega
  have Y2 : Y ≤ 2199 := by omega
  have dj := dim_bd Y 1 (by omega) (by omega)
  have dk := dim_bd (Y + 1) 1 (by omega) (by omega)
  have V1 : Vld Y 1 1 := ⟨by omega, by omega, by omega, by omega⟩
  have V2 : Vld (Y + 1) 1 1 := ⟨by omega, by omega, by omega, by omega⟩
  clear dj dk
  obtain ⟨s, hs⟩ : ∃ s, st Y = s := ⟨_, rfl⟩
  obtain ⟨s1, s2⟩ := hs ▸ st_bd Y (by omega) (by omega)
  obtain ⟨K, hK⟩ : ∃ K, 365 + lp Y = K := ⟨_, rfl⟩
  have hKl : (lng Y = true ∧ K = 366) ∨ (lng Y = false ∧ K = 365) := by
    rw [← hK]; unfold lp
    cases lng Y
    · right; exact ⟨rfl, rfl⟩
    · left; exact ⟨rfl, rfl⟩
  have N1 : Hid (∀ w, Hid (Env w) → Calls Tryd.prog 10 #[.agg #[.int .i64 Y, .int .i64 1, .int .i64 1]] w fun e w' => e = .returned (.tuple #[.int .i64 s, .int .i64 0]) ∧ Ext w w') := fun w he => by
    have := Number_ok _ _ _ w V1 he
    rwa [show num Y 1 1 = s by unfold num; rw [cum_one]; omega] at this
  have N2 : Hid (∀ w, Hid (Env w) → Calls Tryd.prog 10 #[.agg #[.int .i64 (Y + 1), .int .i64 1, .int .i64 1]] w fun e w' => e = .returned (.tuple #[.int .i64 (s + K), .int .i64 0]) ∧ Ext w w') := fun w he => by
    have := Number_ok _ _ _ w V2 he
    rwa [show num (Y + 1) 1 1 = s + K by unfold num; rw [cum_one, st_succ]; omega] at this
  have hc : Hid (cum Y 13 = K) := by show cum Y 13 = K; rw [cum_end, hK]
  have h4 : Hid (lng (Y + 400) = lng Y) := lng_400 _
  have K2 : 365 ≤ K ∧ K ≤ 366 := by omega
  obtain ⟨K3, K4⟩ := K2
  clear hK hs V1 V2
  go_enter Tryd.func7, Tryd.ntmps7
  go_wp2_with fail
  refine (N1.out _ he).mono ?_
  rintro e w1 ⟨rfl, hx1⟩
  replace he : Hid (Env w1) := he.out.ext hx1
  have hx := show Hid (Ext w w1) from hx1
  clear hx1
  go_wp2_with fail
  refine (N2.out _ he).mono ?_
  rintro e w2 ⟨rfl, hx1⟩
  replace he : Hid (Env w2) := he.out.ext hx1
  replace hx : Hid (Ext w w2) := hx.out.trans hx1
  clear hx1
  go_wp2
  go_loop [7, 8] (fun t j => ∃ k : Int, 1 ≤ k ∧ k ≤ 13 ∧ j = .int .i64 k ∧ t = .int .i64 (cum Y k)) (fun _ j => (13 - RowKit.intOf j).toNat)
  case atStart => exact ⟨1, by omega, by omega, rfl, rfl⟩
  case round =>
    obtain ⟨k, k1, k2, rfl, rfl⟩ := hrel
    obtain ⟨b1, b2⟩ := cum_bd Y k k1 k2
    by_cases hk : k ≤ 12
    · have cs := show Hid _ from cum_succ Y k k1 hk
      obtain ⟨b3, b4⟩ := dim_bd Y k k1 hk
      go_wp2_with (go_at_call 20; refine (Month_c _ _ _ (by unfold I64; omega) he).mono ?_; rintro e w' ⟨rfl, rfl⟩)
      go_round
      case rel => exact ⟨k + 1, by omega, by omega, by go_num, by rw [cs.out]⟩
      case measure => simp [RowKit.intOf]; omega
    · obtain rfl : k = 13 := by omega
      rw [hc.out]
      clear b1 b2
      have m0 : Hid (dim Y 0 = 0) := dim_out _ _ (Or.inl (by omega))
      have m13 : Hid (dim Y 13 = 0) := dim_out _ _ (Or.inr (by omega))
      rcases hKl with ⟨hl, rfl⟩ | ⟨hl, rfl⟩
      · go_wp2_with (first
          | (go_at_call 9; refine (awake_c _ he).mono ?_; rintro e w3 ⟨rfl, hx3⟩; replace he : Hid (Env w3) := he.out.ext hx3; replace hx : Hid (Ext w w3) := hx.out.trans hx3; clear hx3)
          | (go_at_call 18; refine (Long_c _ _).mono ?_; rintro e w' ⟨rfl, rfl⟩; first | rw [h4.out, hl] | rw [hl])
          | (go_at_call 20; refine (Month_c _ _ _ (by unfold I64; omega) he).mono ?_; rintro e w' ⟨rfl, rfl⟩; first | rw [m13.out] | rw [m0.out]))
        go_ret
        exact ⟨rfl, hx.out⟩
      · go_wp2_with (first
          | (go_at_call 9; refine (awake_c _ he).mono ?_; rintro e w3 ⟨rfl, hx3⟩; replace he : Hid (Env w3) := he.out.ext hx3; replace hx : Hid (Ext w w3) := hx.out.trans hx3; clear hx3)
          | (go_at_call 18; refine (Long_c _ _).mono ?_; rintro e w' ⟨rfl, rfl⟩; first | rw [h4.out, hl] | rw [hl])
          | (go_at_call 20; refine (Month_c _ _ _ (by unfold I64; omega) he).mono ?_; rintro e w' ⟨rfl, rfl⟩; first | rw [m13.out] | rw [m0.out]))
        go_ret
        exact ⟨rfl, hx.out⟩

set_option maxRecDepth 100000 in
theorem lifted (os : Os) (started : os.Started) (H : Type) (enc : TypeId × Value → H) :
    ReturnsInHanded {} Tryd.checked os 7 .any (fun w args => (Rows.civilYearsSpec.pre enc Tryd.prog Tryd.f7 [] false w args ∧ laidMetH Tryd.prog laid w) ∧ sizedMet enc Tryd.prog Tryd.f7 (OpenSpec.ofChange Rows.civilYearsSpec) false w args)
      (Rows.civilYearsSpec.post enc Tryd.prog Tryd.f7 false true false false) := by
  refine wrap started (by kernel_rfl) Tryd.func7
    (ChangeSpec.witness_shaped (enc := enc) (C := Tryd.checked) (os := os) (X := fun w _ => laidMetH Tryd.prog laid w) false (World.laidAll Tryd.prog os laid) #[.int .i64 0] 8 (World.laidAll_os _ _ _)
      (World.shaped_of_ZipB (by kernel_rfl) (by kernel_rfl)) (by kernel_rfl) (by kernel_rfl) (by kernel_rfl)
      (by rw [MakeChecks.laidMetH_plain _ _ _ (by kernel_rfl)]; exact laidMet_laidAll _ (by kernel_rfl) (by kernel_rfl))) ?_
  intro W base args ds gs before hval0 hW hE
  have hval : ∀ (j : Nat) t v, Tryd.f7.params[j]? = some t → args[j]? = some v → Value.okWide Tryd.prog W .any base t v := hval0
  have hW' := hW
  obtain ⟨p, q, hA0, hV, rfl, _, _⟩ := hW
  have hA : DataW.TrodAll enc Tryd.prog W 0 (fun _ => true) true Tryd.f7.params.toList args.toList ds p := hA0
  rw [Tryd.params7] at hA hval
  obtain ⟨v0, vs0, d0, ds0, p0, q0, hargs, rfl, rfl, h0, r0⟩ := trodAll_cons hA
  obtain ⟨rfl, rfl, rfl⟩ := trodAll_nil r0
  obtain rfl : args = #[v0] := by cases args; simp_all
  obtain ⟨rfl, rfl⟩ := trodVars_none hV
  obtain ⟨a0, rfl, rfl, rfl, w0⟩ := open_int Tryd.underlying3 (hval 0 3 v0 rfl rfl) h0
  clear hA0 hval0
  simp only [List.append_nil] at hW'
  refine (walk a0 w0 W hE).mono fun e W' ⟨he, hb⟩ => ?_
  subst he
  exact ⟨_, rfl, _, _, _, [], [], [], hW', (trodAll_cons_mk (shut_bool Tryd.underlying4 _) trodAll_mk0), (trodAll_cons_mk (shut_int Tryd.underlying3 w0) trodAll_mk0), rfl, hb.below.frame _, fun h => by cases h⟩

theorem over : Rows.civilYearsRow.holds Tryd.pinned (OpenSpec.ofChange Rows.civilYearsSpec) :=
  OpenClaim.holds_of_wide 7 Tryd.f7 rfl rfl rfl rfl rfl rfl rfl ⟨rfl, rfl, rfl, rfl, rfl⟩ rfl rfl rfl rfl rfl (by kernel_rfl) Tryd.func7 (by kernel_rfl)
    (of_decide_eq_true (by kernel_rfl)) (by unfold Func.isWrapper; first | (rw [if_pos (by decide +kernel)]; kernel_rfl) | (rw [if_neg (by decide +kernel)]; exact ⟨rfl, rfl⟩))
    (fun os started H enc _ => lifted os started H enc)
end Go.Proofs.YtbdninnopfdnbaaDoor.civilYears
namespace Go.Proofs.YtbdninnopfdnbaaDoor
theorem civilYears_holds : Rows.CivilYearsCardSaid :=
  Claim7.holds_tied_plain_at .later [] [.data, .data, .data, .sentinel, .sentinel, .data] true (true, "f9020bd6947e917c8eb02aa199ac44401b4a49270a74dcbb55531bc928ef3fbb") true civilYears.over (fun _ h => by cases h) (by kernel_rfl) (fun _ h => by cases h) civilYears_row_tie rfl ⟨rfl, rfl⟩ (by kernel_rfl) rfl
    (fun f fn hf hfn => by
      obtain rfl : f = 7 := Option.some.inj ((show Tryd.prog.funcNamed "quittance/quittancelaw03.CivilYears" = some 7 by kernel_rfl).symm.trans hf) |>.symm
      obtain rfl : fn = Tryd.f7 := (Option.some.inj (Tryd.func7.symm.trans hfn)).symm
      exact ⟨by kernel_rfl, fun j t ht => by
        rw [Tryd.params7] at ht
        have hm : t ∈ [3] := by simpa using Array.mem_of_getElem? ht
        have hall : ([3].all fun u => !Tryd.prog.wantsStandIn u) = true := by kernel_rfl
        exact (show Tryd.prog.wantsStandIn t = false by simpa using List.all_eq_true.1 hall t hm)⟩)
    (by kernel_rfl)
#print axioms civilYears_holds
end Go.Proofs.YtbdninnopfdnbaaDoor
