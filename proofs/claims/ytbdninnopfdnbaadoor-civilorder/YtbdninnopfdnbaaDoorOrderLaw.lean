/- For all ints n and m, of the project's tree at the commit that COMMIT names, CivilOrder returns true and leaves its arguments as they were, with the listed variables laid as the program's text lays them. -/
import Derived.Test.YtbdninnopfdnbaaDoorFrame
namespace Go.Proofs.YtbdninnopfdnbaaDoor.civilOrder
open Go.ChangeShapes Go.WideShapes Go.ChangeAt Go.RowKit Go.Lib
set_option linter.unusedVariables false

set_option maxHeartbeats 4000000 in

theorem walk (a0 : Int) (w0 : (Lit.int .i64 a0).wf = true) (a1 : Int) (w1 : (Lit.int .i64 a1).wf = true) (w : World) (he : Env w) :
    Calls Tryd.prog 8 #[.int .i64 a0, .int .i64 a1] w fun e w' => e = .returned (.bool true) ∧ Ext w w' := by
  replace he : Hid (Env w) := he
  obtain ⟨N, hN⟩ : ∃ N, dayN a0 = N := ⟨_, rfl⟩
  obtain ⟨n1, n2⟩ := dayN_bd a0
  have hd : Hid (∀ w, Calls Tryd.prog 24 #[.int .i64 a0] w fun e w' => e = .returned (.int .i64 N) ∧ Ext w w') := fun w => hN ▸ day_x a0 w
  rw [hN] at n1 n2
  clear hN
  obtain ⟨M, hM⟩ : ∃ M, dayN a1 = M := ⟨_, rfl⟩
  obtain ⟨m1, m2⟩ := dayN_bd a1
  have hd2 : Hid (∀ w, Calls Tryd.prog 24 #[.int .i64 a1] w fun e w' => e = .returned (.int .i64 M) ∧ Ext w w') := fun w => hM ▸ day_x a1 w
  rw [hM] at m1 m2
  clear hM
  go_enter Tryd.func8, Tryd.ntmps8
  go_wp2_with fail
  refine (hd.out _).mono ?_
  rintro e w1 ⟨rfl, hx1⟩
  replace he : Hid (Env w1) := he.out.ext hx1
  have hx := show Hid (Ext w w1) from hx1
  clear hx1
  go_wp2_with fail
  refine (hd2.out _).mono ?_
  rintro e w2 ⟨rfl, hx1⟩
  replace he : Hid (Env w2) := he.out.ext hx1
  replace hx : Hid (Ext w w2) := hx.out.trans hx1
  clear hx1 hd hd2
  go_wp2_with fail
  refine (Date_ok N _ n1 n2 he).mono ?_
  rintro e w3 ⟨⟨y, m, d, rfl, hv, hn⟩, hx1⟩
  replace he : Hid (Env w3) := he.out.ext hx1
  replace hx : Hid (Ext w w3) := hx.out.trans hx1
  clear hx1
  replace hv := show Hid _ from hv
  replace hn := show Hid _ from hn
  go_wp2_with fail
  obtain ⟨W0, b, hW0, hb, hxb, k0, k1, k2⟩ := box3 w3 (.int .i64 y) (.int .i64 m) (.int .i64 d) 23
  rw [hW0, hb]
  clear hW0 hb
  replace he : Hid (Env W0) := he.out.ext hxb
  replace hx : Hid (Ext w W0) := hx.out.trans hxb
  clear hxb
  refine (Date_ok M _ m1 m2 he).mono ?_
  rintro e w4 ⟨⟨y', m', d', rfl, hv', hn'⟩, hx1⟩
  replace k0 := hx1.cell_of k0; replace k1 := hx1.cell_of k1; replace k2 := hx1.cell_of k2
  replace he : Hid (Env w4) := he.out.ext hx1
  replace hx : Hid (Ext w w4) := hx.out.trans hx1
  clear hx1
  replace hv' := show Hid _ from hv'
  replace hn' := show Hid _ from hn'
  go_wp2_with fail
  obtain ⟨W1, c, hW1, hc, hxb, j0, j1, j2⟩ := box3 w4 (.int .i64 y') (.int .i64 m') (.int .i64 d') 23
  rw [hW1, hc]
  clear hW1 hc
  replace k0 := hxb.cell_of k0; replace k1 := hxb.cell_of k1; replace k2 := hxb.cell_of k2
  replace he : Hid (Env W1) := he.out.ext hxb
  replace hx : Hid (Ext w W1) := hx.out.trans hxb
  clear hxb
  refine (Text_ok N _ n1 n2 he).mono ?_
  rintro e w5 ⟨⟨p, q, r, rfl, hu, ht⟩, hx1⟩
  replace k0 := hx1.cell_of k0; replace k1 := hx1.cell_of k1; replace k2 := hx1.cell_of k2
  replace j0 := hx1.cell_of j0; replace j1 := hx1.cell_of j1; replace j2 := hx1.cell_of j2
  replace he : Hid (Env w5) := he.out.ext hx1
  replace hx : Hid (Ext w w5) := hx.out.trans hx1
  clear hx1
  replace hu := show Hid _ from hu
  replace ht := show Hid _ from ht
  go_wp2_with fail
  refine (Text_ok M _ m1 m2 he).mono ?_
  rintro e w6 ⟨⟨p', q', r', rfl, hu', ht'⟩, hx1⟩
  replace k0 := hx1.cell_of k0; replace k1 := hx1.cell_of k1; replace k2 := hx1.cell_of k2
  replace j0 := hx1.cell_of j0; replace j1 := hx1.cell_of j1; replace j2 := hx1.cell_of j2
  replace he : Hid (Env w6) := he.out.ext hx1
  replace hx : Hid (Ext w w6) := hx.out.trans hx1
  clear hx1
  have hl : Op.bytesLess (textL p q r) (textL p' q' r') = decide (N < M) := by
    rw [text_less p q r p' q' r' hu.out hu', ht.out, ht']
  clear hu' ht' hu ht
  have hi : (y < y' ∨ y = y' ∧ (m < m' ∨ m = m' ∧ d < d')) ↔ N < M := by
    have := num_iff hv.out hv'.out
    rwa [hn.out, hn'.out] at this
  clear hv hv' hn hn'
  generalize textL p q r = S at *
  generalize textL p' q' r' = T at *
  have cases7 : (y < y' ∧ N < M) ∨ (y' < y ∧ ¬ N < M) ∨ (y = y' ∧ m < m' ∧ N < M) ∨ (y = y' ∧ m' < m ∧ ¬ N < M) ∨ (y = y' ∧ m = m' ∧ d < d' ∧ N < M) ∨ (y = y' ∧ m = m' ∧ ¬ d < d' ∧ ¬ N < M) := by omega
  replace hi := show Hid _ from hi
  clear hi n1 n2 m1 m2
  rcases cases7 with ⟨c1, hNM⟩ | ⟨c1, hNM⟩ | ⟨rfl, c1, hNM⟩ | ⟨rfl, c1, hNM⟩ | ⟨rfl, rfl, c1, hNM⟩ | ⟨rfl, rfl, c1, hNM⟩
  · have hb : Op.bytesLess S T = true := by rw [hl]; simpa using hNM
    clear hl
    go_wp2_with (go_at_call 9; refine (awake_c _ he).mono ?_; rintro e w7 ⟨rfl, hx7⟩; replace hx : Hid (Ext w w7) := hx.out.trans hx7; clear hx7)
    go_ret
    first
      | exact ⟨rfl, hx.out⟩
      | exact ⟨ret_bool (by simp [hNM]), hx.out⟩
  · have c2 : ¬ y < y' := by omega
    have c3 : ¬ y = y' := by omega
    have hb : Op.bytesLess S T = false := by rw [hl]; simpa using hNM
    clear hl
    go_wp2_with (go_at_call 9; refine (awake_c _ he).mono ?_; rintro e w7 ⟨rfl, hx7⟩; replace hx : Hid (Ext w w7) := hx.out.trans hx7; clear hx7)
    go_ret
    first
      | exact ⟨rfl, hx.out⟩
      | exact ⟨ret_bool (by simp [hNM]), hx.out⟩
  · have c2 : ¬ y < y := by omega
    have hb : Op.bytesLess S T = true := by rw [hl]; simpa using hNM
    clear hl
    go_wp2_with (go_at_call 9; refine (awake_c _ he).mono ?_; rintro e w7 ⟨rfl, hx7⟩; replace hx : Hid (Ext w w7) := hx.out.trans hx7; clear hx7)
    go_ret
    first
      | exact ⟨rfl, hx.out⟩
      | exact ⟨ret_bool (by simp [hNM]), hx.out⟩
  · have c2 : ¬ m < m' := by omega
    have c3 : ¬ m = m' := by omega
    have hb : Op.bytesLess S T = false := by rw [hl]; simpa using hNM
    clear hl
    go_wp2_with (go_at_call 9; refine (awake_c _ he).mono ?_; rintro e w7 ⟨rfl, hx7⟩; replace hx : Hid (Ext w w7) := hx.out.trans hx7; clear hx7)
    go_ret
    first
      | exact ⟨rfl, hx.out⟩
      | exact ⟨ret_bool (by simp [hNM]), hx.out⟩
  · have hb : Op.bytesLess S T = true := by rw [hl]; simpa using hNM
    clear hl
    go_wp2_with (go_at_call 9; refine (awake_c _ he).mono ?_; rintro e w7 ⟨rfl, hx7⟩; replace hx : Hid (Ext w w7) := hx.out.trans hx7; clear hx7)
    go_ret
    first
      | exact ⟨rfl, hx.out⟩
      | exact ⟨ret_bool (by simp [hNM]), hx.out⟩
  · have hb : Op.bytesLess S T = false := by rw [hl]; simpa using hNM
    clear hl
    go_wp2_with (go_at_call 9; refine (awake_c _ he).mono ?_; rintro e w7 ⟨rfl, hx7⟩; replace hx : Hid (Ext w w7) := hx.out.trans hx7; clear hx7)
    go_ret
    first
      | exact ⟨rfl, hx.out⟩
      | exact ⟨ret_bool (by simp [hNM]), hx.out⟩

set_option maxRecDepth 100000 in
theorem lifted (os : Os) (started : os.Started) (H : Type) (enc : TypeId × Value → H) :
    ReturnsInHanded {} Tryd.checked os 8 .any (fun w args => (Rows.civilOrderSpec.pre enc Tryd.prog Tryd.f8 [] false w args ∧ laidMetH Tryd.prog laid w) ∧ sizedMet enc Tryd.prog Tryd.f8 (OpenSpec.ofChange Rows.civilOrderSpec) false w args)
      (Rows.civilOrderSpec.post enc Tryd.prog Tryd.f8 false true false false) := by
  refine wrap started (by kernel_rfl) Tryd.func8
    (ChangeSpec.witness_shaped (enc := enc) (C := Tryd.checked) (os := os) (X := fun w _ => laidMetH Tryd.prog laid w) false (World.laidAll Tryd.prog os laid) #[.int .i64 0, .int .i64 0] 8 (World.laidAll_os _ _ _)
      (World.shaped_of_ZipB (by kernel_rfl) (by kernel_rfl)) (by kernel_rfl) (by kernel_rfl) (by kernel_rfl)
      (by rw [MakeChecks.laidMetH_plain _ _ _ (by kernel_rfl)]; exact laidMet_laidAll _ (by kernel_rfl) (by kernel_rfl))) ?_
  intro W base args ds gs before hval0 hW hE
  have hval : ∀ (j : Nat) t v, Tryd.f8.params[j]? = some t → args[j]? = some v → Value.okWide Tryd.prog W .any base t v := hval0
  have hW' := hW
  obtain ⟨p, q, hA0, hV, rfl, _, _⟩ := hW
  have hA : DataW.TrodAll enc Tryd.prog W 0 (fun _ => true) true Tryd.f8.params.toList args.toList ds p := hA0
  rw [Tryd.params8] at hA hval
  obtain ⟨v0, vs0, d0, ds0, p0, q0, hargs, rfl, rfl, h0, r0⟩ := trodAll_cons hA
  obtain ⟨v1, vs1, d1, ds1, p1, q1, rfl, rfl, rfl, h1, r1⟩ := trodAll_cons r0
  obtain ⟨rfl, rfl, rfl⟩ := trodAll_nil r1
  obtain rfl : args = #[v0, v1] := by cases args; simp_all
  obtain ⟨rfl, rfl⟩ := trodVars_none hV
  obtain ⟨a0, rfl, rfl, rfl, w0⟩ := open_int Tryd.underlying3 (hval 0 3 v0 rfl rfl) h0
  obtain ⟨a1, rfl, rfl, rfl, w1⟩ := open_int Tryd.underlying3 (hval 1 3 v1 rfl rfl) h1
  clear hA0 hval0
  simp only [List.append_nil] at hW'
  refine (walk a0 w0 a1 w1 W hE).mono fun e W' ⟨he, hb⟩ => ?_
  subst he
  exact ⟨_, rfl, _, _, _, [], [], [], hW', (trodAll_cons_mk (shut_bool Tryd.underlying4 _) trodAll_mk0), (trodAll_cons_mk (shut_int Tryd.underlying3 w0) (trodAll_cons_mk (shut_int Tryd.underlying3 w1) trodAll_mk0)), rfl, hb.below.frame _, fun h => by cases h⟩

theorem over : Rows.civilOrderRow.holds Tryd.pinned (OpenSpec.ofChange Rows.civilOrderSpec) :=
  OpenClaim.holds_of_wide 8 Tryd.f8 rfl rfl rfl rfl rfl rfl rfl ⟨rfl, rfl, rfl, rfl, rfl⟩ rfl rfl rfl rfl rfl (by kernel_rfl) Tryd.func8 (by kernel_rfl)
    (of_decide_eq_true (by kernel_rfl)) (by unfold Func.isWrapper; first | (rw [if_pos (by decide +kernel)]; kernel_rfl) | (rw [if_neg (by decide +kernel)]; exact ⟨rfl, rfl⟩))
    (fun os started H enc _ => lifted os started H enc)
end Go.Proofs.YtbdninnopfdnbaaDoor.civilOrder
namespace Go.Proofs.YtbdninnopfdnbaaDoor
theorem civilOrder_holds : Rows.CivilOrderCardSaid :=
  Claim7.holds_tied_plain_at .later [] [.data, .data, .data, .sentinel, .sentinel, .data] true (true, "f9020bd6947e917c8eb02aa199ac44401b4a49270a74dcbb55531bc928ef3fbb") true civilOrder.over (fun _ h => by cases h) (by kernel_rfl) (fun _ h => by cases h) civilOrder_row_tie rfl ⟨rfl, rfl⟩ (by kernel_rfl) rfl
    (fun f fn hf hfn => by
      obtain rfl : f = 8 := Option.some.inj ((show Tryd.prog.funcNamed "quittance/quittancelaw03.CivilOrder" = some 8 by kernel_rfl).symm.trans hf) |>.symm
      obtain rfl : fn = Tryd.f8 := (Option.some.inj (Tryd.func8.symm.trans hfn)).symm
      exact ⟨by kernel_rfl, fun j t ht => by
        rw [Tryd.params8] at ht
        have hm : t ∈ [3, 3] := by simpa using Array.mem_of_getElem? ht
        have hall : ([3, 3].all fun u => !Tryd.prog.wantsStandIn u) = true := by kernel_rfl
        exact (show Tryd.prog.wantsStandIn t = false by simpa using List.all_eq_true.1 hall t hm)⟩)
    (by kernel_rfl)
#print axioms civilOrder_holds
end Go.Proofs.YtbdninnopfdnbaaDoor
