/- For every int n, every Date d and every string s, of the project's tree at the commit that COMMIT names, CivilBack returns true and leaves its arguments as they were, with the listed variables laid as the program's text lays them. -/
import Derived.Test.YtbdninnopfdnbaaDoorFrame
namespace Go.Proofs.YtbdninnopfdnbaaDoor.civilBack
open Go.ChangeShapes Go.WideShapes Go.ChangeAt Go.RowKit Go.Lib
set_option linter.unusedVariables false

theorem long_c1 (a0 x1 y1 z1 : Int) (l : List UInt8) (w : World) (he : Hid (Env w)) (h : (100 : Int) < (l.length : Int)) :
    Calls Tryd.prog 4 #[.int .i64 a0, .agg #[.int .i64 x1, .int .i64 y1, .int .i64 z1], .string ⟨l.toArray⟩] w fun e w' => e = .returned (.bool true) ∧ Ext w w' := by
  have hd : Hid (∀ w, Calls Tryd.prog 24 #[.int .i64 a0] w fun e w' => e = .returned (.int .i64 (dayN a0)) ∧ Ext w w') := fun w => day_x a0 w
  generalize dayN a0 = N at *
  go_enter Tryd.func4, Tryd.ntmps4
  go_wp2_with fail
  obtain ⟨W1, b1, hW, hb, hxb, k0, k1, k2⟩ := box3 w (.int .i64 x1) (.int .i64 y1) (.int .i64 z1) 23
  rw [hW, hb]
  clear hW hb
  replace he : Hid (Env W1) := he.out.ext hxb
  have hx := show Hid (Ext w W1) from hxb
  clear hxb
  refine (hd.out _).mono ?_
  rintro e w2 ⟨rfl, hx1⟩
  replace k0 := hx1.cell_of k0
  replace k1 := hx1.cell_of k1
  replace k2 := hx1.cell_of k2
  replace he : Hid (Env w2) := he.out.ext hx1
  replace hx : Hid (Ext w w2) := hx.out.trans hx1
  clear hx1
  go_wp2_with fail
  refine (awake_c _ he).mono ?_
  rintro e w3 ⟨rfl, hx1⟩
  replace k0 := hx1.cell_of k0
  replace k1 := hx1.cell_of k1
  replace k2 := hx1.cell_of k2
  replace he : Hid (Env w3) := he.out.ext hx1
  replace hx : Hid (Ext w w3) := hx.out.trans hx1
  clear hx1
  go_wp2
  go_ret
  exact ⟨rfl, hx.out⟩
set_option maxHeartbeats 4000000 in

theorem walk (a0 : Int) (w0 : (Lit.int .i64 a0).wf = true) (x1 y1 z1 : Int) (wx1 : (Lit.int .i64 x1).wf = true) (wy1 : (Lit.int .i64 y1).wf = true) (wz1 : (Lit.int .i64 z1).wf = true) (a2 : ByteArray) (w2 : a2.size ≤ maxLen) (w : World) (he : Env w) :
    Calls Tryd.prog 4 #[.int .i64 a0, .agg #[.int .i64 x1, .int .i64 y1, .int .i64 z1], .string a2] w fun e w' => e = .returned (.bool true) ∧ Ext w w' := by
  replace he : Hid (Env w) := he
  obtain ⟨l, rfl⟩ : ∃ l : List UInt8, a2 = ⟨l.toArray⟩ := ⟨a2.data.toList, by simp⟩
  by_cases hlong : (100 : Int) < (l.length : Int)
  · exact long_c1 a0 x1 y1 z1 l w he hlong
  have hl : Hid (l.length ≤ 1000000) := by show l.length ≤ 1000000; omega
  have hm : Hid (I64 y1) := by exact bounds_i64 wy1
  clear wx1 wy1 wz1 w0 w2
  obtain ⟨N, hN⟩ : ∃ N, dayN a0 = N := ⟨_, rfl⟩
  obtain ⟨n1, n2⟩ := dayN_bd a0
  have hd : Hid (∀ w, Calls Tryd.prog 24 #[.int .i64 a0] w fun e w' => e = .returned (.int .i64 N) ∧ Ext w w') := fun w => hN ▸ day_x a0 w
  rw [hN] at n1 n2
  clear hN
  have hNum : Hid (∀ w : World, Hid (Env w) → Calls Tryd.prog 10 #[.agg #[.int .i64 x1, .int .i64 y1, .int .i64 z1]] w fun e w' => e = .returned (.tuple #[.int .i64 (numA x1 y1 z1), .int .i64 (numE x1 y1 z1)]) ∧ Ext w w') := fun w he => Number_c x1 y1 z1 w hm.out he
  have hTak : Hid (∀ w : World, Hid (Env w) → Calls Tryd.prog 16 #[.string ⟨l.toArray⟩] w fun e w' => e = .returned (.tuple #[.int .i64 (takA l), .int .i64 (takE l)]) ∧ Ext w w') := fun w he => Take_c l w hl.out he
  obtain ⟨q1, q2⟩ := numA_bd x1 y1 z1
  obtain ⟨q3, q4⟩ := takA_bd l
  have back1 : Hid (∀ p q r : Int, Vld p q r → num p q r = numA x1 y1 z1 → numE x1 y1 z1 = 0 → p = x1 ∧ q = y1 ∧ r = z1) := fun _ _ _ h k e => numE_back h k e
  have back2 : Hid (∀ p q r : Int, Vld p q r → num p q r = takA l → takE l = 0 → textL p q r = l) := fun _ _ _ h k e => takE_back h k e
  generalize numA x1 y1 z1 = A at *
  generalize numE x1 y1 z1 = E at *
  generalize takA l = B at *
  generalize takE l = F at *
  go_enter Tryd.func4, Tryd.ntmps4
  go_wp2_with fail
  obtain ⟨W1, b1, hW, hb, hxb, k0, k1, k2⟩ := box3 w (.int .i64 x1) (.int .i64 y1) (.int .i64 z1) 23
  rw [hW, hb]
  clear hW hb
  replace he : Hid (Env W1) := he.out.ext hxb
  have hx := show Hid (Ext w W1) from hxb
  clear hxb
  refine (hd.out _).mono ?_
  rintro e w2 ⟨rfl, hx1⟩
  replace k0 := hx1.cell_of k0
  replace k1 := hx1.cell_of k1
  replace k2 := hx1.cell_of k2
  replace he : Hid (Env w2) := he.out.ext hx1
  replace hx : Hid (Ext w w2) := hx.out.trans hx1
  clear hx1
  go_wp2_with fail
  refine (Date_ok N _ n1 n2 he).mono ?_
  rintro e w3 ⟨⟨y, m, d, rfl, hv, hn⟩, hx1⟩
  replace k0 := hx1.cell_of k0
  replace k1 := hx1.cell_of k1
  replace k2 := hx1.cell_of k2
  replace he : Hid (Env w3) := he.out.ext hx1
  replace hx : Hid (Ext w w3) := hx.out.trans hx1
  clear hx1
  have hB : Hid (∀ w : World, Hid (Env w) → Calls Tryd.prog 10 #[.agg #[.int .i64 y, .int .i64 m, .int .i64 d]] w fun e w' => e = .returned (.tuple #[.int .i64 N, .int .i64 0]) ∧ Ext w w') := fun w he => hn ▸ Number_ok y m d w hv he
  clear hv hn
  go_wp2_with fail
  obtain ⟨W4, b4, hW, hb, hxb, j0, j1, j2⟩ := box3 w3 (.int .i64 y) (.int .i64 m) (.int .i64 d) 23
  rw [hW, hb]
  clear hW hb
  replace k0 := hxb.cell_of k0
  replace k1 := hxb.cell_of k1
  replace k2 := hxb.cell_of k2
  replace he : Hid (Env W4) := he.out.ext hxb
  replace hx : Hid (Ext w W4) := hx.out.trans hxb
  clear hxb
  refine (hB.out _ he).mono ?_
  rintro e w5 ⟨rfl, hx1⟩
  replace k0 := hx1.cell_of k0
  replace k1 := hx1.cell_of k1
  replace k2 := hx1.cell_of k2
  replace j0 := hx1.cell_of j0
  replace j1 := hx1.cell_of j1
  replace j2 := hx1.cell_of j2
  replace he : Hid (Env w5) := he.out.ext hx1
  replace hx : Hid (Ext w w5) := hx.out.trans hx1
  clear hx1
  go_wp2_with fail
  refine (Text_ok N _ n1 n2 he).mono ?_
  rintro e w6 ⟨⟨p, q, r, rfl, hv, hn⟩, hx1⟩
  replace k0 := hx1.cell_of k0
  replace k1 := hx1.cell_of k1
  replace k2 := hx1.cell_of k2
  replace j0 := hx1.cell_of j0
  replace j1 := hx1.cell_of j1
  replace j2 := hx1.cell_of j2
  replace he : Hid (Env w6) := he.out.ext hx1
  replace hx : Hid (Ext w w6) := hx.out.trans hx1
  clear hx1
  have hT : Hid (∀ w : World, Hid (Env w) → Calls Tryd.prog 16 #[.string ⟨(textL p q r).toArray⟩] w fun e w' => e = .returned (.tuple #[.int .i64 N, .int .i64 0]) ∧ Ext w w') := fun w he => by
    have := Take_c (textL p q r) w (by rw [text_length]; omega) he
    rwa [(text_take p q r hv).1, (text_take p q r hv).2, hn] at this
  clear hv hn
  generalize textL p q r = S at *
  go_wp2_with fail
  refine (hT.out _ he).mono ?_
  rintro e w7 ⟨rfl, hx1⟩
  replace k0 := hx1.cell_of k0
  replace k1 := hx1.cell_of k1
  replace k2 := hx1.cell_of k2
  replace j0 := hx1.cell_of j0
  replace j1 := hx1.cell_of j1
  replace j2 := hx1.cell_of j2
  replace he : Hid (Env w7) := he.out.ext hx1
  replace hx : Hid (Ext w w7) := hx.out.trans hx1
  clear hx1
  go_wp2_with fail
  refine (hNum.out _ he).mono ?_
  rintro e w8 ⟨rfl, hx1⟩
  replace k0 := hx1.cell_of k0
  replace k1 := hx1.cell_of k1
  replace k2 := hx1.cell_of k2
  replace j0 := hx1.cell_of j0
  replace j1 := hx1.cell_of j1
  replace j2 := hx1.cell_of j2
  replace he : Hid (Env w8) := he.out.ext hx1
  replace hx : Hid (Ext w w8) := hx.out.trans hx1
  clear hx1
  go_wp2_with fail
  refine (Date_ok A _ q1 q2 he).mono ?_
  rintro e w9 ⟨⟨f, g, h, rfl, hv, hn⟩, hx1⟩
  replace k0 := hx1.cell_of k0
  replace k1 := hx1.cell_of k1
  replace k2 := hx1.cell_of k2
  replace j0 := hx1.cell_of j0
  replace j1 := hx1.cell_of j1
  replace j2 := hx1.cell_of j2
  replace he : Hid (Env w9) := he.out.ext hx1
  replace hx : Hid (Ext w w9) := hx.out.trans hx1
  clear hx1
  have b1 : Hid (E = 0 → f = x1 ∧ g = y1 ∧ h = z1) := back1.out f g h hv hn
  clear hv hn back1
  go_wp2_with fail
  obtain ⟨W10, b10, hW, hb, hxb, i0, i1, i2⟩ := box3 w9 (.int .i64 f) (.int .i64 g) (.int .i64 h) 23
  rw [hW, hb]
  clear hW hb
  replace k0 := hxb.cell_of k0
  replace k1 := hxb.cell_of k1
  replace k2 := hxb.cell_of k2
  replace j0 := hxb.cell_of j0
  replace j1 := hxb.cell_of j1
  replace j2 := hxb.cell_of j2
  replace he : Hid (Env W10) := he.out.ext hxb
  replace hx : Hid (Ext w W10) := hx.out.trans hxb
  clear hxb
  refine (hTak.out _ he).mono ?_
  rintro e w11 ⟨rfl, hx1⟩
  replace k0 := hx1.cell_of k0
  replace k1 := hx1.cell_of k1
  replace k2 := hx1.cell_of k2
  replace j0 := hx1.cell_of j0
  replace j1 := hx1.cell_of j1
  replace j2 := hx1.cell_of j2
  replace i0 := hx1.cell_of i0
  replace i1 := hx1.cell_of i1
  replace i2 := hx1.cell_of i2
  replace he : Hid (Env w11) := he.out.ext hx1
  replace hx : Hid (Ext w w11) := hx.out.trans hx1
  clear hx1
  go_wp2_with fail
  refine (Text_ok B _ q3 q4 he).mono ?_
  rintro e w12 ⟨⟨f2, g2, h2, rfl, hv, hn⟩, hx1⟩
  replace k0 := hx1.cell_of k0
  replace k1 := hx1.cell_of k1
  replace k2 := hx1.cell_of k2
  replace j0 := hx1.cell_of j0
  replace j1 := hx1.cell_of j1
  replace j2 := hx1.cell_of j2
  replace i0 := hx1.cell_of i0
  replace i1 := hx1.cell_of i1
  replace i2 := hx1.cell_of i2
  replace he : Hid (Env w12) := he.out.ext hx1
  replace hx : Hid (Ext w w12) := hx.out.trans hx1
  clear hx1
  have b2 : Hid (F = 0 → textL f2 g2 h2 = l) := back2.out f2 g2 h2 hv hn
  clear hv hn back2
  generalize textL f2 g2 h2 = U at *
  go_wp2_with fail
  refine (awake_c _ he).mono ?_
  rintro e w13 ⟨rfl, hx1⟩
  replace k0 := hx1.cell_of k0
  replace k1 := hx1.cell_of k1
  replace k2 := hx1.cell_of k2
  replace j0 := hx1.cell_of j0
  replace j1 := hx1.cell_of j1
  replace j2 := hx1.cell_of j2
  replace i0 := hx1.cell_of i0
  replace i1 := hx1.cell_of i1
  replace i2 := hx1.cell_of i2
  replace he : Hid (Env w13) := he.out.ext hx1
  replace hx : Hid (Ext w w13) := hx.out.trans hx1
  clear hx1
  clear hd hNum hTak hB hT hl hm n1 n2 q1 q2 q3 q4 hlong
  by_cases cE : E = 0
  · obtain ⟨rfl, rfl, rfl⟩ := b1.out cE
    by_cases cF : F = 0
    · obtain rfl := b2.out cF
      go_wp2
      go_ret
      exact ⟨rfl, hx.out⟩
    · clear b2
      go_wp2
      go_ret
      exact ⟨rfl, hx.out⟩
  · by_cases cF : F = 0
    · obtain rfl := b2.out cF
      clear b1
      go_wp2
      go_ret
      exact ⟨rfl, hx.out⟩
    · clear b1 b2
      go_wp2
      go_ret
      exact ⟨rfl, hx.out⟩

set_option maxRecDepth 100000 in
theorem lifted (os : Os) (started : os.Started) (H : Type) (enc : TypeId × Value → H) :
    ReturnsInHanded {} Tryd.checked os 4 .any (fun w args => (Rows.civilBackSpec.pre enc Tryd.prog Tryd.f4 [] false w args ∧ laidMetH Tryd.prog laid w) ∧ sizedMet enc Tryd.prog Tryd.f4 (OpenSpec.ofChange Rows.civilBackSpec) false w args)
      (Rows.civilBackSpec.post enc Tryd.prog Tryd.f4 false true false false) := by
  refine wrap started (by kernel_rfl) Tryd.func4
    (ChangeSpec.witness_shaped (enc := enc) (C := Tryd.checked) (os := os) (X := fun w _ => laidMetH Tryd.prog laid w) false (World.laidAll Tryd.prog os laid) #[.int .i64 0, .agg #[.int .i64 0, .int .i64 0, .int .i64 0], .string ⟨#[]⟩] 8 (World.laidAll_os _ _ _)
      (World.shaped_of_ZipB (by kernel_rfl) (by kernel_rfl)) (by kernel_rfl) (by kernel_rfl) (by kernel_rfl)
      (by rw [MakeChecks.laidMetH_plain _ _ _ (by kernel_rfl)]; exact laidMet_laidAll _ (by kernel_rfl) (by kernel_rfl))) ?_
  intro W base args ds gs before hval0 hW hE
  have hval : ∀ (j : Nat) t v, Tryd.f4.params[j]? = some t → args[j]? = some v → Value.okWide Tryd.prog W .any base t v := hval0
  have hW' := hW
  obtain ⟨p, q, hA0, hV, rfl, _, _⟩ := hW
  have hA : DataW.TrodAll enc Tryd.prog W 0 (fun _ => true) true Tryd.f4.params.toList args.toList ds p := hA0
  rw [Tryd.params4] at hA hval
  obtain ⟨v0, vs0, d0, ds0, p0, q0, hargs, rfl, rfl, h0, r0⟩ := trodAll_cons hA
  obtain ⟨v1, vs1, d1, ds1, p1, q1, rfl, rfl, rfl, h1, r1⟩ := trodAll_cons r0
  obtain ⟨v2, vs2, d2, ds2, p2, q2, rfl, rfl, rfl, h2, r2⟩ := trodAll_cons r1
  obtain ⟨rfl, rfl, rfl⟩ := trodAll_nil r2
  obtain rfl : args = #[v0, v1, v2] := by cases args; simp_all
  obtain ⟨rfl, rfl⟩ := trodVars_none hV
  obtain ⟨a0, rfl, rfl, rfl, w0⟩ := open_int Tryd.underlying3 (hval 0 3 v0 rfl rfl) h0
  obtain ⟨x1, y1, z1, rfl, rfl, rfl, wx1, wy1, wz1⟩ := open_date (hval 1 23 v1 rfl rfl) h1
  obtain ⟨a2, rfl, rfl, rfl, w2⟩ := Go.ChangeMaps.open_string Tryd.underlying9 (hval 2 9 v2 rfl rfl) h2
  clear hA0 hval0
  simp only [List.append_nil] at hW'
  refine (walk a0 w0 x1 y1 z1 wx1 wy1 wz1 a2 w2 W hE).mono fun e W' ⟨he, hb⟩ => ?_
  subst he
  exact ⟨_, rfl, _, _, _, [], [], [], hW', (trodAll_cons_mk (shut_bool Tryd.underlying4 _) trodAll_mk0), (trodAll_cons_mk (shut_int Tryd.underlying3 w0) (trodAll_cons_mk (shut_date wx1 wy1 wz1) (trodAll_cons_mk (Go.ChangeMaps.shut_string Tryd.underlying9 w2) trodAll_mk0))), rfl, hb.below.frame _, fun h => by cases h⟩

theorem over : Rows.civilBackRow.holds Tryd.pinned (OpenSpec.ofChange Rows.civilBackSpec) :=
  OpenClaim.holds_of_wide 4 Tryd.f4 rfl rfl rfl rfl rfl rfl rfl ⟨rfl, rfl, rfl, rfl, rfl⟩ rfl rfl rfl rfl rfl (by kernel_rfl) Tryd.func4 (by kernel_rfl)
    (of_decide_eq_true (by kernel_rfl)) (by unfold Func.isWrapper; first | (rw [if_pos (by decide +kernel)]; kernel_rfl) | (rw [if_neg (by decide +kernel)]; exact ⟨rfl, rfl⟩))
    (fun os started H enc _ => lifted os started H enc)
end Go.Proofs.YtbdninnopfdnbaaDoor.civilBack
namespace Go.Proofs.YtbdninnopfdnbaaDoor
theorem civilBack_holds : Rows.CivilBackCardSaid :=
  Claim7.holds_tied_plain_at .later [] [.data, .data, .data, .sentinel, .sentinel, .data] true (true, "f9020bd6947e917c8eb02aa199ac44401b4a49270a74dcbb55531bc928ef3fbb") true civilBack.over (fun _ h => by cases h) (by kernel_rfl) (fun _ h => by cases h) civilBack_row_tie rfl ⟨rfl, rfl⟩ (by kernel_rfl) rfl
    (fun f fn hf hfn => by
      obtain rfl : f = 4 := Option.some.inj ((show Tryd.prog.funcNamed "quittance/quittancelaw03.CivilBack" = some 4 by kernel_rfl).symm.trans hf) |>.symm
      obtain rfl : fn = Tryd.f4 := (Option.some.inj (Tryd.func4.symm.trans hfn)).symm
      exact ⟨by kernel_rfl, fun j t ht => by
        rw [Tryd.params4] at ht
        have hm : t ∈ [3, 23, 9] := by simpa using Array.mem_of_getElem? ht
        have hall : ([3, 23, 9].all fun u => !Tryd.prog.wantsStandIn u) = true := by kernel_rfl
        exact (show Tryd.prog.wantsStandIn t = false by simpa using List.all_eq_true.1 hall t hm)⟩)
    (by kernel_rfl)
#print axioms civilBack_holds
end Go.Proofs.YtbdninnopfdnbaaDoor
