/- For every int n, of the project's tree at the commit that COMMIT names, CivilNext returns true and leaves its argument as it was, with the listed variables laid as the program's text lays them. -/
import Derived.Test.YtbdninnopfdnbaaDoorFrame
namespace Go.Proofs.YtbdninnopfdnbaaDoor.civilNext
open Go.ChangeShapes Go.WideShapes Go.ChangeAt Go.RowKit Go.Lib
set_option linter.unusedVariables false

set_option maxHeartbeats 4000000 in

theorem walk (a0 : Int) (w0 : (Lit.int .i64 a0).wf = true) (w : World) (he : Env w) :
    Calls Tryd.prog 5 #[.int .i64 a0] w fun e w' => e = .returned (.bool true) ∧ Ext w w' := by
  replace he : Hid (Env w) := he
  obtain ⟨N, hN⟩ : ∃ N, dayN a0 = N := ⟨_, rfl⟩
  obtain ⟨n1, n2⟩ := dayN_bd a0
  have hd : Hid (∀ w, Calls Tryd.prog 24 #[.int .i64 a0] w fun e w' => e = .returned (.int .i64 N) ∧ Ext w w') := fun w => hN ▸ day_x a0 w
  rw [hN] at n1 n2
  clear hN
  go_enter Tryd.func5, Tryd.ntmps5
  go_wp2_with fail
  refine (hd.out _).mono ?_
  rintro e w1 ⟨rfl, hx1⟩
  replace he : Hid (Env w1) := he.out.ext hx1
  have hx := show Hid (Ext w w1) from hx1
  clear hx1
  go_wp2_with fail
  refine (Date_ok N _ n1 n2 he).mono ?_
  rintro e w2 ⟨⟨y, m, d, rfl, hv, hn⟩, hx2⟩
  replace he : Hid (Env w2) := he.out.ext hx2
  replace hx : Hid (Ext w w2) := hx.out.trans hx2
  clear hx2
  by_cases hlast : N = 84370
  · subst hlast
    obtain ⟨rfl, rfl, rfl⟩ := num_inj hv (show Vld 2200 12 31 from ⟨by omega, by omega, by omega, by decide⟩) (hn.trans (by decide))
    clear hv hn
    go_wp2_with fail
    obtain ⟨W0, b, hW0, hb, hxb, k0, k1, k2, _, _, _⟩ := box3f w2 (.int .i64 2200) (.int .i64 12) (.int .i64 31) 23
    rw [hW0, hb]
    clear hW0 hb
    replace he : Hid (Env W0) := he.out.ext hxb
    replace hx : Hid (Ext w W0) := hx.out.trans hxb
    refine (Date_no _ _ (Or.inr (by omega))).mono ?_
    rintro e w3 ⟨rfl, hx3⟩
    replace k0 := hx3.cell_of k0; replace k1 := hx3.cell_of k1; replace k2 := hx3.cell_of k2
    replace he : Hid (Env w3) := he.out.ext hx3
    replace hx : Hid (Ext w w3) := hx.out.trans hx3
    clear hx3 hxb
    go_wp2_with fail
    refine (awake_c _ (he.out.ext ((Ext.refl w3).alloc _ _))).mono ?_
    rintro e w4 ⟨rfl, hx4⟩
    have hx5 : Ext w3 w4 := (by exact (Ext.refl w3).alloc _ _ : Ext w3 _).trans hx4
    replace k0 := hx5.cell_of k0; replace k1 := hx5.cell_of k1; replace k2 := hx5.cell_of k2
    replace hx : Hid (Ext w w4) := hx.out.trans hx5
    clear hx4 hx5
    go_wp2
    go_ret
    exact ⟨rfl, hx.out⟩
  · go_wp2_with fail
    obtain ⟨W0, b, hW0, hb, hxb, k0, k1, k2, _, _, _⟩ := box3f w2 (.int .i64 y) (.int .i64 m) (.int .i64 d) 23
    rw [hW0, hb]
    clear hW0 hb
    replace he : Hid (Env W0) := he.out.ext hxb
    replace hx : Hid (Ext w W0) := hx.out.trans hxb
    refine (Date_ok _ _ (by omega) (by omega) he).mono ?_
    rintro e w3 ⟨⟨y', m', d', rfl, hv', hn'⟩, hx3⟩
    replace k0 := hx3.cell_of k0; replace k1 := hx3.cell_of k1; replace k2 := hx3.cell_of k2
    replace he : Hid (Env w3) := he.out.ext hx3
    replace hx : Hid (Ext w w3) := hx.out.trans hx3
    clear hx3 hxb
    have a1 := hv.y1; have a2 := hv.y2; have a3 := hv.m1; have a4 := hv.m2; have a5 := hv.d1; have a6 := hv.d31
    have hm : Hid (I64 m) := by show I64 m; unfold I64; omega
    obtain ⟨v, hwv⟩ : ∃ v, wday N = v := ⟨_, rfl⟩
    have v1 := hwv ▸ (wday_bd N).1
    have v2 := hwv ▸ (wday_bd N).2
    have q2 : Hid (wday (N + 1) = (v + 1) % 7) := by show wday (N + 1) = (v + 1) % 7; rw [wday_next, hwv]
    have q1 : Hid (wday N = v) := hwv
    have key := next_date hv hv' (by rw [hn, hn'])
    clear hv hv' hn hn' hwv
    rcases key with ⟨z1, z2, rfl, rfl, rfl⟩ | ⟨z1, z2, rfl, rfl, rfl⟩ | ⟨z1, rfl, rfl, rfl, rfl⟩
    · go_wp2_with fail
      obtain ⟨W1, b1, hW1, hb1, hxb, j0, j1, j2, _, _, _⟩ := box3f w3 (.int .i64 y') (.int .i64 m') (.int .i64 (d + 1)) 23
      rw [hW1, hb1]
      clear hW1 hb1
      replace k0 := hxb.cell_of k0; replace k1 := hxb.cell_of k1; replace k2 := hxb.cell_of k2
      replace he : Hid (Env W1) := he.out.ext hxb
      replace hx : Hid (Ext w W1) := hx.out.trans hxb
      refine (awake_c _ he).mono ?_
      rintro e w4 ⟨rfl, hx4⟩
      replace k0 := hx4.cell_of k0; replace k1 := hx4.cell_of k1; replace k2 := hx4.cell_of k2
      replace j0 := hx4.cell_of j0; replace j1 := hx4.cell_of j1; replace j2 := hx4.cell_of j2
      replace he : Hid (Env w4) := he.out.ext hx4
      replace hx : Hid (Ext w w4) := hx.out.trans hx4
      clear hx4 hxb
      go_wp2_with fail
      have lt1 := lt_of_cell k0
      have lt2 := lt_of_cell j0
      obtain ⟨W2, c, hW2, hc2, hxb, i0, i1, i2, f0, f1, f2⟩ := box3f w4 (.int .i64 y') (.int .i64 m') (.int .i64 (d + 1)) 23
      rw [hW2, hc2]
      rw [hc2] at lt1 lt2
      have lo : w.heap.size ≤ c := by have := hx.out.size; omega
      clear hW2 hc2
      have ne1 : ¬ c = b1 := by omega
      have ne2 : ¬ b1 = c := by omega
      clear lt1 lt2
      replace k0 := hxb.cell_of k0; replace k1 := hxb.cell_of k1; replace k2 := hxb.cell_of k2
      replace j0 := hxb.cell_of j0; replace j1 := hxb.cell_of j1; replace j2 := hxb.cell_of j2
      replace he : Hid (Env W2) := he.out.ext hxb
      replace hx : Hid (Ext w W2) := hx.out.trans hxb
      clear hxb
      have o0 := Late.cell k0; have o1 := Late.cell k1; have p2 := Late.cell i2
      have hE : Hid (∀ s : Late W2, Hid (Env s.to)) := fun s => he.out.ext s.ext
      have hNe3 : Nonempty (Late W2) := ⟨⟨_, Ext.refl _⟩⟩
      refine wp_region_late (by kernel_rfl) (by kernel_rfl) ?_
      repeat (go_big_quiet_step ((first
        | (go_at_call 20; exact late_same (Month_c _ _ _ hm.out (hE.out _))))))
      refine wpQuiet_nil ?_
      intro W3 hw'
      have hx3 := late_ext hw'
      clear hw'
      clear o0 o1 p2 hE
      replace f0 := hx3.froz_of i0 f0; replace f1 := hx3.froz_of i1 f1; replace f2 := hx3.froz_of i2 f2
      replace i0 := hx3.cell_of i0; replace i1 := hx3.cell_of i1; replace i2 := hx3.cell_of i2
      replace j0 := hx3.cell_of j0; replace j1 := hx3.cell_of j1; replace j2 := hx3.cell_of j2
      replace hx : Hid (Ext w W3) := hx.out.trans hx3
      clear k0 k1 k2 hx3
      go_wp2_with (go_at_call 22; refine (Weekday_c _ _ (by unfold I64; omega)).mono ?_; rintro e w' ⟨rfl, rfl⟩; first | rw [q2.out] | rw [q1.out])
      go_ret
      refine ⟨rfl, ?_⟩
      first
        | exact hx.out.setCell lo _
        | exact (hx.out.setCell lo _).setCell lo _
        | exact ((hx.out.setCell lo _).setCell lo _).setCell lo _
        | exact (((hx.out.setCell lo _).setCell lo _).setCell lo _).setCell lo _
        | exact hx.out
    · go_wp2_with fail
      obtain ⟨W1, b1, hW1, hb1, hxb, j0, j1, j2, _, _, _⟩ := box3f w3 (.int .i64 y') (.int .i64 (m + 1)) (.int .i64 1) 23
      rw [hW1, hb1]
      clear hW1 hb1
      replace k0 := hxb.cell_of k0; replace k1 := hxb.cell_of k1; replace k2 := hxb.cell_of k2
      replace he : Hid (Env W1) := he.out.ext hxb
      replace hx : Hid (Ext w W1) := hx.out.trans hxb
      refine (awake_c _ he).mono ?_
      rintro e w4 ⟨rfl, hx4⟩
      replace k0 := hx4.cell_of k0; replace k1 := hx4.cell_of k1; replace k2 := hx4.cell_of k2
      replace j0 := hx4.cell_of j0; replace j1 := hx4.cell_of j1; replace j2 := hx4.cell_of j2
      replace he : Hid (Env w4) := he.out.ext hx4
      replace hx : Hid (Ext w w4) := hx.out.trans hx4
      clear hx4 hxb
      go_wp2_with fail
      have lt1 := lt_of_cell k0
      have lt2 := lt_of_cell j0
      obtain ⟨W2, c, hW2, hc2, hxb, i0, i1, i2, f0, f1, f2⟩ := box3f w4 (.int .i64 y') (.int .i64 m) (.int .i64 (d + 1)) 23
      rw [hW2, hc2]
      rw [hc2] at lt1 lt2
      have lo : w.heap.size ≤ c := by have := hx.out.size; omega
      clear hW2 hc2
      have ne1 : ¬ c = b1 := by omega
      have ne2 : ¬ b1 = c := by omega
      clear lt1 lt2
      replace k0 := hxb.cell_of k0; replace k1 := hxb.cell_of k1; replace k2 := hxb.cell_of k2
      replace j0 := hxb.cell_of j0; replace j1 := hxb.cell_of j1; replace j2 := hxb.cell_of j2
      replace he : Hid (Env W2) := he.out.ext hxb
      replace hx : Hid (Ext w W2) := hx.out.trans hxb
      clear hxb
      have o0 := Late.cell k0; have o1 := Late.cell k1; have p2 := Late.cell i2
      have hE : Hid (∀ s : Late W2, Hid (Env s.to)) := fun s => he.out.ext s.ext
      have hNe3 : Nonempty (Late W2) := ⟨⟨_, Ext.refl _⟩⟩
      refine wp_region_late (by kernel_rfl) (by kernel_rfl) ?_
      repeat (go_big_quiet_step ((first
        | (go_at_call 20; exact late_same (Month_c _ _ _ hm.out (hE.out _))))))
      refine wpQuiet_nil ?_
      intro W3 hw'
      have hx3 := late_ext hw'
      clear hw'
      clear o0 o1 p2 hE
      replace f0 := hx3.froz_of i0 f0; replace f1 := hx3.froz_of i1 f1; replace f2 := hx3.froz_of i2 f2
      replace i0 := hx3.cell_of i0; replace i1 := hx3.cell_of i1; replace i2 := hx3.cell_of i2
      replace j0 := hx3.cell_of j0; replace j1 := hx3.cell_of j1; replace j2 := hx3.cell_of j2
      replace hx : Hid (Ext w W3) := hx.out.trans hx3
      clear k0 k1 k2 hx3
      go_wp2_with (go_at_call 22; refine (Weekday_c _ _ (by unfold I64; omega)).mono ?_; rintro e w' ⟨rfl, rfl⟩; first | rw [q2.out] | rw [q1.out])
      go_ret
      refine ⟨rfl, ?_⟩
      first
        | exact hx.out.setCell lo _
        | exact (hx.out.setCell lo _).setCell lo _
        | exact ((hx.out.setCell lo _).setCell lo _).setCell lo _
        | exact (((hx.out.setCell lo _).setCell lo _).setCell lo _).setCell lo _
        | exact hx.out
    · go_wp2_with fail
      obtain ⟨W1, b1, hW1, hb1, hxb, j0, j1, j2, _, _, _⟩ := box3f w3 (.int .i64 (y + 1)) (.int .i64 1) (.int .i64 1) 23
      rw [hW1, hb1]
      clear hW1 hb1
      replace k0 := hxb.cell_of k0; replace k1 := hxb.cell_of k1; replace k2 := hxb.cell_of k2
      replace he : Hid (Env W1) := he.out.ext hxb
      replace hx : Hid (Ext w W1) := hx.out.trans hxb
      refine (awake_c _ he).mono ?_
      rintro e w4 ⟨rfl, hx4⟩
      replace k0 := hx4.cell_of k0; replace k1 := hx4.cell_of k1; replace k2 := hx4.cell_of k2
      replace j0 := hx4.cell_of j0; replace j1 := hx4.cell_of j1; replace j2 := hx4.cell_of j2
      replace he : Hid (Env w4) := he.out.ext hx4
      replace hx : Hid (Ext w w4) := hx.out.trans hx4
      clear hx4 hxb
      go_wp2_with fail
      have lt1 := lt_of_cell k0
      have lt2 := lt_of_cell j0
      obtain ⟨W2, c, hW2, hc2, hxb, i0, i1, i2, f0, f1, f2⟩ := box3f w4 (.int .i64 y) (.int .i64 12) (.int .i64 (d + 1)) 23
      rw [hW2, hc2]
      rw [hc2] at lt1 lt2
      have lo : w.heap.size ≤ c := by have := hx.out.size; omega
      clear hW2 hc2
      have ne1 : ¬ c = b1 := by omega
      have ne2 : ¬ b1 = c := by omega
      clear lt1 lt2
      replace k0 := hxb.cell_of k0; replace k1 := hxb.cell_of k1; replace k2 := hxb.cell_of k2
      replace j0 := hxb.cell_of j0; replace j1 := hxb.cell_of j1; replace j2 := hxb.cell_of j2
      replace he : Hid (Env W2) := he.out.ext hxb
      replace hx : Hid (Ext w W2) := hx.out.trans hxb
      clear hxb
      have o0 := Late.cell k0; have o1 := Late.cell k1; have p2 := Late.cell i2
      have hE : Hid (∀ s : Late W2, Hid (Env s.to)) := fun s => he.out.ext s.ext
      have hNe3 : Nonempty (Late W2) := ⟨⟨_, Ext.refl _⟩⟩
      refine wp_region_late (by kernel_rfl) (by kernel_rfl) ?_
      repeat (go_big_quiet_step ((first
        | (go_at_call 20; exact late_same (Month_c _ _ _ hm.out (hE.out _))))))
      refine wpQuiet_nil ?_
      intro W3 hw'
      have hx3 := late_ext hw'
      clear hw'
      clear o0 o1 p2 hE
      replace f0 := hx3.froz_of i0 f0; replace f1 := hx3.froz_of i1 f1; replace f2 := hx3.froz_of i2 f2
      replace i0 := hx3.cell_of i0; replace i1 := hx3.cell_of i1; replace i2 := hx3.cell_of i2
      replace j0 := hx3.cell_of j0; replace j1 := hx3.cell_of j1; replace j2 := hx3.cell_of j2
      replace hx : Hid (Ext w W3) := hx.out.trans hx3
      clear k0 k1 k2 hx3
      have t1 : (((W3.setCell ⟨c, 2, none⟩ (.int .i64 1)).setCell ⟨c, 1, none⟩ (.int .i64 13)).setCell ⟨c, 1, none⟩ (.int .i64 1)).cell? ⟨c, 1, none⟩ = some (.int .i64 1) :=
        same (same (by rw [other _ (by omega)]; exact i1))
      go_wp2_with (go_at_call 22; refine (Weekday_c _ _ (by unfold I64; omega)).mono ?_; rintro e w' ⟨rfl, rfl⟩; first | rw [q2.out] | rw [q1.out])
      go_ret
      refine ⟨rfl, ?_⟩
      first
        | exact hx.out.setCell lo _
        | exact (hx.out.setCell lo _).setCell lo _
        | exact ((hx.out.setCell lo _).setCell lo _).setCell lo _
        | exact (((hx.out.setCell lo _).setCell lo _).setCell lo _).setCell lo _
        | exact hx.out

set_option maxRecDepth 100000 in
theorem lifted (os : Os) (started : os.Started) (H : Type) (enc : TypeId × Value → H) :
    ReturnsInHanded {} Tryd.checked os 5 .any (fun w args => (Rows.civilNextSpec.pre enc Tryd.prog Tryd.f5 [] false w args ∧ laidMetH Tryd.prog laid w) ∧ sizedMet enc Tryd.prog Tryd.f5 (OpenSpec.ofChange Rows.civilNextSpec) false w args)
      (Rows.civilNextSpec.post enc Tryd.prog Tryd.f5 false true false false) := by
  refine wrap started (by kernel_rfl) Tryd.func5
    (ChangeSpec.witness_shaped (enc := enc) (C := Tryd.checked) (os := os) (X := fun w _ => laidMetH Tryd.prog laid w) false (World.laidAll Tryd.prog os laid) #[.int .i64 0] 8 (World.laidAll_os _ _ _)
      (World.shaped_of_ZipB (by kernel_rfl) (by kernel_rfl)) (by kernel_rfl) (by kernel_rfl) (by kernel_rfl)
      (by rw [MakeChecks.laidMetH_plain _ _ _ (by kernel_rfl)]; exact laidMet_laidAll _ (by kernel_rfl) (by kernel_rfl))) ?_
  intro W base args ds gs before hval0 hW hE
  have hval : ∀ (j : Nat) t v, Tryd.f5.params[j]? = some t → args[j]? = some v → Value.okWide Tryd.prog W .any base t v := hval0
  have hW' := hW
  obtain ⟨p, q, hA0, hV, rfl, _, _⟩ := hW
  have hA : DataW.TrodAll enc Tryd.prog W 0 (fun _ => true) true Tryd.f5.params.toList args.toList ds p := hA0
  rw [Tryd.params5] at hA hval
  obtain ⟨v0, vs0, d0, ds0, p0, q0, hargs, rfl, rfl, h0, r0⟩ := trodAll_cons hA
  obtain ⟨rfl, rfl, rfl⟩ := trodAll_nil r0
  obtain rfl : args = #[v0] := by cases args; simp_all
  obtain ⟨rfl, rfl⟩ := trodVars_none hV
  obtain ⟨a0, rfl, rfl, rfl, w0⟩ := open_int Tryd.underlying3 (hval 0 3 v0 rfl rfl) h0
  clear hA0 hval0
  simp only [List.append_nil] at hW'
  refine (walk a0 w0 W hE).mono fun e W' ⟨he, hb⟩ => ?_
  subst he
  exact ⟨_, rfl, _, _, _, [], [], [], hW', (trodAll_cons_mk (shut_bool Tryd.underlying4 _) trodAll_mk0), (trodAll_cons_mk (shut_int Tryd.underlying3 w0) trodAll_mk0), rfl, hb.below.frame _, fun h => by cases h⟩

theorem over : Rows.civilNextRow.holds Tryd.pinned (OpenSpec.ofChange Rows.civilNextSpec) :=
  OpenClaim.holds_of_wide 5 Tryd.f5 rfl rfl rfl rfl rfl rfl rfl ⟨rfl, rfl, rfl, rfl, rfl⟩ rfl rfl rfl rfl rfl (by kernel_rfl) Tryd.func5 (by kernel_rfl)
    (of_decide_eq_true (by kernel_rfl)) (by unfold Func.isWrapper; first | (rw [if_pos (by decide +kernel)]; kernel_rfl) | (rw [if_neg (by decide +kernel)]; exact ⟨rfl, rfl⟩))
    (fun os started H enc _ => lifted os started H enc)
end Go.Proofs.YtbdninnopfdnbaaDoor.civilNext
namespace Go.Proofs.YtbdninnopfdnbaaDoor
theorem civilNext_holds : Rows.CivilNextCardSaid :=
  Claim7.holds_tied_plain_at .later [] [.data, .data, .data, .sentinel, .sentinel, .data] true (true, "f9020bd6947e917c8eb02aa199ac44401b4a49270a74dcbb55531bc928ef3fbb") true civilNext.over (fun _ h => by cases h) (by kernel_rfl) (fun _ h => by cases h) civilNext_row_tie rfl ⟨rfl, rfl⟩ (by kernel_rfl) rfl
    (fun f fn hf hfn => by
      obtain rfl : f = 5 := Option.some.inj ((show Tryd.prog.funcNamed "quittance/quittancelaw03.CivilNext" = some 5 by kernel_rfl).symm.trans hf) |>.symm
      obtain rfl : fn = Tryd.f5 := (Option.some.inj (Tryd.func5.symm.trans hfn)).symm
      exact ⟨by kernel_rfl, fun j t ht => by
        rw [Tryd.params5] at ht
        have hm : t ∈ [3] := by simpa using Array.mem_of_getElem? ht
        have hall : ([3].all fun u => !Tryd.prog.wantsStandIn u) = true := by kernel_rfl
        exact (show Tryd.prog.wantsStandIn t = false by simpa using List.all_eq_true.1 hall t hm)⟩)
    (by kernel_rfl)
#print axioms civilNext_holds
end Go.Proofs.YtbdninnopfdnbaaDoor
