/- For every product, every day and either way, of the project's tree at the commit that COMMIT names, DuesTell returns true and leaves its arguments as they were, with the listed variable laid as the program's text lays it. -/
import Derived.Test.YtmlkccmkdgfalaaGreatDoorPf
import Derived.Test.YtmlkccmkdgfalaaGreatDoorDu7
import Derived.Deep.DeepCutAuto
namespace Go.Proofs.YtmlkccmkdgfalaaGreatDoor.duesTell
open Go.ChangeShapes Go.WideShapes Go.ChangeAt Go.RowKit Go.Lib
set_option linter.unusedVariables false

set_option maxRecDepth 100000 in
set_option maxHeartbeats 4000000 in

theorem walk (p0 : Prd) (vr0 vl0 vh0 : Value) (hp0 : L8.Fits p0.nm p0.rs p0.lt p0.hd) (a1 : Int) (w1 : (Lit.int .i64 a1).wf = true) (a2 : Bool) (w : World) (he : Evn w) (sr0 : L8.Slp w vr0 p0.rs) (sl0 : L8.Slp w vl0 p0.lt) (sh0 : L8.Slc w vh0 p0.hd) :
    Calls Tryz.prog 3 #[.agg (pcells p0 vr0 vl0 vh0), .int .i64 a1, .bool a2] w fun e w' => e = .returned (.bool true) ∧ Ext w w' := by
  have m0 := hp0.nm; have m1 := hp0.rs; have m2 := hp0.lt; have m3 := hp0.hd
  unfold maxLen at m0 m1 m2 m3
  clear hp0
  obtain ⟨ar, cr, rfl⟩ := sr0.len
  obtain ⟨al, cl, rfl⟩ := sl0.len
  obtain ⟨ah, ch, rfl⟩ := sh0.len
  have hone := pcells_slp sr0 sl0 sh0
  have hsz : (pcells p0 (.slice ar p0.rs.length cr) (.slice al p0.lt.length cl) (.slice ah p0.hd.length ch)).size = 19 := rfl
  obtain ⟨W0, b, hW0, hb, hx0, hB⟩ : ∃ W b, w.alloc (.cells (pcells p0 (.slice ar p0.rs.length cr) (.slice al p0.lt.length cl) (.slice ah p0.hd.length ch)) 27) = W ∧ w.heap.size = b ∧ Ext w W ∧ Blk W b (pcells p0 (.slice ar p0.rs.length cr) (.slice al p0.lt.length cl) (.slice ah p0.hd.length ch)) := ⟨_, _, rfl, rfl, (Ext.refl w).alloc _ _, heap_alloc_last w _⟩
  have hbx := box_prod p0 (.slice ar p0.rs.length cr) (.slice al p0.lt.length cl) (.slice ah p0.hd.length ch) hone
  have y0 : W0.cell? ⟨b, 0, none⟩ = some (.string ⟨p0.nm.toArray⟩) := (cell_of_row _ b 0 _ _ _ hB).trans rfl
  have y8 : W0.cell? ⟨b, 8, none⟩ = some (.slice ar p0.rs.length cr) := (cell_of_row _ b 8 _ _ _ hB).trans rfl
  have y15 : W0.cell? ⟨b, 15, none⟩ = some (.slice al p0.lt.length cl) := (cell_of_row _ b 15 _ _ _ hB).trans rfl
  have y17 : W0.cell? ⟨b, 17, none⟩ = some (.int .i64 p0.rl) := (cell_of_row _ b 17 _ _ _ hB).trans rfl
  have y18 : W0.cell? ⟨b, 18, none⟩ = some (.slice ah p0.hd.length ch) := (cell_of_row _ b 18 _ _ _ hB).trans rfl
  by_cases c0 : 100 < p0.nm.length
  · have hli : (100 : Int) < (p0.nm.length : Int) := by omega
    have haw := show Hid _ from awake_w W0 (he.env.ext hx0)
    clear hB sr0 sl0 sh0 hone he c0
    replace hx0 := show Hid _ from hx0
    go_enter Tryz.func3, Tryz.ntmps3
    go_wp2_with fail
    refine Calls.mono haw.out ?_
    rintro e w1 ⟨rfl, hx⟩
    replace hx := show Hid _ from hx
    go_wp2
    go_ret
    exact ⟨rfl, hx0.out.trans hx.out⟩
  by_cases c1 : 50 < p0.rs.length
  · have hli : (50 : Int) < (p0.rs.length : Int) := by omega
    have pi0 : ¬ (100 : Int) < (p0.nm.length : Int) := by omega
    have haw := show Hid _ from awake_w W0 (he.env.ext hx0)
    clear hB sr0 sl0 sh0 hone he c1
    replace hx0 := show Hid _ from hx0
    go_enter Tryz.func3, Tryz.ntmps3
    go_wp2_with fail
    refine Calls.mono haw.out ?_
    rintro e w1 ⟨rfl, hx⟩
    replace hx := show Hid _ from hx
    go_wp2
    go_ret
    exact ⟨rfl, hx0.out.trans hx.out⟩
  by_cases c2 : 50 < p0.lt.length
  · have hli : (50 : Int) < (p0.lt.length : Int) := by omega
    have pi0 : ¬ (100 : Int) < (p0.nm.length : Int) := by omega
    have pi1 : ¬ (50 : Int) < (p0.rs.length : Int) := by omega
    have haw := show Hid _ from awake_w W0 (he.env.ext hx0)
    clear hB sr0 sl0 sh0 hone he c2
    replace hx0 := show Hid _ from hx0
    go_enter Tryz.func3, Tryz.ntmps3
    go_wp2_with fail
    refine Calls.mono haw.out ?_
    rintro e w1 ⟨rfl, hx⟩
    replace hx := show Hid _ from hx
    go_wp2
    go_ret
    exact ⟨rfl, hx0.out.trans hx.out⟩
  by_cases c3 : 300 < p0.hd.length
  · have hli : (300 : Int) < (p0.hd.length : Int) := by omega
    have pi0 : ¬ (100 : Int) < (p0.nm.length : Int) := by omega
    have pi1 : ¬ (50 : Int) < (p0.rs.length : Int) := by omega
    have pi2 : ¬ (50 : Int) < (p0.lt.length : Int) := by omega
    have haw := show Hid _ from awake_w W0 (he.env.ext hx0)
    clear hB sr0 sl0 sh0 hone he c3
    replace hx0 := show Hid _ from hx0
    go_enter Tryz.func3, Tryz.ntmps3
    go_wp2_with fail
    refine Calls.mono haw.out ?_
    rintro e w1 ⟨rfl, hx⟩
    replace hx := show Hid _ from hx
    go_wp2
    go_ret
    exact ⟨rfl, hx0.out.trans hx.out⟩
  have pi0 : ¬ (100 : Int) < (p0.nm.length : Int) := by omega
  have pi1 : ¬ (50 : Int) < (p0.rs.length : Int) := by omega
  have pi2 : ¬ (50 : Int) < (p0.lt.length : Int) := by omega
  have pi3 : ¬ (300 : Int) < (p0.hd.length : Int) := by omega
  have hlo : Hid (w.heap.size ≤ b) := by show _ ≤ _; omega
  have hI : Hid (Inp w p0 (.slice ar p0.rs.length cr) (.slice al p0.lt.length cl) (.slice ah p0.hd.length ch)) := ⟨by omega, by omega, by omega, by omega, sr0, sl0, sh0⟩
  have he00 : Hid (L3.Env w) := he.env
  replace hx0 := show Hid _ from hx0
  clear c0 c1 c2
  go_enter Tryz.func3, Tryz.ntmps3
  go_upto_if 41 with fail
  go_cut [3, 7, 8] from 42 to 63 (fun x _ _ wx => x = .pointer (some ⟨b, 0, none⟩) ∧ ∃ (q : Prd) (ur ul uh : Value), Hid (Blk wx b (pcells q ur ul uh)) ∧ Hid (Inp w q ur ul uh) ∧ Hid (Ext w wx))
  case first =>
    cases a2
    case true =>
      go_wp2
      go_meet
      exact ⟨rfl, p0, _, _, _, hB, hI, hx0⟩
    case false =>
    obtain ⟨R1, e1, l1, r4, f1, g1⟩ := rem_is p0.rl 4 (by decide) (by decide)
    have hbz : w.heap.size ≤ b := hlo.out
    have j17 := Late.cell y17; have j18 := Late.cell y18
    have hNe1 : Nonempty (Late W0) := ⟨⟨_, Ext.refl _⟩⟩
    go_wp2_with fail
    refine wp_region_late (by kernel_rfl) (by kernel_rfl) ?_
    repeat (go_big_quiet_step (fail))
    refine wpQuiet_nil ?_
    intro W1 hw'
    have hx1 : Ext W0 W1 := late_ext hw'
    have hB1 : Blk W1 b (pcells p0 (.slice ar p0.rs.length cr) (.slice al p0.lt.length cl) (.slice ah p0.hd.length ch)) := hB.ext hx1
    replace hx1 : Hid (Ext w W1) := hx0.out.trans hx1
    clear hw' j17 j18 hNe1 y0 y8 y15 y17 y18 hB hbx pi0 pi1 pi2 pi3 m0 m1 m2
    go_wp2_with (refine load27 hB1 hsz rfl rfl rfl ?_)
    refine (Play_40 p0 (.slice ar p0.rs.length cr) (.slice al p0.lt.length cl) (.slice ah p0.hd.length ch) w _ hx1.out hI.out.h0 hI.out.h1 hI.out.h2 hI.out.h3 hI.out.sr hI.out.sl hI.out.sh).mono ?_
    rintro e w2 ⟨hx2, q, ur, ul, uh, rfl, s1, s2, s3, n1, n2, k1, k2⟩
    have hqo := one_of s1 s2 s3
    have hB2 : Blk w2 b (pcells p0 (.slice ar p0.rs.length cr) (.slice al p0.lt.length cl) (.slice ah p0.hd.length ch)) := hB1.ext hx2
    replace hx2 : Hid (Ext w w2) := hx1.out.trans hx2
    have hIq : Hid (Inp w q ur ul uh) := ⟨by omega, by omega, by omega, by omega, s1, s2, s3⟩
    clear hB1 hx1 s1 s2 s3 n1 n2 k1 k2
    go_wp2_with (refine store27 (cs := pcells q ur ul uh) hB2 rfl rfl hqo rfl rfl rfl rfl ?_)
    intro W3 hB3 hx3
    replace hx3 : Hid (Ext w W3) := hx3.ext hx2.out hbz
    have c17 := (cell_of_row W3 b 17 _ _ _ hB3).trans (show _ = some (.int .i64 q.rl) from rfl)
    have c18 := (cell_of_row W3 b 18 _ _ _ hB3).trans (show _ = some uh from rfl)
    have z17 := frozen_of_row W3 b 17 _ _ hB3
    have z18 := frozen_of_row W3 b 18 _ _ hB3
    have hB4 : Hid (Blk ((W3.setCell ⟨b, 17, none⟩ (.int .i64 (1 + R1))).setCell ⟨b, 18, none⟩ (.slice none 0 0)) b (pcells { q with rl := 1 + R1, hd := [] } ur ul (.slice none 0 0))) := L8.Blk.set (L8.Blk.set hB3 17 _) 18 _
    have hx4 : Hid (Ext w ((W3.setCell ⟨b, 17, none⟩ (.int .i64 (1 + R1))).setCell ⟨b, 18, none⟩ (.slice none 0 0))) := (hx3.out.setCell hbz _).setCell hbz _
    have hI4 : Hid (Inp w { q with rl := 1 + R1, hd := [] } ur ul (.slice none 0 0)) := ⟨hIq.out.h0, hIq.out.h1, hIq.out.h2, by show 0 ≤ _; omega, hIq.out.sr, hIq.out.sl, L8.nilh w⟩
    have hRt : Hid (∀ W : World, Ext w W → Calls Tryz.prog 7 #[.slice ah p0.hd.length ch] W fun e w' => e = .returned (.bool (L8.rgt p0.hd)) ∧ Ext W w') := fun W hW => L8.Right_ok _ p0.hd W hI.out.h3 (hI.out.sh.ext hW)
    clear hB2 hx2 hB3
    by_cases hR : R1 = 0
    · subst hR
      go_wp2
      go_meet
      exact ⟨rfl, _, _, _, _, hB4, hI4, hx4⟩
    · have hR' : ¬ (1 + R1 = 1) := by omega
      go_wp2_with fail
      refine Calls.mono (hRt.out _ hx4.out) ?_
      rintro e w5 ⟨rfl, hx5⟩
      have hB5 : Blk w5 b (pcells { q with rl := 1 + R1, hd := [] } ur ul (.slice none 0 0)) := hB4.out.ext hx5
      replace hx5 : Hid (Ext w w5) := hx4.out.trans hx5
      have d18 := (cell_of_row w5 b 18 _ _ _ hB5).trans (show _ = some (.slice none 0 0) from rfl)
      have y18 := frozen_of_row w5 b 18 _ _ hB5
      replace hB5 := show Hid _ from hB5
      clear hB4 hx4 c17 c18 z17 z18 hRt hqo
      cases hG : L8.rgt p0.hd
      · go_wp2
        go_meet
        exact ⟨rfl, _, _, _, _, hB5, hI4, hx5⟩
      · go_wp2
        go_meet
        exact ⟨rfl, { q with rl := 1 + R1, hd := p0.hd }, ur, ul, .slice ah p0.hd.length ch, L8.Blk.set hB5.out 18 _, ⟨hI4.out.h0, hI4.out.h1, hI4.out.h2, hI.out.h3, hI4.out.sr, hI4.out.sl, hI.out.sh⟩, hx5.out.setCell hbz _⟩
  case rest =>
  clear hB hsz hone y0 y8 y15 y17 y18 hbx pi0 pi1 pi2 pi3 m0 m1 m2 m3 sr0 sl0 sh0 hI
  obtain ⟨rfl, q, ur, ul, uh, hB, hI, hx⟩ := hcut
  obtain ⟨E, hE⟩ := due_ex q a1
  have hln := And.intro (anL_len hE (duF q a1)) (anL_len hE (paF q.cn a1 (duF q a1)))
  obtain ⟨L, hL⟩ : ∃ L, anL E (fst (duT q) (duF q a1)) = L := ⟨_, rfl⟩
  obtain ⟨M, hM⟩ : ∃ M, anL E (fst (duT q) (paF q.cn a1 (duF q a1))) = M := ⟨_, rfl⟩
  rw [hL, hM] at hln
  have he0 : Hid (∀ W : World, Ext w W → L3.Env W) := fun W hW => he00.out.ext hW
  have q1 : Hid (∀ W : World, Ext w W → Calls Tryz.prog 8 #[.agg (pcells q ur ul uh), .int .i64 a1] W fun e w' => ∃ a n c, e = .returned (.tuple #[.slice a n c, .int .i64 E]) ∧ L8.Slc w' (.slice a n c) L ∧ Ext W w') := fun W hW => hL ▸ Days_a q ur ul uh a1 E W (hI.out.ext hW) (he0.out W hW) hE
  have q2 : Hid (∀ W : World, Ext w W → Calls Tryz.prog 9 #[.agg (pcells q ur ul uh), .int .i64 a1] W fun e w' => ∃ a n c, e = .returned (.tuple #[.slice a n c, .int .i64 E]) ∧ L8.Slc w' (.slice a n c) L ∧ Ext W w') := fun W hW => hL ▸ rDays_a q ur ul uh a1 E W (hI.out.ext hW) (he0.out W hW) hE
  have q3 : Hid (∀ W : World, Ext w W → Calls Tryz.prog 10 #[.agg (pcells q ur ul uh), .int .i64 a1] W fun e w' => ∃ a n c, e = .returned (.tuple #[.slice a n c, .int .i64 E]) ∧ L8.Slc w' (.slice a n c) M ∧ Ext W w') := fun W hW => hM ▸ Parts_a q ur ul uh a1 E W (hI.out.ext hW) (he0.out W hW) hE
  have q4 : Hid (∀ W : World, Ext w W → Calls Tryz.prog 11 #[.agg (pcells q ur ul uh), .int .i64 a1] W fun e w' => ∃ a n c, e = .returned (.tuple #[.slice a n c, .int .i64 E]) ∧ L8.Slc w' (.slice a n c) M ∧ Ext W w') := fun W hW => hM ▸ rParts_a q ur ul uh a1 E W (hI.out.ext hW) (he0.out W hW) hE
  obtain ⟨hlL, hlM⟩ := hln
  clear hL hM hE hI
  replace hB := hB.out
  go_wp2_with (refine load27 hB rfl rfl rfl rfl ?_)
  refine Calls.mono (q1.out _ hx.out) ?_
  rintro e w1 ⟨a1_, n1, c1, rfl, s1, hy⟩
  replace s1 := show Hid _ from s1
  replace hB : Blk w1 b (pcells q ur ul uh) := hB.ext hy
  replace hx : Hid (Ext w w1) := hx.out.trans hy
  clear hy q1
  go_wp2_with (refine load27 hB rfl rfl rfl rfl ?_)
  refine Calls.mono (q2.out _ hx.out) ?_
  rintro e w2 ⟨a2_, n2, c2, rfl, s2, hy⟩
  replace s1 := show Hid _ from L8.Slc.ext s1.out hy
  replace s2 := show Hid _ from s2
  replace hB : Blk w2 b (pcells q ur ul uh) := hB.ext hy
  replace hx : Hid (Ext w w2) := hx.out.trans hy
  clear hy q2
  go_wp2_with (refine load27 hB rfl rfl rfl rfl ?_)
  refine Calls.mono (q3.out _ hx.out) ?_
  rintro e w3 ⟨a3_, n3, c3, rfl, s3, hy⟩
  replace s1 := show Hid _ from L8.Slc.ext s1.out hy
  replace s2 := show Hid _ from L8.Slc.ext s2.out hy
  replace s3 := show Hid _ from s3
  replace hB : Blk w3 b (pcells q ur ul uh) := hB.ext hy
  replace hx : Hid (Ext w w3) := hx.out.trans hy
  clear hy q3
  go_wp2_with (refine load27 hB rfl rfl rfl rfl ?_)
  refine Calls.mono (q4.out _ hx.out) ?_
  rintro e w4 ⟨a4_, n4, c4, rfl, s4, hy⟩
  replace s1 := show Hid _ from L8.Slc.ext s1.out hy
  replace s2 := show Hid _ from L8.Slc.ext s2.out hy
  replace s3 := show Hid _ from L8.Slc.ext s3.out hy
  replace s4 := show Hid _ from s4
  replace hB : Blk w4 b (pcells q ur ul uh) := hB.ext hy
  replace hx : Hid (Ext w w4) := hx.out.trans hy
  clear hy q4
  go_wp2_with fail
  refine Calls.mono (awake_w _ (he0.out _ hx.out)) ?_
  rintro e w5 ⟨rfl, hy⟩
  replace s1 := show Hid _ from L8.Slc.ext s1.out hy
  replace s2 := show Hid _ from L8.Slc.ext s2.out hy
  replace s3 := show Hid _ from L8.Slc.ext s3.out hy
  replace s4 := show Hid _ from L8.Slc.ext s4.out hy
  replace hx : Hid (Ext w w5) := hx.out.trans hy
  clear hy hB
  go_wp2_with fail
  refine Calls.mono (PlainI_y _ _ L _ hlL s1.out s2.out) ?_
  rintro e w6 ⟨rfl, hy⟩
  replace s3 := show Hid _ from L8.Slc.ext s3.out hy
  replace s4 := show Hid _ from L8.Slc.ext s4.out hy
  replace hx : Hid (Ext w w6) := hx.out.trans hy
  clear hy
  go_wp2_with fail
  refine Calls.mono (PlainP_y _ _ M _ hlM s3.out s4.out) ?_
  rintro e w7 ⟨rfl, hy⟩
  replace hx : Hid (Ext w w7) := hx.out.trans hy
  clear hy
  go_wp2
  go_ret
  exact ⟨rfl, hx.out⟩


set_option maxRecDepth 100000 in
theorem lifted (os : Os) (started : os.Started) (H : Type) (enc : TypeId × Value → H) :
    ReturnsInHanded {} Tryz.checked os 3 .any (fun w args => (Rows.duesTellSpec.pre enc Tryz.prog Tryz.f3 [] false w args ∧ laidMetH Tryz.prog laid w) ∧ sizedMet enc Tryz.prog Tryz.f3 (OpenSpec.ofChange Rows.duesTellSpec) false w args)
      (Rows.duesTellSpec.post enc Tryz.prog Tryz.f3 false true false false) := by
  refine wrap started (by kernel_rfl) Tryz.func3
    (ChangeSpec.witness_shaped (enc := enc) (C := Tryz.checked) (os := os) (X := fun w _ => laidMetH Tryz.prog laid w) false (World.laidAll Tryz.prog os laid) #[.agg #[.string ⟨#[]⟩, .int .i64 0, .int .i64 0, .int .i64 0, .int .i64 0, .int .i64 0, .int .i64 0, .int .i64 0, .slice none 0 0, .int .i64 0, .int .i64 0, .int .i64 0, .int .i64 0, .int .i64 0, .int .i64 0, .slice none 0 0, .int .i64 0, .int .i64 0, .slice none 0 0], .int .i64 0, .bool false] 8 (World.laidAll_os _ _ _)
      (World.shaped_of_ZipB (by kernel_rfl) (by kernel_rfl)) (by kernel_rfl) (by kernel_rfl) (by kernel_rfl)
      (by rw [MakeChecks.laidMetH_plain _ _ _ (by kernel_rfl)]; exact laidMet_laidAll _ (by kernel_rfl) (by kernel_rfl))) ?_
  intro W base args ds gs before hval0 hW hE
  have hval : ∀ (j : Nat) t v, Tryz.f3.params[j]? = some t → args[j]? = some v → Value.okWide Tryz.prog W .any base t v := hval0
  have hW' := hW
  obtain ⟨p, q, hA0, hV, rfl, _, _⟩ := hW
  have hA : DataW.TrodAll enc Tryz.prog W 0 (fun _ => true) true Tryz.f3.params.toList args.toList ds p := hA0
  rw [Tryz.params3] at hA hval
  obtain ⟨v0, vs0, d0, ds0, p0, q0, hargs, rfl, rfl, h0, r0⟩ := trodAll_cons hA
  obtain ⟨v1, vs1, d1, ds1, p1, q1, rfl, rfl, rfl, h1, r1⟩ := trodAll_cons r0
  obtain ⟨v2, vs2, d2, ds2, p2, q2, rfl, rfl, rfl, h2, r2⟩ := trodAll_cons r1
  obtain ⟨rfl, rfl, rfl⟩ := trodAll_nil r2
  obtain rfl : args = #[v0, v1, v2] := by cases args; simp_all
  obtain ⟨rfl, rfl⟩ := trodVars_none hV
  obtain ⟨nm_0, cn_0, rd_0, kd_0, ev_0, tm_0, gr_0, rt_0, vr_0, rs_0, pn_0, o0_0, o1_0, o2_0, o3_0, ov_0, vl_0, lt_0, cp_0, rl_0, vh_0, hd_0, rfl, hp0, sr0, sl0, sh0, t0⟩ := L8.open_prod (hval 0 27 v0 rfl rfl) h0
  obtain ⟨a1, rfl, rfl, rfl, w1⟩ := open_int Tryz.underlying3 (hval 1 3 v1 rfl rfl) h1
  obtain ⟨a2, rfl, rfl, rfl⟩ := open_bool Tryz.underlying4 (hval 2 4 v2 rfl rfl) h2
  clear hA0 hval0
  simp only [List.append_nil] at hW'
  refine (walk ⟨nm_0, cn_0, rd_0, kd_0, ev_0, tm_0, gr_0, rt_0, rs_0, pn_0, o0_0, o1_0, o2_0, o3_0, ov_0, lt_0, cp_0, rl_0, hd_0⟩ vr_0 vl_0 vh_0 hp0 a1 w1 a2 W hE sr0 sl0 sh0).mono fun e W' ⟨he, hb⟩ => ?_
  subst he
  exact ⟨_, rfl, _, _, _, [], _, [], hW', (trodAll_cons_mk (shut_bool Tryz.underlying4 _) trodAll_mk0), (trodAll_cons_mk (t0 _ hb) (trodAll_cons_mk (shut_int Tryz.underlying3 w1) (trodAll_cons_mk (shut_bool Tryz.underlying4 _) trodAll_mk0))), rfl, hb.below.frame _, fun h => by cases h⟩

theorem over : Rows.duesTellRow.holds Tryz.pinned (OpenSpec.ofChange Rows.duesTellSpec) :=
  OpenClaim.holds_of_wide 3 Tryz.f3 rfl rfl rfl rfl rfl rfl rfl ⟨rfl, rfl, rfl, rfl, rfl⟩ rfl rfl rfl rfl rfl (by kernel_rfl) Tryz.func3 (by kernel_rfl)
    (of_decide_eq_true (by kernel_rfl)) (by unfold Func.isWrapper; first | (rw [if_pos (by decide +kernel)]; kernel_rfl) | (rw [if_neg (by decide +kernel)]; exact ⟨rfl, rfl⟩))
    (fun os started H enc _ => lifted os started H enc)
end Go.Proofs.YtmlkccmkdgfalaaGreatDoor.duesTell
namespace Go.Proofs.YtmlkccmkdgfalaaGreatDoor
theorem duesTell_holds : Rows.DuesTellCardSaid :=
  Claim7.holds_tied_plain_at .later [] [.data] true (true, "6308e63093e86d742705c8980007bcd11867c6cc15910f94aeb96b6f6e5baddf") true duesTell.over (fun _ h => by cases h) (by kernel_rfl) (fun _ h => by cases h) duesTell_row_tie rfl ⟨rfl, rfl⟩ (by kernel_rfl) rfl
    (fun f fn hf hfn => by
      obtain rfl : f = 3 := Option.some.inj ((show Tryz.prog.funcNamed "quittance/quittancelaw11.DuesTell" = some 3 by kernel_rfl).symm.trans hf) |>.symm
      obtain rfl : fn = Tryz.f3 := (Option.some.inj (Tryz.func3.symm.trans hfn)).symm
      exact ⟨by kernel_rfl, fun j t ht => by
        rw [Tryz.params3] at ht
        have hm : t ∈ [27, 3, 4] := by simpa using Array.mem_of_getElem? ht
        have hall : ([27, 3, 4].all fun u => !Tryz.prog.wantsStandIn u) = true := by kernel_rfl
        exact (show Tryz.prog.wantsStandIn t = false by simpa using List.all_eq_true.1 hall t hm)⟩)
    (by kernel_rfl)
#print axioms duesTell_holds
end Go.Proofs.YtmlkccmkdgfalaaGreatDoor
