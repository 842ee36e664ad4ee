/- For every product, every amount and every int64, of the project's tree at the commit that COMMIT names, LevelLeast returns true and leaves its arguments as they were, with the listed variable laid as the program's text lays it. -/
import Derived.Test.YtafjmpaefikdcaaGreatDoorPf
import Derived.Test.YtafjmpaefikdcaaGreatDoorLw
import Derived.Test.YtafjmpaefikdcaaGreatDoorPly
namespace Go.Proofs.YtafjmpaefikdcaaGreatDoor.levelLeast
open Go.ChangeShapes Go.WideShapes Go.ChangeAt Go.RowKit Go.Lib
set_option linter.unusedVariables false

set_option maxRecDepth 100000 in
set_option maxHeartbeats 4000000 in

theorem walk (p0 : Prd) (vr0 vl0 vh0 : Value) (hp0 : L8.Fits p0.nm p0.rs p0.lt p0.hd) (a1 : Int) (w1 : (Lit.int .i64 a1).wf = true) (a2 : Int) (w2 : (Lit.int .i64 a2).wf = true) (w : World) (he : Evn w) (sr0 : L8.Slp w vr0 p0.rs) (sl0 : L8.Slp w vl0 p0.lt) (sh0 : L8.Slc w vh0 p0.hd) :
    Calls Tryz.prog 4 #[.agg (pcells p0 vr0 vl0 vh0), .int .i64 a1, .int .i64 a2] w fun e w' => e = .returned (.bool true) ∧ Ext w w' := by
  have m0 := hp0.nm; have m1 := hp0.rs; have m2 := hp0.lt; have m3 := hp0.hd
  unfold maxLen at m0 m1 m2 m3
  clear hp0
  have hone := pcells_slp sr0 sl0 sh0
  have hsz : (pcells p0 vr0 vl0 vh0).size = 19 := rfl
  obtain ⟨W0, b, hW0, hb, hx0, hB⟩ : ∃ W b, w.alloc (.cells (pcells p0 vr0 vl0 vh0) 27) = W ∧ w.heap.size = b ∧ Ext w W ∧ Blk W b (pcells p0 vr0 vl0 vh0) := ⟨_, _, rfl, rfl, (Ext.refl w).alloc _ _, heap_alloc_last w _⟩
  have hbx := box_prod p0 vr0 vl0 vh0 hone
  obtain ⟨R1, e1, l1, r1, f1, g1, _⟩ := rem_w a1 100000000000 (by decide) (by decide)
  obtain ⟨A, hA⟩ : ∃ A, 1 + R1 = A := ⟨_, rfl⟩
  rw [hA] at g1
  have A1 : 1 ≤ A := by omega
  have A2 : A ≤ 10000000000000 := by omega
  obtain ⟨R2, e2, l2, r2, f2⟩ := rem_s a2
  have hbz : w.heap.size ≤ b := by omega
  have he00 : Hid (L3.Env w) := he.env
  replace hx0 := show Hid _ from hx0
  have hsr := show Hid _ from sr0
  have hsl := show Hid _ from sl0
  have hsh := show Hid _ from sh0
  clear sr0 sl0 sh0 he
  go_enter Tryz.func4, Tryz.ntmps4
  go_wp2_with (refine load27 hB hsz rfl rfl rfl ?_)
  refine (Play_40 p0 vr0 vl0 vh0 w _ hx0.out (by omega) (by omega) (by omega) (by omega) hsr.out hsl.out hsh.out).mono ?_
  rintro e w2 ⟨hx2, q, ur, ul, uh, rfl, s1, s2, s3, n1, n2, k1, k2⟩
  have hqo := one_of s1 s2 s3
  have hB2 : Blk w2 b (pcells p0 vr0 vl0 vh0) := hB.ext hx2
  replace hx2 : Hid (Ext w w2) := hx0.out.trans hx2
  have hI : Hid (Inp w q ur ul uh) := Inp.of s1 s2 s3 n1 n2
  replace k1 := show Hid _ from k1
  clear hB hx0 s1 s2 s3 n1 n2 k2 hbx m0 m1 m2 m3 hsr hsl hsh hone
  go_wp2_with (refine store27 (cs := pcells q ur ul uh) hB2 rfl rfl hqo rfl rfl rfl rfl ?_)
  intro W3 hB3 hx3
  replace hx3 : Hid (Ext w W3) := hx3.ext hx2.out hbz
  clear hB2 hx2
  obtain ⟨E, hE⟩ := due_ex q 19723
  replace hE : Hid (Due q 19723 E) := hE
  go_wp2_with (refine load27 hB3 rfl rfl rfl rfl ?_)
  by_cases h0 : E = 0
  · subst h0
    refine (rParts_yes q ur ul uh 19723 0 _ (hI.out.ext hx3.out) (he00.out.ext hx3.out) hE.out rfl).mono ?_
    rintro e w4 ⟨⟨g, c, rfl, hr⟩, hy⟩
    have hO := parts_okl k1.out hE.out A1 A2
    have hs := arr_sl (c := c) hr
    obtain ⟨l, hl⟩ : ∃ l, fst (duT q) (paF q.cn 19723 (duF q 19723)) = l := ⟨_, rfl⟩
    rw [hl] at hO hs
    replace hO : Hid (Okl q.tm l A) := hO
    replace hs : Hid (L8.Slc w4 (.slice (some ⟨g, 0, none⟩) (duT q) c) l) := hs
    have hB4 := hB3.ext hy
    have hx4 : Hid (Ext w w4) := hx3.out.trans hy
    have hf : Hid (Fal (lvl q l A)) := lvl_fal k1.out hO.out
    have hAsk : Hid (askE q l A 0) := ask_of k1.out hO.out
    clear hy hB3 hx3 hr hl hE
    obtain ⟨u, F, h1, h2, h3⟩ := Of_ex q l A 0 hAsk.out
    have hOf : Hid (∀ W, Ext w4 W → Calls Tryz.prog 11 #[.agg (pcells q ur ul uh), .slice (some ⟨g, 0, none⟩) (duT q) c, .int .i64 A] W fun e w' => e = .returned (.tuple #[.int .i64 u, .int .i64 F]) ∧ Ext W w') := fun W hW => Of_a q ur ul uh _ l A 0 u F W (hI.out.ext (hx4.out.trans hW)) (hs.out.ext hW) hAsk.out h1 h2 h3
    clear h1
    by_cases k : 0 < lvl q l A 1000000000000000
    · obtain ⟨rfl, rfl⟩ := h2 rfl k
      clear h2 h3 k
      go_wp2_with (refine load27 hB4 rfl rfl rfl rfl ?_)
      refine Calls.mono (hOf.out _ (Ext.refl _)) ?_
      rintro e w5 ⟨rfl, hy⟩
      have hx : Hid (Ext w w5) := hx4.out.trans hy
      clear hy hOf hB4 hx4
      go_wp2_with fail
      refine (awake_w _).mono ?_
      rintro e w6 ⟨rfl, hy⟩
      replace hx : Hid (Ext w w6) := hx.out.trans hy
      clear hy
      go_wp2
      go_ret
      exact ⟨rfl, hx.out⟩
    · obtain ⟨hu, rfl⟩ := h3 rfl k
      clear h2 h3 k
      have u1 := hu.v1
      have u2 := hu.v2
      replace hu := show Hid _ from hu
      obtain ⟨X, hX⟩ : ∃ X, max 0 (min 1000000000000000 (u + R2)) = X := ⟨_, rfl⟩
      have x1 : 0 ≤ X := by omega
      have x2 : X ≤ 1000000000000000 := by omega
      replace hX := show Hid _ from hX
      go_wp2_with (refine load27 hB4 rfl rfl rfl rfl ?_)
      refine Calls.mono (hOf.out _ (Ext.refl _)) ?_
      rintro e w5 ⟨rfl, hy⟩
      replace hB4 := hB4.ext hy
      have hx : Hid (Ext w w5) := hx4.out.trans hy
      replace hs := show Hid _ from L8.Slc.ext hs.out hy
      clear hy hOf hx4
      go_upto_region 9 with fail
      go_cut [11] from 47 to 52 (fun x wx => x = .int .i64 X ∧ wx = w5)
      case first =>
        have hX' := hX.out
        go_wp2
        all_goals (go_meet; exact ⟨by first | (refine congrArg (Value.int .i64) ?_; omega) | rfl, rfl⟩)
      case rest =>
      obtain ⟨rfl, rfl⟩ := hcut
      obtain ⟨V, hV⟩ : ∃ V, lvl q l A X = V := ⟨_, rfl⟩
      have hiff := (hu.out.iff hf.out X x1 x2)
      rw [hV] at hiff
      have hL := Left_a q ur ul uh _ l A X 0 V 0 wc (hI.out.ext hx.out) hs.out hAsk.out (fun h => absurd rfl h) (fun _ h => absurd ⟨x1, x2⟩ h) (fun _ _ => ⟨hV.symm, rfl⟩)
      replace hL := show Hid _ from hL
      clear hu hX hs hO hAsk hV hf
      go_wp2_with (refine load27 hB4 rfl rfl rfl rfl ?_)
      refine Calls.mono hL.out ?_
      rintro e w6 ⟨rfl, hy⟩
      replace hx : Hid (Ext w w6) := hx.out.trans hy
      clear hy hL hB4
      go_wp2_with fail
      refine (awake_w _).mono ?_
      rintro e w7 ⟨rfl, hy⟩
      replace hx : Hid (Ext w w7) := hx.out.trans hy
      clear hy
      by_cases hv : V ≤ 0
      · have hux := hiff.1 hv
        clear hiff
        go_wp2
        go_ret
        exact ⟨rfl, hx.out⟩
      · have hux : ¬ u ≤ X := fun h => hv (hiff.2 h)
        have hvH := show Hid _ from hv
        have huH := show Hid _ from hux
        clear hiff
        go_wp2
        go_ret
        exact ⟨L8.ret_bool (by rw [decide_eq_false hvH.out, decide_eq_false huH.out]; rfl), hx.out⟩
  · refine (rParts_no q ur ul uh 19723 E _ (hI.out.ext hx3.out) (he00.out.ext hx3.out) hE.out h0).mono ?_
    rintro e w4 ⟨rfl, hy⟩
    have hx : Hid (Ext w w4) := hx3.out.trans hy
    have h0b : (E == 0) = false := by simp [h0]
    clear hy hB3 hx3 hE
    go_wp2_with fail
    refine (awake_w _).mono ?_
    rintro e w6 ⟨rfl, hy⟩
    replace hx : Hid (Ext w w6) := hx.out.trans hy
    clear hy
    go_wp2
    go_ret
    exact ⟨rfl, hx.out⟩

set_option maxRecDepth 100000 in
theorem lifted (os : Os) (started : os.Started) (H : Type) (enc : TypeId × Value → H) :
    ReturnsInHanded {} Tryz.checked os 4 .any (fun w args => (Rows.levelLeastSpec.pre enc Tryz.prog Tryz.f4 [] false w args ∧ laidMetH Tryz.prog laid w) ∧ sizedMet enc Tryz.prog Tryz.f4 (OpenSpec.ofChange Rows.levelLeastSpec) false w args)
      (Rows.levelLeastSpec.post enc Tryz.prog Tryz.f4 false true false false) := by
  refine wrap started (by kernel_rfl) Tryz.func4
    (ChangeSpec.witness_shaped (enc := enc) (C := Tryz.checked) (os := os) (X := fun w _ => laidMetH Tryz.prog laid w) false (World.laidAll Tryz.prog os laid) #[.agg #[.string ⟨#[]⟩, .int .i64 0, .int .i64 0, .int .i64 0, .int .i64 0, .int .i64 0, .int .i64 0, .int .i64 0, .slice none 0 0, .int .i64 0, .int .i64 0, .int .i64 0, .int .i64 0, .int .i64 0, .int .i64 0, .slice none 0 0, .int .i64 0, .int .i64 0, .slice none 0 0], .int .i64 0, .int .i64 0] 8 (World.laidAll_os _ _ _)
      (World.shaped_of_ZipB (by kernel_rfl) (by kernel_rfl)) (by kernel_rfl) (by kernel_rfl) (by kernel_rfl)
      (by rw [MakeChecks.laidMetH_plain _ _ _ (by kernel_rfl)]; exact laidMet_laidAll _ (by kernel_rfl) (by kernel_rfl))) ?_
  intro W base args ds gs before hval0 hW hE
  have hval : ∀ (j : Nat) t v, Tryz.f4.params[j]? = some t → args[j]? = some v → Value.okWide Tryz.prog W .any base t v := hval0
  have hW' := hW
  obtain ⟨p, q, hA0, hV, rfl, _, _⟩ := hW
  have hA : DataW.TrodAll enc Tryz.prog W 0 (fun _ => true) true Tryz.f4.params.toList args.toList ds p := hA0
  rw [Tryz.params4] at hA hval
  obtain ⟨v0, vs0, d0, ds0, p0, q0, hargs, rfl, rfl, h0, r0⟩ := trodAll_cons hA
  obtain ⟨v1, vs1, d1, ds1, p1, q1, rfl, rfl, rfl, h1, r1⟩ := trodAll_cons r0
  obtain ⟨v2, vs2, d2, ds2, p2, q2, rfl, rfl, rfl, h2, r2⟩ := trodAll_cons r1
  obtain ⟨rfl, rfl, rfl⟩ := trodAll_nil r2
  obtain rfl : args = #[v0, v1, v2] := by cases args; simp_all
  obtain ⟨rfl, rfl⟩ := trodVars_none hV
  obtain ⟨nm_0, cn_0, rd_0, kd_0, ev_0, tm_0, gr_0, rt_0, vr_0, rs_0, pn_0, o0_0, o1_0, o2_0, o3_0, ov_0, vl_0, lt_0, cp_0, rl_0, vh_0, hd_0, rfl, hp0, sr0, sl0, sh0, t0⟩ := L8.open_prod (hval 0 27 v0 rfl rfl) h0
  obtain ⟨a1, rfl, rfl, rfl, w1⟩ := open_int Tryz.underlying2 (hval 1 2 v1 rfl rfl) h1
  obtain ⟨a2, rfl, rfl, rfl, w2⟩ := open_int Tryz.underlying2 (hval 2 2 v2 rfl rfl) h2
  clear hA0 hval0
  simp only [List.append_nil] at hW'
  refine (walk ⟨nm_0, cn_0, rd_0, kd_0, ev_0, tm_0, gr_0, rt_0, rs_0, pn_0, o0_0, o1_0, o2_0, o3_0, ov_0, lt_0, cp_0, rl_0, hd_0⟩ vr_0 vl_0 vh_0 hp0 a1 w1 a2 w2 W hE sr0 sl0 sh0).mono fun e W' ⟨he, hb⟩ => ?_
  subst he
  exact ⟨_, rfl, _, _, _, [], _, [], hW', (trodAll_cons_mk (shut_bool Tryz.underlying4 _) trodAll_mk0), (trodAll_cons_mk (t0 _ hb) (trodAll_cons_mk (shut_int Tryz.underlying2 w1) (trodAll_cons_mk (shut_int Tryz.underlying2 w2) trodAll_mk0))), rfl, hb.below.frame _, fun h => by cases h⟩

theorem over : Rows.levelLeastRow.holds Tryz.pinned (OpenSpec.ofChange Rows.levelLeastSpec) :=
  OpenClaim.holds_of_wide 4 Tryz.f4 rfl rfl rfl rfl rfl rfl rfl ⟨rfl, rfl, rfl, rfl, rfl⟩ rfl rfl rfl rfl rfl (by kernel_rfl) Tryz.func4 (by kernel_rfl)
    (of_decide_eq_true (by kernel_rfl)) (by unfold Func.isWrapper; first | (rw [if_pos (by decide +kernel)]; kernel_rfl) | (rw [if_neg (by decide +kernel)]; exact ⟨rfl, rfl⟩))
    (fun os started H enc _ => lifted os started H enc)
end Go.Proofs.YtafjmpaefikdcaaGreatDoor.levelLeast
namespace Go.Proofs.YtafjmpaefikdcaaGreatDoor
theorem levelLeast_holds : Rows.LevelLeastCardSaid :=
  Claim7.holds_tied_plain_at .later [] [.data] true (true, "c543580e56454306eb4da1407b43ad38deb9efa0a72b2b654fb37b3034ccb81f") true levelLeast.over (fun _ h => by cases h) (by kernel_rfl) (fun _ h => by cases h) levelLeast_row_tie rfl ⟨rfl, rfl⟩ (by kernel_rfl) rfl
    (fun f fn hf hfn => by
      obtain rfl : f = 4 := Option.some.inj ((show Tryz.prog.funcNamed "quittance/quittancelaw13.LevelLeast" = some 4 by kernel_rfl).symm.trans hf) |>.symm
      obtain rfl : fn = Tryz.f4 := (Option.some.inj (Tryz.func4.symm.trans hfn)).symm
      exact ⟨by kernel_rfl, fun j t ht => by
        rw [Tryz.params4] at ht
        have hm : t ∈ [27, 2, 2] := by simpa using Array.mem_of_getElem? ht
        have hall : ([27, 2, 2].all fun u => !Tryz.prog.wantsStandIn u) = true := by kernel_rfl
        exact (show Tryz.prog.wantsStandIn t = false by simpa using List.all_eq_true.1 hall t hm)⟩)
    (by kernel_rfl)
#print axioms levelLeast_holds
end Go.Proofs.YtafjmpaefikdcaaGreatDoor
