/- For every product and every day, of the project's tree at the commit that COMMIT names, DuesSum returns true and leaves its arguments as they were, with the listed variable laid as the program's text lays it. -/
import Derived.Test.YtmlkccmkdgfalaaGreatDoorPf
import Derived.Test.YtmlkccmkdgfalaaGreatDoorDu8
namespace Go.Proofs.YtmlkccmkdgfalaaGreatDoor.duesSum
open Go.ChangeShapes Go.WideShapes Go.ChangeAt Go.RowKit Go.Lib
set_option linter.unusedVariables false

set_option maxRecDepth 100000 in
set_option maxHeartbeats 4000000 in

theorem walk (p0 : Prd) (vr0 vl0 vh0 : Value) (hp0 : L8.Fits p0.nm p0.rs p0.lt p0.hd) (a1 : Int) (w1 : (Lit.int .i64 a1).wf = true) (w : World) (he : Evn w) (sr0 : L8.Slp w vr0 p0.rs) (sl0 : L8.Slp w vl0 p0.lt) (sh0 : L8.Slc w vh0 p0.hd) :
    Calls Tryz.prog 4 #[.agg (pcells p0 vr0 vl0 vh0), .int .i64 a1] w fun e w' => e = .returned (.bool true) ∧ Ext w w' := by
  have m0 := hp0.nm; have m1 := hp0.rs; have m2 := hp0.lt; have m3 := hp0.hd
  unfold maxLen at m0 m1 m2 m3
  clear hp0
  have hone := pcells_slp sr0 sl0 sh0
  have hsz : (pcells p0 vr0 vl0 vh0).size = 19 := rfl
  obtain ⟨W0, b, hW0, hb, hx0, hB⟩ : ∃ W b, w.alloc (.cells (pcells p0 vr0 vl0 vh0) 27) = W ∧ w.heap.size = b ∧ Ext w W ∧ Blk W b (pcells p0 vr0 vl0 vh0) := ⟨_, _, rfl, rfl, (Ext.refl w).alloc _ _, heap_alloc_last w _⟩
  have hbx := box_prod p0 vr0 vl0 vh0 hone
  have y17 : W0.cell? ⟨b, 17, none⟩ = some (.int .i64 p0.rl) := (cell_of_row _ b 17 _ _ _ hB).trans rfl
  obtain ⟨R1, e1, l1, r4, f1, g1⟩ := rem_is p0.rl 4 (by decide) (by decide)
  obtain ⟨R2, e2, l2, r5, f2, g2⟩ := rem_is a1 10000 (by decide) (by decide)
  have hS : IntKind.i64.wrap (10000 + R2) = 10000 + R2 := by rw [IntKind.wrap_i64]; omega
  have hbz : w.heap.size ≤ b := by omega
  have he00 : Hid (L3.Env w) := he.env
  replace hx0 := show Hid _ from hx0
  have hsr := show Hid _ from sr0
  have hsl := show Hid _ from sl0
  have hsh := show Hid _ from sh0
  clear sr0 sl0 sh0 hone
  go_enter Tryz.func4, Tryz.ntmps4
  go_wp2_with (refine load27 hB hsz rfl rfl rfl ?_)
  refine (Play_40 p0 vr0 vl0 vh0 w _ hx0.out (by omega) (by omega) (by omega) (by omega) hsr.out hsl.out hsh.out).mono ?_
  rintro e w2 ⟨hx2, q, ur, ul, uh, rfl, s1, s2, s3, n1, n2, k1, k2⟩
  have hqo := one_of s1 s2 s3
  have hB2 : Blk w2 b (pcells p0 vr0 vl0 vh0) := hB.ext hx2
  replace hx2 : Hid (Ext w w2) := hx0.out.trans hx2
  have hI4 : Hid (Inp w { q with rl := 1 + R1, hd := [] } ur ul (.slice none 0 0)) := ⟨by show q.nm.length ≤ _; omega, by show q.rs.length ≤ _; omega, by show q.lt.length ≤ _; omega, by show 0 ≤ _; omega, s1, s2, L8.nilh w⟩
  have hok : Hid (okP { q with rl := 1 + R1, hd := [] } = true) := ok_roll k1 (by omega) (by omega)
  have hF : Hid (Far { q with rl := 1 + R1, hd := [] } (10000 + R2)) := far_of _ _ hok.out k2 rfl (by omega) (by omega)
  clear hB hx0 s1 s2 s3 n1 n2 k1 k2 hbx y17 m0 m1 m2 m3 hsr hsl hsh
  go_wp2_with (refine store27 (cs := pcells q ur ul uh) hB2 rfl rfl hqo rfl rfl rfl rfl ?_)
  intro W3 hB3 hx3
  replace hx3 : Hid (Ext w W3) := hx3.ext hx2.out hbz
  have c17 := (cell_of_row W3 b 17 _ _ _ hB3).trans (show _ = some (.int .i64 q.rl) from rfl)
  have c18 := (cell_of_row W3 b 18 _ _ _ hB3).trans (show _ = some uh from rfl)
  have z17 := frozen_of_row W3 b 17 _ _ hB3
  have z18 := frozen_of_row W3 b 18 _ _ hB3
  have hB4 : Blk ((W3.setCell ⟨b, 17, none⟩ (.int .i64 (1 + R1))).setCell ⟨b, 18, none⟩ (.slice none 0 0)) b (pcells { q with rl := 1 + R1, hd := [] } ur ul (.slice none 0 0)) := L8.Blk.set (L8.Blk.set hB3 17 _) 18 _
  have hx4 : Hid (Ext w ((W3.setCell ⟨b, 17, none⟩ (.int .i64 (1 + R1))).setCell ⟨b, 18, none⟩ (.slice none 0 0))) := (hx3.out.setCell hbz _).setCell hbz _
  obtain ⟨W4, hW4⟩ : ∃ W, (W3.setCell ⟨b, 17, none⟩ (.int .i64 (1 + R1))).setCell ⟨b, 18, none⟩ (.slice none 0 0) = W := ⟨_, rfl⟩
  rw [hW4] at hB4 hx4
  obtain ⟨S, hSS⟩ : ∃ S, 10000 + R2 = S := ⟨_, rfl⟩
  rw [hSS] at hS hF
  have hS1 : 10000 ≤ S := by omega
  have hS2 : S ≤ 19999 := by omega
  obtain ⟨rl, hrl⟩ : ∃ x, 1 + R1 = x := ⟨_, rfl⟩
  obtain ⟨Q, hQ⟩ : ∃ Q : Prd, { q with rl := 1 + R1, hd := [] } = Q := ⟨_, rfl⟩
  have hQr : Hid (Q.rl = rl) := by show _ = _; rw [← hQ, ← hrl]
  rw [hQ] at hB4 hI4 hok hF
  have he0 : Hid (∀ W : World, Ext w W → L3.Env W) := fun W hW => he00.out.ext hW
  have q1 : Hid (∀ W : World, Ext w W → Calls Tryz.prog 8 #[.agg (pcells Q ur ul (.slice none 0 0)), .int .i64 S] W fun e w' => ∃ g, e = .returned (.tuple #[.slice (some ⟨g, 0, none⟩) (duT Q) (duT Q), .int .i64 0]) ∧ L4.Arr w' g (duT Q) (duF Q S) ∧ Ext W w') := fun W hW => Days_yes Q ur ul _ S 0 W (hI4.out.ext hW) (he0.out W hW) hF.out.due rfl
  have q2 : Hid (∀ W : World, Ext w W → Calls Tryz.prog 10 #[.agg (pcells Q ur ul (.slice none 0 0)), .int .i64 S] W fun e w' => ∃ g, e = .returned (.tuple #[.slice (some ⟨g, 0, none⟩) (duT Q) (duT Q), .int .i64 0]) ∧ L4.Arr w' g (duT Q) (paF Q.cn S (duF Q S)) ∧ Ext W w') := fun W hW => Parts_yes Q ur ul _ S 0 W (hI4.out.ext hW) (he0.out W hW) hF.out.due rfl
  obtain ⟨t0, t1, t2⟩ := tm_T hok.out
  obtain ⟨T, hT⟩ : ∃ T, duT Q = T := ⟨_, rfl⟩
  rw [hT] at t0 t1 t2 q1 q2
  have hcn := (okf hok.out).cn
  have hfar : Hid (∀ k, k < T → pv S (duF Q S) k + 24 ≤ duF Q S k) := by have := hF.out.far; rw [hT] at this; exact this
  have hop : Hid (rl ≠ 1 → ∀ k, k < T → L5.opn [] (duF Q S k) = true) := by have := hF.out.opn; rw [hT, hQr.out] at this; exact this
  have hlo : Hid (∀ k, k < T → -25567 ≤ duF Q S k ∧ duF Q S k ≤ 84370) := by have := hF.out.lo; rw [hT] at this; exact this
  have hpos : Hid (∀ k, k < T → 0 < paF Q.cn S (duF Q S) k) := by have := hF.out.pos; rw [hT] at this; exact this
  have hsu : Hid (∀ k, k ≤ T → -800000000 ≤ suP Q.cn S (duF Q S) k ∧ suP Q.cn S (duF Q S) k ≤ 800000000) := by have := suP_bd hF.out hS1 hS2; rw [hT] at this; exact this
  have hst : Hid (∀ k, k < T → S < duF Q S k) := by have := far_s hF.out; rw [hT] at this; exact this
  obtain ⟨cn, hCn⟩ : ∃ x, Q.cn = x := ⟨_, rfl⟩
  obtain ⟨F, hFF⟩ : ∃ F, duF Q S = F := ⟨_, rfl⟩
  rw [hCn] at hcn hpos hsu q2
  rw [hFF] at q1 q2 hfar hop hlo hpos hsu hst
  obtain ⟨G, hG⟩ : ∃ G, paF cn S F = G := ⟨_, rfl⟩
  rw [hG] at q2 hpos
  replace hG := show Hid _ from hG
  replace hcn := show Hid _ from hcn
  have hc1 : (pcells Q ur ul (.slice none 0 0))[1]? = some (.int .i64 cn) := by rw [← hCn]; rfl
  have hc5 : (pcells Q ur ul (.slice none 0 0))[5]? = some (.int .i64 ((T : Nat) : Int)) := by rw [← t0]; rfl
  have hc17 : (pcells Q ur ul (.slice none 0 0))[17]? = some (.int .i64 rl) := by rw [← hQr.out]; rfl
  have hcs : (pcells Q ur ul (.slice none 0 0)).size = 19 := rfl
  have hrl2 : 1 ≤ rl ∧ rl ≤ 4 := by omega
  obtain ⟨C, hC⟩ : ∃ C, pcells Q ur ul (.slice none 0 0) = C := ⟨_, rfl⟩
  rw [hC] at hB4 q1 q2 hc1 hc5 hc17 hcs
  replace hc1 := show Hid _ from hc1
  replace hc5 := show Hid _ from hc5
  replace hc17 := show Hid _ from hc17
  clear hB2 hx2 hB3 hF hI4 hok hqo hT t0 hCn hFF hQ hC hQr
  replace hcs := show Hid _ from hcs
  rw [hrl] at hW4 g1
  go_wp2_with (refine load27 hB4 hcs.out rfl rfl rfl ?_)
  refine Calls.mono (q1.out _ hx4.out) ?_
  rintro e w5 ⟨ga, rfl, ra, hy⟩
  have hx : Hid (Ext w w5) := hx4.out.trans hy
  have hB5 : Blk w5 b C := hB4.ext hy
  replace ra := show Hid _ from ra
  clear hy q1 hB4 hx4 hx3 c17 c18 z17 z18 hW4
  go_wp2_with (refine load27 hB5 hcs.out rfl rfl rfl ?_)
  refine Calls.mono (q2.out _ hx.out) ?_
  rintro e w6 ⟨gx, rfl, rx, hy⟩
  replace hx : Hid (Ext w w6) := hx.out.trans hy
  replace hB5 : Hid (Blk w6 b C) := hB5.ext hy
  replace ra := show Hid _ from ra.out.ext hy
  replace rx := show Hid _ from rx
  clear hy q2
  go_wp2_with fail
  refine Calls.mono (awake_w _ (he0.out _ hx.out)) ?_
  rintro e w7 ⟨rfl, hy⟩
  replace hx : Hid (Ext w w7) := hx.out.trans hy
  replace hB5 : Hid (Blk w7 b C) := hB5.out.ext hy
  replace ra := show Hid _ from ra.out.ext hy
  replace rx := show Hid _ from rx.out.ext hy
  have c5 := (cell_of_row w7 b 5 _ _ _ hB5.out).trans hc5.out
  clear hy
  go_wp2_with fail
  go_loopw [10, 11] (fun u i wr => ∃ k : Nat, k ≤ T ∧ i = .int .i64 k ∧ (∃ Sk : Int, u = .int .i64 Sk ∧ Hid (suP cn S F k = Sk)) ∧ Hid (Ext w7 wr)) (fun _ i _ => T - (RowKit.intOf i).toNat)
  case atStart => exact ⟨0, Nat.zero_le _, rfl, ⟨0, rfl, rfl⟩, Ext.refl _⟩
  case round =>
    obtain ⟨k, hk, rfl, ⟨Sk, rfl, hSk⟩, hxr⟩ := hrel
    have hBr := hB5.out.ext hxr.out
    have d5 := (cell_of_row wr b 5 _ _ _ hBr).trans hc5.out
    have d1 := (cell_of_row wr b 1 _ _ _ hBr).trans hc1.out
    have d17 := (cell_of_row wr b 17 _ _ _ hBr).trans hc17.out
    clear c5
    by_cases hlt : k < T
    · have b0 := hsu.out k hk
      have b1 := hsu.out (k + 1) hlt
      have hs1 : suP cn S F (k + 1) = Sk + G k := by show suP cn S F k + paF cn S F k = _; rw [hSk.out, ← hG.out]
      have hs2 : suP cn S F k = Sk := hSk.out
      rw [hs1] at b1
      rw [hs2] at b0
      have xk := hxr.out.cell_of (rx.out.cell k hlt)
      have ak := hxr.out.cell_of (ra.out.cell k hlt)
      have p1 := hpos.out k hlt
      have p2 := hst.out k hlt
      have p3 := hfar.out k hlt
      have p4 := hlo.out k hlt
      have p5 : rl ≠ 1 → L5.opn [] (F k) = true := fun h => hop.out h k hlt
      obtain ⟨V, hV⟩ : ∃ V, G k = V := ⟨_, rfl⟩
      obtain ⟨X, hX⟩ : ∃ X, F k = X := ⟨_, rfl⟩
      rw [hV] at xk p1 b1 hs1
      rw [hX] at ak p2 p3 p4 p5
      replace hs1 := show Hid _ from hs1
      obtain ⟨p41, p42⟩ := p4
      obtain ⟨b00, b01⟩ := b0
      obtain ⟨b10, b11⟩ := b1
      have hXI : L3.I64 X := by unfold L3.I64; omega
      have n1 : decide (X ≤ S) = false := decide_eq_false (by omega)
      have n2 : decide (V ≤ 0) = false := decide_eq_false (by omega)
      have j0 := Late.cell xk; have j1 := Late.cell ak; have j2 := Late.cell d17
      have hNe1 : Nonempty (Late wr) := ⟨⟨_, Ext.refl _⟩⟩
      clear hs2 hSk hV
      cases k with
      | zero =>
        by_cases hr1 : rl = 1
        · subst hr1
          go_wp2_with fail
          refine wp_region_late (by kernel_rfl) (by kernel_rfl) ?_
          repeat (go_big_quiet_step (fail))
          refine wpQuiet_nil ?_
          intro W3 hw'
          have hx3 : Ext wr W3 := late_ext hw'
          replace hxr : Hid (Ext w7 W3) := hxr.out.trans hx3
          clear hw' hx3
          go_wp2
          go_roundw
          case rel => exact ⟨_, hlt, by go_num, ⟨_, rfl, hs1⟩, hxr⟩
          case measure => simp [RowKit.intOf]; omega
        · replace p5 := show Hid _ from p5 hr1
          have n4 : (rl != 1) = true := by simpa using hr1
          have hO : Hid (∀ W : World, Calls Tryz.prog 14 #[.slice none 0 0, .int .i64 X] W fun e w' => e = .returned (.bool true) ∧ w' = W) := fun W => by
            have h0 := L5.rOpen_c (.slice none 0 0) [] X W hXI (by simp) (slc58 (L8.nilh W))
            rw [p5.out] at h0
            exact h0
          go_wp2_with fail
          refine wp_region_late (by kernel_rfl) (by kernel_rfl) ?_
          repeat (go_big_quiet_step ((go_at_call 14; exact late_same (hO.out _))))
          refine wpQuiet_nil ?_
          intro W3 hw'
          have hx3 : Ext wr W3 := late_ext hw'
          replace hxr : Hid (Ext w7 W3) := hxr.out.trans hx3
          clear hw' hx3
          go_wp2
          go_roundw
          case rel => exact ⟨_, hlt, by go_num, ⟨_, rfl, hs1⟩, hxr⟩
          case measure => simp [RowKit.intOf]; omega
      | succ m =>
        have am := hxr.out.cell_of (ra.out.cell m (by omega))
        obtain ⟨Y, hY⟩ : ∃ Y, F m = Y := ⟨_, rfl⟩
        change F m + 24 ≤ X at p3
        rw [hY] at am p3
        have n3 : decide (X ≤ Y) = false := decide_eq_false (by omega)
        have j3 := Late.cell am
        clear hY
        have hm1 : ((m + 1 : Nat) : Int) - 1 = (m : Int) := by omega
        by_cases hr1 : rl = 1
        · subst hr1
          go_wp2_with fail
          refine wp_region_late (by kernel_rfl) (by kernel_rfl) ?_
          repeat (go_big_quiet_step (fail))
          refine wpQuiet_nil ?_
          intro W3 hw'
          have hx3 : Ext wr W3 := late_ext hw'
          replace hxr : Hid (Ext w7 W3) := hxr.out.trans hx3
          clear hw' hx3
          go_wp2
          go_roundw
          case rel => exact ⟨_, hlt, by go_num, ⟨_, rfl, hs1⟩, hxr⟩
          case measure => simp [RowKit.intOf]; omega
        · replace p5 := show Hid _ from p5 hr1
          have n4 : (rl != 1) = true := by simpa using hr1
          have hO : Hid (∀ W : World, Calls Tryz.prog 14 #[.slice none 0 0, .int .i64 X] W fun e w' => e = .returned (.bool true) ∧ w' = W) := fun W => by
            have h0 := L5.rOpen_c (.slice none 0 0) [] X W hXI (by simp) (slc58 (L8.nilh W))
            rw [p5.out] at h0
            exact h0
          go_wp2_with fail
          refine wp_region_late (by kernel_rfl) (by kernel_rfl) ?_
          repeat (go_big_quiet_step ((go_at_call 14; exact late_same (hO.out _))))
          refine wpQuiet_nil ?_
          intro W3 hw'
          have hx3 : Ext wr W3 := late_ext hw'
          replace hxr : Hid (Ext w7 W3) := hxr.out.trans hx3
          clear hw' hx3
          go_wp2
          go_roundw
          case rel => exact ⟨_, hlt, by go_num, ⟨_, rfl, hs1⟩, hxr⟩
          case measure => simp [RowKit.intOf]; omega
    · obtain rfl : k = T := by omega
      obtain ⟨m, rfl⟩ : ∃ m, k = m + 1 := ⟨k - 1, by omega⟩
      have am := hxr.out.cell_of (ra.out.cell m (by omega))
      have p4 := hlo.out m (by omega)
      have heq : suP cn S F (m + 1) = L6.plc cn (F m) - L6.plc cn S := suP_eq cn S F (m + 1)
      have hS0 : suP cn S F (m + 1) = Sk := hSk.out
      obtain ⟨X, hX⟩ : ∃ X, F m = X := ⟨_, rfl⟩
      rw [hX] at am p4 heq
      have hbt := L6.bt_ok (c := cn) (f := S) (t := X) hcn.out.1 hcn.out.2 (inD_of (by omega) (by omega)) (inD_of p4.1 p4.2)
      have hBB : Hid (∀ W : World, Calls Tryz.prog 15 #[.int .i64 cn, .int .i64 S, .int .i64 X] W fun e w' => e = .returned (.tuple #[.int .i64 Sk, .int .i64 0]) ∧ Ext W w') := fun W => by
        have h0 := L6.rBetween_c cn S X W
        rw [hbt.1, hbt.2, ← heq, hS0] at h0
        exact h0
      have hm1 : ((m + 1 : Nat) : Int) - 1 = (m : Int) := by omega
      clear heq hS0 hbt p4 hX hSk
      have j0 := Late.cell am; have j1 := Late.cell d1; have j2 := Late.cell d5
      have hNe1 : Nonempty (Late wr) := ⟨⟨_, Ext.refl _⟩⟩
      go_wp2_with fail
      refine wp_region_late (by kernel_rfl) (by kernel_rfl) ?_
      repeat (go_big_quiet_step ((go_at_call 15; exact late_of (hBB.out _))))
      refine wpQuiet_nil ?_
      intro W3 hw'
      have hx3 : Ext wr W3 := late_ext hw'
      replace hx : Hid (Ext w W3) := (hx.out.trans hxr.out).trans hx3
      clear hw' hx3
      go_wp2
      go_ret
      exact ⟨rfl, hx.out⟩

set_option maxRecDepth 100000 in
theorem lifted (os : Os) (started : os.Started) (H : Type) (enc : TypeId × Value → H) :
    ReturnsInHanded {} Tryz.checked os 4 .any (fun w args => (Rows.duesSumSpec.pre enc Tryz.prog Tryz.f4 [] false w args ∧ laidMetH Tryz.prog laid w) ∧ sizedMet enc Tryz.prog Tryz.f4 (OpenSpec.ofChange Rows.duesSumSpec) false w args)
      (Rows.duesSumSpec.post enc Tryz.prog Tryz.f4 false true false false) := by
  refine wrap started (by kernel_rfl) Tryz.func4
    (ChangeSpec.witness_shaped (enc := enc) (C := Tryz.checked) (os := os) (X := fun w _ => laidMetH Tryz.prog laid w) false (World.laidAll Tryz.prog os laid) #[.agg #[.string ⟨#[]⟩, .int .i64 0, .int .i64 0, .int .i64 0, .int .i64 0, .int .i64 0, .int .i64 0, .int .i64 0, .slice none 0 0, .int .i64 0, .int .i64 0, .int .i64 0, .int .i64 0, .int .i64 0, .int .i64 0, .slice none 0 0, .int .i64 0, .int .i64 0, .slice none 0 0], .int .i64 0] 8 (World.laidAll_os _ _ _)
      (World.shaped_of_ZipB (by kernel_rfl) (by kernel_rfl)) (by kernel_rfl) (by kernel_rfl) (by kernel_rfl)
      (by rw [MakeChecks.laidMetH_plain _ _ _ (by kernel_rfl)]; exact laidMet_laidAll _ (by kernel_rfl) (by kernel_rfl))) ?_
  intro W base args ds gs before hval0 hW hE
  have hval : ∀ (j : Nat) t v, Tryz.f4.params[j]? = some t → args[j]? = some v → Value.okWide Tryz.prog W .any base t v := hval0
  have hW' := hW
  obtain ⟨p, q, hA0, hV, rfl, _, _⟩ := hW
  have hA : DataW.TrodAll enc Tryz.prog W 0 (fun _ => true) true Tryz.f4.params.toList args.toList ds p := hA0
  rw [Tryz.params4] at hA hval
  obtain ⟨v0, vs0, d0, ds0, p0, q0, hargs, rfl, rfl, h0, r0⟩ := trodAll_cons hA
  obtain ⟨v1, vs1, d1, ds1, p1, q1, rfl, rfl, rfl, h1, r1⟩ := trodAll_cons r0
  obtain ⟨rfl, rfl, rfl⟩ := trodAll_nil r1
  obtain rfl : args = #[v0, v1] := by cases args; simp_all
  obtain ⟨rfl, rfl⟩ := trodVars_none hV
  obtain ⟨nm_0, cn_0, rd_0, kd_0, ev_0, tm_0, gr_0, rt_0, vr_0, rs_0, pn_0, o0_0, o1_0, o2_0, o3_0, ov_0, vl_0, lt_0, cp_0, rl_0, vh_0, hd_0, rfl, hp0, sr0, sl0, sh0, t0⟩ := L8.open_prod (hval 0 27 v0 rfl rfl) h0
  obtain ⟨a1, rfl, rfl, rfl, w1⟩ := open_int Tryz.underlying3 (hval 1 3 v1 rfl rfl) h1
  clear hA0 hval0
  simp only [List.append_nil] at hW'
  refine (walk ⟨nm_0, cn_0, rd_0, kd_0, ev_0, tm_0, gr_0, rt_0, rs_0, pn_0, o0_0, o1_0, o2_0, o3_0, ov_0, lt_0, cp_0, rl_0, hd_0⟩ vr_0 vl_0 vh_0 hp0 a1 w1 W hE sr0 sl0 sh0).mono fun e W' ⟨he, hb⟩ => ?_
  subst he
  exact ⟨_, rfl, _, _, _, [], _, [], hW', (trodAll_cons_mk (shut_bool Tryz.underlying4 _) trodAll_mk0), (trodAll_cons_mk (t0 _ hb) (trodAll_cons_mk (shut_int Tryz.underlying3 w1) trodAll_mk0)), rfl, hb.below.frame _, fun h => by cases h⟩

theorem over : Rows.duesSumRow.holds Tryz.pinned (OpenSpec.ofChange Rows.duesSumSpec) :=
  OpenClaim.holds_of_wide 4 Tryz.f4 rfl rfl rfl rfl rfl rfl rfl ⟨rfl, rfl, rfl, rfl, rfl⟩ rfl rfl rfl rfl rfl (by kernel_rfl) Tryz.func4 (by kernel_rfl)
    (of_decide_eq_true (by kernel_rfl)) (by unfold Func.isWrapper; first | (rw [if_pos (by decide +kernel)]; kernel_rfl) | (rw [if_neg (by decide +kernel)]; exact ⟨rfl, rfl⟩))
    (fun os started H enc _ => lifted os started H enc)
end Go.Proofs.YtmlkccmkdgfalaaGreatDoor.duesSum
namespace Go.Proofs.YtmlkccmkdgfalaaGreatDoor
theorem duesSum_holds : Rows.DuesSumCardSaid :=
  Claim7.holds_tied_plain_at .later [] [.data] true (true, "6308e63093e86d742705c8980007bcd11867c6cc15910f94aeb96b6f6e5baddf") true duesSum.over (fun _ h => by cases h) (by kernel_rfl) (fun _ h => by cases h) duesSum_row_tie rfl ⟨rfl, rfl⟩ (by kernel_rfl) rfl
    (fun f fn hf hfn => by
      obtain rfl : f = 4 := Option.some.inj ((show Tryz.prog.funcNamed "quittance/quittancelaw11.DuesSum" = some 4 by kernel_rfl).symm.trans hf) |>.symm
      obtain rfl : fn = Tryz.f4 := (Option.some.inj (Tryz.func4.symm.trans hfn)).symm
      exact ⟨by kernel_rfl, fun j t ht => by
        rw [Tryz.params4] at ht
        have hm : t ∈ [27, 3] := by simpa using Array.mem_of_getElem? ht
        have hall : ([27, 3].all fun u => !Tryz.prog.wantsStandIn u) = true := by kernel_rfl
        exact (show Tryz.prog.wantsStandIn t = false by simpa using List.all_eq_true.1 hall t hm)⟩)
    (by kernel_rfl)
#print axioms duesSum_holds
end Go.Proofs.YtmlkccmkdgfalaaGreatDoor
