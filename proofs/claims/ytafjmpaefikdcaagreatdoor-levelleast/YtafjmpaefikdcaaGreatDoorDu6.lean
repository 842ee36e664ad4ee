
/- The document's own Parts of layer 11, as a contract: no statement of the seat is proved here. -/
import Derived.Test.YtafjmpaefikdcaaGreatDoorDu5
namespace Go.Proofs.YtafjmpaefikdcaaGreatDoor
open Go.RowKit
open L3 (Env)
open L4 (Arr upTo info_int ints ints_succ own_ext own_lo)
set_option linter.unusedVariables false

set_option maxRecDepth 100000 in
set_option maxHeartbeats 1000000 in
theorem rParts_no (p : Prd) (vr vl vh : Value) (s E : Int) (w : World) (hi : Inp w p vr vl vh) (he : Hid (Env w)) (hE : Due p s E) (h0 : E ≠ 0) :
    Calls Tryz.prog 14 #[.agg (pcells p vr vl vh), .int .i64 s] w fun e w' => e = .returned (.tuple #[.slice none 0 0, .int .i64 E]) ∧ Ext w w' := by
  have hone := hi.one
  have hbox := box_prod p vr vl vh hone
  obtain ⟨W1, b, hW1, hb, hx1, hB1⟩ : ∃ W b, w.alloc (.cells (pcells p vr vl vh) 27) = W ∧ w.heap.size = b ∧ Ext w W ∧ Blk W b (pcells p vr vl vh) := ⟨_, _, rfl, rfl, (Ext.refl w).alloc _ _, heap_alloc_last w _⟩
  have hsz : (pcells p vr vl vh).size = 19 := rfl
  replace hi : Hid (Inp W1 p vr vl vh) := hi.ext hx1
  replace he : Hid (Env W1) := he.out.ext hx1
  replace hx1 := show Hid _ from hx1
  replace hE := show Hid _ from hE
  have h0b : (E == 0) = false := by simpa using h0
  go_enter Tryz.func14, Tryz.ntmps14
  go_wp2_with (refine load27 hB1 hsz rfl rfl rfl ?_)
  refine (rDays_no p vr vl vh s E _ hi.out he hE.out h0).mono ?_
  rintro e w2 ⟨rfl, hx2⟩
  have hx : Hid (Ext w w2) := hx1.out.trans hx2
  clear hx2 hx1 hB1 hW1 hb hbox hone hsz
  go_wp2
  go_ret2
  exact ⟨rfl, hx.out⟩
set_option maxRecDepth 100000 in
set_option maxHeartbeats 1000000 in
theorem rParts_yes (p : Prd) (vr vl vh : Value) (s E : Int) (w : World) (hi : Inp w p vr vl vh) (he : Hid (Env w)) (hE : Due p s E) (h0 : E = 0) :
    Calls Tryz.prog 14 #[.agg (pcells p vr vl vh), .int .i64 s] w fun e w' => (∃ g c, e = .returned (.tuple #[.slice (some ⟨g, 0, none⟩) (duT p) c, .int .i64 0]) ∧ Arr w' g (duT p) (paF p.cn s (duF p s))) ∧ Ext w w' := by
  have hone := hi.one
  have hbox := box_prod p vr vl vh hone
  obtain ⟨W1, b, hW1, hb, hx1, hB1⟩ : ∃ W b, w.alloc (.cells (pcells p vr vl vh) 27) = W ∧ w.heap.size = b ∧ Ext w W ∧ Blk W b (pcells p vr vl vh) := ⟨_, _, rfl, rfl, (Ext.refl w).alloc _ _, heap_alloc_last w _⟩
  have hsz : (pcells p vr vl vh).size = 19 := rfl
  replace hi : Hid (Inp W1 p vr vl vh) := hi.ext hx1
  replace he : Hid (Env W1) := he.out.ext hx1
  replace hx1 := show Hid _ from hx1
  replace hE := show Hid _ from hE
  go_enter Tryz.func14, Tryz.ntmps14
  go_wp2_with (refine load27 hB1 hsz rfl rfl rfl ?_)
  subst h0
  refine (rDays_yes p vr vl vh s _ hi.out he hE.out).mono ?_
  rintro e w4 ⟨⟨g, gc, rfl, hr⟩, hx2⟩
  obtain ⟨hok, hdin⟩ : okP p = true ∧ ∀ j, j < duT p → -25567 ≤ duF p s j ∧ duF p s j ≤ 84370 := by
    cases hE.out with
    | ok h k1 k2 k3 => exact ⟨h, fun j hj => rlA_in _ _ _ (k2 j hj)⟩
  have hsin : -25567 ≤ s ∧ s ≤ 84370 := by
    cases hE.out with
    | ok h k1 k2 k3 => exact ⟨k1.n1, k1.n2⟩
  have hcn := (okf hok).cn
  obtain ⟨t0, t1, t2⟩ := tm_T hok
  obtain ⟨T, hT⟩ : ∃ T, duT p = T := ⟨_, rfl⟩
  rw [hT] at t1 t2 hdin hr
  replace hT := show Hid _ from hT
  rw [hT.out]
  have hB : Hid (Blk w4 b (pcells p vr vl vh)) := hB1.ext hx2
  have hx : Hid (Ext w w4) := hx1.out.trans hx2
  obtain ⟨F, hF⟩ : ∃ F, duF p s = F := ⟨_, rfl⟩
  rw [hF] at hr hdin
  replace hF := show Hid _ from hF
  replace hok := show Hid _ from hok
  have hA : Hid (∀ (k : Nat), k < T → ∀ w : World, Calls Tryz.prog 29 #[.int .i64 p.cn, .int .i64 (pv s F k), .int .i64 (F k)] w fun e w' => e = .returned (.tuple #[.int .i64 (paF p.cn s F k), .int .i64 0]) ∧ Ext w w') := fun k hk w => by
    have hp : -25567 ≤ pv s F k ∧ pv s F k ≤ 84370 := by
      cases k with
      | zero => exact hsin
      | succ k => exact hdin k (by omega)
    have h := L6.bt_ok (f := pv s F k) (t := F k) hcn.1 hcn.2 (L6.inD_t hp.1 hp.2) (L6.inD_t (hdin k hk).1 (hdin k hk).2)
    have := L6.rBetween_c p.cn (pv s F k) (F k) w
    rwa [h.1, h.2] at this
  replace hdin := show Hid _ from hdin
  replace hsin := show Hid _ from hsin
  replace hcn := show Hid _ from hcn
  replace t0 := show Hid _ from t0
  replace hr := show Hid _ from hr
  clear hx2 hx1 hB1 hW1 hb hbox hone hsz he hi
  obtain ⟨i0, hi0, hz0, hz1, hz2⟩ := info_parts info_i64
  obtain ⟨G, hG⟩ : ∃ G, paF p.cn s F = G := ⟨_, rfl⟩
  rw [hG] at hA
  replace hG := show Hid _ from hG
  go_wp2_with fail
  go_loopw [8, 9, 10] (fun v u i wr => ∃ k : Nat, k ≤ T ∧ i = .int .i64 k ∧ u = .int .i64 (pv s F k) ∧ Hid (wr.ownsRow w4.heap.size 2 1 v k (ints G k)) ∧ Hid (Ext w4 wr)) (fun _ _ i _ => T - (intOf i).toNat)
  case atStart => exact ⟨0, Nat.zero_le _, rfl, rfl, World.ownsRow_nil _ _ _ _, Ext.refl w4⟩
  case round =>
    obtain ⟨k, hk, rfl, rfl, hq, hxr⟩ := hrel
    have hBr : Blk wr b (pcells p vr vl vh) := hB.out.ext hxr.out
    have k1 := (cell_of_row wr b 1 _ _ _ hBr).trans (show _ = some (.int .i64 p.cn) from rfl)
    by_cases hlt : k < T
    · have k0 := hxr.out.cell_of (hr.out.cell k hlt)
      have hA1 := hA.out k hlt
      obtain ⟨X, hX⟩ : ∃ X, F k = X := ⟨_, rfl⟩
      obtain ⟨Y, hY⟩ : ∃ Y, pv s F k = Y := ⟨_, rfl⟩
      obtain ⟨V, hV⟩ : ∃ V, G k = V := ⟨_, rfl⟩
      rw [hX] at k0
      rw [hX, hY, hV] at hA1
      rw [hY]
      have hX' : Hid (pv s F (k + 1) = X) := hX
      replace hA1 := show Hid _ from hA1
      replace hV := show Hid _ from hV
      clear hX hY hBr
      have hkT : (k : Int) < (T : Int) := by omega
      have j0 := Late.cell k0; have j1 := Late.cell k1
      have hNe1 : Nonempty (Late wr) := ⟨⟨_, Ext.refl _⟩⟩
      go_wp2_with fail
      refine wp_region_late (by kernel_rfl) (by kernel_rfl) ?_
      repeat (go_big_quiet_step ((first
        | (go_at_call 29; exact late_of (hA1.out _)))))
      refine wpQuiet_nil ?_
      intro W3 hw'
      have hx3 : Ext wr W3 := late_ext hw'
      replace hq := own_ext hq.out hx3
      replace hxr : Hid (Ext w4 W3) := hxr.out.trans hx3
      have k0' := hx3.cell_of k0
      clear hw' j0 j1 k0 k1 hNe1 hA1 hx3
      have hsz := hxr.out.size
      go_wp2_with (at_builtin; refine wpList_append_own _ rfl (.tmp 40) (.tmp 42) 28 rfl w4.heap.size 2 i0 (.int .i64 0) 1 8 Tryz.underlying28 hi0 hz0 hz1 hz2 rfl (by decide) _ _ _ rfl (hq.alloc _) ⟨W3.heap.size, 0, none⟩ 1 1 [.int .i64 V] rfl rfl ?c1 ?c2 ?c3 ?c4 ?c5 ?_)
      case c1 =>
        intro j u hj
        match j, hj with
        | 0, hj => simp at hj; subst hj; simp [Addr.add]
      case c2 => intro u hu; simp at hu; subst hu; rfl
      case c3 => unfold maxLen; omega
      case c4 => omega
      case c5 => simp; omega
      intro v' w5 hown' hgrow _
      have hx5 : Hid (Ext w4 w5) := ⟨((hxr.out.alloc _ _).below).grown hgrow (by simp; omega) (own_lo hq)⟩
      have hq5 : Hid (w5.ownsRow w4.heap.size 2 1 v' (k + 1) (ints G (k + 1))) := by
        show w5.ownsRow _ _ _ _ _ _
        rw [ints_succ, hV.out]; exact hown'
      have k0 := hx5.out.cell_of (hr.out.cell k hlt)
      rw [show F k = X from hX'.out] at k0
      clear hown' hgrow hq hxr k0'
      go_wp2
      go_roundw
      case rel => exact ⟨k + 1, by omega, by go_num, by rw [hX'.out], hq5, hx5⟩
      case measure => simp [intOf]; omega
    · obtain rfl : k = T := by omega
      obtain ⟨g2, gc2, rfl, hr2⟩ := Arr.of_own t1 hq.out
      replace hr2 := show Hid _ from hr2
      replace hx : Hid (Ext w wr) := hx.out.trans hxr.out
      clear hq hxr k1 hBr
      go_wp2
      go_ret2
      exact ⟨⟨g2, gc2, by first | rfl | (rw [hT.out]; rfl), by first | exact hr2.out | (rw [hF.out, hG.out]; exact hr2.out) | (rw [hT.out, hF.out, hG.out]; exact hr2.out)⟩, hx.out⟩
end Go.Proofs.YtafjmpaefikdcaaGreatDoor
