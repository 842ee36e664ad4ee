
/- The document's own Days and Parts of layer 11, as contracts: no statement of the seat is proved here. -/
import Derived.Test.YtafjmpaefikdcaaGreatDoorDu4
namespace Go.Proofs.YtafjmpaefikdcaaGreatDoor
open Go.RowKit
open L3 (Env)
open L4 (Arr upTo info_int ints ints_succ own_ext own_lo)
set_option linter.unusedVariables false

theorem slc_len {w : World} {v : Value} {l : List Int} (h : L8.Slc w v l) : ∃ a c, v = .slice a l.length c := h.len
theorem not_dat {p : Prd} {s : Int} (h : ¬ Dat p s) (ht : 1 ≤ duT p) : ¬ ∀ j, j < duT p → L4.serE s p.ev j = 0 := fun a => by
  have h0 := L3.has_of (a 0 (by omega))
  exact h ⟨h0.n1, h0.n2, a⟩
set_option maxRecDepth 100000 in
set_option maxHeartbeats 1000000 in
theorem rDays_bad (p : Prd) (vr vl vh : Value) (s : Int) (w : World) (hi : Inp w p vr vl vh) (he : Hid (Env w)) (hok : okP p = false) :
    Calls Tryz.prog 28 #[.agg (pcells p vr vl vh), .int .i64 s] w fun e w' => e = .returned (.tuple #[.slice none 0 0, .int .i64 9]) ∧ Ext w w' := by
  have hone := hi.one
  have hbox := box_prod p vr vl vh hone
  obtain ⟨W1, b, hW1, hb, hx1, hB1⟩ : ∃ W b, w.alloc (.cells (pcells p vr vl vh) 27) = W ∧ w.heap.size = b ∧ Ext w W ∧ Blk W b (pcells p vr vl vh) := ⟨_, _, rfl, rfl, (Ext.refl w).alloc _ _, heap_alloc_last w _⟩
  have hsz : (pcells p vr vl vh).size = 19 := rfl
  replace hi : Hid (Inp W1 p vr vl vh) := hi.ext hx1
  replace he : Hid (Env W1) := he.out.ext hx1
  replace hx1 := show Hid _ from hx1
  replace hok := show Hid _ from hok
  go_enter Tryz.func28, Tryz.ntmps28
  go_wp2_with (refine load27 hB1 hsz rfl rfl rfl ?_)
  refine (rCheck_q p vr vl vh false hok.out _ hi.out.h0 hi.out.h1 hi.out.h2 hi.out.h3 hi.out.sr hi.out.sl hi.out.sh).mono ?_
  rintro e w2 ⟨rfl, hx2⟩
  have hB : Hid (Blk w2 b (pcells p vr vl vh)) := hB1.ext hx2
  replace hi : Hid (Inp w2 p vr vl vh) := hi.out.ext hx2
  replace he : Hid (Env w2) := he.out.ext hx2
  have hx : Hid (Ext w w2) := hx1.out.trans hx2
  clear hx2 hx1 hB1 hW1 hb hbox hone hsz
  go_wp2
  go_ret2
  exact ⟨rfl, hx.out⟩
set_option maxRecDepth 100000 in
set_option maxHeartbeats 1000000 in
theorem rDays_day (p : Prd) (vr vl vh : Value) (s : Int) (w : World) (hi : Inp w p vr vl vh) (he : Hid (Env w)) (hok : okP p = true) (hn : ¬ Dat p s) :
    Calls Tryz.prog 28 #[.agg (pcells p vr vl vh), .int .i64 s] w fun e w' => e = .returned (.tuple #[.slice none 0 0, .int .i64 5]) ∧ Ext w w' := by
  have hone := hi.one
  have hbox := box_prod p vr vl vh hone
  obtain ⟨W1, b, hW1, hb, hx1, hB1⟩ : ∃ W b, w.alloc (.cells (pcells p vr vl vh) 27) = W ∧ w.heap.size = b ∧ Ext w W ∧ Blk W b (pcells p vr vl vh) := ⟨_, _, rfl, rfl, (Ext.refl w).alloc _ _, heap_alloc_last w _⟩
  have hsz : (pcells p vr vl vh).size = 19 := rfl
  replace hi : Hid (Inp W1 p vr vl vh) := hi.ext hx1
  replace he : Hid (Env W1) := he.out.ext hx1
  replace hx1 := show Hid _ from hx1
  replace hok := show Hid _ from hok
  replace hn := show Hid _ from hn
  go_enter Tryz.func28, Tryz.ntmps28
  go_wp2_with (refine load27 hB1 hsz rfl rfl rfl ?_)
  refine (rCheck_q p vr vl vh true hok.out _ hi.out.h0 hi.out.h1 hi.out.h2 hi.out.h3 hi.out.sr hi.out.sl hi.out.sh).mono ?_
  rintro e w2 ⟨rfl, hx2⟩
  have hB : Hid (Blk w2 b (pcells p vr vl vh)) := hB1.ext hx2
  replace hi : Hid (Inp w2 p vr vl vh) := hi.out.ext hx2
  replace he : Hid (Env w2) := he.out.ext hx2
  have hx : Hid (Ext w w2) := hx1.out.trans hx2
  clear hx2 hx1 hB1 hW1 hb hbox hone hsz
  have c4 := (cell_of_row w2 b 4 _ _ _ hB.out).trans (show _ = some (.int .i64 p.ev) from rfl)
  have c5 := (cell_of_row w2 b 5 _ _ _ hB.out).trans (show _ = some (.int .i64 p.tm) from rfl)
  obtain ⟨T, hT⟩ : ∃ T, duT p = T := ⟨_, rfl⟩
  have hTT := tm_T hok.out
  rw [hT] at hTT
  obtain ⟨hTm, t1, t2⟩ := hTT
  rw [hTm] at c5
  have hev := (okf hok.out).ev
  have hrl := (okf hok.out).rl
  have hhl := (okf hok.out).hl
  obtain ⟨ev, hEv⟩ : ∃ x, p.ev = x := ⟨_, rfl⟩
  rw [hEv] at c4 hev
  obtain ⟨ev1, ev2⟩ := hev
  obtain ⟨rl, hRl⟩ : ∃ x, p.rl = x := ⟨_, rfl⟩
  rw [hRl] at hrl
  replace hrl := show Hid _ from hrl
  replace hhl := show Hid _ from hhl
  replace hT := show Hid _ from hT
  replace hTm := show Hid _ from hTm
  replace hEv := show Hid _ from hEv
  replace hRl := show Hid _ from hRl
  go_wp2_with fail
  refine (L4.rDates_no s ev T w2 ev1 ev2 t1 t2 (by have := not_dat hn.out (by have := hT.out; omega); rw [hT.out, hEv.out] at this; exact this) he).mono ?_
  rintro e w4 ⟨rfl, hx4⟩
  replace hx : Hid (Ext w w4) := hx.out.trans hx4
  clear hx4 c4 c5
  go_wp2
  go_ret2
  exact ⟨rfl, hx.out⟩
set_option maxRecDepth 100000 in
set_option maxHeartbeats 1000000 in
theorem rDays_ok (p : Prd) (vr vl vh : Value) (s : Int) (w : World) (hi : Inp w p vr vl vh) (he : Hid (Env w)) (hok : okP p = true) (hD : Dat p s) (hR : ∀ j, j < duT p → L5.rlE p.hd (L4.serA s p.ev j) p.rl = 0) (hn : ∀ j, j < duT p → pv s (duF p s) j < duF p s j) :
    Calls Tryz.prog 28 #[.agg (pcells p vr vl vh), .int .i64 s] w fun e w' => (∃ g c, e = .returned (.tuple #[.slice (some ⟨g, 0, none⟩) (duT p) c, .int .i64 0]) ∧ Arr w' g (duT p) (duF p s)) ∧ Ext w w' := by
  have hone := hi.one
  have hbox := box_prod p vr vl vh hone
  obtain ⟨W1, b, hW1, hb, hx1, hB1⟩ : ∃ W b, w.alloc (.cells (pcells p vr vl vh) 27) = W ∧ w.heap.size = b ∧ Ext w W ∧ Blk W b (pcells p vr vl vh) := ⟨_, _, rfl, rfl, (Ext.refl w).alloc _ _, heap_alloc_last w _⟩
  have hsz : (pcells p vr vl vh).size = 19 := rfl
  replace hi : Hid (Inp W1 p vr vl vh) := hi.ext hx1
  replace he : Hid (Env W1) := he.out.ext hx1
  replace hx1 := show Hid _ from hx1
  replace hok := show Hid _ from hok
  replace hD := show Hid _ from hD
  replace hR := show Hid _ from hR
  replace hn := show Hid _ from hn
  go_enter Tryz.func28, Tryz.ntmps28
  go_wp2_with (refine load27 hB1 hsz rfl rfl rfl ?_)
  refine (rCheck_q p vr vl vh true hok.out _ hi.out.h0 hi.out.h1 hi.out.h2 hi.out.h3 hi.out.sr hi.out.sl hi.out.sh).mono ?_
  rintro e w2 ⟨rfl, hx2⟩
  have hB : Hid (Blk w2 b (pcells p vr vl vh)) := hB1.ext hx2
  replace hi : Hid (Inp w2 p vr vl vh) := hi.out.ext hx2
  replace he : Hid (Env w2) := he.out.ext hx2
  have hx : Hid (Ext w w2) := hx1.out.trans hx2
  clear hx2 hx1 hB1 hW1 hb hbox hone hsz
  have c4 := (cell_of_row w2 b 4 _ _ _ hB.out).trans (show _ = some (.int .i64 p.ev) from rfl)
  have c5 := (cell_of_row w2 b 5 _ _ _ hB.out).trans (show _ = some (.int .i64 p.tm) from rfl)
  obtain ⟨T, hT⟩ : ∃ T, duT p = T := ⟨_, rfl⟩
  have hTT := tm_T hok.out
  rw [hT] at hTT
  obtain ⟨hTm, t1, t2⟩ := hTT
  rw [hTm] at c5
  have hev := (okf hok.out).ev
  have hrl := (okf hok.out).rl
  have hhl := (okf hok.out).hl
  obtain ⟨ev, hEv⟩ : ∃ x, p.ev = x := ⟨_, rfl⟩
  rw [hEv] at c4 hev
  obtain ⟨ev1, ev2⟩ := hev
  obtain ⟨rl, hRl⟩ : ∃ x, p.rl = x := ⟨_, rfl⟩
  rw [hRl] at hrl
  replace hrl := show Hid _ from hrl
  replace hhl := show Hid _ from hhl
  replace hT := show Hid _ from hT
  replace hTm := show Hid _ from hTm
  replace hEv := show Hid _ from hEv
  replace hRl := show Hid _ from hRl
  go_wp2_with fail
  refine (L4.rDates_ok s ev T w2 ev1 ev2 t1 t2 (by have := hD.out.all; rw [hT.out, hEv.out] at this; exact this) he).mono ?_
  rintro e w4 ⟨⟨g, gc, rfl, hr⟩, hx4⟩
  replace hr : Hid (Arr w4 g T (L4.serA s ev)) := hr
  replace hB : Hid (Blk w4 b (pcells p vr vl vh)) := hB.out.ext hx4
  replace hi : Hid (Inp w4 p vr vl vh) := hi.out.ext hx4
  replace hx : Hid (Ext w w4) := hx.out.trans hx4
  clear hx4 c4 c5 he
  obtain ⟨i0, hi0, hz0, hz1, hz2⟩ := info_parts info_int
  obtain ⟨ha, hc, hvh⟩ := slc_len hi.out.sh
  go_wp2_with fail
  have hall : Hid (∀ k, k < T → L5.rlE p.hd (L4.serA s ev k) rl = 0) := by have := hR.out; rw [hT.out, hEv.out, hRl.out] at this; exact this
  replace hn : Hid (∀ j, j < T → pv s (duF p s) j < duF p s j) := by have := hn.out; rw [hT.out] at this; exact this
  go_loopw [8, 9] (fun v i wr => ∃ k : Nat, k ≤ T ∧ i = .int .i64 k ∧ Hid (wr.ownsRow w4.heap.size 3 1 v k (ints (duF p s) k)) ∧ Hid (Ext w4 wr)) (fun _ i _ => T - (intOf i).toNat)
  case atStart => exact ⟨0, Nat.zero_le _, rfl, World.ownsRow_nil _ _ _ _, Ext.refl w4⟩
  case round =>
    obtain ⟨k, hk, rfl, hq, hxr⟩ := hrel
    have hBr : Blk wr b (pcells p vr vl vh) := hB.out.ext hxr.out
    have k18 := (cell_of_row wr b 18 _ _ _ hBr).trans (show _ = some vh from rfl)
    have k17 := (cell_of_row wr b 17 _ _ _ hBr).trans (show _ = some (.int .i64 p.rl) from rfl)
    rw [hRl.out] at k17
    have hSr := hi.out.ext hxr.out
    replace hSr := show Hid _ from hSr
    by_cases hlt : k < T
    · have k0 := hxr.out.cell_of (hr.out.cell k hlt)
      obtain ⟨X, hX⟩ : ∃ X, L4.serA s ev k = X := ⟨_, rfl⟩
      obtain ⟨V, hV⟩ : ∃ V, duF p s k = V := ⟨_, rfl⟩
      have hVX : L5.rlA p.hd X rl = V := by rw [← hV, ← hX]; unfold duF; rw [hEv.out, hRl.out]
      have hE0 := hall.out k hlt
      rw [hX] at k0 hE0
      rw [hvh] at k18
      have hRR : Hid (∀ w' : World, Ext wr w' → Calls Tryz.prog 47 #[.slice ha p.hd.length hc, .int .i64 X, .int .i64 rl] w' fun e w'' => e = .returned (.tuple #[.int .i64 V, .int .i64 0]) ∧ Ext w' w'') := fun w' hx' => by
        have := L5.rRoll_c (.slice ha p.hd.length hc) p.hd X rl w' (by have := hhl.out; omega) (by show L5.Slc _ _ _; have := (hSr.out.ext hx').sh; rw [hvh] at this; exact slc58 this)
        rwa [hVX, hE0] at this
      replace hV := show Hid _ from hV
      clear hX hVX hE0 hBr
      have hkT : (k : Int) < (T : Int) := by omega
      have j0 := Late.cell k0; have j1 := Late.cell k17; have j2 := Late.cell k18
      have hNe1 : Nonempty (Late wr) := ⟨⟨_, Ext.refl _⟩⟩
      go_wp2_with fail
      refine wp_region_late (by kernel_rfl) (by kernel_rfl) ?_
      repeat (go_big_quiet_step ((first
        | (go_at_call 47; exact late_of (hRR.out _ (Late.ext _))))))
      refine wpQuiet_nil ?_
      intro W3 hw'
      have hx3 : Ext wr W3 := late_ext hw'
      replace hq := own_ext hq.out hx3
      replace hxr : Hid (Ext w4 W3) := hxr.out.trans hx3
      clear hw' j0 j1 j2 k0 k17 k18 hNe1 hRR hx3
      have hsz := hxr.out.size
      go_wp2_with (at_builtin; refine wpList_append_own _ rfl (.tmp 52) (.tmp 54) 25 rfl w4.heap.size 3 i0 (.int .i64 0) 1 8 Tryz.underlying25 hi0 hz0 hz1 hz2 rfl (by decide) _ _ _ rfl (hq.alloc _) ⟨W3.heap.size, 0, none⟩ 1 1 [.int .i64 V] rfl rfl ?c1 ?c2 ?c3 ?c4 ?c5 ?_)
      case c1 =>
        intro j u hj
        match j, hj with
        | 0, hj => simp at hj; subst hj; simp [Addr.add]
      case c2 => intro u hu; simp at hu; subst hu; rfl
      case c3 => unfold maxLen; omega
      case c4 => omega
      case c5 => simp; omega
      intro v' w5 hown' hgrow _
      have hx5 : Hid (Ext w4 w5) := ⟨((hxr.out.alloc _ _).below).grown hgrow (by simp; omega) (own_lo hq)⟩
      have hq5 : Hid (w5.ownsRow w4.heap.size 3 1 v' (k + 1) (ints (duF p s) (k + 1))) := by
        show w5.ownsRow _ _ _ _ _ _
        rw [ints_succ, hV.out]; exact hown'
      clear hown' hgrow hq hxr
      go_wp2
      go_roundw
      case rel => exact ⟨k + 1, by omega, by go_num, hq5, hx5⟩
      case measure => simp [intOf]; omega
    · obtain rfl : k = T := by omega
      obtain ⟨g2, gc2, rfl, hr2⟩ := Arr.of_own t1 hq.out
      replace hr2 := show Hid _ from hr2
      replace hx : Hid (Ext w wr) := hx.out.trans hxr.out
      clear hq hxr k18 k17 hBr hSr
      go_wp2_with fail
      go_loop [12, 13] (fun u i => ∃ m : Nat, m ≤ k ∧ i = .int .i64 m ∧ u = .int .i64 (pv s (duF p s) m)) (fun _ i => k - (RowKit.intOf i).toNat)
      case atStart => exact ⟨0, Nat.zero_le _, rfl, rfl⟩
      case round =>
        obtain ⟨m, hm, rfl, rfl⟩ := hrel
        by_cases hml : m < k
        · have hl := hn.out m hml
          have hd := hr2.out.cell m hml
          obtain ⟨X, hX⟩ : ∃ X, duF p s m = X := ⟨_, rfl⟩
          obtain ⟨Y, hY⟩ : ∃ Y, pv s (duF p s) m = Y := ⟨_, rfl⟩
          rw [hX] at hd hl
          rw [hY] at hl ⊢
          have hX' : Hid (pv s (duF p s) (m + 1) = X) := hX
          clear hX hY
          go_wp2
          go_round
          case rel => exact ⟨m + 1, by omega, by go_num, by rw [hX'.out]⟩
          case measure => simp [RowKit.intOf]; omega
        · obtain rfl : m = k := by omega
          go_wp2
          go_ret2
          exact ⟨⟨g2, ⟨gc2, by rw [hT.out]; rfl⟩, by rw [hT.out]; exact hr2.out⟩, hx.out⟩
set_option maxRecDepth 100000 in
set_option maxHeartbeats 1000000 in
theorem rDays_dates (p : Prd) (vr vl vh : Value) (s : Int) (w : World) (hi : Inp w p vr vl vh) (he : Hid (Env w)) (hok : okP p = true) (hD : Dat p s) (hR : ∀ j, j < duT p → L5.rlE p.hd (L4.serA s p.ev j) p.rl = 0) (hn : ¬ ∀ j, j < duT p → pv s (duF p s) j < duF p s j) :
    Calls Tryz.prog 28 #[.agg (pcells p vr vl vh), .int .i64 s] w fun e w' => e = .returned (.tuple #[.slice none 0 0, .int .i64 11]) ∧ Ext w w' := by
  have hone := hi.one
  have hbox := box_prod p vr vl vh hone
  obtain ⟨W1, b, hW1, hb, hx1, hB1⟩ : ∃ W b, w.alloc (.cells (pcells p vr vl vh) 27) = W ∧ w.heap.size = b ∧ Ext w W ∧ Blk W b (pcells p vr vl vh) := ⟨_, _, rfl, rfl, (Ext.refl w).alloc _ _, heap_alloc_last w _⟩
  have hsz : (pcells p vr vl vh).size = 19 := rfl
  replace hi : Hid (Inp W1 p vr vl vh) := hi.ext hx1
  replace he : Hid (Env W1) := he.out.ext hx1
  replace hx1 := show Hid _ from hx1
  replace hok := show Hid _ from hok
  replace hD := show Hid _ from hD
  replace hR := show Hid _ from hR
  replace hn := show Hid _ from hn
  go_enter Tryz.func28, Tryz.ntmps28
  go_wp2_with (refine load27 hB1 hsz rfl rfl rfl ?_)
  refine (rCheck_q p vr vl vh true hok.out _ hi.out.h0 hi.out.h1 hi.out.h2 hi.out.h3 hi.out.sr hi.out.sl hi.out.sh).mono ?_
  rintro e w2 ⟨rfl, hx2⟩
  have hB : Hid (Blk w2 b (pcells p vr vl vh)) := hB1.ext hx2
  replace hi : Hid (Inp w2 p vr vl vh) := hi.out.ext hx2
  replace he : Hid (Env w2) := he.out.ext hx2
  have hx : Hid (Ext w w2) := hx1.out.trans hx2
  clear hx2 hx1 hB1 hW1 hb hbox hone hsz
  have c4 := (cell_of_row w2 b 4 _ _ _ hB.out).trans (show _ = some (.int .i64 p.ev) from rfl)
  have c5 := (cell_of_row w2 b 5 _ _ _ hB.out).trans (show _ = some (.int .i64 p.tm) from rfl)
  obtain ⟨T, hT⟩ : ∃ T, duT p = T := ⟨_, rfl⟩
  have hTT := tm_T hok.out
  rw [hT] at hTT
  obtain ⟨hTm, t1, t2⟩ := hTT
  rw [hTm] at c5
  have hev := (okf hok.out).ev
  have hrl := (okf hok.out).rl
  have hhl := (okf hok.out).hl
  obtain ⟨ev, hEv⟩ : ∃ x, p.ev = x := ⟨_, rfl⟩
  rw [hEv] at c4 hev
  obtain ⟨ev1, ev2⟩ := hev
  obtain ⟨rl, hRl⟩ : ∃ x, p.rl = x := ⟨_, rfl⟩
  rw [hRl] at hrl
  replace hrl := show Hid _ from hrl
  replace hhl := show Hid _ from hhl
  replace hT := show Hid _ from hT
  replace hTm := show Hid _ from hTm
  replace hEv := show Hid _ from hEv
  replace hRl := show Hid _ from hRl
  go_wp2_with fail
  refine (L4.rDates_ok s ev T w2 ev1 ev2 t1 t2 (by have := hD.out.all; rw [hT.out, hEv.out] at this; exact this) he).mono ?_
  rintro e w4 ⟨⟨g, gc, rfl, hr⟩, hx4⟩
  replace hr : Hid (Arr w4 g T (L4.serA s ev)) := hr
  replace hB : Hid (Blk w4 b (pcells p vr vl vh)) := hB.out.ext hx4
  replace hi : Hid (Inp w4 p vr vl vh) := hi.out.ext hx4
  replace hx : Hid (Ext w w4) := hx.out.trans hx4
  clear hx4 c4 c5 he
  obtain ⟨i0, hi0, hz0, hz1, hz2⟩ := info_parts info_int
  obtain ⟨ha, hc, hvh⟩ := slc_len hi.out.sh
  go_wp2_with fail
  have hall : Hid (∀ k, k < T → L5.rlE p.hd (L4.serA s ev k) rl = 0) := by have := hR.out; rw [hT.out, hEv.out, hRl.out] at this; exact this
  obtain ⟨J, hJ, hJ1, hJ2⟩ : ∃ J, J < T ∧ ¬ pv s (duF p s) J < duF p s J ∧ ∀ j, j < J → pv s (duF p s) j < duF p s j := by
    rcases L4.first_not (fun j => pv s (duF p s) j < duF p s j) T with h | ⟨J, h1, h2, h3⟩
    · refine absurd ?_ hn.out
      rw [hT.out]; exact h
    · exact ⟨J, h1, h2, h3⟩
  replace hJ1 := show Hid _ from hJ1
  replace hJ2 := show Hid _ from hJ2
  go_loopw [8, 9] (fun v i wr => ∃ k : Nat, k ≤ T ∧ i = .int .i64 k ∧ Hid (wr.ownsRow w4.heap.size 3 1 v k (ints (duF p s) k)) ∧ Hid (Ext w4 wr)) (fun _ i _ => T - (intOf i).toNat)
  case atStart => exact ⟨0, Nat.zero_le _, rfl, World.ownsRow_nil _ _ _ _, Ext.refl w4⟩
  case round =>
    obtain ⟨k, hk, rfl, hq, hxr⟩ := hrel
    have hBr : Blk wr b (pcells p vr vl vh) := hB.out.ext hxr.out
    have k18 := (cell_of_row wr b 18 _ _ _ hBr).trans (show _ = some vh from rfl)
    have k17 := (cell_of_row wr b 17 _ _ _ hBr).trans (show _ = some (.int .i64 p.rl) from rfl)
    rw [hRl.out] at k17
    have hSr := hi.out.ext hxr.out
    replace hSr := show Hid _ from hSr
    by_cases hlt : k < T
    · have k0 := hxr.out.cell_of (hr.out.cell k hlt)
      obtain ⟨X, hX⟩ : ∃ X, L4.serA s ev k = X := ⟨_, rfl⟩
      obtain ⟨V, hV⟩ : ∃ V, duF p s k = V := ⟨_, rfl⟩
      have hVX : L5.rlA p.hd X rl = V := by rw [← hV, ← hX]; unfold duF; rw [hEv.out, hRl.out]
      have hE0 := hall.out k hlt
      rw [hX] at k0 hE0
      rw [hvh] at k18
      have hRR : Hid (∀ w' : World, Ext wr w' → Calls Tryz.prog 47 #[.slice ha p.hd.length hc, .int .i64 X, .int .i64 rl] w' fun e w'' => e = .returned (.tuple #[.int .i64 V, .int .i64 0]) ∧ Ext w' w'') := fun w' hx' => by
        have := L5.rRoll_c (.slice ha p.hd.length hc) p.hd X rl w' (by have := hhl.out; omega) (by show L5.Slc _ _ _; have := (hSr.out.ext hx').sh; rw [hvh] at this; exact slc58 this)
        rwa [hVX, hE0] at this
      replace hV := show Hid _ from hV
      clear hX hVX hE0 hBr
      have hkT : (k : Int) < (T : Int) := by omega
      have j0 := Late.cell k0; have j1 := Late.cell k17; have j2 := Late.cell k18
      have hNe1 : Nonempty (Late wr) := ⟨⟨_, Ext.refl _⟩⟩
      go_wp2_with fail
      refine wp_region_late (by kernel_rfl) (by kernel_rfl) ?_
      repeat (go_big_quiet_step ((first
        | (go_at_call 47; exact late_of (hRR.out _ (Late.ext _))))))
      refine wpQuiet_nil ?_
      intro W3 hw'
      have hx3 : Ext wr W3 := late_ext hw'
      replace hq := own_ext hq.out hx3
      replace hxr : Hid (Ext w4 W3) := hxr.out.trans hx3
      clear hw' j0 j1 j2 k0 k17 k18 hNe1 hRR hx3
      have hsz := hxr.out.size
      go_wp2_with (at_builtin; refine wpList_append_own _ rfl (.tmp 52) (.tmp 54) 25 rfl w4.heap.size 3 i0 (.int .i64 0) 1 8 Tryz.underlying25 hi0 hz0 hz1 hz2 rfl (by decide) _ _ _ rfl (hq.alloc _) ⟨W3.heap.size, 0, none⟩ 1 1 [.int .i64 V] rfl rfl ?c1 ?c2 ?c3 ?c4 ?c5 ?_)
      case c1 =>
        intro j u hj
        match j, hj with
        | 0, hj => simp at hj; subst hj; simp [Addr.add]
      case c2 => intro u hu; simp at hu; subst hu; rfl
      case c3 => unfold maxLen; omega
      case c4 => omega
      case c5 => simp; omega
      intro v' w5 hown' hgrow _
      have hx5 : Hid (Ext w4 w5) := ⟨((hxr.out.alloc _ _).below).grown hgrow (by simp; omega) (own_lo hq)⟩
      have hq5 : Hid (w5.ownsRow w4.heap.size 3 1 v' (k + 1) (ints (duF p s) (k + 1))) := by
        show w5.ownsRow _ _ _ _ _ _
        rw [ints_succ, hV.out]; exact hown'
      clear hown' hgrow hq hxr
      go_wp2
      go_roundw
      case rel => exact ⟨k + 1, by omega, by go_num, hq5, hx5⟩
      case measure => simp [intOf]; omega
    · obtain rfl : k = T := by omega
      obtain ⟨g2, gc2, rfl, hr2⟩ := Arr.of_own t1 hq.out
      replace hr2 := show Hid _ from hr2
      replace hx : Hid (Ext w wr) := hx.out.trans hxr.out
      clear hq hxr k18 k17 hBr hSr
      go_wp2_with fail
      go_loop [12, 13] (fun u i => ∃ m : Nat, m ≤ J ∧ i = .int .i64 m ∧ u = .int .i64 (pv s (duF p s) m)) (fun _ i => k - (RowKit.intOf i).toNat)
      case atStart => exact ⟨0, Nat.zero_le _, rfl, rfl⟩
      case round =>
        obtain ⟨m, hm, rfl, rfl⟩ := hrel
        have hmk : m < k := by omega
        by_cases hml : m < J
        · have hl := hJ2.out m hml
          have hd := hr2.out.cell m hmk
          obtain ⟨X, hX⟩ : ∃ X, duF p s m = X := ⟨_, rfl⟩
          obtain ⟨Y, hY⟩ : ∃ Y, pv s (duF p s) m = Y := ⟨_, rfl⟩
          rw [hX] at hd hl
          rw [hY] at hl ⊢
          have hX' : Hid (pv s (duF p s) (m + 1) = X) := hX
          clear hX hY
          go_wp2
          go_round
          case rel => exact ⟨m + 1, by omega, by go_num, by rw [hX'.out]⟩
          case measure => simp [RowKit.intOf]; omega
        · obtain rfl : m = J := by omega
          have hl := hJ1.out
          have hd := hr2.out.cell m hmk
          obtain ⟨X, hX⟩ : ∃ X, duF p s m = X := ⟨_, rfl⟩
          obtain ⟨Y, hY⟩ : ∃ Y, pv s (duF p s) m = Y := ⟨_, rfl⟩
          rw [hX] at hd hl
          rw [hY] at hl ⊢
          clear hX hY
          go_wp2
          go_ret2
          exact ⟨rfl, hx.out⟩
set_option maxRecDepth 100000 in
set_option maxHeartbeats 1000000 in
theorem rDays_roll (p : Prd) (vr vl vh : Value) (s : Int) (w : World) (hi : Inp w p vr vl vh) (he : Hid (Env w)) (hok : okP p = true) (hD : Dat p s) (hn : ¬ ∀ j, j < duT p → L5.rlE p.hd (L4.serA s p.ev j) p.rl = 0) :
    Calls Tryz.prog 28 #[.agg (pcells p vr vl vh), .int .i64 s] w fun e w' => e = .returned (.tuple #[.slice none 0 0, .int .i64 5]) ∧ Ext w w' := by
  have hone := hi.one
  have hbox := box_prod p vr vl vh hone
  obtain ⟨W1, b, hW1, hb, hx1, hB1⟩ : ∃ W b, w.alloc (.cells (pcells p vr vl vh) 27) = W ∧ w.heap.size = b ∧ Ext w W ∧ Blk W b (pcells p vr vl vh) := ⟨_, _, rfl, rfl, (Ext.refl w).alloc _ _, heap_alloc_last w _⟩
  have hsz : (pcells p vr vl vh).size = 19 := rfl
  replace hi : Hid (Inp W1 p vr vl vh) := hi.ext hx1
  replace he : Hid (Env W1) := he.out.ext hx1
  replace hx1 := show Hid _ from hx1
  replace hok := show Hid _ from hok
  replace hD := show Hid _ from hD
  replace hn := show Hid _ from hn
  go_enter Tryz.func28, Tryz.ntmps28
  go_wp2_with (refine load27 hB1 hsz rfl rfl rfl ?_)
  refine (rCheck_q p vr vl vh true hok.out _ hi.out.h0 hi.out.h1 hi.out.h2 hi.out.h3 hi.out.sr hi.out.sl hi.out.sh).mono ?_
  rintro e w2 ⟨rfl, hx2⟩
  have hB : Hid (Blk w2 b (pcells p vr vl vh)) := hB1.ext hx2
  replace hi : Hid (Inp w2 p vr vl vh) := hi.out.ext hx2
  replace he : Hid (Env w2) := he.out.ext hx2
  have hx : Hid (Ext w w2) := hx1.out.trans hx2
  clear hx2 hx1 hB1 hW1 hb hbox hone hsz
  have c4 := (cell_of_row w2 b 4 _ _ _ hB.out).trans (show _ = some (.int .i64 p.ev) from rfl)
  have c5 := (cell_of_row w2 b 5 _ _ _ hB.out).trans (show _ = some (.int .i64 p.tm) from rfl)
  obtain ⟨T, hT⟩ : ∃ T, duT p = T := ⟨_, rfl⟩
  have hTT := tm_T hok.out
  rw [hT] at hTT
  obtain ⟨hTm, t1, t2⟩ := hTT
  rw [hTm] at c5
  have hev := (okf hok.out).ev
  have hrl := (okf hok.out).rl
  have hhl := (okf hok.out).hl
  obtain ⟨ev, hEv⟩ : ∃ x, p.ev = x := ⟨_, rfl⟩
  rw [hEv] at c4 hev
  obtain ⟨ev1, ev2⟩ := hev
  obtain ⟨rl, hRl⟩ : ∃ x, p.rl = x := ⟨_, rfl⟩
  rw [hRl] at hrl
  replace hrl := show Hid _ from hrl
  replace hhl := show Hid _ from hhl
  replace hT := show Hid _ from hT
  replace hTm := show Hid _ from hTm
  replace hEv := show Hid _ from hEv
  replace hRl := show Hid _ from hRl
  go_wp2_with fail
  refine (L4.rDates_ok s ev T w2 ev1 ev2 t1 t2 (by have := hD.out.all; rw [hT.out, hEv.out] at this; exact this) he).mono ?_
  rintro e w4 ⟨⟨g, gc, rfl, hr⟩, hx4⟩
  replace hr : Hid (Arr w4 g T (L4.serA s ev)) := hr
  replace hB : Hid (Blk w4 b (pcells p vr vl vh)) := hB.out.ext hx4
  replace hi : Hid (Inp w4 p vr vl vh) := hi.out.ext hx4
  replace hx : Hid (Ext w w4) := hx.out.trans hx4
  clear hx4 c4 c5 he
  obtain ⟨i0, hi0, hz0, hz1, hz2⟩ := info_parts info_int
  obtain ⟨ha, hc, hvh⟩ := slc_len hi.out.sh
  go_wp2_with fail
  obtain ⟨J, hJ, hJ1, hall⟩ : ∃ J, J < T ∧ L5.rlE p.hd (L4.serA s ev J) rl = 5 ∧ ∀ j, j < J → L5.rlE p.hd (L4.serA s ev j) rl = 0 := by
    rcases L4.first_not (fun j => L5.rlE p.hd (L4.serA s ev j) rl = 0) T with h | ⟨J, h1, h2, h3⟩
    · refine absurd ?_ hn.out
      rw [hT.out, hEv.out, hRl.out]; exact h
    · exact ⟨J, h1, (rlE_two p.hd _ rl (serA_bd s ev J) hrl.out).resolve_left h2, h3⟩
  replace hJ1 := show Hid _ from hJ1
  replace hall := show Hid _ from hall
  go_loopw [8, 9] (fun v i wr => ∃ k : Nat, k ≤ J ∧ i = .int .i64 k ∧ Hid (wr.ownsRow w4.heap.size 3 1 v k (ints (duF p s) k)) ∧ Hid (Ext w4 wr)) (fun _ i _ => T - (intOf i).toNat)
  case atStart => exact ⟨0, Nat.zero_le _, rfl, World.ownsRow_nil _ _ _ _, Ext.refl w4⟩
  case round =>
    obtain ⟨k, hk, rfl, hq, hxr⟩ := hrel
    have hBr : Blk wr b (pcells p vr vl vh) := hB.out.ext hxr.out
    have k18 := (cell_of_row wr b 18 _ _ _ hBr).trans (show _ = some vh from rfl)
    have k17 := (cell_of_row wr b 17 _ _ _ hBr).trans (show _ = some (.int .i64 p.rl) from rfl)
    rw [hRl.out] at k17
    have hSr := hi.out.ext hxr.out
    replace hSr := show Hid _ from hSr
    have hkT0 : k < T := by omega
    by_cases hlt : k < J
    · have k0 := hxr.out.cell_of (hr.out.cell k hkT0)
      obtain ⟨X, hX⟩ : ∃ X, L4.serA s ev k = X := ⟨_, rfl⟩
      obtain ⟨V, hV⟩ : ∃ V, duF p s k = V := ⟨_, rfl⟩
      have hVX : L5.rlA p.hd X rl = V := by rw [← hV, ← hX]; unfold duF; rw [hEv.out, hRl.out]
      have hE0 := hall.out k hlt
      rw [hX] at k0 hE0
      rw [hvh] at k18
      have hRR : Hid (∀ w' : World, Ext wr w' → Calls Tryz.prog 47 #[.slice ha p.hd.length hc, .int .i64 X, .int .i64 rl] w' fun e w'' => e = .returned (.tuple #[.int .i64 V, .int .i64 0]) ∧ Ext w' w'') := fun w' hx' => by
        have := L5.rRoll_c (.slice ha p.hd.length hc) p.hd X rl w' (by have := hhl.out; omega) (by show L5.Slc _ _ _; have := (hSr.out.ext hx').sh; rw [hvh] at this; exact slc58 this)
        rwa [hVX, hE0] at this
      replace hV := show Hid _ from hV
      clear hX hVX hE0 hBr
      have hkT : (k : Int) < (T : Int) := by omega
      have j0 := Late.cell k0; have j1 := Late.cell k17; have j2 := Late.cell k18
      have hNe1 : Nonempty (Late wr) := ⟨⟨_, Ext.refl _⟩⟩
      go_wp2_with fail
      refine wp_region_late (by kernel_rfl) (by kernel_rfl) ?_
      repeat (go_big_quiet_step ((first
        | (go_at_call 47; exact late_of (hRR.out _ (Late.ext _))))))
      refine wpQuiet_nil ?_
      intro W3 hw'
      have hx3 : Ext wr W3 := late_ext hw'
      replace hq := own_ext hq.out hx3
      replace hxr : Hid (Ext w4 W3) := hxr.out.trans hx3
      clear hw' j0 j1 j2 k0 k17 k18 hNe1 hRR hx3
      have hsz := hxr.out.size
      go_wp2_with (at_builtin; refine wpList_append_own _ rfl (.tmp 52) (.tmp 54) 25 rfl w4.heap.size 3 i0 (.int .i64 0) 1 8 Tryz.underlying25 hi0 hz0 hz1 hz2 rfl (by decide) _ _ _ rfl (hq.alloc _) ⟨W3.heap.size, 0, none⟩ 1 1 [.int .i64 V] rfl rfl ?c1 ?c2 ?c3 ?c4 ?c5 ?_)
      case c1 =>
        intro j u hj
        match j, hj with
        | 0, hj => simp at hj; subst hj; simp [Addr.add]
      case c2 => intro u hu; simp at hu; subst hu; rfl
      case c3 => unfold maxLen; omega
      case c4 => omega
      case c5 => simp; omega
      intro v' w5 hown' hgrow _
      have hx5 : Hid (Ext w4 w5) := ⟨((hxr.out.alloc _ _).below).grown hgrow (by simp; omega) (own_lo hq)⟩
      have hq5 : Hid (w5.ownsRow w4.heap.size 3 1 v' (k + 1) (ints (duF p s) (k + 1))) := by
        show w5.ownsRow _ _ _ _ _ _
        rw [ints_succ, hV.out]; exact hown'
      clear hown' hgrow hq hxr
      go_wp2
      go_roundw
      case rel => exact ⟨k + 1, by omega, by go_num, hq5, hx5⟩
      case measure => simp [intOf]; omega
    · obtain rfl : k = J := by omega
      have k0 := hxr.out.cell_of (hr.out.cell k hkT0)
      obtain ⟨X, hX⟩ : ∃ X, L4.serA s ev k = X := ⟨_, rfl⟩
      obtain ⟨V, hV⟩ : ∃ V, L5.rlA p.hd X rl = V := ⟨_, rfl⟩
      have hE0 := hJ1.out
      rw [hX] at k0 hE0
      rw [hvh] at k18
      have hRR : Hid (∀ w' : World, Ext wr w' → Calls Tryz.prog 47 #[.slice ha p.hd.length hc, .int .i64 X, .int .i64 rl] w' fun e w'' => e = .returned (.tuple #[.int .i64 V, .int .i64 5]) ∧ Ext w' w'') := fun w' hx' => by
        have := L5.rRoll_c (.slice ha p.hd.length hc) p.hd X rl w' (by have := hhl.out; omega) (by show L5.Slc _ _ _; have := (hSr.out.ext hx').sh; rw [hvh] at this; exact slc58 this)
        rwa [hV, hE0] at this
      clear hX hV hE0 hBr
      have hkT : (k : Int) < (T : Int) := by omega
      have j0 := Late.cell k0; have j1 := Late.cell k17; have j2 := Late.cell k18
      have hNe1 : Nonempty (Late wr) := ⟨⟨_, Ext.refl _⟩⟩
      go_wp2_with fail
      refine wp_region_late (by kernel_rfl) (by kernel_rfl) ?_
      repeat (go_big_quiet_step ((first
        | (go_at_call 47; exact late_of (hRR.out _ (Late.ext _))))))
      refine wpQuiet_nil ?_
      intro W3 hw'
      have hx3 : Ext wr W3 := late_ext hw'
      replace hx : Hid (Ext w W3) := (hx.out.trans hxr.out).trans hx3
      clear hw' j0 j1 j2 k0 k17 k18 hNe1 hRR hx3 hq hxr
      go_wp2
      go_ret2
      exact ⟨rfl, hx.out⟩
theorem rDays_no (p : Prd) (vr vl vh : Value) (s E : Int) (w : World) (hi : Inp w p vr vl vh) (he : Hid (Env w)) (hE : Due p s E) (h0 : E ≠ 0) :
    Calls Tryz.prog 28 #[.agg (pcells p vr vl vh), .int .i64 s] w fun e w' => e = .returned (.tuple #[.slice none 0 0, .int .i64 E]) ∧ Ext w w' := by
  cases hE with
  | bad h => exact rDays_bad p vr vl vh s w hi he h
  | day h k => exact rDays_day p vr vl vh s w hi he h k
  | roll h k1 k2 => exact rDays_roll p vr vl vh s w hi he h k1 k2
  | dates h k1 k2 k3 => exact rDays_dates p vr vl vh s w hi he h k1 k2 k3
  | ok h k1 k2 k3 => exact absurd rfl h0
theorem rDays_yes (p : Prd) (vr vl vh : Value) (s : Int) (w : World) (hi : Inp w p vr vl vh) (he : Hid (Env w)) (hE : Due p s 0) :
    Calls Tryz.prog 28 #[.agg (pcells p vr vl vh), .int .i64 s] w fun e w' => (∃ g c, e = .returned (.tuple #[.slice (some ⟨g, 0, none⟩) (duT p) c, .int .i64 0]) ∧ Arr w' g (duT p) (duF p s)) ∧ Ext w w' := by
  cases hE with
  | ok h k1 k2 k3 => exact rDays_ok p vr vl vh s w hi he h k1 k2 k3
end Go.Proofs.YtafjmpaefikdcaaGreatDoor
