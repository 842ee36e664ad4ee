/- When instalments are due (due of package dues), as a contract: no statement of the seat is proved here. -/
import Derived.Test.YtmlkccmkdgfalaaGreatDoorDu2
import Derived.Test.YtmlkccmkdgfalaaGreatDoorL8Pr12
namespace Go.Proofs.YtmlkccmkdgfalaaGreatDoor
open Go.RowKit
open L3 (Env)
open L4 (Arr upTo info_int)
open L5 (Cld)
set_option linter.unusedVariables false

theorem slc58 {w : World} {v : Value} {l : List Int} (h : L8.Slc w v l) : L5.Slc w v l := h
theorem slc85 {w : World} {v : Value} {l : List Int} (h : L5.Slc w v l) : L8.Slc w v l := h
theorem Check_q (p : Prd) (vr vl vh : Value) (E : Int) (hE : E = if okP p then 0 else 9) (w : World) (h0 : p.nm.length ≤ 9223372036854775807) (h1 : p.rs.length ≤ 9223372036854775807) (h2 : p.lt.length ≤ 9223372036854775807) (h3 : p.hd.length ≤ 9223372036854775807) (sr : L8.Slp w vr p.rs) (sl : L8.Slp w vl p.lt) (sh : L8.Slc w vh p.hd) :
    Calls Tryz.prog 41 #[.agg (pcells p vr vl vh)] w fun e w' => e = .returned (.int .i64 E) ∧ Ext w w' :=
  L8.Check_x p.nm p.cn p.rd p.kd p.ev p.tm p.gr p.rt vr p.rs p.pn p.o0 p.o1 p.o2 p.o3 p.ov vl p.lt p.cp p.rl vh p.hd E hE w h0 h1 h2 h3 sr sl sh
/-- A product that came in by value: its lists can be read. -/
structure Inp (w : World) (p : Prd) (vr vl vh : Value) : Prop where
  h0 : p.nm.length ≤ 9223372036854775807
  h1 : p.rs.length ≤ 9223372036854775807
  h2 : p.lt.length ≤ 9223372036854775807
  h3 : p.hd.length ≤ 9223372036854775807
  sr : L8.Slp w vr p.rs
  sl : L8.Slp w vl p.lt
  sh : L8.Slc w vh p.hd
theorem Inp.ext {w w' : World} {p : Prd} {vr vl vh : Value} (h : Inp w p vr vl vh) (hx : Ext w w') : Inp w' p vr vl vh :=
  ⟨h.h0, h.h1, h.h2, h.h3, h.sr.ext hx, h.sl.ext hx, h.sh.ext hx⟩
theorem Inp.one {w : World} {p : Prd} {vr vl vh : Value} (h : Inp w p vr vl vh) : (pcells p vr vl vh).all (·.oneCell') = true := pcells_slp h.sr h.sl h.sh
set_option maxRecDepth 100000 in
set_option maxHeartbeats 1000000 in
theorem due_bad (p : Prd) (vr vl vh : Value) (s : Int) (w : World) (hi : Inp w p vr vl vh) (he : Hid (Env w)) (hok : okP p = false) :
    Calls Tryz.prog 21 #[.agg (pcells p vr vl vh), .int .i64 s] w fun e w' => e = .panicked [{ v := .iface 32 (.int .i64 9), recovered := false }] ∧ Ext w w' := by
  have hone := hi.one
  have hbox := box_prod p vr vl vh hone
  obtain ⟨W1, b, hW1, hb, hx1, hB1⟩ : ∃ W b, w.alloc (.cells (pcells p vr vl vh) 27) = W ∧ w.heap.size = b ∧ Ext w W ∧ Blk W b (pcells p vr vl vh) := ⟨_, _, rfl, rfl, (Ext.refl w).alloc _ _, heap_alloc_last w _⟩
  have hsz : (pcells p vr vl vh).size = 19 := rfl
  replace hi : Hid (Inp W1 p vr vl vh) := hi.ext hx1
  replace he : Hid (Env W1) := he.out.ext hx1
  replace hx1 := show Hid _ from hx1
  replace hok := show Hid _ from hok
  go_enter Tryz.func21, Tryz.ntmps21
  go_wp2_with (refine load27 hB1 hsz rfl rfl rfl ?_)
  refine (Check_q p vr vl vh 9 (by rw [hok.out]; rfl) _ hi.out.h0 hi.out.h1 hi.out.h2 hi.out.h3 hi.out.sr hi.out.sl hi.out.sh).mono ?_
  rintro e w2 ⟨rfl, hx2⟩
  have hB : Hid (Blk w2 b (pcells p vr vl vh)) := hB1.ext hx2
  replace hi : Hid (Inp w2 p vr vl vh) := hi.out.ext hx2
  replace he : Hid (Env w2) := he.out.ext hx2
  have hx : Hid (Ext w w2) := hx1.out.trans hx2
  clear hx2 hx1 hB1 hW1 hb hbox hone hsz
  go_wp2_with fail
  refine (L6.need_no _ _).mono ?_
  rintro e w3 ⟨rfl, rfl⟩
  go_wp2
  exact ⟨rfl, rfl, hx.out⟩
set_option maxRecDepth 100000 in
set_option maxHeartbeats 1000000 in
theorem due_day1 (p : Prd) (vr vl vh : Value) (s : Int) (w : World) (hi : Inp w p vr vl vh) (he : Hid (Env w)) (hok : okP p = true) (hn : s < -25567 ∨ 84370 < s) :
    Calls Tryz.prog 21 #[.agg (pcells p vr vl vh), .int .i64 s] w fun e w' => e = .panicked [{ v := .iface 32 (.int .i64 5), recovered := false }] ∧ Ext w w' := by
  have hone := hi.one
  have hbox := box_prod p vr vl vh hone
  obtain ⟨W1, b, hW1, hb, hx1, hB1⟩ : ∃ W b, w.alloc (.cells (pcells p vr vl vh) 27) = W ∧ w.heap.size = b ∧ Ext w W ∧ Blk W b (pcells p vr vl vh) := ⟨_, _, rfl, rfl, (Ext.refl w).alloc _ _, heap_alloc_last w _⟩
  have hsz : (pcells p vr vl vh).size = 19 := rfl
  replace hi : Hid (Inp W1 p vr vl vh) := hi.ext hx1
  replace he : Hid (Env W1) := he.out.ext hx1
  replace hx1 := show Hid _ from hx1
  replace hok := show Hid _ from hok
  replace hn := show Hid _ from hn
  go_enter Tryz.func21, Tryz.ntmps21
  go_wp2_with (refine load27 hB1 hsz rfl rfl rfl ?_)
  refine (Check_q p vr vl vh 0 (by rw [hok.out]; rfl) _ hi.out.h0 hi.out.h1 hi.out.h2 hi.out.h3 hi.out.sr hi.out.sl hi.out.sh).mono ?_
  rintro e w2 ⟨rfl, hx2⟩
  have hB : Hid (Blk w2 b (pcells p vr vl vh)) := hB1.ext hx2
  replace hi : Hid (Inp w2 p vr vl vh) := hi.out.ext hx2
  replace he : Hid (Env w2) := he.out.ext hx2
  have hx : Hid (Ext w w2) := hx1.out.trans hx2
  clear hx2 hx1 hB1 hW1 hb hbox hone hsz
  go_wp2_with fail
  refine (L6.need_ok _ _).mono ?_
  rintro e w3 ⟨rfl, rfl⟩
  have c4 := (cell_of_row w3 b 4 _ _ _ hB.out).trans (show _ = some (.int .i64 p.ev) from rfl)
  have c5 := (cell_of_row w3 b 5 _ _ _ hB.out).trans (show _ = some (.int .i64 p.tm) from rfl)
  obtain ⟨T, hT⟩ : ∃ T, duT p = T := ⟨_, rfl⟩
  have hTT := tm_T hok.out
  rw [hT] at hTT
  obtain ⟨hTm, t1, t2⟩ := hTT
  rw [hTm] at c5
  have hev := (okf hok.out).ev
  have hrl := (okf hok.out).rl
  have hcn := (okf hok.out).cn
  obtain ⟨ev, hEv⟩ : ∃ x, p.ev = x := ⟨_, rfl⟩
  rw [hEv] at c4 hev
  obtain ⟨ev1, ev2⟩ := hev
  replace hrl := show Hid _ from hrl
  replace hcn := show Hid _ from hcn
  replace hT := show Hid _ from hT
  replace hTm := show Hid _ from hTm
  replace hEv := show Hid _ from hEv
  go_wp2_with fail
  refine (L4.Dates_day s ev T w3 hn.out ev1 ev2 (by omega) (by omega)).mono ?_
  rintro e w4 ⟨rfl, hx4⟩
  replace hx : Hid (Ext w w4) := hx.out.trans hx4
  clear hx4 c4 c5
  go_wp2_with fail
  refine (sureL_no _ _ rfl _).mono ?_
  rintro e w5 ⟨rfl, rfl⟩
  go_wp2
  exact ⟨rfl, rfl, hx.out⟩
set_option maxRecDepth 100000 in
set_option maxHeartbeats 1000000 in
theorem due_day2 (p : Prd) (vr vl vh : Value) (s : Int) (w : World) (hi : Inp w p vr vl vh) (he : Hid (Env w)) (hok : okP p = true) (n1 : -25567 ≤ s) (n2 : s ≤ 84370) (hn : ¬ ∀ j, j < duT p → L4.serE s p.ev j = 0) :
    Calls Tryz.prog 21 #[.agg (pcells p vr vl vh), .int .i64 s] w fun e w' => e = .panicked [{ v := .iface 32 (.int .i64 5), recovered := false }] ∧ Ext w w' := by
  have hone := hi.one
  have hbox := box_prod p vr vl vh hone
  obtain ⟨W1, b, hW1, hb, hx1, hB1⟩ : ∃ W b, w.alloc (.cells (pcells p vr vl vh) 27) = W ∧ w.heap.size = b ∧ Ext w W ∧ Blk W b (pcells p vr vl vh) := ⟨_, _, rfl, rfl, (Ext.refl w).alloc _ _, heap_alloc_last w _⟩
  have hsz : (pcells p vr vl vh).size = 19 := rfl
  replace hi : Hid (Inp W1 p vr vl vh) := hi.ext hx1
  replace he : Hid (Env W1) := he.out.ext hx1
  replace hx1 := show Hid _ from hx1
  replace hok := show Hid _ from hok
  replace hn := show Hid _ from hn
  go_enter Tryz.func21, Tryz.ntmps21
  go_wp2_with (refine load27 hB1 hsz rfl rfl rfl ?_)
  refine (Check_q p vr vl vh 0 (by rw [hok.out]; rfl) _ hi.out.h0 hi.out.h1 hi.out.h2 hi.out.h3 hi.out.sr hi.out.sl hi.out.sh).mono ?_
  rintro e w2 ⟨rfl, hx2⟩
  have hB : Hid (Blk w2 b (pcells p vr vl vh)) := hB1.ext hx2
  replace hi : Hid (Inp w2 p vr vl vh) := hi.out.ext hx2
  replace he : Hid (Env w2) := he.out.ext hx2
  have hx : Hid (Ext w w2) := hx1.out.trans hx2
  clear hx2 hx1 hB1 hW1 hb hbox hone hsz
  go_wp2_with fail
  refine (L6.need_ok _ _).mono ?_
  rintro e w3 ⟨rfl, rfl⟩
  have c4 := (cell_of_row w3 b 4 _ _ _ hB.out).trans (show _ = some (.int .i64 p.ev) from rfl)
  have c5 := (cell_of_row w3 b 5 _ _ _ hB.out).trans (show _ = some (.int .i64 p.tm) from rfl)
  obtain ⟨T, hT⟩ : ∃ T, duT p = T := ⟨_, rfl⟩
  have hTT := tm_T hok.out
  rw [hT] at hTT
  obtain ⟨hTm, t1, t2⟩ := hTT
  rw [hTm] at c5
  have hev := (okf hok.out).ev
  have hrl := (okf hok.out).rl
  have hcn := (okf hok.out).cn
  obtain ⟨ev, hEv⟩ : ∃ x, p.ev = x := ⟨_, rfl⟩
  rw [hEv] at c4 hev
  obtain ⟨ev1, ev2⟩ := hev
  replace hrl := show Hid _ from hrl
  replace hcn := show Hid _ from hcn
  replace hT := show Hid _ from hT
  replace hTm := show Hid _ from hTm
  replace hEv := show Hid _ from hEv
  go_wp2_with fail
  refine (L4.Dates_no s ev T w3 n1 n2 ev1 ev2 t1 t2 (by have := hn.out; rw [hT.out, hEv.out] at this; exact this) he).mono ?_
  rintro e w4 ⟨rfl, hx4⟩
  replace hx : Hid (Ext w w4) := hx.out.trans hx4
  clear hx4 c4 c5
  go_wp2_with fail
  refine (sureL_no _ _ rfl _).mono ?_
  rintro e w5 ⟨rfl, rfl⟩
  go_wp2
  exact ⟨rfl, rfl, hx.out⟩
set_option maxRecDepth 100000 in
set_option maxHeartbeats 1000000 in
theorem due_roll (p : Prd) (vr vl vh : Value) (s : Int) (w : World) (hi : Inp w p vr vl vh) (he : Hid (Env w)) (hok : okP p = true) (hD : Dat p s) (hn : ¬ ∀ j, j < duT p → L5.rlE p.hd (L4.serA s p.ev j) p.rl = 0) :
    Calls Tryz.prog 21 #[.agg (pcells p vr vl vh), .int .i64 s] w fun e w' => e = .panicked [{ v := .iface 32 (.int .i64 5), recovered := false }] ∧ Ext w w' := by
  have hone := hi.one
  have hbox := box_prod p vr vl vh hone
  obtain ⟨W1, b, hW1, hb, hx1, hB1⟩ : ∃ W b, w.alloc (.cells (pcells p vr vl vh) 27) = W ∧ w.heap.size = b ∧ Ext w W ∧ Blk W b (pcells p vr vl vh) := ⟨_, _, rfl, rfl, (Ext.refl w).alloc _ _, heap_alloc_last w _⟩
  have hsz : (pcells p vr vl vh).size = 19 := rfl
  replace hi : Hid (Inp W1 p vr vl vh) := hi.ext hx1
  replace he : Hid (Env W1) := he.out.ext hx1
  replace hx1 := show Hid _ from hx1
  replace hok := show Hid _ from hok
  replace hn := show Hid _ from hn
  replace hD := show Hid _ from hD
  go_enter Tryz.func21, Tryz.ntmps21
  go_wp2_with (refine load27 hB1 hsz rfl rfl rfl ?_)
  refine (Check_q p vr vl vh 0 (by rw [hok.out]; rfl) _ hi.out.h0 hi.out.h1 hi.out.h2 hi.out.h3 hi.out.sr hi.out.sl hi.out.sh).mono ?_
  rintro e w2 ⟨rfl, hx2⟩
  have hB : Hid (Blk w2 b (pcells p vr vl vh)) := hB1.ext hx2
  replace hi : Hid (Inp w2 p vr vl vh) := hi.out.ext hx2
  replace he : Hid (Env w2) := he.out.ext hx2
  have hx : Hid (Ext w w2) := hx1.out.trans hx2
  clear hx2 hx1 hB1 hW1 hb hbox hone hsz
  go_wp2_with fail
  refine (L6.need_ok _ _).mono ?_
  rintro e w3 ⟨rfl, rfl⟩
  have c4 := (cell_of_row w3 b 4 _ _ _ hB.out).trans (show _ = some (.int .i64 p.ev) from rfl)
  have c5 := (cell_of_row w3 b 5 _ _ _ hB.out).trans (show _ = some (.int .i64 p.tm) from rfl)
  obtain ⟨T, hT⟩ : ∃ T, duT p = T := ⟨_, rfl⟩
  have hTT := tm_T hok.out
  rw [hT] at hTT
  obtain ⟨hTm, t1, t2⟩ := hTT
  rw [hTm] at c5
  have hev := (okf hok.out).ev
  have hrl := (okf hok.out).rl
  have hcn := (okf hok.out).cn
  obtain ⟨ev, hEv⟩ : ∃ x, p.ev = x := ⟨_, rfl⟩
  rw [hEv] at c4 hev
  obtain ⟨ev1, ev2⟩ := hev
  replace hrl := show Hid _ from hrl
  replace hcn := show Hid _ from hcn
  replace hT := show Hid _ from hT
  replace hTm := show Hid _ from hTm
  replace hEv := show Hid _ from hEv
  go_wp2_with fail
  refine (L4.Dates_ok s ev T w3 hD.out.n1 hD.out.n2 ev1 ev2 t1 t2 (by have := hD.out.all; rw [hT.out, hEv.out] at this; exact this) he).mono ?_
  rintro e w4 ⟨⟨g, rfl, hr⟩, hx4⟩
  replace hr : Hid (Arr w4 g T (L4.serA s ev)) := hr
  replace hB : Hid (Blk w4 b (pcells p vr vl vh)) := hB.out.ext hx4
  replace hi : Hid (Inp w4 p vr vl vh) := hi.out.ext hx4
  replace he : Hid (Env w4) := he.out.ext hx4
  replace hx : Hid (Ext w w4) := hx.out.trans hx4
  clear hx4 c4 c5
  go_wp2_with fail
  refine (sureL_ok _ _).mono ?_
  rintro e w5 ⟨rfl, rfl⟩
  have c18 := (cell_of_row w5 b 18 _ _ _ hB.out).trans (show _ = some vh from rfl)
  go_wp2_with fail
  refine (L5.New_ok vh p.hd w5 (slc58 hi.out.sh) (rgt_of hok.out)).mono ?_
  rintro e w6 ⟨q, rfl, hm⟩
  have hc : Hid (Cld w6 q p.hd) := hm.cld
  have hx6 := hm.ext
  replace hr : Hid (Arr w6 g T (L4.serA s ev)) := hr.out.ext hx6
  replace hB : Hid (Blk w6 b (pcells p vr vl vh)) := hB.out.ext hx6
  replace hi : Hid (Inp w6 p vr vl vh) := hi.out.ext hx6
  replace he : Hid (Env w6) := he.out.ext hx6
  replace hx : Hid (Ext w w6) := hx.out.trans hx6
  clear hx6 hm c18
  go_wp2_with fail
  refine (sureC_ok _ _).mono ?_
  rintro e w7 ⟨rfl, rfl⟩
  have c17 := (cell_of_row w7 b 17 _ _ _ hB.out).trans (show _ = some (.int .i64 p.rl) from rfl)
  obtain ⟨rl, hRl⟩ : ∃ x, p.rl = x := ⟨_, rfl⟩
  rw [hRl] at c17
  replace hRl := show Hid _ from hRl
  go_wp2_with fail
  obtain ⟨J, hJ, hJ1, hJ2⟩ : ∃ J, J < T ∧ L5.rlE p.hd (L4.serA s ev J) rl = 5 ∧ ∀ j, j < J → L5.rlE p.hd (L4.serA s ev j) rl = 0 := by
    rcases L4.first_not (fun j => L5.rlE p.hd (L4.serA s ev j) rl = 0) T with h | ⟨J, h1, h2, h3⟩
    · refine absurd ?_ hn.out
      rw [hT.out, hEv.out, hRl.out]; exact h
    · have hrl' := hrl.out
      rw [hRl.out] at hrl'
      exact ⟨J, h1, (rlE_two p.hd _ rl (serA_bd s ev J) hrl').resolve_left h2, h3⟩
  replace hJ1 := show Hid _ from hJ1
  replace hJ2 := show Hid _ from hJ2
  refine (moved_no g _ q T J (L4.serA s ev) rl p.hd w7 t1 t2 hr hc he hJ hJ2.out hJ1.out).mono ?_
  rintro e w8 ⟨rfl, hx8⟩
  replace hx : Hid (Ext w w8) := hx.out.trans hx8
  clear hx8 c17 hJ1 hJ2
  go_wp2
  exact ⟨rfl, rfl, hx.out⟩
set_option maxRecDepth 100000 in
set_option maxHeartbeats 1000000 in
theorem due_dates (p : Prd) (vr vl vh : Value) (s : Int) (w : World) (hi : Inp w p vr vl vh) (he : Hid (Env w)) (hok : okP p = true) (hD : Dat p s) (hR : ∀ j, j < duT p → L5.rlE p.hd (L4.serA s p.ev j) p.rl = 0) (hn : ¬ ∀ j, j < duT p → pv s (duF p s) j < duF p s j) :
    Calls Tryz.prog 21 #[.agg (pcells p vr vl vh), .int .i64 s] w fun e w' => e = .panicked [{ v := .iface 32 (.int .i64 11), recovered := false }] ∧ Ext w w' := by
  have hone := hi.one
  have hbox := box_prod p vr vl vh hone
  obtain ⟨W1, b, hW1, hb, hx1, hB1⟩ : ∃ W b, w.alloc (.cells (pcells p vr vl vh) 27) = W ∧ w.heap.size = b ∧ Ext w W ∧ Blk W b (pcells p vr vl vh) := ⟨_, _, rfl, rfl, (Ext.refl w).alloc _ _, heap_alloc_last w _⟩
  have hsz : (pcells p vr vl vh).size = 19 := rfl
  replace hi : Hid (Inp W1 p vr vl vh) := hi.ext hx1
  replace he : Hid (Env W1) := he.out.ext hx1
  replace hx1 := show Hid _ from hx1
  replace hok := show Hid _ from hok
  replace hn := show Hid _ from hn
  replace hD := show Hid _ from hD
  replace hR := show Hid _ from hR
  go_enter Tryz.func21, Tryz.ntmps21
  go_wp2_with (refine load27 hB1 hsz rfl rfl rfl ?_)
  refine (Check_q p vr vl vh 0 (by rw [hok.out]; rfl) _ hi.out.h0 hi.out.h1 hi.out.h2 hi.out.h3 hi.out.sr hi.out.sl hi.out.sh).mono ?_
  rintro e w2 ⟨rfl, hx2⟩
  have hB : Hid (Blk w2 b (pcells p vr vl vh)) := hB1.ext hx2
  replace hi : Hid (Inp w2 p vr vl vh) := hi.out.ext hx2
  replace he : Hid (Env w2) := he.out.ext hx2
  have hx : Hid (Ext w w2) := hx1.out.trans hx2
  clear hx2 hx1 hB1 hW1 hb hbox hone hsz
  go_wp2_with fail
  refine (L6.need_ok _ _).mono ?_
  rintro e w3 ⟨rfl, rfl⟩
  have c4 := (cell_of_row w3 b 4 _ _ _ hB.out).trans (show _ = some (.int .i64 p.ev) from rfl)
  have c5 := (cell_of_row w3 b 5 _ _ _ hB.out).trans (show _ = some (.int .i64 p.tm) from rfl)
  obtain ⟨T, hT⟩ : ∃ T, duT p = T := ⟨_, rfl⟩
  have hTT := tm_T hok.out
  rw [hT] at hTT
  obtain ⟨hTm, t1, t2⟩ := hTT
  rw [hTm] at c5
  have hev := (okf hok.out).ev
  have hrl := (okf hok.out).rl
  have hcn := (okf hok.out).cn
  obtain ⟨ev, hEv⟩ : ∃ x, p.ev = x := ⟨_, rfl⟩
  rw [hEv] at c4 hev
  obtain ⟨ev1, ev2⟩ := hev
  replace hrl := show Hid _ from hrl
  replace hcn := show Hid _ from hcn
  replace hT := show Hid _ from hT
  replace hTm := show Hid _ from hTm
  replace hEv := show Hid _ from hEv
  go_wp2_with fail
  refine (L4.Dates_ok s ev T w3 hD.out.n1 hD.out.n2 ev1 ev2 t1 t2 (by have := hD.out.all; rw [hT.out, hEv.out] at this; exact this) he).mono ?_
  rintro e w4 ⟨⟨g, rfl, hr⟩, hx4⟩
  replace hr : Hid (Arr w4 g T (L4.serA s ev)) := hr
  replace hB : Hid (Blk w4 b (pcells p vr vl vh)) := hB.out.ext hx4
  replace hi : Hid (Inp w4 p vr vl vh) := hi.out.ext hx4
  replace he : Hid (Env w4) := he.out.ext hx4
  replace hx : Hid (Ext w w4) := hx.out.trans hx4
  clear hx4 c4 c5
  go_wp2_with fail
  refine (sureL_ok _ _).mono ?_
  rintro e w5 ⟨rfl, rfl⟩
  have c18 := (cell_of_row w5 b 18 _ _ _ hB.out).trans (show _ = some vh from rfl)
  go_wp2_with fail
  refine (L5.New_ok vh p.hd w5 (slc58 hi.out.sh) (rgt_of hok.out)).mono ?_
  rintro e w6 ⟨q, rfl, hm⟩
  have hc : Hid (Cld w6 q p.hd) := hm.cld
  have hx6 := hm.ext
  replace hr : Hid (Arr w6 g T (L4.serA s ev)) := hr.out.ext hx6
  replace hB : Hid (Blk w6 b (pcells p vr vl vh)) := hB.out.ext hx6
  replace hi : Hid (Inp w6 p vr vl vh) := hi.out.ext hx6
  replace he : Hid (Env w6) := he.out.ext hx6
  replace hx : Hid (Ext w w6) := hx.out.trans hx6
  clear hx6 hm c18
  go_wp2_with fail
  refine (sureC_ok _ _).mono ?_
  rintro e w7 ⟨rfl, rfl⟩
  have c17 := (cell_of_row w7 b 17 _ _ _ hB.out).trans (show _ = some (.int .i64 p.rl) from rfl)
  obtain ⟨rl, hRl⟩ : ∃ x, p.rl = x := ⟨_, rfl⟩
  rw [hRl] at c17
  replace hRl := show Hid _ from hRl
  go_wp2_with fail
  refine (moved_ok g _ q T (L4.serA s ev) rl p.hd w7 t1 t2 hr hc he (by have := hR.out; rw [hT.out, hEv.out, hRl.out] at this; exact this)).mono ?_
  rintro e w8 ⟨⟨g2, rfl, lo2, hr2⟩, hx8⟩
  replace lo2 : Hid (w.heap.size ≤ g2) := Nat.le_trans hx.out.size lo2
  have hFF : (fun j => L5.rlA p.hd (L4.serA s ev j) rl) = duF p s := by funext j; unfold duF; rw [hEv.out, hRl.out]
  rw [hFF] at hr2
  clear hFF
  replace hr2 := show Hid _ from hr2
  replace hx : Hid (Ext w w8) := hx.out.trans hx8
  clear hx8 c17 hr
  go_wp2_with fail
  obtain ⟨J, hJ, hJ1, hJ2⟩ : ∃ J, J < T ∧ ¬ pv s (duF p s) J < duF p s J ∧ ∀ j, j < J → pv s (duF p s) j < duF p s j := by
    rcases L4.first_not (fun j => pv s (duF p s) j < duF p s j) T with h | ⟨J, h1, h2, h3⟩
    · refine absurd ?_ hn.out
      rw [hT.out]; exact h
    · exact ⟨J, h1, h2, h3⟩
  replace hJ1 := show Hid _ from hJ1
  replace hJ2 := show Hid _ from hJ2
  refine (rising_no s g2 _ T J (duF p s) w8 hr2 t2 hJ hJ2.out hJ1.out).mono ?_
  rintro e w9 ⟨rfl, rfl⟩
  clear hJ1 hJ2
  go_wp2_with fail
  refine (L6.need_no _ _).mono ?_
  rintro e w3 ⟨rfl, rfl⟩
  go_wp2
  exact ⟨rfl, rfl, hx.out⟩
set_option maxRecDepth 100000 in
set_option maxHeartbeats 1000000 in
theorem due_ok (p : Prd) (vr vl vh : Value) (s : Int) (w : World) (hi : Inp w p vr vl vh) (he : Hid (Env w)) (hok : okP p = true) (hD : Dat p s) (hR : ∀ j, j < duT p → L5.rlE p.hd (L4.serA s p.ev j) p.rl = 0) (hn : ∀ j, j < duT p → pv s (duF p s) j < duF p s j) :
    Calls Tryz.prog 21 #[.agg (pcells p vr vl vh), .int .i64 s] w fun e w' => (∃ g, e = .returned (.slice (some ⟨g, 0, none⟩) (duT p) (duT p)) ∧ w.heap.size ≤ g ∧ Arr w' g (duT p) (duF p s)) ∧ Ext w w' := by
  have hone := hi.one
  have hbox := box_prod p vr vl vh hone
  obtain ⟨W1, b, hW1, hb, hx1, hB1⟩ : ∃ W b, w.alloc (.cells (pcells p vr vl vh) 27) = W ∧ w.heap.size = b ∧ Ext w W ∧ Blk W b (pcells p vr vl vh) := ⟨_, _, rfl, rfl, (Ext.refl w).alloc _ _, heap_alloc_last w _⟩
  have hsz : (pcells p vr vl vh).size = 19 := rfl
  replace hi : Hid (Inp W1 p vr vl vh) := hi.ext hx1
  replace he : Hid (Env W1) := he.out.ext hx1
  replace hx1 := show Hid _ from hx1
  replace hok := show Hid _ from hok
  replace hn := show Hid _ from hn
  replace hD := show Hid _ from hD
  replace hR := show Hid _ from hR
  go_enter Tryz.func21, Tryz.ntmps21
  go_wp2_with (refine load27 hB1 hsz rfl rfl rfl ?_)
  refine (Check_q p vr vl vh 0 (by rw [hok.out]; rfl) _ hi.out.h0 hi.out.h1 hi.out.h2 hi.out.h3 hi.out.sr hi.out.sl hi.out.sh).mono ?_
  rintro e w2 ⟨rfl, hx2⟩
  have hB : Hid (Blk w2 b (pcells p vr vl vh)) := hB1.ext hx2
  replace hi : Hid (Inp w2 p vr vl vh) := hi.out.ext hx2
  replace he : Hid (Env w2) := he.out.ext hx2
  have hx : Hid (Ext w w2) := hx1.out.trans hx2
  clear hx2 hx1 hB1 hW1 hb hbox hone hsz
  go_wp2_with fail
  refine (L6.need_ok _ _).mono ?_
  rintro e w3 ⟨rfl, rfl⟩
  have c4 := (cell_of_row w3 b 4 _ _ _ hB.out).trans (show _ = some (.int .i64 p.ev) from rfl)
  have c5 := (cell_of_row w3 b 5 _ _ _ hB.out).trans (show _ = some (.int .i64 p.tm) from rfl)
  obtain ⟨T, hT⟩ : ∃ T, duT p = T := ⟨_, rfl⟩
  have hTT := tm_T hok.out
  rw [hT] at hTT
  obtain ⟨hTm, t1, t2⟩ := hTT
  rw [hTm] at c5
  have hev := (okf hok.out).ev
  have hrl := (okf hok.out).rl
  have hcn := (okf hok.out).cn
  obtain ⟨ev, hEv⟩ : ∃ x, p.ev = x := ⟨_, rfl⟩
  rw [hEv] at c4 hev
  obtain ⟨ev1, ev2⟩ := hev
  replace hrl := show Hid _ from hrl
  replace hcn := show Hid _ from hcn
  replace hT := show Hid _ from hT
  replace hTm := show Hid _ from hTm
  replace hEv := show Hid _ from hEv
  go_wp2_with fail
  refine (L4.Dates_ok s ev T w3 hD.out.n1 hD.out.n2 ev1 ev2 t1 t2 (by have := hD.out.all; rw [hT.out, hEv.out] at this; exact this) he).mono ?_
  rintro e w4 ⟨⟨g, rfl, hr⟩, hx4⟩
  replace hr : Hid (Arr w4 g T (L4.serA s ev)) := hr
  replace hB : Hid (Blk w4 b (pcells p vr vl vh)) := hB.out.ext hx4
  replace hi : Hid (Inp w4 p vr vl vh) := hi.out.ext hx4
  replace he : Hid (Env w4) := he.out.ext hx4
  replace hx : Hid (Ext w w4) := hx.out.trans hx4
  clear hx4 c4 c5
  go_wp2_with fail
  refine (sureL_ok _ _).mono ?_
  rintro e w5 ⟨rfl, rfl⟩
  have c18 := (cell_of_row w5 b 18 _ _ _ hB.out).trans (show _ = some vh from rfl)
  go_wp2_with fail
  refine (L5.New_ok vh p.hd w5 (slc58 hi.out.sh) (rgt_of hok.out)).mono ?_
  rintro e w6 ⟨q, rfl, hm⟩
  have hc : Hid (Cld w6 q p.hd) := hm.cld
  have hx6 := hm.ext
  replace hr : Hid (Arr w6 g T (L4.serA s ev)) := hr.out.ext hx6
  replace hB : Hid (Blk w6 b (pcells p vr vl vh)) := hB.out.ext hx6
  replace hi : Hid (Inp w6 p vr vl vh) := hi.out.ext hx6
  replace he : Hid (Env w6) := he.out.ext hx6
  replace hx : Hid (Ext w w6) := hx.out.trans hx6
  clear hx6 hm c18
  go_wp2_with fail
  refine (sureC_ok _ _).mono ?_
  rintro e w7 ⟨rfl, rfl⟩
  have c17 := (cell_of_row w7 b 17 _ _ _ hB.out).trans (show _ = some (.int .i64 p.rl) from rfl)
  obtain ⟨rl, hRl⟩ : ∃ x, p.rl = x := ⟨_, rfl⟩
  rw [hRl] at c17
  replace hRl := show Hid _ from hRl
  go_wp2_with fail
  refine (moved_ok g _ q T (L4.serA s ev) rl p.hd w7 t1 t2 hr hc he (by have := hR.out; rw [hT.out, hEv.out, hRl.out] at this; exact this)).mono ?_
  rintro e w8 ⟨⟨g2, rfl, lo2, hr2⟩, hx8⟩
  replace lo2 : Hid (w.heap.size ≤ g2) := Nat.le_trans hx.out.size lo2
  have hFF : (fun j => L5.rlA p.hd (L4.serA s ev j) rl) = duF p s := by funext j; unfold duF; rw [hEv.out, hRl.out]
  rw [hFF] at hr2
  clear hFF
  replace hr2 := show Hid _ from hr2
  replace hx : Hid (Ext w w8) := hx.out.trans hx8
  clear hx8 c17 hr
  go_wp2_with fail
  refine (rising_ok s g2 _ T (duF p s) w8 hr2 t2 (by have := hn.out; rw [hT.out] at this; exact this)).mono ?_
  rintro e w9 ⟨rfl, rfl⟩
  go_wp2_with fail
  refine (L6.need_ok _ _).mono ?_
  rintro e w3 ⟨rfl, rfl⟩
  go_wp2
  go_ret
  rw [hT.out]
  exact ⟨⟨g2, rfl, lo2.out, hr2.out⟩, hx.out⟩
theorem due_no (p : Prd) (vr vl vh : Value) (s E : Int) (w : World) (hi : Inp w p vr vl vh) (he : Hid (Env w)) (hE : Due p s E) (h0 : E ≠ 0) :
    Calls Tryz.prog 21 #[.agg (pcells p vr vl vh), .int .i64 s] w fun e w' => e = .panicked [{ v := .iface 32 (.int .i64 E), recovered := false }] ∧ Ext w w' := by
  cases hE with
  | bad h => exact due_bad p vr vl vh s w hi he h
  | day h k =>
    by_cases n : -25567 ≤ s ∧ s ≤ 84370
    · exact due_day2 p vr vl vh s w hi he h n.1 n.2 (fun a => k ⟨n.1, n.2, a⟩)
    · exact due_day1 p vr vl vh s w hi he h (by omega)
  | roll h k1 k2 => exact due_roll p vr vl vh s w hi he h k1 k2
  | dates h k1 k2 k3 => exact due_dates p vr vl vh s w hi he h k1 k2 k3
  | ok h k1 k2 k3 => exact absurd rfl h0
theorem due_yes (p : Prd) (vr vl vh : Value) (s : Int) (w : World) (hi : Inp w p vr vl vh) (he : Hid (Env w)) (hE : Due p s 0) :
    Calls Tryz.prog 21 #[.agg (pcells p vr vl vh), .int .i64 s] w fun e w' => (∃ g, e = .returned (.slice (some ⟨g, 0, none⟩) (duT p) (duT p)) ∧ w.heap.size ≤ g ∧ Arr w' g (duT p) (duF p s)) ∧ Ext w w' := by
  cases hE with
  | ok h k1 k2 k3 => exact due_ok p vr vl vh s w hi he h k1 k2 k3
end Go.Proofs.YtmlkccmkdgfalaaGreatDoor
