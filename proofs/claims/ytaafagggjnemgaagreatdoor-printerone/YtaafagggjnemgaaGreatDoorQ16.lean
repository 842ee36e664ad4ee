/- Contracts that the proof of this law leans on: no statement of the seat is proved here. -/
import Derived.Test.YtaafagggjnemgaaGreatDoorQ12

namespace Go.Proofs.YtaafagggjnemgaaGreatDoor
open Go.RowKit Go.Lib
set_option linter.unusedVariables false
set_option maxRecDepth 100000 in
set_option maxHeartbeats 2000000 in
theorem Prod_12 (nm : List UInt8) (cn rd kd ev tm gr rt pn o0 o1 o2 o3 ov cp rl cp' rl' : Int) (rs lt lt' : List (Int × Int)) (hd hd' : List Int) (vr vl vh ur ul uh : Value) (w : World) (hn : rs.length ≤ 30000 ∧ lt.length ≤ 30000 ∧ hd.length ≤ 30000) (s1 : L8.Slp w vr rs) (s2 : L8.Slp w vl lt) (s3 : L8.Slc w vh hd) (s4 : L8.Slp w ur rs) (s5 : L8.Slp w ul lt') (s6 : L8.Slc w uh hd') (h : ¬ lt = lt') :
    Calls Tryz.prog 16 #[.agg #[.string ⟨nm.toArray⟩, .int .i64 cn, .int .i64 rd, .int .i64 kd, .int .i64 ev, .int .i64 tm, .int .i64 gr, .int .i64 rt, vr, .int .i64 pn, .int .i64 o0, .int .i64 o1, .int .i64 o2, .int .i64 o3, .int .i64 ov, vl, .int .i64 cp, .int .i64 rl, vh], .agg #[.string ⟨nm.toArray⟩, .int .i64 cn, .int .i64 rd, .int .i64 kd, .int .i64 ev, .int .i64 tm, .int .i64 gr, .int .i64 rt, ur, .int .i64 pn, .int .i64 o0, .int .i64 o1, .int .i64 o2, .int .i64 o3, .int .i64 ov, ul, .int .i64 cp', .int .i64 rl', uh]] w fun e w' => e = .returned (.bool false) ∧ Ext w w' := by
  have hb1 := box_prod ⟨nm, cn, rd, kd, ev, tm, gr, rt, rs, pn, o0, o1, o2, o3, ov, lt, cp, rl, hd⟩ vr vl vh (pcells_slp (p := ⟨nm, cn, rd, kd, ev, tm, gr, rt, rs, pn, o0, o1, o2, o3, ov, lt, cp, rl, hd⟩) s1 s2 s3)
  have hb2 := box_prod ⟨nm, cn, rd, kd, ev, tm, gr, rt, rs, pn, o0, o1, o2, o3, ov, lt', cp', rl', hd'⟩ ur ul uh (pcells_slp (p := ⟨nm, cn, rd, kd, ev, tm, gr, rt, rs, pn, o0, o1, o2, o3, ov, lt', cp', rl', hd'⟩) s4 s5 s6)
  unfold pcells at hb1 hb2
  simp only [] at hb1 hb2
  obtain ⟨W1, W2, b, hW1, hb, hW2, hsz, hx, B1, B2⟩ := lay2 w #[.string ⟨nm.toArray⟩, .int .i64 cn, .int .i64 rd, .int .i64 kd, .int .i64 ev, .int .i64 tm, .int .i64 gr, .int .i64 rt, vr, .int .i64 pn, .int .i64 o0, .int .i64 o1, .int .i64 o2, .int .i64 o3, .int .i64 ov, vl, .int .i64 cp, .int .i64 rl, vh] #[.string ⟨nm.toArray⟩, .int .i64 cn, .int .i64 rd, .int .i64 kd, .int .i64 ev, .int .i64 tm, .int .i64 gr, .int .i64 rt, ur, .int .i64 pn, .int .i64 o0, .int .i64 o1, .int .i64 o2, .int .i64 o3, .int .i64 ov, ul, .int .i64 cp', .int .i64 rl', uh] 27 27
  have hR : Hid (∀ W, Ext W2 W → Calls Tryz.prog 28 #[vr, ur] W fun e w' => e = .returned (.bool true) ∧ Ext W w') := fun W hW => PlainR_y vr ur rs W hn.1 (s1.ext (hx.trans hW)) (s4.ext (hx.trans hW))
  have hT : Hid (∀ W, Ext W2 W → Calls Tryz.prog 29 #[vl, ul] W fun e w' => e = .returned (.bool false) ∧ Ext W w') := fun W hW => PlainT_n vl ul lt lt' W hn.2.1 h (s2.ext (hx.trans hW)) (s5.ext (hx.trans hW))
  have hq4 := eql4 o0 o1 o2 o3
  clear s1 s2 s3 s4 s5 s6 hn
  replace hx := show Hid _ from hx
  have hL := show Hid (Ext W2 W2) from Ext.refl W2
  replace B1 := show Hid _ from B1
  replace B2 := show Hid _ from B2
  clear h
  have j0 := (cell_of_row W2 b 0 _ _ _ B1.out).trans (show _ = some (.string ⟨nm.toArray⟩) from rfl)
  have i0 := (cell_of_row W2 (b + 1) 0 _ _ _ B2.out).trans (show _ = some (.string ⟨nm.toArray⟩) from rfl)
  have j1 := (cell_of_row W2 b 1 _ _ _ B1.out).trans (show _ = some (.int .i64 cn) from rfl)
  have i1 := (cell_of_row W2 (b + 1) 1 _ _ _ B2.out).trans (show _ = some (.int .i64 cn) from rfl)
  have j2 := (cell_of_row W2 b 2 _ _ _ B1.out).trans (show _ = some (.int .i64 rd) from rfl)
  have i2 := (cell_of_row W2 (b + 1) 2 _ _ _ B2.out).trans (show _ = some (.int .i64 rd) from rfl)
  have j3 := (cell_of_row W2 b 3 _ _ _ B1.out).trans (show _ = some (.int .i64 kd) from rfl)
  have i3 := (cell_of_row W2 (b + 1) 3 _ _ _ B2.out).trans (show _ = some (.int .i64 kd) from rfl)
  have j4 := (cell_of_row W2 b 4 _ _ _ B1.out).trans (show _ = some (.int .i64 ev) from rfl)
  have i4 := (cell_of_row W2 (b + 1) 4 _ _ _ B2.out).trans (show _ = some (.int .i64 ev) from rfl)
  have j5 := (cell_of_row W2 b 5 _ _ _ B1.out).trans (show _ = some (.int .i64 tm) from rfl)
  have i5 := (cell_of_row W2 (b + 1) 5 _ _ _ B2.out).trans (show _ = some (.int .i64 tm) from rfl)
  have j6 := (cell_of_row W2 b 6 _ _ _ B1.out).trans (show _ = some (.int .i64 gr) from rfl)
  have i6 := (cell_of_row W2 (b + 1) 6 _ _ _ B2.out).trans (show _ = some (.int .i64 gr) from rfl)
  have j7 := (cell_of_row W2 b 7 _ _ _ B1.out).trans (show _ = some (.int .i64 rt) from rfl)
  have i7 := (cell_of_row W2 (b + 1) 7 _ _ _ B2.out).trans (show _ = some (.int .i64 rt) from rfl)
  have j8 := (cell_of_row W2 b 8 _ _ _ B1.out).trans (show _ = some (vr) from rfl)
  have i8 := (cell_of_row W2 (b + 1) 8 _ _ _ B2.out).trans (show _ = some (ur) from rfl)
  go_enter Tryz.func16, Tryz.ntmps16
  go_upto_region 1 with fail
  clear hW1 hW2 hsz hb1 hb2
  go_wp2_with fail
  refine Calls.mono (hR.out _ hL.out) ?_
  rintro e w3 ⟨rfl, hx1⟩
  replace hL := show Hid (Ext W2 w3) from hL.out.trans hx1
  replace hx := show Hid _ from hx.out.trans hx1
  replace B1 := show Hid _ from keep19 B1.out hx1
  replace B2 := show Hid _ from keep19 B2.out hx1
  clear hx1
  clear j0 i0 j1 i1 j2 i2 j3 i3 j4 i4 j5 i5 j6 i6 j7 i7 j8 i8
  have j9 := (cell_of_row w3 b 9 _ _ _ B1.out).trans (show _ = some (.int .i64 pn) from rfl)
  have i9 := (cell_of_row w3 (b + 1) 9 _ _ _ B2.out).trans (show _ = some (.int .i64 pn) from rfl)
  have j10 := (cell_of_row w3 b 10 _ _ _ B1.out).trans (show _ = some (.int .i64 o0) from rfl)
  have i10 := (cell_of_row w3 (b + 1) 10 _ _ _ B2.out).trans (show _ = some (.int .i64 o0) from rfl)
  have j11 := (cell_of_row w3 b 11 _ _ _ B1.out).trans (show _ = some (.int .i64 o1) from rfl)
  have i11 := (cell_of_row w3 (b + 1) 11 _ _ _ B2.out).trans (show _ = some (.int .i64 o1) from rfl)
  have j12 := (cell_of_row w3 b 12 _ _ _ B1.out).trans (show _ = some (.int .i64 o2) from rfl)
  have i12 := (cell_of_row w3 (b + 1) 12 _ _ _ B2.out).trans (show _ = some (.int .i64 o2) from rfl)
  have j13 := (cell_of_row w3 b 13 _ _ _ B1.out).trans (show _ = some (.int .i64 o3) from rfl)
  have i13 := (cell_of_row w3 (b + 1) 13 _ _ _ B2.out).trans (show _ = some (.int .i64 o3) from rfl)
  have j14 := (cell_of_row w3 b 14 _ _ _ B1.out).trans (show _ = some (.int .i64 ov) from rfl)
  have i14 := (cell_of_row w3 (b + 1) 14 _ _ _ B2.out).trans (show _ = some (.int .i64 ov) from rfl)
  have j15 := (cell_of_row w3 b 15 _ _ _ B1.out).trans (show _ = some (vl) from rfl)
  have i15 := (cell_of_row w3 (b + 1) 15 _ _ _ B2.out).trans (show _ = some (ul) from rfl)
  go_wp2_with fail
  refine Calls.mono (hT.out _ hL.out) ?_
  rintro e w4 ⟨rfl, hx1⟩
  replace hL := show Hid (Ext W2 w4) from hL.out.trans hx1
  replace hx := show Hid _ from hx.out.trans hx1
  replace B1 := show Hid _ from keep19 B1.out hx1
  replace B2 := show Hid _ from keep19 B2.out hx1
  clear hx1
  clear j9 i9 j10 i10 j11 i11 j12 i12 j13 i13 j14 i14 j15 i15
  go_wp2
  go_ret
  exact ⟨rfl, hx.out⟩
set_option maxRecDepth 100000 in
set_option maxHeartbeats 2000000 in
theorem Prod_13 (nm : List UInt8) (cn rd kd ev tm gr rt pn o0 o1 o2 o3 ov cp rl cp' rl' : Int) (rs lt  : List (Int × Int)) (hd hd' : List Int) (vr vl vh ur ul uh : Value) (w : World) (hn : rs.length ≤ 30000 ∧ lt.length ≤ 30000 ∧ hd.length ≤ 30000) (s1 : L8.Slp w vr rs) (s2 : L8.Slp w vl lt) (s3 : L8.Slc w vh hd) (s4 : L8.Slp w ur rs) (s5 : L8.Slp w ul lt) (s6 : L8.Slc w uh hd') (h : ¬ cp = cp') :
    Calls Tryz.prog 16 #[.agg #[.string ⟨nm.toArray⟩, .int .i64 cn, .int .i64 rd, .int .i64 kd, .int .i64 ev, .int .i64 tm, .int .i64 gr, .int .i64 rt, vr, .int .i64 pn, .int .i64 o0, .int .i64 o1, .int .i64 o2, .int .i64 o3, .int .i64 ov, vl, .int .i64 cp, .int .i64 rl, vh], .agg #[.string ⟨nm.toArray⟩, .int .i64 cn, .int .i64 rd, .int .i64 kd, .int .i64 ev, .int .i64 tm, .int .i64 gr, .int .i64 rt, ur, .int .i64 pn, .int .i64 o0, .int .i64 o1, .int .i64 o2, .int .i64 o3, .int .i64 ov, ul, .int .i64 cp', .int .i64 rl', uh]] w fun e w' => e = .returned (.bool false) ∧ Ext w w' := by
  have hb1 := box_prod ⟨nm, cn, rd, kd, ev, tm, gr, rt, rs, pn, o0, o1, o2, o3, ov, lt, cp, rl, hd⟩ vr vl vh (pcells_slp (p := ⟨nm, cn, rd, kd, ev, tm, gr, rt, rs, pn, o0, o1, o2, o3, ov, lt, cp, rl, hd⟩) s1 s2 s3)
  have hb2 := box_prod ⟨nm, cn, rd, kd, ev, tm, gr, rt, rs, pn, o0, o1, o2, o3, ov, lt, cp', rl', hd'⟩ ur ul uh (pcells_slp (p := ⟨nm, cn, rd, kd, ev, tm, gr, rt, rs, pn, o0, o1, o2, o3, ov, lt, cp', rl', hd'⟩) s4 s5 s6)
  unfold pcells at hb1 hb2
  simp only [] at hb1 hb2
  obtain ⟨W1, W2, b, hW1, hb, hW2, hsz, hx, B1, B2⟩ := lay2 w #[.string ⟨nm.toArray⟩, .int .i64 cn, .int .i64 rd, .int .i64 kd, .int .i64 ev, .int .i64 tm, .int .i64 gr, .int .i64 rt, vr, .int .i64 pn, .int .i64 o0, .int .i64 o1, .int .i64 o2, .int .i64 o3, .int .i64 ov, vl, .int .i64 cp, .int .i64 rl, vh] #[.string ⟨nm.toArray⟩, .int .i64 cn, .int .i64 rd, .int .i64 kd, .int .i64 ev, .int .i64 tm, .int .i64 gr, .int .i64 rt, ur, .int .i64 pn, .int .i64 o0, .int .i64 o1, .int .i64 o2, .int .i64 o3, .int .i64 ov, ul, .int .i64 cp', .int .i64 rl', uh] 27 27
  have hR : Hid (∀ W, Ext W2 W → Calls Tryz.prog 28 #[vr, ur] W fun e w' => e = .returned (.bool true) ∧ Ext W w') := fun W hW => PlainR_y vr ur rs W hn.1 (s1.ext (hx.trans hW)) (s4.ext (hx.trans hW))
  have hT : Hid (∀ W, Ext W2 W → Calls Tryz.prog 29 #[vl, ul] W fun e w' => e = .returned (.bool true) ∧ Ext W w') := fun W hW => PlainT_y vl ul lt W hn.2.1 (s2.ext (hx.trans hW)) (s5.ext (hx.trans hW))
  have hq4 := eql4 o0 o1 o2 o3
  clear s1 s2 s3 s4 s5 s6 hn
  replace hx := show Hid _ from hx
  have hL := show Hid (Ext W2 W2) from Ext.refl W2
  replace B1 := show Hid _ from B1
  replace B2 := show Hid _ from B2
  have j0 := (cell_of_row W2 b 0 _ _ _ B1.out).trans (show _ = some (.string ⟨nm.toArray⟩) from rfl)
  have i0 := (cell_of_row W2 (b + 1) 0 _ _ _ B2.out).trans (show _ = some (.string ⟨nm.toArray⟩) from rfl)
  have j1 := (cell_of_row W2 b 1 _ _ _ B1.out).trans (show _ = some (.int .i64 cn) from rfl)
  have i1 := (cell_of_row W2 (b + 1) 1 _ _ _ B2.out).trans (show _ = some (.int .i64 cn) from rfl)
  have j2 := (cell_of_row W2 b 2 _ _ _ B1.out).trans (show _ = some (.int .i64 rd) from rfl)
  have i2 := (cell_of_row W2 (b + 1) 2 _ _ _ B2.out).trans (show _ = some (.int .i64 rd) from rfl)
  have j3 := (cell_of_row W2 b 3 _ _ _ B1.out).trans (show _ = some (.int .i64 kd) from rfl)
  have i3 := (cell_of_row W2 (b + 1) 3 _ _ _ B2.out).trans (show _ = some (.int .i64 kd) from rfl)
  have j4 := (cell_of_row W2 b 4 _ _ _ B1.out).trans (show _ = some (.int .i64 ev) from rfl)
  have i4 := (cell_of_row W2 (b + 1) 4 _ _ _ B2.out).trans (show _ = some (.int .i64 ev) from rfl)
  have j5 := (cell_of_row W2 b 5 _ _ _ B1.out).trans (show _ = some (.int .i64 tm) from rfl)
  have i5 := (cell_of_row W2 (b + 1) 5 _ _ _ B2.out).trans (show _ = some (.int .i64 tm) from rfl)
  have j6 := (cell_of_row W2 b 6 _ _ _ B1.out).trans (show _ = some (.int .i64 gr) from rfl)
  have i6 := (cell_of_row W2 (b + 1) 6 _ _ _ B2.out).trans (show _ = some (.int .i64 gr) from rfl)
  have j7 := (cell_of_row W2 b 7 _ _ _ B1.out).trans (show _ = some (.int .i64 rt) from rfl)
  have i7 := (cell_of_row W2 (b + 1) 7 _ _ _ B2.out).trans (show _ = some (.int .i64 rt) from rfl)
  have j8 := (cell_of_row W2 b 8 _ _ _ B1.out).trans (show _ = some (vr) from rfl)
  have i8 := (cell_of_row W2 (b + 1) 8 _ _ _ B2.out).trans (show _ = some (ur) from rfl)
  go_enter Tryz.func16, Tryz.ntmps16
  go_upto_region 1 with fail
  clear hW1 hW2 hsz hb1 hb2
  go_wp2_with fail
  refine Calls.mono (hR.out _ hL.out) ?_
  rintro e w3 ⟨rfl, hx1⟩
  replace hL := show Hid (Ext W2 w3) from hL.out.trans hx1
  replace hx := show Hid _ from hx.out.trans hx1
  replace B1 := show Hid _ from keep19 B1.out hx1
  replace B2 := show Hid _ from keep19 B2.out hx1
  clear hx1
  clear j0 i0 j1 i1 j2 i2 j3 i3 j4 i4 j5 i5 j6 i6 j7 i7 j8 i8
  have j9 := (cell_of_row w3 b 9 _ _ _ B1.out).trans (show _ = some (.int .i64 pn) from rfl)
  have i9 := (cell_of_row w3 (b + 1) 9 _ _ _ B2.out).trans (show _ = some (.int .i64 pn) from rfl)
  have j10 := (cell_of_row w3 b 10 _ _ _ B1.out).trans (show _ = some (.int .i64 o0) from rfl)
  have i10 := (cell_of_row w3 (b + 1) 10 _ _ _ B2.out).trans (show _ = some (.int .i64 o0) from rfl)
  have j11 := (cell_of_row w3 b 11 _ _ _ B1.out).trans (show _ = some (.int .i64 o1) from rfl)
  have i11 := (cell_of_row w3 (b + 1) 11 _ _ _ B2.out).trans (show _ = some (.int .i64 o1) from rfl)
  have j12 := (cell_of_row w3 b 12 _ _ _ B1.out).trans (show _ = some (.int .i64 o2) from rfl)
  have i12 := (cell_of_row w3 (b + 1) 12 _ _ _ B2.out).trans (show _ = some (.int .i64 o2) from rfl)
  have j13 := (cell_of_row w3 b 13 _ _ _ B1.out).trans (show _ = some (.int .i64 o3) from rfl)
  have i13 := (cell_of_row w3 (b + 1) 13 _ _ _ B2.out).trans (show _ = some (.int .i64 o3) from rfl)
  have j14 := (cell_of_row w3 b 14 _ _ _ B1.out).trans (show _ = some (.int .i64 ov) from rfl)
  have i14 := (cell_of_row w3 (b + 1) 14 _ _ _ B2.out).trans (show _ = some (.int .i64 ov) from rfl)
  have j15 := (cell_of_row w3 b 15 _ _ _ B1.out).trans (show _ = some (vl) from rfl)
  have i15 := (cell_of_row w3 (b + 1) 15 _ _ _ B2.out).trans (show _ = some (ul) from rfl)
  go_wp2_with fail
  refine Calls.mono (hT.out _ hL.out) ?_
  rintro e w4 ⟨rfl, hx1⟩
  replace hL := show Hid (Ext W2 w4) from hL.out.trans hx1
  replace hx := show Hid _ from hx.out.trans hx1
  replace B1 := show Hid _ from keep19 B1.out hx1
  replace B2 := show Hid _ from keep19 B2.out hx1
  clear hx1
  clear j9 i9 j10 i10 j11 i11 j12 i12 j13 i13 j14 i14 j15 i15
  have j16 := (cell_of_row w4 b 16 _ _ _ B1.out).trans (show _ = some (.int .i64 cp) from rfl)
  have i16 := (cell_of_row w4 (b + 1) 16 _ _ _ B2.out).trans (show _ = some (.int .i64 cp') from rfl)
  go_wp2
  go_ret
  exact ⟨rfl, hx.out⟩
set_option maxRecDepth 100000 in
set_option maxHeartbeats 2000000 in
theorem Prod_14 (nm : List UInt8) (cn rd kd ev tm gr rt pn o0 o1 o2 o3 ov cp rl rl' : Int) (rs lt  : List (Int × Int)) (hd hd' : List Int) (vr vl vh ur ul uh : Value) (w : World) (hn : rs.length ≤ 30000 ∧ lt.length ≤ 30000 ∧ hd.length ≤ 30000) (s1 : L8.Slp w vr rs) (s2 : L8.Slp w vl lt) (s3 : L8.Slc w vh hd) (s4 : L8.Slp w ur rs) (s5 : L8.Slp w ul lt) (s6 : L8.Slc w uh hd') (h : ¬ rl = rl') :
    Calls Tryz.prog 16 #[.agg #[.string ⟨nm.toArray⟩, .int .i64 cn, .int .i64 rd, .int .i64 kd, .int .i64 ev, .int .i64 tm, .int .i64 gr, .int .i64 rt, vr, .int .i64 pn, .int .i64 o0, .int .i64 o1, .int .i64 o2, .int .i64 o3, .int .i64 ov, vl, .int .i64 cp, .int .i64 rl, vh], .agg #[.string ⟨nm.toArray⟩, .int .i64 cn, .int .i64 rd, .int .i64 kd, .int .i64 ev, .int .i64 tm, .int .i64 gr, .int .i64 rt, ur, .int .i64 pn, .int .i64 o0, .int .i64 o1, .int .i64 o2, .int .i64 o3, .int .i64 ov, ul, .int .i64 cp, .int .i64 rl', uh]] w fun e w' => e = .returned (.bool false) ∧ Ext w w' := by
  have hb1 := box_prod ⟨nm, cn, rd, kd, ev, tm, gr, rt, rs, pn, o0, o1, o2, o3, ov, lt, cp, rl, hd⟩ vr vl vh (pcells_slp (p := ⟨nm, cn, rd, kd, ev, tm, gr, rt, rs, pn, o0, o1, o2, o3, ov, lt, cp, rl, hd⟩) s1 s2 s3)
  have hb2 := box_prod ⟨nm, cn, rd, kd, ev, tm, gr, rt, rs, pn, o0, o1, o2, o3, ov, lt, cp, rl', hd'⟩ ur ul uh (pcells_slp (p := ⟨nm, cn, rd, kd, ev, tm, gr, rt, rs, pn, o0, o1, o2, o3, ov, lt, cp, rl', hd'⟩) s4 s5 s6)
  unfold pcells at hb1 hb2
  simp only [] at hb1 hb2
  obtain ⟨W1, W2, b, hW1, hb, hW2, hsz, hx, B1, B2⟩ := lay2 w #[.string ⟨nm.toArray⟩, .int .i64 cn, .int .i64 rd, .int .i64 kd, .int .i64 ev, .int .i64 tm, .int .i64 gr, .int .i64 rt, vr, .int .i64 pn, .int .i64 o0, .int .i64 o1, .int .i64 o2, .int .i64 o3, .int .i64 ov, vl, .int .i64 cp, .int .i64 rl, vh] #[.string ⟨nm.toArray⟩, .int .i64 cn, .int .i64 rd, .int .i64 kd, .int .i64 ev, .int .i64 tm, .int .i64 gr, .int .i64 rt, ur, .int .i64 pn, .int .i64 o0, .int .i64 o1, .int .i64 o2, .int .i64 o3, .int .i64 ov, ul, .int .i64 cp, .int .i64 rl', uh] 27 27
  have hR : Hid (∀ W, Ext W2 W → Calls Tryz.prog 28 #[vr, ur] W fun e w' => e = .returned (.bool true) ∧ Ext W w') := fun W hW => PlainR_y vr ur rs W hn.1 (s1.ext (hx.trans hW)) (s4.ext (hx.trans hW))
  have hT : Hid (∀ W, Ext W2 W → Calls Tryz.prog 29 #[vl, ul] W fun e w' => e = .returned (.bool true) ∧ Ext W w') := fun W hW => PlainT_y vl ul lt W hn.2.1 (s2.ext (hx.trans hW)) (s5.ext (hx.trans hW))
  have hq4 := eql4 o0 o1 o2 o3
  clear s1 s2 s3 s4 s5 s6 hn
  replace hx := show Hid _ from hx
  have hL := show Hid (Ext W2 W2) from Ext.refl W2
  replace B1 := show Hid _ from B1
  replace B2 := show Hid _ from B2
  have j0 := (cell_of_row W2 b 0 _ _ _ B1.out).trans (show _ = some (.string ⟨nm.toArray⟩) from rfl)
  have i0 := (cell_of_row W2 (b + 1) 0 _ _ _ B2.out).trans (show _ = some (.string ⟨nm.toArray⟩) from rfl)
  have j1 := (cell_of_row W2 b 1 _ _ _ B1.out).trans (show _ = some (.int .i64 cn) from rfl)
  have i1 := (cell_of_row W2 (b + 1) 1 _ _ _ B2.out).trans (show _ = some (.int .i64 cn) from rfl)
  have j2 := (cell_of_row W2 b 2 _ _ _ B1.out).trans (show _ = some (.int .i64 rd) from rfl)
  have i2 := (cell_of_row W2 (b + 1) 2 _ _ _ B2.out).trans (show _ = some (.int .i64 rd) from rfl)
  have j3 := (cell_of_row W2 b 3 _ _ _ B1.out).trans (show _ = some (.int .i64 kd) from rfl)
  have i3 := (cell_of_row W2 (b + 1) 3 _ _ _ B2.out).trans (show _ = some (.int .i64 kd) from rfl)
  have j4 := (cell_of_row W2 b 4 _ _ _ B1.out).trans (show _ = some (.int .i64 ev) from rfl)
  have i4 := (cell_of_row W2 (b + 1) 4 _ _ _ B2.out).trans (show _ = some (.int .i64 ev) from rfl)
  have j5 := (cell_of_row W2 b 5 _ _ _ B1.out).trans (show _ = some (.int .i64 tm) from rfl)
  have i5 := (cell_of_row W2 (b + 1) 5 _ _ _ B2.out).trans (show _ = some (.int .i64 tm) from rfl)
  have j6 := (cell_of_row W2 b 6 _ _ _ B1.out).trans (show _ = some (.int .i64 gr) from rfl)
  have i6 := (cell_of_row W2 (b + 1) 6 _ _ _ B2.out).trans (show _ = some (.int .i64 gr) from rfl)
  have j7 := (cell_of_row W2 b 7 _ _ _ B1.out).trans (show _ = some (.int .i64 rt) from rfl)
  have i7 := (cell_of_row W2 (b + 1) 7 _ _ _ B2.out).trans (show _ = some (.int .i64 rt) from rfl)
  have j8 := (cell_of_row W2 b 8 _ _ _ B1.out).trans (show _ = some (vr) from rfl)
  have i8 := (cell_of_row W2 (b + 1) 8 _ _ _ B2.out).trans (show _ = some (ur) from rfl)
  go_enter Tryz.func16, Tryz.ntmps16
  go_upto_region 1 with fail
  clear hW1 hW2 hsz hb1 hb2
  go_wp2_with fail
  refine Calls.mono (hR.out _ hL.out) ?_
  rintro e w3 ⟨rfl, hx1⟩
  replace hL := show Hid (Ext W2 w3) from hL.out.trans hx1
  replace hx := show Hid _ from hx.out.trans hx1
  replace B1 := show Hid _ from keep19 B1.out hx1
  replace B2 := show Hid _ from keep19 B2.out hx1
  clear hx1
  clear j0 i0 j1 i1 j2 i2 j3 i3 j4 i4 j5 i5 j6 i6 j7 i7 j8 i8
  have j9 := (cell_of_row w3 b 9 _ _ _ B1.out).trans (show _ = some (.int .i64 pn) from rfl)
  have i9 := (cell_of_row w3 (b + 1) 9 _ _ _ B2.out).trans (show _ = some (.int .i64 pn) from rfl)
  have j10 := (cell_of_row w3 b 10 _ _ _ B1.out).trans (show _ = some (.int .i64 o0) from rfl)
  have i10 := (cell_of_row w3 (b + 1) 10 _ _ _ B2.out).trans (show _ = some (.int .i64 o0) from rfl)
  have j11 := (cell_of_row w3 b 11 _ _ _ B1.out).trans (show _ = some (.int .i64 o1) from rfl)
  have i11 := (cell_of_row w3 (b + 1) 11 _ _ _ B2.out).trans (show _ = some (.int .i64 o1) from rfl)
  have j12 := (cell_of_row w3 b 12 _ _ _ B1.out).trans (show _ = some (.int .i64 o2) from rfl)
  have i12 := (cell_of_row w3 (b + 1) 12 _ _ _ B2.out).trans (show _ = some (.int .i64 o2) from rfl)
  have j13 := (cell_of_row w3 b 13 _ _ _ B1.out).trans (show _ = some (.int .i64 o3) from rfl)
  have i13 := (cell_of_row w3 (b + 1) 13 _ _ _ B2.out).trans (show _ = some (.int .i64 o3) from rfl)
  have j14 := (cell_of_row w3 b 14 _ _ _ B1.out).trans (show _ = some (.int .i64 ov) from rfl)
  have i14 := (cell_of_row w3 (b + 1) 14 _ _ _ B2.out).trans (show _ = some (.int .i64 ov) from rfl)
  have j15 := (cell_of_row w3 b 15 _ _ _ B1.out).trans (show _ = some (vl) from rfl)
  have i15 := (cell_of_row w3 (b + 1) 15 _ _ _ B2.out).trans (show _ = some (ul) from rfl)
  go_wp2_with fail
  refine Calls.mono (hT.out _ hL.out) ?_
  rintro e w4 ⟨rfl, hx1⟩
  replace hL := show Hid (Ext W2 w4) from hL.out.trans hx1
  replace hx := show Hid _ from hx.out.trans hx1
  replace B1 := show Hid _ from keep19 B1.out hx1
  replace B2 := show Hid _ from keep19 B2.out hx1
  clear hx1
  clear j9 i9 j10 i10 j11 i11 j12 i12 j13 i13 j14 i14 j15 i15
  have j16 := (cell_of_row w4 b 16 _ _ _ B1.out).trans (show _ = some (.int .i64 cp) from rfl)
  have i16 := (cell_of_row w4 (b + 1) 16 _ _ _ B2.out).trans (show _ = some (.int .i64 cp) from rfl)
  have j17 := (cell_of_row w4 b 17 _ _ _ B1.out).trans (show _ = some (.int .i64 rl) from rfl)
  have i17 := (cell_of_row w4 (b + 1) 17 _ _ _ B2.out).trans (show _ = some (.int .i64 rl') from rfl)
  go_wp2
  go_ret
  exact ⟨rfl, hx.out⟩
set_option maxRecDepth 100000 in
set_option maxHeartbeats 2000000 in
theorem Prod_15 (nm : List UInt8) (cn rd kd ev tm gr rt pn o0 o1 o2 o3 ov cp rl : Int) (rs lt  : List (Int × Int)) (hd hd' : List Int) (vr vl vh ur ul uh : Value) (w : World) (hn : rs.length ≤ 30000 ∧ lt.length ≤ 30000 ∧ hd.length ≤ 30000) (s1 : L8.Slp w vr rs) (s2 : L8.Slp w vl lt) (s3 : L8.Slc w vh hd) (s4 : L8.Slp w ur rs) (s5 : L8.Slp w ul lt) (s6 : L8.Slc w uh hd') (h : ¬ hd = hd') :
    Calls Tryz.prog 16 #[.agg #[.string ⟨nm.toArray⟩, .int .i64 cn, .int .i64 rd, .int .i64 kd, .int .i64 ev, .int .i64 tm, .int .i64 gr, .int .i64 rt, vr, .int .i64 pn, .int .i64 o0, .int .i64 o1, .int .i64 o2, .int .i64 o3, .int .i64 ov, vl, .int .i64 cp, .int .i64 rl, vh], .agg #[.string ⟨nm.toArray⟩, .int .i64 cn, .int .i64 rd, .int .i64 kd, .int .i64 ev, .int .i64 tm, .int .i64 gr, .int .i64 rt, ur, .int .i64 pn, .int .i64 o0, .int .i64 o1, .int .i64 o2, .int .i64 o3, .int .i64 ov, ul, .int .i64 cp, .int .i64 rl, uh]] w fun e w' => e = .returned (.bool false) ∧ Ext w w' := by
  have hb1 := box_prod ⟨nm, cn, rd, kd, ev, tm, gr, rt, rs, pn, o0, o1, o2, o3, ov, lt, cp, rl, hd⟩ vr vl vh (pcells_slp (p := ⟨nm, cn, rd, kd, ev, tm, gr, rt, rs, pn, o0, o1, o2, o3, ov, lt, cp, rl, hd⟩) s1 s2 s3)
  have hb2 := box_prod ⟨nm, cn, rd, kd, ev, tm, gr, rt, rs, pn, o0, o1, o2, o3, ov, lt, cp, rl, hd'⟩ ur ul uh (pcells_slp (p := ⟨nm, cn, rd, kd, ev, tm, gr, rt, rs, pn, o0, o1, o2, o3, ov, lt, cp, rl, hd'⟩) s4 s5 s6)
  unfold pcells at hb1 hb2
  simp only [] at hb1 hb2
  obtain ⟨W1, W2, b, hW1, hb, hW2, hsz, hx, B1, B2⟩ := lay2 w #[.string ⟨nm.toArray⟩, .int .i64 cn, .int .i64 rd, .int .i64 kd, .int .i64 ev, .int .i64 tm, .int .i64 gr, .int .i64 rt, vr, .int .i64 pn, .int .i64 o0, .int .i64 o1, .int .i64 o2, .int .i64 o3, .int .i64 ov, vl, .int .i64 cp, .int .i64 rl, vh] #[.string ⟨nm.toArray⟩, .int .i64 cn, .int .i64 rd, .int .i64 kd, .int .i64 ev, .int .i64 tm, .int .i64 gr, .int .i64 rt, ur, .int .i64 pn, .int .i64 o0, .int .i64 o1, .int .i64 o2, .int .i64 o3, .int .i64 ov, ul, .int .i64 cp, .int .i64 rl, uh] 27 27
  have hR : Hid (∀ W, Ext W2 W → Calls Tryz.prog 28 #[vr, ur] W fun e w' => e = .returned (.bool true) ∧ Ext W w') := fun W hW => PlainR_y vr ur rs W hn.1 (s1.ext (hx.trans hW)) (s4.ext (hx.trans hW))
  have hT : Hid (∀ W, Ext W2 W → Calls Tryz.prog 29 #[vl, ul] W fun e w' => e = .returned (.bool true) ∧ Ext W w') := fun W hW => PlainT_y vl ul lt W hn.2.1 (s2.ext (hx.trans hW)) (s5.ext (hx.trans hW))
  have hI : Hid (∀ W, Ext W2 W → Calls Tryz.prog 30 #[vh, uh] W fun e w' => e = .returned (.bool false) ∧ Ext W w') := fun W hW => PlainI_n vh uh hd hd' W hn.2.2 h (s3.ext (hx.trans hW)) (s6.ext (hx.trans hW))
  have hq4 := eql4 o0 o1 o2 o3
  clear s1 s2 s3 s4 s5 s6 hn
  replace hx := show Hid _ from hx
  have hL := show Hid (Ext W2 W2) from Ext.refl W2
  replace B1 := show Hid _ from B1
  replace B2 := show Hid _ from B2
  clear h
  have j0 := (cell_of_row W2 b 0 _ _ _ B1.out).trans (show _ = some (.string ⟨nm.toArray⟩) from rfl)
  have i0 := (cell_of_row W2 (b + 1) 0 _ _ _ B2.out).trans (show _ = some (.string ⟨nm.toArray⟩) from rfl)
  have j1 := (cell_of_row W2 b 1 _ _ _ B1.out).trans (show _ = some (.int .i64 cn) from rfl)
  have i1 := (cell_of_row W2 (b + 1) 1 _ _ _ B2.out).trans (show _ = some (.int .i64 cn) from rfl)
  have j2 := (cell_of_row W2 b 2 _ _ _ B1.out).trans (show _ = some (.int .i64 rd) from rfl)
  have i2 := (cell_of_row W2 (b + 1) 2 _ _ _ B2.out).trans (show _ = some (.int .i64 rd) from rfl)
  have j3 := (cell_of_row W2 b 3 _ _ _ B1.out).trans (show _ = some (.int .i64 kd) from rfl)
  have i3 := (cell_of_row W2 (b + 1) 3 _ _ _ B2.out).trans (show _ = some (.int .i64 kd) from rfl)
  have j4 := (cell_of_row W2 b 4 _ _ _ B1.out).trans (show _ = some (.int .i64 ev) from rfl)
  have i4 := (cell_of_row W2 (b + 1) 4 _ _ _ B2.out).trans (show _ = some (.int .i64 ev) from rfl)
  have j5 := (cell_of_row W2 b 5 _ _ _ B1.out).trans (show _ = some (.int .i64 tm) from rfl)
  have i5 := (cell_of_row W2 (b + 1) 5 _ _ _ B2.out).trans (show _ = some (.int .i64 tm) from rfl)
  have j6 := (cell_of_row W2 b 6 _ _ _ B1.out).trans (show _ = some (.int .i64 gr) from rfl)
  have i6 := (cell_of_row W2 (b + 1) 6 _ _ _ B2.out).trans (show _ = some (.int .i64 gr) from rfl)
  have j7 := (cell_of_row W2 b 7 _ _ _ B1.out).trans (show _ = some (.int .i64 rt) from rfl)
  have i7 := (cell_of_row W2 (b + 1) 7 _ _ _ B2.out).trans (show _ = some (.int .i64 rt) from rfl)
  have j8 := (cell_of_row W2 b 8 _ _ _ B1.out).trans (show _ = some (vr) from rfl)
  have i8 := (cell_of_row W2 (b + 1) 8 _ _ _ B2.out).trans (show _ = some (ur) from rfl)
  go_enter Tryz.func16, Tryz.ntmps16
  go_upto_region 1 with fail
  clear hW1 hW2 hsz hb1 hb2
  go_wp2_with fail
  refine Calls.mono (hR.out _ hL.out) ?_
  rintro e w3 ⟨rfl, hx1⟩
  replace hL := show Hid (Ext W2 w3) from hL.out.trans hx1
  replace hx := show Hid _ from hx.out.trans hx1
  replace B1 := show Hid _ from keep19 B1.out hx1
  replace B2 := show Hid _ from keep19 B2.out hx1
  clear hx1
  clear j0 i0 j1 i1 j2 i2 j3 i3 j4 i4 j5 i5 j6 i6 j7 i7 j8 i8
  have j9 := (cell_of_row w3 b 9 _ _ _ B1.out).trans (show _ = some (.int .i64 pn) from rfl)
  have i9 := (cell_of_row w3 (b + 1) 9 _ _ _ B2.out).trans (show _ = some (.int .i64 pn) from rfl)
  have j10 := (cell_of_row w3 b 10 _ _ _ B1.out).trans (show _ = some (.int .i64 o0) from rfl)
  have i10 := (cell_of_row w3 (b + 1) 10 _ _ _ B2.out).trans (show _ = some (.int .i64 o0) from rfl)
  have j11 := (cell_of_row w3 b 11 _ _ _ B1.out).trans (show _ = some (.int .i64 o1) from rfl)
  have i11 := (cell_of_row w3 (b + 1) 11 _ _ _ B2.out).trans (show _ = some (.int .i64 o1) from rfl)
  have j12 := (cell_of_row w3 b 12 _ _ _ B1.out).trans (show _ = some (.int .i64 o2) from rfl)
  have i12 := (cell_of_row w3 (b + 1) 12 _ _ _ B2.out).trans (show _ = some (.int .i64 o2) from rfl)
  have j13 := (cell_of_row w3 b 13 _ _ _ B1.out).trans (show _ = some (.int .i64 o3) from rfl)
  have i13 := (cell_of_row w3 (b + 1) 13 _ _ _ B2.out).trans (show _ = some (.int .i64 o3) from rfl)
  have j14 := (cell_of_row w3 b 14 _ _ _ B1.out).trans (show _ = some (.int .i64 ov) from rfl)
  have i14 := (cell_of_row w3 (b + 1) 14 _ _ _ B2.out).trans (show _ = some (.int .i64 ov) from rfl)
  have j15 := (cell_of_row w3 b 15 _ _ _ B1.out).trans (show _ = some (vl) from rfl)
  have i15 := (cell_of_row w3 (b + 1) 15 _ _ _ B2.out).trans (show _ = some (ul) from rfl)
  go_wp2_with fail
  refine Calls.mono (hT.out _ hL.out) ?_
  rintro e w4 ⟨rfl, hx1⟩
  replace hL := show Hid (Ext W2 w4) from hL.out.trans hx1
  replace hx := show Hid _ from hx.out.trans hx1
  replace B1 := show Hid _ from keep19 B1.out hx1
  replace B2 := show Hid _ from keep19 B2.out hx1
  clear hx1
  clear j9 i9 j10 i10 j11 i11 j12 i12 j13 i13 j14 i14 j15 i15
  have j16 := (cell_of_row w4 b 16 _ _ _ B1.out).trans (show _ = some (.int .i64 cp) from rfl)
  have i16 := (cell_of_row w4 (b + 1) 16 _ _ _ B2.out).trans (show _ = some (.int .i64 cp) from rfl)
  have j17 := (cell_of_row w4 b 17 _ _ _ B1.out).trans (show _ = some (.int .i64 rl) from rfl)
  have i17 := (cell_of_row w4 (b + 1) 17 _ _ _ B2.out).trans (show _ = some (.int .i64 rl) from rfl)
  have j18 := (cell_of_row w4 b 18 _ _ _ B1.out).trans (show _ = some (vh) from rfl)
  have i18 := (cell_of_row w4 (b + 1) 18 _ _ _ B2.out).trans (show _ = some (uh) from rfl)
  go_wp2_with fail
  refine Calls.mono (hI.out _ hL.out) ?_
  rintro e w5 ⟨rfl, hx1⟩
  replace hL := show Hid (Ext W2 w5) from hL.out.trans hx1
  replace hx := show Hid _ from hx.out.trans hx1
  replace B1 := show Hid _ from keep19 B1.out hx1
  replace B2 := show Hid _ from keep19 B2.out hx1
  clear hx1
  clear j16 i16 j17 i17 j18 i18
  go_wp2
  go_ret
  exact ⟨rfl, hx.out⟩
end Go.Proofs.YtaafagggjnemgaaGreatDoor
