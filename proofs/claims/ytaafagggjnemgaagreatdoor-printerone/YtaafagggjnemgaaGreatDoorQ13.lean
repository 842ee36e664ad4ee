/- Contracts that the proof of this law leans on: no statement of the seat is proved here. -/
import Derived.Test.YtaafagggjnemgaaGreatDoorQ12

namespace Go.Proofs.YtaafagggjnemgaaGreatDoor
open Go.RowKit Go.Lib
set_option linter.unusedVariables false
set_option maxRecDepth 100000 in
set_option maxHeartbeats 2000000 in
theorem Prod_0 (nm nm' : List UInt8) (cn rd kd ev tm gr rt pn o0 o1 o2 o3 ov cp rl cn' rd' kd' ev' tm' gr' rt' pn' o0' o1' o2' o3' ov' cp' rl' : Int) (rs lt rs' lt' : List (Int × Int)) (hd hd' : List Int) (vr vl vh ur ul uh : Value) (w : World) (hn : rs.length ≤ 30000 ∧ lt.length ≤ 30000 ∧ hd.length ≤ 30000) (s1 : L8.Slp w vr rs) (s2 : L8.Slp w vl lt) (s3 : L8.Slc w vh hd) (s4 : L8.Slp w ur rs') (s5 : L8.Slp w ul lt') (s6 : L8.Slc w uh hd') (h : ¬ nm = nm') :
    Calls Tryz.prog 16 #[.agg #[.string ⟨nm.toArray⟩, .int .i64 cn, .int .i64 rd, .int .i64 kd, .int .i64 ev, .int .i64 tm, .int .i64 gr, .int .i64 rt, vr, .int .i64 pn, .int .i64 o0, .int .i64 o1, .int .i64 o2, .int .i64 o3, .int .i64 ov, vl, .int .i64 cp, .int .i64 rl, vh], .agg #[.string ⟨nm'.toArray⟩, .int .i64 cn', .int .i64 rd', .int .i64 kd', .int .i64 ev', .int .i64 tm', .int .i64 gr', .int .i64 rt', ur, .int .i64 pn', .int .i64 o0', .int .i64 o1', .int .i64 o2', .int .i64 o3', .int .i64 ov', ul, .int .i64 cp', .int .i64 rl', uh]] w fun e w' => e = .returned (.bool false) ∧ Ext w w' := by
  have hb1 := box_prod ⟨nm, cn, rd, kd, ev, tm, gr, rt, rs, pn, o0, o1, o2, o3, ov, lt, cp, rl, hd⟩ vr vl vh (pcells_slp (p := ⟨nm, cn, rd, kd, ev, tm, gr, rt, rs, pn, o0, o1, o2, o3, ov, lt, cp, rl, hd⟩) s1 s2 s3)
  have hb2 := box_prod ⟨nm', cn', rd', kd', ev', tm', gr', rt', rs', pn', o0', o1', o2', o3', ov', lt', cp', rl', hd'⟩ ur ul uh (pcells_slp (p := ⟨nm', cn', rd', kd', ev', tm', gr', rt', rs', pn', o0', o1', o2', o3', ov', lt', cp', rl', hd'⟩) s4 s5 s6)
  unfold pcells at hb1 hb2
  simp only [] at hb1 hb2
  obtain ⟨W1, W2, b, hW1, hb, hW2, hsz, hx, B1, B2⟩ := lay2 w #[.string ⟨nm.toArray⟩, .int .i64 cn, .int .i64 rd, .int .i64 kd, .int .i64 ev, .int .i64 tm, .int .i64 gr, .int .i64 rt, vr, .int .i64 pn, .int .i64 o0, .int .i64 o1, .int .i64 o2, .int .i64 o3, .int .i64 ov, vl, .int .i64 cp, .int .i64 rl, vh] #[.string ⟨nm'.toArray⟩, .int .i64 cn', .int .i64 rd', .int .i64 kd', .int .i64 ev', .int .i64 tm', .int .i64 gr', .int .i64 rt', ur, .int .i64 pn', .int .i64 o0', .int .i64 o1', .int .i64 o2', .int .i64 o3', .int .i64 ov', ul, .int .i64 cp', .int .i64 rl', uh] 27 27
  have h' : ¬ (⟨nm.toArray⟩ : ByteArray) = ⟨nm'.toArray⟩ := fun e => h (by have := congrArg (fun x => x.data.toList) e; simpa using this)
  clear s1 s2 s3 s4 s5 s6 hn
  replace hx := show Hid _ from hx
  have hL := show Hid (Ext W2 W2) from Ext.refl W2
  replace B1 := show Hid _ from B1
  replace B2 := show Hid _ from B2
  have j0 := (cell_of_row W2 b 0 _ _ _ B1.out).trans (show _ = some (.string ⟨nm.toArray⟩) from rfl)
  have i0 := (cell_of_row W2 (b + 1) 0 _ _ _ B2.out).trans (show _ = some (.string ⟨nm'.toArray⟩) from rfl)
  go_enter Tryz.func16, Tryz.ntmps16
  go_upto_region 1 with fail
  clear hW1 hW2 hsz hb1 hb2
  go_wp2
  go_ret
  exact ⟨rfl, hx.out⟩
set_option maxRecDepth 100000 in
set_option maxHeartbeats 2000000 in
theorem Prod_1 (nm : List UInt8) (cn rd kd ev tm gr rt pn o0 o1 o2 o3 ov cp rl cn' rd' kd' ev' tm' gr' rt' pn' o0' o1' o2' o3' ov' cp' rl' : Int) (rs lt rs' lt' : List (Int × Int)) (hd hd' : List Int) (vr vl vh ur ul uh : Value) (w : World) (hn : rs.length ≤ 30000 ∧ lt.length ≤ 30000 ∧ hd.length ≤ 30000) (s1 : L8.Slp w vr rs) (s2 : L8.Slp w vl lt) (s3 : L8.Slc w vh hd) (s4 : L8.Slp w ur rs') (s5 : L8.Slp w ul lt') (s6 : L8.Slc w uh hd') (h : ¬ cn = cn') :
    Calls Tryz.prog 16 #[.agg #[.string ⟨nm.toArray⟩, .int .i64 cn, .int .i64 rd, .int .i64 kd, .int .i64 ev, .int .i64 tm, .int .i64 gr, .int .i64 rt, vr, .int .i64 pn, .int .i64 o0, .int .i64 o1, .int .i64 o2, .int .i64 o3, .int .i64 ov, vl, .int .i64 cp, .int .i64 rl, vh], .agg #[.string ⟨nm.toArray⟩, .int .i64 cn', .int .i64 rd', .int .i64 kd', .int .i64 ev', .int .i64 tm', .int .i64 gr', .int .i64 rt', ur, .int .i64 pn', .int .i64 o0', .int .i64 o1', .int .i64 o2', .int .i64 o3', .int .i64 ov', ul, .int .i64 cp', .int .i64 rl', uh]] w fun e w' => e = .returned (.bool false) ∧ Ext w w' := by
  have hb1 := box_prod ⟨nm, cn, rd, kd, ev, tm, gr, rt, rs, pn, o0, o1, o2, o3, ov, lt, cp, rl, hd⟩ vr vl vh (pcells_slp (p := ⟨nm, cn, rd, kd, ev, tm, gr, rt, rs, pn, o0, o1, o2, o3, ov, lt, cp, rl, hd⟩) s1 s2 s3)
  have hb2 := box_prod ⟨nm, cn', rd', kd', ev', tm', gr', rt', rs', pn', o0', o1', o2', o3', ov', lt', cp', rl', hd'⟩ ur ul uh (pcells_slp (p := ⟨nm, cn', rd', kd', ev', tm', gr', rt', rs', pn', o0', o1', o2', o3', ov', lt', cp', rl', hd'⟩) s4 s5 s6)
  unfold pcells at hb1 hb2
  simp only [] at hb1 hb2
  obtain ⟨W1, W2, b, hW1, hb, hW2, hsz, hx, B1, B2⟩ := lay2 w #[.string ⟨nm.toArray⟩, .int .i64 cn, .int .i64 rd, .int .i64 kd, .int .i64 ev, .int .i64 tm, .int .i64 gr, .int .i64 rt, vr, .int .i64 pn, .int .i64 o0, .int .i64 o1, .int .i64 o2, .int .i64 o3, .int .i64 ov, vl, .int .i64 cp, .int .i64 rl, vh] #[.string ⟨nm.toArray⟩, .int .i64 cn', .int .i64 rd', .int .i64 kd', .int .i64 ev', .int .i64 tm', .int .i64 gr', .int .i64 rt', ur, .int .i64 pn', .int .i64 o0', .int .i64 o1', .int .i64 o2', .int .i64 o3', .int .i64 ov', ul, .int .i64 cp', .int .i64 rl', uh] 27 27
  clear s1 s2 s3 s4 s5 s6 hn
  replace hx := show Hid _ from hx
  have hL := show Hid (Ext W2 W2) from Ext.refl W2
  replace B1 := show Hid _ from B1
  replace B2 := show Hid _ from B2
  have j0 := (cell_of_row W2 b 0 _ _ _ B1.out).trans (show _ = some (.string ⟨nm.toArray⟩) from rfl)
  have i0 := (cell_of_row W2 (b + 1) 0 _ _ _ B2.out).trans (show _ = some (.string ⟨nm.toArray⟩) from rfl)
  have j1 := (cell_of_row W2 b 1 _ _ _ B1.out).trans (show _ = some (.int .i64 cn) from rfl)
  have i1 := (cell_of_row W2 (b + 1) 1 _ _ _ B2.out).trans (show _ = some (.int .i64 cn') from rfl)
  go_enter Tryz.func16, Tryz.ntmps16
  go_upto_region 1 with fail
  clear hW1 hW2 hsz hb1 hb2
  go_wp2
  go_ret
  exact ⟨rfl, hx.out⟩
set_option maxRecDepth 100000 in
set_option maxHeartbeats 2000000 in
theorem Prod_2 (nm : List UInt8) (cn rd kd ev tm gr rt pn o0 o1 o2 o3 ov cp rl rd' kd' ev' tm' gr' rt' pn' o0' o1' o2' o3' ov' cp' rl' : Int) (rs lt rs' lt' : List (Int × Int)) (hd hd' : List Int) (vr vl vh ur ul uh : Value) (w : World) (hn : rs.length ≤ 30000 ∧ lt.length ≤ 30000 ∧ hd.length ≤ 30000) (s1 : L8.Slp w vr rs) (s2 : L8.Slp w vl lt) (s3 : L8.Slc w vh hd) (s4 : L8.Slp w ur rs') (s5 : L8.Slp w ul lt') (s6 : L8.Slc w uh hd') (h : ¬ rd = rd') :
    Calls Tryz.prog 16 #[.agg #[.string ⟨nm.toArray⟩, .int .i64 cn, .int .i64 rd, .int .i64 kd, .int .i64 ev, .int .i64 tm, .int .i64 gr, .int .i64 rt, vr, .int .i64 pn, .int .i64 o0, .int .i64 o1, .int .i64 o2, .int .i64 o3, .int .i64 ov, vl, .int .i64 cp, .int .i64 rl, vh], .agg #[.string ⟨nm.toArray⟩, .int .i64 cn, .int .i64 rd', .int .i64 kd', .int .i64 ev', .int .i64 tm', .int .i64 gr', .int .i64 rt', ur, .int .i64 pn', .int .i64 o0', .int .i64 o1', .int .i64 o2', .int .i64 o3', .int .i64 ov', ul, .int .i64 cp', .int .i64 rl', uh]] w fun e w' => e = .returned (.bool false) ∧ Ext w w' := by
  have hb1 := box_prod ⟨nm, cn, rd, kd, ev, tm, gr, rt, rs, pn, o0, o1, o2, o3, ov, lt, cp, rl, hd⟩ vr vl vh (pcells_slp (p := ⟨nm, cn, rd, kd, ev, tm, gr, rt, rs, pn, o0, o1, o2, o3, ov, lt, cp, rl, hd⟩) s1 s2 s3)
  have hb2 := box_prod ⟨nm, cn, rd', kd', ev', tm', gr', rt', rs', pn', o0', o1', o2', o3', ov', lt', cp', rl', hd'⟩ ur ul uh (pcells_slp (p := ⟨nm, cn, rd', kd', ev', tm', gr', rt', rs', pn', o0', o1', o2', o3', ov', lt', cp', rl', hd'⟩) s4 s5 s6)
  unfold pcells at hb1 hb2
  simp only [] at hb1 hb2
  obtain ⟨W1, W2, b, hW1, hb, hW2, hsz, hx, B1, B2⟩ := lay2 w #[.string ⟨nm.toArray⟩, .int .i64 cn, .int .i64 rd, .int .i64 kd, .int .i64 ev, .int .i64 tm, .int .i64 gr, .int .i64 rt, vr, .int .i64 pn, .int .i64 o0, .int .i64 o1, .int .i64 o2, .int .i64 o3, .int .i64 ov, vl, .int .i64 cp, .int .i64 rl, vh] #[.string ⟨nm.toArray⟩, .int .i64 cn, .int .i64 rd', .int .i64 kd', .int .i64 ev', .int .i64 tm', .int .i64 gr', .int .i64 rt', ur, .int .i64 pn', .int .i64 o0', .int .i64 o1', .int .i64 o2', .int .i64 o3', .int .i64 ov', ul, .int .i64 cp', .int .i64 rl', uh] 27 27
  clear s1 s2 s3 s4 s5 s6 hn
  replace hx := show Hid _ from hx
  have hL := show Hid (Ext W2 W2) from Ext.refl W2
  replace B1 := show Hid _ from B1
  replace B2 := show Hid _ from B2
  have j0 := (cell_of_row W2 b 0 _ _ _ B1.out).trans (show _ = some (.string ⟨nm.toArray⟩) from rfl)
  have i0 := (cell_of_row W2 (b + 1) 0 _ _ _ B2.out).trans (show _ = some (.string ⟨nm.toArray⟩) from rfl)
  have j1 := (cell_of_row W2 b 1 _ _ _ B1.out).trans (show _ = some (.int .i64 cn) from rfl)
  have i1 := (cell_of_row W2 (b + 1) 1 _ _ _ B2.out).trans (show _ = some (.int .i64 cn) from rfl)
  have j2 := (cell_of_row W2 b 2 _ _ _ B1.out).trans (show _ = some (.int .i64 rd) from rfl)
  have i2 := (cell_of_row W2 (b + 1) 2 _ _ _ B2.out).trans (show _ = some (.int .i64 rd') from rfl)
  go_enter Tryz.func16, Tryz.ntmps16
  go_upto_region 1 with fail
  clear hW1 hW2 hsz hb1 hb2
  go_wp2
  go_ret
  exact ⟨rfl, hx.out⟩
set_option maxRecDepth 100000 in
set_option maxHeartbeats 2000000 in
theorem Prod_3 (nm : List UInt8) (cn rd kd ev tm gr rt pn o0 o1 o2 o3 ov cp rl kd' ev' tm' gr' rt' pn' o0' o1' o2' o3' ov' cp' rl' : Int) (rs lt rs' lt' : List (Int × Int)) (hd hd' : List Int) (vr vl vh ur ul uh : Value) (w : World) (hn : rs.length ≤ 30000 ∧ lt.length ≤ 30000 ∧ hd.length ≤ 30000) (s1 : L8.Slp w vr rs) (s2 : L8.Slp w vl lt) (s3 : L8.Slc w vh hd) (s4 : L8.Slp w ur rs') (s5 : L8.Slp w ul lt') (s6 : L8.Slc w uh hd') (h : ¬ kd = kd') :
    Calls Tryz.prog 16 #[.agg #[.string ⟨nm.toArray⟩, .int .i64 cn, .int .i64 rd, .int .i64 kd, .int .i64 ev, .int .i64 tm, .int .i64 gr, .int .i64 rt, vr, .int .i64 pn, .int .i64 o0, .int .i64 o1, .int .i64 o2, .int .i64 o3, .int .i64 ov, vl, .int .i64 cp, .int .i64 rl, vh], .agg #[.string ⟨nm.toArray⟩, .int .i64 cn, .int .i64 rd, .int .i64 kd', .int .i64 ev', .int .i64 tm', .int .i64 gr', .int .i64 rt', ur, .int .i64 pn', .int .i64 o0', .int .i64 o1', .int .i64 o2', .int .i64 o3', .int .i64 ov', ul, .int .i64 cp', .int .i64 rl', uh]] w fun e w' => e = .returned (.bool false) ∧ Ext w w' := by
  have hb1 := box_prod ⟨nm, cn, rd, kd, ev, tm, gr, rt, rs, pn, o0, o1, o2, o3, ov, lt, cp, rl, hd⟩ vr vl vh (pcells_slp (p := ⟨nm, cn, rd, kd, ev, tm, gr, rt, rs, pn, o0, o1, o2, o3, ov, lt, cp, rl, hd⟩) s1 s2 s3)
  have hb2 := box_prod ⟨nm, cn, rd, kd', ev', tm', gr', rt', rs', pn', o0', o1', o2', o3', ov', lt', cp', rl', hd'⟩ ur ul uh (pcells_slp (p := ⟨nm, cn, rd, kd', ev', tm', gr', rt', rs', pn', o0', o1', o2', o3', ov', lt', cp', rl', hd'⟩) s4 s5 s6)
  unfold pcells at hb1 hb2
  simp only [] at hb1 hb2
  obtain ⟨W1, W2, b, hW1, hb, hW2, hsz, hx, B1, B2⟩ := lay2 w #[.string ⟨nm.toArray⟩, .int .i64 cn, .int .i64 rd, .int .i64 kd, .int .i64 ev, .int .i64 tm, .int .i64 gr, .int .i64 rt, vr, .int .i64 pn, .int .i64 o0, .int .i64 o1, .int .i64 o2, .int .i64 o3, .int .i64 ov, vl, .int .i64 cp, .int .i64 rl, vh] #[.string ⟨nm.toArray⟩, .int .i64 cn, .int .i64 rd, .int .i64 kd', .int .i64 ev', .int .i64 tm', .int .i64 gr', .int .i64 rt', ur, .int .i64 pn', .int .i64 o0', .int .i64 o1', .int .i64 o2', .int .i64 o3', .int .i64 ov', ul, .int .i64 cp', .int .i64 rl', uh] 27 27
  clear s1 s2 s3 s4 s5 s6 hn
  replace hx := show Hid _ from hx
  have hL := show Hid (Ext W2 W2) from Ext.refl W2
  replace B1 := show Hid _ from B1
  replace B2 := show Hid _ from B2
  have j0 := (cell_of_row W2 b 0 _ _ _ B1.out).trans (show _ = some (.string ⟨nm.toArray⟩) from rfl)
  have i0 := (cell_of_row W2 (b + 1) 0 _ _ _ B2.out).trans (show _ = some (.string ⟨nm.toArray⟩) from rfl)
  have j1 := (cell_of_row W2 b 1 _ _ _ B1.out).trans (show _ = some (.int .i64 cn) from rfl)
  have i1 := (cell_of_row W2 (b + 1) 1 _ _ _ B2.out).trans (show _ = some (.int .i64 cn) from rfl)
  have j2 := (cell_of_row W2 b 2 _ _ _ B1.out).trans (show _ = some (.int .i64 rd) from rfl)
  have i2 := (cell_of_row W2 (b + 1) 2 _ _ _ B2.out).trans (show _ = some (.int .i64 rd) from rfl)
  have j3 := (cell_of_row W2 b 3 _ _ _ B1.out).trans (show _ = some (.int .i64 kd) from rfl)
  have i3 := (cell_of_row W2 (b + 1) 3 _ _ _ B2.out).trans (show _ = some (.int .i64 kd') from rfl)
  go_enter Tryz.func16, Tryz.ntmps16
  go_upto_region 1 with fail
  clear hW1 hW2 hsz hb1 hb2
  go_wp2
  go_ret
  exact ⟨rfl, hx.out⟩
end Go.Proofs.YtaafagggjnemgaaGreatDoor
