/- Contracts that the proof of this law leans on: no statement of the seat is proved here. -/
import Derived.Deep.DeepCutAuto
import Derived.Deep.RegionHeld3
import Derived.LaidEql
import Derived.Test.YtaafagggjnemgaaGreatDoorQ2
import Derived.Test.YtaafagggjnemgaaGreatDoorQ3
import Derived.Test.YtaafagggjnemgaaGreatDoorQ4
import Derived.Test.YtaafagggjnemgaaGreatDoorQ5
import Derived.Test.YtaafagggjnemgaaGreatDoorQ6
import Derived.Test.YtaafagggjnemgaaGreatDoorQ7
import Derived.Test.YtaafagggjnemgaaGreatDoorQ8

namespace Go.Proofs.YtaafagggjnemgaaGreatDoor
open Go.RowKit Go.Lib
set_option linter.unusedVariables false
theorem lay2 (w : World) (cs ds : Array Value) (m n : TypeId) : ∃ W1 W2 b, w.alloc (.cells cs m) = W1 ∧ w.heap.size = b ∧ W1.alloc (.cells ds n) = W2 ∧ W1.heap.size = b + 1 ∧ Ext w W2 ∧ W2.heap[b]? = some (.cells cs m (0, 0)) ∧ W2.heap[b + 1]? = some (.cells ds n (0, 0)) := by
  have hs : (w.alloc (.cells cs m)).heap.size = w.heap.size + 1 := by simp
  refine ⟨_, _, _, rfl, rfl, rfl, hs, ((Ext.refl w).alloc _ _).alloc _ _, ?_, ?_⟩
  · have hx : Ext (w.alloc (.cells cs m)) ((w.alloc (.cells cs m)).alloc (.cells ds n)) := (Ext.refl _).alloc _ _
    rw [hx.below.block _ (by rw [hs]; omega)]
    exact heap_alloc_last w _
  · rw [← hs]
    exact heap_alloc_last _ _
theorem eql4 (a b c d : Int) (w : World) : (binOp .eql 23 (.agg #[.int .i64 a, .int .i64 b, .int .i64 c, .int .i64 d]) (.agg #[.int .i64 a, .int .i64 b, .int .i64 c, .int .i64 d])).run Tryz.prog w = .ok (.bool true) w := by
  have h0 : ∀ (e : Nat) (x : Int), (Op.equalIn (e + 1) 3 (.int .i64 x) (.int .i64 x)).run Tryz.prog w = .ok true w := fun e x => by simp [Op.equalIn, run_underlying Tryz.underlying3]
  have h1 : ∀ (x : Int), (Op.equalIn 9999 3 (.int .i64 x) (.int .i64 x)).run Tryz.prog w = .ok true w := fun x => h0 9998 x
  have h2 : Tryz.prog.underlying 23 = some (.array 4 3) := Tryz.underlying23
  have h3 : (sizeOf 3).run Tryz.prog w = .ok 1 w := by kernel_rfl
  have p0 : (part 3 #[.int .i64 a, .int .i64 b, .int .i64 c, .int .i64 d] 0).run Tryz.prog w = .ok (.int .i64 a) w := by kernel_rfl
  have p1 : (part 3 #[.int .i64 a, .int .i64 b, .int .i64 c, .int .i64 d] 1).run Tryz.prog w = .ok (.int .i64 b) w := by kernel_rfl
  have p2 : (part 3 #[.int .i64 a, .int .i64 b, .int .i64 c, .int .i64 d] 2).run Tryz.prog w = .ok (.int .i64 c) w := by kernel_rfl
  have p3 : (part 3 #[.int .i64 a, .int .i64 b, .int .i64 c, .int .i64 d] 3).run Tryz.prog w = .ok (.int .i64 d) w := by kernel_rfl
  simp only [binOp]
  have h4 : (Op.equalIn (9999 + 1) 23 (.agg #[.int .i64 a, .int .i64 b, .int .i64 c, .int .i64 d]) (.agg #[.int .i64 a, .int .i64 b, .int .i64 c, .int .i64 d])).run Tryz.prog w = .ok true w := by
    rw [Op.equalIn]
    simp [run_underlying h2, h3, List.range', p0, p1, p2, p3, h1]
  simp [Op.equal, Op.maxDepth, h4]
theorem keep19 {w w' : World} {b : Nat} {cs : Array Value} {m : TypeId} (h : w.heap[b]? = some (.cells cs m (0, 0))) (hx : Ext w w') : w'.heap[b]? = some (.cells cs m (0, 0)) := by
  rw [hx.below.block b (Array.getElem?_eq_some_iff.1 h).1]; exact h
set_option maxRecDepth 100000 in
set_option maxHeartbeats 4000000 in
theorem Prod_v (nm : List UInt8) (cn rd kd ev tm gr rt pn o0 o1 o2 o3 ov cp rl : Int) (rs lt : List (Int × Int)) (hd : List Int) (vr vl vh ur ul uh : Value) (w : World) (hn : rs.length ≤ 30000 ∧ lt.length ≤ 30000 ∧ hd.length ≤ 30000) (s1 : L8.Slp w vr rs) (s2 : L8.Slp w vl lt) (s3 : L8.Slc w vh hd) (s4 : L8.Slp w ur rs) (s5 : L8.Slp w ul lt) (s6 : L8.Slc w uh hd)
    (hb1 : ∀ W : World, (Instr.box 27 (.agg #[.string ⟨nm.toArray⟩, .int .i64 cn, .int .i64 rd, .int .i64 kd, .int .i64 ev, .int .i64 tm, .int .i64 gr, .int .i64 rt, vr, .int .i64 pn, .int .i64 o0, .int .i64 o1, .int .i64 o2, .int .i64 o3, .int .i64 ov, vl, .int .i64 cp, .int .i64 rl, vh])).run Tryz.prog W = .ok (.pointer (some ⟨W.heap.size, 0, none⟩)) (W.alloc (.cells #[.string ⟨nm.toArray⟩, .int .i64 cn, .int .i64 rd, .int .i64 kd, .int .i64 ev, .int .i64 tm, .int .i64 gr, .int .i64 rt, vr, .int .i64 pn, .int .i64 o0, .int .i64 o1, .int .i64 o2, .int .i64 o3, .int .i64 ov, vl, .int .i64 cp, .int .i64 rl, vh] 27)))
    (hb2 : ∀ W : World, (Instr.box 27 (.agg #[.string ⟨nm.toArray⟩, .int .i64 cn, .int .i64 rd, .int .i64 kd, .int .i64 ev, .int .i64 tm, .int .i64 gr, .int .i64 rt, ur, .int .i64 pn, .int .i64 o0, .int .i64 o1, .int .i64 o2, .int .i64 o3, .int .i64 ov, ul, .int .i64 cp, .int .i64 rl, uh])).run Tryz.prog W = .ok (.pointer (some ⟨W.heap.size, 0, none⟩)) (W.alloc (.cells #[.string ⟨nm.toArray⟩, .int .i64 cn, .int .i64 rd, .int .i64 kd, .int .i64 ev, .int .i64 tm, .int .i64 gr, .int .i64 rt, ur, .int .i64 pn, .int .i64 o0, .int .i64 o1, .int .i64 o2, .int .i64 o3, .int .i64 ov, ul, .int .i64 cp, .int .i64 rl, uh] 27))) :
    Calls Tryz.prog 16 #[.agg #[.string ⟨nm.toArray⟩, .int .i64 cn, .int .i64 rd, .int .i64 kd, .int .i64 ev, .int .i64 tm, .int .i64 gr, .int .i64 rt, vr, .int .i64 pn, .int .i64 o0, .int .i64 o1, .int .i64 o2, .int .i64 o3, .int .i64 ov, vl, .int .i64 cp, .int .i64 rl, vh], .agg #[.string ⟨nm.toArray⟩, .int .i64 cn, .int .i64 rd, .int .i64 kd, .int .i64 ev, .int .i64 tm, .int .i64 gr, .int .i64 rt, ur, .int .i64 pn, .int .i64 o0, .int .i64 o1, .int .i64 o2, .int .i64 o3, .int .i64 ov, ul, .int .i64 cp, .int .i64 rl, uh]] w fun e w' => e = .returned (.bool true) ∧ Ext w w' := by
  obtain ⟨W1, W2, b, hW1, hb, hW2, hsz, hx, B1, B2⟩ := lay2 w #[.string ⟨nm.toArray⟩, .int .i64 cn, .int .i64 rd, .int .i64 kd, .int .i64 ev, .int .i64 tm, .int .i64 gr, .int .i64 rt, vr, .int .i64 pn, .int .i64 o0, .int .i64 o1, .int .i64 o2, .int .i64 o3, .int .i64 ov, vl, .int .i64 cp, .int .i64 rl, vh] #[.string ⟨nm.toArray⟩, .int .i64 cn, .int .i64 rd, .int .i64 kd, .int .i64 ev, .int .i64 tm, .int .i64 gr, .int .i64 rt, ur, .int .i64 pn, .int .i64 o0, .int .i64 o1, .int .i64 o2, .int .i64 o3, .int .i64 ov, ul, .int .i64 cp, .int .i64 rl, uh] 27 27
  have hR : Hid (∀ W, Ext W2 W → Calls Tryz.prog 28 #[vr, ur] W fun e w' => e = .returned (.bool true) ∧ Ext W w') := fun W hW => PlainR_y vr ur rs W hn.1 (s1.ext (hx.trans hW)) (s4.ext (hx.trans hW))
  have hT : Hid (∀ W, Ext W2 W → Calls Tryz.prog 29 #[vl, ul] W fun e w' => e = .returned (.bool true) ∧ Ext W w') := fun W hW => PlainT_y vl ul lt W hn.2.1 (s2.ext (hx.trans hW)) (s5.ext (hx.trans hW))
  have hI : Hid (∀ W, Ext W2 W → Calls Tryz.prog 30 #[vh, uh] W fun e w' => e = .returned (.bool true) ∧ Ext W w') := fun W hW => PlainI_y vh uh hd W hn.2.2 (s3.ext (hx.trans hW)) (s6.ext (hx.trans hW))
  clear s1 s2 s3 s4 s5 s6 hn
  replace hx := show Hid _ from hx
  have hL := show Hid (Ext W2 W2) from Ext.refl W2
  replace B1 := show Hid _ from B1
  replace B2 := show Hid _ from B2
  have j0 := (cell_of_row W2 b 0 _ _ _ B1.out).trans (show _ = some (.string ⟨nm.toArray⟩) from rfl)
  have i0 := (cell_of_row W2 (b + 1) 0 _ _ _ B2.out).trans (show _ = some (.string ⟨nm.toArray⟩) from rfl)
  have j1 := (cell_of_row W2 b 1 _ _ _ B1.out).trans (show _ = some (.int .i64 cn) from rfl)
  have i1 := (cell_of_row W2 (b + 1) 1 _ _ _ B2.out).trans (show _ = some (.int .i64 cn) from rfl)
  have j2 := (cell_of_row W2 b 2 _ _ _ B1.out).trans (show _ = some (.int .i64 rd) from rfl)
  have i2 := (cell_of_row W2 (b + 1) 2 _ _ _ B2.out).trans (show _ = some (.int .i64 rd) from rfl)
  have j3 := (cell_of_row W2 b 3 _ _ _ B1.out).trans (show _ = some (.int .i64 kd) from rfl)
  have i3 := (cell_of_row W2 (b + 1) 3 _ _ _ B2.out).trans (show _ = some (.int .i64 kd) from rfl)
  have j4 := (cell_of_row W2 b 4 _ _ _ B1.out).trans (show _ = some (.int .i64 ev) from rfl)
  have i4 := (cell_of_row W2 (b + 1) 4 _ _ _ B2.out).trans (show _ = some (.int .i64 ev) from rfl)
  have j5 := (cell_of_row W2 b 5 _ _ _ B1.out).trans (show _ = some (.int .i64 tm) from rfl)
  have i5 := (cell_of_row W2 (b + 1) 5 _ _ _ B2.out).trans (show _ = some (.int .i64 tm) from rfl)
  have j6 := (cell_of_row W2 b 6 _ _ _ B1.out).trans (show _ = some (.int .i64 gr) from rfl)
  have i6 := (cell_of_row W2 (b + 1) 6 _ _ _ B2.out).trans (show _ = some (.int .i64 gr) from rfl)
  have j7 := (cell_of_row W2 b 7 _ _ _ B1.out).trans (show _ = some (.int .i64 rt) from rfl)
  have i7 := (cell_of_row W2 (b + 1) 7 _ _ _ B2.out).trans (show _ = some (.int .i64 rt) from rfl)
  have j8 := (cell_of_row W2 b 8 _ _ _ B1.out).trans (show _ = some (vr) from rfl)
  have i8 := (cell_of_row W2 (b + 1) 8 _ _ _ B2.out).trans (show _ = some (ur) from rfl)
  go_enter Tryz.func16, Tryz.ntmps16
  go_upto_region 1 with fail
  clear hW1 hW2 hsz hb1 hb2
  have hq4 := eql4 o0 o1 o2 o3
  go_wp2_with fail
  refine Calls.mono (hR.out _ hL.out) ?_
  rintro e w3 ⟨rfl, hx1⟩
  replace hL := show Hid (Ext W2 w3) from hL.out.trans hx1
  replace hx := show Hid _ from hx.out.trans hx1
  replace B1 := show Hid _ from keep19 B1.out hx1
  replace B2 := show Hid _ from keep19 B2.out hx1
  clear hx1
  clear j0 i0 j1 i1 j2 i2 j3 i3 j4 i4 j5 i5 j6 i6 j7 i7 j8 i8
  have j9 := (cell_of_row w3 b 9 _ _ _ B1.out).trans (show _ = some (.int .i64 pn) from rfl)
  have i9 := (cell_of_row w3 (b + 1) 9 _ _ _ B2.out).trans (show _ = some (.int .i64 pn) from rfl)
  have j10 := (cell_of_row w3 b 10 _ _ _ B1.out).trans (show _ = some (.int .i64 o0) from rfl)
  have i10 := (cell_of_row w3 (b + 1) 10 _ _ _ B2.out).trans (show _ = some (.int .i64 o0) from rfl)
  have j11 := (cell_of_row w3 b 11 _ _ _ B1.out).trans (show _ = some (.int .i64 o1) from rfl)
  have i11 := (cell_of_row w3 (b + 1) 11 _ _ _ B2.out).trans (show _ = some (.int .i64 o1) from rfl)
  have j12 := (cell_of_row w3 b 12 _ _ _ B1.out).trans (show _ = some (.int .i64 o2) from rfl)
  have i12 := (cell_of_row w3 (b + 1) 12 _ _ _ B2.out).trans (show _ = some (.int .i64 o2) from rfl)
  have j13 := (cell_of_row w3 b 13 _ _ _ B1.out).trans (show _ = some (.int .i64 o3) from rfl)
  have i13 := (cell_of_row w3 (b + 1) 13 _ _ _ B2.out).trans (show _ = some (.int .i64 o3) from rfl)
  have j14 := (cell_of_row w3 b 14 _ _ _ B1.out).trans (show _ = some (.int .i64 ov) from rfl)
  have i14 := (cell_of_row w3 (b + 1) 14 _ _ _ B2.out).trans (show _ = some (.int .i64 ov) from rfl)
  have j15 := (cell_of_row w3 b 15 _ _ _ B1.out).trans (show _ = some (vl) from rfl)
  have i15 := (cell_of_row w3 (b + 1) 15 _ _ _ B2.out).trans (show _ = some (ul) from rfl)
  go_wp2_with fail
  refine Calls.mono (hT.out _ hL.out) ?_
  rintro e w4 ⟨rfl, hx1⟩
  replace hL := show Hid (Ext W2 w4) from hL.out.trans hx1
  replace hx := show Hid _ from hx.out.trans hx1
  replace B1 := show Hid _ from keep19 B1.out hx1
  replace B2 := show Hid _ from keep19 B2.out hx1
  clear hx1
  clear j9 i9 j10 i10 j11 i11 j12 i12 j13 i13 j14 i14 j15 i15
  have j16 := (cell_of_row w4 b 16 _ _ _ B1.out).trans (show _ = some (.int .i64 cp) from rfl)
  have i16 := (cell_of_row w4 (b + 1) 16 _ _ _ B2.out).trans (show _ = some (.int .i64 cp) from rfl)
  have j17 := (cell_of_row w4 b 17 _ _ _ B1.out).trans (show _ = some (.int .i64 rl) from rfl)
  have i17 := (cell_of_row w4 (b + 1) 17 _ _ _ B2.out).trans (show _ = some (.int .i64 rl) from rfl)
  have j18 := (cell_of_row w4 b 18 _ _ _ B1.out).trans (show _ = some (vh) from rfl)
  have i18 := (cell_of_row w4 (b + 1) 18 _ _ _ B2.out).trans (show _ = some (uh) from rfl)
  go_wp2_with fail
  refine Calls.mono (hI.out _ hL.out) ?_
  rintro e w5 ⟨rfl, hx1⟩
  replace hL := show Hid (Ext W2 w5) from hL.out.trans hx1
  replace hx := show Hid _ from hx.out.trans hx1
  replace B1 := show Hid _ from keep19 B1.out hx1
  replace B2 := show Hid _ from keep19 B2.out hx1
  clear hx1
  clear j16 i16 j17 i17 j18 i18
  go_wp2
  go_ret
  exact ⟨rfl, hx.out⟩
theorem box_prod (p : Prd) (vr vl vh : Value) (h1 : (pcells p vr vl vh).all (·.oneCell') = true) : ∀ W : World, (Instr.box 27 (.agg (pcells p vr vl vh))).run Tryz.prog W = .ok (.pointer (some ⟨W.heap.size, 0, none⟩)) (W.alloc (.cells (pcells p vr vl vh) 27)) := (flat_of (cs := pcells p vr vl vh) rfl h1).box
theorem pcells_slp {w : World} {p : Prd} {vr vl vh : Value} (s1 : L8.Slp w vr p.rs) (s2 : L8.Slp w vl p.lt) (s3 : L8.Slc w vh p.hd) : (pcells p vr vl vh).all (·.oneCell') = true := by
  obtain ⟨a1, c1, rfl⟩ := s1.len
  obtain ⟨a2, c2, rfl⟩ := s2.len
  obtain ⟨a3, c3, rfl⟩ := s3.len
  simp [pcells, Value.oneCell']
/-- Two products of the same parts. -/
theorem Prod_c (p : Prd) (vr vl vh ur ul uh : Value) (w : World) (hn : p.rs.length ≤ 30000 ∧ p.lt.length ≤ 30000 ∧ p.hd.length ≤ 30000) (s1 : L8.Slp w vr p.rs) (s2 : L8.Slp w vl p.lt) (s3 : L8.Slc w vh p.hd) (s4 : L8.Slp w ur p.rs) (s5 : L8.Slp w ul p.lt) (s6 : L8.Slc w uh p.hd) :
    Calls Tryz.prog 16 #[.agg (pcells p vr vl vh), .agg (pcells p ur ul uh)] w fun e w' => e = .returned (.bool true) ∧ Ext w w' :=
  Prod_v p.nm p.cn p.rd p.kd p.ev p.tm p.gr p.rt p.pn p.o0 p.o1 p.o2 p.o3 p.ov p.cp p.rl p.rs p.lt p.hd vr vl vh ur ul uh w hn s1 s2 s3 s4 s5 s6 (box_prod p vr vl vh (pcells_slp s1 s2 s3)) (box_prod p ur ul uh (pcells_slp s4 s5 s6))
end Go.Proofs.YtaafagggjnemgaaGreatDoor

namespace Go.Proofs.YtaafagggjnemgaaGreatDoor
open Go.RowKit Go.Lib
set_option linter.unusedVariables false
set_option maxRecDepth 100000 in
set_option maxHeartbeats 1000000 in
theorem newWriter_w (p : Prd) (vr vl vh : Value) (w : World) (sr : L8.Slp w vr p.rs) (sl : L8.Slp w vl p.lt) (sh : L8.Slc w vh p.hd) :
    Calls Tryz.prog 20 #[.agg (pcells p vr vl vh)] w fun e w' => ∃ b, e = .returned (.pointer (some ⟨b, 0, none⟩)) ∧ Wrt w w' b p vr vl vh [] := by
  have hone := pcells_slp sr sl sh
  have hbox := box_prod p vr vl vh hone
  obtain ⟨W1, B, hW1, hB, hx1, hB1⟩ : ∃ W b, w.alloc (.cells (pcells p vr vl vh) 27) = W ∧ w.heap.size = b ∧ Ext w W ∧ Blk W b (pcells p vr vl vh) := ⟨_, _, rfl, rfl, (Ext.refl w).alloc _ _, heap_alloc_last w _⟩
  have hsz : (pcells p vr vl vh).size = 19 := rfl
  obtain ⟨ar, cr, rfl⟩ := sr.len
  obtain ⟨al, cll, rfl⟩ := sl.len
  obtain ⟨ah, ch, rfl⟩ := sh.len
  clear sr sl sh
  have hxs := show Hid _ from hx1
  go_enter Tryz.func20, Tryz.ntmps20
  go_wp2_with (refine load27 hB1 hsz rfl rfl rfl ?_)
  go_ret
  refine ⟨_, rfl, hxs.out.alloc _ _, hxs.out.size, .pointer none, .slice none 0 0, (heap_alloc_last W1 _).trans ?_, Or.inl rfl, World.ownsRow_nil _ _ _ _⟩
  refine congrArg some (congrArg (fun c => Obj.cells c 73 (0, 0)) ?_)
  kernel_rfl
set_option maxRecDepth 100000 in
theorem fitted_w (s : List UInt8) (hs : s.length ≤ 20000) (w : World) :
    Calls Tryz.prog 19 #[.string ⟨s.toArray⟩] w fun e w' => e = .returned (.tuple #[.string ⟨s.toArray⟩, .int .i64 0]) ∧ w' = w := by
  have h1 : ¬ (20000 : Int) < (s.length : Int) := by omega
  go_enter Tryz.func19, Tryz.ntmps19
  go_wp2
  go_ret2
  exact ⟨rfl, rfl⟩
/-- The writer's fifteen methods, bound to it. -/
def fcells (b : Nat) : Array Value := #[.func (.func 68) #[.pointer (some ⟨b, 0, none⟩)] #[], .func (.func 69) #[.pointer (some ⟨b, 0, none⟩)] #[], .func (.func 70) #[.pointer (some ⟨b, 0, none⟩)] #[], .func (.func 71) #[.pointer (some ⟨b, 0, none⟩)] #[], .func (.func 72) #[.pointer (some ⟨b, 0, none⟩)] #[], .func (.func 73) #[.pointer (some ⟨b, 0, none⟩)] #[], .func (.func 74) #[.pointer (some ⟨b, 0, none⟩)] #[], .func (.func 75) #[.pointer (some ⟨b, 0, none⟩)] #[], .func (.func 76) #[.pointer (some ⟨b, 0, none⟩)] #[], .func (.func 77) #[.pointer (some ⟨b, 0, none⟩)] #[], .func (.func 78) #[.pointer (some ⟨b, 0, none⟩)] #[], .func (.func 79) #[.pointer (some ⟨b, 0, none⟩)] #[], .func (.func 80) #[.pointer (some ⟨b, 0, none⟩)] #[], .func (.func 81) #[.pointer (some ⟨b, 0, none⟩)] #[], .func (.func 82) #[.pointer (some ⟨b, 0, none⟩)] #[]]
set_option maxRecDepth 100000 in
theorem clauses_w (b : Nat) (w : World) :
    Calls Tryz.prog 36 #[.pointer (some ⟨b, 0, none⟩)] w fun e w' => (∃ c, e = .returned (.slice (some ⟨c, 0, none⟩) 15 15) ∧ w'.heap[c]? = some (Obj.cells (fcells b) 1 (0, 0)) ∧ w.heap.size ≤ c) ∧ Ext w w' := by
  have hmf := L8.make_func
  have hR : Hid ((w.alloc (.cells (fcells b) 1)).heap[w.heap.size]? = some (Obj.cells (fcells b) 1 (0, 0))) := heap_alloc_last w _
  go_enter Tryz.func36, Tryz.ntmps36
  go_wp2
  go_ret
  exact ⟨⟨_, rfl, hR.out, Nat.le_refl _⟩, (Ext.refl _).alloc _ _⟩
theorem preL_mono (p : Prd) (k : Nat) : ∀ j, (preL p k).length ≤ (preL p (k + j)).length
  | 0 => Nat.le_refl _
  | j + 1 => by
    have := preL_mono p k j
    rw [show k + (j + 1) = (k + j) + 1 from rfl, preL_succ, List.length_append]
    omega
theorem preL_len {p : Prd} (hp : okP p = true) {k : Nat} (hk : k ≤ 15) : (preL p k).length ≤ 19300 := by
  have h1 := preL_mono p k (15 - k)
  rw [show k + (15 - k) = 15 by omega] at h1
  have h2 := prt_len hp
  rw [prt_pre, List.length_append] at h2
  omega
theorem sevenP {p : Prd} (hp : okP p = true) : L8.r7B p.o0 p.o1 p.o2 p.o3 = true := by
  unfold okP at hp
  simp only [Bool.and_eq_true] at hp
  exact hp.2.2.2.2.2.2.2.1
theorem mth0 {w0 : World} {b : Nat} {p : Prd} {vr vl vh : Value} (hp : okP p = true) (he : Hid (Pnv w0)) (sr : L8.Slp w0 vr p.rs) (sl : L8.Slp w0 vl p.lt) (sh : L8.Slc w0 vh p.hd) : ∃ fn : Nat, (fn = 68 ∨ fn = 69 ∨ fn = 70 ∨ fn = 71 ∨ fn = 72 ∨ fn = 73 ∨ fn = 74 ∨ fn = 75 ∨ fn = 76 ∨ fn = 77 ∨ fn = 78 ∨ fn = 79 ∨ fn = 80 ∨ fn = 81 ∨ fn = 82) ∧ (fcells b)[0]? = some (.func (.func fn) #[.pointer (some ⟨b, 0, none⟩)] #[]) ∧ ∀ W, Wrt w0 W b p vr vl vh (preL p 0) → Calls Tryz.prog fn #[.pointer (some ⟨b, 0, none⟩)] W fun e w' => Wrote w0 W w' b p vr vl vh (preL p 0) 0 e := by
  have hK := okf hp
  have h7 := sevenP hp
  have hl := preL_len hp (k := 0) (by omega)
  exact ⟨68, by simp, rfl, fun W hW => count_w w0 W b p vr vl vh _ hK he hW (by omega)⟩
theorem mth1 {w0 : World} {b : Nat} {p : Prd} {vr vl vh : Value} (hp : okP p = true) (he : Hid (Pnv w0)) (sr : L8.Slp w0 vr p.rs) (sl : L8.Slp w0 vl p.lt) (sh : L8.Slc w0 vh p.hd) : ∃ fn : Nat, (fn = 68 ∨ fn = 69 ∨ fn = 70 ∨ fn = 71 ∨ fn = 72 ∨ fn = 73 ∨ fn = 74 ∨ fn = 75 ∨ fn = 76 ∨ fn = 77 ∨ fn = 78 ∨ fn = 79 ∨ fn = 80 ∨ fn = 81 ∨ fn = 82) ∧ (fcells b)[1]? = some (.func (.func fn) #[.pointer (some ⟨b, 0, none⟩)] #[]) ∧ ∀ W, Wrt w0 W b p vr vl vh (preL p 1) → Calls Tryz.prog fn #[.pointer (some ⟨b, 0, none⟩)] W fun e w' => Wrote w0 W w' b p vr vl vh (preL p 1) 1 e := by
  have hK := okf hp
  have h7 := sevenP hp
  have hl := preL_len hp (k := 1) (by omega)
  exact ⟨69, by simp, rfl, fun W hW => round_w w0 W b p vr vl vh _ hK he hW (by omega)⟩
theorem mth2 {w0 : World} {b : Nat} {p : Prd} {vr vl vh : Value} (hp : okP p = true) (he : Hid (Pnv w0)) (sr : L8.Slp w0 vr p.rs) (sl : L8.Slp w0 vl p.lt) (sh : L8.Slc w0 vh p.hd) : ∃ fn : Nat, (fn = 68 ∨ fn = 69 ∨ fn = 70 ∨ fn = 71 ∨ fn = 72 ∨ fn = 73 ∨ fn = 74 ∨ fn = 75 ∨ fn = 76 ∨ fn = 77 ∨ fn = 78 ∨ fn = 79 ∨ fn = 80 ∨ fn = 81 ∨ fn = 82) ∧ (fcells b)[2]? = some (.func (.func fn) #[.pointer (some ⟨b, 0, none⟩)] #[]) ∧ ∀ W, Wrt w0 W b p vr vl vh (preL p 2) → Calls Tryz.prog fn #[.pointer (some ⟨b, 0, none⟩)] W fun e w' => Wrote w0 W w' b p vr vl vh (preL p 2) 2 e := by
  have hK := okf hp
  have h7 := sevenP hp
  have hl := preL_len hp (k := 2) (by omega)
  exact ⟨70, by simp, rfl, fun W hW => kind_w w0 W b p vr vl vh _ hK he hW (by omega)⟩
theorem mth3 {w0 : World} {b : Nat} {p : Prd} {vr vl vh : Value} (hp : okP p = true) (he : Hid (Pnv w0)) (sr : L8.Slp w0 vr p.rs) (sl : L8.Slp w0 vl p.lt) (sh : L8.Slc w0 vh p.hd) : ∃ fn : Nat, (fn = 68 ∨ fn = 69 ∨ fn = 70 ∨ fn = 71 ∨ fn = 72 ∨ fn = 73 ∨ fn = 74 ∨ fn = 75 ∨ fn = 76 ∨ fn = 77 ∨ fn = 78 ∨ fn = 79 ∨ fn = 80 ∨ fn = 81 ∨ fn = 82) ∧ (fcells b)[3]? = some (.func (.func fn) #[.pointer (some ⟨b, 0, none⟩)] #[]) ∧ ∀ W, Wrt w0 W b p vr vl vh (preL p 3) → Calls Tryz.prog fn #[.pointer (some ⟨b, 0, none⟩)] W fun e w' => Wrote w0 W w' b p vr vl vh (preL p 3) 3 e := by
  have hK := okf hp
  have h7 := sevenP hp
  have hl := preL_len hp (k := 3) (by omega)
  exact ⟨71, by simp, rfl, fun W hW => every_w w0 W b p vr vl vh _ hK he hW (by omega)⟩
theorem mth4 {w0 : World} {b : Nat} {p : Prd} {vr vl vh : Value} (hp : okP p = true) (he : Hid (Pnv w0)) (sr : L8.Slp w0 vr p.rs) (sl : L8.Slp w0 vl p.lt) (sh : L8.Slc w0 vh p.hd) : ∃ fn : Nat, (fn = 68 ∨ fn = 69 ∨ fn = 70 ∨ fn = 71 ∨ fn = 72 ∨ fn = 73 ∨ fn = 74 ∨ fn = 75 ∨ fn = 76 ∨ fn = 77 ∨ fn = 78 ∨ fn = 79 ∨ fn = 80 ∨ fn = 81 ∨ fn = 82) ∧ (fcells b)[4]? = some (.func (.func fn) #[.pointer (some ⟨b, 0, none⟩)] #[]) ∧ ∀ W, Wrt w0 W b p vr vl vh (preL p 4) → Calls Tryz.prog fn #[.pointer (some ⟨b, 0, none⟩)] W fun e w' => Wrote w0 W w' b p vr vl vh (preL p 4) 4 e := by
  have hK := okf hp
  have h7 := sevenP hp
  have hl := preL_len hp (k := 4) (by omega)
  exact ⟨72, by simp, rfl, fun W hW => times_w w0 W b p vr vl vh _ hK he hW (by omega)⟩
theorem mth5 {w0 : World} {b : Nat} {p : Prd} {vr vl vh : Value} (hp : okP p = true) (he : Hid (Pnv w0)) (sr : L8.Slp w0 vr p.rs) (sl : L8.Slp w0 vl p.lt) (sh : L8.Slc w0 vh p.hd) : ∃ fn : Nat, (fn = 68 ∨ fn = 69 ∨ fn = 70 ∨ fn = 71 ∨ fn = 72 ∨ fn = 73 ∨ fn = 74 ∨ fn = 75 ∨ fn = 76 ∨ fn = 77 ∨ fn = 78 ∨ fn = 79 ∨ fn = 80 ∨ fn = 81 ∨ fn = 82) ∧ (fcells b)[5]? = some (.func (.func fn) #[.pointer (some ⟨b, 0, none⟩)] #[]) ∧ ∀ W, Wrt w0 W b p vr vl vh (preL p 5) → Calls Tryz.prog fn #[.pointer (some ⟨b, 0, none⟩)] W fun e w' => Wrote w0 W w' b p vr vl vh (preL p 5) 5 e := by
  have hK := okf hp
  have h7 := sevenP hp
  have hl := preL_len hp (k := 5) (by omega)
  exact ⟨73, by simp, rfl, fun W hW => grace_w w0 W b p vr vl vh _ hK he hW (by omega)⟩
theorem mth6 {w0 : World} {b : Nat} {p : Prd} {vr vl vh : Value} (hp : okP p = true) (he : Hid (Pnv w0)) (sr : L8.Slp w0 vr p.rs) (sl : L8.Slp w0 vl p.lt) (sh : L8.Slc w0 vh p.hd) : ∃ fn : Nat, (fn = 68 ∨ fn = 69 ∨ fn = 70 ∨ fn = 71 ∨ fn = 72 ∨ fn = 73 ∨ fn = 74 ∨ fn = 75 ∨ fn = 76 ∨ fn = 77 ∨ fn = 78 ∨ fn = 79 ∨ fn = 80 ∨ fn = 81 ∨ fn = 82) ∧ (fcells b)[6]? = some (.func (.func fn) #[.pointer (some ⟨b, 0, none⟩)] #[]) ∧ ∀ W, Wrt w0 W b p vr vl vh (preL p 6) → Calls Tryz.prog fn #[.pointer (some ⟨b, 0, none⟩)] W fun e w' => Wrote w0 W w' b p vr vl vh (preL p 6) 6 e := by
  have hK := okf hp
  have h7 := sevenP hp
  have hl := preL_len hp (k := 6) (by omega)
  exact ⟨74, by simp, rfl, fun W hW => rate_w w0 W b p vr vl vh _ hK he hW (by omega)⟩
theorem mth7 {w0 : World} {b : Nat} {p : Prd} {vr vl vh : Value} (hp : okP p = true) (he : Hid (Pnv w0)) (sr : L8.Slp w0 vr p.rs) (sl : L8.Slp w0 vl p.lt) (sh : L8.Slc w0 vh p.hd) : ∃ fn : Nat, (fn = 68 ∨ fn = 69 ∨ fn = 70 ∨ fn = 71 ∨ fn = 72 ∨ fn = 73 ∨ fn = 74 ∨ fn = 75 ∨ fn = 76 ∨ fn = 77 ∨ fn = 78 ∨ fn = 79 ∨ fn = 80 ∨ fn = 81 ∨ fn = 82) ∧ (fcells b)[7]? = some (.func (.func fn) #[.pointer (some ⟨b, 0, none⟩)] #[]) ∧ ∀ W, Wrt w0 W b p vr vl vh (preL p 7) → Calls Tryz.prog fn #[.pointer (some ⟨b, 0, none⟩)] W fun e w' => Wrote w0 W w' b p vr vl vh (preL p 7) 7 e := by
  have hK := okf hp
  have h7 := sevenP hp
  have hl := preL_len hp (k := 7) (by omega)
  exact ⟨75, by simp, rfl, fun W hW => penalty_w w0 W b p vr vl vh _ hK he hW (by omega)⟩
theorem mth8 {w0 : World} {b : Nat} {p : Prd} {vr vl vh : Value} (hp : okP p = true) (he : Hid (Pnv w0)) (sr : L8.Slp w0 vr p.rs) (sl : L8.Slp w0 vl p.lt) (sh : L8.Slc w0 vh p.hd) : ∃ fn : Nat, (fn = 68 ∨ fn = 69 ∨ fn = 70 ∨ fn = 71 ∨ fn = 72 ∨ fn = 73 ∨ fn = 74 ∨ fn = 75 ∨ fn = 76 ∨ fn = 77 ∨ fn = 78 ∨ fn = 79 ∨ fn = 80 ∨ fn = 81 ∨ fn = 82) ∧ (fcells b)[8]? = some (.func (.func fn) #[.pointer (some ⟨b, 0, none⟩)] #[]) ∧ ∀ W, Wrt w0 W b p vr vl vh (preL p 8) → Calls Tryz.prog fn #[.pointer (some ⟨b, 0, none⟩)] W fun e w' => Wrote w0 W w' b p vr vl vh (preL p 8) 8 e := by
  have hK := okf hp
  have h7 := sevenP hp
  have hl := preL_len hp (k := 8) (by omega)
  exact ⟨76, by simp, rfl, fun W hW => resets_w w0 W b p vr vl vh _ hK he hW (by omega) sr⟩
theorem mth9 {w0 : World} {b : Nat} {p : Prd} {vr vl vh : Value} (hp : okP p = true) (he : Hid (Pnv w0)) (sr : L8.Slp w0 vr p.rs) (sl : L8.Slp w0 vl p.lt) (sh : L8.Slc w0 vh p.hd) : ∃ fn : Nat, (fn = 68 ∨ fn = 69 ∨ fn = 70 ∨ fn = 71 ∨ fn = 72 ∨ fn = 73 ∨ fn = 74 ∨ fn = 75 ∨ fn = 76 ∨ fn = 77 ∨ fn = 78 ∨ fn = 79 ∨ fn = 80 ∨ fn = 81 ∨ fn = 82) ∧ (fcells b)[9]? = some (.func (.func fn) #[.pointer (some ⟨b, 0, none⟩)] #[]) ∧ ∀ W, Wrt w0 W b p vr vl vh (preL p 9) → Calls Tryz.prog fn #[.pointer (some ⟨b, 0, none⟩)] W fun e w' => Wrote w0 W w' b p vr vl vh (preL p 9) 9 e := by
  have hK := okf hp
  have h7 := sevenP hp
  have hl := preL_len hp (k := 9) (by omega)
  exact ⟨77, by simp, rfl, fun W hW => order_w w0 W b p vr vl vh _ hK he hW (by omega) h7⟩
theorem mth10 {w0 : World} {b : Nat} {p : Prd} {vr vl vh : Value} (hp : okP p = true) (he : Hid (Pnv w0)) (sr : L8.Slp w0 vr p.rs) (sl : L8.Slp w0 vl p.lt) (sh : L8.Slc w0 vh p.hd) : ∃ fn : Nat, (fn = 68 ∨ fn = 69 ∨ fn = 70 ∨ fn = 71 ∨ fn = 72 ∨ fn = 73 ∨ fn = 74 ∨ fn = 75 ∨ fn = 76 ∨ fn = 77 ∨ fn = 78 ∨ fn = 79 ∨ fn = 80 ∨ fn = 81 ∨ fn = 82) ∧ (fcells b)[10]? = some (.func (.func fn) #[.pointer (some ⟨b, 0, none⟩)] #[]) ∧ ∀ W, Wrt w0 W b p vr vl vh (preL p 10) → Calls Tryz.prog fn #[.pointer (some ⟨b, 0, none⟩)] W fun e w' => Wrote w0 W w' b p vr vl vh (preL p 10) 10 e := by
  have hK := okf hp
  have h7 := sevenP hp
  have hl := preL_len hp (k := 10) (by omega)
  exact ⟨78, by simp, rfl, fun W hW => over_w w0 W b p vr vl vh _ hK he hW (by omega)⟩
theorem mth11 {w0 : World} {b : Nat} {p : Prd} {vr vl vh : Value} (hp : okP p = true) (he : Hid (Pnv w0)) (sr : L8.Slp w0 vr p.rs) (sl : L8.Slp w0 vl p.lt) (sh : L8.Slc w0 vh p.hd) : ∃ fn : Nat, (fn = 68 ∨ fn = 69 ∨ fn = 70 ∨ fn = 71 ∨ fn = 72 ∨ fn = 73 ∨ fn = 74 ∨ fn = 75 ∨ fn = 76 ∨ fn = 77 ∨ fn = 78 ∨ fn = 79 ∨ fn = 80 ∨ fn = 81 ∨ fn = 82) ∧ (fcells b)[11]? = some (.func (.func fn) #[.pointer (some ⟨b, 0, none⟩)] #[]) ∧ ∀ W, Wrt w0 W b p vr vl vh (preL p 11) → Calls Tryz.prog fn #[.pointer (some ⟨b, 0, none⟩)] W fun e w' => Wrote w0 W w' b p vr vl vh (preL p 11) 11 e := by
  have hK := okf hp
  have h7 := sevenP hp
  have hl := preL_len hp (k := 11) (by omega)
  exact ⟨79, by simp, rfl, fun W hW => late_w w0 W b p vr vl vh _ hK he hW (by omega) sl⟩
theorem mth12 {w0 : World} {b : Nat} {p : Prd} {vr vl vh : Value} (hp : okP p = true) (he : Hid (Pnv w0)) (sr : L8.Slp w0 vr p.rs) (sl : L8.Slp w0 vl p.lt) (sh : L8.Slc w0 vh p.hd) : ∃ fn : Nat, (fn = 68 ∨ fn = 69 ∨ fn = 70 ∨ fn = 71 ∨ fn = 72 ∨ fn = 73 ∨ fn = 74 ∨ fn = 75 ∨ fn = 76 ∨ fn = 77 ∨ fn = 78 ∨ fn = 79 ∨ fn = 80 ∨ fn = 81 ∨ fn = 82) ∧ (fcells b)[12]? = some (.func (.func fn) #[.pointer (some ⟨b, 0, none⟩)] #[]) ∧ ∀ W, Wrt w0 W b p vr vl vh (preL p 12) → Calls Tryz.prog fn #[.pointer (some ⟨b, 0, none⟩)] W fun e w' => Wrote w0 W w' b p vr vl vh (preL p 12) 12 e := by
  have hK := okf hp
  have h7 := sevenP hp
  have hl := preL_len hp (k := 12) (by omega)
  exact ⟨80, by simp, rfl, fun W hW => cap_w w0 W b p vr vl vh _ hK he hW (by omega)⟩
theorem mth13 {w0 : World} {b : Nat} {p : Prd} {vr vl vh : Value} (hp : okP p = true) (he : Hid (Pnv w0)) (sr : L8.Slp w0 vr p.rs) (sl : L8.Slp w0 vl p.lt) (sh : L8.Slc w0 vh p.hd) : ∃ fn : Nat, (fn = 68 ∨ fn = 69 ∨ fn = 70 ∨ fn = 71 ∨ fn = 72 ∨ fn = 73 ∨ fn = 74 ∨ fn = 75 ∨ fn = 76 ∨ fn = 77 ∨ fn = 78 ∨ fn = 79 ∨ fn = 80 ∨ fn = 81 ∨ fn = 82) ∧ (fcells b)[13]? = some (.func (.func fn) #[.pointer (some ⟨b, 0, none⟩)] #[]) ∧ ∀ W, Wrt w0 W b p vr vl vh (preL p 13) → Calls Tryz.prog fn #[.pointer (some ⟨b, 0, none⟩)] W fun e w' => Wrote w0 W w' b p vr vl vh (preL p 13) 13 e := by
  have hK := okf hp
  have h7 := sevenP hp
  have hl := preL_len hp (k := 13) (by omega)
  exact ⟨81, by simp, rfl, fun W hW => roll_w w0 W b p vr vl vh _ hK he hW (by omega)⟩
theorem mth14 {w0 : World} {b : Nat} {p : Prd} {vr vl vh : Value} (hp : okP p = true) (he : Hid (Pnv w0)) (sr : L8.Slp w0 vr p.rs) (sl : L8.Slp w0 vl p.lt) (sh : L8.Slc w0 vh p.hd) : ∃ fn : Nat, (fn = 68 ∨ fn = 69 ∨ fn = 70 ∨ fn = 71 ∨ fn = 72 ∨ fn = 73 ∨ fn = 74 ∨ fn = 75 ∨ fn = 76 ∨ fn = 77 ∨ fn = 78 ∨ fn = 79 ∨ fn = 80 ∨ fn = 81 ∨ fn = 82) ∧ (fcells b)[14]? = some (.func (.func fn) #[.pointer (some ⟨b, 0, none⟩)] #[]) ∧ ∀ W, Wrt w0 W b p vr vl vh (preL p 14) → Calls Tryz.prog fn #[.pointer (some ⟨b, 0, none⟩)] W fun e w' => Wrote w0 W w' b p vr vl vh (preL p 14) 14 e := by
  have hK := okf hp
  have h7 := sevenP hp
  have hl := preL_len hp (k := 14) (by omega)
  exact ⟨82, by simp, rfl, fun W hW => holidays_w w0 W b p vr vl vh _ hK he hW (by omega) sh⟩
/-- What is known of each. -/
theorem mth {w0 : World} {b : Nat} {p : Prd} {vr vl vh : Value} (hp : okP p = true) (he : Hid (Pnv w0)) (sr : L8.Slp w0 vr p.rs) (sl : L8.Slp w0 vl p.lt) (sh : L8.Slc w0 vh p.hd) (k : Nat) (hk : k < 15) : ∃ fn : Nat, (fn = 68 ∨ fn = 69 ∨ fn = 70 ∨ fn = 71 ∨ fn = 72 ∨ fn = 73 ∨ fn = 74 ∨ fn = 75 ∨ fn = 76 ∨ fn = 77 ∨ fn = 78 ∨ fn = 79 ∨ fn = 80 ∨ fn = 81 ∨ fn = 82) ∧ (fcells b)[k]? = some (.func (.func fn) #[.pointer (some ⟨b, 0, none⟩)] #[]) ∧ ∀ W, Wrt w0 W b p vr vl vh (preL p k) → Calls Tryz.prog fn #[.pointer (some ⟨b, 0, none⟩)] W fun e w' => Wrote w0 W w' b p vr vl vh (preL p k) k e := by
  have h : k = 0 ∨ k = 1 ∨ k = 2 ∨ k = 3 ∨ k = 4 ∨ k = 5 ∨ k = 6 ∨ k = 7 ∨ k = 8 ∨ k = 9 ∨ k = 10 ∨ k = 11 ∨ k = 12 ∨ k = 13 ∨ k = 14 := by omega
  rcases h with rfl | rfl | rfl | rfl | rfl | rfl | rfl | rfl | rfl | rfl | rfl | rfl | rfl | rfl | rfl
  · exact mth0 hp he sr sl sh
  · exact mth1 hp he sr sl sh
  · exact mth2 hp he sr sl sh
  · exact mth3 hp he sr sl sh
  · exact mth4 hp he sr sl sh
  · exact mth5 hp he sr sl sh
  · exact mth6 hp he sr sl sh
  · exact mth7 hp he sr sl sh
  · exact mth8 hp he sr sl sh
  · exact mth9 hp he sr sl sh
  · exact mth10 hp he sr sl sh
  · exact mth11 hp he sr sl sh
  · exact mth12 hp he sr sl sh
  · exact mth13 hp he sr sl sh
  · exact mth14 hp he sr sl sh
set_option maxRecDepth 100000 in
set_option maxHeartbeats 4000000 in
theorem all_w (w0 w : World) (b : Nat) (p : Prd) (vr vl vh : Value) (hp : okP p = true) (he : Hid (Pnv w0)) (sr : L8.Slp w0 vr p.rs) (sl : L8.Slp w0 vl p.lt) (sh : L8.Slc w0 vh p.hd) (h : Wrt w0 w b p vr vl vh []) :
    Calls Tryz.prog 21 #[.pointer (some ⟨b, 0, none⟩)] w fun e w' => e = .returned (.string ⟨(prt p).toArray⟩) ∧ Ext w0 w' := by
  have hM := show Hid _ from fun k hk => mth (b := b) hp he sr sl sh k hk
  have hpl := show Hid _ from fun k (hk : k ≤ 15) => preL_len hp hk
  have hpt : Hid (prt p = preL p 15 ++ [125, 10]) := prt_pre p
  have htop : Hid (preL p 0 = 112 :: 114 :: 111 :: 100 :: 117 :: 99 :: 116 :: 32 :: (p.nm ++ [32, 123, 10])) := by
    show _ = _
    unfold preL topL
    rw [show upC p 0 = [] from rfl, rowsL_nil, List.append_nil]
    rfl
  have hnl := (okf hp).nl
  obtain ⟨N, hN⟩ : ∃ N, p.nm = N := ⟨_, rfl⟩
  have hNl : N.length ≤ 20 := by rw [← hN]; exact hnl
  have hc0 : Hid (∀ (W : World) (m : List UInt8), Wrt w0 W b p vr vl vh m → W.cell? ⟨b, 0, none⟩ = some (.string ⟨N.toArray⟩)) := fun W m hW => hW.cell (k := 0) (by decide) (show (wcells p vr vl vh (.pointer none) (.pointer none))[0]? = some (Value.string ⟨N.toArray⟩) from by rw [← hN]; rfl)
  rw [hN] at htop
  have g1 : ¬ 9223372036854775807 < 8 + N.length := by omega
  have g2 : ¬ 9223372036854775807 < 8 + N.length + 3 := by omega
  have g3 : ¬ 9223372036854775807 < 8 + (N.length + 3) := by omega
  have g4 : ¬ 9223372036854775807 < N.length + 8 := by omega
  have g5 : ¬ 9223372036854775807 < N.length + 8 + 3 := by omega
  have g6 : ¬ 9223372036854775807 < N.length + 1 + 1 + 1 + 1 + 1 + 1 + 1 + 1 := by omega
  have g7 : ¬ 9223372036854775807 < N.length + 1 + 1 + 1 + 1 + 1 + 1 + 1 + 1 + 3 := by omega
  have hWS := show Hid _ from fun (W : World) (hW : Wrt w0 W b p vr vl vh []) => WriteString_w w0 W b p vr vl vh [] (112 :: 114 :: 111 :: 100 :: 117 :: 99 :: 116 :: 32 :: (N ++ [32, 123, 10])) hW (by simp only [List.length_cons, List.length_append, List.length_nil]; omega)
  have hx0 := show Hid _ from h.ext
  have hcc := show Hid _ from hc0.out w [] h
  replace h := show Hid _ from h
  clear sr sl sh hnl hN hNl
  replace hp := show Hid _ from hp
  go_enter Tryz.func21, Tryz.ntmps21
  go_upto_region 1 with fail
  refine L8.wp_region_thrown (fun W => Ext w0 W ∧ W.cell? ⟨b, 0, none⟩ = some (.string ⟨N.toArray⟩)) (fun a => False) [] (fun t => none) (fun x W => False) (by kernel_rfl) (fun _ _ _ h1 _ h3 => h3.elim) (⟨hx0.out.drew, hcc.out⟩) (fun hSt => ?_)
  obtain ⟨wz, hwz⟩ : ∃ W, W = w.drew := ⟨_, rfl⟩
  rw [← hwz] at hSt ⊢
  have hxz : Hid (Ext w wz) := by rw [hwz]; exact (Ext.refl w).drew
  clear hwz
  refine L8.takeT 0 (oi := { dst := some 5, op := Op.move (Operand.tmp 0), type := 50, pos := "writer.go:21", after := #[], guard := none }) (v := .pointer (some ⟨b, 0, none⟩)) rfl (by kernel_rfl) (by kernel_rfl) (by kernel_rfl) (by decide) (Or.inl ⟨by rfl, fun W hW => ?_⟩) hSt ?_
  · go_simp
  simp only [Act.put, List.setIfInBounds_toArray, List.set_cons_zero, List.set_cons_succ]
  refine L8.takeT 1 (oi := { dst := some 6, op := Op.nilCheck (Operand.tmp 5), type := 0, pos := "writer.go:21", after := #[{ on := 0, ground := Ground.data }], guard := none }) (v := .pointer (some ⟨b, 0, none⟩)) rfl (by kernel_rfl) (by kernel_rfl) (by kernel_rfl) (by decide) (Or.inl ⟨by rfl, fun W hW => ?_⟩) hSt ?_
  · go_simp
  simp only [Act.put, List.setIfInBounds_toArray, List.set_cons_zero, List.set_cons_succ]
  refine L8.takeT 2 (oi := { dst := some 7, op := Op.fieldAddr 73 (Operand.tmp 6) 1, type := 0, pos := "writer.go:21", after := #[{ on := 1, ground := Ground.data }], guard := none }) (v := .pointer (some ⟨b, 19, none⟩)) rfl (by kernel_rfl) (by kernel_rfl) (by kernel_rfl) (by decide) (Or.inl ⟨by rfl, fun W hW => ?_⟩) hSt ?_
  · go_simp
  simp only [Act.put, List.setIfInBounds_toArray, List.set_cons_zero, List.set_cons_succ]
  refine L8.takeT 3 (oi := { dst := some 8, op := Op.move (Operand.tmp 0), type := 50, pos := "writer.go:21", after := #[], guard := none }) (v := .pointer (some ⟨b, 0, none⟩)) rfl (by kernel_rfl) (by kernel_rfl) (by kernel_rfl) (by decide) (Or.inl ⟨by rfl, fun W hW => ?_⟩) hSt ?_
  · go_simp
  simp only [Act.put, List.setIfInBounds_toArray, List.set_cons_zero, List.set_cons_succ]
  refine L8.takeT 4 (oi := { dst := some 9, op := Op.nilCheck (Operand.tmp 8), type := 0, pos := "writer.go:21", after := #[{ on := 3, ground := Ground.data }], guard := none }) (v := .pointer (some ⟨b, 0, none⟩)) rfl (by kernel_rfl) (by kernel_rfl) (by kernel_rfl) (by decide) (Or.inl ⟨by rfl, fun W hW => ?_⟩) hSt ?_
  · go_simp
  simp only [Act.put, List.setIfInBounds_toArray, List.set_cons_zero, List.set_cons_succ]
  refine L8.takeT 5 (oi := { dst := some 10, op := Op.fieldAddr 73 (Operand.tmp 9) 0, type := 0, pos := "writer.go:21", after := #[{ on := 4, ground := Ground.data }], guard := none }) (v := .pointer (some ⟨b, 0, none⟩)) rfl (by kernel_rfl) (by kernel_rfl) (by kernel_rfl) (by decide) (Or.inl ⟨by rfl, fun W hW => ?_⟩) hSt ?_
  · go_simp
  simp only [Act.put, List.setIfInBounds_toArray, List.set_cons_zero, List.set_cons_succ]
  refine L8.takeT 6 (oi := { dst := some 11, op := Op.fieldAddr 27 (Operand.tmp 10) 0, type := 0, pos := "writer.go:21", after := #[{ on := 5, ground := Ground.data }], guard := none }) (v := .pointer (some ⟨b, 0, none⟩)) rfl (by kernel_rfl) (by kernel_rfl) (by kernel_rfl) (by decide) (Or.inl ⟨by rfl, fun W hW => ?_⟩) hSt ?_
  · go_simp
  simp only [Act.put, List.setIfInBounds_toArray, List.set_cons_zero, List.set_cons_succ]
  refine L8.takeT 7 (oi := { dst := some 12, op := Op.load 9 (Operand.tmp 11), type := 9, pos := "writer.go:21", after := #[{ on := 6, ground := Ground.data }], guard := none }) (v := .string ⟨N.toArray⟩) rfl (by kernel_rfl) (by kernel_rfl) (by kernel_rfl) (by decide) (Or.inl ⟨by rfl, fun W hW => ?_⟩) hSt ?_
  · have hWc := (show _ ∧ _ from hW).2
    go_simp
  simp only [Act.put, List.setIfInBounds_toArray, List.set_cons_zero, List.set_cons_succ]
  refine L8.takeT 8 (oi := { dst := some 13, op := Op.binOp BinOp.add 9 (Operand.const (Value.string { data := #[112, 114, 111, 100, 117, 99, 116, 32] })) (Operand.tmp 12) 9, type := 9, pos := "writer.go:21", after := #[{ on := 7, ground := Ground.data }], guard := none }) (v := .string ⟨(112 :: 114 :: 111 :: 100 :: 117 :: 99 :: 116 :: 32 :: N).toArray⟩) rfl (by kernel_rfl) (by kernel_rfl) (by kernel_rfl) (by decide) (Or.inl ⟨by rfl, fun W hW => ?_⟩) hSt ?_
  · go_simp
  simp only [Act.put, List.setIfInBounds_toArray, List.set_cons_zero, List.set_cons_succ]
  refine L8.takeT 9 (oi := { dst := some 14, op := Op.binOp BinOp.add 9 (Operand.tmp 13) (Operand.const (Value.string { data := #[32, 123, 10] })) 9, type := 9, pos := "writer.go:21", after := #[{ on := 8, ground := Ground.data }], guard := none }) (v := .string ⟨(112 :: 114 :: 111 :: 100 :: 117 :: 99 :: 116 :: 32 :: (N ++ [32, 123, 10])).toArray⟩) rfl (by kernel_rfl) (by kernel_rfl) (by kernel_rfl) (by decide) (Or.inl ⟨by rfl, fun W hW => ?_⟩) hSt ?_
  · go_simp
  simp only [Act.put, List.setIfInBounds_toArray, List.set_cons_zero, List.set_cons_succ]
  refine wpAnyH_ready (rs := [10]) (by kernel_rfl) (by simp) ?_
  refine AllReadyH.cons (o := { dst := some 15, op := Op.call { callee := Callee.value (Operand.func 35), args := #[Operand.tmp 7, Operand.tmp 14], argTypes := #[71, 9] }, type := 76, pos := "writer.go:21", after := #[{ on := 2, ground := Ground.data }, { on := 9, ground := Ground.data }], guard := none }) rfl (fun K hK => ?_) AllReadyH.nil
  go_simp
  refine Calls.mono (hWS.out _ (h.out.on hxz.out)) ?_
  rintro e wn ⟨rfl, hWn, hSn⟩
  try dsimp only
  have hE0 : (fun W => Ext w0 W ∧ W.cell? ⟨b, 0, none⟩ = some (.string ⟨N.toArray⟩)) wn := ⟨hWn.ext, hc0.out _ _ hWn⟩
  refine hK.out _ _ hE0 ?_
  clear hK K
  intro _
  try simp only [Act.put, List.setIfInBounds_toArray, List.set_cons_zero, List.set_cons_succ]
  refine wpAnyH_done (by kernel_rfl) (L8.ThrowQ.normal ?_) _
  rw [List.nil_append, ← htop.out] at hWn
  have hW := show Hid _ from hWn
  clear hE0 hWn hSn hSt g1 g2 g3 g4 g5 g6 g7 hWS hcc h hxz htop
  go_wp2_with fail
  refine Calls.mono (clauses_w b wn) ?_
  rintro e w1 ⟨⟨c, rfl, hrow, hcl⟩, hx1⟩
  have hcb : Hid (c ≠ b) := by have := hW.out.lt; show _ ≠ _; omega
  replace hW : Hid (Wrt w0 w1 b p vr vl vh (preL p 0)) := hW.out.on hx1
  replace hrow := show Hid _ from hrow
  clear hx1 hcl
  go_wp2_with fail
  go_loopw [19] (fun i wr => ∃ k : Nat, k ≤ 15 ∧ i = .int .i64 k ∧ Hid (Wrt w0 wr b p vr vl vh (preL p k)) ∧ Hid (wr.heap[c]? = some (Obj.cells (fcells b) 1 (0, 0)))) (fun i _ => 15 - (RowKit.intOf i).toNat)
  case atStart => exact ⟨0, by omega, rfl, hW, hrow⟩
  case round =>
  clear hW hrow
  obtain ⟨k, hk, rfl, hW, hrow⟩ := hrel
  by_cases hlt : k < 15
  · have hki : (k : Int) < 15 := by omega
    have hk0 : (0 : Int) ≤ (k : Int) := by omega
    obtain ⟨fn, hfn, hcell, hcal⟩ := hM.out k hlt
    have ck : wr.cell? ⟨c, k, none⟩ = some (.func (.func fn) #[.pointer (some ⟨b, 0, none⟩)] #[]) := (cell_of_row wr c k _ _ _ hrow.out).trans hcell
    replace hcal := show Hid _ from hcal wr hW.out
    have hsu : Hid (preL p (k + 1) = preL p k ++ rowsL (grpC p k)) := preL_succ p k
    clear hcell hM hc0
    rcases hfn with rfl | rfl | rfl | rfl | rfl | rfl | rfl | rfl | rfl | rfl | rfl | rfl | rfl | rfl | rfl
    all_goals
      go_wp2_with fail
      refine Calls.mono hcal.out ?_
      rintro e w2 ⟨rfl, hW2, hS2⟩
      clear hcal
      rw [← hsu.out] at hW2
      have hrow2 : Hid (w2.heap[c]? = some (Obj.cells (fcells b) 1 (0, 0))) := hS2.keep c _ _ (by decide) hcb.out hrow.out
      replace hW2 := show Hid _ from hW2
      clear hS2 hW hrow ck hsu
      go_wp2
      go_roundw
      case rel => exact ⟨k + 1, by omega, by go_num, hW2, hrow2⟩
      case measure => simp [RowKit.intOf]; omega
  · obtain rfl : k = 15 := by omega
    have hl := hpl.out 15 (Nat.le_refl _)
    clear hM hc0 hrow
    go_wp2_with fail
    refine Calls.mono (WriteString_w w0 wr b p vr vl vh (preL p 15) [125, 10] hW.out (by simp only [List.length_cons, List.length_nil]; omega)) ?_
    rintro e w2 ⟨rfl, hW2, hS2⟩
    rw [← hpt.out] at hW2
    replace hW2 := show Hid _ from hW2
    clear hS2 hW hl
    go_wp2_with fail
    refine Calls.mono (String_w w0 w2 b p vr vl vh (prt p) hW2.out (by rw [hpt.out]; simp)) ?_
    rintro e w3 ⟨rfl, hx3⟩
    replace hx3 := show Hid _ from hx3
    clear hW2
    go_wp2
    go_ret
    exact ⟨rfl, hx3.out⟩
set_option maxRecDepth 100000 in
set_option maxHeartbeats 1000000 in
/-- Print of any product whose lists are so. -/
theorem Print_w (p : Prd) (vr vl vh : Value) (w : World) (he : Hid (Pnv w)) (hnm : p.nm.length ≤ 30000) (hf : p.rs.length + p.lt.length + p.hd.length ≤ 30000) (sr : L8.Slp w vr p.rs) (sl : L8.Slp w vl p.lt) (sh : L8.Slc w vh p.hd) :
    Calls Tryz.prog 10 #[.agg (pcells p vr vl vh)] w fun e w' => e = .returned (.tuple (if okP p then #[.string ⟨(prt p).toArray⟩, .int .i64 0] else #[.string ⟨#[]⟩, .int .i64 9])) ∧ Ext w w' := by
  have hone := pcells_slp sr sl sh
  have hbox := box_prod p vr vl vh hone
  obtain ⟨W1, b, hW1, hb, hx1, hB1⟩ : ∃ W b, w.alloc (.cells (pcells p vr vl vh) 27) = W ∧ w.heap.size = b ∧ Ext w W ∧ Blk W b (pcells p vr vl vh) := ⟨_, _, rfl, rfl, (Ext.refl w).alloc _ _, heap_alloc_last w _⟩
  have hsz : (pcells p vr vl vh).size = 19 := rfl
  have hC := Check_p p vr vl vh W1 hnm hf (sr.ext hx1) (sl.ext hx1) (sh.ext hx1)
  obtain ⟨B, hok⟩ : ∃ B, okP p = B := ⟨_, rfl⟩
  rw [hok] at hC ⊢
  replace hC := show Hid _ from hC
  replace sr : Hid (L8.Slp w vr p.rs) := sr
  replace sl : Hid (L8.Slp w vl p.lt) := sl
  replace sh : Hid (L8.Slc w vh p.hd) := sh
  have hx := show Hid _ from hx1
  go_enter Tryz.func10, Tryz.ntmps10
  go_wp2_with (refine load27 hB1 hsz rfl rfl rfl ?_)
  refine Calls.mono hC.out ?_
  rintro e w2 ⟨rfl, hx2⟩
  replace hB1 := show Hid _ from hB1.ext hx2
  replace hx : Hid (Ext w w2) := hx.out.trans hx2
  clear hC hbox hW1 hb hx1 hx2 hone
  cases B
  case false =>
    simp only [Bool.false_eq_true, if_false]
    go_wp2
    go_ret2
    exact ⟨rfl, hx.out⟩
  simp only [if_true]
  have hB2 := hB1.out
  go_wp2_with (refine load27 hB2 hsz rfl rfl rfl ?_)
  refine Calls.mono (newWriter_w p vr vl vh w2 (sr.out.ext hx.out) (sl.out.ext hx.out) (sh.out.ext hx.out)) ?_
  rintro e w3 ⟨c, rfl, hW⟩
  replace hW := show Hid _ from hW
  clear hB2
  go_wp2_with fail
  refine Calls.mono (all_w w2 w3 c p vr vl vh hok (he.out.ext hx.out) (sr.out.ext hx.out) (sl.out.ext hx.out) (sh.out.ext hx.out) hW.out) ?_
  rintro e w4 ⟨rfl, hx4⟩
  replace hx : Hid (Ext w w4) := hx.out.trans hx4
  clear hx4 hW
  have hpl := prt_len hok
  go_wp2_with fail
  refine Calls.mono (fitted_w (prt p) (by omega) w4) ?_
  rintro e w5 ⟨rfl, rfl⟩
  clear hpl
  go_wp2
  go_ret2
  exact ⟨rfl, hx.out⟩
end Go.Proofs.YtaafagggjnemgaaGreatDoor

namespace Go.Proofs.YtaafagggjnemgaaGreatDoor
open Go.RowKit Go.Lib
set_option linter.unusedVariables false
/-- Package play's plain product. -/
def plnP : Prd := ⟨[104, 111, 109, 101], 2, 1, 1, 1, 12, 0, 60000000, [], 100000000, 1, 2, 3, 4, 1, [], 0, 1, []⟩
theorem plnP_ok : okP plnP = true := by decide +kernel
theorem pln_cells : L8.plainA = pcells plnP (.slice none 0 0) (.slice none 0 0) (.slice none 0 0) := rfl
theorem rows_least : ∀ l : List Cl, 4 * l.length ≤ (rowsL l).length
  | [] => Nat.le_refl _
  | c :: l => by
    have h := rows_least l
    rw [rowsL_cons, List.length_append]
    have e : (rowL c).length = (spL c.ws).length + 4 := by unfold rowL lineL; simp
    simp only [List.length_cons]
    omega
theorem pln_text : ∃ R, prt plnP = [112, 114, 111, 100, 117, 99, 116, 32, 104, 111, 109, 101, 32, 123, 10] ++ R ∧ 48 ≤ R.length := by
  refine ⟨rowsL (cls plnP) ++ [125, 10], rfl, ?_⟩
  have h := rows_least (cls plnP)
  rw [cls_len] at h
  rw [List.length_append]
  have : plnP.rs.length = 0 ∧ plnP.lt.length = 0 ∧ plnP.hd.length = 0 := ⟨rfl, rfl, rfl⟩
  omega
set_option maxRecDepth 100000 in
set_option maxHeartbeats 1000000 in
theorem awake_w (w : World) (he : Hid (Pnv w)) : Calls Tryz.prog 6 #[] w fun e w' => e = .returned (.bool true) ∧ Ext w w' := by
  go_enter Tryz.func6, Tryz.ntmps6
  go_wp2_with fail
  refine (L8.Plain_c _).mono ?_
  rintro e w1 ⟨rfl, hx1⟩
  have hP := Print_w plnP (.slice none 0 0) (.slice none 0 0) (.slice none 0 0) w1 (he.out.ext hx1) (by decide) (by decide) (L8.nilr w1) (L8.nilr w1) (L8.nilh w1)
  rw [← pln_cells, plnP_ok, if_pos rfl] at hP
  obtain ⟨R, hR, hl⟩ := pln_text
  obtain ⟨L, hL⟩ : ∃ L, prt plnP = L := ⟨_, rfl⟩
  rw [hL] at hP hR
  have h1 : (50 : Int) < (L.length : Int) := by rw [hR, List.length_append]; simp only [List.length_cons, List.length_nil]; omega
  have h1n : 50 < L.length := by omega
  have h2 : (15 : Int) ≤ (L.length : Int) := by omega
  have h2n : 15 ≤ L.length := by omega
  have h3 : (⟨L.toArray⟩ : ByteArray).extract 0 15 = ⟨#[112, 114, 111, 100, 117, 99, 116, 32, 104, 111, 109, 101, 32, 123, 10]⟩ := by
    rw [L7.ext_part, hR]
    rfl
  replace hP := show Hid _ from hP
  replace hx1 := show Hid _ from hx1
  clear hR hL hl
  go_wp2_with fail
  refine Calls.mono hP.out ?_
  rintro e w2 ⟨rfl, hx2⟩
  clear hP
  replace hx1 := show Hid _ from hx1.out.trans hx2
  clear hx2
  go_wp2
  go_ret
  exact ⟨rfl, hx1.out⟩
end Go.Proofs.YtaafagggjnemgaaGreatDoor

namespace Go.Proofs.YtaafagggjnemgaaGreatDoor
open Go.RowKit Go.Lib
set_option linter.unusedVariables false
theorem lex_end2 (p : Nat) (r : List UInt8) : L7.lex p ([59, 10] ++ r) = (⟨3, p, [59]⟩ :: (L7.lex (p + 2) r).1, (L7.lex (p + 2) r).2) := by
  rw [L7.lex_piece (T := [⟨3, 0, [59]⟩]) (by kernel_rfl) (by decide) (by decide)]
  simp [L7.shT]
theorem lex_bl (p : Nat) (r : List UInt8) : L7.lex p ([32] ++ r) = ((L7.lex (p + 1) r).1, (L7.lex (p + 1) r).2) := by
  rw [L7.lex_piece (T := []) (by kernel_rfl) (by decide) (by decide)]
  simp
theorem lex_arg {a : List UInt8} (h : Arg a) (p : Nat) {c : UInt8} (hc : L7.closer c = true) (r : List UInt8) : ∃ t, L7.lex p (a ++ (c :: r)) = (t :: (L7.lex (p + a.length) (c :: r)).1, (L7.lex (p + a.length) (c :: r)).2) ∧ t.text = a := by
  obtain ⟨k, hk⟩ := h.ex
  exact ⟨⟨k, p, a⟩, L7.lex_then (hk p) h.no35 (L7.closer_stops hc r), rfl⟩
theorem lex_sp : ∀ (l : List (List UInt8)), l ≠ [] → (∀ a ∈ l, Arg a) → ∀ (p : Nat) (r : List UInt8), ∃ T, L7.lex p (spL l ++ ([59, 10] ++ r)) = (T ++ (L7.lex (p + ((spL l).length + 2)) r).1, (L7.lex (p + ((spL l).length + 2)) r).2) ∧ T.map (·.text) = l ++ [[59]]
  | [], h, _, _, _ => absurd rfl h
  | [a], _, hA, p, r => by
    obtain ⟨t, h1, h2⟩ := lex_arg (hA a (by simp)) p (c := 59) (by decide) (10 :: r)
    refine ⟨[t, ⟨3, p + a.length, [59]⟩], ?_, by simp [h2]⟩
    show L7.lex p (a ++ (59 :: 10 :: r)) = _
    rw [h1, show (59 : UInt8) :: 10 :: r = [59, 10] ++ r from rfl, lex_end2]
    simp [spL, Nat.add_assoc]
  | a :: b :: s, _, hA, p, r => by
    obtain ⟨t, h1, h2⟩ := lex_arg (hA a (by simp)) p (c := 32) (by decide) (spL (b :: s) ++ ([59, 10] ++ r))
    obtain ⟨T, h3, h4⟩ := lex_sp (b :: s) (by simp) (fun x hx => hA x (List.mem_cons_of_mem _ hx)) (p + a.length + 1) r
    refine ⟨t :: T, ?_, by simp [h2, h4]⟩
    rw [show spL (a :: b :: s) ++ ([59, 10] ++ r) = a ++ (32 :: (spL (b :: s) ++ ([59, 10] ++ r))) by simp [spL]]
    rw [h1, show (32 : UInt8) :: (spL (b :: s) ++ ([59, 10] ++ r)) = [32] ++ (spL (b :: s) ++ ([59, 10] ++ r)) from rfl, lex_bl, h3]
    have e : (spL (a :: b :: s)).length = a.length + 1 + (spL (b :: s)).length := by simp [spL]; omega
    rw [e, show p + (a.length + 1 + (spL (b :: s)).length + 2) = p + a.length + 1 + ((spL (b :: s)).length + 2) by omega]
    simp
/-- The words of a clause, and its end. -/
def wrd (c : Cl) : List (List UInt8) := c.ws ++ [[59]]
theorem lex_row {c : Cl} (h : Cls c) (p : Nat) (r : List UInt8) : ∃ T, L7.lex p (rowL c ++ r) = (T ++ (L7.lex (p + (rowL c).length) r).1, (L7.lex (p + (rowL c).length) r).2) ∧ T.map (·.text) = wrd c := by
  obtain ⟨w, args, hw, _⟩ := h.tell
  obtain ⟨T, h1, h2⟩ := lex_sp c.ws (by rw [hw]; simp) h.arg (p + 2) r
  refine ⟨T, ?_, h2⟩
  have e : rowL c ++ r = [32] ++ ([32] ++ (spL c.ws ++ ([59, 10] ++ r))) := by unfold rowL lineL; simp
  have el : (rowL c).length = (spL c.ws).length + 4 := by unfold rowL lineL; simp
  rw [e, lex_bl, lex_bl, h1, el, show p + 2 + ((spL c.ws).length + 2) = p + ((spL c.ws).length + 4) by omega]
theorem lex_rows : ∀ (l : List Cl), (∀ c ∈ l, Cls c) → ∀ (p : Nat) (r : List UInt8), ∃ T, L7.lex p (rowsL l ++ r) = (T ++ (L7.lex (p + (rowsL l).length) r).1, (L7.lex (p + (rowsL l).length) r).2) ∧ T.map (·.text) = l.flatMap wrd
  | [], _, p, r => ⟨[], by simp [rowsL_nil], rfl⟩
  | c :: l, h, p, r => by
    obtain ⟨T, h1, h2⟩ := lex_row (h c (by simp)) p (rowsL l ++ r)
    obtain ⟨S, h3, h4⟩ := lex_rows l (fun d hd => h d (List.mem_cons_of_mem _ hd)) (p + (rowL c).length) r
    refine ⟨T ++ S, ?_, by simp [h2, h4]⟩
    rw [rowsL_cons, List.append_assoc, h1, h3, List.length_append, Nat.add_assoc, List.append_assoc]
theorem lex_prt {p : Prd} (hp : okP p = true) : ∃ t0 t1 t2 T t9, L7.lex 0 (prt p) = (t0 :: t1 :: t2 :: (T ++ [t9]), none) ∧ t0.text = prodL ∧ t1.text = p.nm ∧ t2.text = [123] ∧ T.map (·.text) = (cls p).flatMap wrd ∧ t9.text = [125] := by
  have hK := okf hp
  obtain ⟨t1, h1, e1⟩ := lex_arg (arg_name hK.nm) 8 (c := 32) (by decide) ([123, 10] ++ (rowsL (cls p) ++ [125, 10]))
  obtain ⟨T, h2, e2⟩ := lex_rows (cls p) (cls_all hp) (8 + p.nm.length + 1 + 2) [125, 10]
  refine ⟨⟨1, 0, prodL⟩, t1, ⟨3, 8 + p.nm.length + 1, [123]⟩, T, ⟨3, 8 + p.nm.length + 1 + 2 + (rowsL (cls p)).length, [125]⟩, ?_, rfl, e1, rfl, e2, rfl⟩
  have e : prt p = [112, 114, 111, 100, 117, 99, 116, 32] ++ (p.nm ++ (32 :: ([123, 10] ++ (rowsL (cls p) ++ [125, 10])))) := by unfold prt topL; simp
  rw [e, L7.lex_piece (T := [⟨1, 0, prodL⟩]) (by kernel_rfl) (by decide) (by decide)]
  rw [show 0 + ([112, 114, 111, 100, 117, 99, 116, 32] : List UInt8).length = 8 from rfl, h1]
  rw [show (32 : UInt8) :: ([123, 10] ++ (rowsL (cls p) ++ [125, 10])) = [32] ++ ([123, 10] ++ (rowsL (cls p) ++ [125, 10])) from rfl, lex_bl]
  rw [L7.lex_piece (T := [⟨3, 0, [123]⟩]) (by kernel_rfl) (by decide) (by decide)]
  rw [show 8 + p.nm.length + 1 + ([123, 10] : List UInt8).length = 8 + p.nm.length + 1 + 2 from rfl, h2]
  rw [L7.lex_at (T := [⟨3, 0, [125]⟩]) (by kernel_rfl)]
  simp [L7.shT]
/-- What clauses, one behind the other, come to; and which there were. -/
def runC (l : List Cl) (p : Prd) : Prd := l.foldl (fun q c => c.f q) p
def hadC (l : List Cl) (h : Nat → Bool) : Nat → Bool := l.foldl (fun g c => seen g c.i) h
/-- May each be there? -/
def mayC : List Nat → (Nat → Bool) → Bool
  | [], _ => true
  | i :: l, h => (often i || !h i) && mayC l (seen h i)
theorem map_split {us : List Tok} {l m : List (List UInt8)} (h : us.map (·.text) = l ++ m) : ∃ vs ws, us = vs ++ ws ∧ vs.map (·.text) = l ∧ ws.map (·.text) = m := by
  obtain ⟨vs, ws, h1, h2, h3⟩ := List.map_eq_append_iff.1 h
  exact ⟨vs, ws, h1, h2, h3⟩
theorem map_cons {us : List Tok} {q : List UInt8} {m : List (List UInt8)} (h : us.map (·.text) = q :: m) : ∃ t ws, us = t :: ws ∧ t.text = q ∧ ws.map (·.text) = m := by
  cases us with
  | nil => cases h
  | cons t ws =>
    simp only [List.map_cons, List.cons.injEq] at h
    exact ⟨t, ws, rfl, h.1, h.2⟩
theorem grp_run (d : Nat) : ∀ (l : List Cl), (∀ c ∈ l, Cls c) → ∀ (T rest : List Tok) (p : Prd) (h : Nat → Bool), T.map (·.text) = l.flatMap wrd → mayC (l.map (·.i)) h = true → Fine ⟨T ++ rest, p, h⟩ →
    grpR d ⟨T ++ rest, p, h⟩ = grpR d ⟨rest, runC l p, hadC l h⟩ ∧ Fine ⟨rest, runC l p, hadC l h⟩
  | [], _, T, rest, p, h, hT, _, hf => by
    obtain rfl : T = [] := by simpa using hT
    exact ⟨rfl, hf⟩
  | c :: l, hC, T, rest, p, h, hT, ho, hf => by
    obtain ⟨w, args, hw, hi, h15, hr⟩ := (hC c (by simp)).tell
    rw [List.flatMap_cons] at hT
    obtain ⟨U, V, rfl, hU, hV⟩ := map_split hT
    unfold wrd at hU
    rw [hw, List.cons_append] at hU
    obtain ⟨t, U2, rfl, ht, hU2⟩ := map_cons hU
    obtain ⟨us, E, rfl, hus, hE⟩ := map_split hU2
    obtain ⟨e, rfl, he⟩ := map_one hE
    simp only [List.map_cons, mayC, Bool.and_eq_true] at ho
    have e1 : (t :: (us ++ [e])) ++ V ++ rest = t :: (us ++ e :: (V ++ rest)) := by simp
    rw [e1] at hf ⊢
    obtain ⟨k1, k2⟩ := grp_clause (d := d) (by rw [ht]; exact hi) h15 ho.1 (hr p us (e :: (V ++ rest)) hus) he hf
    rw [k1]
    exact grp_run d l (fun x hx => hC x (List.mem_cons_of_mem _ hx)) V rest _ _ hV ho.2 k2
theorem mayC_app : ∀ (l m : List Nat) (h : Nat → Bool), mayC (l ++ m) h = (mayC l h && mayC m (l.foldl seen h))
  | [], m, h => by simp [mayC]
  | i :: l, m, h => by
    rw [List.cons_append, mayC, mayC, mayC_app l m, List.foldl_cons, Bool.and_assoc]
theorem mayC_rep (i : Nat) (hi : often i = true) : ∀ (n : Nat) (h : Nat → Bool), mayC (List.replicate n i) h = true
  | 0, _ => rfl
  | n + 1, h => by rw [List.replicate_succ, mayC, hi, mayC_rep i hi n]; rfl
theorem seen_rep (i j : Nat) (hj : j ≠ i) : ∀ (n : Nat) (h : Nat → Bool), (List.replicate n i).foldl seen h j = h j
  | 0, _ => rfl
  | n + 1, h => by
    rw [List.replicate_succ, List.foldl_cons, seen_rep i j hj n]
    unfold seen
    rw [show (j == i) = false by simpa using hj, Bool.or_false]
theorem seen_keep (l : List Nat) : ∀ (h : Nat → Bool) (j : Nat), h j = true → l.foldl seen h j = true := by
  induction l with
  | nil => exact fun h j hj => hj
  | cons i l ih => exact fun h j hj => ih _ _ (by unfold seen; rw [hj]; rfl)
theorem hadC_eq (l : List Cl) (h : Nat → Bool) : hadC l h = (l.map (·.i)).foldl seen h := by
  unfold hadC
  rw [List.foldl_map]
theorem idx_cls (p : Prd) : (cls p).map (·.i) = [0, 1, 2, 3, 4, 5, 6, 7] ++ (List.replicate p.rs.length 8 ++ ([12, 13] ++ (List.replicate p.lt.length 9 ++ ([10, 14] ++ List.replicate p.hd.length 11)))) := by
  rw [cls_eq]
  simp only [List.map_append, List.map_cons, List.map_nil, List.map_map]
  have e1 : p.rs.map ((fun c => Cl.i c) ∘ cReset) = List.replicate p.rs.length 8 := by
    rw [List.eq_replicate_iff]
    refine ⟨by simp, fun b hb => ?_⟩
    obtain ⟨x, _, rfl⟩ := List.mem_map.1 hb
    rfl
  have e2 : p.lt.map ((fun c => Cl.i c) ∘ cLate) = List.replicate p.lt.length 9 := by
    rw [List.eq_replicate_iff]
    refine ⟨by simp, fun b hb => ?_⟩
    obtain ⟨x, _, rfl⟩ := List.mem_map.1 hb
    rfl
  have e3 : p.hd.map ((fun c => Cl.i c) ∘ cHol) = List.replicate p.hd.length 11 := by
    rw [List.eq_replicate_iff]
    refine ⟨by simp, fun b hb => ?_⟩
    obtain ⟨x, _, rfl⟩ := List.mem_map.1 hb
    rfl
  rw [e1, e2, e3]
  rfl
theorem seen_two (h : Nat → Bool) (i j k : Nat) (h1 : k ≠ i) (h2 : k ≠ j) : ([i, j] : List Nat).foldl seen h k = h k := by
  show ((h k || k == i) || k == j) = h k
  rw [show (k == i) = false by simpa using h1, show (k == j) = false by simpa using h2, Bool.or_false, Bool.or_false]
theorem may_cls (p : Prd) : mayC ((cls p).map (·.i)) had0 = true := by
  rw [idx_cls]
  rw [mayC_app, mayC_app, mayC_app, mayC_app, mayC_app]
  rw [mayC_rep 8 (by decide), mayC_rep 9 (by decide), mayC_rep 11 (by decide)]
  rw [show mayC [0, 1, 2, 3, 4, 5, 6, 7] had0 = true by decide]
  have one : ∀ (i j : Nat) (h : Nat → Bool), i ≠ j → h i = false → h j = false → mayC [i, j] h = true := by
    intro i j h hij hi hj
    simp [mayC, seen, hi, hj, Ne.symm hij]
  rw [one 12 13 _ (by decide) ?_ ?_, one 10 14 _ (by decide) ?_ ?_]
  · rfl
  · rw [seen_rep 9 10 (by decide), seen_two _ _ _ _ (by decide) (by decide), seen_rep 8 10 (by decide)]; decide
  · rw [seen_rep 9 14 (by decide), seen_two _ _ _ _ (by decide) (by decide), seen_rep 8 14 (by decide)]; decide
  · rw [seen_rep 8 12 (by decide)]; decide
  · rw [seen_rep 8 13 (by decide)]; decide
theorem whole_cls (p : Prd) : whole (hadC (cls p) had0) = true := by
  rw [hadC_eq, idx_cls]
  rw [List.foldl_append, List.foldl_append, List.foldl_append]
  unfold whole
  simp only [Bool.and_eq_true]
  have k : ∀ j, j = 0 ∨ j = 1 ∨ j = 2 ∨ j = 3 ∨ j = 4 ∨ j = 6 → (List.replicate p.lt.length 9 ++ ([10, 14] ++ List.replicate p.hd.length 11)).foldl seen (([12, 13] : List Nat).foldl seen ((List.replicate p.rs.length 8).foldl seen (([0, 1, 2, 3, 4, 5, 6, 7] : List Nat).foldl seen had0))) j = true := by
    intro j hj
    refine seen_keep _ _ _ (seen_keep _ _ _ (seen_keep _ _ _ ?_))
    rcases hj with rfl | rfl | rfl | rfl | rfl | rfl <;> decide
  refine ⟨k 0 (by simp), k 1 (by simp), k 2 (by simp), k 3 (by simp), k 4 (by simp), k 6 (by simp), seen_keep _ _ _ ?_⟩
  simp [seen]
theorem run_rs : ∀ (l : List (Int × Int)) (q : Prd), runC (l.map cReset) q = { q with rs := q.rs ++ l }
  | [], q => by simp [runC]
  | x :: l, q => by
    show runC (l.map cReset) { q with rs := q.rs ++ [x] } = _
    rw [run_rs l]
    simp
theorem run_lt : ∀ (l : List (Int × Int)) (q : Prd), runC (l.map cLate) q = { q with lt := q.lt ++ l }
  | [], q => by simp [runC]
  | x :: l, q => by
    show runC (l.map cLate) { q with lt := q.lt ++ [x] } = _
    rw [run_lt l]
    simp
theorem run_hd : ∀ (l : List Int) (q : Prd), runC (l.map cHol) q = { q with hd := q.hd ++ l }
  | [], q => by simp [runC]
  | x :: l, q => by
    show runC (l.map cHol) { q with hd := q.hd ++ [x] } = _
    rw [run_hd l]
    simp
theorem runC_app (l m : List Cl) (q : Prd) : runC (l ++ m) q = runC m (runC l q) := by unfold runC; rw [List.foldl_append]
theorem run_cls (p : Prd) : runC (cls p) { prd0 with nm := p.nm } = p := by
  rw [cls_eq, runC_app, runC_app, runC_app, runC_app, runC_app, run_rs, run_lt, run_hd]
  cases p
  rfl
/-- What is printed is read as what it is. -/
theorem prs_prt {p : Prd} (hp : okP p = true) : prs (prt p) = .ok p := by
  have hl : (prt p).length ≤ 20000 := by have := prt_len hp; omega
  obtain ⟨t0, t1, t2, T, t9, hx, h0, h1, h2, hT, h9⟩ := lex_prt hp
  have hf := fine_text hx hl { prd0 with nm := p.nm } rfl had0
  rw [prs_of hx hl]
  clear hx
  generalize (prt p).length = N at *
  simp only [List.cons_append, List.append_assoc] at hf ⊢
  have f1 := hf.next (s := ⟨t0 :: t1 :: t2 :: (T ++ ([t9] ++ [⟨0, N, []⟩])), { prd0 with nm := p.nm }, had0⟩) rfl (by rw [h0]; decide)
  have hn := (okf hp).nm
  have hne : p.nm ≠ [] := by
    rintro e
    rw [e] at hn
    exact absurd hn (by decide)
  have f2 := f1.next (s := ⟨t1 :: t2 :: (T ++ ([t9] ++ [⟨0, N, []⟩])), { prd0 with nm := p.nm }, had0⟩) rfl (by rw [h1]; exact hne)
  have f3 := f2.next (s := ⟨t2 :: (T ++ ([t9] ++ [⟨0, N, []⟩])), { prd0 with nm := p.nm }, had0⟩) rfl (by rw [h2]; decide)
  obtain ⟨k1, k2⟩ := grp_run 1 (cls p) (cls_all hp) T ([t9] ++ [⟨0, N, []⟩]) { prd0 with nm := p.nm } had0 hT (may_cls p) f3
  rw [run_cls] at k1
  have hwh := whole_cls p
  generalize hadC (cls p) had0 = H at *
  have hg : grpR 1 (st0 t1.text (T ++ ([t9] ++ [⟨0, N, []⟩]))) = .ok ⟨[⟨0, N, []⟩], p, H⟩ := by
    unfold st0
    rw [h1, k1]
    exact grpR_shut (s := ⟨[t9] ++ [⟨0, N, []⟩], p, H⟩) (t := t9) (ts := [⟨0, N, []⟩]) rfl h9
  obtain ⟨u, hu⟩ : ∃ u : St, u = ⟨[⟨0, N, []⟩], p, H⟩ := ⟨_, rfl⟩
  rw [← hu] at hg
  have e1 : u.ts = ⟨0, N, []⟩ :: [] := by rw [hu]
  have e2 : whole u.had = true := by rw [hu]; exact hwh
  have e3 : u.p = p := by rw [hu]
  have hfin := text_end h0 (by rw [h1]; exact hn) h2 hg e1 rfl e2 (by rw [e3]; exact hp)
  rw [e3] at hfin
  exact hfin
theorem prt_inj {p q : Prd} (hp : okP p = true) (hq : okP q = true) (h : prt p = prt q) : p = q := by
  have h1 := prs_prt hp
  rw [h, prs_prt hq] at h1
  exact (Res.ok.inj h1).symm
/-- No line is empty (b: a line begins here). -/
def gapL : Bool → List UInt8 → Bool
  | _, [] => true
  | b, c :: l => !(b && c == 10) && gapL (c == 10) l
/-- Does a line begin behind it? -/
def finL : Bool → List UInt8 → Bool
  | b, [] => b
  | _, c :: l => finL (c == 10) l
theorem gap_no : ∀ (l r : List UInt8), l.all (· != 10) = true → gapL false (l ++ r) = gapL false r ∧ finL false (l ++ r) = finL false r ∧ l.count 10 = 0
  | [], r, _ => ⟨rfl, rfl, rfl⟩
  | c :: l, r, h => by
    simp only [List.all_cons, Bool.and_eq_true, bne_iff_ne] at h
    obtain ⟨h1, h2, h3⟩ := gap_no l r h.2
    have e : (c == 10) = false := by simpa using h.1
    refine ⟨?_, ?_, ?_⟩
    · rw [List.cons_append, gapL, e, h1]; rfl
    · rw [List.cons_append, finL, e, h2]
    · rw [List.count_cons, h3, e]; rfl
theorem sp_no10 : ∀ (l : List (List UInt8)), (∀ a ∈ l, Arg a) → (spL l).all (· != 10) = true
  | [], _ => rfl
  | [a], h => (h a (by simp)).no10
  | a :: b :: s, h => by
    show (a ++ 32 :: spL (b :: s)).all _ = true
    rw [List.all_append, List.all_cons, (h a (by simp)).no10, sp_no10 (b :: s) (fun x hx => h x (List.mem_cons_of_mem _ hx))]
    rfl
theorem gap_row {c : Cl} (h : Cls c) (r : List UInt8) : gapL true (rowL c ++ r) = gapL true r ∧ finL true (rowL c ++ r) = finL true r ∧ (rowL c).count 10 = 1 := by
  have h1 := sp_no10 c.ws h.arg
  obtain ⟨g1, g2, g3⟩ := gap_no (spL c.ws) (59 :: 10 :: r) h1
  have e : rowL c ++ r = 32 :: 32 :: (spL c.ws ++ (59 :: 10 :: r)) := by unfold rowL lineL; simp
  refine ⟨?_, ?_, ?_⟩
  · rw [e]; simp only [gapL]; rw [show ((32 : UInt8) == 10) = false by decide, g1]; simp [gapL]
  · rw [e]; simp only [finL]; rw [show ((32 : UInt8) == 10) = false by decide, g2]; simp [finL]
  · unfold rowL lineL
    rw [List.count_append, List.count_append, g3]
    decide
theorem gap_rows : ∀ (l : List Cl), (∀ c ∈ l, Cls c) → ∀ r, gapL true (rowsL l ++ r) = gapL true r ∧ finL true (rowsL l ++ r) = finL true r ∧ (rowsL l).count 10 = l.length
  | [], _, r => ⟨rfl, rfl, rfl⟩
  | c :: l, h, r => by
    obtain ⟨g1, g2, g3⟩ := gap_row (h c (by simp)) (rowsL l ++ r)
    obtain ⟨k1, k2, k3⟩ := gap_rows l (fun d hd => h d (List.mem_cons_of_mem _ hd)) r
    rw [rowsL_cons, List.append_assoc]
    exact ⟨g1.trans k1, g2.trans k2, by rw [List.count_append, g3, k3, List.length_cons]; omega⟩
theorem gap_prt {p : Prd} (hp : okP p = true) : gapL true (prt p) = true ∧ finL true (prt p) = true ∧ (prt p).count 10 = 14 + p.rs.length + p.lt.length + p.hd.length := by
  obtain ⟨n1, n2, n3⟩ := gap_no p.nm ([32, 123] ++ (10 :: (rowsL (cls p) ++ [125, 10]))) (arg_name (okf hp).nm).no10
  obtain ⟨r1, r2, r3⟩ := gap_rows (cls p) (cls_all hp) [125, 10]
  have e : prt p = [112, 114, 111, 100, 117, 99, 116, 32] ++ (p.nm ++ ([32, 123] ++ (10 :: (rowsL (cls p) ++ [125, 10])))) := by unfold prt topL; simp
  rw [cls_len] at r3
  refine ⟨?_, ?_, ?_⟩
  · rw [e]
    simp only [List.cons_append, List.nil_append, gapL]
    simp only [List.cons_append, List.nil_append] at n1
    rw [show ((32 : UInt8) == 10) = false by decide, n1]
    simp only [gapL, show ((10 : UInt8) == 10) = true by decide, r1]
    rfl
  · rw [e]
    simp only [List.cons_append, List.nil_append, finL]
    simp only [List.cons_append, List.nil_append] at n2
    rw [show ((32 : UInt8) == 10) = false by decide, n2]
    simp only [finL, show ((10 : UInt8) == 10) = true by decide, r2]
  · have c1 : (10 :: (rowsL (cls p) ++ [125, 10])).count 10 = 14 + p.rs.length + p.lt.length + p.hd.length := by
      rw [List.count_cons, List.count_append, r3]
      have c4 : ([125, 10] : List UInt8).count 10 = 1 := by decide
      rw [c4]
      simp
      omega
    rw [e, List.count_append, List.count_append, List.count_append, n3, c1]
    have c2 : ([112, 114, 111, 100, 117, 99, 116, 32] : List UInt8).count 10 = 0 := by decide
    have c3 : ([32, 123] : List UInt8).count 10 = 0 := by decide
    rw [c2, c3]
    omega
end Go.Proofs.YtaafagggjnemgaaGreatDoor

namespace Go.Proofs.YtaafagggjnemgaaGreatDoor
open Go.RowKit Go.Lib
set_option linter.unusedVariables false
/-- The document's reader: the place of the next sign, the product, the clauses that were there, what is wrong, and where. -/
structure Dst where
  i : Nat
  p : Prd
  had : List (List UInt8)
  e : Nat
  a : Nat
end Go.Proofs.YtaafagggjnemgaaGreatDoor

namespace Go.Proofs.YtaafagggjnemgaaGreatDoor
open Go.RowKit Go.Lib
set_option linter.unusedVariables false
end Go.Proofs.YtaafagggjnemgaaGreatDoor

namespace Go.Proofs.YtaafagggjnemgaaGreatDoor
open Go.RowKit Go.Lib
set_option linter.unusedVariables false
end Go.Proofs.YtaafagggjnemgaaGreatDoor

namespace Go.Proofs.YtaafagggjnemgaaGreatDoor
open Go.RowKit Go.Lib
set_option linter.unusedVariables false
end Go.Proofs.YtaafagggjnemgaaGreatDoor

namespace Go.Proofs.YtaafagggjnemgaaGreatDoor
open Go.RowKit Go.Lib
set_option linter.unusedVariables false
end Go.Proofs.YtaafagggjnemgaaGreatDoor

namespace Go.Proofs.YtaafagggjnemgaaGreatDoor
open Go.RowKit Go.Lib
set_option linter.unusedVariables false
end Go.Proofs.YtaafagggjnemgaaGreatDoor

namespace Go.Proofs.YtaafagggjnemgaaGreatDoor
open Go.RowKit Go.Lib
set_option linter.unusedVariables false
end Go.Proofs.YtaafagggjnemgaaGreatDoor

namespace Go.Proofs.YtaafagggjnemgaaGreatDoor
open Go.RowKit Go.Lib
set_option linter.unusedVariables false
end Go.Proofs.YtaafagggjnemgaaGreatDoor

namespace Go.Proofs.YtaafagggjnemgaaGreatDoor
open Go.RowKit Go.Lib
set_option linter.unusedVariables false
end Go.Proofs.YtaafagggjnemgaaGreatDoor

namespace Go.Proofs.YtaafagggjnemgaaGreatDoor
open Go.RowKit Go.Lib
set_option linter.unusedVariables false
end Go.Proofs.YtaafagggjnemgaaGreatDoor

namespace Go.Proofs.YtaafagggjnemgaaGreatDoor
open Go.RowKit Go.Lib
set_option linter.unusedVariables false
theorem rCheck_p (p : Prd) (vr vl vh : Value) (B : Bool) (hB : okP p = B) (w : World) (hnm : p.nm.length ≤ 30000) (hf : p.rs.length + p.lt.length + p.hd.length ≤ 30000) (sr : L8.Slp w vr p.rs) (sl : L8.Slp w vl p.lt) (sh : L8.Slc w vh p.hd) :
    Calls Tryz.prog 22 #[.agg (pcells p vr vl vh)] w fun e w' => e = .returned (.int .i64 (if B then 0 else 9)) ∧ Ext w w' :=
  L8.rCheck_x p.nm p.cn p.rd p.kd p.ev p.tm p.gr p.rt vr p.rs p.pn p.o0 p.o1 p.o2 p.o3 p.ov vl p.lt p.cp p.rl vh p.hd (if B then 0 else 9) (by rw [← hB]; rfl) w (by omega) (by omega) (by omega) (by omega) sr sl sh
end Go.Proofs.YtaafagggjnemgaaGreatDoor

namespace Go.Proofs.YtaafagggjnemgaaGreatDoor
open Go.RowKit Go.Lib
set_option linter.unusedVariables false
theorem layZ (w : World) : ∃ W b, w.alloc (.cells #[.string ⟨#[]⟩, .int .i64 0, .int .i64 0, .int .i64 0, .int .i64 0, .int .i64 0, .int .i64 0, .int .i64 0, .slice none 0 0, .int .i64 0, .int .i64 0, .int .i64 0, .int .i64 0, .int .i64 0, .int .i64 0, .slice none 0 0, .int .i64 0, .int .i64 0, .slice none 0 0] 27) = W ∧ w.heap.size = b ∧ Ext w W ∧ Blk W b zP := ⟨_, _, rfl, rfl, (Ext.refl w).alloc _ _, heap_alloc_last w _⟩
end Go.Proofs.YtaafagggjnemgaaGreatDoor
