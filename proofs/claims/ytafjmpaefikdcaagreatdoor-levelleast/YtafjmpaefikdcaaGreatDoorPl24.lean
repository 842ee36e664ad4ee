
/- Package play's Product, with at most 24 instalments, as a contract; no statement of the seat is proved here. -/
import Derived.Test.YtafjmpaefikdcaaGreatDoorPly
namespace Go.Proofs.YtafjmpaefikdcaaGreatDoor
open Go.RowKit Go.Lib
set_option linter.unusedVariables false
set_option maxRecDepth 100000 in
set_option maxHeartbeats 4000000 in
theorem Play_24 (p : Prd) (vr vl vh : Value) (v w : World) (hv : Ext v w) (h0 : p.nm.length ≤ 9223372036854775807) (h1 : p.rs.length ≤ 9223372036854775807) (h2 : p.lt.length ≤ 9223372036854775807) (h3 : p.hd.length ≤ 9223372036854775807) (sr : L8.Slp v vr p.rs) (sl : L8.Slp v vl p.lt) (sh : L8.Slc v vh p.hd) :
    Calls Tryz.prog 7 #[.agg (pcells p vr vl vh), .int .i64 24] w fun e w' => Ext w w' ∧ ∃ (q : Prd) (ur ul uh : Value), e = .returned (.agg (pcells q ur ul uh)) ∧ L8.Slp v ur q.rs ∧ L8.Slp v ul q.lt ∧ L8.Slc v uh q.hd ∧ q.nm.length ≤ 30000 ∧ q.rs.length + q.lt.length + q.hd.length ≤ 30000 ∧ okP q = true ∧ q.tm ≤ 24 := by
  have hone := pcells_slp sr sl sh
  have hbox := box_prod p vr vl vh hone
  obtain ⟨W1, b, hW1, hb, hx1, hB1⟩ : ∃ W b, w.alloc (.cells (pcells p vr vl vh) 27) = W ∧ w.heap.size = b ∧ Ext w W ∧ Blk W b (pcells p vr vl vh) := ⟨_, _, rfl, rfl, (Ext.refl w).alloc _ _, heap_alloc_last w _⟩
  obtain ⟨W2, r, hW2, hr, hx2, hB2⟩ := layZ W1
  have hsz : (pcells p vr vl vh).size = 19 := rfl
  obtain ⟨B, hB⟩ : ∃ B, okP p = B := ⟨_, rfl⟩
  have hlr : Hid (b < r) := by show _ < _; have := (Array.getElem?_eq_some_iff.1 hB1).1; omega
  replace hv := show Hid _ from hv
  replace sr : Hid (L8.Slp v vr p.rs) := sr
  replace sl : Hid (L8.Slp v vl p.lt) := sl
  replace sh : Hid (L8.Slc v vh p.hd) := sh
  have hB1' : Hid (Blk W2 b (pcells p vr vl vh)) := hB1.ext hx2
  replace hB2 : Hid (Blk W2 r zP) := hB2
  replace hx2 := show Hid _ from hx1.trans hx2
  clear hB1 hx1
  go_enter Tryz.func7, Tryz.ntmps7
  go_wp2_with fail
  refine (L8.Plain_c _).mono ?_
  rintro e w3 ⟨rfl, hx3⟩
  replace hb := show Hid _ from hb
  obtain ⟨W4, o, hW4, ho, hx4, hB4⟩ := layZ w3
  have hro : Hid (r < o) := by show _ < _; have := (Array.getElem?_eq_some_iff.1 (hB2.out.ext hx3)).1; omega
  have hBb : Hid (Blk W4 b (pcells p vr vl vh)) := hB1'.out.ext (hx3.trans hx4)
  have hBr : Hid (Blk W4 r zP) := hB2.out.ext (hx3.trans hx4)
  replace hx4 := show Hid _ from (hx2.out.trans hx3).trans hx4
  clear hx3 hB1' hB2 hx2 hW1 hW2 hr hbox
  have hpo : (pcells pl0 (.slice none 0 0) (.slice none 0 0) (.slice none 0 0)).all (·.oneCell') = true := one_of (w := v) (L8.nilr v) (L8.nilr v) (L8.nilh v)
  have hlR : Hid (w.heap.size ≤ r) := by show _ ≤ _; have := hb.out; have := hlr.out; omega
  have hlo : Hid (w.heap.size ≤ o) := by show _ ≤ _; have := hx4.out.size; have := hb.out; have := hlr.out; have := hro.out; omega
  go_wp2_with (refine store27 (cs := pcells pl0 (.slice none 0 0) (.slice none 0 0) (.slice none 0 0)) hB4 rfl rfl hpo rfl rfl rfl rfl ?_)
  intro W5 hB5 hx5
  have hP : Hid (Ply v p vr vl vh w W5 b r o pl0 (.slice none 0 0) (.slice none 0 0) (.slice none 0 0)) := ⟨hx5.ext hx4.out hlo.out, hlo.out, hlR.out, by have := hlr.out; have := hro.out; omega, by have := hro.out; omega, hBb.out.exr hx5 (by have := hlr.out; have := hro.out; omega), hBr.out.exr hx5 (by have := hro.out; omega), hB5, L8.nilr v, L8.nilr v, L8.nilh v, by decide, by decide⟩
  clear hW4 ho hB4 hB5 hx5 hpo hBb hBr hx4 hlo hlR hro hlr hb
  have hBb := hP.out.box
  go_wp2_with (refine load27 hBb hsz rfl rfl rfl ?_)
  refine (rCheck_q p vr vl vh B hB _ h0 h1 h2 h3 (sr.out.ext (hv.out.trans hP.out.ext)) (sl.out.ext (hv.out.trans hP.out.ext)) (sh.out.ext (hv.out.trans hP.out.ext))).mono ?_
  rintro e w6 ⟨rfl, hx6⟩
  replace hP : Hid (Ply v p vr vl vh w w6 b r o pl0 (.slice none 0 0) (.slice none 0 0) (.slice none 0 0)) := hP.out.on hx6
  clear hx6 hBb
  go_upto_if 9 with fail
  go_cut [5, 8, 9] from 10 to 70 (fun x _ _ wx => x = .pointer (some ⟨o, 0, none⟩) ∧ ∃ (q : Prd) (ur ul uh : Value), Hid (Ply v p vr vl vh w wx b r o q ur ul uh) ∧ okP q = true)
  case first =>
    cases B
    case true =>
      have hK := okf hB
      have hQ : Ply v p vr vl vh w w6 b r o pl0 (.slice none 0 0) (.slice none 0 0) (.slice none 0 0) := hP.out
      have hBb := hQ.box
      have hBo := hQ.out
      simp only [if_true]
      go_wp2_with (first | refine load27 hBb hsz rfl rfl rfl ?_ | refine store27 (cs := pcells p vr vl vh) hBo rfl rfl hone rfl rfl rfl rfl ?_)
      intro W7 hB7 hx7
      go_wp2
      go_meet
      exact ⟨rfl, p, vr, vl, vh, ⟨hx7.ext hQ.ext hQ.lo, hQ.lo, hQ.lr, hQ.nb, hQ.nr, hQ.box.exr hx7 hQ.nb, hQ.res.exr hx7 hQ.nr, hB7, sr.out, sl.out, sh.out, by have := hK.nl; omega, by have := hK.rl_; have := hK.ll; have := hK.hl; omega⟩, hB⟩
    case false =>
    clear hB hone hsz
    obtain ⟨q, ur, ul, uh, hP, hI⟩ : ∃ (q : Prd) (ur ul uh : Value), Hid (Ply v p vr vl vh w w6 b r o q ur ul uh) ∧ OkI q := ⟨_, _, _, _, hP, okI_0⟩
    replace hI := show Hid _ from hI
    simp only [Bool.false_eq_true, if_false]

    go_upto_region 4 with fail
    go_cut [5] from 11 to 24 (fun x wx => x = .pointer (some ⟨o, 0, none⟩) ∧ ∃ (q : Prd) (ur ul uh : Value), Hid (Ply v p vr vl vh w wx b r o q ur ul uh) ∧ OkI q)
    case first =>
      obtain ⟨R1, e1, l1, m1, f1, g1⟩ := rem_is p.cn 3 (by decide) (by decide)
      obtain ⟨R2, e2, l2, m2, f2, g2⟩ := rem_is p.kd 3 (by decide) (by decide)
      have hbx := hP.out.box
      have hnb := hP.out.nb
      refine L8.wp_region_thrown (fun W => Blk W b (pcells p vr vl vh)) (fun a => False) [] (fun t => none) (fun x W => False) (by kernel_rfl) (fun _ _ _ h1 _ h3 => h3.elim) (hbx.ext (Ext.refl w6).drew) (fun hSt => ?_)
      obtain ⟨wz, hwz⟩ : ∃ W, W = w6.drew := ⟨_, rfl⟩
      replace hP : Hid (Ply v p vr vl vh w wz b r o q ur ul uh) := by rw [hwz]; exact hP.out.on (Ext.refl w6).drew
      rw [← hwz] at hSt ⊢
      clear hwz hbx
      refine L8.takeT 0 (oi := { dst := some 11, op := Op.fieldAddr 27 (Operand.tmp 2) 1, type := 0, pos := "play.go:21", after := #[], guard := none }) (v := .pointer (some ⟨b, 1, none⟩)) rfl (by kernel_rfl) (by kernel_rfl) (by kernel_rfl) (by decide) (Or.inl ⟨by rfl, fun W hW => ?_⟩) hSt ?_
      · go_simp
      simp only [Act.put, List.setIfInBounds_toArray, List.set_cons_zero, List.set_cons_succ]
      refine L8.takeT 1 (oi := { dst := some 12, op := Op.load 3 (Operand.tmp 11), type := 3, pos := "play.go:21", after := #[{ on := 0, ground := Ground.data }], guard := none }) (v := .int .i64 p.cn) rfl (by kernel_rfl) (by kernel_rfl) (by kernel_rfl) (by decide) (Or.inl ⟨by rfl, fun W hW => ?_⟩) hSt ?_
      · have hW1 := (cell_of_row W b 1 _ _ _ (show Blk W b (pcells p vr vl vh) from hW)).trans (show _ = some (.int .i64 p.cn) from rfl)
        go_simp
      simp only [Act.put, List.setIfInBounds_toArray, List.set_cons_zero, List.set_cons_succ]
      refine L8.takeT 2 (oi := { dst := some 13, op := Op.convert 3 45 (Operand.tmp 12), type := 45, pos := "play.go:21", after := #[{ on := 1, ground := Ground.data }], guard := none }) (v := .int .u64 (IntKind.u64.wrap p.cn)) rfl (by kernel_rfl) (by kernel_rfl) (by kernel_rfl) (by decide) (Or.inl ⟨by rfl, fun W hW => ?_⟩) hSt ?_
      · go_simp
      simp only [Act.put, List.setIfInBounds_toArray, List.set_cons_zero, List.set_cons_succ]
      refine L8.takeT 3 (oi := { dst := some 14, op := Op.binOp BinOp.rem 45 (Operand.tmp 13) (Operand.const (Value.int IntKind.u64 3)) 45, type := 45, pos := "play.go:21", after := #[{ on := 2, ground := Ground.data }], guard := none }) (v := .int .u64 R1) rfl (by kernel_rfl) (by kernel_rfl) (by kernel_rfl) (by decide) (Or.inl ⟨by rfl, fun W hW => ?_⟩) hSt ?_
      · go_simp
      simp only [Act.put, List.setIfInBounds_toArray, List.set_cons_zero, List.set_cons_succ]
      refine L8.takeT 4 (oi := { dst := some 15, op := Op.convert 45 3 (Operand.tmp 14), type := 3, pos := "play.go:21", after := #[{ on := 3, ground := Ground.data }], guard := none }) (v := .int .i64 R1) rfl (by kernel_rfl) (by kernel_rfl) (by kernel_rfl) (by decide) (Or.inl ⟨by rfl, fun W hW => ?_⟩) hSt ?_
      · go_simp
      simp only [Act.put, List.setIfInBounds_toArray, List.set_cons_zero, List.set_cons_succ]
      refine L8.takeT 5 (oi := { dst := some 16, op := Op.binOp BinOp.add 3 (Operand.const (Value.int IntKind.i64 1)) (Operand.tmp 15) 3, type := 3, pos := "play.go:21", after := #[{ on := 4, ground := Ground.data }], guard := none }) (v := .int .i64 (1 + R1)) rfl (by kernel_rfl) (by kernel_rfl) (by kernel_rfl) (by decide) (Or.inl ⟨by rfl, fun W hW => ?_⟩) hSt ?_
      · go_simp
      simp only [Act.put, List.setIfInBounds_toArray, List.set_cons_zero, List.set_cons_succ]
      refine L8.takeT 6 (oi := { dst := some 17, op := Op.fieldAddr 27 (Operand.tmp 2) 3, type := 0, pos := "play.go:21", after := #[{ on := 13, ground := Ground.gcOnly Departure.lateStores }], guard := none }) (v := .pointer (some ⟨b, 3, none⟩)) rfl (by kernel_rfl) (by kernel_rfl) (by kernel_rfl) (by decide) (Or.inl ⟨by rfl, fun W hW => ?_⟩) hSt ?_
      · go_simp
      simp only [Act.put, List.setIfInBounds_toArray, List.set_cons_zero, List.set_cons_succ]
      refine L8.takeT 7 (oi := { dst := some 18, op := Op.load 3 (Operand.tmp 17), type := 3, pos := "play.go:21", after := #[{ on := 6, ground := Ground.data }, { on := 13, ground := Ground.gcOnly Departure.lateStores }], guard := none }) (v := .int .i64 p.kd) rfl (by kernel_rfl) (by kernel_rfl) (by kernel_rfl) (by decide) (Or.inl ⟨by rfl, fun W hW => ?_⟩) hSt ?_
      · have hW1 := (cell_of_row W b 3 _ _ _ (show Blk W b (pcells p vr vl vh) from hW)).trans (show _ = some (.int .i64 p.kd) from rfl)
        go_simp
      simp only [Act.put, List.setIfInBounds_toArray, List.set_cons_zero, List.set_cons_succ]
      refine L8.takeT 8 (oi := { dst := some 19, op := Op.convert 3 45 (Operand.tmp 18), type := 45, pos := "play.go:21", after := #[{ on := 7, ground := Ground.data }, { on := 13, ground := Ground.gcOnly Departure.lateStores }], guard := none }) (v := .int .u64 (IntKind.u64.wrap p.kd)) rfl (by kernel_rfl) (by kernel_rfl) (by kernel_rfl) (by decide) (Or.inl ⟨by rfl, fun W hW => ?_⟩) hSt ?_
      · go_simp
      simp only [Act.put, List.setIfInBounds_toArray, List.set_cons_zero, List.set_cons_succ]
      refine L8.takeT 9 (oi := { dst := some 20, op := Op.binOp BinOp.rem 45 (Operand.tmp 19) (Operand.const (Value.int IntKind.u64 3)) 45, type := 45, pos := "play.go:21", after := #[{ on := 8, ground := Ground.data }, { on := 13, ground := Ground.gcOnly Departure.lateStores }], guard := none }) (v := .int .u64 R2) rfl (by kernel_rfl) (by kernel_rfl) (by kernel_rfl) (by decide) (Or.inl ⟨by rfl, fun W hW => ?_⟩) hSt ?_
      · go_simp
      simp only [Act.put, List.setIfInBounds_toArray, List.set_cons_zero, List.set_cons_succ]
      refine L8.takeT 10 (oi := { dst := some 21, op := Op.convert 45 3 (Operand.tmp 20), type := 3, pos := "play.go:21", after := #[{ on := 9, ground := Ground.data }, { on := 13, ground := Ground.gcOnly Departure.lateStores }], guard := none }) (v := .int .i64 R2) rfl (by kernel_rfl) (by kernel_rfl) (by kernel_rfl) (by decide) (Or.inl ⟨by rfl, fun W hW => ?_⟩) hSt ?_
      · go_simp
      simp only [Act.put, List.setIfInBounds_toArray, List.set_cons_zero, List.set_cons_succ]
      refine L8.takeT 11 (oi := { dst := some 22, op := Op.binOp BinOp.add 3 (Operand.const (Value.int IntKind.i64 1)) (Operand.tmp 21) 3, type := 3, pos := "play.go:21", after := #[{ on := 10, ground := Ground.data }, { on := 13, ground := Ground.gcOnly Departure.lateStores }], guard := none }) (v := .int .i64 (1 + R2)) rfl (by kernel_rfl) (by kernel_rfl) (by kernel_rfl) (by decide) (Or.inl ⟨by rfl, fun W hW => ?_⟩) hSt ?_
      · go_simp
      simp only [Act.put, List.setIfInBounds_toArray, List.set_cons_zero, List.set_cons_succ]
      refine L8.takeT 12 (oi := { dst := some 23, op := Op.fieldAddr 27 (Operand.tmp 5) 1, type := 0, pos := "play.go:21", after := #[{ on := 0, ground := Ground.phase }, { on := 1, ground := Ground.phase }, { on := 2, ground := Ground.phase }, { on := 3, ground := Ground.phase }, { on := 4, ground := Ground.phase }, { on := 5, ground := Ground.phase }, { on := 6, ground := Ground.textOnly Departure.lateStores }, { on := 7, ground := Ground.textOnly Departure.lateStores }, { on := 8, ground := Ground.textOnly Departure.lateStores }, { on := 9, ground := Ground.textOnly Departure.lateStores }, { on := 10, ground := Ground.textOnly Departure.lateStores }, { on := 11, ground := Ground.textOnly Departure.lateStores }], guard := none }) (v := .pointer (some ⟨o, 1, none⟩)) rfl (by kernel_rfl) (by kernel_rfl) (by kernel_rfl) (by decide) (Or.inl ⟨by rfl, fun W hW => ?_⟩) hSt ?_
      · go_simp
      simp only [Act.put, List.setIfInBounds_toArray, List.set_cons_zero, List.set_cons_succ]
      refine wpAnyH_ready (rs := [13]) (by kernel_rfl) (by simp) ?_
      refine AllReadyH.cons (o := { dst := none, op := Op.store 3 (Operand.tmp 23) (Operand.tmp 16), type := 0, pos := "play.go:21", after := #[{ on := 12, ground := Ground.data }, { on := 5, ground := Ground.data }, { on := 0, ground := Ground.phase }, { on := 1, ground := Ground.phase }, { on := 2, ground := Ground.phase }, { on := 3, ground := Ground.phase }, { on := 4, ground := Ground.phase }, { on := 5, ground := Ground.phase }, { on := 6, ground := Ground.textOnly Departure.lateStores }, { on := 7, ground := Ground.textOnly Departure.lateStores }, { on := 8, ground := Ground.textOnly Departure.lateStores }, { on := 9, ground := Ground.textOnly Departure.lateStores }, { on := 10, ground := Ground.textOnly Departure.lateStores }, { on := 11, ground := Ground.textOnly Departure.lateStores }], guard := none }) rfl (fun K hK => ?_) AllReadyH.nil
      have co := (cell_of_row wz o 1 _ _ _ hP.out.out).trans (show _ = some (.int .i64 q.cn) from rfl)
      have zo := frozen_of_row wz o 1 _ _ hP.out.out
      go_simp
      refine hK.out _ _ (L8.Blk.other hSt 1 _ hnb) ?_
      clear hK K hSt co zo
      intro hSt
      try simp only [Act.put, List.setIfInBounds_toArray, List.set_cons_zero, List.set_cons_succ]
      obtain ⟨wy, hwy⟩ : ∃ W, W = wz.setCell ⟨o, 1, none⟩ (.int .i64 (1 + R1)) := ⟨_, rfl⟩
      obtain ⟨q, hP, hI⟩ : ∃ q, Hid (Ply v p vr vl vh w wy b r o q ur ul uh) ∧ Hid (OkI q) := by rw [hwy]; exact ⟨{ q with cn := (1 + R1) }, hP.out.put 1 _ _ rfl rfl rfl rfl rfl, hI.out.cn (by omega) (by omega)⟩
      rw [← hwy] at hSt ⊢
      clear hwy
      refine L8.takeT 14 (oi := { dst := some 24, op := Op.fieldAddr 27 (Operand.tmp 5) 3, type := 0, pos := "play.go:21", after := #[{ on := 0, ground := Ground.phase }, { on := 1, ground := Ground.phase }, { on := 2, ground := Ground.phase }, { on := 3, ground := Ground.phase }, { on := 4, ground := Ground.phase }, { on := 5, ground := Ground.phase }, { on := 6, ground := Ground.phase }, { on := 7, ground := Ground.phase }, { on := 8, ground := Ground.phase }, { on := 9, ground := Ground.phase }, { on := 10, ground := Ground.phase }, { on := 11, ground := Ground.phase }, { on := 12, ground := Ground.phase }, { on := 13, ground := Ground.phase }], guard := none }) (v := .pointer (some ⟨o, 3, none⟩)) rfl (by kernel_rfl) (by kernel_rfl) (by kernel_rfl) (by decide) (Or.inl ⟨by rfl, fun W hW => ?_⟩) hSt ?_
      · go_simp
      simp only [Act.put, List.setIfInBounds_toArray, List.set_cons_zero, List.set_cons_succ]
      refine wpAnyH_ready (rs := [15]) (by kernel_rfl) (by simp) ?_
      refine AllReadyH.cons (o := { dst := none, op := Op.store 3 (Operand.tmp 24) (Operand.tmp 22), type := 0, pos := "play.go:21", after := #[{ on := 14, ground := Ground.data }, { on := 11, ground := Ground.data }, { on := 13, ground := Ground.chain }, { on := 0, ground := Ground.phase }, { on := 1, ground := Ground.phase }, { on := 2, ground := Ground.phase }, { on := 3, ground := Ground.phase }, { on := 4, ground := Ground.phase }, { on := 5, ground := Ground.phase }, { on := 6, ground := Ground.phase }, { on := 7, ground := Ground.phase }, { on := 8, ground := Ground.phase }, { on := 9, ground := Ground.phase }, { on := 10, ground := Ground.phase }, { on := 11, ground := Ground.phase }, { on := 12, ground := Ground.phase }, { on := 13, ground := Ground.phase }], guard := none }) rfl (fun K hK => ?_) AllReadyH.nil
      have co := (cell_of_row wy o 3 _ _ _ hP.out.out).trans (show _ = some (.int .i64 q.kd) from rfl)
      have zo := frozen_of_row wy o 3 _ _ hP.out.out
      go_simp
      refine hK.out _ _ (L8.Blk.other hSt 3 _ hnb) ?_
      clear hK K hSt co zo
      intro hSt
      try simp only [Act.put, List.setIfInBounds_toArray, List.set_cons_zero, List.set_cons_succ]
      refine wpAnyH_done (by kernel_rfl) (L8.ThrowQ.normal ?_) _
      go_wp2
      go_meet
      exact ⟨rfl, { q with kd := (1 + R2) }, ur, ul, uh, hP.out.put 3 _ _ rfl rfl rfl rfl rfl, hI.out.kd (by omega) (by omega)⟩
    case rest =>
    clear hP hI
    obtain ⟨rfl, q, ur, ul, uh, hP, hI⟩ := hcut
    replace hI := show Hid _ from hI
    go_upto_region 5 with fail
    go_cut [5] from 25 to 33 (fun x wx => x = .pointer (some ⟨o, 0, none⟩) ∧ ∃ (q : Prd) (ur ul uh : Value), Hid (Ply v p vr vl vh w wx b r o q ur ul uh) ∧ OkI q)
    case first =>
      obtain ⟨R1, e1, l1, m1, f1, g1⟩ := rem_is p.rd 2 (by decide) (by decide)
      have ck1 := (cell_of_row wc b 2 _ _ _ hP.out.box).trans (show _ = some (.int .i64 p.rd) from rfl)
      have co1 := (cell_of_row wc o 2 _ _ _ hP.out.out).trans (show _ = some (.int .i64 q.rd) from rfl)
      have zo1 := frozen_of_row wc o 2 _ _ hP.out.out
      obtain ⟨W8, d, hW8, hd, hx8, hc8⟩ := lay_n wc [1, 3]
      obtain ⟨i, rfl⟩ : ∃ i : Nat, R1 = (i : Int) := ⟨R1.toNat, by omega⟩
      obtain ⟨x, hx⟩ : ∃ x, ([1, 3] : List Int)[i]? = some x := ⟨_, List.getElem?_eq_getElem (by show i < 2; omega)⟩
      have cx := hc8 i x hx
      replace ck1 := hx8.cell_of ck1
      replace co1 := hx8.cell_of co1
      replace zo1 := frozen_of_row W8 o 2 _ _ (hP.out.out.ext hx8)
      simp only [List.map_cons, List.map_nil] at hW8
      have hmem := List.mem_of_getElem? hx
      clear hc8 hx
      go_wp2
      go_meet
      exact ⟨rfl, { q with rd := x }, ur, ul, uh, (hP.out.on hx8).put 2 _ _ rfl rfl rfl rfl rfl, hI.out.rd hmem⟩
    case rest =>
    clear hP hI
    obtain ⟨rfl, q, ur, ul, uh, hP, hI⟩ := hcut
    replace hI := show Hid _ from hI
    go_upto_region 6 with fail
    go_cut [5] from 34 to 42 (fun x wx => x = .pointer (some ⟨o, 0, none⟩) ∧ ∃ (q : Prd) (ur ul uh : Value), Hid (Ply v p vr vl vh w wx b r o q ur ul uh) ∧ OkI q)
    case first =>
      obtain ⟨R1, e1, l1, m1, f1, g1⟩ := rem_is p.ev 6 (by decide) (by decide)
      have ck1 := (cell_of_row wc b 4 _ _ _ hP.out.box).trans (show _ = some (.int .i64 p.ev) from rfl)
      have co1 := (cell_of_row wc o 4 _ _ _ hP.out.out).trans (show _ = some (.int .i64 q.ev) from rfl)
      have zo1 := frozen_of_row wc o 4 _ _ hP.out.out
      obtain ⟨W8, d, hW8, hd, hx8, hc8⟩ := lay_n wc [1, 2, 3, 4, 6, 12]
      obtain ⟨i, rfl⟩ : ∃ i : Nat, R1 = (i : Int) := ⟨R1.toNat, by omega⟩
      obtain ⟨x, hx⟩ : ∃ x, ([1, 2, 3, 4, 6, 12] : List Int)[i]? = some x := ⟨_, List.getElem?_eq_getElem (by show i < 6; omega)⟩
      have cx := hc8 i x hx
      replace ck1 := hx8.cell_of ck1
      replace co1 := hx8.cell_of co1
      replace zo1 := frozen_of_row W8 o 4 _ _ (hP.out.out.ext hx8)
      simp only [List.map_cons, List.map_nil] at hW8
      have hmem := List.mem_of_getElem? hx
      clear hc8 hx
      go_wp2
      go_meet
      exact ⟨rfl, { q with ev := x }, ur, ul, uh, (hP.out.on hx8).put 4 _ _ rfl rfl rfl rfl rfl, hI.out.ev hmem⟩
    case rest =>
    clear hP hI
    obtain ⟨rfl, q, ur, ul, uh, hP, hI⟩ := hcut
    replace hI := show Hid _ from hI
    go_upto_region 7 with fail
    go_cut [5] from 43 to 51 (fun x wx => x = .pointer (some ⟨o, 0, none⟩) ∧ ∃ (q : Prd) (ur ul uh : Value), Hid (Ply v p vr vl vh w wx b r o q ur ul uh) ∧ OkI q)
    case first =>
      obtain ⟨R1, e1, l1, m1, f1, g1⟩ := rem_is p.tm 24 (by decide) (by decide)
      have ck1 := (cell_of_row wc b 5 _ _ _ hP.out.box).trans (show _ = some (.int .i64 p.tm) from rfl)
      have co1 := (cell_of_row wc o 5 _ _ _ hP.out.out).trans (show _ = some (.int .i64 q.tm) from rfl)
      have zo1 := frozen_of_row wc o 5 _ _ hP.out.out
      go_wp2
      go_meet
      exact ⟨rfl, { q with tm := (1 + R1) }, ur, ul, uh, (hP.out).put 5 _ _ rfl rfl rfl rfl rfl, hI.out.tm (by omega) (by omega)⟩
    case rest =>
    clear hP hI
    obtain ⟨rfl, q, ur, ul, uh, hP, hI⟩ := hcut
    replace hI := show Hid _ from hI
    go_upto_region 8 with fail
    go_cut [5] from 52 to 63 (fun x wx => x = .pointer (some ⟨o, 0, none⟩) ∧ ∃ (q : Prd) (ur ul uh : Value), Hid (Ply v p vr vl vh w wx b r o q ur ul uh) ∧ OkI q)
    case first =>
      obtain ⟨R1, e1, l1, m1, f1, g1⟩ := rem_is p.rt 300000000 (by decide) (by decide)
      obtain ⟨R2, e2, l2, m2, f2, g2⟩ := rem_is p.pn 500000000 (by decide) (by decide)
      have hbx := hP.out.box
      have hnb := hP.out.nb
      refine L8.wp_region_thrown (fun W => Blk W b (pcells p vr vl vh)) (fun a => False) [] (fun t => none) (fun x W => False) (by kernel_rfl) (fun _ _ _ h1 _ h3 => h3.elim) (hbx.ext (Ext.refl wc).drew) (fun hSt => ?_)
      obtain ⟨wz, hwz⟩ : ∃ W, W = wc.drew := ⟨_, rfl⟩
      replace hP : Hid (Ply v p vr vl vh w wz b r o q ur ul uh) := by rw [hwz]; exact hP.out.on (Ext.refl wc).drew
      rw [← hwz] at hSt ⊢
      clear hwz hbx
      refine L8.takeT 0 (oi := { dst := some 52, op := Op.fieldAddr 27 (Operand.tmp 2) 7, type := 0, pos := "play.go:25", after := #[], guard := none }) (v := .pointer (some ⟨b, 7, none⟩)) rfl (by kernel_rfl) (by kernel_rfl) (by kernel_rfl) (by decide) (Or.inl ⟨by rfl, fun W hW => ?_⟩) hSt ?_
      · go_simp
      simp only [Act.put, List.setIfInBounds_toArray, List.set_cons_zero, List.set_cons_succ]
      refine L8.takeT 1 (oi := { dst := some 53, op := Op.load 2 (Operand.tmp 52), type := 2, pos := "play.go:25", after := #[{ on := 0, ground := Ground.data }], guard := none }) (v := .int .i64 p.rt) rfl (by kernel_rfl) (by kernel_rfl) (by kernel_rfl) (by decide) (Or.inl ⟨by rfl, fun W hW => ?_⟩) hSt ?_
      · have hW1 := (cell_of_row W b 7 _ _ _ (show Blk W b (pcells p vr vl vh) from hW)).trans (show _ = some (.int .i64 p.rt) from rfl)
        go_simp
      simp only [Act.put, List.setIfInBounds_toArray, List.set_cons_zero, List.set_cons_succ]
      refine L8.takeT 2 (oi := { dst := some 54, op := Op.convert 2 31 (Operand.tmp 53), type := 31, pos := "play.go:25", after := #[{ on := 1, ground := Ground.data }], guard := none }) (v := .int .u64 (IntKind.u64.wrap p.rt)) rfl (by kernel_rfl) (by kernel_rfl) (by kernel_rfl) (by decide) (Or.inl ⟨by rfl, fun W hW => ?_⟩) hSt ?_
      · go_simp
      simp only [Act.put, List.setIfInBounds_toArray, List.set_cons_zero, List.set_cons_succ]
      refine L8.takeT 3 (oi := { dst := some 55, op := Op.binOp BinOp.rem 31 (Operand.tmp 54) (Operand.const (Value.int IntKind.u64 300000000)) 31, type := 31, pos := "play.go:25", after := #[{ on := 2, ground := Ground.data }], guard := none }) (v := .int .u64 R1) rfl (by kernel_rfl) (by kernel_rfl) (by kernel_rfl) (by decide) (Or.inl ⟨by rfl, fun W hW => ?_⟩) hSt ?_
      · go_simp
      simp only [Act.put, List.setIfInBounds_toArray, List.set_cons_zero, List.set_cons_succ]
      refine L8.takeT 4 (oi := { dst := some 56, op := Op.convert 31 2 (Operand.tmp 55), type := 2, pos := "play.go:25", after := #[{ on := 3, ground := Ground.data }], guard := none }) (v := .int .i64 R1) rfl (by kernel_rfl) (by kernel_rfl) (by kernel_rfl) (by decide) (Or.inl ⟨by rfl, fun W hW => ?_⟩) hSt ?_
      · go_simp
      simp only [Act.put, List.setIfInBounds_toArray, List.set_cons_zero, List.set_cons_succ]
      refine L8.takeT 5 (oi := { dst := some 57, op := Op.fieldAddr 27 (Operand.tmp 2) 9, type := 0, pos := "play.go:25", after := #[{ on := 11, ground := Ground.gcOnly Departure.lateStores }], guard := none }) (v := .pointer (some ⟨b, 9, none⟩)) rfl (by kernel_rfl) (by kernel_rfl) (by kernel_rfl) (by decide) (Or.inl ⟨by rfl, fun W hW => ?_⟩) hSt ?_
      · go_simp
      simp only [Act.put, List.setIfInBounds_toArray, List.set_cons_zero, List.set_cons_succ]
      refine L8.takeT 6 (oi := { dst := some 58, op := Op.load 2 (Operand.tmp 57), type := 2, pos := "play.go:25", after := #[{ on := 5, ground := Ground.data }, { on := 11, ground := Ground.gcOnly Departure.lateStores }], guard := none }) (v := .int .i64 p.pn) rfl (by kernel_rfl) (by kernel_rfl) (by kernel_rfl) (by decide) (Or.inl ⟨by rfl, fun W hW => ?_⟩) hSt ?_
      · have hW1 := (cell_of_row W b 9 _ _ _ (show Blk W b (pcells p vr vl vh) from hW)).trans (show _ = some (.int .i64 p.pn) from rfl)
        go_simp
      simp only [Act.put, List.setIfInBounds_toArray, List.set_cons_zero, List.set_cons_succ]
      refine L8.takeT 7 (oi := { dst := some 59, op := Op.convert 2 31 (Operand.tmp 58), type := 31, pos := "play.go:25", after := #[{ on := 6, ground := Ground.data }, { on := 11, ground := Ground.gcOnly Departure.lateStores }], guard := none }) (v := .int .u64 (IntKind.u64.wrap p.pn)) rfl (by kernel_rfl) (by kernel_rfl) (by kernel_rfl) (by decide) (Or.inl ⟨by rfl, fun W hW => ?_⟩) hSt ?_
      · go_simp
      simp only [Act.put, List.setIfInBounds_toArray, List.set_cons_zero, List.set_cons_succ]
      refine L8.takeT 8 (oi := { dst := some 60, op := Op.binOp BinOp.rem 31 (Operand.tmp 59) (Operand.const (Value.int IntKind.u64 500000000)) 31, type := 31, pos := "play.go:25", after := #[{ on := 7, ground := Ground.data }, { on := 11, ground := Ground.gcOnly Departure.lateStores }], guard := none }) (v := .int .u64 R2) rfl (by kernel_rfl) (by kernel_rfl) (by kernel_rfl) (by decide) (Or.inl ⟨by rfl, fun W hW => ?_⟩) hSt ?_
      · go_simp
      simp only [Act.put, List.setIfInBounds_toArray, List.set_cons_zero, List.set_cons_succ]
      refine L8.takeT 9 (oi := { dst := some 61, op := Op.convert 31 2 (Operand.tmp 60), type := 2, pos := "play.go:25", after := #[{ on := 8, ground := Ground.data }, { on := 11, ground := Ground.gcOnly Departure.lateStores }], guard := none }) (v := .int .i64 R2) rfl (by kernel_rfl) (by kernel_rfl) (by kernel_rfl) (by decide) (Or.inl ⟨by rfl, fun W hW => ?_⟩) hSt ?_
      · go_simp
      simp only [Act.put, List.setIfInBounds_toArray, List.set_cons_zero, List.set_cons_succ]
      refine L8.takeT 10 (oi := { dst := some 62, op := Op.fieldAddr 27 (Operand.tmp 5) 7, type := 0, pos := "play.go:25", after := #[{ on := 0, ground := Ground.phase }, { on := 1, ground := Ground.phase }, { on := 2, ground := Ground.phase }, { on := 3, ground := Ground.phase }, { on := 4, ground := Ground.phase }, { on := 5, ground := Ground.textOnly Departure.lateStores }, { on := 6, ground := Ground.textOnly Departure.lateStores }, { on := 7, ground := Ground.textOnly Departure.lateStores }, { on := 8, ground := Ground.textOnly Departure.lateStores }, { on := 9, ground := Ground.textOnly Departure.lateStores }], guard := none }) (v := .pointer (some ⟨o, 7, none⟩)) rfl (by kernel_rfl) (by kernel_rfl) (by kernel_rfl) (by decide) (Or.inl ⟨by rfl, fun W hW => ?_⟩) hSt ?_
      · go_simp
      simp only [Act.put, List.setIfInBounds_toArray, List.set_cons_zero, List.set_cons_succ]
      refine wpAnyH_ready (rs := [11]) (by kernel_rfl) (by simp) ?_
      refine AllReadyH.cons (o := { dst := none, op := Op.store 2 (Operand.tmp 62) (Operand.tmp 56), type := 0, pos := "play.go:25", after := #[{ on := 10, ground := Ground.data }, { on := 4, ground := Ground.data }, { on := 0, ground := Ground.phase }, { on := 1, ground := Ground.phase }, { on := 2, ground := Ground.phase }, { on := 3, ground := Ground.phase }, { on := 4, ground := Ground.phase }, { on := 5, ground := Ground.textOnly Departure.lateStores }, { on := 6, ground := Ground.textOnly Departure.lateStores }, { on := 7, ground := Ground.textOnly Departure.lateStores }, { on := 8, ground := Ground.textOnly Departure.lateStores }, { on := 9, ground := Ground.textOnly Departure.lateStores }], guard := none }) rfl (fun K hK => ?_) AllReadyH.nil
      have co := (cell_of_row wz o 7 _ _ _ hP.out.out).trans (show _ = some (.int .i64 q.rt) from rfl)
      have zo := frozen_of_row wz o 7 _ _ hP.out.out
      go_simp
      refine hK.out _ _ (L8.Blk.other hSt 7 _ hnb) ?_
      clear hK K hSt co zo
      intro hSt
      try simp only [Act.put, List.setIfInBounds_toArray, List.set_cons_zero, List.set_cons_succ]
      obtain ⟨wy, hwy⟩ : ∃ W, W = wz.setCell ⟨o, 7, none⟩ (.int .i64 R1) := ⟨_, rfl⟩
      obtain ⟨q, hP, hI⟩ : ∃ q, Hid (Ply v p vr vl vh w wy b r o q ur ul uh) ∧ Hid (OkI q) := by rw [hwy]; exact ⟨{ q with rt := R1 }, hP.out.put 7 _ _ rfl rfl rfl rfl rfl, hI.out.rt (by omega) (by omega)⟩
      rw [← hwy] at hSt ⊢
      clear hwy
      refine L8.takeT 12 (oi := { dst := some 63, op := Op.fieldAddr 27 (Operand.tmp 5) 9, type := 0, pos := "play.go:25", after := #[{ on := 0, ground := Ground.phase }, { on := 1, ground := Ground.phase }, { on := 2, ground := Ground.phase }, { on := 3, ground := Ground.phase }, { on := 4, ground := Ground.phase }, { on := 5, ground := Ground.phase }, { on := 6, ground := Ground.phase }, { on := 7, ground := Ground.phase }, { on := 8, ground := Ground.phase }, { on := 9, ground := Ground.phase }, { on := 10, ground := Ground.phase }, { on := 11, ground := Ground.phase }], guard := none }) (v := .pointer (some ⟨o, 9, none⟩)) rfl (by kernel_rfl) (by kernel_rfl) (by kernel_rfl) (by decide) (Or.inl ⟨by rfl, fun W hW => ?_⟩) hSt ?_
      · go_simp
      simp only [Act.put, List.setIfInBounds_toArray, List.set_cons_zero, List.set_cons_succ]
      refine wpAnyH_ready (rs := [13]) (by kernel_rfl) (by simp) ?_
      refine AllReadyH.cons (o := { dst := none, op := Op.store 2 (Operand.tmp 63) (Operand.tmp 61), type := 0, pos := "play.go:25", after := #[{ on := 12, ground := Ground.data }, { on := 9, ground := Ground.data }, { on := 11, ground := Ground.chain }, { on := 0, ground := Ground.phase }, { on := 1, ground := Ground.phase }, { on := 2, ground := Ground.phase }, { on := 3, ground := Ground.phase }, { on := 4, ground := Ground.phase }, { on := 5, ground := Ground.phase }, { on := 6, ground := Ground.phase }, { on := 7, ground := Ground.phase }, { on := 8, ground := Ground.phase }, { on := 9, ground := Ground.phase }, { on := 10, ground := Ground.phase }, { on := 11, ground := Ground.phase }], guard := none }) rfl (fun K hK => ?_) AllReadyH.nil
      have co := (cell_of_row wy o 9 _ _ _ hP.out.out).trans (show _ = some (.int .i64 q.pn) from rfl)
      have zo := frozen_of_row wy o 9 _ _ hP.out.out
      go_simp
      refine hK.out _ _ (L8.Blk.other hSt 9 _ hnb) ?_
      clear hK K hSt co zo
      intro hSt
      try simp only [Act.put, List.setIfInBounds_toArray, List.set_cons_zero, List.set_cons_succ]
      refine wpAnyH_done (by kernel_rfl) (L8.ThrowQ.normal ?_) _
      go_wp2
      go_meet
      exact ⟨rfl, { q with pn := R2 }, ur, ul, uh, hP.out.put 9 _ _ rfl rfl rfl rfl rfl, hI.out.pn (by omega) (by omega)⟩
    case rest =>
    clear hP hI
    obtain ⟨rfl, q, ur, ul, uh, hP, hI⟩ := hcut
    replace hI := show Hid _ from hI
    go_upto_region 9 with fail
    go_cut [5] from 64 to 70 (fun x wx => x = .pointer (some ⟨o, 0, none⟩) ∧ ∃ (q : Prd) (ur ul uh : Value), Hid (Ply v p vr vl vh w wx b r o q ur ul uh) ∧ OkI q)
    case first =>
      obtain ⟨R1, e1, l1, m1, f1, g1⟩ := rem_is p.ov 3 (by decide) (by decide)
      have ck1 := (cell_of_row wc b 14 _ _ _ hP.out.box).trans (show _ = some (.int .i64 p.ov) from rfl)
      have co1 := (cell_of_row wc o 14 _ _ _ hP.out.out).trans (show _ = some (.int .i64 q.ov) from rfl)
      have zo1 := frozen_of_row wc o 14 _ _ hP.out.out
      go_wp2
      go_meet
      exact ⟨rfl, { q with ov := (1 + R1) }, ur, ul, uh, (hP.out).put 14 _ _ rfl rfl rfl rfl rfl, hI.out.ov (by omega) (by omega)⟩
    case rest =>
    clear hP hI
    obtain ⟨rfl, q, ur, ul, uh, hP, hI⟩ := hcut
    replace hI := show Hid _ from hI
    go_wp2
    go_meet
    exact ⟨rfl, q, ur, ul, uh, hP, hI.out.ok⟩
  case rest =>
  clear hP
  obtain ⟨rfl, q, ur, ul, uh, hP, hok⟩ := hcut
  replace hok := show Hid _ from hok
  go_upto_region 10 with fail
  have c5 := (cell_of_row wc o 5 _ _ _ hP.out.out).trans (show _ = some (.int .i64 q.tm) from rfl)
  have z5 := frozen_of_row wc o 5 _ _ hP.out.out
  have z8 := frozen_of_row wc o 8 _ _ hP.out.out
  have c8 := (cell_of_row wc o 8 _ _ _ hP.out.out).trans (show _ = some ur from rfl)
  go_upto_if 74 with fail
  go_cut [5] from 75 to 77 (fun x wx => x = .pointer (some ⟨o, 0, none⟩) ∧ ∃ (q : Prd) (ur ul uh : Value), Hid (Ply v p vr vl vh w wx b r o q ur ul uh) ∧ OkT q ∧ Hid (q.tm ≤ 24))
  case first =>
    by_cases hq : 24 < q.tm
    · go_wp2
      go_meet
      exact ⟨rfl, { q with tm := 24, rs := [] }, _, ul, uh, (hP.out.put 5 (.int .i64 24) { q with tm := 24 } rfl rfl rfl rfl rfl).bare, okT_cut hok.out 24 (by decide) (by decide), show (24 : Int) ≤ 24 by decide⟩
    · go_wp2
      go_meet
      exact ⟨rfl, q, ur, ul, uh, hP, okT_of hok.out, show q.tm ≤ 24 by omega⟩
  case rest =>
  clear hP hok c5 z5 z8 c8
  obtain ⟨rfl, q, ur, ul, uh, hP, hT, hM⟩ := hcut
  replace hT := show Hid _ from hT
  have c5 := (cell_of_row wc o 5 _ _ _ hP.out.out).trans (show _ = some (.int .i64 q.tm) from rfl)
  have c6 := (cell_of_row wc o 6 _ _ _ hP.out.out).trans (show _ = some (.int .i64 q.gr) from rfl)
  have c3 := (cell_of_row wc o 3 _ _ _ hP.out.out).trans (show _ = some (.int .i64 q.kd) from rfl)
  have z6 := frozen_of_row wc o 6 _ _ hP.out.out
  go_upto_region 13 with fail
  go_cut [87] from 78 to 86 (fun x wx => (∃ vb : Bool, x = .bool vb ∧ Hid (vb = false → ¬ q.tm ≤ q.gr ∧ q.kd ≠ 3)) ∧ wx = wc)
  case first =>
    by_cases hg : q.tm ≤ q.gr
    · go_wp2
      go_meet
      exact ⟨⟨_, rfl, fun h => by cases h⟩, rfl⟩
    · go_wp2
      go_meet
      exact ⟨⟨_, rfl, fun h => ⟨hg, fun e => by rw [e] at h; revert h; decide⟩⟩, rfl⟩
  case rest =>
  obtain ⟨⟨vb, rfl, hvb⟩, rfl⟩ := hcut
  go_upto_if 87 with fail
  go_cut [5, 87] from 88 to 88 (fun x _ wx => x = .pointer (some ⟨o, 0, none⟩) ∧ ∃ (q : Prd) (ur ul uh : Value), Hid (Ply v p vr vl vh w wx b r o q ur ul uh) ∧ okP q = true ∧ Hid (q.tm ≤ 24))
  case first =>
    cases vb
    · go_wp2
      go_meet
      exact ⟨rfl, q, ur, ul, uh, hP, hT.out.full (by have := (hvb.out (by first | rfl | trivial)).1; omega) (hvb.out (by first | rfl | trivial)).2, hM⟩
    · go_wp2
      go_meet
      exact ⟨rfl, { q with gr := 0 }, ur, ul, uh, hP.out.put 6 (.int .i64 0) { q with gr := 0 } rfl rfl rfl rfl rfl, hT.out.bare, hM⟩
  case rest =>
  clear hP hT hvb hM c5 c6 c3 z6
  obtain ⟨rfl, q, ur, ul, uh, hP, hok, hM⟩ := hcut
  replace hok := show Hid _ from hok
  have hBo := hP.out.out
  have hBr := hP.out.res
  have hqo := one_of hP.out.sr hP.out.sl hP.out.sh
  go_wp2_with (first | refine load27 hBo rfl rfl rfl rfl ?_ | refine store27 (cs := pcells q ur ul uh) hBr rfl rfl hqo rfl rfl rfl rfl ?_)
  intro W9 hB9 hx9
  go_wp2
  exact bodyPost_ret (v := .agg (pcells q ur ul uh)) (results_cell_row (p := 4) rfl _ _ r _ (pcells q ur ul uh) (0, 0) _ rfl hB9 Tryz.underlying27 rfl (by kernel_rfl)) rfl ⟨hx9.ext hP.out.ext hP.out.lr, q, ur, ul, uh, rfl, hP.out.sr, hP.out.sl, hP.out.sh, hP.out.nm, hP.out.few, hok.out, hM.out⟩
end Go.Proofs.YtafjmpaefikdcaaGreatDoor
