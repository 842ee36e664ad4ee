/- For all products p and q, of the project's tree at the commit that COMMIT names, PrinterOne returns true and leaves its arguments as they were, with the listed variables laid as the program's text lays them. -/
import Derived.Test.YtaafagggjnemgaaGreatDoorQ8
import Derived.Test.YtaafagggjnemgaaGreatDoorQ9
import Derived.Test.YtaafagggjnemgaaGreatDoorQ10
import Derived.Test.YtaafagggjnemgaaGreatDoorQ17
namespace Go.Proofs.YtaafagggjnemgaaGreatDoor.printerOne
open Go.ChangeShapes Go.WideShapes Go.ChangeAt Go.RowKit Go.Lib
set_option linter.unusedVariables false
/-- Two products in their blocks. -/
structure Twp (w wx : World) (b : Nat) (p : Prd) (ur ul uh : Value) (q : Prd) (vr vl vh : Value) : Prop where
  ext : Ext w wx
  bp : Blk wx b (pcells p ur ul uh)
  bq : Blk wx (b + 1) (pcells q vr vl vh)
  p1 : L8.Slp w ur p.rs
  p2 : L8.Slp w ul p.lt
  p3 : L8.Slc w uh p.hd
  q1 : L8.Slp w vr q.rs
  q2 : L8.Slp w vl q.lt
  q3 : L8.Slc w vh q.hd
theorem Twp.on {w wx wy : World} {b : Nat} {p : Prd} {ur ul uh : Value} {q : Prd} {vr vl vh : Value} (h : Twp w wx b p ur ul uh q vr vl vh) (hx : Ext wx wy) : Twp w wy b p ur ul uh q vr vl vh :=
  ⟨h.ext.trans hx, h.bp.ext hx, h.bq.ext hx, h.p1, h.p2, h.p3, h.q1, h.q2, h.q3⟩
theorem Twp.setp {w wx : World} {b : Nat} {p p' : Prd} {ur ul uh ur' ul' uh' : Value} {q : Prd} {vr vl vh : Value} (h : Twp w wx b p ur ul uh q vr vl vh) (hb : w.heap.size ≤ b) (k1 : L8.Slp w ur' p'.rs) (k2 : L8.Slp w ul' p'.lt) (k3 : L8.Slc w uh' p'.hd) : Twp w (wx.setRow b (pcells p' ur' ul' uh')) b p' ur' ul' uh' q vr vl vh :=
  have hx := Exr.setRow wx b (pcells p' ur' ul' uh')
  ⟨hx.ext h.ext hb, setRow_heap wx b _ _ _ _ h.bp, h.bq.exr hx (by omega), k1, k2, k3, h.q1, h.q2, h.q3⟩
theorem Twp.setq {w wx : World} {b : Nat} {p : Prd} {ur ul uh : Value} {q q' : Prd} {vr vl vh vr' vl' vh' : Value} (h : Twp w wx b p ur ul uh q vr vl vh) (hb : w.heap.size ≤ b) (k1 : L8.Slp w vr' q'.rs) (k2 : L8.Slp w vl' q'.lt) (k3 : L8.Slc w vh' q'.hd) : Twp w (wx.setRow (b + 1) (pcells q' vr' vl' vh')) b p ur ul uh q' vr' vl' vh' :=
  have hx := Exr.setRow wx (b + 1) (pcells q' vr' vl' vh')
  ⟨hx.ext h.ext (by omega), h.bp.exr hx (by omega), setRow_heap wx (b + 1) _ _ _ _ h.bq, h.p1, h.p2, h.p3, k1, k2, k3⟩
set_option maxRecDepth 100000 in
set_option maxHeartbeats 4000000 in

theorem walk (p0 : Prd) (vr0 vl0 vh0 : Value) (hp0 : L8.Fits p0.nm p0.rs p0.lt p0.hd) (p1 : Prd) (vr1 vl1 vh1 : Value) (hp1 : L8.Fits p1.nm p1.rs p1.lt p1.hd) (w : World) (he : Evn w) (sr0 : L8.Slp w vr0 p0.rs) (sl0 : L8.Slp w vl0 p0.lt) (sh0 : L8.Slc w vh0 p0.hd) (sr1 : L8.Slp w vr1 p1.rs) (sl1 : L8.Slp w vl1 p1.lt) (sh1 : L8.Slc w vh1 p1.hd) :
    Calls Tryz.prog 4 #[.agg (pcells p0 vr0 vl0 vh0), .agg (pcells p1 vr1 vl1 vh1)] w fun e w' => e = .returned (.bool true) ∧ Ext w w' := by
  have hb1 := box_prod p0 vr0 vl0 vh0 (pcells_slp sr0 sl0 sh0)
  have hb2 := box_prod p1 vr1 vl1 vh1 (pcells_slp sr1 sl1 sh1)
  obtain ⟨W1, W2, b, hW1, hb, hW2, hsz, hx2, B1, B2⟩ := lay2 w (pcells p0 vr0 vl0 vh0) (pcells p1 vr1 vl1 vh1) 27 27
  have hlo : Hid (w.heap.size ≤ b) := by show _ ≤ _; omega
  have hT : Hid (Twp w W2 b p0 vr0 vl0 vh0 p1 vr1 vl1 vh1) := ⟨hx2, B1, B2, sr0, sl0, sh0, sr1, sl1, sh1⟩
  have m0 := hp0.nm; have m1 := hp0.rs; have m2 := hp0.lt; have m3 := hp0.hd
  have n0 := hp1.nm; have n1 := hp1.rs; have n2 := hp1.lt; have n3 := hp1.hd
  unfold maxLen at m0 m1 m2 m3 n0 n1 n2 n3
  have hPp : Hid (∀ W : World, Ext w W → Calls Tryz.prog 15 #[.agg (pcells p0 vr0 vl0 vh0), .int .i64 20] W fun e w' => Ext W w' ∧ ∃ (q : Prd) (ur ul uh : Value), e = .returned (.agg (pcells q ur ul uh)) ∧ L8.Slp w ur q.rs ∧ L8.Slp w ul q.lt ∧ L8.Slc w uh q.hd ∧ q.nm.length ≤ 30000 ∧ q.rs.length + q.lt.length + q.hd.length ≤ 30000 ∧ okP q = true) := fun W hW => Play_20 p0 vr0 vl0 vh0 w W hW (by omega) (by omega) (by omega) (by omega) sr0 sl0 sh0
  have hPq : Hid (∀ W : World, Ext w W → Calls Tryz.prog 15 #[.agg (pcells p1 vr1 vl1 vh1), .int .i64 20] W fun e w' => Ext W w' ∧ ∃ (q : Prd) (ur ul uh : Value), e = .returned (.agg (pcells q ur ul uh)) ∧ L8.Slp w ur q.rs ∧ L8.Slp w ul q.lt ∧ L8.Slc w uh q.hd ∧ q.nm.length ≤ 30000 ∧ q.rs.length + q.lt.length + q.hd.length ≤ 30000 ∧ okP q = true) := fun W hW => Play_20 p1 vr1 vl1 vh1 w W hW (by omega) (by omega) (by omega) (by omega) sr1 sl1 sh1
  have he0 := show Hid _ from he.pnv
  clear sr0 sl0 sh0 sr1 sl1 sh1 m0 m1 m2 m3 n0 n1 n2 n3 hp0 hp1 hx2 B1 B2 he
  go_enter Tryz.func4, Tryz.ntmps4
  go_upto_region 1 with fail
  clear hb1 hb2 hW1 hW2 hsz hb
  go_cut [2] from 9 to 12 (fun x wx => x = .pointer (some ⟨b, 0, none⟩) ∧ ∃ (p : Prd) (ur ul uh : Value) (q : Prd) (vr vl vh : Value), Hid (Twp w wx b p ur ul uh q vr vl vh) ∧ Hid (okP p = true ∧ okP q = true))
  case first =>
    refine L8.wp_region_thrown (fun W => True) (fun a => False) [] (fun t => none) (fun x W => False) (by kernel_rfl) (fun _ _ _ h1 _ h3 => h3.elim) trivial (fun _ => ?_)
    replace hT := show Hid _ from hT.out.on (Ext.refl W2).drew
    generalize W2.drew = wz at hT ⊢
    refine wpAnyH_ready (rs := [0, 2]) (by kernel_rfl) (by simp) ?_
    refine AllReadyH.cons (o := { dst := some 9, op := Op.load 27 (Operand.tmp 2), type := 27, pos := "law.go:59", after := #[], guard := none }) rfl (fun K hK => ?_) (AllReadyH.cons (o := { dst := some 11, op := Op.load 27 (Operand.tmp 3), type := 27, pos := "law.go:59", after := #[], guard := none }) rfl (fun K hK => ?_) AllReadyH.nil)
    · rw [if_pos (by rfl)]
      refine wp_load_row _ (Operand.tmp 2) rfl b rfl _ (pcells p0 vr0 vl0 vh0) (0, 0) _ hT.out.bp Tryz.underlying27 rfl (by kernel_rfl) (hK.out _ _ trivial ?_)
      clear hK K
      intro _
      try simp only [Act.put, List.setIfInBounds_toArray, List.set_cons_zero, List.set_cons_succ]
      refine wpAnyH_ready (rs := [1, 2]) (by kernel_rfl) (by simp) ?_
      refine AllReadyH.cons (o := { dst := some 10, op := Op.call { callee := Callee.value (Operand.func 15), args := #[Operand.tmp 9, Operand.const (Value.int IntKind.i64 20)], argTypes := #[27, 3] }, type := 27, pos := "law.go:59", after := #[{ on := 0, ground := Ground.data }], guard := none }) rfl (fun K hK => ?_) (AllReadyH.cons (o := { dst := some 11, op := Op.load 27 (Operand.tmp 3), type := 27, pos := "law.go:59", after := #[], guard := none }) rfl (fun K hK => ?_) AllReadyH.nil)
      · go_simp
        refine Calls.mono (hPp.out _ hT.out.ext) ?_
        rintro e w6 ⟨hxm, qx, rx, lx, hx, rfl, sax, sbx, scx, _, _, kx⟩
        try dsimp only
        replace hT := show Hid _ from hT.out.on hxm
        replace sax : Hid (L8.Slp w rx qx.rs) := sax
        replace sbx : Hid (L8.Slp w lx qx.lt) := sbx
        replace scx : Hid (L8.Slc w hx qx.hd) := scx
        replace kx := show Hid _ from kx
        clear hxm
        refine hK.out _ _ trivial ?_
        clear hK K
        intro _
        try simp only [Act.put, List.setIfInBounds_toArray, List.set_cons_zero, List.set_cons_succ]
        refine wpAnyH_ready (rs := [2]) (by kernel_rfl) (by simp) ?_
        refine AllReadyH.cons (o := { dst := some 11, op := Op.load 27 (Operand.tmp 3), type := 27, pos := "law.go:59", after := #[], guard := none }) rfl (fun K hK => ?_) AllReadyH.nil
        rw [if_pos (by rfl)]
        refine wp_load_row _ (Operand.tmp 3) rfl (b + 1) rfl _ (pcells p1 vr1 vl1 vh1) (0, 0) _ hT.out.bq Tryz.underlying27 rfl (by kernel_rfl) (hK.out _ _ trivial ?_)
        clear hK K
        intro _
        try simp only [Act.put, List.setIfInBounds_toArray, List.set_cons_zero, List.set_cons_succ]
        refine wpAnyH_ready (rs := [3]) (by kernel_rfl) (by simp) ?_
        refine AllReadyH.cons (o := { dst := some 12, op := Op.call { callee := Callee.value (Operand.func 15), args := #[Operand.tmp 11, Operand.const (Value.int IntKind.i64 20)], argTypes := #[27, 3] }, type := 27, pos := "law.go:59", after := #[{ on := 2, ground := Ground.data }, { on := 1, ground := Ground.chain }], guard := none }) rfl (fun K hK => ?_) AllReadyH.nil
        go_simp
        refine Calls.mono (hPq.out _ hT.out.ext) ?_
        rintro e w8 ⟨hxm, qy, ry, ly, hy, rfl, say, sby, scy, _, _, ky⟩
        try dsimp only
        replace hT := show Hid _ from hT.out.on hxm
        replace say : Hid (L8.Slp w ry qy.rs) := say
        replace sby : Hid (L8.Slp w ly qy.lt) := sby
        replace scy : Hid (L8.Slc w hy qy.hd) := scy
        replace ky := show Hid _ from ky
        clear hxm
        refine hK.out _ _ trivial ?_
        clear hK K
        intro _
        try simp only [Act.put, List.setIfInBounds_toArray, List.set_cons_zero, List.set_cons_succ]
        refine wpAnyH_ready (rs := [4]) (by kernel_rfl) (by simp) ?_
        refine AllReadyH.cons (o := { dst := none, op := Op.store 27 (Operand.tmp 2) (Operand.tmp 10), type := 0, pos := "law.go:59", after := #[{ on := 1, ground := Ground.data }, { on := 3, ground := Ground.chain }, { on := 0, ground := Ground.phase }, { on := 1, ground := Ground.phase }, { on := 2, ground := Ground.textOnly Departure.lateStores }, { on := 3, ground := Ground.textOnly Departure.lateStoresUnsure }], guard := none }) rfl (fun K hK => ?_) AllReadyH.nil
        rw [if_pos (by rfl)]
        refine wp_store_row _ (Operand.tmp 2) (Operand.tmp 10) rfl b (pcells qx rx lx hx) rfl rfl _ _ hT.out.bp (by kernel_rfl) rfl (pcells_slp sax.out sbx.out scx.out) (hK.out _ _ trivial ?_)
        clear hK K
        intro _
        try simp only [Act.put]
        replace hT := show Hid _ from hT.out.setp hlo.out sax.out sbx.out scx.out
        generalize w8.setRow b (pcells qx rx lx hx) = w9 at hT ⊢
        refine wpAnyH_ready (rs := [5]) (by kernel_rfl) (by simp) ?_
        refine AllReadyH.cons (o := { dst := none, op := Op.store 27 (Operand.tmp 3) (Operand.tmp 12), type := 0, pos := "law.go:59", after := #[{ on := 3, ground := Ground.data }, { on := 4, ground := Ground.chain }, { on := 0, ground := Ground.phase }, { on := 1, ground := Ground.phase }, { on := 2, ground := Ground.phase }, { on := 3, ground := Ground.phase }, { on := 4, ground := Ground.phase }], guard := none }) rfl (fun K hK => ?_) AllReadyH.nil
        rw [if_pos (by rfl)]
        refine wp_store_row _ (Operand.tmp 3) (Operand.tmp 12) rfl (b + 1) (pcells qy ry ly hy) rfl rfl _ _ hT.out.bq (by kernel_rfl) rfl (pcells_slp say.out sby.out scy.out) (hK.out _ _ trivial ?_)
        clear hK K
        intro _
        try simp only [Act.put]
        replace hT := show Hid _ from hT.out.setq hlo.out say.out sby.out scy.out
        generalize w9.setRow (b + 1) (pcells qy ry ly hy) = w10 at hT ⊢
        refine wpAnyH_done (by kernel_rfl) (L8.ThrowQ.normal ?_) _
        go_wp2
        go_meet
        exact ⟨rfl, qx, rx, lx, hx, qy, ry, ly, hy, hT, kx.out, ky.out⟩
      · rw [if_pos (by rfl)]
        refine wp_load_row _ (Operand.tmp 3) rfl (b + 1) rfl _ (pcells p1 vr1 vl1 vh1) (0, 0) _ hT.out.bq Tryz.underlying27 rfl (by kernel_rfl) (hK.out _ _ trivial ?_)
        clear hK K
        intro _
        try simp only [Act.put, List.setIfInBounds_toArray, List.set_cons_zero, List.set_cons_succ]
        refine wpAnyH_ready (rs := [1]) (by kernel_rfl) (by simp) ?_
        refine AllReadyH.cons (o := { dst := some 10, op := Op.call { callee := Callee.value (Operand.func 15), args := #[Operand.tmp 9, Operand.const (Value.int IntKind.i64 20)], argTypes := #[27, 3] }, type := 27, pos := "law.go:59", after := #[{ on := 0, ground := Ground.data }], guard := none }) rfl (fun K hK => ?_) AllReadyH.nil
        go_simp
        refine Calls.mono (hPp.out _ hT.out.ext) ?_
        rintro e w7 ⟨hxm, qx, rx, lx, hx, rfl, sax, sbx, scx, _, _, kx⟩
        try dsimp only
        replace hT := show Hid _ from hT.out.on hxm
        replace sax : Hid (L8.Slp w rx qx.rs) := sax
        replace sbx : Hid (L8.Slp w lx qx.lt) := sbx
        replace scx : Hid (L8.Slc w hx qx.hd) := scx
        replace kx := show Hid _ from kx
        clear hxm
        refine hK.out _ _ trivial ?_
        clear hK K
        intro _
        try simp only [Act.put, List.setIfInBounds_toArray, List.set_cons_zero, List.set_cons_succ]
        refine wpAnyH_ready (rs := [3]) (by kernel_rfl) (by simp) ?_
        refine AllReadyH.cons (o := { dst := some 12, op := Op.call { callee := Callee.value (Operand.func 15), args := #[Operand.tmp 11, Operand.const (Value.int IntKind.i64 20)], argTypes := #[27, 3] }, type := 27, pos := "law.go:59", after := #[{ on := 2, ground := Ground.data }, { on := 1, ground := Ground.chain }], guard := none }) rfl (fun K hK => ?_) AllReadyH.nil
        go_simp
        refine Calls.mono (hPq.out _ hT.out.ext) ?_
        rintro e w8 ⟨hxm, qy, ry, ly, hy, rfl, say, sby, scy, _, _, ky⟩
        try dsimp only
        replace hT := show Hid _ from hT.out.on hxm
        replace say : Hid (L8.Slp w ry qy.rs) := say
        replace sby : Hid (L8.Slp w ly qy.lt) := sby
        replace scy : Hid (L8.Slc w hy qy.hd) := scy
        replace ky := show Hid _ from ky
        clear hxm
        refine hK.out _ _ trivial ?_
        clear hK K
        intro _
        try simp only [Act.put, List.setIfInBounds_toArray, List.set_cons_zero, List.set_cons_succ]
        refine wpAnyH_ready (rs := [4]) (by kernel_rfl) (by simp) ?_
        refine AllReadyH.cons (o := { dst := none, op := Op.store 27 (Operand.tmp 2) (Operand.tmp 10), type := 0, pos := "law.go:59", after := #[{ on := 1, ground := Ground.data }, { on := 3, ground := Ground.chain }, { on := 0, ground := Ground.phase }, { on := 1, ground := Ground.phase }, { on := 2, ground := Ground.textOnly Departure.lateStores }, { on := 3, ground := Ground.textOnly Departure.lateStoresUnsure }], guard := none }) rfl (fun K hK => ?_) AllReadyH.nil
        rw [if_pos (by rfl)]
        refine wp_store_row _ (Operand.tmp 2) (Operand.tmp 10) rfl b (pcells qx rx lx hx) rfl rfl _ _ hT.out.bp (by kernel_rfl) rfl (pcells_slp sax.out sbx.out scx.out) (hK.out _ _ trivial ?_)
        clear hK K
        intro _
        try simp only [Act.put]
        replace hT := show Hid _ from hT.out.setp hlo.out sax.out sbx.out scx.out
        generalize w8.setRow b (pcells qx rx lx hx) = w9 at hT ⊢
        refine wpAnyH_ready (rs := [5]) (by kernel_rfl) (by simp) ?_
        refine AllReadyH.cons (o := { dst := none, op := Op.store 27 (Operand.tmp 3) (Operand.tmp 12), type := 0, pos := "law.go:59", after := #[{ on := 3, ground := Ground.data }, { on := 4, ground := Ground.chain }, { on := 0, ground := Ground.phase }, { on := 1, ground := Ground.phase }, { on := 2, ground := Ground.phase }, { on := 3, ground := Ground.phase }, { on := 4, ground := Ground.phase }], guard := none }) rfl (fun K hK => ?_) AllReadyH.nil
        rw [if_pos (by rfl)]
        refine wp_store_row _ (Operand.tmp 3) (Operand.tmp 12) rfl (b + 1) (pcells qy ry ly hy) rfl rfl _ _ hT.out.bq (by kernel_rfl) rfl (pcells_slp say.out sby.out scy.out) (hK.out _ _ trivial ?_)
        clear hK K
        intro _
        try simp only [Act.put]
        replace hT := show Hid _ from hT.out.setq hlo.out say.out sby.out scy.out
        generalize w9.setRow (b + 1) (pcells qy ry ly hy) = w10 at hT ⊢
        refine wpAnyH_done (by kernel_rfl) (L8.ThrowQ.normal ?_) _
        go_wp2
        go_meet
        exact ⟨rfl, qx, rx, lx, hx, qy, ry, ly, hy, hT, kx.out, ky.out⟩
    · rw [if_pos (by rfl)]
      refine wp_load_row _ (Operand.tmp 3) rfl (b + 1) rfl _ (pcells p1 vr1 vl1 vh1) (0, 0) _ hT.out.bq Tryz.underlying27 rfl (by kernel_rfl) (hK.out _ _ trivial ?_)
      clear hK K
      intro _
      try simp only [Act.put, List.setIfInBounds_toArray, List.set_cons_zero, List.set_cons_succ]
      refine wpAnyH_ready (rs := [0]) (by kernel_rfl) (by simp) ?_
      refine AllReadyH.cons (o := { dst := some 9, op := Op.load 27 (Operand.tmp 2), type := 27, pos := "law.go:59", after := #[], guard := none }) rfl (fun K hK => ?_) AllReadyH.nil
      rw [if_pos (by rfl)]
      refine wp_load_row _ (Operand.tmp 2) rfl b rfl _ (pcells p0 vr0 vl0 vh0) (0, 0) _ hT.out.bp Tryz.underlying27 rfl (by kernel_rfl) (hK.out _ _ trivial ?_)
      clear hK K
      intro _
      try simp only [Act.put, List.setIfInBounds_toArray, List.set_cons_zero, List.set_cons_succ]
      refine wpAnyH_ready (rs := [1]) (by kernel_rfl) (by simp) ?_
      refine AllReadyH.cons (o := { dst := some 10, op := Op.call { callee := Callee.value (Operand.func 15), args := #[Operand.tmp 9, Operand.const (Value.int IntKind.i64 20)], argTypes := #[27, 3] }, type := 27, pos := "law.go:59", after := #[{ on := 0, ground := Ground.data }], guard := none }) rfl (fun K hK => ?_) AllReadyH.nil
      go_simp
      refine Calls.mono (hPp.out _ hT.out.ext) ?_
      rintro e w7 ⟨hxm, qx, rx, lx, hx, rfl, sax, sbx, scx, _, _, kx⟩
      try dsimp only
      replace hT := show Hid _ from hT.out.on hxm
      replace sax : Hid (L8.Slp w rx qx.rs) := sax
      replace sbx : Hid (L8.Slp w lx qx.lt) := sbx
      replace scx : Hid (L8.Slc w hx qx.hd) := scx
      replace kx := show Hid _ from kx
      clear hxm
      refine hK.out _ _ trivial ?_
      clear hK K
      intro _
      try simp only [Act.put, List.setIfInBounds_toArray, List.set_cons_zero, List.set_cons_succ]
      refine wpAnyH_ready (rs := [3]) (by kernel_rfl) (by simp) ?_
      refine AllReadyH.cons (o := { dst := some 12, op := Op.call { callee := Callee.value (Operand.func 15), args := #[Operand.tmp 11, Operand.const (Value.int IntKind.i64 20)], argTypes := #[27, 3] }, type := 27, pos := "law.go:59", after := #[{ on := 2, ground := Ground.data }, { on := 1, ground := Ground.chain }], guard := none }) rfl (fun K hK => ?_) AllReadyH.nil
      go_simp
      refine Calls.mono (hPq.out _ hT.out.ext) ?_
      rintro e w8 ⟨hxm, qy, ry, ly, hy, rfl, say, sby, scy, _, _, ky⟩
      try dsimp only
      replace hT := show Hid _ from hT.out.on hxm
      replace say : Hid (L8.Slp w ry qy.rs) := say
      replace sby : Hid (L8.Slp w ly qy.lt) := sby
      replace scy : Hid (L8.Slc w hy qy.hd) := scy
      replace ky := show Hid _ from ky
      clear hxm
      refine hK.out _ _ trivial ?_
      clear hK K
      intro _
      try simp only [Act.put, List.setIfInBounds_toArray, List.set_cons_zero, List.set_cons_succ]
      refine wpAnyH_ready (rs := [4]) (by kernel_rfl) (by simp) ?_
      refine AllReadyH.cons (o := { dst := none, op := Op.store 27 (Operand.tmp 2) (Operand.tmp 10), type := 0, pos := "law.go:59", after := #[{ on := 1, ground := Ground.data }, { on := 3, ground := Ground.chain }, { on := 0, ground := Ground.phase }, { on := 1, ground := Ground.phase }, { on := 2, ground := Ground.textOnly Departure.lateStores }, { on := 3, ground := Ground.textOnly Departure.lateStoresUnsure }], guard := none }) rfl (fun K hK => ?_) AllReadyH.nil
      rw [if_pos (by rfl)]
      refine wp_store_row _ (Operand.tmp 2) (Operand.tmp 10) rfl b (pcells qx rx lx hx) rfl rfl _ _ hT.out.bp (by kernel_rfl) rfl (pcells_slp sax.out sbx.out scx.out) (hK.out _ _ trivial ?_)
      clear hK K
      intro _
      try simp only [Act.put]
      replace hT := show Hid _ from hT.out.setp hlo.out sax.out sbx.out scx.out
      generalize w8.setRow b (pcells qx rx lx hx) = w9 at hT ⊢
      refine wpAnyH_ready (rs := [5]) (by kernel_rfl) (by simp) ?_
      refine AllReadyH.cons (o := { dst := none, op := Op.store 27 (Operand.tmp 3) (Operand.tmp 12), type := 0, pos := "law.go:59", after := #[{ on := 3, ground := Ground.data }, { on := 4, ground := Ground.chain }, { on := 0, ground := Ground.phase }, { on := 1, ground := Ground.phase }, { on := 2, ground := Ground.phase }, { on := 3, ground := Ground.phase }, { on := 4, ground := Ground.phase }], guard := none }) rfl (fun K hK => ?_) AllReadyH.nil
      rw [if_pos (by rfl)]
      refine wp_store_row _ (Operand.tmp 3) (Operand.tmp 12) rfl (b + 1) (pcells qy ry ly hy) rfl rfl _ _ hT.out.bq (by kernel_rfl) rfl (pcells_slp say.out sby.out scy.out) (hK.out _ _ trivial ?_)
      clear hK K
      intro _
      try simp only [Act.put]
      replace hT := show Hid _ from hT.out.setq hlo.out say.out sby.out scy.out
      generalize w9.setRow (b + 1) (pcells qy ry ly hy) = w10 at hT ⊢
      refine wpAnyH_done (by kernel_rfl) (L8.ThrowQ.normal ?_) _
      go_wp2
      go_meet
      exact ⟨rfl, qx, rx, lx, hx, qy, ry, ly, hy, hT, kx.out, ky.out⟩
  case rest =>
  clear hT hPp hPq
  obtain ⟨rfl, p, ur, ul, uh, q, vr, vl, vh, hT, hok⟩ := hcut
  have hfp := okf hok.out.1
  have hfq := okf hok.out.2
  have fp := hfp.rl_; have fp2 := hfp.ll; have fp3 := hfp.hl; have fp4 := hfp.nl
  have fq := hfq.rl_; have fq2 := hfq.ll; have fq3 := hfq.hl; have fq4 := hfq.nl
  have hnp : p.nm.length ≤ 30000 ∧ p.rs.length + p.lt.length + p.hd.length ≤ 30000 := ⟨by omega, by omega⟩
  have hnq : q.nm.length ≤ 30000 ∧ q.rs.length + q.lt.length + q.hd.length ≤ 30000 := ⟨by omega, by omega⟩
  have hn3 : p.rs.length ≤ 30000 ∧ p.lt.length ≤ 30000 ∧ p.hd.length ≤ 30000 := ⟨by omega, by omega, by omega⟩
  clear hfp hfq fp fp2 fp3 fp4 fq fq2 fq3 fq4
  have hP1 := Print_w p ur ul uh wc (he0.out.ext hT.out.ext) hnp.1 hnp.2 (hT.out.p1.ext hT.out.ext) (hT.out.p2.ext hT.out.ext) (hT.out.p3.ext hT.out.ext)
  rw [if_pos hok.out.1] at hP1
  have hP2 : Hid (∀ W : World, Ext w W → Calls Tryz.prog 10 #[.agg (pcells q vr vl vh)] W fun e w' => e = .returned (.tuple #[.string ⟨(prt q).toArray⟩, .int .i64 0]) ∧ Ext W w') := by
    intro W hW
    have h := Print_w q vr vl vh W (he0.out.ext hW) hnq.1 hnq.2 (hT.out.q1.ext hW) (hT.out.q2.ext hW) (hT.out.q3.ext hW)
    rwa [if_pos hok.out.2] at h
  have hSm : Hid (∀ W : World, Ext w W → Calls Tryz.prog 16 #[.agg (pcells p ur ul uh), .agg (pcells q vr vl vh)] W fun e w' => e = .returned (.bool (decide (prt p = prt q))) ∧ Ext W w') := by
    intro W hW
    by_cases hpq : p = q
    · subst hpq
      rw [decide_eq_true rfl]
      exact Prod_c p ur ul uh vr vl vh W hn3 (hT.out.p1.ext hW) (hT.out.p2.ext hW) (hT.out.p3.ext hW) (hT.out.q1.ext hW) (hT.out.q2.ext hW) (hT.out.q3.ext hW)
    · rw [decide_eq_false (fun e => hpq (prt_inj hok.out.1 hok.out.2 e))]
      exact Prod_n p q ur ul uh vr vl vh W hn3 (hT.out.p1.ext hW) (hT.out.p2.ext hW) (hT.out.p3.ext hW) (hT.out.q1.ext hW) (hT.out.q2.ext hW) (hT.out.q3.ext hW) hpq
  generalize prt p = A at *
  generalize prt q = B at *
  replace hP1 := show Hid _ from hP1
  have hsp : (pcells p ur ul uh).size = 19 := rfl
  have hsq : (pcells q vr vl vh).size = 19 := rfl
  have hBp := hT.out.bp
  clear hnp hnq hn3 hok hlo
  go_wp2_with (refine load27 hBp hsp rfl rfl rfl ?_)
  refine Calls.mono hP1.out ?_
  rintro e w1 ⟨rfl, hx1⟩
  clear hP1 hBp
  replace hT := show Hid _ from hT.out.on hx1
  have hBq := hT.out.bq
  clear hx1
  go_wp2_with (refine load27 hBq hsq rfl rfl rfl ?_)
  refine Calls.mono (hP2.out _ hT.out.ext) ?_
  rintro e w2 ⟨rfl, hx1⟩
  clear hP2 hBq
  replace hT := show Hid _ from hT.out.on hx1
  clear hx1
  have haw := show Hid _ from awake_w w2 (he0.out.ext hT.out.ext)
  go_wp2_with fail
  refine Calls.mono haw.out ?_
  rintro e w3 ⟨rfl, hx1⟩
  clear haw
  replace hT := show Hid _ from hT.out.on hx1
  have hBp := hT.out.bp
  have hBq := hT.out.bq
  clear hx1
  by_cases hAB : A = B
  · rw [decide_eq_true hAB] at hSm
    subst hAB
    replace hSm := show Hid _ from hSm.out w3 hT.out.ext
    go_wp2_with (first | refine load27 hBp hsp rfl rfl rfl ?_ | refine load27 hBq hsq rfl rfl rfl ?_)
    refine Calls.mono hSm.out ?_
    rintro e w4 ⟨rfl, hx1⟩
    replace hx1 := show Hid _ from hT.out.ext.trans hx1
    clear hBp hBq hT hSm
    go_wp2
    go_ret
    exact ⟨rfl, hx1.out⟩
  · rw [decide_eq_false hAB] at hSm
    replace hSm := show Hid _ from hSm.out w3 hT.out.ext
    have hAB2 : ¬ (⟨A.toArray⟩ : ByteArray) = ⟨B.toArray⟩ := fun e => hAB (by have := congrArg (fun x => x.data.toList) e; simpa using this)
    go_wp2_with (first | refine load27 hBp hsp rfl rfl rfl ?_ | refine load27 hBq hsq rfl rfl rfl ?_)
    refine Calls.mono hSm.out ?_
    rintro e w4 ⟨rfl, hx1⟩
    replace hx1 := show Hid _ from hT.out.ext.trans hx1
    clear hBp hBq hT hSm
    go_wp2
    go_ret
    refine ⟨show Ending.returned (.bool (!(A == B))) = _ from ?_, hx1.out⟩
    rw [beq_false_of_ne hAB]
    rfl
set_option maxRecDepth 100000 in
theorem lifted (os : Os) (started : os.Started) (H : Type) (enc : TypeId × Value → H) :
    ReturnsInHanded {} Tryz.checked os 4 .any (fun w args => (Rows.printerOneSpec.pre enc Tryz.prog Tryz.f4 [] false w args ∧ laidMetH Tryz.prog laid w) ∧ sizedMet enc Tryz.prog Tryz.f4 (OpenSpec.ofChange Rows.printerOneSpec) false w args)
      (Rows.printerOneSpec.post enc Tryz.prog Tryz.f4 false true false false) := by
  refine wrap started (by kernel_rfl) Tryz.func4
    (ChangeSpec.witness_shaped (enc := enc) (C := Tryz.checked) (os := os) (X := fun w _ => laidMetH Tryz.prog laid w) false (World.laidAll Tryz.prog os laid) #[.agg #[.string ⟨#[]⟩, .int .i64 0, .int .i64 0, .int .i64 0, .int .i64 0, .int .i64 0, .int .i64 0, .int .i64 0, .slice none 0 0, .int .i64 0, .int .i64 0, .int .i64 0, .int .i64 0, .int .i64 0, .int .i64 0, .slice none 0 0, .int .i64 0, .int .i64 0, .slice none 0 0], .agg #[.string ⟨#[]⟩, .int .i64 0, .int .i64 0, .int .i64 0, .int .i64 0, .int .i64 0, .int .i64 0, .int .i64 0, .slice none 0 0, .int .i64 0, .int .i64 0, .int .i64 0, .int .i64 0, .int .i64 0, .int .i64 0, .slice none 0 0, .int .i64 0, .int .i64 0, .slice none 0 0]] 8 (World.laidAll_os _ _ _)
      (World.shaped_of_ZipB (by kernel_rfl) (by kernel_rfl)) (by kernel_rfl) (by kernel_rfl) (by kernel_rfl)
      (by rw [MakeChecks.laidMetH_plain _ _ _ (by kernel_rfl)]; exact laidMet_laidAll _ (by kernel_rfl) (by kernel_rfl))) ?_
  intro W base args ds gs before hval0 hW hE
  have hval : ∀ (j : Nat) t v, Tryz.f4.params[j]? = some t → args[j]? = some v → Value.okWide Tryz.prog W .any base t v := hval0
  have hW' := hW
  obtain ⟨p, q, hA0, hV, rfl, _, _⟩ := hW
  have hA : DataW.TrodAll enc Tryz.prog W 0 (fun _ => true) true Tryz.f4.params.toList args.toList ds p := hA0
  rw [Tryz.params4] at hA hval
  obtain ⟨v0, vs0, d0, ds0, p0, q0, hargs, rfl, rfl, h0, r0⟩ := trodAll_cons hA
  obtain ⟨v1, vs1, d1, ds1, p1, q1, rfl, rfl, rfl, h1, r1⟩ := trodAll_cons r0
  obtain ⟨rfl, rfl, rfl⟩ := trodAll_nil r1
  obtain rfl : args = #[v0, v1] := by cases args; simp_all
  obtain ⟨rfl, rfl⟩ := trodVars_none hV
  obtain ⟨nm_0, cn_0, rd_0, kd_0, ev_0, tm_0, gr_0, rt_0, vr_0, rs_0, pn_0, o0_0, o1_0, o2_0, o3_0, ov_0, vl_0, lt_0, cp_0, rl_0, vh_0, hd_0, rfl, hp0, sr0, sl0, sh0, t0⟩ := L8.open_prod (hval 0 27 v0 rfl rfl) h0
  obtain ⟨nm_1, cn_1, rd_1, kd_1, ev_1, tm_1, gr_1, rt_1, vr_1, rs_1, pn_1, o0_1, o1_1, o2_1, o3_1, ov_1, vl_1, lt_1, cp_1, rl_1, vh_1, hd_1, rfl, hp1, sr1, sl1, sh1, t1⟩ := L8.open_prod (hval 1 27 v1 rfl rfl) h1
  clear hA0 hval0
  simp only [List.append_nil] at hW'
  refine (walk ⟨nm_0, cn_0, rd_0, kd_0, ev_0, tm_0, gr_0, rt_0, rs_0, pn_0, o0_0, o1_0, o2_0, o3_0, ov_0, lt_0, cp_0, rl_0, hd_0⟩ vr_0 vl_0 vh_0 hp0 ⟨nm_1, cn_1, rd_1, kd_1, ev_1, tm_1, gr_1, rt_1, rs_1, pn_1, o0_1, o1_1, o2_1, o3_1, ov_1, lt_1, cp_1, rl_1, hd_1⟩ vr_1 vl_1 vh_1 hp1 W hE sr0 sl0 sh0 sr1 sl1 sh1).mono fun e W' ⟨he, hb⟩ => ?_
  subst he
  exact ⟨_, rfl, _, _, _, [], _, [], hW', (trodAll_cons_mk (shut_bool Tryz.underlying4 _) trodAll_mk0), (trodAll_cons_mk (t0 _ hb) (trodAll_cons_mk (t1 _ hb) trodAll_mk0)), rfl, hb.below.frame _, fun h => by cases h⟩
theorem over : Rows.printerOneRow.holds Tryz.pinned (OpenSpec.ofChange Rows.printerOneSpec) :=
  OpenClaim.holds_of_wide 4 Tryz.f4 rfl rfl rfl rfl rfl rfl rfl ⟨rfl, rfl, rfl, rfl, rfl⟩ rfl rfl rfl rfl rfl (by kernel_rfl) Tryz.func4 (by kernel_rfl)
    (of_decide_eq_true (by kernel_rfl)) (by unfold Func.isWrapper; first | (rw [if_pos (by decide +kernel)]; kernel_rfl) | (rw [if_neg (by decide +kernel)]; exact ⟨rfl, rfl⟩))
    (fun os started H enc _ => lifted os started H enc)
end Go.Proofs.YtaafagggjnemgaaGreatDoor.printerOne
namespace Go.Proofs.YtaafagggjnemgaaGreatDoor
theorem printerOne_holds : Rows.PrinterOneCardSaid :=
  Claim7.holds_tied_plain_at .later [] [.data, .data, .data, .data, .data, .data, .data, .data, .data, .data, .data, .pinned] true (true, "b1b57acc663042ce5f81bf03d8392d7f9124fd5d3728a3e4bc8a421a9b056201") true printerOne.over (fun _ h => by cases h) (by kernel_rfl) (fun _ h => by cases h) printerOne_row_tie rfl ⟨rfl, rfl⟩ (by kernel_rfl) rfl
    (fun f fn hf hfn => by
      obtain rfl : f = 4 := Option.some.inj ((show Tryz.prog.funcNamed "quittance/quittancelaw10.PrinterOne" = some 4 by kernel_rfl).symm.trans hf) |>.symm
      obtain rfl : fn = Tryz.f4 := (Option.some.inj (Tryz.func4.symm.trans hfn)).symm
      exact ⟨by kernel_rfl, fun j t ht => by
        rw [Tryz.params4] at ht
        have hm : t ∈ [27, 27] := by simpa using Array.mem_of_getElem? ht
        have hall : ([27, 27].all fun u => !Tryz.prog.wantsStandIn u) = true := by kernel_rfl
        exact (show Tryz.prog.wantsStandIn t = false by simpa using List.all_eq_true.1 hall t hm)⟩)
    (by kernel_rfl)
#print axioms printerOne_holds
end Go.Proofs.YtaafagggjnemgaaGreatDoor
