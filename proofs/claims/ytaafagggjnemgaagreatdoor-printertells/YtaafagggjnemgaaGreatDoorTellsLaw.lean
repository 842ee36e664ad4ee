/- For every product, of the project's tree at the commit that COMMIT names, PrinterTells returns true and leaves its arguments as they were, with the listed variables laid as the program's text lays them. -/
import Derived.Test.YtaafagggjnemgaaGreatDoorQ7
import Derived.Test.YtaafagggjnemgaaGreatDoorQ8
import Derived.Test.YtaafagggjnemgaaGreatDoorQ9
import Derived.Test.YtaafagggjnemgaaGreatDoorQ19
import Derived.Test.YtaafagggjnemgaaGreatDoorQ20
namespace Go.Proofs.YtaafagggjnemgaaGreatDoor.printerTells
open Go.ChangeShapes Go.WideShapes Go.ChangeAt Go.RowKit Go.Lib
set_option linter.unusedVariables false
set_option maxRecDepth 100000 in
set_option maxHeartbeats 4000000 in

theorem walk (p0 : Prd) (vr0 vl0 vh0 : Value) (hp0 : L8.Fits p0.nm p0.rs p0.lt p0.hd) (w : World) (he : Evn w) (sr0 : L8.Slp w vr0 p0.rs) (sl0 : L8.Slp w vl0 p0.lt) (sh0 : L8.Slc w vh0 p0.hd) :
    Calls Tryz.prog 3 #[.agg (pcells p0 vr0 vl0 vh0)] w fun e w' => e = .returned (.bool true) ∧ Ext w w' := by
  have m0 := hp0.nm; have m1 := hp0.rs; have m2 := hp0.lt; have m3 := hp0.hd
  unfold maxLen at m0 m1 m2 m3
  clear hp0
  obtain ⟨ar, cr, rfl, _, _⟩ := sr0.src
  obtain ⟨al, cl, rfl, _, _⟩ := sl0.src
  obtain ⟨ah, ch, rfl, _, _⟩ := sh0.src
  have hone := pcells_slp sr0 sl0 sh0
  have hsz : (pcells p0 (.slice ar p0.rs.length cr) (.slice al p0.lt.length cl) (.slice ah p0.hd.length ch)).size = 19 := rfl
  obtain ⟨W0, b, hW0, hb, hx0, hB⟩ : ∃ W b, w.alloc (.cells (pcells p0 (.slice ar p0.rs.length cr) (.slice al p0.lt.length cl) (.slice ah p0.hd.length ch)) 27) = W ∧ w.heap.size = b ∧ Ext w W ∧ Blk W b (pcells p0 (.slice ar p0.rs.length cr) (.slice al p0.lt.length cl) (.slice ah p0.hd.length ch)) := ⟨_, _, rfl, rfl, (Ext.refl w).alloc _ _, heap_alloc_last w _⟩
  have hsW0 : W0.heap.size = b + 1 := by rw [← hW0, ← hb]; simp
  have hbx := box_prod p0 (.slice ar p0.rs.length cr) (.slice al p0.lt.length cl) (.slice ah p0.hd.length ch) hone W0
  have y0 : W0.cell? ⟨b, 0, none⟩ = some (.string ⟨p0.nm.toArray⟩) := (cell_of_row _ b 0 _ _ _ hB).trans rfl
  have y8 : W0.cell? ⟨b, 8, none⟩ = some (.slice ar p0.rs.length cr) := (cell_of_row _ b 8 _ _ _ hB).trans rfl
  have y15 : W0.cell? ⟨b, 15, none⟩ = some (.slice al p0.lt.length cl) := (cell_of_row _ b 15 _ _ _ hB).trans rfl
  have y18 : W0.cell? ⟨b, 18, none⟩ = some (.slice ah p0.hd.length ch) := (cell_of_row _ b 18 _ _ _ hB).trans rfl
  clear hbx
  by_cases c0 : 100 < p0.nm.length
  · have hli : (100 : Int) < (p0.nm.length : Int) := by omega
    have haw := show Hid _ from awake_w W0 (he.pnv.ext hx0)
    clear hB sr0 sl0 sh0 hone he hsW0 c0
    replace hx0 := show Hid _ from hx0
    go_enter Tryz.func3, Tryz.ntmps3
    go_wp2_with fail
    refine Calls.mono haw.out ?_
    rintro e w1 ⟨rfl, hx⟩
    replace hx := show Hid _ from hx
    go_wp2
    go_ret
    exact ⟨rfl, hx0.out.trans hx.out⟩
  by_cases c1 : 50 < p0.rs.length
  · have hli : (50 : Int) < (p0.rs.length : Int) := by omega
    have pi0 : ¬ (100 : Int) < (p0.nm.length : Int) := by omega
    have haw := show Hid _ from awake_w W0 (he.pnv.ext hx0)
    clear hB sr0 sl0 sh0 hone he hsW0 c1
    replace hx0 := show Hid _ from hx0
    go_enter Tryz.func3, Tryz.ntmps3
    go_wp2_with fail
    refine Calls.mono haw.out ?_
    rintro e w1 ⟨rfl, hx⟩
    replace hx := show Hid _ from hx
    go_wp2
    go_ret
    exact ⟨rfl, hx0.out.trans hx.out⟩
  by_cases c2 : 50 < p0.lt.length
  · have hli : (50 : Int) < (p0.lt.length : Int) := by omega
    have pi0 : ¬ (100 : Int) < (p0.nm.length : Int) := by omega
    have pi1 : ¬ (50 : Int) < (p0.rs.length : Int) := by omega
    have haw := show Hid _ from awake_w W0 (he.pnv.ext hx0)
    clear hB sr0 sl0 sh0 hone he hsW0 c2
    replace hx0 := show Hid _ from hx0
    go_enter Tryz.func3, Tryz.ntmps3
    go_wp2_with fail
    refine Calls.mono haw.out ?_
    rintro e w1 ⟨rfl, hx⟩
    replace hx := show Hid _ from hx
    go_wp2
    go_ret
    exact ⟨rfl, hx0.out.trans hx.out⟩
  by_cases c3 : 300 < p0.hd.length
  · have hli : (300 : Int) < (p0.hd.length : Int) := by omega
    have pi0 : ¬ (100 : Int) < (p0.nm.length : Int) := by omega
    have pi1 : ¬ (50 : Int) < (p0.rs.length : Int) := by omega
    have pi2 : ¬ (50 : Int) < (p0.lt.length : Int) := by omega
    have haw := show Hid _ from awake_w W0 (he.pnv.ext hx0)
    clear hB sr0 sl0 sh0 hone he hsW0 c3
    replace hx0 := show Hid _ from hx0
    go_enter Tryz.func3, Tryz.ntmps3
    go_wp2_with fail
    refine Calls.mono haw.out ?_
    rintro e w1 ⟨rfl, hx⟩
    replace hx := show Hid _ from hx
    go_wp2
    go_ret
    exact ⟨rfl, hx0.out.trans hx.out⟩
  have pi0 : ¬ (100 : Int) < (p0.nm.length : Int) := by omega
  have pi1 : ¬ (50 : Int) < (p0.rs.length : Int) := by omega
  have pi2 : ¬ (50 : Int) < (p0.lt.length : Int) := by omega
  have pi3 : ¬ (300 : Int) < (p0.hd.length : Int) := by omega
  obtain ⟨cA, hcA⟩ : ∃ c : Array Value, (pcells p0 (.slice ar p0.rs.length cr) (.slice al p0.lt.length cl) (.slice ah p0.hd.length ch)) = c := ⟨_, rfl⟩
  have hBk : Hid (Blk W0 b (pcells p0 (.slice ar p0.rs.length cr) (.slice al p0.lt.length cl) (.slice ah p0.hd.length ch))) := hB
  rw [hcA] at hB hsz hone
  obtain ⟨X0, X1, p, hX0, hp, hs0, hst, hs1, hP, hx1⟩ := L8.lay_copy W0 cA hsz hone
  obtain rfl : p = b + 1 := by omega
  have hbw : Hid (w.heap.size ≤ b + 1) := by show _ ≤ _; omega
  replace hcA := show Hid _ from hcA
  replace hB := show Hid (Blk W0 b cA) from hB
  replace hP := show Hid (L8.Blk X1 (b + 1) cA) from hP
  replace hx0 := show Hid _ from hx0
  replace hx1 := show Hid _ from hx1
  replace sr0 := show Hid (L8.Slp w _ p0.rs) from sr0
  replace sl0 := show Hid (L8.Slp w _ p0.lt) from sl0
  replace sh0 := show Hid (L8.Slc w _ p0.hd) from sh0
  replace he := show Hid _ from he
  have hlen : p0.nm.length ≤ 30000 ∧ p0.rs.length + p0.lt.length + p0.hd.length ≤ 30000 := ⟨by omega, by omega⟩
  have hl2 : p0.rs.length ≤ 1000 ∧ p0.lt.length ≤ 1000 ∧ p0.hd.length ≤ 1000 := ⟨by omega, by omega, by omega⟩
  replace hlen := show Hid _ from hlen
  replace hl2 := show Hid _ from hl2
  clear hone c0 c1 c2 c3
  go_enter Tryz.func3, Tryz.ntmps3
  go_upto_region 3 with fail
  clear pi0 pi1 pi2 pi3 y0 hW0 hb m0 m1 m2 m3
  go_wp2_with (first | (go_not_at_region 4; refine load27 hB.out hsz rfl rfl rfl ?_))
  have hxw : Hid (Ext w X1) := hx0.out.trans hx1.out
  have hB2 := show Hid (L8.Blk X1 b (pcells p0 (.slice ar p0.rs.length cr) (.slice al p0.lt.length cl) (.slice ah p0.hd.length ch))) from hBk.out.ext hx1.out
  have hc8 : cA[8]? = some (.slice ar p0.rs.length cr) := by rw [← hcA.out]; rfl
  have hc15 : cA[15]? = some (.slice al p0.lt.length cl) := by rw [← hcA.out]; rfl
  have hc18 : cA[18]? = some (.slice ah p0.hd.length ch) := by rw [← hcA.out]; rfl
  have hsz2 : Hid (b + 2 ≤ X1.heap.size) := by show _ ≤ _; omega
  have i8 := hx1.out.cell_of y8; have i15 := hx1.out.cell_of y15; have i18 := hx1.out.cell_of y18
  have hO1 : Hid (∀ w' : World, Ext w w' → Calls Tryz.prog 7 #[.slice ar p0.rs.length cr, .agg #[.int .i64 71, .int .i64 0]] w' fun e w'' => (∃ g, e = .returned (.slice (some ⟨g, 0, none⟩) p0.rs.length (p0.rs.length + 3)) ∧ w'.heap.size ≤ g ∧ g < w''.heap.size ∧ L8.Lsp w'' g (p0.rs ++ [(71, 0), (71, 0), (71, 0)])) ∧ Ext w' w'') := fun w' hx => L8.OwnR_c _ p0.rs w' hl2.out.1 (sr0.out.ext hx)
  have hO2 : Hid (∀ w' : World, Ext w w' → Calls Tryz.prog 8 #[.slice al p0.lt.length cl, .agg #[.int .i64 71, .int .i64 0]] w' fun e w'' => (∃ g, e = .returned (.slice (some ⟨g, 0, none⟩) p0.lt.length (p0.lt.length + 3)) ∧ w'.heap.size ≤ g ∧ g < w''.heap.size ∧ L8.Lsp w'' g (p0.lt ++ [(71, 0), (71, 0), (71, 0)])) ∧ Ext w' w'') := fun w' hx => L8.OwnT_c _ p0.lt w' hl2.out.2.1 (sl0.out.ext hx)
  have hO3 : Hid (∀ w' : World, Ext w w' → Calls Tryz.prog 9 #[.slice ah p0.hd.length ch, .int .i64 71] w' fun e w'' => (∃ g, e = .returned (.slice (some ⟨g, 0, none⟩) p0.hd.length (p0.hd.length + 3)) ∧ w'.heap.size ≤ g ∧ g < w''.heap.size ∧ L8.Lst w'' g (p0.hd ++ [71, 71, 71])) ∧ Ext w' w'') := fun w' hx => L8.OwnI_c _ p0.hd w' hl2.out.2.2 (sh0.out.ext hx)
  clear y8 y15 y18 hx1 hX0 hst hs0 hs1 hp hsW0 hB hx0 hBk
  refine L8.wp_region_thrown (fun W => W.cell? ⟨b, 8, none⟩ = some (.slice ar p0.rs.length cr) ∧ W.cell? ⟨b, 15, none⟩ = some (.slice al p0.lt.length cl) ∧ W.cell? ⟨b, 18, none⟩ = some (.slice ah p0.hd.length ch)) (fun a => False) []
    (fun t => none) (fun c W => False) (by kernel_rfl) (fun _ _ _ _ _ h => h.elim) (L8.held3 (Ext.refl X1).drew ⟨i8, i15, i18⟩) (fun hHeld => ?_)
  replace hxw := show Hid (Ext w X1.drew) from hxw.out.trans (Ext.refl X1).drew
  replace hB2 := show Hid (L8.Blk X1.drew b _) from hB2.out.ext (Ext.refl X1).drew
  replace hP := show Hid (L8.Blk X1.drew (b + 1) cA) from hP.out.ext (Ext.refl X1).drew
  replace hsz2 := show Hid (b + 2 ≤ X1.drew.heap.size) from hsz2.out
  obtain ⟨Wd, hWd⟩ : ∃ W, X1.drew = W := ⟨_, rfl⟩
  rw [hWd] at hxw hB2 hP hsz2 hHeld ⊢
  clear i8 i15 i18 hWd
  refine L8.takeT 0 (oi := { dst := some 32, op := Op.fieldAddr 27 (Operand.tmp 1) 8, type := 0, pos := "law.go:26", after := #[], guard := none }) (v := .pointer (some ⟨b, 8, none⟩)) rfl (by kernel_rfl) (by kernel_rfl) (by kernel_rfl) (by decide) (Or.inl ⟨by rfl, fun W hW => ?_⟩) hHeld ?_
  · dsimp only at hW
    go_simp
  simp only [Act.put, List.setIfInBounds_toArray, List.set_cons_zero, List.set_cons_succ]
  refine L8.takeT 1 (oi := { dst := some 33, op := Op.load 22 (Operand.tmp 32), type := 22, pos := "law.go:26", after := #[{ on := 0, ground := Ground.data }], guard := none }) (v := .slice ar p0.rs.length cr) rfl (by kernel_rfl) (by kernel_rfl) (by kernel_rfl) (by decide) (Or.inl ⟨by rfl, fun W hW => ?_⟩) hHeld ?_
  · dsimp only at hW
    go_simp
  simp only [Act.put, List.setIfInBounds_toArray, List.set_cons_zero, List.set_cons_succ]
  refine L8.takeT 2 (oi := { dst := some 34, op := Op.build 31 #[(0, Operand.const (Value.int IntKind.i64 71))], type := 31, pos := "law.go:26", after := #[], guard := none }) (v := .agg #[.int .i64 71, .int .i64 0]) rfl (by kernel_rfl) (by kernel_rfl) (by kernel_rfl) (by decide) (Or.inl ⟨by rfl, fun W hW => ?_⟩) hHeld ?_
  · dsimp only at hW
    go_simp
  simp only [Act.put, List.setIfInBounds_toArray, List.set_cons_zero, List.set_cons_succ]
  refine L8.takeT 4 (oi := { dst := some 36, op := Op.fieldAddr 27 (Operand.tmp 1) 12, type := 0, pos := "law.go:26", after := #[], guard := none }) (v := .pointer (some ⟨b, 15, none⟩)) rfl (by kernel_rfl) (by kernel_rfl) (by kernel_rfl) (by decide) (Or.inl ⟨by rfl, fun W hW => ?_⟩) hHeld ?_
  · dsimp only at hW
    go_simp
  simp only [Act.put, List.setIfInBounds_toArray, List.set_cons_zero, List.set_cons_succ]
  refine L8.takeT 5 (oi := { dst := some 37, op := Op.load 24 (Operand.tmp 36), type := 24, pos := "law.go:26", after := #[{ on := 4, ground := Ground.data }], guard := none }) (v := .slice al p0.lt.length cl) rfl (by kernel_rfl) (by kernel_rfl) (by kernel_rfl) (by decide) (Or.inl ⟨by rfl, fun W hW => ?_⟩) hHeld ?_
  · dsimp only at hW
    go_simp
  simp only [Act.put, List.setIfInBounds_toArray, List.set_cons_zero, List.set_cons_succ]
  refine L8.takeT 6 (oi := { dst := some 38, op := Op.build 34 #[(0, Operand.const (Value.int IntKind.i64 71))], type := 34, pos := "law.go:26", after := #[], guard := none }) (v := .agg #[.int .i64 71, .int .i64 0]) rfl (by kernel_rfl) (by kernel_rfl) (by kernel_rfl) (by decide) (Or.inl ⟨by rfl, fun W hW => ?_⟩) hHeld ?_
  · dsimp only at hW
    go_simp
  simp only [Act.put, List.setIfInBounds_toArray, List.set_cons_zero, List.set_cons_succ]
  refine L8.takeT 8 (oi := { dst := some 40, op := Op.fieldAddr 27 (Operand.tmp 1) 15, type := 0, pos := "law.go:26", after := #[], guard := none }) (v := .pointer (some ⟨b, 18, none⟩)) rfl (by kernel_rfl) (by kernel_rfl) (by kernel_rfl) (by decide) (Or.inl ⟨by rfl, fun W hW => ?_⟩) hHeld ?_
  · dsimp only at hW
    go_simp
  simp only [Act.put, List.setIfInBounds_toArray, List.set_cons_zero, List.set_cons_succ]
  refine L8.takeT 9 (oi := { dst := some 41, op := Op.load 25 (Operand.tmp 40), type := 25, pos := "law.go:26", after := #[{ on := 8, ground := Ground.data }], guard := none }) (v := .slice ah p0.hd.length ch) rfl (by kernel_rfl) (by kernel_rfl) (by kernel_rfl) (by decide) (Or.inl ⟨by rfl, fun W hW => ?_⟩) hHeld ?_
  · dsimp only at hW
    go_simp
  simp only [Act.put, List.setIfInBounds_toArray, List.set_cons_zero, List.set_cons_succ]
  refine wpAnyH_ready (rs := [3]) (by kernel_rfl) (by simp) ?_
  refine AllReadyH.cons (o := { dst := some 35, op := Op.call { callee := Callee.value (Operand.func 7), args := #[Operand.tmp 33, Operand.tmp 34], argTypes := #[22, 31] }, type := 22, pos := "law.go:26", after := #[{ on := 1, ground := Ground.data }, { on := 2, ground := Ground.data }], guard := none }) rfl (fun K hK => ?_) AllReadyH.nil
  go_simp
  refine Calls.mono (hO1.out _ hxw.out) ?_
  rintro e w2 ⟨⟨g1, rfl, log1, ltg1, hLg1⟩, hx⟩
  try dsimp only
  refine hK.out _ _ (L8.held3 hx hHeld) ?_
  clear hK K hHeld
  intro hHeld
  replace hLg1 := show Hid (L8.Lsp w2 g1 _) from hLg1
  have log1' : b + 2 ≤ g1 := by have := hsz2.out; omega
  have hsz3 : Hid (b + 2 ≤ w2.heap.size) := by show _ ≤ _; have := hsz2.out; have := hx.size; omega
  replace hsz2 := hsz3
  replace hxw := show Hid (Ext w w2) from hxw.out.trans hx
  replace hB2 := show Hid (L8.Blk w2 b _) from hB2.out.ext hx
  replace hP := show Hid (L8.Blk w2 (b + 1) cA) from hP.out.ext hx
  clear hx log1 ltg1
  try simp only [Act.put, List.setIfInBounds_toArray, List.set_cons_zero, List.set_cons_succ]
  refine L8.takeT 11 (oi := { dst := some 43, op := Op.fieldAddr 27 (Operand.tmp 3) 8, type := 0, pos := "law.go:26", after := #[{ on := 0, ground := Ground.phase }, { on := 1, ground := Ground.phase }, { on := 2, ground := Ground.phase }, { on := 3, ground := Ground.phase }, { on := 4, ground := Ground.textOnly Departure.lateStores }, { on := 5, ground := Ground.textOnly Departure.lateStores }, { on := 6, ground := Ground.textOnly Departure.lateStores }, { on := 7, ground := Ground.textOnly Departure.lateStoresUnsure }, { on := 8, ground := Ground.textOnly Departure.lateStores }, { on := 9, ground := Ground.textOnly Departure.lateStores }, { on := 10, ground := Ground.textOnly Departure.lateStoresUnsure }], guard := none }) (v := .pointer (some ⟨b + 1, 8, none⟩)) rfl (by kernel_rfl) (by kernel_rfl) (by kernel_rfl) (by decide) (Or.inl ⟨by rfl, fun W hW => ?_⟩) hHeld ?_
  · dsimp only at hW
    go_simp
  simp only [Act.put, List.setIfInBounds_toArray, List.set_cons_zero, List.set_cons_succ]
  refine wpAnyH_ready (rs := [7]) (by kernel_rfl) (by simp) ?_
  refine AllReadyH.cons (o := { dst := some 39, op := Op.call { callee := Callee.value (Operand.func 8), args := #[Operand.tmp 37, Operand.tmp 38], argTypes := #[24, 34] }, type := 24, pos := "law.go:26", after := #[{ on := 5, ground := Ground.data }, { on := 6, ground := Ground.data }, { on := 3, ground := Ground.chain }], guard := none }) rfl (fun K hK => ?_) AllReadyH.nil
  go_simp
  refine Calls.mono (hO2.out _ hxw.out) ?_
  rintro e w3 ⟨⟨g2, rfl, log2, ltg2, hLg2⟩, hx⟩
  try dsimp only
  refine hK.out _ _ (L8.held3 hx hHeld) ?_
  clear hK K hHeld
  intro hHeld
  replace hLg2 := show Hid (L8.Lsp w3 g2 _) from hLg2
  replace hLg1 := show Hid (L8.Lsp w3 g1 _) from hLg1.out.ext hx
  have log2' : b + 2 ≤ g2 := by have := hsz2.out; omega
  have hsz3 : Hid (b + 2 ≤ w3.heap.size) := by show _ ≤ _; have := hsz2.out; have := hx.size; omega
  replace hsz2 := hsz3
  replace hxw := show Hid (Ext w w3) from hxw.out.trans hx
  replace hB2 := show Hid (L8.Blk w3 b _) from hB2.out.ext hx
  replace hP := show Hid (L8.Blk w3 (b + 1) cA) from hP.out.ext hx
  clear hx log2 ltg2
  try simp only [Act.put, List.setIfInBounds_toArray, List.set_cons_zero, List.set_cons_succ]
  refine wpAnyH_ready (rs := [10]) (by kernel_rfl) (by simp) ?_
  refine AllReadyH.cons (o := { dst := some 42, op := Op.call { callee := Callee.value (Operand.func 9), args := #[Operand.tmp 41, Operand.const (Value.int IntKind.i64 71)], argTypes := #[25, 3] }, type := 25, pos := "law.go:26", after := #[{ on := 9, ground := Ground.data }, { on := 7, ground := Ground.chain }], guard := none }) rfl (fun K hK => ?_) AllReadyH.nil
  go_simp
  refine Calls.mono (hO3.out _ hxw.out) ?_
  rintro e w4 ⟨⟨g3, rfl, log3, ltg3, hLg3⟩, hx⟩
  try dsimp only
  refine hK.out _ _ (L8.held3 hx hHeld) ?_
  clear hK K hHeld
  intro hHeld
  replace hLg3 := show Hid (L8.Lst w4 g3 _) from hLg3
  replace hLg1 := show Hid (L8.Lsp w4 g1 _) from hLg1.out.ext hx
  replace hLg2 := show Hid (L8.Lsp w4 g2 _) from hLg2.out.ext hx
  have log3' : b + 2 ≤ g3 := by have := hsz2.out; omega
  have hsz3 : Hid (b + 2 ≤ w4.heap.size) := by show _ ≤ _; have := hsz2.out; have := hx.size; omega
  replace hsz2 := hsz3
  replace hxw := show Hid (Ext w w4) from hxw.out.trans hx
  replace hB2 := show Hid (L8.Blk w4 b _) from hB2.out.ext hx
  replace hP := show Hid (L8.Blk w4 (b + 1) cA) from hP.out.ext hx
  clear hx log3 ltg3
  try simp only [Act.put, List.setIfInBounds_toArray, List.set_cons_zero, List.set_cons_succ]
  have q0 : w4.cell? ⟨b + 1, 8, none⟩ = some (.slice ar p0.rs.length cr) := (cell_of_row _ (b + 1) 8 _ _ _ hP.out).trans (hc8)
  have q1 := frozen_of_row _ (b + 1) 8 _ _ hP.out
  refine wpAnyH_ready (rs := [12]) (by kernel_rfl) (by simp) ?_
  refine AllReadyH.cons (o := { dst := none, op := Op.store 22 (Operand.tmp 43) (Operand.tmp 35), type := 0, pos := "law.go:26", after := #[{ on := 11, ground := Ground.data }, { on := 3, ground := Ground.data }, { on := 10, ground := Ground.chain }, { on := 0, ground := Ground.phase }, { on := 1, ground := Ground.phase }, { on := 2, ground := Ground.phase }, { on := 3, ground := Ground.phase }, { on := 4, ground := Ground.textOnly Departure.lateStores }, { on := 5, ground := Ground.textOnly Departure.lateStores }, { on := 6, ground := Ground.textOnly Departure.lateStores }, { on := 7, ground := Ground.textOnly Departure.lateStoresUnsure }, { on := 8, ground := Ground.textOnly Departure.lateStores }, { on := 9, ground := Ground.textOnly Departure.lateStores }, { on := 10, ground := Ground.textOnly Departure.lateStoresUnsure }], guard := none }) rfl (fun K hK => ?_) AllReadyH.nil
  go_simp
  refine hK.out _ _ (L8.held3_far hHeld) ?_
  clear hK K hHeld q0 q1
  intro hHeld
  replace hxw := show Hid (Ext w (w4.setCell ⟨b + 1, 8, none⟩ (.slice (some ⟨g1, 0, none⟩) p0.rs.length (p0.rs.length + 3)))) from hxw.out.setCell hbw.out _
  replace hB2 := show Hid (L8.Blk (w4.setCell ⟨b + 1, 8, none⟩ (.slice (some ⟨g1, 0, none⟩) p0.rs.length (p0.rs.length + 3))) b _) from hB2.out.other 8 _ (by omega)
  replace hP := show Hid (L8.Blk (w4.setCell ⟨b + 1, 8, none⟩ (.slice (some ⟨g1, 0, none⟩) p0.rs.length (p0.rs.length + 3))) (b + 1) _) from hP.out.set 8 _
  replace hLg1 := show Hid (L8.Lsp (w4.setCell ⟨b + 1, 8, none⟩ (.slice (some ⟨g1, 0, none⟩) p0.rs.length (p0.rs.length + 3))) g1 _) from hLg1.out.far (by omega) _ _
  replace hLg2 := show Hid (L8.Lsp (w4.setCell ⟨b + 1, 8, none⟩ (.slice (some ⟨g1, 0, none⟩) p0.rs.length (p0.rs.length + 3))) g2 _) from hLg2.out.far (by omega) _ _
  replace hLg3 := show Hid (L8.Lst (w4.setCell ⟨b + 1, 8, none⟩ (.slice (some ⟨g1, 0, none⟩) p0.rs.length (p0.rs.length + 3))) g3 _) from hLg3.out.far (by omega) _ _
  obtain ⟨w5, hw5⟩ : ∃ W, w4.setCell ⟨b + 1, 8, none⟩ (.slice (some ⟨g1, 0, none⟩) p0.rs.length (p0.rs.length + 3)) = W := ⟨_, rfl⟩
  rw [hw5] at hxw hB2 hP hLg1 hLg2 hLg3 hHeld ⊢
  clear hw5
  refine L8.takeT 13 (oi := { dst := some 44, op := Op.fieldAddr 27 (Operand.tmp 3) 12, type := 0, pos := "law.go:26", after := #[{ on := 0, ground := Ground.phase }, { on := 1, ground := Ground.phase }, { on := 2, ground := Ground.phase }, { on := 3, ground := Ground.phase }, { on := 4, ground := Ground.phase }, { on := 5, ground := Ground.phase }, { on := 6, ground := Ground.phase }, { on := 7, ground := Ground.phase }, { on := 8, ground := Ground.textOnly Departure.lateStores }, { on := 9, ground := Ground.textOnly Departure.lateStores }, { on := 10, ground := Ground.textOnly Departure.lateStoresUnsure }, { on := 11, ground := Ground.phase }, { on := 12, ground := Ground.phase }], guard := none }) (v := .pointer (some ⟨b + 1, 15, none⟩)) rfl (by kernel_rfl) (by kernel_rfl) (by kernel_rfl) (by decide) (Or.inl ⟨by rfl, fun W hW => ?_⟩) hHeld ?_
  · dsimp only at hW
    go_simp
  simp only [Act.put, List.setIfInBounds_toArray, List.set_cons_zero, List.set_cons_succ]
  have q0 : w5.cell? ⟨b + 1, 15, none⟩ = some (.slice al p0.lt.length cl) := (cell_of_row _ (b + 1) 15 _ _ _ hP.out).trans (by rw [Array.getElem?_setIfInBounds_ne (by omega)]; exact hc15)
  have q1 := frozen_of_row _ (b + 1) 15 _ _ hP.out
  refine wpAnyH_ready (rs := [14]) (by kernel_rfl) (by simp) ?_
  refine AllReadyH.cons (o := { dst := none, op := Op.store 24 (Operand.tmp 44) (Operand.tmp 39), type := 0, pos := "law.go:26", after := #[{ on := 13, ground := Ground.data }, { on := 7, ground := Ground.data }, { on := 12, ground := Ground.chain }, { on := 0, ground := Ground.phase }, { on := 1, ground := Ground.phase }, { on := 2, ground := Ground.phase }, { on := 3, ground := Ground.phase }, { on := 4, ground := Ground.phase }, { on := 5, ground := Ground.phase }, { on := 6, ground := Ground.phase }, { on := 7, ground := Ground.phase }, { on := 8, ground := Ground.textOnly Departure.lateStores }, { on := 9, ground := Ground.textOnly Departure.lateStores }, { on := 10, ground := Ground.textOnly Departure.lateStoresUnsure }, { on := 11, ground := Ground.phase }, { on := 12, ground := Ground.phase }], guard := none }) rfl (fun K hK => ?_) AllReadyH.nil
  go_simp
  refine hK.out _ _ (L8.held3_far hHeld) ?_
  clear hK K hHeld q0 q1
  intro hHeld
  replace hxw := show Hid (Ext w (w5.setCell ⟨b + 1, 15, none⟩ (.slice (some ⟨g2, 0, none⟩) p0.lt.length (p0.lt.length + 3)))) from hxw.out.setCell hbw.out _
  replace hB2 := show Hid (L8.Blk (w5.setCell ⟨b + 1, 15, none⟩ (.slice (some ⟨g2, 0, none⟩) p0.lt.length (p0.lt.length + 3))) b _) from hB2.out.other 15 _ (by omega)
  replace hP := show Hid (L8.Blk (w5.setCell ⟨b + 1, 15, none⟩ (.slice (some ⟨g2, 0, none⟩) p0.lt.length (p0.lt.length + 3))) (b + 1) _) from hP.out.set 15 _
  replace hLg1 := show Hid (L8.Lsp (w5.setCell ⟨b + 1, 15, none⟩ (.slice (some ⟨g2, 0, none⟩) p0.lt.length (p0.lt.length + 3))) g1 _) from hLg1.out.far (by omega) _ _
  replace hLg2 := show Hid (L8.Lsp (w5.setCell ⟨b + 1, 15, none⟩ (.slice (some ⟨g2, 0, none⟩) p0.lt.length (p0.lt.length + 3))) g2 _) from hLg2.out.far (by omega) _ _
  replace hLg3 := show Hid (L8.Lst (w5.setCell ⟨b + 1, 15, none⟩ (.slice (some ⟨g2, 0, none⟩) p0.lt.length (p0.lt.length + 3))) g3 _) from hLg3.out.far (by omega) _ _
  obtain ⟨w6, hw6⟩ : ∃ W, w5.setCell ⟨b + 1, 15, none⟩ (.slice (some ⟨g2, 0, none⟩) p0.lt.length (p0.lt.length + 3)) = W := ⟨_, rfl⟩
  rw [hw6] at hxw hB2 hP hLg1 hLg2 hLg3 hHeld ⊢
  clear hw6
  refine L8.takeT 15 (oi := { dst := some 45, op := Op.fieldAddr 27 (Operand.tmp 3) 15, type := 0, pos := "law.go:26", after := #[{ on := 0, ground := Ground.phase }, { on := 1, ground := Ground.phase }, { on := 2, ground := Ground.phase }, { on := 3, ground := Ground.phase }, { on := 4, ground := Ground.phase }, { on := 5, ground := Ground.phase }, { on := 6, ground := Ground.phase }, { on := 7, ground := Ground.phase }, { on := 8, ground := Ground.phase }, { on := 9, ground := Ground.phase }, { on := 10, ground := Ground.phase }, { on := 11, ground := Ground.phase }, { on := 12, ground := Ground.phase }, { on := 13, ground := Ground.phase }, { on := 14, ground := Ground.phase }], guard := none }) (v := .pointer (some ⟨b + 1, 18, none⟩)) rfl (by kernel_rfl) (by kernel_rfl) (by kernel_rfl) (by decide) (Or.inl ⟨by rfl, fun W hW => ?_⟩) hHeld ?_
  · dsimp only at hW
    go_simp
  simp only [Act.put, List.setIfInBounds_toArray, List.set_cons_zero, List.set_cons_succ]
  have q0 : w6.cell? ⟨b + 1, 18, none⟩ = some (.slice ah p0.hd.length ch) := (cell_of_row _ (b + 1) 18 _ _ _ hP.out).trans (by rw [Array.getElem?_setIfInBounds_ne (by omega), Array.getElem?_setIfInBounds_ne (by omega)]; exact hc18)
  have q1 := frozen_of_row _ (b + 1) 18 _ _ hP.out
  refine wpAnyH_ready (rs := [16]) (by kernel_rfl) (by simp) ?_
  refine AllReadyH.cons (o := { dst := none, op := Op.store 25 (Operand.tmp 45) (Operand.tmp 42), type := 0, pos := "law.go:26", after := #[{ on := 15, ground := Ground.data }, { on := 10, ground := Ground.data }, { on := 14, ground := Ground.chain }, { on := 0, ground := Ground.phase }, { on := 1, ground := Ground.phase }, { on := 2, ground := Ground.phase }, { on := 3, ground := Ground.phase }, { on := 4, ground := Ground.phase }, { on := 5, ground := Ground.phase }, { on := 6, ground := Ground.phase }, { on := 7, ground := Ground.phase }, { on := 8, ground := Ground.phase }, { on := 9, ground := Ground.phase }, { on := 10, ground := Ground.phase }, { on := 11, ground := Ground.phase }, { on := 12, ground := Ground.phase }, { on := 13, ground := Ground.phase }, { on := 14, ground := Ground.phase }], guard := none }) rfl (fun K hK => ?_) AllReadyH.nil
  go_simp
  refine hK.out _ _ (L8.held3_far hHeld) ?_
  clear hK K hHeld q0 q1
  intro hHeld
  replace hxw := show Hid (Ext w (w6.setCell ⟨b + 1, 18, none⟩ (.slice (some ⟨g3, 0, none⟩) p0.hd.length (p0.hd.length + 3)))) from hxw.out.setCell hbw.out _
  replace hB2 := show Hid (L8.Blk (w6.setCell ⟨b + 1, 18, none⟩ (.slice (some ⟨g3, 0, none⟩) p0.hd.length (p0.hd.length + 3))) b _) from hB2.out.other 18 _ (by omega)
  replace hP := show Hid (L8.Blk (w6.setCell ⟨b + 1, 18, none⟩ (.slice (some ⟨g3, 0, none⟩) p0.hd.length (p0.hd.length + 3))) (b + 1) _) from hP.out.set 18 _
  replace hLg1 := show Hid (L8.Lsp (w6.setCell ⟨b + 1, 18, none⟩ (.slice (some ⟨g3, 0, none⟩) p0.hd.length (p0.hd.length + 3))) g1 _) from hLg1.out.far (by omega) _ _
  replace hLg2 := show Hid (L8.Lsp (w6.setCell ⟨b + 1, 18, none⟩ (.slice (some ⟨g3, 0, none⟩) p0.hd.length (p0.hd.length + 3))) g2 _) from hLg2.out.far (by omega) _ _
  replace hLg3 := show Hid (L8.Lst (w6.setCell ⟨b + 1, 18, none⟩ (.slice (some ⟨g3, 0, none⟩) p0.hd.length (p0.hd.length + 3))) g3 _) from hLg3.out.far (by omega) _ _
  obtain ⟨w7, hw7⟩ : ∃ W, w6.setCell ⟨b + 1, 18, none⟩ (.slice (some ⟨g3, 0, none⟩) p0.hd.length (p0.hd.length + 3)) = W := ⟨_, rfl⟩
  rw [hw7] at hxw hB2 hP hLg1 hLg2 hLg3 hHeld ⊢
  clear hw7
  refine wpAnyH_done (by kernel_rfl) (L8.ThrowQ.normal ?_) _
  rw [← hcA.out] at hP
  have hTw : Hid (Tel w w7 b p0 (.slice ar p0.rs.length cr) (.slice al p0.lt.length cl) (.slice ah p0.hd.length ch) g1 g2 g3) := ⟨hxw.out, hB2.out, hP.out, hLg1.out, hLg2.out, hLg3.out⟩
  clear hHeld hc8 hc15 hc18 hO1 hO2 hO3 hsz hcA hsz2 hxw hB2 hP hLg1 hLg2 hLg3 log1' log2' log3' hbw
  obtain ⟨A, E, hPw, hPd⟩ : ∃ (A : ByteArray) (E : Int), Hid (∀ W : World, Tel w W b p0 (.slice ar p0.rs.length cr) (.slice al p0.lt.length cl) (.slice ah p0.hd.length ch) g1 g2 g3 → Calls Tryz.prog 10 #[.agg (pcells p0 (.slice (some ⟨g1, 0, none⟩) p0.rs.length (p0.rs.length + 3)) (.slice (some ⟨g2, 0, none⟩) p0.lt.length (p0.lt.length + 3)) (.slice (some ⟨g3, 0, none⟩) p0.hd.length (p0.hd.length + 3)))] W fun e w' => e = .returned (.tuple #[.string A, .int .i64 E]) ∧ Ext W w') ∧ Hid (∀ W : World, Ext w W → Calls Tryz.prog 11 #[.agg (pcells p0 (.slice ar p0.rs.length cr) (.slice al p0.lt.length cl) (.slice ah p0.hd.length ch))] W fun e w' => e = .returned (.tuple #[.string A, .int .i64 E]) ∧ Ext W w') := by
    by_cases hB : okP p0 = true
    · refine ⟨⟨(prt p0).toArray⟩, 0, fun W hW => ?_, fun W hW => ?_⟩
      · have h := Print_w p0 (.slice (some ⟨g1, 0, none⟩) p0.rs.length (p0.rs.length + 3)) (.slice (some ⟨g2, 0, none⟩) p0.lt.length (p0.lt.length + 3)) (.slice (some ⟨g3, 0, none⟩) p0.hd.length (p0.hd.length + 3)) W (he.out.pnv.ext hW.ext) hlen.out.1 hlen.out.2 hW.g1.slp hW.g2.slp (hW.g3.slc rfl)
        rwa [if_pos hB] at h
      · refine Calls.mono (Print_d p0 _ _ _ W (he.out.pnv.ext hW) hlen.out.1 hlen.out.2 (sr0.out.ext hW) (sl0.out.ext hW) (sh0.out.ext hW)) ?_
        rintro e w' ⟨hx, ⟨h, _⟩ | ⟨_, h⟩⟩
        · rw [hB] at h; exact absurd h (by simp)
        · exact ⟨h, hx⟩
    · refine ⟨⟨#[]⟩, 9, fun W hW => ?_, fun W hW => ?_⟩
      · have h := Print_w p0 (.slice (some ⟨g1, 0, none⟩) p0.rs.length (p0.rs.length + 3)) (.slice (some ⟨g2, 0, none⟩) p0.lt.length (p0.lt.length + 3)) (.slice (some ⟨g3, 0, none⟩) p0.hd.length (p0.hd.length + 3)) W (he.out.pnv.ext hW.ext) hlen.out.1 hlen.out.2 hW.g1.slp hW.g2.slp (hW.g3.slc rfl)
        rwa [if_neg hB] at h
      · refine Calls.mono (Print_d p0 _ _ _ W (he.out.pnv.ext hW) hlen.out.1 hlen.out.2 (sr0.out.ext hW) (sl0.out.ext hW) (sh0.out.ext hW)) ?_
        rintro e w' ⟨hx, ⟨_, h⟩ | ⟨h, _⟩⟩
        · exact ⟨h, hx⟩
        · exact absurd h hB
  have hK1 : Hid (∀ W : World, Tel w W b p0 (.slice ar p0.rs.length cr) (.slice al p0.lt.length cl) (.slice ah p0.hd.length ch) g1 g2 g3 → Calls Tryz.prog 12 #[.slice (some ⟨g1, 0, none⟩) p0.rs.length (p0.rs.length + 3), .slice ar p0.rs.length cr, .agg #[.int .i64 71, .int .i64 0]] W fun e w'' => e = .returned (.bool true) ∧ Ext W w'') := fun W h => L8.KeptR_c g1 _ p0.rs W hl2.out.1 h.g1 (sr0.out.ext h.ext)
  have hK2 : Hid (∀ W : World, Tel w W b p0 (.slice ar p0.rs.length cr) (.slice al p0.lt.length cl) (.slice ah p0.hd.length ch) g1 g2 g3 → Calls Tryz.prog 13 #[.slice (some ⟨g2, 0, none⟩) p0.lt.length (p0.lt.length + 3), .slice al p0.lt.length cl, .agg #[.int .i64 71, .int .i64 0]] W fun e w'' => e = .returned (.bool true) ∧ Ext W w'') := fun W h => L8.KeptT_c g2 _ p0.lt W hl2.out.2.1 h.g2 (sl0.out.ext h.ext)
  have hK3 : Hid (∀ W : World, Tel w W b p0 (.slice ar p0.rs.length cr) (.slice al p0.lt.length cl) (.slice ah p0.hd.length ch) g1 g2 g3 → Calls Tryz.prog 14 #[.slice (some ⟨g3, 0, none⟩) p0.hd.length (p0.hd.length + 3), .slice ah p0.hd.length ch, .int .i64 71] W fun e w'' => e = .returned (.bool true) ∧ Ext W w'') := fun W h => L8.KeptI_c g3 _ p0.hd W hl2.out.2.2 h.g3 (sh0.out.ext h.ext)
  have haw : Hid (∀ W : World, Tel w W b p0 (.slice ar p0.rs.length cr) (.slice al p0.lt.length cl) (.slice ah p0.hd.length ch) g1 g2 g3 → Calls Tryz.prog 6 #[] W fun e w'' => e = .returned (.bool true) ∧ Ext W w'') := fun W h => awake_w W (he.out.pnv.ext h.ext)
  have hsn : (pcells p0 (.slice (some ⟨g1, 0, none⟩) p0.rs.length (p0.rs.length + 3)) (.slice (some ⟨g2, 0, none⟩) p0.lt.length (p0.lt.length + 3)) (.slice (some ⟨g3, 0, none⟩) p0.hd.length (p0.hd.length + 3))).size = 19 := rfl
  have hso : (pcells p0 (.slice ar p0.rs.length cr) (.slice al p0.lt.length cl) (.slice ah p0.hd.length ch)).size = 19 := rfl
  clear sr0 sl0 sh0 hlen hl2
  have hBn : Blk w7 (b + 1) (pcells p0 (.slice (some ⟨g1, 0, none⟩) p0.rs.length (p0.rs.length + 3)) (.slice (some ⟨g2, 0, none⟩) p0.lt.length (p0.lt.length + 3)) (.slice (some ⟨g3, 0, none⟩) p0.hd.length (p0.hd.length + 3))) := hTw.out.new
  go_wp2_with (first | refine load27 hBn hsn rfl rfl rfl ?_)
  refine Calls.mono (hPw.out _ hTw.out) ?_
  rintro e w8 ⟨rfl, hx⟩
  clear hPw hBn
  replace hTw := show Hid _ from hTw.out.on hx
  have hBo : Blk w8 b (pcells p0 (.slice ar p0.rs.length cr) (.slice al p0.lt.length cl) (.slice ah p0.hd.length ch)) := hTw.out.old
  clear hx
  go_wp2_with (first | refine load27 hBo hso rfl rfl rfl ?_)
  refine Calls.mono (hPd.out _ hTw.out.ext) ?_
  rintro e w9 ⟨rfl, hx⟩
  clear hPd hBo
  replace hTw := show Hid _ from hTw.out.on hx
  clear hx
  go_wp2_with fail
  refine Calls.mono (haw.out _ hTw.out) ?_
  rintro e w10 ⟨rfl, hx⟩
  clear haw
  replace hTw := show Hid _ from hTw.out.on hx
  clear hx
  have j1 : w10.cell? ⟨b + 1, 8, none⟩ = some (.slice (some ⟨g1, 0, none⟩) p0.rs.length (p0.rs.length + 3)) := (cell_of_row _ (b + 1) 8 _ _ _ hTw.out.new).trans rfl
  have j4 : w10.cell? ⟨b, 8, none⟩ = some (.slice ar p0.rs.length cr) := (cell_of_row _ b 8 _ _ _ hTw.out.old).trans rfl
  go_wp2_with fail
  refine Calls.mono (hK1.out _ hTw.out) ?_
  rintro e w11 ⟨rfl, hx⟩
  clear hK1 j1 j4
  replace hTw := show Hid _ from hTw.out.on hx
  clear hx
  have j1 : w11.cell? ⟨b + 1, 15, none⟩ = some (.slice (some ⟨g2, 0, none⟩) p0.lt.length (p0.lt.length + 3)) := (cell_of_row _ (b + 1) 15 _ _ _ hTw.out.new).trans rfl
  have j4 : w11.cell? ⟨b, 15, none⟩ = some (.slice al p0.lt.length cl) := (cell_of_row _ b 15 _ _ _ hTw.out.old).trans rfl
  go_wp2_with fail
  refine Calls.mono (hK2.out _ hTw.out) ?_
  rintro e w12 ⟨rfl, hx⟩
  clear hK2 j1 j4
  replace hTw := show Hid _ from hTw.out.on hx
  clear hx
  have j1 : w12.cell? ⟨b + 1, 18, none⟩ = some (.slice (some ⟨g3, 0, none⟩) p0.hd.length (p0.hd.length + 3)) := (cell_of_row _ (b + 1) 18 _ _ _ hTw.out.new).trans rfl
  have j4 : w12.cell? ⟨b, 18, none⟩ = some (.slice ah p0.hd.length ch) := (cell_of_row _ b 18 _ _ _ hTw.out.old).trans rfl
  go_wp2_with fail
  refine Calls.mono (hK3.out _ hTw.out) ?_
  rintro e w13 ⟨rfl, hx⟩
  clear hK3 j1 j4
  replace hTw := show Hid _ from hTw.out.ext.trans hx
  clear hx
  go_wp2
  go_ret
  exact ⟨L8.ret_bool (by simp), hTw.out⟩
set_option maxRecDepth 100000 in
theorem lifted (os : Os) (started : os.Started) (H : Type) (enc : TypeId × Value → H) :
    ReturnsInHanded {} Tryz.checked os 3 .any (fun w args => (Rows.printerTellsSpec.pre enc Tryz.prog Tryz.f3 [] false w args ∧ laidMetH Tryz.prog laid w) ∧ sizedMet enc Tryz.prog Tryz.f3 (OpenSpec.ofChange Rows.printerTellsSpec) false w args)
      (Rows.printerTellsSpec.post enc Tryz.prog Tryz.f3 false true false false) := by
  refine wrap started (by kernel_rfl) Tryz.func3
    (ChangeSpec.witness_shaped (enc := enc) (C := Tryz.checked) (os := os) (X := fun w _ => laidMetH Tryz.prog laid w) false (World.laidAll Tryz.prog os laid) #[.agg #[.string ⟨#[]⟩, .int .i64 0, .int .i64 0, .int .i64 0, .int .i64 0, .int .i64 0, .int .i64 0, .int .i64 0, .slice none 0 0, .int .i64 0, .int .i64 0, .int .i64 0, .int .i64 0, .int .i64 0, .int .i64 0, .slice none 0 0, .int .i64 0, .int .i64 0, .slice none 0 0]] 8 (World.laidAll_os _ _ _)
      (World.shaped_of_ZipB (by kernel_rfl) (by kernel_rfl)) (by kernel_rfl) (by kernel_rfl) (by kernel_rfl)
      (by rw [MakeChecks.laidMetH_plain _ _ _ (by kernel_rfl)]; exact laidMet_laidAll _ (by kernel_rfl) (by kernel_rfl))) ?_
  intro W base args ds gs before hval0 hW hE
  have hval : ∀ (j : Nat) t v, Tryz.f3.params[j]? = some t → args[j]? = some v → Value.okWide Tryz.prog W .any base t v := hval0
  have hW' := hW
  obtain ⟨p, q, hA0, hV, rfl, _, _⟩ := hW
  have hA : DataW.TrodAll enc Tryz.prog W 0 (fun _ => true) true Tryz.f3.params.toList args.toList ds p := hA0
  rw [Tryz.params3] at hA hval
  obtain ⟨v0, vs0, d0, ds0, p0, q0, hargs, rfl, rfl, h0, r0⟩ := trodAll_cons hA
  obtain ⟨rfl, rfl, rfl⟩ := trodAll_nil r0
  obtain rfl : args = #[v0] := by cases args; simp_all
  obtain ⟨rfl, rfl⟩ := trodVars_none hV
  obtain ⟨nm_0, cn_0, rd_0, kd_0, ev_0, tm_0, gr_0, rt_0, vr_0, rs_0, pn_0, o0_0, o1_0, o2_0, o3_0, ov_0, vl_0, lt_0, cp_0, rl_0, vh_0, hd_0, rfl, hp0, sr0, sl0, sh0, t0⟩ := L8.open_prod (hval 0 27 v0 rfl rfl) h0
  clear hA0 hval0
  simp only [List.append_nil] at hW'
  refine (walk ⟨nm_0, cn_0, rd_0, kd_0, ev_0, tm_0, gr_0, rt_0, rs_0, pn_0, o0_0, o1_0, o2_0, o3_0, ov_0, lt_0, cp_0, rl_0, hd_0⟩ vr_0 vl_0 vh_0 hp0 W hE sr0 sl0 sh0).mono fun e W' ⟨he, hb⟩ => ?_
  subst he
  exact ⟨_, rfl, _, _, _, [], _, [], hW', (trodAll_cons_mk (shut_bool Tryz.underlying4 _) trodAll_mk0), (trodAll_cons_mk (t0 _ hb) trodAll_mk0), rfl, hb.below.frame _, fun h => by cases h⟩
theorem over : Rows.printerTellsRow.holds Tryz.pinned (OpenSpec.ofChange Rows.printerTellsSpec) :=
  OpenClaim.holds_of_wide 3 Tryz.f3 rfl rfl rfl rfl rfl rfl rfl ⟨rfl, rfl, rfl, rfl, rfl⟩ rfl rfl rfl rfl rfl (by kernel_rfl) Tryz.func3 (by kernel_rfl)
    (of_decide_eq_true (by kernel_rfl)) (by unfold Func.isWrapper; first | (rw [if_pos (by decide +kernel)]; kernel_rfl) | (rw [if_neg (by decide +kernel)]; exact ⟨rfl, rfl⟩))
    (fun os started H enc _ => lifted os started H enc)
end Go.Proofs.YtaafagggjnemgaaGreatDoor.printerTells
namespace Go.Proofs.YtaafagggjnemgaaGreatDoor
theorem printerTells_holds : Rows.PrinterTellsCardSaid :=
  Claim7.holds_tied_plain_at .later [] [.data, .data, .data, .data, .data, .data, .data, .data, .data, .data, .data, .pinned] true (true, "b1b57acc663042ce5f81bf03d8392d7f9124fd5d3728a3e4bc8a421a9b056201") true printerTells.over (fun _ h => by cases h) (by kernel_rfl) (fun _ h => by cases h) printerTells_row_tie rfl ⟨rfl, rfl⟩ (by kernel_rfl) rfl
    (fun f fn hf hfn => by
      obtain rfl : f = 3 := Option.some.inj ((show Tryz.prog.funcNamed "quittance/quittancelaw10.PrinterTells" = some 3 by kernel_rfl).symm.trans hf) |>.symm
      obtain rfl : fn = Tryz.f3 := (Option.some.inj (Tryz.func3.symm.trans hfn)).symm
      exact ⟨by kernel_rfl, fun j t ht => by
        rw [Tryz.params3] at ht
        have hm : t ∈ [27] := by simpa using Array.mem_of_getElem? ht
        have hall : ([27].all fun u => !Tryz.prog.wantsStandIn u) = true := by kernel_rfl
        exact (show Tryz.prog.wantsStandIn t = false by simpa using List.all_eq_true.1 hall t hm)⟩)
    (by kernel_rfl)
#print axioms printerTells_holds
end Go.Proofs.YtaafagggjnemgaaGreatDoor
