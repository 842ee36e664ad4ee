/- Days and Parts of package dues, as contracts: no statement of the seat is proved here. -/
import Derived.Test.YtmlkccmkdgfalaaGreatDoorDu3
namespace Go.Proofs.YtmlkccmkdgfalaaGreatDoor
open Go.RowKit
open L3 (Env)
open L4 (Arr upTo info_int)
open L5 (Cld)
set_option linter.unusedVariables false

theorem arr_slc {w : World} {g T : Nat} {f : Nat → Int} (h : Arr w g T f) : L8.Slc w (.slice (some ⟨g, 0, none⟩) T T) (fst T f) := by
  refine Or.inr ⟨g, 0, T, by rw [fst_length], fun k x hk => ?_⟩
  obtain ⟨h1, h2⟩ := fst_at hk
  rw [Nat.zero_add, h.cell k h1, h2]
theorem arr_put {w : World} {g T : Nat} {f : Nat → Int} (h : Arr w g T f) (Z : Nat) (x : Value) (hn : g ≠ Z) : Arr (w.setCell ⟨Z, 0, none⟩ x) g T f :=
  ⟨fun j hj => by rw [L3.other _ (Or.inl (fun e => hn e.symm))]; exact h.cell j hj, fun j hj => by simpa using h.free j hj⟩
theorem nil_slc (w : World) : L8.Slc w (.slice none 0 0) [] := L8.nilh w
set_option maxRecDepth 100000 in
set_option maxHeartbeats 1000000 in
theorem Days_no (p : Prd) (vr vl vh : Value) (s E : Int) (w : World) (hi : Inp w p vr vl vh) (he : Hid (Env w)) (hE : Due p s E) (h0 : E ≠ 0) :
    Calls Tryz.prog 8 #[.agg (pcells p vr vl vh), .int .i64 s] w fun e w' => e = .returned (.tuple #[.slice none 0 0, .int .i64 E]) ∧ Ext w w' := by
  have hone := hi.one
  have hbox := box_prod p vr vl vh hone
  obtain ⟨W1, b, hW1, hb, hx1, hB1⟩ : ∃ W b, w.alloc (.cells (pcells p vr vl vh) 27) = W ∧ w.heap.size = b ∧ Ext w W ∧ Blk W b (pcells p vr vl vh) := ⟨_, _, rfl, rfl, (Ext.refl w).alloc _ _, heap_alloc_last w _⟩
  have hsz : (pcells p vr vl vh).size = 19 := rfl
  have hmf := L6.make_func
  replace hE := show Hid _ from hE
  have hlt : b < W1.heap.size := (Array.getElem?_eq_some_iff.1 hB1).1
  have hf := Fac.begin w W1 25 32 hx1
  have hx2 : Ext W1 ((W1.alloc (.cells #[.slice none 0 0] 25)).alloc (.cells #[.int .i64 0] 32)) := ((Ext.refl W1).alloc _ _).alloc _ _
  obtain ⟨Z, hZ⟩ : ∃ Z, W1.heap.size = Z := ⟨_, rfl⟩
  obtain ⟨W2, hW2⟩ : ∃ W2, (W1.alloc (.cells #[.slice none 0 0] 25)).alloc (.cells #[.int .i64 0] 32) = W2 := ⟨_, rfl⟩
  have hZ2 : (W1.alloc (.cells #[.slice none 0 0] 25)).heap.size = Z + 1 := by rw [← hZ]; simp
  rw [hW2] at hx2
  rw [hZ, hW2] at hf
  rw [hZ] at hlt
  have hB : Blk W2 b (pcells p vr vl vh) := hB1.ext hx2
  replace hi : Hid (Inp W2 p vr vl vh) := hi.ext hf.ext
  replace he : Hid (Env W2) := he.out.ext hf.ext
  replace hf := show Hid _ from hf
  clear hB1 hx1 hx2
  go_enter_defers Tryz.func8, Tryz.ntmps8
  go_wp2_with (refine load27 hB hsz rfl rfl rfl ?_)
  refine (due_no p vr vl vh s E _ hi.out he hE.out h0).mono ?_
  rintro e w2 ⟨rfl, hx2⟩
  replace hf : Hid (Fac w Z w2 (.slice none 0 0) 0) := hf.out.on hx2
  clear hx2 hB hbox hone hW1 hW2 hZ hZ2 hb hsz hmf
  go_wp2
  refine days_leave_catch w _ Z _ _ _ _ _ _ _ ?_ ?_ hf.out (fun w3 hx3 => ⟨rfl, (((hf.out.on hx3).set1 _).set2 _).ext⟩)
  · rfl
  · rfl
set_option maxRecDepth 100000 in
set_option maxHeartbeats 1000000 in
theorem Days_yes (p : Prd) (vr vl vh : Value) (s E : Int) (w : World) (hi : Inp w p vr vl vh) (he : Hid (Env w)) (hE : Due p s E) (h0 : E = 0) :
    Calls Tryz.prog 8 #[.agg (pcells p vr vl vh), .int .i64 s] w fun e w' => ∃ g, e = .returned (.tuple #[.slice (some ⟨g, 0, none⟩) (duT p) (duT p), .int .i64 0]) ∧ Arr w' g (duT p) (duF p s) ∧ Ext w w' := by
  have hone := hi.one
  have hbox := box_prod p vr vl vh hone
  obtain ⟨W1, b, hW1, hb, hx1, hB1⟩ : ∃ W b, w.alloc (.cells (pcells p vr vl vh) 27) = W ∧ w.heap.size = b ∧ Ext w W ∧ Blk W b (pcells p vr vl vh) := ⟨_, _, rfl, rfl, (Ext.refl w).alloc _ _, heap_alloc_last w _⟩
  have hsz : (pcells p vr vl vh).size = 19 := rfl
  have hmf := L6.make_func
  replace hE := show Hid _ from hE
  have hlt : b < W1.heap.size := (Array.getElem?_eq_some_iff.1 hB1).1
  have hf := Fac.begin w W1 25 32 hx1
  have hx2 : Ext W1 ((W1.alloc (.cells #[.slice none 0 0] 25)).alloc (.cells #[.int .i64 0] 32)) := ((Ext.refl W1).alloc _ _).alloc _ _
  obtain ⟨Z, hZ⟩ : ∃ Z, W1.heap.size = Z := ⟨_, rfl⟩
  obtain ⟨W2, hW2⟩ : ∃ W2, (W1.alloc (.cells #[.slice none 0 0] 25)).alloc (.cells #[.int .i64 0] 32) = W2 := ⟨_, rfl⟩
  have hZ2 : (W1.alloc (.cells #[.slice none 0 0] 25)).heap.size = Z + 1 := by rw [← hZ]; simp
  rw [hW2] at hx2
  rw [hZ, hW2] at hf
  rw [hZ] at hlt
  have hB : Blk W2 b (pcells p vr vl vh) := hB1.ext hx2
  replace hi : Hid (Inp W2 p vr vl vh) := hi.ext hf.ext
  replace he : Hid (Env W2) := he.out.ext hf.ext
  replace hf := show Hid _ from hf
  clear hB1 hx1 hx2
  go_enter_defers Tryz.func8, Tryz.ntmps8
  subst h0
  go_wp2_with (refine load27 hB hsz rfl rfl rfl ?_)
  refine (due_yes p vr vl vh s _ hi.out he hE.out).mono ?_
  rintro e w2 ⟨⟨g, rfl, lo, hr⟩, hx2⟩
  replace hf : Hid (Fac w Z w2 (.slice none 0 0) 0) := hf.out.on hx2
  have hlo : Hid (Z + 1 < g) := by show _ < _; rw [← hW2] at lo; simp at lo; omega
  replace hr := show Hid _ from hr
  obtain ⟨T, hT⟩ : ∃ T, duT p = T := ⟨_, rfl⟩
  replace hT := show Hid _ from hT
  rw [hT.out] at hr
  have gp := hf.out.p; have gq := hf.out.q; have gpz := hf.out.pz; have gqz := hf.out.qz
  clear lo hx2 hB hbox hone hW1 hW2 hZ hZ2 hb hsz hmf
  rw [hT.out]
  go_wp2
  have hf3 := ((hf.out.set1 (.slice (some ⟨g, 0, none⟩) T T)).set2 0)
  refine days_leave_idle w _ Z _ _ _ _ _ _ ?_ ?_ hf3 (fun w3 hx3 => ⟨g, by rw [hT.out], ?_, (((hf3.on hx3).set1 _).set2 _).ext⟩)
  · rfl
  · rfl
  · rw [hT.out]
    exact arr_put (arr_put ((arr_put (arr_put hr.out Z _ (by have := hlo.out; omega)) (Z + 1) _ (by have := hlo.out; omega)).ext hx3) Z _ (by have := hlo.out; omega)) (Z + 1) _ (by have := hlo.out; omega)
set_option maxRecDepth 100000 in
set_option maxHeartbeats 1000000 in
theorem Parts_no (p : Prd) (vr vl vh : Value) (s E : Int) (w : World) (hi : Inp w p vr vl vh) (he : Hid (Env w)) (hE : Due p s E) (h0 : E ≠ 0) :
    Calls Tryz.prog 10 #[.agg (pcells p vr vl vh), .int .i64 s] w fun e w' => e = .returned (.tuple #[.slice none 0 0, .int .i64 E]) ∧ Ext w w' := by
  have hone := hi.one
  have hbox := box_prod p vr vl vh hone
  obtain ⟨W1, b, hW1, hb, hx1, hB1⟩ : ∃ W b, w.alloc (.cells (pcells p vr vl vh) 27) = W ∧ w.heap.size = b ∧ Ext w W ∧ Blk W b (pcells p vr vl vh) := ⟨_, _, rfl, rfl, (Ext.refl w).alloc _ _, heap_alloc_last w _⟩
  have hsz : (pcells p vr vl vh).size = 19 := rfl
  have hmf := L6.make_func
  replace hE := show Hid _ from hE
  have hlt : b < W1.heap.size := (Array.getElem?_eq_some_iff.1 hB1).1
  have hf := Fac.begin w W1 35 32 hx1
  have hx2 : Ext W1 ((W1.alloc (.cells #[.slice none 0 0] 35)).alloc (.cells #[.int .i64 0] 32)) := ((Ext.refl W1).alloc _ _).alloc _ _
  obtain ⟨Z, hZ⟩ : ∃ Z, W1.heap.size = Z := ⟨_, rfl⟩
  obtain ⟨W2, hW2⟩ : ∃ W2, (W1.alloc (.cells #[.slice none 0 0] 35)).alloc (.cells #[.int .i64 0] 32) = W2 := ⟨_, rfl⟩
  have hZ2 : (W1.alloc (.cells #[.slice none 0 0] 35)).heap.size = Z + 1 := by rw [← hZ]; simp
  rw [hW2] at hx2
  rw [hZ, hW2] at hf
  rw [hZ] at hlt
  have hB : Blk W2 b (pcells p vr vl vh) := hB1.ext hx2
  replace hi : Hid (Inp W2 p vr vl vh) := hi.ext hf.ext
  replace he : Hid (Env W2) := he.out.ext hf.ext
  replace hf := show Hid _ from hf
  clear hB1 hx1 hx2
  go_enter_defers Tryz.func10, Tryz.ntmps10
  go_wp2_with fail
  refine L6.wp_region_thrown (fun W => Blk W b (pcells p vr vl vh) ∧ Ext W2 W) (fun a => a.defers = dfr 24 Z) [4, 5]
    (fun t => if t = 4 then some (.pointer (some ⟨Z, 0, none⟩)) else some (.pointer (some ⟨Z + 1, 0, none⟩))) (fun c W => c = [{ v := .iface 32 (.int .i64 E), recovered := false }] ∧ Ext W2 W) (by kernel_rfl) ?_ ⟨hB.ext (Ext.refl W2).drew, (Ext.refl W2).drew⟩ (fun hHeld => ?_)
  · rintro c a W hd ht ⟨rfl, hx⟩
    have h6 := ht 4 (by simp)
    have h7 := ht 5 (by simp)
    show Leaves _ _ a.tmps _ a.defers _ _
    have hd' : a.defers = dfr 24 Z := hd
    rw [hd']
    exact parts_leave_catch w _ Z _ _ _ _ _ _ _ h6 h7 (hf.out.on hx) (fun w3 hx3 => ⟨rfl, ((((hf.out.on hx).on hx3).set1 _).set2 _).ext⟩)
  refine L6.takeT 0 (oi := { dst := some 7, op := Op.fieldAddr 27 (Operand.tmp 2) 1, type := 0, pos := "dues.go:20", after := #[], guard := none }) (v := .pointer (some ⟨b, 1, none⟩)) rfl (by kernel_rfl) (by kernel_rfl) (by kernel_rfl) (by decide) (Or.inl ⟨by rfl, fun W hW => ?_⟩) hHeld ?_
  · go_simp
  simp only [Act.put, List.setIfInBounds_toArray, List.set_cons_zero, List.set_cons_succ]
  refine L6.takeT 1 (oi := { dst := some 8, op := Op.load 3 (Operand.tmp 7), type := 3, pos := "dues.go:20", after := #[{ on := 0, ground := Ground.data }], guard := none }) (v := .int .i64 p.cn) rfl (by kernel_rfl) (by kernel_rfl) (by kernel_rfl) (by decide) (Or.inl ⟨by rfl, fun W hW => ?_⟩) hHeld ?_
  · have hW1 := (cell_of_row W b 1 _ _ _ (show Blk W b (pcells p vr vl vh) from hW.1)).trans (show _ = some (.int .i64 p.cn) from rfl)
    go_simp
  simp only [Act.put, List.setIfInBounds_toArray, List.set_cons_zero, List.set_cons_succ]
  refine L6.takeT 2 (oi := { dst := some 9, op := Op.move (Operand.tmp 1), type := 3, pos := "dues.go:20", after := #[], guard := none }) (v := .int .i64 s) rfl (by kernel_rfl) (by kernel_rfl) (by kernel_rfl) (by decide) (Or.inl ⟨by rfl, fun W hW => ?_⟩) hHeld ?_
  · go_simp
  simp only [Act.put, List.setIfInBounds_toArray, List.set_cons_zero, List.set_cons_succ]
  refine L6.takeT 4 (oi := { dst := some 11, op := Op.move (Operand.tmp 1), type := 3, pos := "dues.go:20", after := #[], guard := none }) (v := .int .i64 s) rfl (by kernel_rfl) (by kernel_rfl) (by kernel_rfl) (by decide) (Or.inl ⟨by rfl, fun W hW => ?_⟩) hHeld ?_
  · go_simp
  simp only [Act.put, List.setIfInBounds_toArray, List.set_cons_zero, List.set_cons_succ]
  refine wpAnyH_ready (rs := [3]) (by kernel_rfl) (by simp) ?_
  refine AllReadyH.cons (o := { dst := some 10, op := Op.load 27 (Operand.tmp 2), type := 27, pos := "dues.go:20", after := #[], guard := none }) rfl (fun K hK => ?_) AllReadyH.nil
  rw [if_pos (by rfl)]
  refine wp_load_row _ (Operand.tmp 2) rfl b rfl _ (pcells p vr vl vh) (0, 0) _ (show Blk _ b (pcells p vr vl vh) from hHeld.1) Tryz.underlying27 rfl (by kernel_rfl) (hK.out _ _ hHeld ?_)
  clear hK K
  intro _
  try simp only [Act.put, List.setIfInBounds_toArray, List.set_cons_zero, List.set_cons_succ]
  refine wpAnyH_ready (rs := [5]) (by kernel_rfl) (by simp) ?_
  refine AllReadyH.cons (o := { dst := some 12, op := Op.call { callee := Callee.value (Operand.func 21), args := #[Operand.tmp 10, Operand.tmp 11], argTypes := #[27, 3] }, type := 25, pos := "dues.go:20", after := #[{ on := 3, ground := Ground.data }, { on := 4, ground := Ground.data }], guard := none }) rfl (fun K hK => ?_) AllReadyH.nil
  go_simp
  refine (due_no p vr vl vh s E _ (hi.out.ext hHeld.2) (he.out.ext hHeld.2) hE.out h0).mono ?_
  rintro e W3 ⟨rfl, hx⟩
  exact ⟨rfl, (fun t ht => (by rcases List.mem_cons.1 ht with rfl | ht; rfl; rcases List.mem_cons.1 ht with rfl | ht; rfl; cases ht)), rfl, hHeld.2.trans hx⟩
set_option maxRecDepth 100000 in
set_option maxHeartbeats 1000000 in
theorem Parts_yes (p : Prd) (vr vl vh : Value) (s E : Int) (w : World) (hi : Inp w p vr vl vh) (he : Hid (Env w)) (hE : Due p s E) (h0 : E = 0) :
    Calls Tryz.prog 10 #[.agg (pcells p vr vl vh), .int .i64 s] w fun e w' => ∃ g, e = .returned (.tuple #[.slice (some ⟨g, 0, none⟩) (duT p) (duT p), .int .i64 0]) ∧ Arr w' g (duT p) (paF p.cn s (duF p s)) ∧ Ext w w' := by
  have hone := hi.one
  have hbox := box_prod p vr vl vh hone
  obtain ⟨W1, b, hW1, hb, hx1, hB1⟩ : ∃ W b, w.alloc (.cells (pcells p vr vl vh) 27) = W ∧ w.heap.size = b ∧ Ext w W ∧ Blk W b (pcells p vr vl vh) := ⟨_, _, rfl, rfl, (Ext.refl w).alloc _ _, heap_alloc_last w _⟩
  have hsz : (pcells p vr vl vh).size = 19 := rfl
  have hmf := L6.make_func
  replace hE := show Hid _ from hE
  have hlt : b < W1.heap.size := (Array.getElem?_eq_some_iff.1 hB1).1
  have hf := Fac.begin w W1 35 32 hx1
  have hx2 : Ext W1 ((W1.alloc (.cells #[.slice none 0 0] 35)).alloc (.cells #[.int .i64 0] 32)) := ((Ext.refl W1).alloc _ _).alloc _ _
  obtain ⟨Z, hZ⟩ : ∃ Z, W1.heap.size = Z := ⟨_, rfl⟩
  obtain ⟨W2, hW2⟩ : ∃ W2, (W1.alloc (.cells #[.slice none 0 0] 35)).alloc (.cells #[.int .i64 0] 32) = W2 := ⟨_, rfl⟩
  have hZ2 : (W1.alloc (.cells #[.slice none 0 0] 35)).heap.size = Z + 1 := by rw [← hZ]; simp
  rw [hW2] at hx2
  rw [hZ, hW2] at hf
  rw [hZ] at hlt
  have hB : Blk W2 b (pcells p vr vl vh) := hB1.ext hx2
  replace hi : Hid (Inp W2 p vr vl vh) := hi.ext hf.ext
  replace he : Hid (Env W2) := he.out.ext hf.ext
  replace hf := show Hid _ from hf
  clear hB1 hx1 hx2
  go_enter_defers Tryz.func10, Tryz.ntmps10
  subst h0
  obtain ⟨hok, hdin⟩ : okP p = true ∧ ∀ j, j < duT p → -25567 ≤ duF p s j ∧ duF p s j ≤ 84370 := by
    cases hE.out with
    | ok h k1 k2 k3 => exact ⟨h, fun j hj => rlA_in _ _ _ (k2 j hj)⟩
  have hsin : -25567 ≤ s ∧ s ≤ 84370 := by
    cases hE.out with
    | ok h k1 k2 k3 => exact ⟨k1.n1, k1.n2⟩
  have hcn := (okf hok).cn
  obtain ⟨t0, t1, t2⟩ := tm_T hok
  replace hok := show Hid _ from hok
  replace hdin := show Hid _ from hdin
  replace hsin := show Hid _ from hsin
  replace hcn := show Hid _ from hcn
  obtain ⟨T, hT⟩ : ∃ T, duT p = T := ⟨_, rfl⟩
  rw [hT] at t1 t2 hdin
  replace hT := show Hid _ from hT
  replace t0 := show Hid _ from t0
  go_wp2_with fail
  refine L6.wp_region_thrown (fun W => Blk W b (pcells p vr vl vh)) (fun a => False) []
    (fun t => none) (fun c W => False) (by kernel_rfl) (fun _ _ _ _ _ h => h.elim) (hB.ext (Ext.refl W2).drew) (fun hHeld => ?_)
  replace hf : Hid (Fac w Z W2.drew (.slice none 0 0) 0) := hf.out.on (Ext.refl W2).drew
  replace he : Hid (Env W2.drew) := he.out.ext (Ext.refl W2).drew
  replace hi : Hid (Inp W2.drew p vr vl vh) := hi.out.ext (Ext.refl W2).drew
  have hZ3 : Hid (W2.heap.size = Z + 2) := by show _ = _; rw [← hW2]; simp; simp at hZ2; omega
  replace hlt := show Hid _ from hlt
  clear hbox hone hW1 hW2 hZ hZ2 hb hsz hmf hB
  refine L6.takeT 0 (oi := { dst := some 7, op := Op.fieldAddr 27 (Operand.tmp 2) 1, type := 0, pos := "dues.go:20", after := #[], guard := none }) (v := .pointer (some ⟨b, 1, none⟩)) rfl (by kernel_rfl) (by kernel_rfl) (by kernel_rfl) (by decide) (Or.inl ⟨by rfl, fun W hW => ?_⟩) hHeld ?_
  · go_simp
  simp only [Act.put, List.setIfInBounds_toArray, List.set_cons_zero, List.set_cons_succ]
  refine L6.takeT 1 (oi := { dst := some 8, op := Op.load 3 (Operand.tmp 7), type := 3, pos := "dues.go:20", after := #[{ on := 0, ground := Ground.data }], guard := none }) (v := .int .i64 p.cn) rfl (by kernel_rfl) (by kernel_rfl) (by kernel_rfl) (by decide) (Or.inl ⟨by rfl, fun W hW => ?_⟩) hHeld ?_
  · have hW1 := (cell_of_row W b 1 _ _ _ (show Blk W b (pcells p vr vl vh) from hW)).trans (show _ = some (.int .i64 p.cn) from rfl)
    go_simp
  simp only [Act.put, List.setIfInBounds_toArray, List.set_cons_zero, List.set_cons_succ]
  refine L6.takeT 2 (oi := { dst := some 9, op := Op.move (Operand.tmp 1), type := 3, pos := "dues.go:20", after := #[], guard := none }) (v := .int .i64 s) rfl (by kernel_rfl) (by kernel_rfl) (by kernel_rfl) (by decide) (Or.inl ⟨by rfl, fun W hW => ?_⟩) hHeld ?_
  · go_simp
  simp only [Act.put, List.setIfInBounds_toArray, List.set_cons_zero, List.set_cons_succ]
  refine L6.takeT 4 (oi := { dst := some 11, op := Op.move (Operand.tmp 1), type := 3, pos := "dues.go:20", after := #[], guard := none }) (v := .int .i64 s) rfl (by kernel_rfl) (by kernel_rfl) (by kernel_rfl) (by decide) (Or.inl ⟨by rfl, fun W hW => ?_⟩) hHeld ?_
  · go_simp
  simp only [Act.put, List.setIfInBounds_toArray, List.set_cons_zero, List.set_cons_succ]
  refine wpAnyH_ready (rs := [3]) (by kernel_rfl) (by simp) ?_
  refine AllReadyH.cons (o := { dst := some 10, op := Op.load 27 (Operand.tmp 2), type := 27, pos := "dues.go:20", after := #[], guard := none }) rfl (fun K hK => ?_) AllReadyH.nil
  rw [if_pos (by rfl)]
  refine wp_load_row _ (Operand.tmp 2) rfl b rfl _ (pcells p vr vl vh) (0, 0) _ (show Blk _ b (pcells p vr vl vh) from hHeld) Tryz.underlying27 rfl (by kernel_rfl) (hK.out _ _ hHeld ?_)
  clear hK K
  intro _
  try simp only [Act.put, List.setIfInBounds_toArray, List.set_cons_zero, List.set_cons_succ]
  refine wpAnyH_ready (rs := [5]) (by kernel_rfl) (by simp) ?_
  refine AllReadyH.cons (o := { dst := some 12, op := Op.call { callee := Callee.value (Operand.func 21), args := #[Operand.tmp 10, Operand.tmp 11], argTypes := #[27, 3] }, type := 25, pos := "dues.go:20", after := #[{ on := 3, ground := Ground.data }, { on := 4, ground := Ground.data }], guard := none }) rfl (fun K hK => ?_) AllReadyH.nil
  go_simp
  refine (due_yes p vr vl vh s _ hi.out he hE.out).mono ?_
  rintro e W3 ⟨⟨g0, rfl, lo0, hr0⟩, hx⟩
  try dsimp only
  replace hf : Hid (Fac w Z W3 (.slice none 0 0) 0) := hf.out.on hx
  replace he : Hid (Env W3) := he.out.ext hx
  rw [hT.out] at hr0
  replace hr0 := show Hid _ from hr0
  have hsz3 : Hid (Z + 2 ≤ W3.heap.size) := by show _ ≤ _; have h1 := hx.size; have h2 := hZ3.out; have h3 : W2.drew.heap.size = W2.heap.size := rfl; omega
  refine hK.out _ _ (hHeld.ext hx) ?_
  clear hK K hHeld
  intro hHeld
  clear hx
  try simp only [Act.put, List.setIfInBounds_toArray, List.set_cons_zero, List.set_cons_succ]
  clear lo0
  rw [hT.out]
  refine wpAnyH_ready (rs := [6]) (by kernel_rfl) (by simp) ?_
  refine AllReadyH.cons (o := { dst := some 13, op := Op.call { callee := Callee.value (Operand.func 26), args := #[Operand.tmp 8, Operand.tmp 9, Operand.tmp 12], argTypes := #[3, 3, 25] }, type := 35, pos := "dues.go:20", after := #[{ on := 1, ground := Ground.data }, { on := 2, ground := Ground.data }, { on := 5, ground := Ground.data }, { on := 5, ground := Ground.chain }], guard := none }) rfl (fun K hK => ?_) AllReadyH.nil
  go_simp
  refine (between_ok p.cn s g0 _ T (duF p s) _ t1 t2 hcn.out.1 hcn.out.2 hsin.out hdin.out hr0 he).mono ?_
  rintro e W4 ⟨⟨g, rfl, lo, hr⟩, hx⟩
  try dsimp only
  replace hf : Hid (Fac w Z W4 (.slice none 0 0) 0) := hf.out.on hx
  have hlo : Hid (Z + 1 < g) := by show _ < _; have := hsz3.out; omega
  replace hr := show Hid _ from hr
  refine hK.out _ _ (hHeld.ext hx) ?_
  clear hK K hHeld
  intro hHeld
  clear hx
  try simp only [Act.put, List.setIfInBounds_toArray, List.set_cons_zero, List.set_cons_succ]
  clear lo
  have gp := hf.out.p; have gq := hf.out.q; have gpz := hf.out.pz; have gqz := hf.out.qz
  refine wpAnyH_ready (rs := [7]) (by kernel_rfl) (by simp) ?_
  refine AllReadyH.cons (o := { dst := none, op := Op.store 35 (Operand.tmp 4) (Operand.tmp 13), type := 0, pos := "dues.go:20", after := #[{ on := 6, ground := Ground.data }, { on := 6, ground := Ground.chain }, { on := 0, ground := Ground.phase }, { on := 1, ground := Ground.phase }, { on := 2, ground := Ground.phase }, { on := 3, ground := Ground.phase }, { on := 4, ground := Ground.phase }, { on := 5, ground := Ground.phase }, { on := 6, ground := Ground.phase }], guard := none }) rfl (fun K hK => ?_) AllReadyH.nil
  go_simp
  refine hK.out _ _ (L8.Blk.other hHeld 0 _ (by have := hlt.out; omega)) ?_
  clear hK K hHeld
  intro hHeld
  replace hf := show Hid _ from hf.out.set1 (.slice (some ⟨g, 0, none⟩) T T)
  clear gp gq gpz gqz
  have gp := hf.out.p; have gq := hf.out.q; have gpz := hf.out.pz; have gqz := hf.out.qz
  refine wpAnyH_ready (rs := [8]) (by kernel_rfl) (by simp) ?_
  refine AllReadyH.cons (o := { dst := none, op := Op.store 32 (Operand.tmp 5) (Operand.const (Value.int IntKind.i64 0)), type := 0, pos := "dues.go:20", after := #[{ on := 7, ground := Ground.chain }, { on := 0, ground := Ground.phase }, { on := 1, ground := Ground.phase }, { on := 2, ground := Ground.phase }, { on := 3, ground := Ground.phase }, { on := 4, ground := Ground.phase }, { on := 5, ground := Ground.phase }, { on := 6, ground := Ground.phase }, { on := 7, ground := Ground.phase }], guard := none }) rfl (fun K hK => ?_) AllReadyH.nil
  go_simp
  refine hK.out _ _ (L8.Blk.other hHeld 0 _ (by have := hlt.out; omega)) ?_
  clear hK K hHeld
  intro hHeld
  refine wpAnyH_done (by kernel_rfl) ?_ _
  refine L6.ThrowQ.normal ?_
  go_wp2
  have hf3 := (hf.out.set2 0)
  refine parts_leave_idle w _ Z _ _ _ _ _ _ ?_ ?_ hf3 (fun w3 hx3 => ⟨g, by rw [hT.out], ?_, (((hf3.on hx3).set1 _).set2 _).ext⟩)
  · rfl
  · rfl
  · rw [hT.out]
    exact arr_put (arr_put ((arr_put (arr_put hr.out Z _ (by have := hlo.out; omega)) (Z + 1) _ (by have := hlo.out; omega)).ext hx3) Z _ (by have := hlo.out; omega)) (Z + 1) _ (by have := hlo.out; omega)
end Go.Proofs.YtmlkccmkdgfalaaGreatDoor
