/- Parts and Between of package fraction, as contracts: no statement of the seat is proved here. -/
import Derived.Test.YtkjdhefmhooplaaDoorFra4
namespace Go.Proofs.YtkjdhefmhooplaaDoor
open Go.RowKit
set_option linter.unusedVariables false

theorem field_y (x y : Value) (w : World) : (Instr.field 41 (.agg #[x, y]) 0).run Tryd.prog w = .ok x w := by kernel_rfl
theorem Parts_ok (c : Int) (w : World) (h1 : 1 ≤ c) (h2 : c ≤ 3) :
    Calls Tryd.prog 8 #[.int .i64 c] w fun e w' => e = .returned (.tuple #[.int .i64 (ptA c), .int .i64 0]) ∧ Ext w w' := by
  have hmf := make_func
  have hfy := field_y
  go_enter_defers Tryd.func8, Tryd.ntmps8
  go_wp2_with fail
  refine (yearOf_ok _ _ h1 h2).mono ?_
  rintro e w1 ⟨rfl, hx⟩
  have hf := (Fac.begin w 2 23).on hx
  have gp := hf.p; have gq := hf.q; have gpz := hf.pz; have gqz := hf.qz
  replace hf := show Hid _ from hf
  clear hx
  go_wp2
  refine parts_leave_idle w _ _ _ _ ?_ ?_ (((hf.out.set1 _).set2 _))
  · rfl
  · rfl
theorem Parts_no (c : Int) (w : World) (h : ¬ (1 ≤ c ∧ c ≤ 3)) :
    Calls Tryd.prog 8 #[.int .i64 c] w fun e w' => e = .returned (.tuple #[.int .i64 0, .int .i64 1]) ∧ Ext w w' := by
  have hmf := make_func
  replace h := show Hid _ from h
  go_enter_defers Tryd.func8, Tryd.ntmps8
  go_wp2_with fail
  refine (yearOf_no _ _ h.out).mono ?_
  rintro e w1 ⟨rfl, hx⟩
  have hf := (Fac.begin w 2 23).on hx
  replace hf := show Hid _ from hf
  clear hx
  go_wp2
  refine parts_leave_catch w _ _ _ _ _ ?_ ?_ (hf.out)
  · rfl
  · rfl
theorem Parts_c (c : Int) (w : World) :
    Calls Tryd.prog 8 #[.int .i64 c] w fun e w' => e = .returned (.tuple #[.int .i64 (ptA c), .int .i64 (ptE c)]) ∧ Ext w w' := by
  by_cases h : 1 ≤ c ∧ c ≤ 3
  · rw [pt_ok h.1 h.2]; exact Parts_ok c w h.1 h.2
  · rw [(pt_no h).1, (pt_no h).2]; exact Parts_no c w h
theorem Between_no (c f t : Int) (w : World) (h : ¬ (1 ≤ c ∧ c ≤ 3)) :
    Calls Tryd.prog 10 #[.int .i64 c, .int .i64 f, .int .i64 t] w fun e w' => e = .returned (.tuple #[.int .i64 0, .int .i64 1]) ∧ Ext w w' := by
  have hmf := make_func
  replace h := show Hid _ from h
  go_enter_defers Tryd.func10, Tryd.ntmps10
  go_wp2_with fail
  refine (yearOf_no _ _ h.out).mono ?_
  rintro e w1 ⟨rfl, hx⟩
  have hf := (Fac.begin w 2 23).on hx
  replace hf := show Hid _ from hf
  clear hx
  go_wp2
  refine btw_leave_catch w _ _ _ _ _ ?_ ?_ (hf.out)
  · rfl
  · rfl
theorem held2_in {W0 : World} {b : Nat} {u v : Value} (h : W0.cell? ⟨b, 0, none⟩ = some u) (k : W0.cell? ⟨b, 1, none⟩ = some v) : W0.drew.cell? ⟨b, 0, none⟩ = some u ∧ W0.drew.cell? ⟨b, 1, none⟩ = some v ∧ Ext W0 W0.drew :=
  ⟨(Ext.refl W0).drew.cell_of h, (Ext.refl W0).drew.cell_of k, (Ext.refl W0).drew⟩
theorem held2_on {W0 W W' : World} {b : Nat} {u v : Value} (hx : Ext W W') (h : W.cell? ⟨b, 0, none⟩ = some u ∧ W.cell? ⟨b, 1, none⟩ = some v ∧ Ext W0 W) : W'.cell? ⟨b, 0, none⟩ = some u ∧ W'.cell? ⟨b, 1, none⟩ = some v ∧ Ext W0 W' :=
  ⟨hx.cell_of h.1, hx.cell_of h.2.1, h.2.2.trans hx⟩
set_option maxHeartbeats 1000000 in
theorem Between_t (c f t : Int) (w : World) (k1 : 1 ≤ c) (k2 : c ≤ 3) (ht : t < -25567 ∨ 84370 < t) (he : Hid (Env w)) :
    Calls Tryd.prog 10 #[.int .i64 c, .int .i64 f, .int .i64 t] w fun e w' => e = .returned (.tuple #[.int .i64 0, .int .i64 5]) ∧ Ext w w' := by
  replace ht := show Hid _ from ht
  have hmf := make_func
  go_enter_defers Tryd.func10, Tryd.ntmps10
  go_wp2_with fail
  refine (yearOf_ok _ _ k1 k2).mono ?_
  rintro e w1 ⟨rfl, hx⟩
  have hf := (Fac.begin w 2 23).on hx
  replace he : Hid (Env w1) := he.out.ext hf.ext
  clear hx
  go_wp2_with fail
  obtain ⟨g, hg⟩ : ∃ g, fvOf c = g := ⟨_, rfl⟩
  obtain ⟨p, hp⟩ : ∃ p, ptA c = p := ⟨_, rfl⟩
  rw [hg, hp]
  obtain ⟨W0, b, hW0, hb, hx0, j0, j1, z0, z1⟩ := box2f w1 (.int .i64 p) (.func (.func g) #[] #[]) 41
  have hbz : w.heap.size + 1 < b := by rw [← hb]; exact lt_of_cell hf.q
  rw [hW0, hb]
  clear hW0 hb z0 z1
  replace hf := hf.on hx0
  replace he : Hid (Env W0) := he.out.ext hx0
  replace hf := show Hid _ from hf
  replace hg := show Hid _ from hg
  clear hx0 hp
  refine wp_region_thrown (fun W => W.cell? ⟨b, 0, none⟩ = some (.int .i64 p) ∧ W.cell? ⟨b, 1, none⟩ = some (.func (.func g) #[] #[]) ∧ Ext W0 W) (fun a => a.defers = dfr 21 w.heap.size) [6, 7]
    (fun t => if t = 6 then some (.pointer (some ⟨w.heap.size, 0, none⟩)) else some (.pointer (some ⟨w.heap.size + 1, 0, none⟩))) (fun c W => c = [{ v := .iface 23 (.int .i64 5), recovered := false }] ∧ Ext W0 W) (by kernel_rfl) ?_ (held2_in j0 j1) (fun hHeld => ?_)
  · rintro c a W hd ht ⟨rfl, hx⟩
    have h6 := ht 6 (by simp)
    have h7 := ht 7 (by simp)
    show Leaves _ _ a.tmps _ a.defers _ _
    have hd' : a.defers = dfr 21 w.heap.size := hd
    rw [hd']
    exact btw_leave_catch w W _ _ _ _ h6 h7 (hf.out.on hx)
  refine takeT 0 (oi := { dst := some 12, op := Op.load 41 (Operand.tmp 8), type := 41, pos := "fraction.go:20", after := #[], guard := none }) (v := .agg #[.int .i64 p, .func (.func g) #[] #[]]) rfl (by kernel_rfl) (by kernel_rfl) (by kernel_rfl) (by decide) (Or.inl ⟨by rfl, fun W hW => ?_⟩) hHeld ?_
  · dsimp only at hW
    go_simp
  simp only [Act.put, List.setIfInBounds_toArray, List.set_cons_zero, List.set_cons_succ]
  refine takeT 1 (oi := { dst := some 13, op := Op.move (Operand.tmp 2), type := 3, pos := "fraction.go:20", after := #[], guard := none }) (v := .int .i64 t) rfl (by kernel_rfl) (by kernel_rfl) (by kernel_rfl) (by decide) (Or.inl ⟨by rfl, fun W hW => ?_⟩) hHeld ?_
  · dsimp only at hW
    go_simp
  simp only [Act.put, List.setIfInBounds_toArray, List.set_cons_zero, List.set_cons_succ]
  refine takeT 3 (oi := { dst := some 15, op := Op.load 41 (Operand.tmp 8), type := 41, pos := "fraction.go:20", after := #[], guard := none }) (v := .agg #[.int .i64 p, .func (.func g) #[] #[]]) rfl (by kernel_rfl) (by kernel_rfl) (by kernel_rfl) (by decide) (Or.inl ⟨by rfl, fun W hW => ?_⟩) hHeld ?_
  · dsimp only at hW
    go_simp
  simp only [Act.put, List.setIfInBounds_toArray, List.set_cons_zero, List.set_cons_succ]
  refine takeT 4 (oi := { dst := some 16, op := Op.move (Operand.tmp 1), type := 3, pos := "fraction.go:20", after := #[], guard := none }) (v := .int .i64 f) rfl (by kernel_rfl) (by kernel_rfl) (by kernel_rfl) (by decide) (Or.inl ⟨by rfl, fun W hW => ?_⟩) hHeld ?_
  · dsimp only at hW
    go_simp
  simp only [Act.put, List.setIfInBounds_toArray, List.set_cons_zero, List.set_cons_succ]
  refine wpAnyH_ready (rs := [2]) (by kernel_rfl) (by simp) ?_
  refine AllReadyH.cons (o := { dst := some 14, op := Op.call { callee := Callee.value (Operand.func 22), args := #[Operand.tmp 12, Operand.tmp 13], argTypes := #[41, 3] }, type := 2, pos := "fraction.go:20", after := #[{ on := 0, ground := Ground.data }, { on := 1, ground := Ground.data }], guard := none }) rfl (fun K hK => ?_) AllReadyH.nil
  go_simp
  refine (at_no _ _ _ _ ht.out).mono ?_
  rintro e W2 ⟨rfl, hx⟩
  exact ⟨rfl, (fun t ht => (by rcases List.mem_cons.1 ht with rfl | ht; rfl; rcases List.mem_cons.1 ht with rfl | ht; rfl; cases ht)), rfl, hHeld.2.2.trans hx⟩
set_option maxHeartbeats 1000000 in
theorem Between_f (c f t : Int) (w : World) (k1 : 1 ≤ c) (k2 : c ≤ 3) (hin : -25567 ≤ t ∧ t ≤ 84370) (ht : f < -25567 ∨ 84370 < f) (he : Hid (Env w)) :
    Calls Tryd.prog 10 #[.int .i64 c, .int .i64 f, .int .i64 t] w fun e w' => e = .returned (.tuple #[.int .i64 0, .int .i64 5]) ∧ Ext w w' := by
  replace ht := show Hid _ from ht
  replace hin := show Hid _ from hin
  have hmf := make_func
  go_enter_defers Tryd.func10, Tryd.ntmps10
  go_wp2_with fail
  refine (yearOf_ok _ _ k1 k2).mono ?_
  rintro e w1 ⟨rfl, hx⟩
  have hf := (Fac.begin w 2 23).on hx
  replace he : Hid (Env w1) := he.out.ext hf.ext
  clear hx
  go_wp2_with fail
  obtain ⟨g, hg⟩ : ∃ g, fvOf c = g := ⟨_, rfl⟩
  obtain ⟨p, hp⟩ : ∃ p, ptA c = p := ⟨_, rfl⟩
  rw [hg, hp]
  obtain ⟨W0, b, hW0, hb, hx0, j0, j1, z0, z1⟩ := box2f w1 (.int .i64 p) (.func (.func g) #[] #[]) 41
  have hbz : w.heap.size + 1 < b := by rw [← hb]; exact lt_of_cell hf.q
  rw [hW0, hb]
  clear hW0 hb z0 z1
  replace hf := hf.on hx0
  replace he : Hid (Env W0) := he.out.ext hx0
  replace hf := show Hid _ from hf
  replace hg := show Hid _ from hg
  clear hx0 hp
  have hat : Hid (∀ W, Hid (Env W) → Calls Tryd.prog 22 #[.agg #[.int .i64 p, .func (.func g) #[] #[]], .int .i64 t] W fun e w' => e = .returned (.int .i64 (plc c t)) ∧ Ext W w') := fun W hE => by
    rw [← hg.out]; exact at_ok c p t W k1 k2 hin.out.1 hin.out.2 hE
  refine wp_region_thrown (fun W => W.cell? ⟨b, 0, none⟩ = some (.int .i64 p) ∧ W.cell? ⟨b, 1, none⟩ = some (.func (.func g) #[] #[]) ∧ Ext W0 W) (fun a => a.defers = dfr 21 w.heap.size) [6, 7]
    (fun t => if t = 6 then some (.pointer (some ⟨w.heap.size, 0, none⟩)) else some (.pointer (some ⟨w.heap.size + 1, 0, none⟩))) (fun c W => c = [{ v := .iface 23 (.int .i64 5), recovered := false }] ∧ Ext W0 W) (by kernel_rfl) ?_ (held2_in j0 j1) (fun hHeld => ?_)
  · rintro c a W hd ht ⟨rfl, hx⟩
    have h6 := ht 6 (by simp)
    have h7 := ht 7 (by simp)
    show Leaves _ _ a.tmps _ a.defers _ _
    have hd' : a.defers = dfr 21 w.heap.size := hd
    rw [hd']
    exact btw_leave_catch w W _ _ _ _ h6 h7 (hf.out.on hx)
  refine takeT 0 (oi := { dst := some 12, op := Op.load 41 (Operand.tmp 8), type := 41, pos := "fraction.go:20", after := #[], guard := none }) (v := .agg #[.int .i64 p, .func (.func g) #[] #[]]) rfl (by kernel_rfl) (by kernel_rfl) (by kernel_rfl) (by decide) (Or.inl ⟨by rfl, fun W hW => ?_⟩) hHeld ?_
  · dsimp only at hW
    go_simp
  simp only [Act.put, List.setIfInBounds_toArray, List.set_cons_zero, List.set_cons_succ]
  refine takeT 1 (oi := { dst := some 13, op := Op.move (Operand.tmp 2), type := 3, pos := "fraction.go:20", after := #[], guard := none }) (v := .int .i64 t) rfl (by kernel_rfl) (by kernel_rfl) (by kernel_rfl) (by decide) (Or.inl ⟨by rfl, fun W hW => ?_⟩) hHeld ?_
  · dsimp only at hW
    go_simp
  simp only [Act.put, List.setIfInBounds_toArray, List.set_cons_zero, List.set_cons_succ]
  refine takeT 3 (oi := { dst := some 15, op := Op.load 41 (Operand.tmp 8), type := 41, pos := "fraction.go:20", after := #[], guard := none }) (v := .agg #[.int .i64 p, .func (.func g) #[] #[]]) rfl (by kernel_rfl) (by kernel_rfl) (by kernel_rfl) (by decide) (Or.inl ⟨by rfl, fun W hW => ?_⟩) hHeld ?_
  · dsimp only at hW
    go_simp
  simp only [Act.put, List.setIfInBounds_toArray, List.set_cons_zero, List.set_cons_succ]
  refine takeT 4 (oi := { dst := some 16, op := Op.move (Operand.tmp 1), type := 3, pos := "fraction.go:20", after := #[], guard := none }) (v := .int .i64 f) rfl (by kernel_rfl) (by kernel_rfl) (by kernel_rfl) (by decide) (Or.inl ⟨by rfl, fun W hW => ?_⟩) hHeld ?_
  · dsimp only at hW
    go_simp
  simp only [Act.put, List.setIfInBounds_toArray, List.set_cons_zero, List.set_cons_succ]
  refine wpAnyH_ready (rs := [2]) (by kernel_rfl) (by simp) ?_
  refine AllReadyH.cons (o := { dst := some 14, op := Op.call { callee := Callee.value (Operand.func 22), args := #[Operand.tmp 12, Operand.tmp 13], argTypes := #[41, 3] }, type := 2, pos := "fraction.go:20", after := #[{ on := 0, ground := Ground.data }, { on := 1, ground := Ground.data }], guard := none }) rfl (fun K hK => ?_) AllReadyH.nil
  go_simp
  refine (hat.out _ (he.out.ext hHeld.2.2)).mono ?_
  rintro e W1 ⟨rfl, hx⟩
  try dsimp only
  refine hK.out _ _ (held2_on hx hHeld) ?_
  clear hK K hHeld
  intro hHeld
  clear hx
  try simp only [Act.put, List.setIfInBounds_toArray, List.set_cons_zero, List.set_cons_succ]
  refine wpAnyH_ready (rs := [5]) (by kernel_rfl) (by simp) ?_
  refine AllReadyH.cons (o := { dst := some 17, op := Op.call { callee := Callee.value (Operand.func 22), args := #[Operand.tmp 15, Operand.tmp 16], argTypes := #[41, 3] }, type := 2, pos := "fraction.go:20", after := #[{ on := 3, ground := Ground.data }, { on := 4, ground := Ground.data }, { on := 2, ground := Ground.chain }], guard := none }) rfl (fun K hK => ?_) AllReadyH.nil
  go_simp
  refine (at_no _ _ _ _ ht.out).mono ?_
  rintro e W2 ⟨rfl, hx⟩
  exact ⟨rfl, (fun t ht => (by rcases List.mem_cons.1 ht with rfl | ht; rfl; rcases List.mem_cons.1 ht with rfl | ht; rfl; cases ht)), rfl, hHeld.2.2.trans hx⟩
theorem held3_on {W W' : World} {b : Nat} {u v : Value} (hx : Ext W W') (h : W.cell? ⟨b, 0, none⟩ = some u ∧ W.cell? ⟨b, 1, none⟩ = some v) : W'.cell? ⟨b, 0, none⟩ = some u ∧ W'.cell? ⟨b, 1, none⟩ = some v :=
  ⟨hx.cell_of h.1, hx.cell_of h.2⟩
theorem held3_far {W : World} {b z : Nat} {u v x : Value} (hz : z < b) (h : W.cell? ⟨b, 0, none⟩ = some u ∧ W.cell? ⟨b, 1, none⟩ = some v) : (W.setCell ⟨z, 0, none⟩ x).cell? ⟨b, 0, none⟩ = some u ∧ (W.setCell ⟨z, 0, none⟩ x).cell? ⟨b, 1, none⟩ = some v :=
  ⟨by rw [other _ (Or.inl (by omega))]; exact h.1, by rw [other _ (Or.inl (by omega))]; exact h.2⟩
set_option maxHeartbeats 1000000 in
theorem Between_ok (c f t : Int) (w : World) (k1 : 1 ≤ c) (k2 : c ≤ 3) (hf1 : -25567 ≤ f ∧ f ≤ 84370) (ht1 : -25567 ≤ t ∧ t ≤ 84370) (he : Hid (Env w)) :
    Calls Tryd.prog 10 #[.int .i64 c, .int .i64 f, .int .i64 t] w fun e w' => e = .returned (.tuple #[.int .i64 (plc c t - plc c f), .int .i64 0]) ∧ Ext w w' := by
  have pf := plc_bd c hf1.1 hf1.2
  have pt := plc_bd c ht1.1 ht1.2
  replace hf1 := show Hid _ from hf1
  replace ht1 := show Hid _ from ht1
  obtain ⟨x, hX⟩ : ∃ x, plc c t = x := ⟨_, rfl⟩
  obtain ⟨y, hY⟩ : ∃ y, plc c f = y := ⟨_, rfl⟩
  rw [hX, hY]
  rw [hY] at pf
  rw [hX] at pt
  obtain ⟨pf1, pf2⟩ := pf
  obtain ⟨pt1, pt2⟩ := pt
  replace hX := show Hid _ from hX
  replace hY := show Hid _ from hY
  have hmf := make_func
  go_enter_defers Tryd.func10, Tryd.ntmps10
  go_wp2_with fail
  refine (yearOf_ok _ _ k1 k2).mono ?_
  rintro e w1 ⟨rfl, hx⟩
  have hf := (Fac.begin w 2 23).on hx
  replace he : Hid (Env w1) := he.out.ext hf.ext
  clear hx
  go_wp2_with fail
  obtain ⟨g, hg⟩ : ∃ g, fvOf c = g := ⟨_, rfl⟩
  obtain ⟨p, hp⟩ : ∃ p, ptA c = p := ⟨_, rfl⟩
  rw [hg, hp]
  obtain ⟨W0, b, hW0, hb, hx0, j0, j1, z0, z1⟩ := box2f w1 (.int .i64 p) (.func (.func g) #[] #[]) 41
  have hbz : w.heap.size + 1 < b := by rw [← hb]; exact lt_of_cell hf.q
  rw [hW0, hb]
  clear hW0 hb z0 z1
  replace hf := hf.on hx0
  replace he : Hid (Env W0) := he.out.ext hx0
  replace hf := show Hid _ from hf
  replace hg := show Hid _ from hg
  clear hx0 hp
  have hatt : Hid (∀ W, Hid (Env W) → Calls Tryd.prog 22 #[.agg #[.int .i64 p, .func (.func g) #[] #[]], .int .i64 t] W fun e w' => e = .returned (.int .i64 x) ∧ Ext W w') := fun W hE => by
    rw [← hg.out, ← hX.out]; exact at_ok c p t W k1 k2 ht1.out.1 ht1.out.2 hE
  have hatf : Hid (∀ W, Hid (Env W) → Calls Tryd.prog 22 #[.agg #[.int .i64 p, .func (.func g) #[] #[]], .int .i64 f] W fun e w' => e = .returned (.int .i64 y) ∧ Ext W w') := fun W hE => by
    rw [← hg.out, ← hY.out]; exact at_ok c p f W k1 k2 hf1.out.1 hf1.out.2 hE
  refine wp_region_thrown (fun W => W.cell? ⟨b, 0, none⟩ = some (.int .i64 p) ∧ W.cell? ⟨b, 1, none⟩ = some (.func (.func g) #[] #[])) (fun a => False) []
    (fun t => none) (fun c W => False) (by kernel_rfl) (fun _ _ _ _ _ h => h.elim) (held3_on (Ext.refl W0).drew ⟨j0, j1⟩) (fun hHeld => ?_)
  replace hf : Hid (Fac w W0.drew 0 0) := hf.out.on (Ext.refl W0).drew
  replace he : Hid (Env W0.drew) := he.out.ext (Ext.refl W0).drew
  refine takeT 0 (oi := { dst := some 12, op := Op.load 41 (Operand.tmp 8), type := 41, pos := "fraction.go:20", after := #[], guard := none }) (v := .agg #[.int .i64 p, .func (.func g) #[] #[]]) rfl (by kernel_rfl) (by kernel_rfl) (by kernel_rfl) (by decide) (Or.inl ⟨by rfl, fun W hW => ?_⟩) hHeld ?_
  · dsimp only at hW
    go_simp
  simp only [Act.put, List.setIfInBounds_toArray, List.set_cons_zero, List.set_cons_succ]
  refine takeT 1 (oi := { dst := some 13, op := Op.move (Operand.tmp 2), type := 3, pos := "fraction.go:20", after := #[], guard := none }) (v := .int .i64 t) rfl (by kernel_rfl) (by kernel_rfl) (by kernel_rfl) (by decide) (Or.inl ⟨by rfl, fun W hW => ?_⟩) hHeld ?_
  · dsimp only at hW
    go_simp
  simp only [Act.put, List.setIfInBounds_toArray, List.set_cons_zero, List.set_cons_succ]
  refine takeT 3 (oi := { dst := some 15, op := Op.load 41 (Operand.tmp 8), type := 41, pos := "fraction.go:20", after := #[], guard := none }) (v := .agg #[.int .i64 p, .func (.func g) #[] #[]]) rfl (by kernel_rfl) (by kernel_rfl) (by kernel_rfl) (by decide) (Or.inl ⟨by rfl, fun W hW => ?_⟩) hHeld ?_
  · dsimp only at hW
    go_simp
  simp only [Act.put, List.setIfInBounds_toArray, List.set_cons_zero, List.set_cons_succ]
  refine takeT 4 (oi := { dst := some 16, op := Op.move (Operand.tmp 1), type := 3, pos := "fraction.go:20", after := #[], guard := none }) (v := .int .i64 f) rfl (by kernel_rfl) (by kernel_rfl) (by kernel_rfl) (by decide) (Or.inl ⟨by rfl, fun W hW => ?_⟩) hHeld ?_
  · dsimp only at hW
    go_simp
  simp only [Act.put, List.setIfInBounds_toArray, List.set_cons_zero, List.set_cons_succ]
  refine wpAnyH_ready (rs := [2]) (by kernel_rfl) (by simp) ?_
  refine AllReadyH.cons (o := { dst := some 14, op := Op.call { callee := Callee.value (Operand.func 22), args := #[Operand.tmp 12, Operand.tmp 13], argTypes := #[41, 3] }, type := 2, pos := "fraction.go:20", after := #[{ on := 0, ground := Ground.data }, { on := 1, ground := Ground.data }], guard := none }) rfl (fun K hK => ?_) AllReadyH.nil
  go_simp
  refine (hatt.out _ he).mono ?_
  rintro e W1 ⟨rfl, hx⟩
  try dsimp only
  refine hK.out _ _ (held3_on hx hHeld) ?_
  clear hK K hHeld
  intro hHeld
  replace hf := show Hid _ from hf.out.on hx
  replace he : Hid (Env W1) := he.out.ext hx
  clear hx
  try simp only [Act.put, List.setIfInBounds_toArray, List.set_cons_zero, List.set_cons_succ]
  refine wpAnyH_ready (rs := [5]) (by kernel_rfl) (by simp) ?_
  refine AllReadyH.cons (o := { dst := some 17, op := Op.call { callee := Callee.value (Operand.func 22), args := #[Operand.tmp 15, Operand.tmp 16], argTypes := #[41, 3] }, type := 2, pos := "fraction.go:20", after := #[{ on := 3, ground := Ground.data }, { on := 4, ground := Ground.data }, { on := 2, ground := Ground.chain }], guard := none }) rfl (fun K hK => ?_) AllReadyH.nil
  go_simp
  refine (hatf.out _ he).mono ?_
  rintro e W2 ⟨rfl, hx⟩
  try dsimp only
  refine hK.out _ _ (held3_on hx hHeld) ?_
  clear hK K hHeld
  intro hHeld
  replace hf := show Hid _ from hf.out.on hx
  replace he : Hid (Env W2) := he.out.ext hx
  clear hx
  try simp only [Act.put, List.setIfInBounds_toArray, List.set_cons_zero, List.set_cons_succ]
  refine takeT 6 (oi := { dst := some 18, op := Op.binOp BinOp.sub 2 (Operand.tmp 14) (Operand.tmp 17) 2, type := 2, pos := "fraction.go:20", after := #[{ on := 2, ground := Ground.data }, { on := 5, ground := Ground.data }], guard := none }) (v := .int .i64 (x - y)) rfl (by kernel_rfl) (by kernel_rfl) (by kernel_rfl) (by decide) (Or.inl ⟨by rfl, fun W hW => ?_⟩) hHeld ?_
  · dsimp only at hW
    go_simp
    rw [IntKind.wrap_i64]; omega
  simp only [Act.put, List.setIfInBounds_toArray, List.set_cons_zero, List.set_cons_succ]
  have gp := hf.out.p; have gq := hf.out.q; have gpz := hf.out.pz; have gqz := hf.out.qz
  refine wpAnyH_ready (rs := [7]) (by kernel_rfl) (by simp) ?_
  refine AllReadyH.cons (o := { dst := none, op := Op.store 2 (Operand.tmp 6) (Operand.tmp 18), type := 0, pos := "fraction.go:20", after := #[{ on := 6, ground := Ground.data }, { on := 5, ground := Ground.chain }, { on := 0, ground := Ground.phase }, { on := 1, ground := Ground.phase }, { on := 2, ground := Ground.phase }, { on := 3, ground := Ground.phase }, { on := 4, ground := Ground.phase }, { on := 5, ground := Ground.phase }, { on := 6, ground := Ground.phase }], guard := none }) rfl (fun K hK => ?_) AllReadyH.nil
  go_simp
  refine hK.out _ _ (held3_far (by omega) hHeld) ?_
  clear hK K hHeld
  intro hHeld
  replace hf := show Hid _ from hf.out.set1 (x - y)
  clear gp gq gpz gqz
  have gp := hf.out.p; have gq := hf.out.q; have gpz := hf.out.pz; have gqz := hf.out.qz
  refine wpAnyH_ready (rs := [8]) (by kernel_rfl) (by simp) ?_
  refine AllReadyH.cons (o := { dst := none, op := Op.store 23 (Operand.tmp 7) (Operand.const (Value.int IntKind.i64 0)), type := 0, pos := "fraction.go:20", after := #[{ on := 7, ground := Ground.chain }, { on := 0, ground := Ground.phase }, { on := 1, ground := Ground.phase }, { on := 2, ground := Ground.phase }, { on := 3, ground := Ground.phase }, { on := 4, ground := Ground.phase }, { on := 5, ground := Ground.phase }, { on := 6, ground := Ground.phase }, { on := 7, ground := Ground.phase }], guard := none }) rfl (fun K hK => ?_) AllReadyH.nil
  go_simp
  refine hK.out _ _ (held3_far (by omega) hHeld) ?_
  clear hK K hHeld
  intro hHeld
  refine wpAnyH_done (by kernel_rfl) ?_ _
  refine ThrowQ.normal ?_
  go_wp2
  refine btw_leave_idle w _ _ _ _ ?_ ?_ (hf.out.set2 _)
  · rfl
  · rfl
theorem Between_c (c f t : Int) (w : World) (he : Hid (Env w)) :
    Calls Tryd.prog 10 #[.int .i64 c, .int .i64 f, .int .i64 t] w fun e w' => e = .returned (.tuple #[.int .i64 (btA c f t), .int .i64 (btE c f t)]) ∧ Ext w w' := by
  by_cases h : 1 ≤ c ∧ c ≤ 3
  · by_cases ht : -25567 ≤ t ∧ t ≤ 84370
    · by_cases hf : -25567 ≤ f ∧ f ≤ 84370
      · have e := bt_ok h.1 h.2 (inD_t hf.1 hf.2) (inD_t ht.1 ht.2)
        rw [e.1, e.2]; exact Between_ok c f t w h.1 h.2 hf ht he
      · have e := bt_day h.1 h.2 (fun k => hf ((inD_iff f).1 k.1) : ¬ (inD f = true ∧ inD t = true))
        rw [e.1, e.2]; exact Between_f c f t w h.1 h.2 ht (by omega) he
    · have e := bt_day h.1 h.2 (fun k => ht ((inD_iff t).1 k.2) : ¬ (inD f = true ∧ inD t = true))
      rw [e.1, e.2]; exact Between_t c f t w h.1 h.2 (by omega) he
  · have e := bt_no (f := f) (t := t) h
    rw [e.1, e.2]; exact Between_no c f t w h
end Go.Proofs.YtkjdhefmhooplaaDoor
