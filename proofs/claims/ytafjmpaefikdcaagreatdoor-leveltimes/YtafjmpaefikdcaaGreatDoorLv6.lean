
/- Left and Of of package level, as contracts: no statement of the seat is proved here. -/
import Derived.Test.YtafjmpaefikdcaaGreatDoorLv4
namespace Go.Proofs.YtafjmpaefikdcaaGreatDoor
open Go.RowKit
open L12 (need_ok need_no Fac Rst dfr)
open L8 (Slc)
set_option linter.unusedVariables false
set_option maxRecDepth 100000

set_option maxHeartbeats 2000000 in
theorem Left_no (p : Prd) (vr vl vh v : Value) (l : List Int) (a x E : Int) (w : World) (hi : Inp w p vr vl vh) (hs : Slc w v l) (hE : askE p l a E) (h0 : E ≠ 0) :
    Calls Tryz.prog 9 #[.agg (pcells p vr vl vh), v, .int .i64 a, .int .i64 x] w fun e w' => e = .returned (.tuple #[.int .i64 0, .int .i64 E]) ∧ Ext w w' := by
  have hone := hi.one
  have hbox := box_prod p vr vl vh hone
  obtain ⟨W1, P, hW1, hb, hx1, hB1⟩ : ∃ W b, w.alloc (.cells (pcells p vr vl vh) 27) = W ∧ w.heap.size = b ∧ Ext w W ∧ Blk W b (pcells p vr vl vh) := ⟨_, _, rfl, rfl, (Ext.refl w).alloc _ _, heap_alloc_last w _⟩
  have hmf := L12.make_func
  have hf := Fac.begin w W1 (.int .i64 0) 2 33 hx1
  have hx2 : Ext W1 ((W1.alloc (.cells #[.int .i64 0] 2)).alloc (.cells #[.int .i64 0] 33)) := ((Ext.refl W1).alloc _ _).alloc _ _
  obtain ⟨Z, hZ⟩ : ∃ Z, W1.heap.size = Z := ⟨_, rfl⟩
  obtain ⟨W2, hW2⟩ : ∃ W2, (W1.alloc (.cells #[.int .i64 0] 2)).alloc (.cells #[.int .i64 0] 33) = W2 := ⟨_, rfl⟩
  have hZ2 : (W1.alloc (.cells #[.int .i64 0] 2)).heap.size = Z + 1 := by rw [← hZ]; simp
  rw [hW2] at hx2
  rw [hZ, hW2] at hf
  have hB : Hid (Blk W2 P (pcells p vr vl vh)) := hB1.ext hx2
  replace hi : Hid (Inp W2 p vr vl vh) := hi.ext hf.ext
  replace hs : Hid (Slc W2 v l) := hs.ext hf.ext
  replace hf := show Hid _ from hf
  clear hB1 hx1 hx2
  go_enter_defers Tryz.func9, Tryz.ntmps9
  go_wp2_with fail
  refine (lent_no P p vr vl vh v l a E _ hB.out hi.out hs.out hE h0).mono ?_
  rintro e w2 ⟨rfl, hx2⟩
  replace hf : Hid (Fac w Z w2 (.int .i64 0) 0) := hf.out.on hx2
  clear hx2 hB hbox hone hW1 hW2 hZ hZ2 hb hmf
  go_wp2
  refine lft_leave_catch w _ Z _ _ _ _ _ ?_ ?_ hf.out (fun w3 hx3 => ⟨rfl, hf.out.fin hx3⟩)
  · rfl
  · rfl
set_option maxHeartbeats 2000000 in
theorem Of_no (p : Prd) (vr vl vh v : Value) (l : List Int) (a E : Int) (w : World) (hi : Inp w p vr vl vh) (hs : Slc w v l) (hE : askE p l a E) (h0 : E ≠ 0) :
    Calls Tryz.prog 11 #[.agg (pcells p vr vl vh), v, .int .i64 a] w fun e w' => e = .returned (.tuple #[.int .i64 0, .int .i64 E]) ∧ Ext w w' := by
  have hone := hi.one
  have hbox := box_prod p vr vl vh hone
  obtain ⟨W1, P, hW1, hb, hx1, hB1⟩ : ∃ W b, w.alloc (.cells (pcells p vr vl vh) 27) = W ∧ w.heap.size = b ∧ Ext w W ∧ Blk W b (pcells p vr vl vh) := ⟨_, _, rfl, rfl, (Ext.refl w).alloc _ _, heap_alloc_last w _⟩
  have hmf := L12.make_func
  have hf := Fac.begin w W1 (.int .i64 0) 2 33 hx1
  have hx2 : Ext W1 ((W1.alloc (.cells #[.int .i64 0] 2)).alloc (.cells #[.int .i64 0] 33)) := ((Ext.refl W1).alloc _ _).alloc _ _
  obtain ⟨Z, hZ⟩ : ∃ Z, W1.heap.size = Z := ⟨_, rfl⟩
  obtain ⟨W2, hW2⟩ : ∃ W2, (W1.alloc (.cells #[.int .i64 0] 2)).alloc (.cells #[.int .i64 0] 33) = W2 := ⟨_, rfl⟩
  have hZ2 : (W1.alloc (.cells #[.int .i64 0] 2)).heap.size = Z + 1 := by rw [← hZ]; simp
  rw [hW2] at hx2
  rw [hZ, hW2] at hf
  have hB : Hid (Blk W2 P (pcells p vr vl vh)) := hB1.ext hx2
  replace hi : Hid (Inp W2 p vr vl vh) := hi.ext hf.ext
  replace hs : Hid (Slc W2 v l) := hs.ext hf.ext
  replace hf := show Hid _ from hf
  clear hB1 hx1 hx2
  go_enter_defers Tryz.func11, Tryz.ntmps11
  go_wp2_with fail
  refine (lent_no P p vr vl vh v l a E _ hB.out hi.out hs.out hE h0).mono ?_
  rintro e w2 ⟨rfl, hx2⟩
  replace hf : Hid (Fac w Z w2 (.int .i64 0) 0) := hf.out.on hx2
  clear hx2 hB hbox hone hW1 hW2 hZ hZ2 hb hmf
  go_wp2
  refine lof_leave_catch w _ Z _ _ _ _ _ ?_ ?_ hf.out (fun w3 hx3 => ⟨rfl, hf.out.fin hx3⟩)
  · rfl
  · rfl
set_option maxHeartbeats 2000000 in
theorem Left_arg (p : Prd) (vr vl vh : Value) (b off c : Nat) (l : List Int) (a x : Int) (w : World) (hi : Inp w p vr vl vh) (hc : ∀ (k : Nat) (x : Int), l[k]? = some x → w.cell? ⟨b, off + k, none⟩ = some (.int .i64 x)) (hok : okP p = true) (hO : Okl p.tm l a) (hx : ¬ (0 ≤ x ∧ x ≤ 1000000000000000)) :
    Calls Tryz.prog 9 #[.agg (pcells p vr vl vh), .slice (some ⟨b, off, none⟩) l.length c, .int .i64 a, .int .i64 x] w fun e w' => e = .returned (.tuple #[.int .i64 0, .int .i64 1]) ∧ Ext w w' := by
  have hd := decide_eq_false hx
  replace hd := show Hid _ from hd
  clear hx
  have hone := hi.one
  have hbox := box_prod p vr vl vh hone
  obtain ⟨W1, P, hW1, hb, hx1, hB1⟩ : ∃ W b, w.alloc (.cells (pcells p vr vl vh) 27) = W ∧ w.heap.size = b ∧ Ext w W ∧ Blk W b (pcells p vr vl vh) := ⟨_, _, rfl, rfl, (Ext.refl w).alloc _ _, heap_alloc_last w _⟩
  have hmf := L12.make_func
  have hf := Fac.begin w W1 (.int .i64 0) 2 33 hx1
  have hx2 : Ext W1 ((W1.alloc (.cells #[.int .i64 0] 2)).alloc (.cells #[.int .i64 0] 33)) := ((Ext.refl W1).alloc _ _).alloc _ _
  obtain ⟨Z, hZ⟩ : ∃ Z, W1.heap.size = Z := ⟨_, rfl⟩
  obtain ⟨W2, hW2⟩ : ∃ W2, (W1.alloc (.cells #[.int .i64 0] 2)).alloc (.cells #[.int .i64 0] 33) = W2 := ⟨_, rfl⟩
  have hZ2 : (W1.alloc (.cells #[.int .i64 0] 2)).heap.size = Z + 1 := by rw [← hZ]; simp
  rw [hW2] at hx2
  rw [hZ, hW2] at hf
  have hB : Hid (Blk W2 P (pcells p vr vl vh)) := hB1.ext hx2
  replace hi : Hid (Inp W2 p vr vl vh) := hi.ext hf.ext
  have hc2 : ∀ (k : Nat) (x : Int), l[k]? = some x → W2.cell? ⟨b, off + k, none⟩ = some (.int .i64 x) := fun k x h => hf.ext.cell_of (hc k x h)
  replace hc := show Hid _ from hc
  replace hc2 := show Hid _ from hc2
  replace hf := show Hid _ from hf
  clear hB1 hx1 hx2
  go_enter_defers Tryz.func9, Tryz.ntmps9
  go_wp2_with fail
  refine (lent_yes P p vr vl vh b off c l a _ hB.out hi.out hc2.out hok hO).mono ?_
  rintro e w2 ⟨L, rfl, hL, hx2⟩
  replace hf : Hid (Fac w Z w2 (.int .i64 0) 0) := hf.out.on hx2
  have hc3 : Hid (∀ (k : Nat) (x : Int), l[k]? = some x → w2.cell? ⟨b, off + k, none⟩ = some (.int .i64 x)) := fun k x h => hx2.cell_of (hc2.out k x h)
  replace hL : Hid (Lon w2 L P p vr vl vh (.slice (some ⟨b, off, none⟩) l.length c) a) := hL
  clear hx2 hB hbox hone hW1 hW2 hZ hZ2 hb hmf hi hc hc2
  go_wp2_with fail
  refine (lupTo_c _ _ _).mono ?_
  rintro e w3 ⟨rfl, rfl⟩
  rw [hd.out]
  go_wp2_with fail
  refine (need_no _ _).mono ?_
  rintro e w4 ⟨rfl, rfl⟩
  go_wp2
  refine lft_leave_catch w _ Z _ _ _ _ _ ?_ ?_ hf.out (fun w3 hx3 => ⟨rfl, hf.out.fin hx3⟩)
  · rfl
  · rfl
set_option maxHeartbeats 2000000 in
theorem Left_yes (p : Prd) (vr vl vh : Value) (b off c : Nat) (l : List Int) (a x : Int) (w : World) (hi : Inp w p vr vl vh) (hc : ∀ (k : Nat) (x : Int), l[k]? = some x → w.cell? ⟨b, off + k, none⟩ = some (.int .i64 x)) (hok : okP p = true) (hO : Okl p.tm l a) (x0 : 0 ≤ x) (x1 : x ≤ 1000000000000000) (V : Int) (hV : lvl p l a x = V) :
    Calls Tryz.prog 9 #[.agg (pcells p vr vl vh), .slice (some ⟨b, off, none⟩) l.length c, .int .i64 a, .int .i64 x] w fun e w' => e = .returned (.tuple #[.int .i64 V, .int .i64 0]) ∧ Ext w w' := by
  have hd := decide_eq_true (show 0 ≤ x ∧ x ≤ 1000000000000000 from ⟨x0, x1⟩)
  replace hd := show Hid _ from hd
  replace x0 := show Hid _ from x0
  replace x1 := show Hid _ from x1
  replace hV := show Hid _ from hV
  have hone := hi.one
  have hbox := box_prod p vr vl vh hone
  obtain ⟨W1, P, hW1, hb, hx1, hB1⟩ : ∃ W b, w.alloc (.cells (pcells p vr vl vh) 27) = W ∧ w.heap.size = b ∧ Ext w W ∧ Blk W b (pcells p vr vl vh) := ⟨_, _, rfl, rfl, (Ext.refl w).alloc _ _, heap_alloc_last w _⟩
  have hmf := L12.make_func
  have hf := Fac.begin w W1 (.int .i64 0) 2 33 hx1
  have hx2 : Ext W1 ((W1.alloc (.cells #[.int .i64 0] 2)).alloc (.cells #[.int .i64 0] 33)) := ((Ext.refl W1).alloc _ _).alloc _ _
  obtain ⟨Z, hZ⟩ : ∃ Z, W1.heap.size = Z := ⟨_, rfl⟩
  obtain ⟨W2, hW2⟩ : ∃ W2, (W1.alloc (.cells #[.int .i64 0] 2)).alloc (.cells #[.int .i64 0] 33) = W2 := ⟨_, rfl⟩
  have hZ2 : (W1.alloc (.cells #[.int .i64 0] 2)).heap.size = Z + 1 := by rw [← hZ]; simp
  rw [hW2] at hx2
  rw [hZ, hW2] at hf
  have hB : Hid (Blk W2 P (pcells p vr vl vh)) := hB1.ext hx2
  replace hi : Hid (Inp W2 p vr vl vh) := hi.ext hf.ext
  have hc2 : ∀ (k : Nat) (x : Int), l[k]? = some x → W2.cell? ⟨b, off + k, none⟩ = some (.int .i64 x) := fun k x h => hf.ext.cell_of (hc k x h)
  replace hc := show Hid _ from hc
  replace hc2 := show Hid _ from hc2
  replace hf := show Hid _ from hf
  clear hB1 hx1 hx2
  go_enter_defers Tryz.func9, Tryz.ntmps9
  go_wp2_with fail
  refine (lent_yes P p vr vl vh b off c l a _ hB.out hi.out hc2.out hok hO).mono ?_
  rintro e w2 ⟨L, rfl, hL, hx2⟩
  replace hf : Hid (Fac w Z w2 (.int .i64 0) 0) := hf.out.on hx2
  have hc3 : Hid (∀ (k : Nat) (x : Int), l[k]? = some x → w2.cell? ⟨b, off + k, none⟩ = some (.int .i64 x)) := fun k x h => hx2.cell_of (hc2.out k x h)
  replace hL : Hid (Lon w2 L P p vr vl vh (.slice (some ⟨b, off, none⟩) l.length c) a) := hL
  clear hx2 hB hbox hone hW1 hW2 hZ hZ2 hb hmf hi hc hc2
  go_wp2_with fail
  refine (lupTo_c _ _ _).mono ?_
  rintro e w3 ⟨rfl, rfl⟩
  rw [hd.out]
  go_wp2_with fail
  refine (need_ok _ _).mono ?_
  rintro e w4 ⟨rfl, rfl⟩
  go_wp2_with fail
  refine (left_v L P p vr vl vh b off c l a x _ hL.out hc3.out hok hO x0.out x1.out).mono ?_
  rintro e w5 ⟨rfl, hx5⟩
  rw [hV.out]
  replace hf : Hid (Fac w Z w5 (.int .i64 0) 0) := hf.out.on hx5
  have gp := hf.out.p; have gq := hf.out.q; have gpz := hf.out.pz; have gqz := hf.out.qz
  clear hx5 hL hc3
  go_wp2
  refine lft_leave_idle w _ Z _ _ _ _ ?_ ?_ ((hf.out.set1 _).set2 _) (fun w3 hx3 => ⟨rfl, ((hf.out.set1 _).set2 _).fin hx3⟩)
  · rfl
  · rfl
set_option maxHeartbeats 2000000 in
theorem Of_steep (p : Prd) (vr vl vh : Value) (b off c : Nat) (l : List Int) (a : Int) (w : World) (hi : Inp w p vr vl vh) (hc : ∀ (k : Nat) (x : Int), l[k]? = some x → w.cell? ⟨b, off + k, none⟩ = some (.int .i64 x)) (hok : okP p = true) (hO : Okl p.tm l a) (hn : 0 < lvl p l a 1000000000000000) :
    Calls Tryz.prog 11 #[.agg (pcells p vr vl vh), .slice (some ⟨b, off, none⟩) l.length c, .int .i64 a] w fun e w' => e = .returned (.tuple #[.int .i64 0, .int .i64 10]) ∧ Ext w w' := by
  replace hn := show Hid _ from hn
  have hone := hi.one
  have hbox := box_prod p vr vl vh hone
  obtain ⟨W1, P, hW1, hb, hx1, hB1⟩ : ∃ W b, w.alloc (.cells (pcells p vr vl vh) 27) = W ∧ w.heap.size = b ∧ Ext w W ∧ Blk W b (pcells p vr vl vh) := ⟨_, _, rfl, rfl, (Ext.refl w).alloc _ _, heap_alloc_last w _⟩
  have hmf := L12.make_func
  have hf := Fac.begin w W1 (.int .i64 0) 2 33 hx1
  have hx2 : Ext W1 ((W1.alloc (.cells #[.int .i64 0] 2)).alloc (.cells #[.int .i64 0] 33)) := ((Ext.refl W1).alloc _ _).alloc _ _
  obtain ⟨Z, hZ⟩ : ∃ Z, W1.heap.size = Z := ⟨_, rfl⟩
  obtain ⟨W2, hW2⟩ : ∃ W2, (W1.alloc (.cells #[.int .i64 0] 2)).alloc (.cells #[.int .i64 0] 33) = W2 := ⟨_, rfl⟩
  have hZ2 : (W1.alloc (.cells #[.int .i64 0] 2)).heap.size = Z + 1 := by rw [← hZ]; simp
  rw [hW2] at hx2
  rw [hZ, hW2] at hf
  have hB : Hid (Blk W2 P (pcells p vr vl vh)) := hB1.ext hx2
  replace hi : Hid (Inp W2 p vr vl vh) := hi.ext hf.ext
  have hc2 : ∀ (k : Nat) (x : Int), l[k]? = some x → W2.cell? ⟨b, off + k, none⟩ = some (.int .i64 x) := fun k x h => hf.ext.cell_of (hc k x h)
  replace hc := show Hid _ from hc
  replace hc2 := show Hid _ from hc2
  replace hf := show Hid _ from hf
  clear hB1 hx1 hx2
  go_enter_defers Tryz.func11, Tryz.ntmps11
  go_wp2_with fail
  refine (lent_yes P p vr vl vh b off c l a _ hB.out hi.out hc2.out hok hO).mono ?_
  rintro e w2 ⟨L, rfl, hL, hx2⟩
  replace hf : Hid (Fac w Z w2 (.int .i64 0) 0) := hf.out.on hx2
  have hc3 : Hid (∀ (k : Nat) (x : Int), l[k]? = some x → w2.cell? ⟨b, off + k, none⟩ = some (.int .i64 x)) := fun k x h => hx2.cell_of (hc2.out k x h)
  replace hL : Hid (Lon w2 L P p vr vl vh (.slice (some ⟨b, off, none⟩) l.length c) a) := hL
  clear hx2 hB hbox hone hW1 hW2 hZ hZ2 hb hmf hi hc hc2
  have hF : Hid (∀ (x : Int) (W : World), 0 ≤ x → x ≤ 1000000000000000 → Ext w2 W → Calls Tryz.prog 22 #[.pointer (some ⟨L, 0, none⟩), .int .i64 x] W fun e w' => e = .returned (.int .i64 (lvl p l a x)) ∧ Ext W w') := fun x W x0 x1 hx => left_v L P p vr vl vh b off c l a x W (hL.out.ext hx) (fun k y h => hx.cell_of (hc3.out k y h)) hok hO x0 x1
  go_wp2_with fail
  refine (least_no L _ _ hF hn.out).mono ?_
  rintro e w5 ⟨rfl, hx5⟩
  replace hf : Hid (Fac w Z w5 (.int .i64 0) 0) := hf.out.on hx5
  clear hx5 hF hL hc3
  go_wp2
  refine lof_leave_catch w _ Z _ _ _ _ _ ?_ ?_ hf.out (fun w3 hx3 => ⟨rfl, hf.out.fin hx3⟩)
  · rfl
  · rfl
set_option maxHeartbeats 2000000 in
theorem Of_yes (p : Prd) (vr vl vh : Value) (b off c : Nat) (l : List Int) (a u : Int) (w : World) (hi : Inp w p vr vl vh) (hc : ∀ (k : Nat) (x : Int), l[k]? = some x → w.cell? ⟨b, off + k, none⟩ = some (.int .i64 x)) (hok : okP p = true) (hO : Okl p.tm l a) (hu : Lst (lvl p l a) u) :
    Calls Tryz.prog 11 #[.agg (pcells p vr vl vh), .slice (some ⟨b, off, none⟩) l.length c, .int .i64 a] w fun e w' => e = .returned (.tuple #[.int .i64 u, .int .i64 0]) ∧ Ext w w' := by
  replace hu := show Hid _ from hu
  have hfal := show Hid _ from lvl_fal hok hO
  have hone := hi.one
  have hbox := box_prod p vr vl vh hone
  obtain ⟨W1, P, hW1, hb, hx1, hB1⟩ : ∃ W b, w.alloc (.cells (pcells p vr vl vh) 27) = W ∧ w.heap.size = b ∧ Ext w W ∧ Blk W b (pcells p vr vl vh) := ⟨_, _, rfl, rfl, (Ext.refl w).alloc _ _, heap_alloc_last w _⟩
  have hmf := L12.make_func
  have hf := Fac.begin w W1 (.int .i64 0) 2 33 hx1
  have hx2 : Ext W1 ((W1.alloc (.cells #[.int .i64 0] 2)).alloc (.cells #[.int .i64 0] 33)) := ((Ext.refl W1).alloc _ _).alloc _ _
  obtain ⟨Z, hZ⟩ : ∃ Z, W1.heap.size = Z := ⟨_, rfl⟩
  obtain ⟨W2, hW2⟩ : ∃ W2, (W1.alloc (.cells #[.int .i64 0] 2)).alloc (.cells #[.int .i64 0] 33) = W2 := ⟨_, rfl⟩
  have hZ2 : (W1.alloc (.cells #[.int .i64 0] 2)).heap.size = Z + 1 := by rw [← hZ]; simp
  rw [hW2] at hx2
  rw [hZ, hW2] at hf
  have hB : Hid (Blk W2 P (pcells p vr vl vh)) := hB1.ext hx2
  replace hi : Hid (Inp W2 p vr vl vh) := hi.ext hf.ext
  have hc2 : ∀ (k : Nat) (x : Int), l[k]? = some x → W2.cell? ⟨b, off + k, none⟩ = some (.int .i64 x) := fun k x h => hf.ext.cell_of (hc k x h)
  replace hc := show Hid _ from hc
  replace hc2 := show Hid _ from hc2
  replace hf := show Hid _ from hf
  clear hB1 hx1 hx2
  go_enter_defers Tryz.func11, Tryz.ntmps11
  go_wp2_with fail
  refine (lent_yes P p vr vl vh b off c l a _ hB.out hi.out hc2.out hok hO).mono ?_
  rintro e w2 ⟨L, rfl, hL, hx2⟩
  replace hf : Hid (Fac w Z w2 (.int .i64 0) 0) := hf.out.on hx2
  have hc3 : Hid (∀ (k : Nat) (x : Int), l[k]? = some x → w2.cell? ⟨b, off + k, none⟩ = some (.int .i64 x)) := fun k x h => hx2.cell_of (hc2.out k x h)
  replace hL : Hid (Lon w2 L P p vr vl vh (.slice (some ⟨b, off, none⟩) l.length c) a) := hL
  clear hx2 hB hbox hone hW1 hW2 hZ hZ2 hb hmf hi hc hc2
  have hF : Hid (∀ (x : Int) (W : World), 0 ≤ x → x ≤ 1000000000000000 → Ext w2 W → Calls Tryz.prog 22 #[.pointer (some ⟨L, 0, none⟩), .int .i64 x] W fun e w' => e = .returned (.int .i64 (lvl p l a x)) ∧ Ext W w') := fun x W x0 x1 hx => left_v L P p vr vl vh b off c l a x W (hL.out.ext hx) (fun k y h => hx.cell_of (hc3.out k y h)) hok hO x0 x1
  go_wp2_with fail
  refine (least_yes L _ u _ hF hu.out hfal.out).mono ?_
  rintro e w5 ⟨rfl, hx5⟩
  clear hF
  replace hf : Hid (Fac w Z w5 (.int .i64 0) 0) := hf.out.on hx5
  have gp := hf.out.p; have gq := hf.out.q; have gpz := hf.out.pz; have gqz := hf.out.qz
  clear hx5 hL hc3
  go_wp2
  refine lof_leave_idle w _ Z _ _ _ _ ?_ ?_ ((hf.out.set1 _).set2 _) (fun w3 hx3 => ⟨rfl, ((hf.out.set1 _).set2 _).fin hx3⟩)
  · rfl
  · rfl
end Go.Proofs.YtafjmpaefikdcaaGreatDoor
