/- The law of orders, a case at a time: no statement of the seat is proved here. -/
import Derived.Test.YtipnchejhjkomaaBnd
import Derived.Deep.Cut
namespace Go.Proofs.Ytipnchejhjkomaa
open Go.RowKit
set_option linter.unusedVariables false

/-- A product that has an order of one's own. -/
theorem lay_order {w W : World} {b : Nat} (hB : Blk W b plainA) (hx : Ext w W) (hb : w.heap.size ≤ b) (a0 a1 a2 a3 : Int) :
    ∃ W2, (((W.setCell ⟨b, 10, none⟩ (.int .i64 a0)).setCell ⟨b, 11, none⟩ (.int .i64 a1)).setCell ⟨b, 12, none⟩ (.int .i64 a2)).setCell ⟨b, 13, none⟩ (.int .i64 a3) = W2 ∧ W2.heap.size = W.heap.size ∧ Blk W2 b #[.string ⟨[104, 111, 109, 101].toArray⟩, .int .i64 2, .int .i64 1, .int .i64 1, .int .i64 1, .int .i64 12, .int .i64 0, .int .i64 60000000, .slice none 0 0, .int .i64 100000000, .int .i64 a0, .int .i64 a1, .int .i64 a2, .int .i64 a3, .int .i64 1, .slice none 0 0, .int .i64 0, .int .i64 1, .slice none 0 0] ∧ Ext w W2 :=
  ⟨_, rfl, by simp, (((hB.set 10 _).set 11 _).set 12 _).set 13 _, (((hx.setCell hb _).setCell hb _).setCell hb _).setCell hb _⟩
theorem lay_roll {w W : World} {b : Nat} (hB : Blk W b plainA) (hx : Ext w W) (hb : w.heap.size ≤ b) :
    ∃ W2, W.setCell ⟨b, 17, none⟩ (.int .i64 2) = W2 ∧ W2.heap.size = W.heap.size ∧ Blk W2 b #[.string ⟨[104, 111, 109, 101].toArray⟩, .int .i64 2, .int .i64 1, .int .i64 1, .int .i64 1, .int .i64 12, .int .i64 0, .int .i64 60000000, .slice none 0 0, .int .i64 100000000, .int .i64 1, .int .i64 2, .int .i64 3, .int .i64 4, .int .i64 1, .slice none 0 0, .int .i64 0, .int .i64 2, .slice none 0 0] ∧ Ext w W2 :=
  ⟨_, rfl, by simp, hB.set 17 _, hx.setCell hb _⟩
theorem chk_order (a b c d : Int) : chkB [104, 111, 109, 101] 2 1 1 1 12 0 60000000 [] 100000000 a b c d 1 [] 0 1 [] = r7B a b c d := by
  have e : chkB [104, 111, 109, 101] 2 1 1 1 12 0 60000000 [] 100000000 a b c d 1 [] 0 1 [] = (true && (true && (true && (true && (true && (true && (true && (r7B a b c d && (true && (true && true)))))))))) := by
    unfold chkB
    rw [show nmb [104, 111, 109, 101] = true by decide +kernel, show r1B 2 1 1 1 1 = true by decide, show r2B 1 = true by decide, show lz 12 1 600 = true by decide, show r4B 1 12 0 = true by decide, show r5B 60000000 100000000 = true by decide, show r6B 12 [] = true by decide, show r8B [] = true by decide, show r9B [].length 0 = true by decide, show r10B 1 [] = true by decide]
  rw [e]; simp
/-- The row of rows that the cases lay beside the product. -/
theorem slp_two {w : World} {b : Nat} {x y u v : Int} {t : TypeId} (h : w.heap[b]? = some (.cells #[.int .i64 x, .int .i64 y, .int .i64 u, .int .i64 v] t (0, 0))) : Slp w (.slice (some ⟨b, 0, none⟩) 2 2) [(x, y), (u, v)] :=
  Or.inr ⟨b, 0, 2, rfl, fun k p q hk => by
    match k, hk with
    | 0, hk =>
      obtain ⟨rfl, rfl⟩ : x = p ∧ y = q := by simpa using hk
      exact ⟨(cell_of_row w b 0 _ _ _ h).trans rfl, (cell_of_row w b 1 _ _ _ h).trans rfl⟩
    | 1, hk =>
      obtain ⟨rfl, rfl⟩ : u = p ∧ v = q := by simpa using hk
      exact ⟨(cell_of_row w b 2 _ _ _ h).trans rfl, (cell_of_row w b 3 _ _ _ h).trans rfl⟩
    | k + 2, hk => simp at hk⟩
theorem slc_one {w : World} {b : Nat} {x : Int} {t : TypeId} (h : w.heap[b]? = some (.cells #[.int .i64 x] t (0, 0))) : Slc w (.slice (some ⟨b, 0, none⟩) 1 1) [x] :=
  Or.inr ⟨b, 0, 1, rfl, fun k p hk => by
    match k, hk with
    | 0, hk => obtain rfl : x = p := by simpa using hk
               exact (cell_of_row w b 0 _ _ _ h).trans rfl
    | k + 1, hk => simp at hk⟩
theorem slc_two {w : World} {b : Nat} {x y : Int} {t : TypeId} (h : w.heap[b]? = some (.cells #[.int .i64 x, .int .i64 y] t (0, 0))) : Slc w (.slice (some ⟨b, 0, none⟩) 2 2) [x, y] :=
  Or.inr ⟨b, 0, 2, rfl, fun k p hk => by
    match k, hk with
    | 0, hk => obtain rfl : x = p := by simpa using hk
               exact (cell_of_row w b 0 _ _ _ h).trans rfl
    | 1, hk => obtain rfl : y = p := by simpa using hk
               exact (cell_of_row w b 1 _ _ _ h).trans rfl
    | k + 2, hk => simp at hk⟩
set_option maxHeartbeats 4000000 in
theorem ord0 (a0 a1 a2 a3 a4 : Int) (w : World) (hR : (IntKind.u64.wrap a4).tmod 6 = 0) :
    Calls Try.prog 5 #[.int .i64 a0, .int .i64 a1, .int .i64 a2, .int .i64 a3, .int .i64 a4] w fun e w' => e = .returned (.bool true) ∧ Ext w w' := by
  have hsz := sz_plain
  go_enter Try.func5, Try.ntmps5
  go_wp2_with fail
  refine (Plain_c _).mono ?_
  rintro e w1 ⟨rfl, hx⟩
  obtain ⟨W0, W1, b, hW0, hb, hs0, hst, hs1, hB, hx1⟩ := lay_plain w1
  have hbw : w.heap.size ≤ b := by have := hx.size; omega
  obtain ⟨W2, hW2, hs2, hB2, hx2⟩ := lay_order hB (hx.trans hx1) hbw a0 a1 a2 a3
  have z10 : W1.cell? ⟨b, 10, none⟩ = some (.int .i64 1) := (cell_of_row _ b 10 _ _ _ hB).trans rfl
  have f10 := frozen_of_row _ b 10 _ _ hB
  have y10 : W2.cell? ⟨b, 10, none⟩ = some (.int .i64 a0) := (cell_of_row _ b 10 _ _ _ hB2).trans rfl
  have z11 : W1.cell? ⟨b, 11, none⟩ = some (.int .i64 2) := (cell_of_row _ b 11 _ _ _ hB).trans rfl
  have f11 := frozen_of_row _ b 11 _ _ hB
  have y11 : W2.cell? ⟨b, 11, none⟩ = some (.int .i64 a1) := (cell_of_row _ b 11 _ _ _ hB2).trans rfl
  have z12 : W1.cell? ⟨b, 12, none⟩ = some (.int .i64 3) := (cell_of_row _ b 12 _ _ _ hB).trans rfl
  have f12 := frozen_of_row _ b 12 _ _ hB
  have y12 : W2.cell? ⟨b, 12, none⟩ = some (.int .i64 a2) := (cell_of_row _ b 12 _ _ _ hB2).trans rfl
  have z13 : W1.cell? ⟨b, 13, none⟩ = some (.int .i64 4) := (cell_of_row _ b 13 _ _ _ hB).trans rfl
  have f13 := frozen_of_row _ b 13 _ _ hB
  have y13 : W2.cell? ⟨b, 13, none⟩ = some (.int .i64 a3) := (cell_of_row _ b 13 _ _ _ hB2).trans rfl
  replace hB2 := show Hid (Blk W2 b _) from hB2
  replace hx2 := show Hid _ from hx2
  clear hx hx1 hB
  go_wp2_with fail
  refine (Order_c _ _ _ _ _).mono ?_
  rintro e w2 ⟨rfl, hx3⟩
  have hlo : b < w2.heap.size := by have := hx3.size; omega
  replace hB2 := show Hid (Blk w2 b _) from hB2.out.ext hx3
  replace hx2 := show Hid (Ext w w2) from hx2.out.trans hx3
  clear hx3 hW0 hs0 hst hW2 hs1 hs2 hb z10 z11 z12 z13 f10 f11 f12 f13 y10 y11 y12 y13
  go_wp2_with fail
  refine (Plain_c _).mono ?_
  rintro e w3 ⟨rfl, hx3⟩
  replace hB2 := show Hid (Blk w3 b _) from hB2.out.ext hx3
  have hlo3 : b < w3.heap.size := by have := hx3.size; omega
  replace hx2 := show Hid (Ext w w3) from hx2.out.trans hx3
  clear hx3 hlo
  obtain ⟨X0, X1, q, hX0, hq, hs0, hst, hs1, hQ, hx1⟩ := lay_plain w3
  have hqw : w3.heap.size ≤ q := by omega
  obtain ⟨X2, hX2, hs2, hQ2, hx3⟩ := lay_roll hQ hx1 hqw
  have z0 : X1.cell? ⟨q, 17, none⟩ = some (.int .i64 1) := (cell_of_row _ q 17 _ _ _ hQ).trans rfl
  have z1 := frozen_of_row _ q 17 _ _ hQ
  have hg : X2.heap.size = q + 1 := by omega
  obtain ⟨X3, hX3, hx4, hrow⟩ : ∃ X3, X2.alloc (.cells #[.int .i64 3, .int .i64 0, .int .i64 3, .int .i64 0] 31) = X3 ∧ Ext X2 X3 ∧ X3.heap[q + 1]? = some (.cells #[.int .i64 3, .int .i64 0, .int .i64 3, .int .i64 0] 31 (0, 0)) := ⟨_, rfl, (Ext.refl X2).alloc _ _, by rw [← hg]; exact heap_alloc_last X2 _⟩
  have hQ3 := hQ2.ext hx4
  have hgq : q + 1 ≠ q := by omega
  have z2 : X3.cell? ⟨q, 8, none⟩ = some (.slice none 0 0) := (cell_of_row _ q 8 _ _ _ hQ3).trans rfl
  have z3 := frozen_of_row _ q 8 _ _ hQ3
  obtain ⟨X4, hX4, hQ4, hrow4, hx5⟩ : ∃ X4, X3.setCell ⟨q, 8, none⟩ (.slice (some ⟨q + 1, 0, none⟩) 2 2) = X4 ∧ Blk X4 q #[.string ⟨[104, 111, 109, 101].toArray⟩, .int .i64 2, .int .i64 1, .int .i64 1, .int .i64 1, .int .i64 12, .int .i64 0, .int .i64 60000000, .slice (some ⟨q + 1, 0, none⟩) 2 2, .int .i64 100000000, .int .i64 1, .int .i64 2, .int .i64 3, .int .i64 4, .int .i64 1, .slice none 0 0, .int .i64 0, .int .i64 2, .slice none 0 0] ∧ X4.heap[q + 1]? = some (.cells #[.int .i64 3, .int .i64 0, .int .i64 3, .int .i64 0] 31 (0, 0)) ∧ Ext w3 X4 :=
    ⟨_, rfl, hQ3.set 8 _, by rw [heap_setCell_other _ _ _ _ hgq]; exact hrow, (hx3.trans hx4).setCell hqw _⟩
  have hS4 := slp_two hrow4
  replace hS4 := show Hid (Slp X4 _ _) from hS4
  replace hQ4 := show Hid (Blk X4 q _) from hQ4
  have hB4 := show Hid (Blk X4 b _) from hB2.out.ext hx5
  have hx4 := show Hid (Ext w X4) from hx2.out.trans hx5
  clear hx5 hx2 hB2 hQ2 hQ3 hrow hrow4 hQ hx1 hx3
  go_wp2_with fail
  refine (awake_c _).mono ?_
  rintro e w5 ⟨rfl, hx5⟩
  replace hB4 := show Hid (Blk w5 b _) from hB4.out.ext hx5
  replace hQ4 := show Hid (Blk w5 q _) from hQ4.out.ext hx5
  replace hS4 := show Hid (Slp w5 _ _) from hS4.out.ext hx5
  replace hx := show Hid (Ext w w5) from hx4.out.trans hx5
  clear hx5 hx4 hg hX0 hs0 hst hX2 hX3 hX4 hs1 hs2 z0 z1 z2 z3 hsz
  obtain ⟨B, hBB⟩ : ∃ B, r7B a0 a1 a2 a3 = B := ⟨_, rfl⟩
  rw [hBB]
  have hE : Hid ((if B then (0 : Int) else 9) = if chkB [104, 111, 109, 101] 2 1 1 1 12 0 60000000 [] 100000000 a0 a1 a2 a3 1 [] 0 1 [] then 0 else 9) := by show _ = _; rw [chk_order, hBB]
  clear hBB
  cases B
  · have hE' : Hid ((9 : Int) = if chkB [104, 111, 109, 101] 2 1 1 1 12 0 60000000 [] 100000000 a0 a1 a2 a3 1 [] 0 1 [] then 0 else 9) := hE.out
    clear hE
    go_wp2_with (refine load27 hB4.out rfl rfl rfl rfl ?_)
    refine (Check_x [104, 111, 109, 101] 2 1 1 1 12 0 60000000 _ [] 100000000 a0 a1 a2 a3 1 _ [] 0 1 _ [] 9 hE'.out _ (by decide) (by decide) (by decide) (by decide) (nilr _) (nilr _) (nilh _)).mono ?_
    rintro e w6 ⟨rfl, hx6⟩
    replace hQ4 := show Hid (Blk w6 q _) from hQ4.out.ext hx6
    replace hS4 := show Hid (Slp w6 _ _) from hS4.out.ext hx6
    replace hx := show Hid (Ext w w6) from hx.out.trans hx6
    clear hx6 hB4
    go_wp2_with (refine load27 hQ4.out rfl rfl rfl rfl ?_)
    refine (Check_x [104, 111, 109, 101] 2 1 1 1 12 0 60000000 _ [(3, 0), (3, 0)] 100000000 1 2 3 4 1 _ [] 0 2 _ [] 9 (by decide +kernel) _ (by decide) (by decide) (by decide) (by decide) (hS4.out) (nilr _) (nilh _)).mono ?_
    rintro e w7 ⟨rfl, hx6⟩
    replace hx := show Hid (Ext w w7) from hx.out.trans hx6
    clear hx6 hQ4 hS4
    go_wp2
    go_ret
    exact ⟨rfl, hx.out⟩
  · have hE' : Hid ((0 : Int) = if chkB [104, 111, 109, 101] 2 1 1 1 12 0 60000000 [] 100000000 a0 a1 a2 a3 1 [] 0 1 [] then 0 else 9) := hE.out
    clear hE
    go_wp2_with (refine load27 hB4.out rfl rfl rfl rfl ?_)
    refine (Check_x [104, 111, 109, 101] 2 1 1 1 12 0 60000000 _ [] 100000000 a0 a1 a2 a3 1 _ [] 0 1 _ [] 0 hE'.out _ (by decide) (by decide) (by decide) (by decide) (nilr _) (nilr _) (nilh _)).mono ?_
    rintro e w6 ⟨rfl, hx6⟩
    replace hQ4 := show Hid (Blk w6 q _) from hQ4.out.ext hx6
    replace hS4 := show Hid (Slp w6 _ _) from hS4.out.ext hx6
    replace hx := show Hid (Ext w w6) from hx.out.trans hx6
    clear hx6 hB4
    go_wp2_with (refine load27 hQ4.out rfl rfl rfl rfl ?_)
    refine (Check_x [104, 111, 109, 101] 2 1 1 1 12 0 60000000 _ [(3, 0), (3, 0)] 100000000 1 2 3 4 1 _ [] 0 2 _ [] 9 (by decide +kernel) _ (by decide) (by decide) (by decide) (by decide) (hS4.out) (nilr _) (nilh _)).mono ?_
    rintro e w7 ⟨rfl, hx6⟩
    replace hx := show Hid (Ext w w7) from hx.out.trans hx6
    clear hx6 hQ4 hS4
    go_wp2
    go_ret
    exact ⟨rfl, hx.out⟩
set_option maxHeartbeats 4000000 in
theorem ord1 (a0 a1 a2 a3 a4 : Int) (w : World) (hR : (IntKind.u64.wrap a4).tmod 6 = 1) :
    Calls Try.prog 5 #[.int .i64 a0, .int .i64 a1, .int .i64 a2, .int .i64 a3, .int .i64 a4] w fun e w' => e = .returned (.bool true) ∧ Ext w w' := by
  have hsz := sz_plain
  go_enter Try.func5, Try.ntmps5
  go_wp2_with fail
  refine (Plain_c _).mono ?_
  rintro e w1 ⟨rfl, hx⟩
  obtain ⟨W0, W1, b, hW0, hb, hs0, hst, hs1, hB, hx1⟩ := lay_plain w1
  have hbw : w.heap.size ≤ b := by have := hx.size; omega
  obtain ⟨W2, hW2, hs2, hB2, hx2⟩ := lay_order hB (hx.trans hx1) hbw a0 a1 a2 a3
  have z10 : W1.cell? ⟨b, 10, none⟩ = some (.int .i64 1) := (cell_of_row _ b 10 _ _ _ hB).trans rfl
  have f10 := frozen_of_row _ b 10 _ _ hB
  have y10 : W2.cell? ⟨b, 10, none⟩ = some (.int .i64 a0) := (cell_of_row _ b 10 _ _ _ hB2).trans rfl
  have z11 : W1.cell? ⟨b, 11, none⟩ = some (.int .i64 2) := (cell_of_row _ b 11 _ _ _ hB).trans rfl
  have f11 := frozen_of_row _ b 11 _ _ hB
  have y11 : W2.cell? ⟨b, 11, none⟩ = some (.int .i64 a1) := (cell_of_row _ b 11 _ _ _ hB2).trans rfl
  have z12 : W1.cell? ⟨b, 12, none⟩ = some (.int .i64 3) := (cell_of_row _ b 12 _ _ _ hB).trans rfl
  have f12 := frozen_of_row _ b 12 _ _ hB
  have y12 : W2.cell? ⟨b, 12, none⟩ = some (.int .i64 a2) := (cell_of_row _ b 12 _ _ _ hB2).trans rfl
  have z13 : W1.cell? ⟨b, 13, none⟩ = some (.int .i64 4) := (cell_of_row _ b 13 _ _ _ hB).trans rfl
  have f13 := frozen_of_row _ b 13 _ _ hB
  have y13 : W2.cell? ⟨b, 13, none⟩ = some (.int .i64 a3) := (cell_of_row _ b 13 _ _ _ hB2).trans rfl
  replace hB2 := show Hid (Blk W2 b _) from hB2
  replace hx2 := show Hid _ from hx2
  clear hx hx1 hB
  go_wp2_with fail
  refine (Order_c _ _ _ _ _).mono ?_
  rintro e w2 ⟨rfl, hx3⟩
  have hlo : b < w2.heap.size := by have := hx3.size; omega
  replace hB2 := show Hid (Blk w2 b _) from hB2.out.ext hx3
  replace hx2 := show Hid (Ext w w2) from hx2.out.trans hx3
  clear hx3 hW0 hs0 hst hW2 hs1 hs2 hb z10 z11 z12 z13 f10 f11 f12 f13 y10 y11 y12 y13
  go_wp2_with fail
  refine (Plain_c _).mono ?_
  rintro e w3 ⟨rfl, hx3⟩
  replace hB2 := show Hid (Blk w3 b _) from hB2.out.ext hx3
  have hlo3 : b < w3.heap.size := by have := hx3.size; omega
  replace hx2 := show Hid (Ext w w3) from hx2.out.trans hx3
  clear hx3 hlo
  obtain ⟨X0, X1, q, hX0, hq, hs0, hst, hs1, hQ, hx1⟩ := lay_plain w3
  have hqw : w3.heap.size ≤ q := by omega
  obtain ⟨X2, hX2, hs2, hQ2, hx3⟩ := lay_roll hQ hx1 hqw
  have z0 : X1.cell? ⟨q, 17, none⟩ = some (.int .i64 1) := (cell_of_row _ q 17 _ _ _ hQ).trans rfl
  have z1 := frozen_of_row _ q 17 _ _ hQ
  have hg : X2.heap.size = q + 1 := by omega
  obtain ⟨X3, hX3, hx4, hrow⟩ : ∃ X3, X2.alloc (.cells #[.int .i64 12, .int .i64 0] 31) = X3 ∧ Ext X2 X3 ∧ X3.heap[q + 1]? = some (.cells #[.int .i64 12, .int .i64 0] 31 (0, 0)) := ⟨_, rfl, (Ext.refl X2).alloc _ _, by rw [← hg]; exact heap_alloc_last X2 _⟩
  have hQ3 := hQ2.ext hx4
  have hgq : q + 1 ≠ q := by omega
  have z2 : X3.cell? ⟨q, 8, none⟩ = some (.slice none 0 0) := (cell_of_row _ q 8 _ _ _ hQ3).trans rfl
  have z3 := frozen_of_row _ q 8 _ _ hQ3
  obtain ⟨X4, hX4, hQ4, hrow4, hx5⟩ : ∃ X4, X3.setCell ⟨q, 8, none⟩ (.slice (some ⟨q + 1, 0, none⟩) 1 1) = X4 ∧ Blk X4 q #[.string ⟨[104, 111, 109, 101].toArray⟩, .int .i64 2, .int .i64 1, .int .i64 1, .int .i64 1, .int .i64 12, .int .i64 0, .int .i64 60000000, .slice (some ⟨q + 1, 0, none⟩) 1 1, .int .i64 100000000, .int .i64 1, .int .i64 2, .int .i64 3, .int .i64 4, .int .i64 1, .slice none 0 0, .int .i64 0, .int .i64 2, .slice none 0 0] ∧ X4.heap[q + 1]? = some (.cells #[.int .i64 12, .int .i64 0] 31 (0, 0)) ∧ Ext w3 X4 :=
    ⟨_, rfl, hQ3.set 8 _, by rw [heap_setCell_other _ _ _ _ hgq]; exact hrow, (hx3.trans hx4).setCell hqw _⟩
  have hS4 := slp_row hrow4
  replace hS4 := show Hid (Slp X4 _ _) from hS4
  replace hQ4 := show Hid (Blk X4 q _) from hQ4
  have hB4 := show Hid (Blk X4 b _) from hB2.out.ext hx5
  have hx4 := show Hid (Ext w X4) from hx2.out.trans hx5
  clear hx5 hx2 hB2 hQ2 hQ3 hrow hrow4 hQ hx1 hx3
  go_wp2_with fail
  refine (awake_c _).mono ?_
  rintro e w5 ⟨rfl, hx5⟩
  replace hB4 := show Hid (Blk w5 b _) from hB4.out.ext hx5
  replace hQ4 := show Hid (Blk w5 q _) from hQ4.out.ext hx5
  replace hS4 := show Hid (Slp w5 _ _) from hS4.out.ext hx5
  replace hx := show Hid (Ext w w5) from hx4.out.trans hx5
  clear hx5 hx4 hg hX0 hs0 hst hX2 hX3 hX4 hs1 hs2 z0 z1 z2 z3 hsz
  obtain ⟨B, hBB⟩ : ∃ B, r7B a0 a1 a2 a3 = B := ⟨_, rfl⟩
  rw [hBB]
  have hE : Hid ((if B then (0 : Int) else 9) = if chkB [104, 111, 109, 101] 2 1 1 1 12 0 60000000 [] 100000000 a0 a1 a2 a3 1 [] 0 1 [] then 0 else 9) := by show _ = _; rw [chk_order, hBB]
  clear hBB
  cases B
  · have hE' : Hid ((9 : Int) = if chkB [104, 111, 109, 101] 2 1 1 1 12 0 60000000 [] 100000000 a0 a1 a2 a3 1 [] 0 1 [] then 0 else 9) := hE.out
    clear hE
    go_wp2_with (refine load27 hB4.out rfl rfl rfl rfl ?_)
    refine (Check_x [104, 111, 109, 101] 2 1 1 1 12 0 60000000 _ [] 100000000 a0 a1 a2 a3 1 _ [] 0 1 _ [] 9 hE'.out _ (by decide) (by decide) (by decide) (by decide) (nilr _) (nilr _) (nilh _)).mono ?_
    rintro e w6 ⟨rfl, hx6⟩
    replace hQ4 := show Hid (Blk w6 q _) from hQ4.out.ext hx6
    replace hS4 := show Hid (Slp w6 _ _) from hS4.out.ext hx6
    replace hx := show Hid (Ext w w6) from hx.out.trans hx6
    clear hx6 hB4
    go_wp2_with (refine load27 hQ4.out rfl rfl rfl rfl ?_)
    refine (Check_x [104, 111, 109, 101] 2 1 1 1 12 0 60000000 _ [(12, 0)] 100000000 1 2 3 4 1 _ [] 0 2 _ [] 9 (by decide +kernel) _ (by decide) (by decide) (by decide) (by decide) (hS4.out) (nilr _) (nilh _)).mono ?_
    rintro e w7 ⟨rfl, hx6⟩
    replace hx := show Hid (Ext w w7) from hx.out.trans hx6
    clear hx6 hQ4 hS4
    go_wp2
    go_ret
    exact ⟨rfl, hx.out⟩
  · have hE' : Hid ((0 : Int) = if chkB [104, 111, 109, 101] 2 1 1 1 12 0 60000000 [] 100000000 a0 a1 a2 a3 1 [] 0 1 [] then 0 else 9) := hE.out
    clear hE
    go_wp2_with (refine load27 hB4.out rfl rfl rfl rfl ?_)
    refine (Check_x [104, 111, 109, 101] 2 1 1 1 12 0 60000000 _ [] 100000000 a0 a1 a2 a3 1 _ [] 0 1 _ [] 0 hE'.out _ (by decide) (by decide) (by decide) (by decide) (nilr _) (nilr _) (nilh _)).mono ?_
    rintro e w6 ⟨rfl, hx6⟩
    replace hQ4 := show Hid (Blk w6 q _) from hQ4.out.ext hx6
    replace hS4 := show Hid (Slp w6 _ _) from hS4.out.ext hx6
    replace hx := show Hid (Ext w w6) from hx.out.trans hx6
    clear hx6 hB4
    go_wp2_with (refine load27 hQ4.out rfl rfl rfl rfl ?_)
    refine (Check_x [104, 111, 109, 101] 2 1 1 1 12 0 60000000 _ [(12, 0)] 100000000 1 2 3 4 1 _ [] 0 2 _ [] 9 (by decide +kernel) _ (by decide) (by decide) (by decide) (by decide) (hS4.out) (nilr _) (nilh _)).mono ?_
    rintro e w7 ⟨rfl, hx6⟩
    replace hx := show Hid (Ext w w7) from hx.out.trans hx6
    clear hx6 hQ4 hS4
    go_wp2
    go_ret
    exact ⟨rfl, hx.out⟩
set_option maxHeartbeats 4000000 in
theorem ord2 (a0 a1 a2 a3 a4 : Int) (w : World) (hR : (IntKind.u64.wrap a4).tmod 6 = 2) :
    Calls Try.prog 5 #[.int .i64 a0, .int .i64 a1, .int .i64 a2, .int .i64 a3, .int .i64 a4] w fun e w' => e = .returned (.bool true) ∧ Ext w w' := by
  have hsz := sz_plain
  go_enter Try.func5, Try.ntmps5
  go_wp2_with fail
  refine (Plain_c _).mono ?_
  rintro e w1 ⟨rfl, hx⟩
  obtain ⟨W0, W1, b, hW0, hb, hs0, hst, hs1, hB, hx1⟩ := lay_plain w1
  have hbw : w.heap.size ≤ b := by have := hx.size; omega
  obtain ⟨W2, hW2, hs2, hB2, hx2⟩ := lay_order hB (hx.trans hx1) hbw a0 a1 a2 a3
  have z10 : W1.cell? ⟨b, 10, none⟩ = some (.int .i64 1) := (cell_of_row _ b 10 _ _ _ hB).trans rfl
  have f10 := frozen_of_row _ b 10 _ _ hB
  have y10 : W2.cell? ⟨b, 10, none⟩ = some (.int .i64 a0) := (cell_of_row _ b 10 _ _ _ hB2).trans rfl
  have z11 : W1.cell? ⟨b, 11, none⟩ = some (.int .i64 2) := (cell_of_row _ b 11 _ _ _ hB).trans rfl
  have f11 := frozen_of_row _ b 11 _ _ hB
  have y11 : W2.cell? ⟨b, 11, none⟩ = some (.int .i64 a1) := (cell_of_row _ b 11 _ _ _ hB2).trans rfl
  have z12 : W1.cell? ⟨b, 12, none⟩ = some (.int .i64 3) := (cell_of_row _ b 12 _ _ _ hB).trans rfl
  have f12 := frozen_of_row _ b 12 _ _ hB
  have y12 : W2.cell? ⟨b, 12, none⟩ = some (.int .i64 a2) := (cell_of_row _ b 12 _ _ _ hB2).trans rfl
  have z13 : W1.cell? ⟨b, 13, none⟩ = some (.int .i64 4) := (cell_of_row _ b 13 _ _ _ hB).trans rfl
  have f13 := frozen_of_row _ b 13 _ _ hB
  have y13 : W2.cell? ⟨b, 13, none⟩ = some (.int .i64 a3) := (cell_of_row _ b 13 _ _ _ hB2).trans rfl
  replace hB2 := show Hid (Blk W2 b _) from hB2
  replace hx2 := show Hid _ from hx2
  clear hx hx1 hB
  go_wp2_with fail
  refine (Order_c _ _ _ _ _).mono ?_
  rintro e w2 ⟨rfl, hx3⟩
  have hlo : b < w2.heap.size := by have := hx3.size; omega
  replace hB2 := show Hid (Blk w2 b _) from hB2.out.ext hx3
  replace hx2 := show Hid (Ext w w2) from hx2.out.trans hx3
  clear hx3 hW0 hs0 hst hW2 hs1 hs2 hb z10 z11 z12 z13 f10 f11 f12 f13 y10 y11 y12 y13
  go_wp2_with fail
  refine (Plain_c _).mono ?_
  rintro e w3 ⟨rfl, hx3⟩
  replace hB2 := show Hid (Blk w3 b _) from hB2.out.ext hx3
  have hlo3 : b < w3.heap.size := by have := hx3.size; omega
  replace hx2 := show Hid (Ext w w3) from hx2.out.trans hx3
  clear hx3 hlo
  obtain ⟨X0, X1, q, hX0, hq, hs0, hst, hs1, hQ, hx1⟩ := lay_plain w3
  have hqw : w3.heap.size ≤ q := by omega
  obtain ⟨X2, hX2, hs2, hQ2, hx3⟩ := lay_roll hQ hx1 hqw
  have z0 : X1.cell? ⟨q, 17, none⟩ = some (.int .i64 1) := (cell_of_row _ q 17 _ _ _ hQ).trans rfl
  have z1 := frozen_of_row _ q 17 _ _ hQ
  have hg : X2.heap.size = q + 1 := by omega
  obtain ⟨X3, hX3, hx4, hrow⟩ : ∃ X3, X2.alloc (.cells #[.int .i64 5, .int .i64 9, .int .i64 6, .int .i64 8] 34) = X3 ∧ Ext X2 X3 ∧ X3.heap[q + 1]? = some (.cells #[.int .i64 5, .int .i64 9, .int .i64 6, .int .i64 8] 34 (0, 0)) := ⟨_, rfl, (Ext.refl X2).alloc _ _, by rw [← hg]; exact heap_alloc_last X2 _⟩
  have hQ3 := hQ2.ext hx4
  have hgq : q + 1 ≠ q := by omega
  have z2 : X3.cell? ⟨q, 15, none⟩ = some (.slice none 0 0) := (cell_of_row _ q 15 _ _ _ hQ3).trans rfl
  have z3 := frozen_of_row _ q 15 _ _ hQ3
  obtain ⟨X4, hX4, hQ4, hrow4, hx5⟩ : ∃ X4, X3.setCell ⟨q, 15, none⟩ (.slice (some ⟨q + 1, 0, none⟩) 2 2) = X4 ∧ Blk X4 q #[.string ⟨[104, 111, 109, 101].toArray⟩, .int .i64 2, .int .i64 1, .int .i64 1, .int .i64 1, .int .i64 12, .int .i64 0, .int .i64 60000000, .slice none 0 0, .int .i64 100000000, .int .i64 1, .int .i64 2, .int .i64 3, .int .i64 4, .int .i64 1, .slice (some ⟨q + 1, 0, none⟩) 2 2, .int .i64 0, .int .i64 2, .slice none 0 0] ∧ X4.heap[q + 1]? = some (.cells #[.int .i64 5, .int .i64 9, .int .i64 6, .int .i64 8] 34 (0, 0)) ∧ Ext w3 X4 :=
    ⟨_, rfl, hQ3.set 15 _, by rw [heap_setCell_other _ _ _ _ hgq]; exact hrow, (hx3.trans hx4).setCell hqw _⟩
  have hS4 := slp_two hrow4
  replace hS4 := show Hid (Slp X4 _ _) from hS4
  replace hQ4 := show Hid (Blk X4 q _) from hQ4
  have hB4 := show Hid (Blk X4 b _) from hB2.out.ext hx5
  have hx4 := show Hid (Ext w X4) from hx2.out.trans hx5
  clear hx5 hx2 hB2 hQ2 hQ3 hrow hrow4 hQ hx1 hx3
  go_wp2_with fail
  refine (awake_c _).mono ?_
  rintro e w5 ⟨rfl, hx5⟩
  replace hB4 := show Hid (Blk w5 b _) from hB4.out.ext hx5
  replace hQ4 := show Hid (Blk w5 q _) from hQ4.out.ext hx5
  replace hS4 := show Hid (Slp w5 _ _) from hS4.out.ext hx5
  replace hx := show Hid (Ext w w5) from hx4.out.trans hx5
  clear hx5 hx4 hg hX0 hs0 hst hX2 hX3 hX4 hs1 hs2 z0 z1 z2 z3 hsz
  obtain ⟨B, hBB⟩ : ∃ B, r7B a0 a1 a2 a3 = B := ⟨_, rfl⟩
  rw [hBB]
  have hE : Hid ((if B then (0 : Int) else 9) = if chkB [104, 111, 109, 101] 2 1 1 1 12 0 60000000 [] 100000000 a0 a1 a2 a3 1 [] 0 1 [] then 0 else 9) := by show _ = _; rw [chk_order, hBB]
  clear hBB
  cases B
  · have hE' : Hid ((9 : Int) = if chkB [104, 111, 109, 101] 2 1 1 1 12 0 60000000 [] 100000000 a0 a1 a2 a3 1 [] 0 1 [] then 0 else 9) := hE.out
    clear hE
    go_wp2_with (refine load27 hB4.out rfl rfl rfl rfl ?_)
    refine (Check_x [104, 111, 109, 101] 2 1 1 1 12 0 60000000 _ [] 100000000 a0 a1 a2 a3 1 _ [] 0 1 _ [] 9 hE'.out _ (by decide) (by decide) (by decide) (by decide) (nilr _) (nilr _) (nilh _)).mono ?_
    rintro e w6 ⟨rfl, hx6⟩
    replace hQ4 := show Hid (Blk w6 q _) from hQ4.out.ext hx6
    replace hS4 := show Hid (Slp w6 _ _) from hS4.out.ext hx6
    replace hx := show Hid (Ext w w6) from hx.out.trans hx6
    clear hx6 hB4
    go_wp2_with (refine load27 hQ4.out rfl rfl rfl rfl ?_)
    refine (Check_x [104, 111, 109, 101] 2 1 1 1 12 0 60000000 _ [] 100000000 1 2 3 4 1 _ [(5, 9), (6, 8)] 0 2 _ [] 9 (by decide +kernel) _ (by decide) (by decide) (by decide) (by decide) (nilr _) (hS4.out) (nilh _)).mono ?_
    rintro e w7 ⟨rfl, hx6⟩
    replace hx := show Hid (Ext w w7) from hx.out.trans hx6
    clear hx6 hQ4 hS4
    go_wp2
    go_ret
    exact ⟨rfl, hx.out⟩
  · have hE' : Hid ((0 : Int) = if chkB [104, 111, 109, 101] 2 1 1 1 12 0 60000000 [] 100000000 a0 a1 a2 a3 1 [] 0 1 [] then 0 else 9) := hE.out
    clear hE
    go_wp2_with (refine load27 hB4.out rfl rfl rfl rfl ?_)
    refine (Check_x [104, 111, 109, 101] 2 1 1 1 12 0 60000000 _ [] 100000000 a0 a1 a2 a3 1 _ [] 0 1 _ [] 0 hE'.out _ (by decide) (by decide) (by decide) (by decide) (nilr _) (nilr _) (nilh _)).mono ?_
    rintro e w6 ⟨rfl, hx6⟩
    replace hQ4 := show Hid (Blk w6 q _) from hQ4.out.ext hx6
    replace hS4 := show Hid (Slp w6 _ _) from hS4.out.ext hx6
    replace hx := show Hid (Ext w w6) from hx.out.trans hx6
    clear hx6 hB4
    go_wp2_with (refine load27 hQ4.out rfl rfl rfl rfl ?_)
    refine (Check_x [104, 111, 109, 101] 2 1 1 1 12 0 60000000 _ [] 100000000 1 2 3 4 1 _ [(5, 9), (6, 8)] 0 2 _ [] 9 (by decide +kernel) _ (by decide) (by decide) (by decide) (by decide) (nilr _) (hS4.out) (nilh _)).mono ?_
    rintro e w7 ⟨rfl, hx6⟩
    replace hx := show Hid (Ext w w7) from hx.out.trans hx6
    clear hx6 hQ4 hS4
    go_wp2
    go_ret
    exact ⟨rfl, hx.out⟩
set_option maxHeartbeats 4000000 in
theorem ord3 (a0 a1 a2 a3 a4 : Int) (w : World) (hR : (IntKind.u64.wrap a4).tmod 6 = 3) :
    Calls Try.prog 5 #[.int .i64 a0, .int .i64 a1, .int .i64 a2, .int .i64 a3, .int .i64 a4] w fun e w' => e = .returned (.bool true) ∧ Ext w w' := by
  have hsz := sz_plain
  go_enter Try.func5, Try.ntmps5
  go_wp2_with fail
  refine (Plain_c _).mono ?_
  rintro e w1 ⟨rfl, hx⟩
  obtain ⟨W0, W1, b, hW0, hb, hs0, hst, hs1, hB, hx1⟩ := lay_plain w1
  have hbw : w.heap.size ≤ b := by have := hx.size; omega
  obtain ⟨W2, hW2, hs2, hB2, hx2⟩ := lay_order hB (hx.trans hx1) hbw a0 a1 a2 a3
  have z10 : W1.cell? ⟨b, 10, none⟩ = some (.int .i64 1) := (cell_of_row _ b 10 _ _ _ hB).trans rfl
  have f10 := frozen_of_row _ b 10 _ _ hB
  have y10 : W2.cell? ⟨b, 10, none⟩ = some (.int .i64 a0) := (cell_of_row _ b 10 _ _ _ hB2).trans rfl
  have z11 : W1.cell? ⟨b, 11, none⟩ = some (.int .i64 2) := (cell_of_row _ b 11 _ _ _ hB).trans rfl
  have f11 := frozen_of_row _ b 11 _ _ hB
  have y11 : W2.cell? ⟨b, 11, none⟩ = some (.int .i64 a1) := (cell_of_row _ b 11 _ _ _ hB2).trans rfl
  have z12 : W1.cell? ⟨b, 12, none⟩ = some (.int .i64 3) := (cell_of_row _ b 12 _ _ _ hB).trans rfl
  have f12 := frozen_of_row _ b 12 _ _ hB
  have y12 : W2.cell? ⟨b, 12, none⟩ = some (.int .i64 a2) := (cell_of_row _ b 12 _ _ _ hB2).trans rfl
  have z13 : W1.cell? ⟨b, 13, none⟩ = some (.int .i64 4) := (cell_of_row _ b 13 _ _ _ hB).trans rfl
  have f13 := frozen_of_row _ b 13 _ _ hB
  have y13 : W2.cell? ⟨b, 13, none⟩ = some (.int .i64 a3) := (cell_of_row _ b 13 _ _ _ hB2).trans rfl
  replace hB2 := show Hid (Blk W2 b _) from hB2
  replace hx2 := show Hid _ from hx2
  clear hx hx1 hB
  go_wp2_with fail
  refine (Order_c _ _ _ _ _).mono ?_
  rintro e w2 ⟨rfl, hx3⟩
  have hlo : b < w2.heap.size := by have := hx3.size; omega
  replace hB2 := show Hid (Blk w2 b _) from hB2.out.ext hx3
  replace hx2 := show Hid (Ext w w2) from hx2.out.trans hx3
  clear hx3 hW0 hs0 hst hW2 hs1 hs2 hb z10 z11 z12 z13 f10 f11 f12 f13 y10 y11 y12 y13
  go_wp2_with fail
  refine (Plain_c _).mono ?_
  rintro e w3 ⟨rfl, hx3⟩
  replace hB2 := show Hid (Blk w3 b _) from hB2.out.ext hx3
  have hlo3 : b < w3.heap.size := by have := hx3.size; omega
  replace hx2 := show Hid (Ext w w3) from hx2.out.trans hx3
  clear hx3 hlo
  obtain ⟨X0, X1, q, hX0, hq, hs0, hst, hs1, hQ, hx1⟩ := lay_plain w3
  have hqw : w3.heap.size ≤ q := by omega
  obtain ⟨X2, hX2, hs2, hQ2, hx3⟩ := lay_roll hQ hx1 hqw
  have z0 : X1.cell? ⟨q, 17, none⟩ = some (.int .i64 1) := (cell_of_row _ q 17 _ _ _ hQ).trans rfl
  have z1 := frozen_of_row _ q 17 _ _ hQ
  have hg : X2.heap.size = q + 1 := by omega
  obtain ⟨X3, hX3, hx4, hrow⟩ : ∃ X3, X2.alloc (.cells #[.int .i64 5, .int .i64 9, .int .i64 5, .int .i64 9] 34) = X3 ∧ Ext X2 X3 ∧ X3.heap[q + 1]? = some (.cells #[.int .i64 5, .int .i64 9, .int .i64 5, .int .i64 9] 34 (0, 0)) := ⟨_, rfl, (Ext.refl X2).alloc _ _, by rw [← hg]; exact heap_alloc_last X2 _⟩
  have hQ3 := hQ2.ext hx4
  have hgq : q + 1 ≠ q := by omega
  have z2 : X3.cell? ⟨q, 15, none⟩ = some (.slice none 0 0) := (cell_of_row _ q 15 _ _ _ hQ3).trans rfl
  have z3 := frozen_of_row _ q 15 _ _ hQ3
  obtain ⟨X4, hX4, hQ4, hrow4, hx5⟩ : ∃ X4, X3.setCell ⟨q, 15, none⟩ (.slice (some ⟨q + 1, 0, none⟩) 2 2) = X4 ∧ Blk X4 q #[.string ⟨[104, 111, 109, 101].toArray⟩, .int .i64 2, .int .i64 1, .int .i64 1, .int .i64 1, .int .i64 12, .int .i64 0, .int .i64 60000000, .slice none 0 0, .int .i64 100000000, .int .i64 1, .int .i64 2, .int .i64 3, .int .i64 4, .int .i64 1, .slice (some ⟨q + 1, 0, none⟩) 2 2, .int .i64 0, .int .i64 2, .slice none 0 0] ∧ X4.heap[q + 1]? = some (.cells #[.int .i64 5, .int .i64 9, .int .i64 5, .int .i64 9] 34 (0, 0)) ∧ Ext w3 X4 :=
    ⟨_, rfl, hQ3.set 15 _, by rw [heap_setCell_other _ _ _ _ hgq]; exact hrow, (hx3.trans hx4).setCell hqw _⟩
  have hS4 := slp_two hrow4
  replace hS4 := show Hid (Slp X4 _ _) from hS4
  replace hQ4 := show Hid (Blk X4 q _) from hQ4
  have hB4 := show Hid (Blk X4 b _) from hB2.out.ext hx5
  have hx4 := show Hid (Ext w X4) from hx2.out.trans hx5
  clear hx5 hx2 hB2 hQ2 hQ3 hrow hrow4 hQ hx1 hx3
  go_wp2_with fail
  refine (awake_c _).mono ?_
  rintro e w5 ⟨rfl, hx5⟩
  replace hB4 := show Hid (Blk w5 b _) from hB4.out.ext hx5
  replace hQ4 := show Hid (Blk w5 q _) from hQ4.out.ext hx5
  replace hS4 := show Hid (Slp w5 _ _) from hS4.out.ext hx5
  replace hx := show Hid (Ext w w5) from hx4.out.trans hx5
  clear hx5 hx4 hg hX0 hs0 hst hX2 hX3 hX4 hs1 hs2 z0 z1 z2 z3 hsz
  obtain ⟨B, hBB⟩ : ∃ B, r7B a0 a1 a2 a3 = B := ⟨_, rfl⟩
  rw [hBB]
  have hE : Hid ((if B then (0 : Int) else 9) = if chkB [104, 111, 109, 101] 2 1 1 1 12 0 60000000 [] 100000000 a0 a1 a2 a3 1 [] 0 1 [] then 0 else 9) := by show _ = _; rw [chk_order, hBB]
  clear hBB
  cases B
  · have hE' : Hid ((9 : Int) = if chkB [104, 111, 109, 101] 2 1 1 1 12 0 60000000 [] 100000000 a0 a1 a2 a3 1 [] 0 1 [] then 0 else 9) := hE.out
    clear hE
    go_wp2_with (refine load27 hB4.out rfl rfl rfl rfl ?_)
    refine (Check_x [104, 111, 109, 101] 2 1 1 1 12 0 60000000 _ [] 100000000 a0 a1 a2 a3 1 _ [] 0 1 _ [] 9 hE'.out _ (by decide) (by decide) (by decide) (by decide) (nilr _) (nilr _) (nilh _)).mono ?_
    rintro e w6 ⟨rfl, hx6⟩
    replace hQ4 := show Hid (Blk w6 q _) from hQ4.out.ext hx6
    replace hS4 := show Hid (Slp w6 _ _) from hS4.out.ext hx6
    replace hx := show Hid (Ext w w6) from hx.out.trans hx6
    clear hx6 hB4
    go_wp2_with (refine load27 hQ4.out rfl rfl rfl rfl ?_)
    refine (Check_x [104, 111, 109, 101] 2 1 1 1 12 0 60000000 _ [] 100000000 1 2 3 4 1 _ [(5, 9), (5, 9)] 0 2 _ [] 9 (by decide +kernel) _ (by decide) (by decide) (by decide) (by decide) (nilr _) (hS4.out) (nilh _)).mono ?_
    rintro e w7 ⟨rfl, hx6⟩
    replace hx := show Hid (Ext w w7) from hx.out.trans hx6
    clear hx6 hQ4 hS4
    go_wp2
    go_ret
    exact ⟨rfl, hx.out⟩
  · have hE' : Hid ((0 : Int) = if chkB [104, 111, 109, 101] 2 1 1 1 12 0 60000000 [] 100000000 a0 a1 a2 a3 1 [] 0 1 [] then 0 else 9) := hE.out
    clear hE
    go_wp2_with (refine load27 hB4.out rfl rfl rfl rfl ?_)
    refine (Check_x [104, 111, 109, 101] 2 1 1 1 12 0 60000000 _ [] 100000000 a0 a1 a2 a3 1 _ [] 0 1 _ [] 0 hE'.out _ (by decide) (by decide) (by decide) (by decide) (nilr _) (nilr _) (nilh _)).mono ?_
    rintro e w6 ⟨rfl, hx6⟩
    replace hQ4 := show Hid (Blk w6 q _) from hQ4.out.ext hx6
    replace hS4 := show Hid (Slp w6 _ _) from hS4.out.ext hx6
    replace hx := show Hid (Ext w w6) from hx.out.trans hx6
    clear hx6 hB4
    go_wp2_with (refine load27 hQ4.out rfl rfl rfl rfl ?_)
    refine (Check_x [104, 111, 109, 101] 2 1 1 1 12 0 60000000 _ [] 100000000 1 2 3 4 1 _ [(5, 9), (5, 9)] 0 2 _ [] 9 (by decide +kernel) _ (by decide) (by decide) (by decide) (by decide) (nilr _) (hS4.out) (nilh _)).mono ?_
    rintro e w7 ⟨rfl, hx6⟩
    replace hx := show Hid (Ext w w7) from hx.out.trans hx6
    clear hx6 hQ4 hS4
    go_wp2
    go_ret
    exact ⟨rfl, hx.out⟩
set_option maxHeartbeats 4000000 in
theorem ord4 (a0 a1 a2 a3 a4 : Int) (w : World) (hR : (IntKind.u64.wrap a4).tmod 6 = 4) :
    Calls Try.prog 5 #[.int .i64 a0, .int .i64 a1, .int .i64 a2, .int .i64 a3, .int .i64 a4] w fun e w' => e = .returned (.bool true) ∧ Ext w w' := by
  have hsz := sz_plain
  go_enter Try.func5, Try.ntmps5
  go_wp2_with fail
  refine (Plain_c _).mono ?_
  rintro e w1 ⟨rfl, hx⟩
  obtain ⟨W0, W1, b, hW0, hb, hs0, hst, hs1, hB, hx1⟩ := lay_plain w1
  have hbw : w.heap.size ≤ b := by have := hx.size; omega
  obtain ⟨W2, hW2, hs2, hB2, hx2⟩ := lay_order hB (hx.trans hx1) hbw a0 a1 a2 a3
  have z10 : W1.cell? ⟨b, 10, none⟩ = some (.int .i64 1) := (cell_of_row _ b 10 _ _ _ hB).trans rfl
  have f10 := frozen_of_row _ b 10 _ _ hB
  have y10 : W2.cell? ⟨b, 10, none⟩ = some (.int .i64 a0) := (cell_of_row _ b 10 _ _ _ hB2).trans rfl
  have z11 : W1.cell? ⟨b, 11, none⟩ = some (.int .i64 2) := (cell_of_row _ b 11 _ _ _ hB).trans rfl
  have f11 := frozen_of_row _ b 11 _ _ hB
  have y11 : W2.cell? ⟨b, 11, none⟩ = some (.int .i64 a1) := (cell_of_row _ b 11 _ _ _ hB2).trans rfl
  have z12 : W1.cell? ⟨b, 12, none⟩ = some (.int .i64 3) := (cell_of_row _ b 12 _ _ _ hB).trans rfl
  have f12 := frozen_of_row _ b 12 _ _ hB
  have y12 : W2.cell? ⟨b, 12, none⟩ = some (.int .i64 a2) := (cell_of_row _ b 12 _ _ _ hB2).trans rfl
  have z13 : W1.cell? ⟨b, 13, none⟩ = some (.int .i64 4) := (cell_of_row _ b 13 _ _ _ hB).trans rfl
  have f13 := frozen_of_row _ b 13 _ _ hB
  have y13 : W2.cell? ⟨b, 13, none⟩ = some (.int .i64 a3) := (cell_of_row _ b 13 _ _ _ hB2).trans rfl
  replace hB2 := show Hid (Blk W2 b _) from hB2
  replace hx2 := show Hid _ from hx2
  clear hx hx1 hB
  go_wp2_with fail
  refine (Order_c _ _ _ _ _).mono ?_
  rintro e w2 ⟨rfl, hx3⟩
  have hlo : b < w2.heap.size := by have := hx3.size; omega
  replace hB2 := show Hid (Blk w2 b _) from hB2.out.ext hx3
  replace hx2 := show Hid (Ext w w2) from hx2.out.trans hx3
  clear hx3 hW0 hs0 hst hW2 hs1 hs2 hb z10 z11 z12 z13 f10 f11 f12 f13 y10 y11 y12 y13
  go_wp2_with fail
  refine (Plain_c _).mono ?_
  rintro e w3 ⟨rfl, hx3⟩
  replace hB2 := show Hid (Blk w3 b _) from hB2.out.ext hx3
  have hlo3 : b < w3.heap.size := by have := hx3.size; omega
  replace hx2 := show Hid (Ext w w3) from hx2.out.trans hx3
  clear hx3 hlo
  obtain ⟨X0, X1, q, hX0, hq, hs0, hst, hs1, hQ, hx1⟩ := lay_plain w3
  have hqw : w3.heap.size ≤ q := by omega
  obtain ⟨X2, hX2, hs2, hQ2, hx3⟩ := lay_roll hQ hx1 hqw
  have z0 : X1.cell? ⟨q, 17, none⟩ = some (.int .i64 1) := (cell_of_row _ q 17 _ _ _ hQ).trans rfl
  have z1 := frozen_of_row _ q 17 _ _ hQ
  have hg : X2.heap.size = q + 1 := by omega
  obtain ⟨X3, hX3, hx4, hrow⟩ : ∃ X3, X2.alloc (.cells #[.int .i64 5, .int .i64 5] 3) = X3 ∧ Ext X2 X3 ∧ X3.heap[q + 1]? = some (.cells #[.int .i64 5, .int .i64 5] 3 (0, 0)) := ⟨_, rfl, (Ext.refl X2).alloc _ _, by rw [← hg]; exact heap_alloc_last X2 _⟩
  have hQ3 := hQ2.ext hx4
  have hgq : q + 1 ≠ q := by omega
  have z2 : X3.cell? ⟨q, 18, none⟩ = some (.slice none 0 0) := (cell_of_row _ q 18 _ _ _ hQ3).trans rfl
  have z3 := frozen_of_row _ q 18 _ _ hQ3
  obtain ⟨X4, hX4, hQ4, hrow4, hx5⟩ : ∃ X4, X3.setCell ⟨q, 18, none⟩ (.slice (some ⟨q + 1, 0, none⟩) 2 2) = X4 ∧ Blk X4 q #[.string ⟨[104, 111, 109, 101].toArray⟩, .int .i64 2, .int .i64 1, .int .i64 1, .int .i64 1, .int .i64 12, .int .i64 0, .int .i64 60000000, .slice none 0 0, .int .i64 100000000, .int .i64 1, .int .i64 2, .int .i64 3, .int .i64 4, .int .i64 1, .slice none 0 0, .int .i64 0, .int .i64 2, .slice (some ⟨q + 1, 0, none⟩) 2 2] ∧ X4.heap[q + 1]? = some (.cells #[.int .i64 5, .int .i64 5] 3 (0, 0)) ∧ Ext w3 X4 :=
    ⟨_, rfl, hQ3.set 18 _, by rw [heap_setCell_other _ _ _ _ hgq]; exact hrow, (hx3.trans hx4).setCell hqw _⟩
  have hS4 := slc_two hrow4
  replace hS4 := show Hid (Slc X4 _ _) from hS4
  replace hQ4 := show Hid (Blk X4 q _) from hQ4
  have hB4 := show Hid (Blk X4 b _) from hB2.out.ext hx5
  have hx4 := show Hid (Ext w X4) from hx2.out.trans hx5
  clear hx5 hx2 hB2 hQ2 hQ3 hrow hrow4 hQ hx1 hx3
  go_wp2_with fail
  refine (awake_c _).mono ?_
  rintro e w5 ⟨rfl, hx5⟩
  replace hB4 := show Hid (Blk w5 b _) from hB4.out.ext hx5
  replace hQ4 := show Hid (Blk w5 q _) from hQ4.out.ext hx5
  replace hS4 := show Hid (Slc w5 _ _) from hS4.out.ext hx5
  replace hx := show Hid (Ext w w5) from hx4.out.trans hx5
  clear hx5 hx4 hg hX0 hs0 hst hX2 hX3 hX4 hs1 hs2 z0 z1 z2 z3 hsz
  obtain ⟨B, hBB⟩ : ∃ B, r7B a0 a1 a2 a3 = B := ⟨_, rfl⟩
  rw [hBB]
  have hE : Hid ((if B then (0 : Int) else 9) = if chkB [104, 111, 109, 101] 2 1 1 1 12 0 60000000 [] 100000000 a0 a1 a2 a3 1 [] 0 1 [] then 0 else 9) := by show _ = _; rw [chk_order, hBB]
  clear hBB
  cases B
  · have hE' : Hid ((9 : Int) = if chkB [104, 111, 109, 101] 2 1 1 1 12 0 60000000 [] 100000000 a0 a1 a2 a3 1 [] 0 1 [] then 0 else 9) := hE.out
    clear hE
    go_wp2_with (refine load27 hB4.out rfl rfl rfl rfl ?_)
    refine (Check_x [104, 111, 109, 101] 2 1 1 1 12 0 60000000 _ [] 100000000 a0 a1 a2 a3 1 _ [] 0 1 _ [] 9 hE'.out _ (by decide) (by decide) (by decide) (by decide) (nilr _) (nilr _) (nilh _)).mono ?_
    rintro e w6 ⟨rfl, hx6⟩
    replace hQ4 := show Hid (Blk w6 q _) from hQ4.out.ext hx6
    replace hS4 := show Hid (Slc w6 _ _) from hS4.out.ext hx6
    replace hx := show Hid (Ext w w6) from hx.out.trans hx6
    clear hx6 hB4
    go_wp2_with (refine load27 hQ4.out rfl rfl rfl rfl ?_)
    refine (Check_x [104, 111, 109, 101] 2 1 1 1 12 0 60000000 _ [] 100000000 1 2 3 4 1 _ [] 0 2 _ [5, 5] 9 (by decide +kernel) _ (by decide) (by decide) (by decide) (by decide) (nilr _) (nilr _) (hS4.out)).mono ?_
    rintro e w7 ⟨rfl, hx6⟩
    replace hx := show Hid (Ext w w7) from hx.out.trans hx6
    clear hx6 hQ4 hS4
    go_wp2
    go_ret
    exact ⟨rfl, hx.out⟩
  · have hE' : Hid ((0 : Int) = if chkB [104, 111, 109, 101] 2 1 1 1 12 0 60000000 [] 100000000 a0 a1 a2 a3 1 [] 0 1 [] then 0 else 9) := hE.out
    clear hE
    go_wp2_with (refine load27 hB4.out rfl rfl rfl rfl ?_)
    refine (Check_x [104, 111, 109, 101] 2 1 1 1 12 0 60000000 _ [] 100000000 a0 a1 a2 a3 1 _ [] 0 1 _ [] 0 hE'.out _ (by decide) (by decide) (by decide) (by decide) (nilr _) (nilr _) (nilh _)).mono ?_
    rintro e w6 ⟨rfl, hx6⟩
    replace hQ4 := show Hid (Blk w6 q _) from hQ4.out.ext hx6
    replace hS4 := show Hid (Slc w6 _ _) from hS4.out.ext hx6
    replace hx := show Hid (Ext w w6) from hx.out.trans hx6
    clear hx6 hB4
    go_wp2_with (refine load27 hQ4.out rfl rfl rfl rfl ?_)
    refine (Check_x [104, 111, 109, 101] 2 1 1 1 12 0 60000000 _ [] 100000000 1 2 3 4 1 _ [] 0 2 _ [5, 5] 9 (by decide +kernel) _ (by decide) (by decide) (by decide) (by decide) (nilr _) (nilr _) (hS4.out)).mono ?_
    rintro e w7 ⟨rfl, hx6⟩
    replace hx := show Hid (Ext w w7) from hx.out.trans hx6
    clear hx6 hQ4 hS4
    go_wp2
    go_ret
    exact ⟨rfl, hx.out⟩
set_option maxHeartbeats 4000000 in
theorem ord5 (a0 a1 a2 a3 a4 : Int) (w : World) (hR : (IntKind.u64.wrap a4).tmod 6 = 5) :
    Calls Try.prog 5 #[.int .i64 a0, .int .i64 a1, .int .i64 a2, .int .i64 a3, .int .i64 a4] w fun e w' => e = .returned (.bool true) ∧ Ext w w' := by
  have hsz := sz_plain
  go_enter Try.func5, Try.ntmps5
  go_wp2_with fail
  refine (Plain_c _).mono ?_
  rintro e w1 ⟨rfl, hx⟩
  obtain ⟨W0, W1, b, hW0, hb, hs0, hst, hs1, hB, hx1⟩ := lay_plain w1
  have hbw : w.heap.size ≤ b := by have := hx.size; omega
  obtain ⟨W2, hW2, hs2, hB2, hx2⟩ := lay_order hB (hx.trans hx1) hbw a0 a1 a2 a3
  have z10 : W1.cell? ⟨b, 10, none⟩ = some (.int .i64 1) := (cell_of_row _ b 10 _ _ _ hB).trans rfl
  have f10 := frozen_of_row _ b 10 _ _ hB
  have y10 : W2.cell? ⟨b, 10, none⟩ = some (.int .i64 a0) := (cell_of_row _ b 10 _ _ _ hB2).trans rfl
  have z11 : W1.cell? ⟨b, 11, none⟩ = some (.int .i64 2) := (cell_of_row _ b 11 _ _ _ hB).trans rfl
  have f11 := frozen_of_row _ b 11 _ _ hB
  have y11 : W2.cell? ⟨b, 11, none⟩ = some (.int .i64 a1) := (cell_of_row _ b 11 _ _ _ hB2).trans rfl
  have z12 : W1.cell? ⟨b, 12, none⟩ = some (.int .i64 3) := (cell_of_row _ b 12 _ _ _ hB).trans rfl
  have f12 := frozen_of_row _ b 12 _ _ hB
  have y12 : W2.cell? ⟨b, 12, none⟩ = some (.int .i64 a2) := (cell_of_row _ b 12 _ _ _ hB2).trans rfl
  have z13 : W1.cell? ⟨b, 13, none⟩ = some (.int .i64 4) := (cell_of_row _ b 13 _ _ _ hB).trans rfl
  have f13 := frozen_of_row _ b 13 _ _ hB
  have y13 : W2.cell? ⟨b, 13, none⟩ = some (.int .i64 a3) := (cell_of_row _ b 13 _ _ _ hB2).trans rfl
  replace hB2 := show Hid (Blk W2 b _) from hB2
  replace hx2 := show Hid _ from hx2
  clear hx hx1 hB
  go_wp2_with fail
  refine (Order_c _ _ _ _ _).mono ?_
  rintro e w2 ⟨rfl, hx3⟩
  have hlo : b < w2.heap.size := by have := hx3.size; omega
  replace hB2 := show Hid (Blk w2 b _) from hB2.out.ext hx3
  replace hx2 := show Hid (Ext w w2) from hx2.out.trans hx3
  clear hx3 hW0 hs0 hst hW2 hs1 hs2 hb z10 z11 z12 z13 f10 f11 f12 f13 y10 y11 y12 y13
  go_wp2_with fail
  refine (Plain_c _).mono ?_
  rintro e w3 ⟨rfl, hx3⟩
  replace hB2 := show Hid (Blk w3 b _) from hB2.out.ext hx3
  have hlo3 : b < w3.heap.size := by have := hx3.size; omega
  replace hx2 := show Hid (Ext w w3) from hx2.out.trans hx3
  clear hx3 hlo
  obtain ⟨X0, X1, q, hX0, hq, hs0, hst, hs1, hQ, hx1⟩ := lay_plain w3
  have hqw : w3.heap.size ≤ q := by omega
  obtain ⟨X2, hX2, hs2, hQ2, hx3⟩ := lay_roll hQ hx1 hqw
  have z0 : X1.cell? ⟨q, 17, none⟩ = some (.int .i64 1) := (cell_of_row _ q 17 _ _ _ hQ).trans rfl
  have z1 := frozen_of_row _ q 17 _ _ hQ
  have hg : X2.heap.size = q + 1 := by omega
  obtain ⟨X3, hX3, hx4, hrow⟩ : ∃ X3, X2.alloc (.cells #[.int .i64 5] 3) = X3 ∧ Ext X2 X3 ∧ X3.heap[q + 1]? = some (.cells #[.int .i64 5] 3 (0, 0)) := ⟨_, rfl, (Ext.refl X2).alloc _ _, by rw [← hg]; exact heap_alloc_last X2 _⟩
  have hQ3 := hQ2.ext hx4
  have hgq : q + 1 ≠ q := by omega
  have z2 : X3.cell? ⟨q, 17, none⟩ = some (.int .i64 2) := (cell_of_row _ q 17 _ _ _ hQ3).trans rfl
  have z3 := frozen_of_row _ q 17 _ _ hQ3
  have hQ3a := hQ3.set 17 (.int .i64 1)
  have z4 : (X3.setCell ⟨q, 17, none⟩ (.int .i64 1)).cell? ⟨q, 18, none⟩ = some (.slice none 0 0) := (cell_of_row _ q 18 _ _ _ hQ3a).trans rfl
  have z5 := frozen_of_row _ q 18 _ _ hQ3a
  obtain ⟨X4, hX4, hQ4, hrow4, hx5⟩ : ∃ X4, (X3.setCell ⟨q, 17, none⟩ (.int .i64 1)).setCell ⟨q, 18, none⟩ (.slice (some ⟨q + 1, 0, none⟩) 1 1) = X4 ∧ Blk X4 q #[.string ⟨[104, 111, 109, 101].toArray⟩, .int .i64 2, .int .i64 1, .int .i64 1, .int .i64 1, .int .i64 12, .int .i64 0, .int .i64 60000000, .slice none 0 0, .int .i64 100000000, .int .i64 1, .int .i64 2, .int .i64 3, .int .i64 4, .int .i64 1, .slice none 0 0, .int .i64 0, .int .i64 1, .slice (some ⟨q + 1, 0, none⟩) 1 1] ∧ X4.heap[q + 1]? = some (.cells #[.int .i64 5] 3 (0, 0)) ∧ Ext w3 X4 :=
    ⟨_, rfl, hQ3a.set 18 _, by rw [heap_setCell_other _ _ _ _ hgq, heap_setCell_other _ _ _ _ hgq]; exact hrow, ((hx3.trans hx4).setCell hqw _).setCell hqw _⟩
  have hS4 := slc_one hrow4
  replace hS4 := show Hid (Slc X4 _ _) from hS4
  replace hQ4 := show Hid (Blk X4 q _) from hQ4
  have hB4 := show Hid (Blk X4 b _) from hB2.out.ext hx5
  have hx4 := show Hid (Ext w X4) from hx2.out.trans hx5
  clear hx5 hx2 hB2 hQ2 hQ3 hrow hrow4 hQ hx1 hx3 hQ3a
  go_wp2_with fail
  refine (awake_c _).mono ?_
  rintro e w5 ⟨rfl, hx5⟩
  replace hB4 := show Hid (Blk w5 b _) from hB4.out.ext hx5
  replace hQ4 := show Hid (Blk w5 q _) from hQ4.out.ext hx5
  replace hS4 := show Hid (Slc w5 _ _) from hS4.out.ext hx5
  replace hx := show Hid (Ext w w5) from hx4.out.trans hx5
  clear hx5 hx4 hg hX0 hs0 hst hX2 hX3 hX4 hs1 hs2 z0 z1 z2 z3 z4 z5 hsz
  obtain ⟨B, hBB⟩ : ∃ B, r7B a0 a1 a2 a3 = B := ⟨_, rfl⟩
  rw [hBB]
  have hE : Hid ((if B then (0 : Int) else 9) = if chkB [104, 111, 109, 101] 2 1 1 1 12 0 60000000 [] 100000000 a0 a1 a2 a3 1 [] 0 1 [] then 0 else 9) := by show _ = _; rw [chk_order, hBB]
  clear hBB
  cases B
  · have hE' : Hid ((9 : Int) = if chkB [104, 111, 109, 101] 2 1 1 1 12 0 60000000 [] 100000000 a0 a1 a2 a3 1 [] 0 1 [] then 0 else 9) := hE.out
    clear hE
    go_wp2_with (refine load27 hB4.out rfl rfl rfl rfl ?_)
    refine (Check_x [104, 111, 109, 101] 2 1 1 1 12 0 60000000 _ [] 100000000 a0 a1 a2 a3 1 _ [] 0 1 _ [] 9 hE'.out _ (by decide) (by decide) (by decide) (by decide) (nilr _) (nilr _) (nilh _)).mono ?_
    rintro e w6 ⟨rfl, hx6⟩
    replace hQ4 := show Hid (Blk w6 q _) from hQ4.out.ext hx6
    replace hS4 := show Hid (Slc w6 _ _) from hS4.out.ext hx6
    replace hx := show Hid (Ext w w6) from hx.out.trans hx6
    clear hx6 hB4
    go_wp2_with (refine load27 hQ4.out rfl rfl rfl rfl ?_)
    refine (Check_x [104, 111, 109, 101] 2 1 1 1 12 0 60000000 _ [] 100000000 1 2 3 4 1 _ [] 0 1 _ [5] 9 (by decide +kernel) _ (by decide) (by decide) (by decide) (by decide) (nilr _) (nilr _) (hS4.out)).mono ?_
    rintro e w7 ⟨rfl, hx6⟩
    replace hx := show Hid (Ext w w7) from hx.out.trans hx6
    clear hx6 hQ4 hS4
    go_wp2
    go_ret
    exact ⟨rfl, hx.out⟩
  · have hE' : Hid ((0 : Int) = if chkB [104, 111, 109, 101] 2 1 1 1 12 0 60000000 [] 100000000 a0 a1 a2 a3 1 [] 0 1 [] then 0 else 9) := hE.out
    clear hE
    go_wp2_with (refine load27 hB4.out rfl rfl rfl rfl ?_)
    refine (Check_x [104, 111, 109, 101] 2 1 1 1 12 0 60000000 _ [] 100000000 a0 a1 a2 a3 1 _ [] 0 1 _ [] 0 hE'.out _ (by decide) (by decide) (by decide) (by decide) (nilr _) (nilr _) (nilh _)).mono ?_
    rintro e w6 ⟨rfl, hx6⟩
    replace hQ4 := show Hid (Blk w6 q _) from hQ4.out.ext hx6
    replace hS4 := show Hid (Slc w6 _ _) from hS4.out.ext hx6
    replace hx := show Hid (Ext w w6) from hx.out.trans hx6
    clear hx6 hB4
    go_wp2_with (refine load27 hQ4.out rfl rfl rfl rfl ?_)
    refine (Check_x [104, 111, 109, 101] 2 1 1 1 12 0 60000000 _ [] 100000000 1 2 3 4 1 _ [] 0 1 _ [5] 9 (by decide +kernel) _ (by decide) (by decide) (by decide) (by decide) (nilr _) (nilr _) (hS4.out)).mono ?_
    rintro e w7 ⟨rfl, hx6⟩
    replace hx := show Hid (Ext w w7) from hx.out.trans hx6
    clear hx6 hQ4 hS4
    go_wp2
    go_ret
    exact ⟨rfl, hx.out⟩
end Go.Proofs.Ytipnchejhjkomaa
