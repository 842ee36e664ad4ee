/- The law of bounds, a number at a time: no statement of the seat is proved here. -/
import Derived.Test.YtipnchejhjkomaaBnd
import Derived.Deep.Cut
namespace Go.Proofs.Ytipnchejhjkomaa
open Go.RowKit
set_option linter.unusedVariables false

theorem wrap_u64 (x : Int) : 0 ≤ IntKind.u64.wrap x ∧ IntKind.u64.wrap x < 18446744073709551616 := by
  simp only [IntKind.wrap, IntKind.signed, IntKind.bits]
  constructor
  · exact Int.emod_nonneg _ (by decide)
  · exact Int.emod_lt_of_pos _ (by decide)
set_option maxHeartbeats 4000000 in
theorem bnd0 (a0 : Int) (a1 a2 : Bool) (w : World) (hR : (IntKind.u64.wrap a0).tmod 10 = 0) :
    Calls Try.prog 4 #[.int .i64 a0, .bool a1, .bool a2] w fun e w' => e = .returned (.bool true) ∧ Ext w w' := by
  have hsz := sz_plain
  go_enter Try.func4, Try.ntmps4
  go_wp2_with fail
  refine (Plain_c _).mono ?_
  rintro e w1 ⟨rfl, hx⟩
  obtain ⟨W0, W1, b, hW0, hb, hs0, hst, hs1, hB, hx1⟩ := lay_plain w1
  obtain ⟨W2, W3, hW2, k0, k1, hW3, hB3, hT3, hx3⟩ := lay_tier hs1 hB hx1 (by omega)
  have hbw : w.heap.size ≤ b := by have := hx.size; omega
  replace hx3 := hx.trans hx3
  clear hx hx1 hB
  go_upto_region 3 with fail
  clear hW0 hb hs0 hst hW2 k0 k1 hW3 hs1 hsz
  cases a1 <;> cases a2
  · have hB4 : Blk (W3.setCell ⟨b, 1, none⟩ (.int .i64 1)) b #[.string ⟨[104, 111, 109, 101].toArray⟩, .int .i64 1, .int .i64 1, .int .i64 1, .int .i64 1, .int .i64 12, .int .i64 0, .int .i64 60000000, .slice none 0 0, .int .i64 100000000, .int .i64 1, .int .i64 2, .int .i64 3, .int .i64 4, .int .i64 1, .slice (some ⟨b + 1, 0, none⟩) 1 1, .int .i64 0, .int .i64 1, .slice none 0 0] := hB3.set 1 _
    have hT4 : (W3.setCell ⟨b, 1, none⟩ (.int .i64 1)).heap[b + 1]? = some (.cells #[.int .i64 5, .int .i64 5] 34 (0, 0)) := by rw [heap_setCell_other _ _ _ _ (by show b + 1 ≠ b; omega)]; exact hT3
    have hx4 : Ext w (W3.setCell ⟨b, 1, none⟩ (.int .i64 1)) := hx3.setCell hbw _
    obtain ⟨W4, hW4⟩ : ∃ W, W3.setCell ⟨b, 1, none⟩ (.int .i64 1) = W := ⟨_, rfl⟩
    rw [hW4] at hB4 hT4 hx4
    have j0 : W3.cell? ⟨b, 1, none⟩ = some (.int .i64 2) := (cell_of_row _ b 1 _ _ _ hB3).trans rfl
    have j1 := frozen_of_row _ b 1 _ _ hB3
    have hS4 := slp_row hT4
    replace hS4 := show Hid (Slp W4 _ _) from hS4
    replace hB4 := show Hid (Blk W4 b _) from hB4
    replace hx4 := show Hid _ from hx4
    clear hT4 hB3 hT3 hx3
    go_wp2_with fail
    refine (awake_c _).mono ?_
    rintro e w5 ⟨rfl, hx5⟩
    replace hB4 := show Hid (Blk w5 b _) from hB4.out.ext hx5
    replace hS4 := show Hid (Slp w5 _ _) from hS4.out.ext hx5
    replace hx := show Hid (Ext w w5) from hx4.out.trans hx5
    clear hx4 hx5 hW4 j0 j1
    go_wp2_with (refine load27 hB4.out rfl rfl rfl rfl ?_)
    refine (Check_x [104, 111, 109, 101] 1 1 1 1 12 0 60000000 _ [] 100000000 1 2 3 4 1 _ [(5, 5)] 0 1 _ [] 0 (by decide +kernel) _ (by decide) (by decide) (by decide) (by decide) (nilr _) hS4.out (nilh _)).mono ?_
    rintro e w6 ⟨rfl, hx6⟩
    replace hx := show Hid (Ext w w6) from hx.out.trans hx6
    clear hx6 hB4 hS4
    go_wp2
    go_ret
    exact ⟨rfl, hx.out⟩
  · have hB4 : Blk (W3.setCell ⟨b, 1, none⟩ (.int .i64 0)) b #[.string ⟨[104, 111, 109, 101].toArray⟩, .int .i64 0, .int .i64 1, .int .i64 1, .int .i64 1, .int .i64 12, .int .i64 0, .int .i64 60000000, .slice none 0 0, .int .i64 100000000, .int .i64 1, .int .i64 2, .int .i64 3, .int .i64 4, .int .i64 1, .slice (some ⟨b + 1, 0, none⟩) 1 1, .int .i64 0, .int .i64 1, .slice none 0 0] := hB3.set 1 _
    have hT4 : (W3.setCell ⟨b, 1, none⟩ (.int .i64 0)).heap[b + 1]? = some (.cells #[.int .i64 5, .int .i64 5] 34 (0, 0)) := by rw [heap_setCell_other _ _ _ _ (by show b + 1 ≠ b; omega)]; exact hT3
    have hx4 : Ext w (W3.setCell ⟨b, 1, none⟩ (.int .i64 0)) := hx3.setCell hbw _
    obtain ⟨W4, hW4⟩ : ∃ W, W3.setCell ⟨b, 1, none⟩ (.int .i64 0) = W := ⟨_, rfl⟩
    rw [hW4] at hB4 hT4 hx4
    have j0 : W3.cell? ⟨b, 1, none⟩ = some (.int .i64 2) := (cell_of_row _ b 1 _ _ _ hB3).trans rfl
    have j1 := frozen_of_row _ b 1 _ _ hB3
    have hS4 := slp_row hT4
    replace hS4 := show Hid (Slp W4 _ _) from hS4
    replace hB4 := show Hid (Blk W4 b _) from hB4
    replace hx4 := show Hid _ from hx4
    clear hT4 hB3 hT3 hx3
    go_wp2_with fail
    refine (awake_c _).mono ?_
    rintro e w5 ⟨rfl, hx5⟩
    replace hB4 := show Hid (Blk w5 b _) from hB4.out.ext hx5
    replace hS4 := show Hid (Slp w5 _ _) from hS4.out.ext hx5
    replace hx := show Hid (Ext w w5) from hx4.out.trans hx5
    clear hx4 hx5 hW4 j0 j1
    go_wp2_with (refine load27 hB4.out rfl rfl rfl rfl ?_)
    refine (Check_x [104, 111, 109, 101] 0 1 1 1 12 0 60000000 _ [] 100000000 1 2 3 4 1 _ [(5, 5)] 0 1 _ [] 9 (by decide +kernel) _ (by decide) (by decide) (by decide) (by decide) (nilr _) hS4.out (nilh _)).mono ?_
    rintro e w6 ⟨rfl, hx6⟩
    replace hx := show Hid (Ext w w6) from hx.out.trans hx6
    clear hx6 hB4 hS4
    go_wp2
    go_ret
    exact ⟨rfl, hx.out⟩
  · have hB4 : Blk (W3.setCell ⟨b, 1, none⟩ (.int .i64 3)) b #[.string ⟨[104, 111, 109, 101].toArray⟩, .int .i64 3, .int .i64 1, .int .i64 1, .int .i64 1, .int .i64 12, .int .i64 0, .int .i64 60000000, .slice none 0 0, .int .i64 100000000, .int .i64 1, .int .i64 2, .int .i64 3, .int .i64 4, .int .i64 1, .slice (some ⟨b + 1, 0, none⟩) 1 1, .int .i64 0, .int .i64 1, .slice none 0 0] := hB3.set 1 _
    have hT4 : (W3.setCell ⟨b, 1, none⟩ (.int .i64 3)).heap[b + 1]? = some (.cells #[.int .i64 5, .int .i64 5] 34 (0, 0)) := by rw [heap_setCell_other _ _ _ _ (by show b + 1 ≠ b; omega)]; exact hT3
    have hx4 : Ext w (W3.setCell ⟨b, 1, none⟩ (.int .i64 3)) := hx3.setCell hbw _
    obtain ⟨W4, hW4⟩ : ∃ W, W3.setCell ⟨b, 1, none⟩ (.int .i64 3) = W := ⟨_, rfl⟩
    rw [hW4] at hB4 hT4 hx4
    have j0 : W3.cell? ⟨b, 1, none⟩ = some (.int .i64 2) := (cell_of_row _ b 1 _ _ _ hB3).trans rfl
    have j1 := frozen_of_row _ b 1 _ _ hB3
    have hS4 := slp_row hT4
    replace hS4 := show Hid (Slp W4 _ _) from hS4
    replace hB4 := show Hid (Blk W4 b _) from hB4
    replace hx4 := show Hid _ from hx4
    clear hT4 hB3 hT3 hx3
    go_wp2_with fail
    refine (awake_c _).mono ?_
    rintro e w5 ⟨rfl, hx5⟩
    replace hB4 := show Hid (Blk w5 b _) from hB4.out.ext hx5
    replace hS4 := show Hid (Slp w5 _ _) from hS4.out.ext hx5
    replace hx := show Hid (Ext w w5) from hx4.out.trans hx5
    clear hx4 hx5 hW4 j0 j1
    go_wp2_with (refine load27 hB4.out rfl rfl rfl rfl ?_)
    refine (Check_x [104, 111, 109, 101] 3 1 1 1 12 0 60000000 _ [] 100000000 1 2 3 4 1 _ [(5, 5)] 0 1 _ [] 0 (by decide +kernel) _ (by decide) (by decide) (by decide) (by decide) (nilr _) hS4.out (nilh _)).mono ?_
    rintro e w6 ⟨rfl, hx6⟩
    replace hx := show Hid (Ext w w6) from hx.out.trans hx6
    clear hx6 hB4 hS4
    go_wp2
    go_ret
    exact ⟨rfl, hx.out⟩
  · have hB4 : Blk (W3.setCell ⟨b, 1, none⟩ (.int .i64 4)) b #[.string ⟨[104, 111, 109, 101].toArray⟩, .int .i64 4, .int .i64 1, .int .i64 1, .int .i64 1, .int .i64 12, .int .i64 0, .int .i64 60000000, .slice none 0 0, .int .i64 100000000, .int .i64 1, .int .i64 2, .int .i64 3, .int .i64 4, .int .i64 1, .slice (some ⟨b + 1, 0, none⟩) 1 1, .int .i64 0, .int .i64 1, .slice none 0 0] := hB3.set 1 _
    have hT4 : (W3.setCell ⟨b, 1, none⟩ (.int .i64 4)).heap[b + 1]? = some (.cells #[.int .i64 5, .int .i64 5] 34 (0, 0)) := by rw [heap_setCell_other _ _ _ _ (by show b + 1 ≠ b; omega)]; exact hT3
    have hx4 : Ext w (W3.setCell ⟨b, 1, none⟩ (.int .i64 4)) := hx3.setCell hbw _
    obtain ⟨W4, hW4⟩ : ∃ W, W3.setCell ⟨b, 1, none⟩ (.int .i64 4) = W := ⟨_, rfl⟩
    rw [hW4] at hB4 hT4 hx4
    have j0 : W3.cell? ⟨b, 1, none⟩ = some (.int .i64 2) := (cell_of_row _ b 1 _ _ _ hB3).trans rfl
    have j1 := frozen_of_row _ b 1 _ _ hB3
    have hS4 := slp_row hT4
    replace hS4 := show Hid (Slp W4 _ _) from hS4
    replace hB4 := show Hid (Blk W4 b _) from hB4
    replace hx4 := show Hid _ from hx4
    clear hT4 hB3 hT3 hx3
    go_wp2_with fail
    refine (awake_c _).mono ?_
    rintro e w5 ⟨rfl, hx5⟩
    replace hB4 := show Hid (Blk w5 b _) from hB4.out.ext hx5
    replace hS4 := show Hid (Slp w5 _ _) from hS4.out.ext hx5
    replace hx := show Hid (Ext w w5) from hx4.out.trans hx5
    clear hx4 hx5 hW4 j0 j1
    go_wp2_with (refine load27 hB4.out rfl rfl rfl rfl ?_)
    refine (Check_x [104, 111, 109, 101] 4 1 1 1 12 0 60000000 _ [] 100000000 1 2 3 4 1 _ [(5, 5)] 0 1 _ [] 9 (by decide +kernel) _ (by decide) (by decide) (by decide) (by decide) (nilr _) hS4.out (nilh _)).mono ?_
    rintro e w6 ⟨rfl, hx6⟩
    replace hx := show Hid (Ext w w6) from hx.out.trans hx6
    clear hx6 hB4 hS4
    go_wp2
    go_ret
    exact ⟨rfl, hx.out⟩
set_option maxHeartbeats 4000000 in
theorem bnd1 (a0 : Int) (a1 a2 : Bool) (w : World) (hR : (IntKind.u64.wrap a0).tmod 10 = 1) :
    Calls Try.prog 4 #[.int .i64 a0, .bool a1, .bool a2] w fun e w' => e = .returned (.bool true) ∧ Ext w w' := by
  have hsz := sz_plain
  go_enter Try.func4, Try.ntmps4
  go_wp2_with fail
  refine (Plain_c _).mono ?_
  rintro e w1 ⟨rfl, hx⟩
  obtain ⟨W0, W1, b, hW0, hb, hs0, hst, hs1, hB, hx1⟩ := lay_plain w1
  obtain ⟨W2, W3, hW2, k0, k1, hW3, hB3, hT3, hx3⟩ := lay_tier hs1 hB hx1 (by omega)
  have hbw : w.heap.size ≤ b := by have := hx.size; omega
  replace hx3 := hx.trans hx3
  clear hx hx1 hB
  go_upto_region 3 with fail
  clear hW0 hb hs0 hst hW2 k0 k1 hW3 hs1 hsz
  cases a1 <;> cases a2
  · have hB4 : Blk (W3.setCell ⟨b, 3, none⟩ (.int .i64 1)) b #[.string ⟨[104, 111, 109, 101].toArray⟩, .int .i64 2, .int .i64 1, .int .i64 1, .int .i64 1, .int .i64 12, .int .i64 0, .int .i64 60000000, .slice none 0 0, .int .i64 100000000, .int .i64 1, .int .i64 2, .int .i64 3, .int .i64 4, .int .i64 1, .slice (some ⟨b + 1, 0, none⟩) 1 1, .int .i64 0, .int .i64 1, .slice none 0 0] := hB3.set 3 _
    have hT4 : (W3.setCell ⟨b, 3, none⟩ (.int .i64 1)).heap[b + 1]? = some (.cells #[.int .i64 5, .int .i64 5] 34 (0, 0)) := by rw [heap_setCell_other _ _ _ _ (by show b + 1 ≠ b; omega)]; exact hT3
    have hx4 : Ext w (W3.setCell ⟨b, 3, none⟩ (.int .i64 1)) := hx3.setCell hbw _
    obtain ⟨W4, hW4⟩ : ∃ W, W3.setCell ⟨b, 3, none⟩ (.int .i64 1) = W := ⟨_, rfl⟩
    rw [hW4] at hB4 hT4 hx4
    have j0 : W3.cell? ⟨b, 3, none⟩ = some (.int .i64 1) := (cell_of_row _ b 3 _ _ _ hB3).trans rfl
    have j1 := frozen_of_row _ b 3 _ _ hB3
    have hS4 := slp_row hT4
    replace hS4 := show Hid (Slp W4 _ _) from hS4
    replace hB4 := show Hid (Blk W4 b _) from hB4
    replace hx4 := show Hid _ from hx4
    clear hT4 hB3 hT3 hx3
    go_wp2_with fail
    refine (awake_c _).mono ?_
    rintro e w5 ⟨rfl, hx5⟩
    replace hB4 := show Hid (Blk w5 b _) from hB4.out.ext hx5
    replace hS4 := show Hid (Slp w5 _ _) from hS4.out.ext hx5
    replace hx := show Hid (Ext w w5) from hx4.out.trans hx5
    clear hx4 hx5 hW4 j0 j1
    go_wp2_with (refine load27 hB4.out rfl rfl rfl rfl ?_)
    refine (Check_x [104, 111, 109, 101] 2 1 1 1 12 0 60000000 _ [] 100000000 1 2 3 4 1 _ [(5, 5)] 0 1 _ [] 0 (by decide +kernel) _ (by decide) (by decide) (by decide) (by decide) (nilr _) hS4.out (nilh _)).mono ?_
    rintro e w6 ⟨rfl, hx6⟩
    replace hx := show Hid (Ext w w6) from hx.out.trans hx6
    clear hx6 hB4 hS4
    go_wp2
    go_ret
    exact ⟨rfl, hx.out⟩
  · have hB4 : Blk (W3.setCell ⟨b, 3, none⟩ (.int .i64 0)) b #[.string ⟨[104, 111, 109, 101].toArray⟩, .int .i64 2, .int .i64 1, .int .i64 0, .int .i64 1, .int .i64 12, .int .i64 0, .int .i64 60000000, .slice none 0 0, .int .i64 100000000, .int .i64 1, .int .i64 2, .int .i64 3, .int .i64 4, .int .i64 1, .slice (some ⟨b + 1, 0, none⟩) 1 1, .int .i64 0, .int .i64 1, .slice none 0 0] := hB3.set 3 _
    have hT4 : (W3.setCell ⟨b, 3, none⟩ (.int .i64 0)).heap[b + 1]? = some (.cells #[.int .i64 5, .int .i64 5] 34 (0, 0)) := by rw [heap_setCell_other _ _ _ _ (by show b + 1 ≠ b; omega)]; exact hT3
    have hx4 : Ext w (W3.setCell ⟨b, 3, none⟩ (.int .i64 0)) := hx3.setCell hbw _
    obtain ⟨W4, hW4⟩ : ∃ W, W3.setCell ⟨b, 3, none⟩ (.int .i64 0) = W := ⟨_, rfl⟩
    rw [hW4] at hB4 hT4 hx4
    have j0 : W3.cell? ⟨b, 3, none⟩ = some (.int .i64 1) := (cell_of_row _ b 3 _ _ _ hB3).trans rfl
    have j1 := frozen_of_row _ b 3 _ _ hB3
    have hS4 := slp_row hT4
    replace hS4 := show Hid (Slp W4 _ _) from hS4
    replace hB4 := show Hid (Blk W4 b _) from hB4
    replace hx4 := show Hid _ from hx4
    clear hT4 hB3 hT3 hx3
    go_wp2_with fail
    refine (awake_c _).mono ?_
    rintro e w5 ⟨rfl, hx5⟩
    replace hB4 := show Hid (Blk w5 b _) from hB4.out.ext hx5
    replace hS4 := show Hid (Slp w5 _ _) from hS4.out.ext hx5
    replace hx := show Hid (Ext w w5) from hx4.out.trans hx5
    clear hx4 hx5 hW4 j0 j1
    go_wp2_with (refine load27 hB4.out rfl rfl rfl rfl ?_)
    refine (Check_x [104, 111, 109, 101] 2 1 0 1 12 0 60000000 _ [] 100000000 1 2 3 4 1 _ [(5, 5)] 0 1 _ [] 9 (by decide +kernel) _ (by decide) (by decide) (by decide) (by decide) (nilr _) hS4.out (nilh _)).mono ?_
    rintro e w6 ⟨rfl, hx6⟩
    replace hx := show Hid (Ext w w6) from hx.out.trans hx6
    clear hx6 hB4 hS4
    go_wp2
    go_ret
    exact ⟨rfl, hx.out⟩
  · have hB4 : Blk (W3.setCell ⟨b, 3, none⟩ (.int .i64 3)) b #[.string ⟨[104, 111, 109, 101].toArray⟩, .int .i64 2, .int .i64 1, .int .i64 3, .int .i64 1, .int .i64 12, .int .i64 0, .int .i64 60000000, .slice none 0 0, .int .i64 100000000, .int .i64 1, .int .i64 2, .int .i64 3, .int .i64 4, .int .i64 1, .slice (some ⟨b + 1, 0, none⟩) 1 1, .int .i64 0, .int .i64 1, .slice none 0 0] := hB3.set 3 _
    have hT4 : (W3.setCell ⟨b, 3, none⟩ (.int .i64 3)).heap[b + 1]? = some (.cells #[.int .i64 5, .int .i64 5] 34 (0, 0)) := by rw [heap_setCell_other _ _ _ _ (by show b + 1 ≠ b; omega)]; exact hT3
    have hx4 : Ext w (W3.setCell ⟨b, 3, none⟩ (.int .i64 3)) := hx3.setCell hbw _
    obtain ⟨W4, hW4⟩ : ∃ W, W3.setCell ⟨b, 3, none⟩ (.int .i64 3) = W := ⟨_, rfl⟩
    rw [hW4] at hB4 hT4 hx4
    have j0 : W3.cell? ⟨b, 3, none⟩ = some (.int .i64 1) := (cell_of_row _ b 3 _ _ _ hB3).trans rfl
    have j1 := frozen_of_row _ b 3 _ _ hB3
    have hS4 := slp_row hT4
    replace hS4 := show Hid (Slp W4 _ _) from hS4
    replace hB4 := show Hid (Blk W4 b _) from hB4
    replace hx4 := show Hid _ from hx4
    clear hT4 hB3 hT3 hx3
    go_wp2_with fail
    refine (awake_c _).mono ?_
    rintro e w5 ⟨rfl, hx5⟩
    replace hB4 := show Hid (Blk w5 b _) from hB4.out.ext hx5
    replace hS4 := show Hid (Slp w5 _ _) from hS4.out.ext hx5
    replace hx := show Hid (Ext w w5) from hx4.out.trans hx5
    clear hx4 hx5 hW4 j0 j1
    go_wp2_with (refine load27 hB4.out rfl rfl rfl rfl ?_)
    refine (Check_x [104, 111, 109, 101] 2 1 3 1 12 0 60000000 _ [] 100000000 1 2 3 4 1 _ [(5, 5)] 0 1 _ [] 0 (by decide +kernel) _ (by decide) (by decide) (by decide) (by decide) (nilr _) hS4.out (nilh _)).mono ?_
    rintro e w6 ⟨rfl, hx6⟩
    replace hx := show Hid (Ext w w6) from hx.out.trans hx6
    clear hx6 hB4 hS4
    go_wp2
    go_ret
    exact ⟨rfl, hx.out⟩
  · have hB4 : Blk (W3.setCell ⟨b, 3, none⟩ (.int .i64 4)) b #[.string ⟨[104, 111, 109, 101].toArray⟩, .int .i64 2, .int .i64 1, .int .i64 4, .int .i64 1, .int .i64 12, .int .i64 0, .int .i64 60000000, .slice none 0 0, .int .i64 100000000, .int .i64 1, .int .i64 2, .int .i64 3, .int .i64 4, .int .i64 1, .slice (some ⟨b + 1, 0, none⟩) 1 1, .int .i64 0, .int .i64 1, .slice none 0 0] := hB3.set 3 _
    have hT4 : (W3.setCell ⟨b, 3, none⟩ (.int .i64 4)).heap[b + 1]? = some (.cells #[.int .i64 5, .int .i64 5] 34 (0, 0)) := by rw [heap_setCell_other _ _ _ _ (by show b + 1 ≠ b; omega)]; exact hT3
    have hx4 : Ext w (W3.setCell ⟨b, 3, none⟩ (.int .i64 4)) := hx3.setCell hbw _
    obtain ⟨W4, hW4⟩ : ∃ W, W3.setCell ⟨b, 3, none⟩ (.int .i64 4) = W := ⟨_, rfl⟩
    rw [hW4] at hB4 hT4 hx4
    have j0 : W3.cell? ⟨b, 3, none⟩ = some (.int .i64 1) := (cell_of_row _ b 3 _ _ _ hB3).trans rfl
    have j1 := frozen_of_row _ b 3 _ _ hB3
    have hS4 := slp_row hT4
    replace hS4 := show Hid (Slp W4 _ _) from hS4
    replace hB4 := show Hid (Blk W4 b _) from hB4
    replace hx4 := show Hid _ from hx4
    clear hT4 hB3 hT3 hx3
    go_wp2_with fail
    refine (awake_c _).mono ?_
    rintro e w5 ⟨rfl, hx5⟩
    replace hB4 := show Hid (Blk w5 b _) from hB4.out.ext hx5
    replace hS4 := show Hid (Slp w5 _ _) from hS4.out.ext hx5
    replace hx := show Hid (Ext w w5) from hx4.out.trans hx5
    clear hx4 hx5 hW4 j0 j1
    go_wp2_with (refine load27 hB4.out rfl rfl rfl rfl ?_)
    refine (Check_x [104, 111, 109, 101] 2 1 4 1 12 0 60000000 _ [] 100000000 1 2 3 4 1 _ [(5, 5)] 0 1 _ [] 9 (by decide +kernel) _ (by decide) (by decide) (by decide) (by decide) (nilr _) hS4.out (nilh _)).mono ?_
    rintro e w6 ⟨rfl, hx6⟩
    replace hx := show Hid (Ext w w6) from hx.out.trans hx6
    clear hx6 hB4 hS4
    go_wp2
    go_ret
    exact ⟨rfl, hx.out⟩
set_option maxHeartbeats 4000000 in
theorem bnd2 (a0 : Int) (a1 a2 : Bool) (w : World) (hR : (IntKind.u64.wrap a0).tmod 10 = 2) :
    Calls Try.prog 4 #[.int .i64 a0, .bool a1, .bool a2] w fun e w' => e = .returned (.bool true) ∧ Ext w w' := by
  have hsz := sz_plain
  go_enter Try.func4, Try.ntmps4
  go_wp2_with fail
  refine (Plain_c _).mono ?_
  rintro e w1 ⟨rfl, hx⟩
  obtain ⟨W0, W1, b, hW0, hb, hs0, hst, hs1, hB, hx1⟩ := lay_plain w1
  obtain ⟨W2, W3, hW2, k0, k1, hW3, hB3, hT3, hx3⟩ := lay_tier hs1 hB hx1 (by omega)
  have hbw : w.heap.size ≤ b := by have := hx.size; omega
  replace hx3 := hx.trans hx3
  clear hx hx1 hB
  go_upto_region 3 with fail
  clear hW0 hb hs0 hst hW2 k0 k1 hW3 hs1 hsz
  cases a1 <;> cases a2
  · have hB4 : Blk (W3.setCell ⟨b, 5, none⟩ (.int .i64 1)) b #[.string ⟨[104, 111, 109, 101].toArray⟩, .int .i64 2, .int .i64 1, .int .i64 1, .int .i64 1, .int .i64 1, .int .i64 0, .int .i64 60000000, .slice none 0 0, .int .i64 100000000, .int .i64 1, .int .i64 2, .int .i64 3, .int .i64 4, .int .i64 1, .slice (some ⟨b + 1, 0, none⟩) 1 1, .int .i64 0, .int .i64 1, .slice none 0 0] := hB3.set 5 _
    have hT4 : (W3.setCell ⟨b, 5, none⟩ (.int .i64 1)).heap[b + 1]? = some (.cells #[.int .i64 5, .int .i64 5] 34 (0, 0)) := by rw [heap_setCell_other _ _ _ _ (by show b + 1 ≠ b; omega)]; exact hT3
    have hx4 : Ext w (W3.setCell ⟨b, 5, none⟩ (.int .i64 1)) := hx3.setCell hbw _
    obtain ⟨W4, hW4⟩ : ∃ W, W3.setCell ⟨b, 5, none⟩ (.int .i64 1) = W := ⟨_, rfl⟩
    rw [hW4] at hB4 hT4 hx4
    have j0 : W3.cell? ⟨b, 5, none⟩ = some (.int .i64 12) := (cell_of_row _ b 5 _ _ _ hB3).trans rfl
    have j1 := frozen_of_row _ b 5 _ _ hB3
    have hS4 := slp_row hT4
    replace hS4 := show Hid (Slp W4 _ _) from hS4
    replace hB4 := show Hid (Blk W4 b _) from hB4
    replace hx4 := show Hid _ from hx4
    clear hT4 hB3 hT3 hx3
    go_wp2_with fail
    refine (awake_c _).mono ?_
    rintro e w5 ⟨rfl, hx5⟩
    replace hB4 := show Hid (Blk w5 b _) from hB4.out.ext hx5
    replace hS4 := show Hid (Slp w5 _ _) from hS4.out.ext hx5
    replace hx := show Hid (Ext w w5) from hx4.out.trans hx5
    clear hx4 hx5 hW4 j0 j1
    go_wp2_with (refine load27 hB4.out rfl rfl rfl rfl ?_)
    refine (Check_x [104, 111, 109, 101] 2 1 1 1 1 0 60000000 _ [] 100000000 1 2 3 4 1 _ [(5, 5)] 0 1 _ [] 0 (by decide +kernel) _ (by decide) (by decide) (by decide) (by decide) (nilr _) hS4.out (nilh _)).mono ?_
    rintro e w6 ⟨rfl, hx6⟩
    replace hx := show Hid (Ext w w6) from hx.out.trans hx6
    clear hx6 hB4 hS4
    go_wp2
    go_ret
    exact ⟨rfl, hx.out⟩
  · have hB4 : Blk (W3.setCell ⟨b, 5, none⟩ (.int .i64 0)) b #[.string ⟨[104, 111, 109, 101].toArray⟩, .int .i64 2, .int .i64 1, .int .i64 1, .int .i64 1, .int .i64 0, .int .i64 0, .int .i64 60000000, .slice none 0 0, .int .i64 100000000, .int .i64 1, .int .i64 2, .int .i64 3, .int .i64 4, .int .i64 1, .slice (some ⟨b + 1, 0, none⟩) 1 1, .int .i64 0, .int .i64 1, .slice none 0 0] := hB3.set 5 _
    have hT4 : (W3.setCell ⟨b, 5, none⟩ (.int .i64 0)).heap[b + 1]? = some (.cells #[.int .i64 5, .int .i64 5] 34 (0, 0)) := by rw [heap_setCell_other _ _ _ _ (by show b + 1 ≠ b; omega)]; exact hT3
    have hx4 : Ext w (W3.setCell ⟨b, 5, none⟩ (.int .i64 0)) := hx3.setCell hbw _
    obtain ⟨W4, hW4⟩ : ∃ W, W3.setCell ⟨b, 5, none⟩ (.int .i64 0) = W := ⟨_, rfl⟩
    rw [hW4] at hB4 hT4 hx4
    have j0 : W3.cell? ⟨b, 5, none⟩ = some (.int .i64 12) := (cell_of_row _ b 5 _ _ _ hB3).trans rfl
    have j1 := frozen_of_row _ b 5 _ _ hB3
    have hS4 := slp_row hT4
    replace hS4 := show Hid (Slp W4 _ _) from hS4
    replace hB4 := show Hid (Blk W4 b _) from hB4
    replace hx4 := show Hid _ from hx4
    clear hT4 hB3 hT3 hx3
    go_wp2_with fail
    refine (awake_c _).mono ?_
    rintro e w5 ⟨rfl, hx5⟩
    replace hB4 := show Hid (Blk w5 b _) from hB4.out.ext hx5
    replace hS4 := show Hid (Slp w5 _ _) from hS4.out.ext hx5
    replace hx := show Hid (Ext w w5) from hx4.out.trans hx5
    clear hx4 hx5 hW4 j0 j1
    go_wp2_with (refine load27 hB4.out rfl rfl rfl rfl ?_)
    refine (Check_x [104, 111, 109, 101] 2 1 1 1 0 0 60000000 _ [] 100000000 1 2 3 4 1 _ [(5, 5)] 0 1 _ [] 9 (by decide +kernel) _ (by decide) (by decide) (by decide) (by decide) (nilr _) hS4.out (nilh _)).mono ?_
    rintro e w6 ⟨rfl, hx6⟩
    replace hx := show Hid (Ext w w6) from hx.out.trans hx6
    clear hx6 hB4 hS4
    go_wp2
    go_ret
    exact ⟨rfl, hx.out⟩
  · have hB4 : Blk (W3.setCell ⟨b, 5, none⟩ (.int .i64 600)) b #[.string ⟨[104, 111, 109, 101].toArray⟩, .int .i64 2, .int .i64 1, .int .i64 1, .int .i64 1, .int .i64 600, .int .i64 0, .int .i64 60000000, .slice none 0 0, .int .i64 100000000, .int .i64 1, .int .i64 2, .int .i64 3, .int .i64 4, .int .i64 1, .slice (some ⟨b + 1, 0, none⟩) 1 1, .int .i64 0, .int .i64 1, .slice none 0 0] := hB3.set 5 _
    have hT4 : (W3.setCell ⟨b, 5, none⟩ (.int .i64 600)).heap[b + 1]? = some (.cells #[.int .i64 5, .int .i64 5] 34 (0, 0)) := by rw [heap_setCell_other _ _ _ _ (by show b + 1 ≠ b; omega)]; exact hT3
    have hx4 : Ext w (W3.setCell ⟨b, 5, none⟩ (.int .i64 600)) := hx3.setCell hbw _
    obtain ⟨W4, hW4⟩ : ∃ W, W3.setCell ⟨b, 5, none⟩ (.int .i64 600) = W := ⟨_, rfl⟩
    rw [hW4] at hB4 hT4 hx4
    have j0 : W3.cell? ⟨b, 5, none⟩ = some (.int .i64 12) := (cell_of_row _ b 5 _ _ _ hB3).trans rfl
    have j1 := frozen_of_row _ b 5 _ _ hB3
    have hS4 := slp_row hT4
    replace hS4 := show Hid (Slp W4 _ _) from hS4
    replace hB4 := show Hid (Blk W4 b _) from hB4
    replace hx4 := show Hid _ from hx4
    clear hT4 hB3 hT3 hx3
    go_wp2_with fail
    refine (awake_c _).mono ?_
    rintro e w5 ⟨rfl, hx5⟩
    replace hB4 := show Hid (Blk w5 b _) from hB4.out.ext hx5
    replace hS4 := show Hid (Slp w5 _ _) from hS4.out.ext hx5
    replace hx := show Hid (Ext w w5) from hx4.out.trans hx5
    clear hx4 hx5 hW4 j0 j1
    go_wp2_with (refine load27 hB4.out rfl rfl rfl rfl ?_)
    refine (Check_x [104, 111, 109, 101] 2 1 1 1 600 0 60000000 _ [] 100000000 1 2 3 4 1 _ [(5, 5)] 0 1 _ [] 0 (by decide +kernel) _ (by decide) (by decide) (by decide) (by decide) (nilr _) hS4.out (nilh _)).mono ?_
    rintro e w6 ⟨rfl, hx6⟩
    replace hx := show Hid (Ext w w6) from hx.out.trans hx6
    clear hx6 hB4 hS4
    go_wp2
    go_ret
    exact ⟨rfl, hx.out⟩
  · have hB4 : Blk (W3.setCell ⟨b, 5, none⟩ (.int .i64 601)) b #[.string ⟨[104, 111, 109, 101].toArray⟩, .int .i64 2, .int .i64 1, .int .i64 1, .int .i64 1, .int .i64 601, .int .i64 0, .int .i64 60000000, .slice none 0 0, .int .i64 100000000, .int .i64 1, .int .i64 2, .int .i64 3, .int .i64 4, .int .i64 1, .slice (some ⟨b + 1, 0, none⟩) 1 1, .int .i64 0, .int .i64 1, .slice none 0 0] := hB3.set 5 _
    have hT4 : (W3.setCell ⟨b, 5, none⟩ (.int .i64 601)).heap[b + 1]? = some (.cells #[.int .i64 5, .int .i64 5] 34 (0, 0)) := by rw [heap_setCell_other _ _ _ _ (by show b + 1 ≠ b; omega)]; exact hT3
    have hx4 : Ext w (W3.setCell ⟨b, 5, none⟩ (.int .i64 601)) := hx3.setCell hbw _
    obtain ⟨W4, hW4⟩ : ∃ W, W3.setCell ⟨b, 5, none⟩ (.int .i64 601) = W := ⟨_, rfl⟩
    rw [hW4] at hB4 hT4 hx4
    have j0 : W3.cell? ⟨b, 5, none⟩ = some (.int .i64 12) := (cell_of_row _ b 5 _ _ _ hB3).trans rfl
    have j1 := frozen_of_row _ b 5 _ _ hB3
    have hS4 := slp_row hT4
    replace hS4 := show Hid (Slp W4 _ _) from hS4
    replace hB4 := show Hid (Blk W4 b _) from hB4
    replace hx4 := show Hid _ from hx4
    clear hT4 hB3 hT3 hx3
    go_wp2_with fail
    refine (awake_c _).mono ?_
    rintro e w5 ⟨rfl, hx5⟩
    replace hB4 := show Hid (Blk w5 b _) from hB4.out.ext hx5
    replace hS4 := show Hid (Slp w5 _ _) from hS4.out.ext hx5
    replace hx := show Hid (Ext w w5) from hx4.out.trans hx5
    clear hx4 hx5 hW4 j0 j1
    go_wp2_with (refine load27 hB4.out rfl rfl rfl rfl ?_)
    refine (Check_x [104, 111, 109, 101] 2 1 1 1 601 0 60000000 _ [] 100000000 1 2 3 4 1 _ [(5, 5)] 0 1 _ [] 9 (by decide +kernel) _ (by decide) (by decide) (by decide) (by decide) (nilr _) hS4.out (nilh _)).mono ?_
    rintro e w6 ⟨rfl, hx6⟩
    replace hx := show Hid (Ext w w6) from hx.out.trans hx6
    clear hx6 hB4 hS4
    go_wp2
    go_ret
    exact ⟨rfl, hx.out⟩
set_option maxHeartbeats 4000000 in
theorem bnd3 (a0 : Int) (a1 a2 : Bool) (w : World) (hR : (IntKind.u64.wrap a0).tmod 10 = 3) :
    Calls Try.prog 4 #[.int .i64 a0, .bool a1, .bool a2] w fun e w' => e = .returned (.bool true) ∧ Ext w w' := by
  have hsz := sz_plain
  go_enter Try.func4, Try.ntmps4
  go_wp2_with fail
  refine (Plain_c _).mono ?_
  rintro e w1 ⟨rfl, hx⟩
  obtain ⟨W0, W1, b, hW0, hb, hs0, hst, hs1, hB, hx1⟩ := lay_plain w1
  obtain ⟨W2, W3, hW2, k0, k1, hW3, hB3, hT3, hx3⟩ := lay_tier hs1 hB hx1 (by omega)
  have hbw : w.heap.size ≤ b := by have := hx.size; omega
  replace hx3 := hx.trans hx3
  clear hx hx1 hB
  go_upto_region 3 with fail
  clear hW0 hb hs0 hst hW2 k0 k1 hW3 hs1 hsz
  cases a1 <;> cases a2
  · have hB4 : Blk (W3.setCell ⟨b, 6, none⟩ (.int .i64 0)) b #[.string ⟨[104, 111, 109, 101].toArray⟩, .int .i64 2, .int .i64 1, .int .i64 1, .int .i64 1, .int .i64 12, .int .i64 0, .int .i64 60000000, .slice none 0 0, .int .i64 100000000, .int .i64 1, .int .i64 2, .int .i64 3, .int .i64 4, .int .i64 1, .slice (some ⟨b + 1, 0, none⟩) 1 1, .int .i64 0, .int .i64 1, .slice none 0 0] := hB3.set 6 _
    have hT4 : (W3.setCell ⟨b, 6, none⟩ (.int .i64 0)).heap[b + 1]? = some (.cells #[.int .i64 5, .int .i64 5] 34 (0, 0)) := by rw [heap_setCell_other _ _ _ _ (by show b + 1 ≠ b; omega)]; exact hT3
    have hx4 : Ext w (W3.setCell ⟨b, 6, none⟩ (.int .i64 0)) := hx3.setCell hbw _
    obtain ⟨W4, hW4⟩ : ∃ W, W3.setCell ⟨b, 6, none⟩ (.int .i64 0) = W := ⟨_, rfl⟩
    rw [hW4] at hB4 hT4 hx4
    have j0 : W3.cell? ⟨b, 6, none⟩ = some (.int .i64 0) := (cell_of_row _ b 6 _ _ _ hB3).trans rfl
    have j1 := frozen_of_row _ b 6 _ _ hB3
    have hS4 := slp_row hT4
    replace hS4 := show Hid (Slp W4 _ _) from hS4
    replace hB4 := show Hid (Blk W4 b _) from hB4
    replace hx4 := show Hid _ from hx4
    clear hT4 hB3 hT3 hx3
    go_wp2_with fail
    refine (awake_c _).mono ?_
    rintro e w5 ⟨rfl, hx5⟩
    replace hB4 := show Hid (Blk w5 b _) from hB4.out.ext hx5
    replace hS4 := show Hid (Slp w5 _ _) from hS4.out.ext hx5
    replace hx := show Hid (Ext w w5) from hx4.out.trans hx5
    clear hx4 hx5 hW4 j0 j1
    go_wp2_with (refine load27 hB4.out rfl rfl rfl rfl ?_)
    refine (Check_x [104, 111, 109, 101] 2 1 1 1 12 0 60000000 _ [] 100000000 1 2 3 4 1 _ [(5, 5)] 0 1 _ [] 0 (by decide +kernel) _ (by decide) (by decide) (by decide) (by decide) (nilr _) hS4.out (nilh _)).mono ?_
    rintro e w6 ⟨rfl, hx6⟩
    replace hx := show Hid (Ext w w6) from hx.out.trans hx6
    clear hx6 hB4 hS4
    go_wp2
    go_ret
    exact ⟨rfl, hx.out⟩
  · have hB4 : Blk (W3.setCell ⟨b, 6, none⟩ (.int .i64 (-1))) b #[.string ⟨[104, 111, 109, 101].toArray⟩, .int .i64 2, .int .i64 1, .int .i64 1, .int .i64 1, .int .i64 12, .int .i64 (-1), .int .i64 60000000, .slice none 0 0, .int .i64 100000000, .int .i64 1, .int .i64 2, .int .i64 3, .int .i64 4, .int .i64 1, .slice (some ⟨b + 1, 0, none⟩) 1 1, .int .i64 0, .int .i64 1, .slice none 0 0] := hB3.set 6 _
    have hT4 : (W3.setCell ⟨b, 6, none⟩ (.int .i64 (-1))).heap[b + 1]? = some (.cells #[.int .i64 5, .int .i64 5] 34 (0, 0)) := by rw [heap_setCell_other _ _ _ _ (by show b + 1 ≠ b; omega)]; exact hT3
    have hx4 : Ext w (W3.setCell ⟨b, 6, none⟩ (.int .i64 (-1))) := hx3.setCell hbw _
    obtain ⟨W4, hW4⟩ : ∃ W, W3.setCell ⟨b, 6, none⟩ (.int .i64 (-1)) = W := ⟨_, rfl⟩
    rw [hW4] at hB4 hT4 hx4
    have j0 : W3.cell? ⟨b, 6, none⟩ = some (.int .i64 0) := (cell_of_row _ b 6 _ _ _ hB3).trans rfl
    have j1 := frozen_of_row _ b 6 _ _ hB3
    have hS4 := slp_row hT4
    replace hS4 := show Hid (Slp W4 _ _) from hS4
    replace hB4 := show Hid (Blk W4 b _) from hB4
    replace hx4 := show Hid _ from hx4
    clear hT4 hB3 hT3 hx3
    go_wp2_with fail
    refine (awake_c _).mono ?_
    rintro e w5 ⟨rfl, hx5⟩
    replace hB4 := show Hid (Blk w5 b _) from hB4.out.ext hx5
    replace hS4 := show Hid (Slp w5 _ _) from hS4.out.ext hx5
    replace hx := show Hid (Ext w w5) from hx4.out.trans hx5
    clear hx4 hx5 hW4 j0 j1
    go_wp2_with (refine load27 hB4.out rfl rfl rfl rfl ?_)
    refine (Check_x [104, 111, 109, 101] 2 1 1 1 12 (-1) 60000000 _ [] 100000000 1 2 3 4 1 _ [(5, 5)] 0 1 _ [] 9 (by decide +kernel) _ (by decide) (by decide) (by decide) (by decide) (nilr _) hS4.out (nilh _)).mono ?_
    rintro e w6 ⟨rfl, hx6⟩
    replace hx := show Hid (Ext w w6) from hx.out.trans hx6
    clear hx6 hB4 hS4
    go_wp2
    go_ret
    exact ⟨rfl, hx.out⟩
  · have hB4 : Blk (W3.setCell ⟨b, 6, none⟩ (.int .i64 11)) b #[.string ⟨[104, 111, 109, 101].toArray⟩, .int .i64 2, .int .i64 1, .int .i64 1, .int .i64 1, .int .i64 12, .int .i64 11, .int .i64 60000000, .slice none 0 0, .int .i64 100000000, .int .i64 1, .int .i64 2, .int .i64 3, .int .i64 4, .int .i64 1, .slice (some ⟨b + 1, 0, none⟩) 1 1, .int .i64 0, .int .i64 1, .slice none 0 0] := hB3.set 6 _
    have hT4 : (W3.setCell ⟨b, 6, none⟩ (.int .i64 11)).heap[b + 1]? = some (.cells #[.int .i64 5, .int .i64 5] 34 (0, 0)) := by rw [heap_setCell_other _ _ _ _ (by show b + 1 ≠ b; omega)]; exact hT3
    have hx4 : Ext w (W3.setCell ⟨b, 6, none⟩ (.int .i64 11)) := hx3.setCell hbw _
    obtain ⟨W4, hW4⟩ : ∃ W, W3.setCell ⟨b, 6, none⟩ (.int .i64 11) = W := ⟨_, rfl⟩
    rw [hW4] at hB4 hT4 hx4
    have j0 : W3.cell? ⟨b, 6, none⟩ = some (.int .i64 0) := (cell_of_row _ b 6 _ _ _ hB3).trans rfl
    have j1 := frozen_of_row _ b 6 _ _ hB3
    have hS4 := slp_row hT4
    replace hS4 := show Hid (Slp W4 _ _) from hS4
    replace hB4 := show Hid (Blk W4 b _) from hB4
    replace hx4 := show Hid _ from hx4
    clear hT4 hB3 hT3 hx3
    go_wp2_with fail
    refine (awake_c _).mono ?_
    rintro e w5 ⟨rfl, hx5⟩
    replace hB4 := show Hid (Blk w5 b _) from hB4.out.ext hx5
    replace hS4 := show Hid (Slp w5 _ _) from hS4.out.ext hx5
    replace hx := show Hid (Ext w w5) from hx4.out.trans hx5
    clear hx4 hx5 hW4 j0 j1
    go_wp2_with (refine load27 hB4.out rfl rfl rfl rfl ?_)
    refine (Check_x [104, 111, 109, 101] 2 1 1 1 12 11 60000000 _ [] 100000000 1 2 3 4 1 _ [(5, 5)] 0 1 _ [] 0 (by decide +kernel) _ (by decide) (by decide) (by decide) (by decide) (nilr _) hS4.out (nilh _)).mono ?_
    rintro e w6 ⟨rfl, hx6⟩
    replace hx := show Hid (Ext w w6) from hx.out.trans hx6
    clear hx6 hB4 hS4
    go_wp2
    go_ret
    exact ⟨rfl, hx.out⟩
  · have hB4 : Blk (W3.setCell ⟨b, 6, none⟩ (.int .i64 12)) b #[.string ⟨[104, 111, 109, 101].toArray⟩, .int .i64 2, .int .i64 1, .int .i64 1, .int .i64 1, .int .i64 12, .int .i64 12, .int .i64 60000000, .slice none 0 0, .int .i64 100000000, .int .i64 1, .int .i64 2, .int .i64 3, .int .i64 4, .int .i64 1, .slice (some ⟨b + 1, 0, none⟩) 1 1, .int .i64 0, .int .i64 1, .slice none 0 0] := hB3.set 6 _
    have hT4 : (W3.setCell ⟨b, 6, none⟩ (.int .i64 12)).heap[b + 1]? = some (.cells #[.int .i64 5, .int .i64 5] 34 (0, 0)) := by rw [heap_setCell_other _ _ _ _ (by show b + 1 ≠ b; omega)]; exact hT3
    have hx4 : Ext w (W3.setCell ⟨b, 6, none⟩ (.int .i64 12)) := hx3.setCell hbw _
    obtain ⟨W4, hW4⟩ : ∃ W, W3.setCell ⟨b, 6, none⟩ (.int .i64 12) = W := ⟨_, rfl⟩
    rw [hW4] at hB4 hT4 hx4
    have j0 : W3.cell? ⟨b, 6, none⟩ = some (.int .i64 0) := (cell_of_row _ b 6 _ _ _ hB3).trans rfl
    have j1 := frozen_of_row _ b 6 _ _ hB3
    have hS4 := slp_row hT4
    replace hS4 := show Hid (Slp W4 _ _) from hS4
    replace hB4 := show Hid (Blk W4 b _) from hB4
    replace hx4 := show Hid _ from hx4
    clear hT4 hB3 hT3 hx3
    go_wp2_with fail
    refine (awake_c _).mono ?_
    rintro e w5 ⟨rfl, hx5⟩
    replace hB4 := show Hid (Blk w5 b _) from hB4.out.ext hx5
    replace hS4 := show Hid (Slp w5 _ _) from hS4.out.ext hx5
    replace hx := show Hid (Ext w w5) from hx4.out.trans hx5
    clear hx4 hx5 hW4 j0 j1
    go_wp2_with (refine load27 hB4.out rfl rfl rfl rfl ?_)
    refine (Check_x [104, 111, 109, 101] 2 1 1 1 12 12 60000000 _ [] 100000000 1 2 3 4 1 _ [(5, 5)] 0 1 _ [] 9 (by decide +kernel) _ (by decide) (by decide) (by decide) (by decide) (nilr _) hS4.out (nilh _)).mono ?_
    rintro e w6 ⟨rfl, hx6⟩
    replace hx := show Hid (Ext w w6) from hx.out.trans hx6
    clear hx6 hB4 hS4
    go_wp2
    go_ret
    exact ⟨rfl, hx.out⟩
set_option maxHeartbeats 4000000 in
theorem bnd4 (a0 : Int) (a1 a2 : Bool) (w : World) (hR : (IntKind.u64.wrap a0).tmod 10 = 4) :
    Calls Try.prog 4 #[.int .i64 a0, .bool a1, .bool a2] w fun e w' => e = .returned (.bool true) ∧ Ext w w' := by
  have hsz := sz_plain
  go_enter Try.func4, Try.ntmps4
  go_wp2_with fail
  refine (Plain_c _).mono ?_
  rintro e w1 ⟨rfl, hx⟩
  obtain ⟨W0, W1, b, hW0, hb, hs0, hst, hs1, hB, hx1⟩ := lay_plain w1
  obtain ⟨W2, W3, hW2, k0, k1, hW3, hB3, hT3, hx3⟩ := lay_tier hs1 hB hx1 (by omega)
  have hbw : w.heap.size ≤ b := by have := hx.size; omega
  replace hx3 := hx.trans hx3
  clear hx hx1 hB
  go_upto_region 3 with fail
  clear hW0 hb hs0 hst hW2 k0 k1 hW3 hs1 hsz
  cases a1 <;> cases a2
  · have hB4 : Blk (W3.setCell ⟨b, 7, none⟩ (.int .i64 0)) b #[.string ⟨[104, 111, 109, 101].toArray⟩, .int .i64 2, .int .i64 1, .int .i64 1, .int .i64 1, .int .i64 12, .int .i64 0, .int .i64 0, .slice none 0 0, .int .i64 100000000, .int .i64 1, .int .i64 2, .int .i64 3, .int .i64 4, .int .i64 1, .slice (some ⟨b + 1, 0, none⟩) 1 1, .int .i64 0, .int .i64 1, .slice none 0 0] := hB3.set 7 _
    have hT4 : (W3.setCell ⟨b, 7, none⟩ (.int .i64 0)).heap[b + 1]? = some (.cells #[.int .i64 5, .int .i64 5] 34 (0, 0)) := by rw [heap_setCell_other _ _ _ _ (by show b + 1 ≠ b; omega)]; exact hT3
    have hx4 : Ext w (W3.setCell ⟨b, 7, none⟩ (.int .i64 0)) := hx3.setCell hbw _
    obtain ⟨W4, hW4⟩ : ∃ W, W3.setCell ⟨b, 7, none⟩ (.int .i64 0) = W := ⟨_, rfl⟩
    rw [hW4] at hB4 hT4 hx4
    have j0 : W3.cell? ⟨b, 7, none⟩ = some (.int .i64 60000000) := (cell_of_row _ b 7 _ _ _ hB3).trans rfl
    have j1 := frozen_of_row _ b 7 _ _ hB3
    have hS4 := slp_row hT4
    replace hS4 := show Hid (Slp W4 _ _) from hS4
    replace hB4 := show Hid (Blk W4 b _) from hB4
    replace hx4 := show Hid _ from hx4
    clear hT4 hB3 hT3 hx3
    go_wp2_with fail
    refine (awake_c _).mono ?_
    rintro e w5 ⟨rfl, hx5⟩
    replace hB4 := show Hid (Blk w5 b _) from hB4.out.ext hx5
    replace hS4 := show Hid (Slp w5 _ _) from hS4.out.ext hx5
    replace hx := show Hid (Ext w w5) from hx4.out.trans hx5
    clear hx4 hx5 hW4 j0 j1
    go_wp2_with (refine load27 hB4.out rfl rfl rfl rfl ?_)
    refine (Check_x [104, 111, 109, 101] 2 1 1 1 12 0 0 _ [] 100000000 1 2 3 4 1 _ [(5, 5)] 0 1 _ [] 0 (by decide +kernel) _ (by decide) (by decide) (by decide) (by decide) (nilr _) hS4.out (nilh _)).mono ?_
    rintro e w6 ⟨rfl, hx6⟩
    replace hx := show Hid (Ext w w6) from hx.out.trans hx6
    clear hx6 hB4 hS4
    go_wp2
    go_ret
    exact ⟨rfl, hx.out⟩
  · have hB4 : Blk (W3.setCell ⟨b, 7, none⟩ (.int .i64 (-1))) b #[.string ⟨[104, 111, 109, 101].toArray⟩, .int .i64 2, .int .i64 1, .int .i64 1, .int .i64 1, .int .i64 12, .int .i64 0, .int .i64 (-1), .slice none 0 0, .int .i64 100000000, .int .i64 1, .int .i64 2, .int .i64 3, .int .i64 4, .int .i64 1, .slice (some ⟨b + 1, 0, none⟩) 1 1, .int .i64 0, .int .i64 1, .slice none 0 0] := hB3.set 7 _
    have hT4 : (W3.setCell ⟨b, 7, none⟩ (.int .i64 (-1))).heap[b + 1]? = some (.cells #[.int .i64 5, .int .i64 5] 34 (0, 0)) := by rw [heap_setCell_other _ _ _ _ (by show b + 1 ≠ b; omega)]; exact hT3
    have hx4 : Ext w (W3.setCell ⟨b, 7, none⟩ (.int .i64 (-1))) := hx3.setCell hbw _
    obtain ⟨W4, hW4⟩ : ∃ W, W3.setCell ⟨b, 7, none⟩ (.int .i64 (-1)) = W := ⟨_, rfl⟩
    rw [hW4] at hB4 hT4 hx4
    have j0 : W3.cell? ⟨b, 7, none⟩ = some (.int .i64 60000000) := (cell_of_row _ b 7 _ _ _ hB3).trans rfl
    have j1 := frozen_of_row _ b 7 _ _ hB3
    have hS4 := slp_row hT4
    replace hS4 := show Hid (Slp W4 _ _) from hS4
    replace hB4 := show Hid (Blk W4 b _) from hB4
    replace hx4 := show Hid _ from hx4
    clear hT4 hB3 hT3 hx3
    go_wp2_with fail
    refine (awake_c _).mono ?_
    rintro e w5 ⟨rfl, hx5⟩
    replace hB4 := show Hid (Blk w5 b _) from hB4.out.ext hx5
    replace hS4 := show Hid (Slp w5 _ _) from hS4.out.ext hx5
    replace hx := show Hid (Ext w w5) from hx4.out.trans hx5
    clear hx4 hx5 hW4 j0 j1
    go_wp2_with (refine load27 hB4.out rfl rfl rfl rfl ?_)
    refine (Check_x [104, 111, 109, 101] 2 1 1 1 12 0 (-1) _ [] 100000000 1 2 3 4 1 _ [(5, 5)] 0 1 _ [] 9 (by decide +kernel) _ (by decide) (by decide) (by decide) (by decide) (nilr _) hS4.out (nilh _)).mono ?_
    rintro e w6 ⟨rfl, hx6⟩
    replace hx := show Hid (Ext w w6) from hx.out.trans hx6
    clear hx6 hB4 hS4
    go_wp2
    go_ret
    exact ⟨rfl, hx.out⟩
  · have hB4 : Blk (W3.setCell ⟨b, 7, none⟩ (.int .i64 1000000000)) b #[.string ⟨[104, 111, 109, 101].toArray⟩, .int .i64 2, .int .i64 1, .int .i64 1, .int .i64 1, .int .i64 12, .int .i64 0, .int .i64 1000000000, .slice none 0 0, .int .i64 100000000, .int .i64 1, .int .i64 2, .int .i64 3, .int .i64 4, .int .i64 1, .slice (some ⟨b + 1, 0, none⟩) 1 1, .int .i64 0, .int .i64 1, .slice none 0 0] := hB3.set 7 _
    have hT4 : (W3.setCell ⟨b, 7, none⟩ (.int .i64 1000000000)).heap[b + 1]? = some (.cells #[.int .i64 5, .int .i64 5] 34 (0, 0)) := by rw [heap_setCell_other _ _ _ _ (by show b + 1 ≠ b; omega)]; exact hT3
    have hx4 : Ext w (W3.setCell ⟨b, 7, none⟩ (.int .i64 1000000000)) := hx3.setCell hbw _
    obtain ⟨W4, hW4⟩ : ∃ W, W3.setCell ⟨b, 7, none⟩ (.int .i64 1000000000) = W := ⟨_, rfl⟩
    rw [hW4] at hB4 hT4 hx4
    have j0 : W3.cell? ⟨b, 7, none⟩ = some (.int .i64 60000000) := (cell_of_row _ b 7 _ _ _ hB3).trans rfl
    have j1 := frozen_of_row _ b 7 _ _ hB3
    have hS4 := slp_row hT4
    replace hS4 := show Hid (Slp W4 _ _) from hS4
    replace hB4 := show Hid (Blk W4 b _) from hB4
    replace hx4 := show Hid _ from hx4
    clear hT4 hB3 hT3 hx3
    go_wp2_with fail
    refine (awake_c _).mono ?_
    rintro e w5 ⟨rfl, hx5⟩
    replace hB4 := show Hid (Blk w5 b _) from hB4.out.ext hx5
    replace hS4 := show Hid (Slp w5 _ _) from hS4.out.ext hx5
    replace hx := show Hid (Ext w w5) from hx4.out.trans hx5
    clear hx4 hx5 hW4 j0 j1
    go_wp2_with (refine load27 hB4.out rfl rfl rfl rfl ?_)
    refine (Check_x [104, 111, 109, 101] 2 1 1 1 12 0 1000000000 _ [] 100000000 1 2 3 4 1 _ [(5, 5)] 0 1 _ [] 0 (by decide +kernel) _ (by decide) (by decide) (by decide) (by decide) (nilr _) hS4.out (nilh _)).mono ?_
    rintro e w6 ⟨rfl, hx6⟩
    replace hx := show Hid (Ext w w6) from hx.out.trans hx6
    clear hx6 hB4 hS4
    go_wp2
    go_ret
    exact ⟨rfl, hx.out⟩
  · have hB4 : Blk (W3.setCell ⟨b, 7, none⟩ (.int .i64 1000000001)) b #[.string ⟨[104, 111, 109, 101].toArray⟩, .int .i64 2, .int .i64 1, .int .i64 1, .int .i64 1, .int .i64 12, .int .i64 0, .int .i64 1000000001, .slice none 0 0, .int .i64 100000000, .int .i64 1, .int .i64 2, .int .i64 3, .int .i64 4, .int .i64 1, .slice (some ⟨b + 1, 0, none⟩) 1 1, .int .i64 0, .int .i64 1, .slice none 0 0] := hB3.set 7 _
    have hT4 : (W3.setCell ⟨b, 7, none⟩ (.int .i64 1000000001)).heap[b + 1]? = some (.cells #[.int .i64 5, .int .i64 5] 34 (0, 0)) := by rw [heap_setCell_other _ _ _ _ (by show b + 1 ≠ b; omega)]; exact hT3
    have hx4 : Ext w (W3.setCell ⟨b, 7, none⟩ (.int .i64 1000000001)) := hx3.setCell hbw _
    obtain ⟨W4, hW4⟩ : ∃ W, W3.setCell ⟨b, 7, none⟩ (.int .i64 1000000001) = W := ⟨_, rfl⟩
    rw [hW4] at hB4 hT4 hx4
    have j0 : W3.cell? ⟨b, 7, none⟩ = some (.int .i64 60000000) := (cell_of_row _ b 7 _ _ _ hB3).trans rfl
    have j1 := frozen_of_row _ b 7 _ _ hB3
    have hS4 := slp_row hT4
    replace hS4 := show Hid (Slp W4 _ _) from hS4
    replace hB4 := show Hid (Blk W4 b _) from hB4
    replace hx4 := show Hid _ from hx4
    clear hT4 hB3 hT3 hx3
    go_wp2_with fail
    refine (awake_c _).mono ?_
    rintro e w5 ⟨rfl, hx5⟩
    replace hB4 := show Hid (Blk w5 b _) from hB4.out.ext hx5
    replace hS4 := show Hid (Slp w5 _ _) from hS4.out.ext hx5
    replace hx := show Hid (Ext w w5) from hx4.out.trans hx5
    clear hx4 hx5 hW4 j0 j1
    go_wp2_with (refine load27 hB4.out rfl rfl rfl rfl ?_)
    refine (Check_x [104, 111, 109, 101] 2 1 1 1 12 0 1000000001 _ [] 100000000 1 2 3 4 1 _ [(5, 5)] 0 1 _ [] 9 (by decide +kernel) _ (by decide) (by decide) (by decide) (by decide) (nilr _) hS4.out (nilh _)).mono ?_
    rintro e w6 ⟨rfl, hx6⟩
    replace hx := show Hid (Ext w w6) from hx.out.trans hx6
    clear hx6 hB4 hS4
    go_wp2
    go_ret
    exact ⟨rfl, hx.out⟩
set_option maxHeartbeats 4000000 in
theorem bnd5 (a0 : Int) (a1 a2 : Bool) (w : World) (hR : (IntKind.u64.wrap a0).tmod 10 = 5) :
    Calls Try.prog 4 #[.int .i64 a0, .bool a1, .bool a2] w fun e w' => e = .returned (.bool true) ∧ Ext w w' := by
  have hsz := sz_plain
  go_enter Try.func4, Try.ntmps4
  go_wp2_with fail
  refine (Plain_c _).mono ?_
  rintro e w1 ⟨rfl, hx⟩
  obtain ⟨W0, W1, b, hW0, hb, hs0, hst, hs1, hB, hx1⟩ := lay_plain w1
  obtain ⟨W2, W3, hW2, k0, k1, hW3, hB3, hT3, hx3⟩ := lay_tier hs1 hB hx1 (by omega)
  have hbw : w.heap.size ≤ b := by have := hx.size; omega
  replace hx3 := hx.trans hx3
  clear hx hx1 hB
  go_upto_region 3 with fail
  clear hW0 hb hs0 hst hW2 k0 k1 hW3 hs1 hsz
  cases a1 <;> cases a2
  · have hB4 : Blk (W3.setCell ⟨b, 9, none⟩ (.int .i64 0)) b #[.string ⟨[104, 111, 109, 101].toArray⟩, .int .i64 2, .int .i64 1, .int .i64 1, .int .i64 1, .int .i64 12, .int .i64 0, .int .i64 60000000, .slice none 0 0, .int .i64 0, .int .i64 1, .int .i64 2, .int .i64 3, .int .i64 4, .int .i64 1, .slice (some ⟨b + 1, 0, none⟩) 1 1, .int .i64 0, .int .i64 1, .slice none 0 0] := hB3.set 9 _
    have hT4 : (W3.setCell ⟨b, 9, none⟩ (.int .i64 0)).heap[b + 1]? = some (.cells #[.int .i64 5, .int .i64 5] 34 (0, 0)) := by rw [heap_setCell_other _ _ _ _ (by show b + 1 ≠ b; omega)]; exact hT3
    have hx4 : Ext w (W3.setCell ⟨b, 9, none⟩ (.int .i64 0)) := hx3.setCell hbw _
    obtain ⟨W4, hW4⟩ : ∃ W, W3.setCell ⟨b, 9, none⟩ (.int .i64 0) = W := ⟨_, rfl⟩
    rw [hW4] at hB4 hT4 hx4
    have j0 : W3.cell? ⟨b, 9, none⟩ = some (.int .i64 100000000) := (cell_of_row _ b 9 _ _ _ hB3).trans rfl
    have j1 := frozen_of_row _ b 9 _ _ hB3
    have hS4 := slp_row hT4
    replace hS4 := show Hid (Slp W4 _ _) from hS4
    replace hB4 := show Hid (Blk W4 b _) from hB4
    replace hx4 := show Hid _ from hx4
    clear hT4 hB3 hT3 hx3
    go_wp2_with fail
    refine (awake_c _).mono ?_
    rintro e w5 ⟨rfl, hx5⟩
    replace hB4 := show Hid (Blk w5 b _) from hB4.out.ext hx5
    replace hS4 := show Hid (Slp w5 _ _) from hS4.out.ext hx5
    replace hx := show Hid (Ext w w5) from hx4.out.trans hx5
    clear hx4 hx5 hW4 j0 j1
    go_wp2_with (refine load27 hB4.out rfl rfl rfl rfl ?_)
    refine (Check_x [104, 111, 109, 101] 2 1 1 1 12 0 60000000 _ [] 0 1 2 3 4 1 _ [(5, 5)] 0 1 _ [] 0 (by decide +kernel) _ (by decide) (by decide) (by decide) (by decide) (nilr _) hS4.out (nilh _)).mono ?_
    rintro e w6 ⟨rfl, hx6⟩
    replace hx := show Hid (Ext w w6) from hx.out.trans hx6
    clear hx6 hB4 hS4
    go_wp2
    go_ret
    exact ⟨rfl, hx.out⟩
  · have hB4 : Blk (W3.setCell ⟨b, 9, none⟩ (.int .i64 (-1))) b #[.string ⟨[104, 111, 109, 101].toArray⟩, .int .i64 2, .int .i64 1, .int .i64 1, .int .i64 1, .int .i64 12, .int .i64 0, .int .i64 60000000, .slice none 0 0, .int .i64 (-1), .int .i64 1, .int .i64 2, .int .i64 3, .int .i64 4, .int .i64 1, .slice (some ⟨b + 1, 0, none⟩) 1 1, .int .i64 0, .int .i64 1, .slice none 0 0] := hB3.set 9 _
    have hT4 : (W3.setCell ⟨b, 9, none⟩ (.int .i64 (-1))).heap[b + 1]? = some (.cells #[.int .i64 5, .int .i64 5] 34 (0, 0)) := by rw [heap_setCell_other _ _ _ _ (by show b + 1 ≠ b; omega)]; exact hT3
    have hx4 : Ext w (W3.setCell ⟨b, 9, none⟩ (.int .i64 (-1))) := hx3.setCell hbw _
    obtain ⟨W4, hW4⟩ : ∃ W, W3.setCell ⟨b, 9, none⟩ (.int .i64 (-1)) = W := ⟨_, rfl⟩
    rw [hW4] at hB4 hT4 hx4
    have j0 : W3.cell? ⟨b, 9, none⟩ = some (.int .i64 100000000) := (cell_of_row _ b 9 _ _ _ hB3).trans rfl
    have j1 := frozen_of_row _ b 9 _ _ hB3
    have hS4 := slp_row hT4
    replace hS4 := show Hid (Slp W4 _ _) from hS4
    replace hB4 := show Hid (Blk W4 b _) from hB4
    replace hx4 := show Hid _ from hx4
    clear hT4 hB3 hT3 hx3
    go_wp2_with fail
    refine (awake_c _).mono ?_
    rintro e w5 ⟨rfl, hx5⟩
    replace hB4 := show Hid (Blk w5 b _) from hB4.out.ext hx5
    replace hS4 := show Hid (Slp w5 _ _) from hS4.out.ext hx5
    replace hx := show Hid (Ext w w5) from hx4.out.trans hx5
    clear hx4 hx5 hW4 j0 j1
    go_wp2_with (refine load27 hB4.out rfl rfl rfl rfl ?_)
    refine (Check_x [104, 111, 109, 101] 2 1 1 1 12 0 60000000 _ [] (-1) 1 2 3 4 1 _ [(5, 5)] 0 1 _ [] 9 (by decide +kernel) _ (by decide) (by decide) (by decide) (by decide) (nilr _) hS4.out (nilh _)).mono ?_
    rintro e w6 ⟨rfl, hx6⟩
    replace hx := show Hid (Ext w w6) from hx.out.trans hx6
    clear hx6 hB4 hS4
    go_wp2
    go_ret
    exact ⟨rfl, hx.out⟩
  · have hB4 : Blk (W3.setCell ⟨b, 9, none⟩ (.int .i64 1000000000)) b #[.string ⟨[104, 111, 109, 101].toArray⟩, .int .i64 2, .int .i64 1, .int .i64 1, .int .i64 1, .int .i64 12, .int .i64 0, .int .i64 60000000, .slice none 0 0, .int .i64 1000000000, .int .i64 1, .int .i64 2, .int .i64 3, .int .i64 4, .int .i64 1, .slice (some ⟨b + 1, 0, none⟩) 1 1, .int .i64 0, .int .i64 1, .slice none 0 0] := hB3.set 9 _
    have hT4 : (W3.setCell ⟨b, 9, none⟩ (.int .i64 1000000000)).heap[b + 1]? = some (.cells #[.int .i64 5, .int .i64 5] 34 (0, 0)) := by rw [heap_setCell_other _ _ _ _ (by show b + 1 ≠ b; omega)]; exact hT3
    have hx4 : Ext w (W3.setCell ⟨b, 9, none⟩ (.int .i64 1000000000)) := hx3.setCell hbw _
    obtain ⟨W4, hW4⟩ : ∃ W, W3.setCell ⟨b, 9, none⟩ (.int .i64 1000000000) = W := ⟨_, rfl⟩
    rw [hW4] at hB4 hT4 hx4
    have j0 : W3.cell? ⟨b, 9, none⟩ = some (.int .i64 100000000) := (cell_of_row _ b 9 _ _ _ hB3).trans rfl
    have j1 := frozen_of_row _ b 9 _ _ hB3
    have hS4 := slp_row hT4
    replace hS4 := show Hid (Slp W4 _ _) from hS4
    replace hB4 := show Hid (Blk W4 b _) from hB4
    replace hx4 := show Hid _ from hx4
    clear hT4 hB3 hT3 hx3
    go_wp2_with fail
    refine (awake_c _).mono ?_
    rintro e w5 ⟨rfl, hx5⟩
    replace hB4 := show Hid (Blk w5 b _) from hB4.out.ext hx5
    replace hS4 := show Hid (Slp w5 _ _) from hS4.out.ext hx5
    replace hx := show Hid (Ext w w5) from hx4.out.trans hx5
    clear hx4 hx5 hW4 j0 j1
    go_wp2_with (refine load27 hB4.out rfl rfl rfl rfl ?_)
    refine (Check_x [104, 111, 109, 101] 2 1 1 1 12 0 60000000 _ [] 1000000000 1 2 3 4 1 _ [(5, 5)] 0 1 _ [] 0 (by decide +kernel) _ (by decide) (by decide) (by decide) (by decide) (nilr _) hS4.out (nilh _)).mono ?_
    rintro e w6 ⟨rfl, hx6⟩
    replace hx := show Hid (Ext w w6) from hx.out.trans hx6
    clear hx6 hB4 hS4
    go_wp2
    go_ret
    exact ⟨rfl, hx.out⟩
  · have hB4 : Blk (W3.setCell ⟨b, 9, none⟩ (.int .i64 1000000001)) b #[.string ⟨[104, 111, 109, 101].toArray⟩, .int .i64 2, .int .i64 1, .int .i64 1, .int .i64 1, .int .i64 12, .int .i64 0, .int .i64 60000000, .slice none 0 0, .int .i64 1000000001, .int .i64 1, .int .i64 2, .int .i64 3, .int .i64 4, .int .i64 1, .slice (some ⟨b + 1, 0, none⟩) 1 1, .int .i64 0, .int .i64 1, .slice none 0 0] := hB3.set 9 _
    have hT4 : (W3.setCell ⟨b, 9, none⟩ (.int .i64 1000000001)).heap[b + 1]? = some (.cells #[.int .i64 5, .int .i64 5] 34 (0, 0)) := by rw [heap_setCell_other _ _ _ _ (by show b + 1 ≠ b; omega)]; exact hT3
    have hx4 : Ext w (W3.setCell ⟨b, 9, none⟩ (.int .i64 1000000001)) := hx3.setCell hbw _
    obtain ⟨W4, hW4⟩ : ∃ W, W3.setCell ⟨b, 9, none⟩ (.int .i64 1000000001) = W := ⟨_, rfl⟩
    rw [hW4] at hB4 hT4 hx4
    have j0 : W3.cell? ⟨b, 9, none⟩ = some (.int .i64 100000000) := (cell_of_row _ b 9 _ _ _ hB3).trans rfl
    have j1 := frozen_of_row _ b 9 _ _ hB3
    have hS4 := slp_row hT4
    replace hS4 := show Hid (Slp W4 _ _) from hS4
    replace hB4 := show Hid (Blk W4 b _) from hB4
    replace hx4 := show Hid _ from hx4
    clear hT4 hB3 hT3 hx3
    go_wp2_with fail
    refine (awake_c _).mono ?_
    rintro e w5 ⟨rfl, hx5⟩
    replace hB4 := show Hid (Blk w5 b _) from hB4.out.ext hx5
    replace hS4 := show Hid (Slp w5 _ _) from hS4.out.ext hx5
    replace hx := show Hid (Ext w w5) from hx4.out.trans hx5
    clear hx4 hx5 hW4 j0 j1
    go_wp2_with (refine load27 hB4.out rfl rfl rfl rfl ?_)
    refine (Check_x [104, 111, 109, 101] 2 1 1 1 12 0 60000000 _ [] 1000000001 1 2 3 4 1 _ [(5, 5)] 0 1 _ [] 9 (by decide +kernel) _ (by decide) (by decide) (by decide) (by decide) (nilr _) hS4.out (nilh _)).mono ?_
    rintro e w6 ⟨rfl, hx6⟩
    replace hx := show Hid (Ext w w6) from hx.out.trans hx6
    clear hx6 hB4 hS4
    go_wp2
    go_ret
    exact ⟨rfl, hx.out⟩
set_option maxHeartbeats 4000000 in
theorem bnd6 (a0 : Int) (a1 a2 : Bool) (w : World) (hR : (IntKind.u64.wrap a0).tmod 10 = 6) :
    Calls Try.prog 4 #[.int .i64 a0, .bool a1, .bool a2] w fun e w' => e = .returned (.bool true) ∧ Ext w w' := by
  have hsz := sz_plain
  go_enter Try.func4, Try.ntmps4
  go_wp2_with fail
  refine (Plain_c _).mono ?_
  rintro e w1 ⟨rfl, hx⟩
  obtain ⟨W0, W1, b, hW0, hb, hs0, hst, hs1, hB, hx1⟩ := lay_plain w1
  obtain ⟨W2, W3, hW2, k0, k1, hW3, hB3, hT3, hx3⟩ := lay_tier hs1 hB hx1 (by omega)
  have hbw : w.heap.size ≤ b := by have := hx.size; omega
  replace hx3 := hx.trans hx3
  clear hx hx1 hB
  go_upto_region 3 with fail
  clear hW0 hb hs0 hst hW2 k0 k1 hW3 hs1 hsz
  cases a1 <;> cases a2
  · have hB4 : Blk (W3.setCell ⟨b, 14, none⟩ (.int .i64 1)) b #[.string ⟨[104, 111, 109, 101].toArray⟩, .int .i64 2, .int .i64 1, .int .i64 1, .int .i64 1, .int .i64 12, .int .i64 0, .int .i64 60000000, .slice none 0 0, .int .i64 100000000, .int .i64 1, .int .i64 2, .int .i64 3, .int .i64 4, .int .i64 1, .slice (some ⟨b + 1, 0, none⟩) 1 1, .int .i64 0, .int .i64 1, .slice none 0 0] := hB3.set 14 _
    have hT4 : (W3.setCell ⟨b, 14, none⟩ (.int .i64 1)).heap[b + 1]? = some (.cells #[.int .i64 5, .int .i64 5] 34 (0, 0)) := by rw [heap_setCell_other _ _ _ _ (by show b + 1 ≠ b; omega)]; exact hT3
    have hx4 : Ext w (W3.setCell ⟨b, 14, none⟩ (.int .i64 1)) := hx3.setCell hbw _
    obtain ⟨W4, hW4⟩ : ∃ W, W3.setCell ⟨b, 14, none⟩ (.int .i64 1) = W := ⟨_, rfl⟩
    rw [hW4] at hB4 hT4 hx4
    have j0 : W3.cell? ⟨b, 14, none⟩ = some (.int .i64 1) := (cell_of_row _ b 14 _ _ _ hB3).trans rfl
    have j1 := frozen_of_row _ b 14 _ _ hB3
    have hS4 := slp_row hT4
    replace hS4 := show Hid (Slp W4 _ _) from hS4
    replace hB4 := show Hid (Blk W4 b _) from hB4
    replace hx4 := show Hid _ from hx4
    clear hT4 hB3 hT3 hx3
    go_wp2_with fail
    refine (awake_c _).mono ?_
    rintro e w5 ⟨rfl, hx5⟩
    replace hB4 := show Hid (Blk w5 b _) from hB4.out.ext hx5
    replace hS4 := show Hid (Slp w5 _ _) from hS4.out.ext hx5
    replace hx := show Hid (Ext w w5) from hx4.out.trans hx5
    clear hx4 hx5 hW4 j0 j1
    go_wp2_with (refine load27 hB4.out rfl rfl rfl rfl ?_)
    refine (Check_x [104, 111, 109, 101] 2 1 1 1 12 0 60000000 _ [] 100000000 1 2 3 4 1 _ [(5, 5)] 0 1 _ [] 0 (by decide +kernel) _ (by decide) (by decide) (by decide) (by decide) (nilr _) hS4.out (nilh _)).mono ?_
    rintro e w6 ⟨rfl, hx6⟩
    replace hx := show Hid (Ext w w6) from hx.out.trans hx6
    clear hx6 hB4 hS4
    go_wp2
    go_ret
    exact ⟨rfl, hx.out⟩
  · have hB4 : Blk (W3.setCell ⟨b, 14, none⟩ (.int .i64 0)) b #[.string ⟨[104, 111, 109, 101].toArray⟩, .int .i64 2, .int .i64 1, .int .i64 1, .int .i64 1, .int .i64 12, .int .i64 0, .int .i64 60000000, .slice none 0 0, .int .i64 100000000, .int .i64 1, .int .i64 2, .int .i64 3, .int .i64 4, .int .i64 0, .slice (some ⟨b + 1, 0, none⟩) 1 1, .int .i64 0, .int .i64 1, .slice none 0 0] := hB3.set 14 _
    have hT4 : (W3.setCell ⟨b, 14, none⟩ (.int .i64 0)).heap[b + 1]? = some (.cells #[.int .i64 5, .int .i64 5] 34 (0, 0)) := by rw [heap_setCell_other _ _ _ _ (by show b + 1 ≠ b; omega)]; exact hT3
    have hx4 : Ext w (W3.setCell ⟨b, 14, none⟩ (.int .i64 0)) := hx3.setCell hbw _
    obtain ⟨W4, hW4⟩ : ∃ W, W3.setCell ⟨b, 14, none⟩ (.int .i64 0) = W := ⟨_, rfl⟩
    rw [hW4] at hB4 hT4 hx4
    have j0 : W3.cell? ⟨b, 14, none⟩ = some (.int .i64 1) := (cell_of_row _ b 14 _ _ _ hB3).trans rfl
    have j1 := frozen_of_row _ b 14 _ _ hB3
    have hS4 := slp_row hT4
    replace hS4 := show Hid (Slp W4 _ _) from hS4
    replace hB4 := show Hid (Blk W4 b _) from hB4
    replace hx4 := show Hid _ from hx4
    clear hT4 hB3 hT3 hx3
    go_wp2_with fail
    refine (awake_c _).mono ?_
    rintro e w5 ⟨rfl, hx5⟩
    replace hB4 := show Hid (Blk w5 b _) from hB4.out.ext hx5
    replace hS4 := show Hid (Slp w5 _ _) from hS4.out.ext hx5
    replace hx := show Hid (Ext w w5) from hx4.out.trans hx5
    clear hx4 hx5 hW4 j0 j1
    go_wp2_with (refine load27 hB4.out rfl rfl rfl rfl ?_)
    refine (Check_x [104, 111, 109, 101] 2 1 1 1 12 0 60000000 _ [] 100000000 1 2 3 4 0 _ [(5, 5)] 0 1 _ [] 9 (by decide +kernel) _ (by decide) (by decide) (by decide) (by decide) (nilr _) hS4.out (nilh _)).mono ?_
    rintro e w6 ⟨rfl, hx6⟩
    replace hx := show Hid (Ext w w6) from hx.out.trans hx6
    clear hx6 hB4 hS4
    go_wp2
    go_ret
    exact ⟨rfl, hx.out⟩
  · have hB4 : Blk (W3.setCell ⟨b, 14, none⟩ (.int .i64 3)) b #[.string ⟨[104, 111, 109, 101].toArray⟩, .int .i64 2, .int .i64 1, .int .i64 1, .int .i64 1, .int .i64 12, .int .i64 0, .int .i64 60000000, .slice none 0 0, .int .i64 100000000, .int .i64 1, .int .i64 2, .int .i64 3, .int .i64 4, .int .i64 3, .slice (some ⟨b + 1, 0, none⟩) 1 1, .int .i64 0, .int .i64 1, .slice none 0 0] := hB3.set 14 _
    have hT4 : (W3.setCell ⟨b, 14, none⟩ (.int .i64 3)).heap[b + 1]? = some (.cells #[.int .i64 5, .int .i64 5] 34 (0, 0)) := by rw [heap_setCell_other _ _ _ _ (by show b + 1 ≠ b; omega)]; exact hT3
    have hx4 : Ext w (W3.setCell ⟨b, 14, none⟩ (.int .i64 3)) := hx3.setCell hbw _
    obtain ⟨W4, hW4⟩ : ∃ W, W3.setCell ⟨b, 14, none⟩ (.int .i64 3) = W := ⟨_, rfl⟩
    rw [hW4] at hB4 hT4 hx4
    have j0 : W3.cell? ⟨b, 14, none⟩ = some (.int .i64 1) := (cell_of_row _ b 14 _ _ _ hB3).trans rfl
    have j1 := frozen_of_row _ b 14 _ _ hB3
    have hS4 := slp_row hT4
    replace hS4 := show Hid (Slp W4 _ _) from hS4
    replace hB4 := show Hid (Blk W4 b _) from hB4
    replace hx4 := show Hid _ from hx4
    clear hT4 hB3 hT3 hx3
    go_wp2_with fail
    refine (awake_c _).mono ?_
    rintro e w5 ⟨rfl, hx5⟩
    replace hB4 := show Hid (Blk w5 b _) from hB4.out.ext hx5
    replace hS4 := show Hid (Slp w5 _ _) from hS4.out.ext hx5
    replace hx := show Hid (Ext w w5) from hx4.out.trans hx5
    clear hx4 hx5 hW4 j0 j1
    go_wp2_with (refine load27 hB4.out rfl rfl rfl rfl ?_)
    refine (Check_x [104, 111, 109, 101] 2 1 1 1 12 0 60000000 _ [] 100000000 1 2 3 4 3 _ [(5, 5)] 0 1 _ [] 0 (by decide +kernel) _ (by decide) (by decide) (by decide) (by decide) (nilr _) hS4.out (nilh _)).mono ?_
    rintro e w6 ⟨rfl, hx6⟩
    replace hx := show Hid (Ext w w6) from hx.out.trans hx6
    clear hx6 hB4 hS4
    go_wp2
    go_ret
    exact ⟨rfl, hx.out⟩
  · have hB4 : Blk (W3.setCell ⟨b, 14, none⟩ (.int .i64 4)) b #[.string ⟨[104, 111, 109, 101].toArray⟩, .int .i64 2, .int .i64 1, .int .i64 1, .int .i64 1, .int .i64 12, .int .i64 0, .int .i64 60000000, .slice none 0 0, .int .i64 100000000, .int .i64 1, .int .i64 2, .int .i64 3, .int .i64 4, .int .i64 4, .slice (some ⟨b + 1, 0, none⟩) 1 1, .int .i64 0, .int .i64 1, .slice none 0 0] := hB3.set 14 _
    have hT4 : (W3.setCell ⟨b, 14, none⟩ (.int .i64 4)).heap[b + 1]? = some (.cells #[.int .i64 5, .int .i64 5] 34 (0, 0)) := by rw [heap_setCell_other _ _ _ _ (by show b + 1 ≠ b; omega)]; exact hT3
    have hx4 : Ext w (W3.setCell ⟨b, 14, none⟩ (.int .i64 4)) := hx3.setCell hbw _
    obtain ⟨W4, hW4⟩ : ∃ W, W3.setCell ⟨b, 14, none⟩ (.int .i64 4) = W := ⟨_, rfl⟩
    rw [hW4] at hB4 hT4 hx4
    have j0 : W3.cell? ⟨b, 14, none⟩ = some (.int .i64 1) := (cell_of_row _ b 14 _ _ _ hB3).trans rfl
    have j1 := frozen_of_row _ b 14 _ _ hB3
    have hS4 := slp_row hT4
    replace hS4 := show Hid (Slp W4 _ _) from hS4
    replace hB4 := show Hid (Blk W4 b _) from hB4
    replace hx4 := show Hid _ from hx4
    clear hT4 hB3 hT3 hx3
    go_wp2_with fail
    refine (awake_c _).mono ?_
    rintro e w5 ⟨rfl, hx5⟩
    replace hB4 := show Hid (Blk w5 b _) from hB4.out.ext hx5
    replace hS4 := show Hid (Slp w5 _ _) from hS4.out.ext hx5
    replace hx := show Hid (Ext w w5) from hx4.out.trans hx5
    clear hx4 hx5 hW4 j0 j1
    go_wp2_with (refine load27 hB4.out rfl rfl rfl rfl ?_)
    refine (Check_x [104, 111, 109, 101] 2 1 1 1 12 0 60000000 _ [] 100000000 1 2 3 4 4 _ [(5, 5)] 0 1 _ [] 9 (by decide +kernel) _ (by decide) (by decide) (by decide) (by decide) (nilr _) hS4.out (nilh _)).mono ?_
    rintro e w6 ⟨rfl, hx6⟩
    replace hx := show Hid (Ext w w6) from hx.out.trans hx6
    clear hx6 hB4 hS4
    go_wp2
    go_ret
    exact ⟨rfl, hx.out⟩
set_option maxHeartbeats 4000000 in
theorem bnd7 (a0 : Int) (a1 a2 : Bool) (w : World) (hR : (IntKind.u64.wrap a0).tmod 10 = 7) :
    Calls Try.prog 4 #[.int .i64 a0, .bool a1, .bool a2] w fun e w' => e = .returned (.bool true) ∧ Ext w w' := by
  have hsz := sz_plain
  go_enter Try.func4, Try.ntmps4
  go_wp2_with fail
  refine (Plain_c _).mono ?_
  rintro e w1 ⟨rfl, hx⟩
  obtain ⟨W0, W1, b, hW0, hb, hs0, hst, hs1, hB, hx1⟩ := lay_plain w1
  obtain ⟨W2, W3, hW2, k0, k1, hW3, hB3, hT3, hx3⟩ := lay_tier hs1 hB hx1 (by omega)
  have hbw : w.heap.size ≤ b := by have := hx.size; omega
  replace hx3 := hx.trans hx3
  clear hx hx1 hB
  go_upto_region 3 with fail
  clear hW0 hb hs0 hst hW2 k0 k1 hW3 hs1 hsz
  cases a1 <;> cases a2
  · have hB4 : Blk (W3.setCell ⟨b, 16, none⟩ (.int .i64 0)) b #[.string ⟨[104, 111, 109, 101].toArray⟩, .int .i64 2, .int .i64 1, .int .i64 1, .int .i64 1, .int .i64 12, .int .i64 0, .int .i64 60000000, .slice none 0 0, .int .i64 100000000, .int .i64 1, .int .i64 2, .int .i64 3, .int .i64 4, .int .i64 1, .slice (some ⟨b + 1, 0, none⟩) 1 1, .int .i64 0, .int .i64 1, .slice none 0 0] := hB3.set 16 _
    have hT4 : (W3.setCell ⟨b, 16, none⟩ (.int .i64 0)).heap[b + 1]? = some (.cells #[.int .i64 5, .int .i64 5] 34 (0, 0)) := by rw [heap_setCell_other _ _ _ _ (by show b + 1 ≠ b; omega)]; exact hT3
    have hx4 : Ext w (W3.setCell ⟨b, 16, none⟩ (.int .i64 0)) := hx3.setCell hbw _
    obtain ⟨W4, hW4⟩ : ∃ W, W3.setCell ⟨b, 16, none⟩ (.int .i64 0) = W := ⟨_, rfl⟩
    rw [hW4] at hB4 hT4 hx4
    have j0 : W3.cell? ⟨b, 16, none⟩ = some (.int .i64 0) := (cell_of_row _ b 16 _ _ _ hB3).trans rfl
    have j1 := frozen_of_row _ b 16 _ _ hB3
    have hS4 := slp_row hT4
    replace hS4 := show Hid (Slp W4 _ _) from hS4
    replace hB4 := show Hid (Blk W4 b _) from hB4
    replace hx4 := show Hid _ from hx4
    clear hT4 hB3 hT3 hx3
    go_wp2_with fail
    refine (awake_c _).mono ?_
    rintro e w5 ⟨rfl, hx5⟩
    replace hB4 := show Hid (Blk w5 b _) from hB4.out.ext hx5
    replace hS4 := show Hid (Slp w5 _ _) from hS4.out.ext hx5
    replace hx := show Hid (Ext w w5) from hx4.out.trans hx5
    clear hx4 hx5 hW4 j0 j1
    go_wp2_with (refine load27 hB4.out rfl rfl rfl rfl ?_)
    refine (Check_x [104, 111, 109, 101] 2 1 1 1 12 0 60000000 _ [] 100000000 1 2 3 4 1 _ [(5, 5)] 0 1 _ [] 0 (by decide +kernel) _ (by decide) (by decide) (by decide) (by decide) (nilr _) hS4.out (nilh _)).mono ?_
    rintro e w6 ⟨rfl, hx6⟩
    replace hx := show Hid (Ext w w6) from hx.out.trans hx6
    clear hx6 hB4 hS4
    go_wp2
    go_ret
    exact ⟨rfl, hx.out⟩
  · have hB4 : Blk (W3.setCell ⟨b, 16, none⟩ (.int .i64 (-1))) b #[.string ⟨[104, 111, 109, 101].toArray⟩, .int .i64 2, .int .i64 1, .int .i64 1, .int .i64 1, .int .i64 12, .int .i64 0, .int .i64 60000000, .slice none 0 0, .int .i64 100000000, .int .i64 1, .int .i64 2, .int .i64 3, .int .i64 4, .int .i64 1, .slice (some ⟨b + 1, 0, none⟩) 1 1, .int .i64 (-1), .int .i64 1, .slice none 0 0] := hB3.set 16 _
    have hT4 : (W3.setCell ⟨b, 16, none⟩ (.int .i64 (-1))).heap[b + 1]? = some (.cells #[.int .i64 5, .int .i64 5] 34 (0, 0)) := by rw [heap_setCell_other _ _ _ _ (by show b + 1 ≠ b; omega)]; exact hT3
    have hx4 : Ext w (W3.setCell ⟨b, 16, none⟩ (.int .i64 (-1))) := hx3.setCell hbw _
    obtain ⟨W4, hW4⟩ : ∃ W, W3.setCell ⟨b, 16, none⟩ (.int .i64 (-1)) = W := ⟨_, rfl⟩
    rw [hW4] at hB4 hT4 hx4
    have j0 : W3.cell? ⟨b, 16, none⟩ = some (.int .i64 0) := (cell_of_row _ b 16 _ _ _ hB3).trans rfl
    have j1 := frozen_of_row _ b 16 _ _ hB3
    have hS4 := slp_row hT4
    replace hS4 := show Hid (Slp W4 _ _) from hS4
    replace hB4 := show Hid (Blk W4 b _) from hB4
    replace hx4 := show Hid _ from hx4
    clear hT4 hB3 hT3 hx3
    go_wp2_with fail
    refine (awake_c _).mono ?_
    rintro e w5 ⟨rfl, hx5⟩
    replace hB4 := show Hid (Blk w5 b _) from hB4.out.ext hx5
    replace hS4 := show Hid (Slp w5 _ _) from hS4.out.ext hx5
    replace hx := show Hid (Ext w w5) from hx4.out.trans hx5
    clear hx4 hx5 hW4 j0 j1
    go_wp2_with (refine load27 hB4.out rfl rfl rfl rfl ?_)
    refine (Check_x [104, 111, 109, 101] 2 1 1 1 12 0 60000000 _ [] 100000000 1 2 3 4 1 _ [(5, 5)] (-1) 1 _ [] 9 (by decide +kernel) _ (by decide) (by decide) (by decide) (by decide) (nilr _) hS4.out (nilh _)).mono ?_
    rintro e w6 ⟨rfl, hx6⟩
    replace hx := show Hid (Ext w w6) from hx.out.trans hx6
    clear hx6 hB4 hS4
    go_wp2
    go_ret
    exact ⟨rfl, hx.out⟩
  · have hB4 : Blk (W3.setCell ⟨b, 16, none⟩ (.int .i64 10000000000000)) b #[.string ⟨[104, 111, 109, 101].toArray⟩, .int .i64 2, .int .i64 1, .int .i64 1, .int .i64 1, .int .i64 12, .int .i64 0, .int .i64 60000000, .slice none 0 0, .int .i64 100000000, .int .i64 1, .int .i64 2, .int .i64 3, .int .i64 4, .int .i64 1, .slice (some ⟨b + 1, 0, none⟩) 1 1, .int .i64 10000000000000, .int .i64 1, .slice none 0 0] := hB3.set 16 _
    have hT4 : (W3.setCell ⟨b, 16, none⟩ (.int .i64 10000000000000)).heap[b + 1]? = some (.cells #[.int .i64 5, .int .i64 5] 34 (0, 0)) := by rw [heap_setCell_other _ _ _ _ (by show b + 1 ≠ b; omega)]; exact hT3
    have hx4 : Ext w (W3.setCell ⟨b, 16, none⟩ (.int .i64 10000000000000)) := hx3.setCell hbw _
    obtain ⟨W4, hW4⟩ : ∃ W, W3.setCell ⟨b, 16, none⟩ (.int .i64 10000000000000) = W := ⟨_, rfl⟩
    rw [hW4] at hB4 hT4 hx4
    have j0 : W3.cell? ⟨b, 16, none⟩ = some (.int .i64 0) := (cell_of_row _ b 16 _ _ _ hB3).trans rfl
    have j1 := frozen_of_row _ b 16 _ _ hB3
    have hS4 := slp_row hT4
    replace hS4 := show Hid (Slp W4 _ _) from hS4
    replace hB4 := show Hid (Blk W4 b _) from hB4
    replace hx4 := show Hid _ from hx4
    clear hT4 hB3 hT3 hx3
    go_wp2_with fail
    refine (awake_c _).mono ?_
    rintro e w5 ⟨rfl, hx5⟩
    replace hB4 := show Hid (Blk w5 b _) from hB4.out.ext hx5
    replace hS4 := show Hid (Slp w5 _ _) from hS4.out.ext hx5
    replace hx := show Hid (Ext w w5) from hx4.out.trans hx5
    clear hx4 hx5 hW4 j0 j1
    go_wp2_with (refine load27 hB4.out rfl rfl rfl rfl ?_)
    refine (Check_x [104, 111, 109, 101] 2 1 1 1 12 0 60000000 _ [] 100000000 1 2 3 4 1 _ [(5, 5)] 10000000000000 1 _ [] 0 (by decide +kernel) _ (by decide) (by decide) (by decide) (by decide) (nilr _) hS4.out (nilh _)).mono ?_
    rintro e w6 ⟨rfl, hx6⟩
    replace hx := show Hid (Ext w w6) from hx.out.trans hx6
    clear hx6 hB4 hS4
    go_wp2
    go_ret
    exact ⟨rfl, hx.out⟩
  · have hB4 : Blk (W3.setCell ⟨b, 16, none⟩ (.int .i64 10000000000001)) b #[.string ⟨[104, 111, 109, 101].toArray⟩, .int .i64 2, .int .i64 1, .int .i64 1, .int .i64 1, .int .i64 12, .int .i64 0, .int .i64 60000000, .slice none 0 0, .int .i64 100000000, .int .i64 1, .int .i64 2, .int .i64 3, .int .i64 4, .int .i64 1, .slice (some ⟨b + 1, 0, none⟩) 1 1, .int .i64 10000000000001, .int .i64 1, .slice none 0 0] := hB3.set 16 _
    have hT4 : (W3.setCell ⟨b, 16, none⟩ (.int .i64 10000000000001)).heap[b + 1]? = some (.cells #[.int .i64 5, .int .i64 5] 34 (0, 0)) := by rw [heap_setCell_other _ _ _ _ (by show b + 1 ≠ b; omega)]; exact hT3
    have hx4 : Ext w (W3.setCell ⟨b, 16, none⟩ (.int .i64 10000000000001)) := hx3.setCell hbw _
    obtain ⟨W4, hW4⟩ : ∃ W, W3.setCell ⟨b, 16, none⟩ (.int .i64 10000000000001) = W := ⟨_, rfl⟩
    rw [hW4] at hB4 hT4 hx4
    have j0 : W3.cell? ⟨b, 16, none⟩ = some (.int .i64 0) := (cell_of_row _ b 16 _ _ _ hB3).trans rfl
    have j1 := frozen_of_row _ b 16 _ _ hB3
    have hS4 := slp_row hT4
    replace hS4 := show Hid (Slp W4 _ _) from hS4
    replace hB4 := show Hid (Blk W4 b _) from hB4
    replace hx4 := show Hid _ from hx4
    clear hT4 hB3 hT3 hx3
    go_wp2_with fail
    refine (awake_c _).mono ?_
    rintro e w5 ⟨rfl, hx5⟩
    replace hB4 := show Hid (Blk w5 b _) from hB4.out.ext hx5
    replace hS4 := show Hid (Slp w5 _ _) from hS4.out.ext hx5
    replace hx := show Hid (Ext w w5) from hx4.out.trans hx5
    clear hx4 hx5 hW4 j0 j1
    go_wp2_with (refine load27 hB4.out rfl rfl rfl rfl ?_)
    refine (Check_x [104, 111, 109, 101] 2 1 1 1 12 0 60000000 _ [] 100000000 1 2 3 4 1 _ [(5, 5)] 10000000000001 1 _ [] 9 (by decide +kernel) _ (by decide) (by decide) (by decide) (by decide) (nilr _) hS4.out (nilh _)).mono ?_
    rintro e w6 ⟨rfl, hx6⟩
    replace hx := show Hid (Ext w w6) from hx.out.trans hx6
    clear hx6 hB4 hS4
    go_wp2
    go_ret
    exact ⟨rfl, hx.out⟩
set_option maxHeartbeats 4000000 in
theorem bnd8 (a0 : Int) (a1 a2 : Bool) (w : World) (hR : (IntKind.u64.wrap a0).tmod 10 = 8) :
    Calls Try.prog 4 #[.int .i64 a0, .bool a1, .bool a2] w fun e w' => e = .returned (.bool true) ∧ Ext w w' := by
  have hsz := sz_plain
  go_enter Try.func4, Try.ntmps4
  go_wp2_with fail
  refine (Plain_c _).mono ?_
  rintro e w1 ⟨rfl, hx⟩
  obtain ⟨W0, W1, b, hW0, hb, hs0, hst, hs1, hB, hx1⟩ := lay_plain w1
  obtain ⟨W2, W3, hW2, k0, k1, hW3, hB3, hT3, hx3⟩ := lay_tier hs1 hB hx1 (by omega)
  have hbw : w.heap.size ≤ b := by have := hx.size; omega
  replace hx3 := hx.trans hx3
  clear hx hx1 hB
  go_upto_region 3 with fail
  clear hW0 hb hs0 hst hW2 k0 k1 hW3 hs1 hsz
  cases a1 <;> cases a2
  · have hB4 : Blk (W3.setCell ⟨b, 17, none⟩ (.int .i64 1)) b #[.string ⟨[104, 111, 109, 101].toArray⟩, .int .i64 2, .int .i64 1, .int .i64 1, .int .i64 1, .int .i64 12, .int .i64 0, .int .i64 60000000, .slice none 0 0, .int .i64 100000000, .int .i64 1, .int .i64 2, .int .i64 3, .int .i64 4, .int .i64 1, .slice (some ⟨b + 1, 0, none⟩) 1 1, .int .i64 0, .int .i64 1, .slice none 0 0] := hB3.set 17 _
    have hT4 : (W3.setCell ⟨b, 17, none⟩ (.int .i64 1)).heap[b + 1]? = some (.cells #[.int .i64 5, .int .i64 5] 34 (0, 0)) := by rw [heap_setCell_other _ _ _ _ (by show b + 1 ≠ b; omega)]; exact hT3
    have hx4 : Ext w (W3.setCell ⟨b, 17, none⟩ (.int .i64 1)) := hx3.setCell hbw _
    obtain ⟨W4, hW4⟩ : ∃ W, W3.setCell ⟨b, 17, none⟩ (.int .i64 1) = W := ⟨_, rfl⟩
    rw [hW4] at hB4 hT4 hx4
    have j0 : W3.cell? ⟨b, 17, none⟩ = some (.int .i64 1) := (cell_of_row _ b 17 _ _ _ hB3).trans rfl
    have j1 := frozen_of_row _ b 17 _ _ hB3
    have hS4 := slp_row hT4
    replace hS4 := show Hid (Slp W4 _ _) from hS4
    replace hB4 := show Hid (Blk W4 b _) from hB4
    replace hx4 := show Hid _ from hx4
    clear hT4 hB3 hT3 hx3
    go_wp2_with fail
    refine (awake_c _).mono ?_
    rintro e w5 ⟨rfl, hx5⟩
    replace hB4 := show Hid (Blk w5 b _) from hB4.out.ext hx5
    replace hS4 := show Hid (Slp w5 _ _) from hS4.out.ext hx5
    replace hx := show Hid (Ext w w5) from hx4.out.trans hx5
    clear hx4 hx5 hW4 j0 j1
    go_wp2_with (refine load27 hB4.out rfl rfl rfl rfl ?_)
    refine (Check_x [104, 111, 109, 101] 2 1 1 1 12 0 60000000 _ [] 100000000 1 2 3 4 1 _ [(5, 5)] 0 1 _ [] 0 (by decide +kernel) _ (by decide) (by decide) (by decide) (by decide) (nilr _) hS4.out (nilh _)).mono ?_
    rintro e w6 ⟨rfl, hx6⟩
    replace hx := show Hid (Ext w w6) from hx.out.trans hx6
    clear hx6 hB4 hS4
    go_wp2
    go_ret
    exact ⟨rfl, hx.out⟩
  · have hB4 : Blk (W3.setCell ⟨b, 17, none⟩ (.int .i64 0)) b #[.string ⟨[104, 111, 109, 101].toArray⟩, .int .i64 2, .int .i64 1, .int .i64 1, .int .i64 1, .int .i64 12, .int .i64 0, .int .i64 60000000, .slice none 0 0, .int .i64 100000000, .int .i64 1, .int .i64 2, .int .i64 3, .int .i64 4, .int .i64 1, .slice (some ⟨b + 1, 0, none⟩) 1 1, .int .i64 0, .int .i64 0, .slice none 0 0] := hB3.set 17 _
    have hT4 : (W3.setCell ⟨b, 17, none⟩ (.int .i64 0)).heap[b + 1]? = some (.cells #[.int .i64 5, .int .i64 5] 34 (0, 0)) := by rw [heap_setCell_other _ _ _ _ (by show b + 1 ≠ b; omega)]; exact hT3
    have hx4 : Ext w (W3.setCell ⟨b, 17, none⟩ (.int .i64 0)) := hx3.setCell hbw _
    obtain ⟨W4, hW4⟩ : ∃ W, W3.setCell ⟨b, 17, none⟩ (.int .i64 0) = W := ⟨_, rfl⟩
    rw [hW4] at hB4 hT4 hx4
    have j0 : W3.cell? ⟨b, 17, none⟩ = some (.int .i64 1) := (cell_of_row _ b 17 _ _ _ hB3).trans rfl
    have j1 := frozen_of_row _ b 17 _ _ hB3
    have hS4 := slp_row hT4
    replace hS4 := show Hid (Slp W4 _ _) from hS4
    replace hB4 := show Hid (Blk W4 b _) from hB4
    replace hx4 := show Hid _ from hx4
    clear hT4 hB3 hT3 hx3
    go_wp2_with fail
    refine (awake_c _).mono ?_
    rintro e w5 ⟨rfl, hx5⟩
    replace hB4 := show Hid (Blk w5 b _) from hB4.out.ext hx5
    replace hS4 := show Hid (Slp w5 _ _) from hS4.out.ext hx5
    replace hx := show Hid (Ext w w5) from hx4.out.trans hx5
    clear hx4 hx5 hW4 j0 j1
    go_wp2_with (refine load27 hB4.out rfl rfl rfl rfl ?_)
    refine (Check_x [104, 111, 109, 101] 2 1 1 1 12 0 60000000 _ [] 100000000 1 2 3 4 1 _ [(5, 5)] 0 0 _ [] 9 (by decide +kernel) _ (by decide) (by decide) (by decide) (by decide) (nilr _) hS4.out (nilh _)).mono ?_
    rintro e w6 ⟨rfl, hx6⟩
    replace hx := show Hid (Ext w w6) from hx.out.trans hx6
    clear hx6 hB4 hS4
    go_wp2
    go_ret
    exact ⟨rfl, hx.out⟩
  · have hB4 : Blk (W3.setCell ⟨b, 17, none⟩ (.int .i64 4)) b #[.string ⟨[104, 111, 109, 101].toArray⟩, .int .i64 2, .int .i64 1, .int .i64 1, .int .i64 1, .int .i64 12, .int .i64 0, .int .i64 60000000, .slice none 0 0, .int .i64 100000000, .int .i64 1, .int .i64 2, .int .i64 3, .int .i64 4, .int .i64 1, .slice (some ⟨b + 1, 0, none⟩) 1 1, .int .i64 0, .int .i64 4, .slice none 0 0] := hB3.set 17 _
    have hT4 : (W3.setCell ⟨b, 17, none⟩ (.int .i64 4)).heap[b + 1]? = some (.cells #[.int .i64 5, .int .i64 5] 34 (0, 0)) := by rw [heap_setCell_other _ _ _ _ (by show b + 1 ≠ b; omega)]; exact hT3
    have hx4 : Ext w (W3.setCell ⟨b, 17, none⟩ (.int .i64 4)) := hx3.setCell hbw _
    obtain ⟨W4, hW4⟩ : ∃ W, W3.setCell ⟨b, 17, none⟩ (.int .i64 4) = W := ⟨_, rfl⟩
    rw [hW4] at hB4 hT4 hx4
    have j0 : W3.cell? ⟨b, 17, none⟩ = some (.int .i64 1) := (cell_of_row _ b 17 _ _ _ hB3).trans rfl
    have j1 := frozen_of_row _ b 17 _ _ hB3
    have hS4 := slp_row hT4
    replace hS4 := show Hid (Slp W4 _ _) from hS4
    replace hB4 := show Hid (Blk W4 b _) from hB4
    replace hx4 := show Hid _ from hx4
    clear hT4 hB3 hT3 hx3
    go_wp2_with fail
    refine (awake_c _).mono ?_
    rintro e w5 ⟨rfl, hx5⟩
    replace hB4 := show Hid (Blk w5 b _) from hB4.out.ext hx5
    replace hS4 := show Hid (Slp w5 _ _) from hS4.out.ext hx5
    replace hx := show Hid (Ext w w5) from hx4.out.trans hx5
    clear hx4 hx5 hW4 j0 j1
    go_wp2_with (refine load27 hB4.out rfl rfl rfl rfl ?_)
    refine (Check_x [104, 111, 109, 101] 2 1 1 1 12 0 60000000 _ [] 100000000 1 2 3 4 1 _ [(5, 5)] 0 4 _ [] 0 (by decide +kernel) _ (by decide) (by decide) (by decide) (by decide) (nilr _) hS4.out (nilh _)).mono ?_
    rintro e w6 ⟨rfl, hx6⟩
    replace hx := show Hid (Ext w w6) from hx.out.trans hx6
    clear hx6 hB4 hS4
    go_wp2
    go_ret
    exact ⟨rfl, hx.out⟩
  · have hB4 : Blk (W3.setCell ⟨b, 17, none⟩ (.int .i64 5)) b #[.string ⟨[104, 111, 109, 101].toArray⟩, .int .i64 2, .int .i64 1, .int .i64 1, .int .i64 1, .int .i64 12, .int .i64 0, .int .i64 60000000, .slice none 0 0, .int .i64 100000000, .int .i64 1, .int .i64 2, .int .i64 3, .int .i64 4, .int .i64 1, .slice (some ⟨b + 1, 0, none⟩) 1 1, .int .i64 0, .int .i64 5, .slice none 0 0] := hB3.set 17 _
    have hT4 : (W3.setCell ⟨b, 17, none⟩ (.int .i64 5)).heap[b + 1]? = some (.cells #[.int .i64 5, .int .i64 5] 34 (0, 0)) := by rw [heap_setCell_other _ _ _ _ (by show b + 1 ≠ b; omega)]; exact hT3
    have hx4 : Ext w (W3.setCell ⟨b, 17, none⟩ (.int .i64 5)) := hx3.setCell hbw _
    obtain ⟨W4, hW4⟩ : ∃ W, W3.setCell ⟨b, 17, none⟩ (.int .i64 5) = W := ⟨_, rfl⟩
    rw [hW4] at hB4 hT4 hx4
    have j0 : W3.cell? ⟨b, 17, none⟩ = some (.int .i64 1) := (cell_of_row _ b 17 _ _ _ hB3).trans rfl
    have j1 := frozen_of_row _ b 17 _ _ hB3
    have hS4 := slp_row hT4
    replace hS4 := show Hid (Slp W4 _ _) from hS4
    replace hB4 := show Hid (Blk W4 b _) from hB4
    replace hx4 := show Hid _ from hx4
    clear hT4 hB3 hT3 hx3
    go_wp2_with fail
    refine (awake_c _).mono ?_
    rintro e w5 ⟨rfl, hx5⟩
    replace hB4 := show Hid (Blk w5 b _) from hB4.out.ext hx5
    replace hS4 := show Hid (Slp w5 _ _) from hS4.out.ext hx5
    replace hx := show Hid (Ext w w5) from hx4.out.trans hx5
    clear hx4 hx5 hW4 j0 j1
    go_wp2_with (refine load27 hB4.out rfl rfl rfl rfl ?_)
    refine (Check_x [104, 111, 109, 101] 2 1 1 1 12 0 60000000 _ [] 100000000 1 2 3 4 1 _ [(5, 5)] 0 5 _ [] 9 (by decide +kernel) _ (by decide) (by decide) (by decide) (by decide) (nilr _) hS4.out (nilh _)).mono ?_
    rintro e w6 ⟨rfl, hx6⟩
    replace hx := show Hid (Ext w w6) from hx.out.trans hx6
    clear hx6 hB4 hS4
    go_wp2
    go_ret
    exact ⟨rfl, hx.out⟩
set_option maxHeartbeats 4000000 in
theorem bnd9 (a0 : Int) (a1 a2 : Bool) (w : World) (hR : (IntKind.u64.wrap a0).tmod 10 = 9) :
    Calls Try.prog 4 #[.int .i64 a0, .bool a1, .bool a2] w fun e w' => e = .returned (.bool true) ∧ Ext w w' := by
  have hsz := sz_plain
  go_enter Try.func4, Try.ntmps4
  go_wp2_with fail
  refine (Plain_c _).mono ?_
  rintro e w1 ⟨rfl, hx⟩
  obtain ⟨W0, W1, b, hW0, hb, hs0, hst, hs1, hB, hx1⟩ := lay_plain w1
  obtain ⟨W2, W3, hW2, k0, k1, hW3, hB3, hT3, hx3⟩ := lay_tier hs1 hB hx1 (by omega)
  have hbw : w.heap.size ≤ b := by have := hx.size; omega
  replace hx3 := hx.trans hx3
  clear hx hx1 hB
  go_upto_region 3 with fail
  clear hW0 hb hs0 hst hW2 k0 k1 hW3 hs1 hsz
  cases a1 <;> cases a2
  · have hB4 : Blk (W3.setCell ⟨b + 1, 0, none⟩ (.int .i64 1)) b #[.string ⟨[104, 111, 109, 101].toArray⟩, .int .i64 2, .int .i64 1, .int .i64 1, .int .i64 1, .int .i64 12, .int .i64 0, .int .i64 60000000, .slice none 0 0, .int .i64 100000000, .int .i64 1, .int .i64 2, .int .i64 3, .int .i64 4, .int .i64 1, .slice (some ⟨b + 1, 0, none⟩) 1 1, .int .i64 0, .int .i64 1, .slice none 0 0] := hB3.other 0 _ (by omega)
    have hT4 : (W3.setCell ⟨b + 1, 0, none⟩ (.int .i64 1)).heap[b + 1]? = some (.cells #[.int .i64 1, .int .i64 5] 34 (0, 0)) := heap_setCell_same W3 (b + 1) 0 _ _ _ hT3
    have hx4 : Ext w (W3.setCell ⟨b + 1, 0, none⟩ (.int .i64 1)) := hx3.setCell (by show w.heap.size ≤ b + 1; omega) _
    obtain ⟨W4, hW4⟩ : ∃ W, W3.setCell ⟨b + 1, 0, none⟩ (.int .i64 1) = W := ⟨_, rfl⟩
    rw [hW4] at hB4 hT4 hx4
    have j0 : W3.cell? ⟨b + 1, 0, none⟩ = some (.int .i64 5) := (cell_of_row _ (b + 1) 0 _ _ _ hT3).trans rfl
    have j1 := frozen_of_row _ (b + 1) 0 _ _ hT3
    have j2 : W3.cell? ⟨b, 15, none⟩ = some (.slice (some ⟨b + 1, 0, none⟩) 1 1) := (cell_of_row _ b 15 _ _ _ hB3).trans rfl
    have hS4 := slp_row hT4
    replace hS4 := show Hid (Slp W4 _ _) from hS4
    replace hB4 := show Hid (Blk W4 b _) from hB4
    replace hx4 := show Hid _ from hx4
    clear hT4 hB3 hT3 hx3
    go_wp2_with fail
    refine (awake_c _).mono ?_
    rintro e w5 ⟨rfl, hx5⟩
    replace hB4 := show Hid (Blk w5 b _) from hB4.out.ext hx5
    replace hS4 := show Hid (Slp w5 _ _) from hS4.out.ext hx5
    replace hx := show Hid (Ext w w5) from hx4.out.trans hx5
    clear hx4 hx5 hW4 j0 j1 j2
    go_wp2_with (refine load27 hB4.out rfl rfl rfl rfl ?_)
    refine (Check_x [104, 111, 109, 101] 2 1 1 1 12 0 60000000 _ [] 100000000 1 2 3 4 1 _ [(1, 5)] 0 1 _ [] 0 (by decide +kernel) _ (by decide) (by decide) (by decide) (by decide) (nilr _) hS4.out (nilh _)).mono ?_
    rintro e w6 ⟨rfl, hx6⟩
    replace hx := show Hid (Ext w w6) from hx.out.trans hx6
    clear hx6 hB4 hS4
    go_wp2
    go_ret
    exact ⟨rfl, hx.out⟩
  · have hB4 : Blk (W3.setCell ⟨b + 1, 0, none⟩ (.int .i64 0)) b #[.string ⟨[104, 111, 109, 101].toArray⟩, .int .i64 2, .int .i64 1, .int .i64 1, .int .i64 1, .int .i64 12, .int .i64 0, .int .i64 60000000, .slice none 0 0, .int .i64 100000000, .int .i64 1, .int .i64 2, .int .i64 3, .int .i64 4, .int .i64 1, .slice (some ⟨b + 1, 0, none⟩) 1 1, .int .i64 0, .int .i64 1, .slice none 0 0] := hB3.other 0 _ (by omega)
    have hT4 : (W3.setCell ⟨b + 1, 0, none⟩ (.int .i64 0)).heap[b + 1]? = some (.cells #[.int .i64 0, .int .i64 5] 34 (0, 0)) := heap_setCell_same W3 (b + 1) 0 _ _ _ hT3
    have hx4 : Ext w (W3.setCell ⟨b + 1, 0, none⟩ (.int .i64 0)) := hx3.setCell (by show w.heap.size ≤ b + 1; omega) _
    obtain ⟨W4, hW4⟩ : ∃ W, W3.setCell ⟨b + 1, 0, none⟩ (.int .i64 0) = W := ⟨_, rfl⟩
    rw [hW4] at hB4 hT4 hx4
    have j0 : W3.cell? ⟨b + 1, 0, none⟩ = some (.int .i64 5) := (cell_of_row _ (b + 1) 0 _ _ _ hT3).trans rfl
    have j1 := frozen_of_row _ (b + 1) 0 _ _ hT3
    have j2 : W3.cell? ⟨b, 15, none⟩ = some (.slice (some ⟨b + 1, 0, none⟩) 1 1) := (cell_of_row _ b 15 _ _ _ hB3).trans rfl
    have hS4 := slp_row hT4
    replace hS4 := show Hid (Slp W4 _ _) from hS4
    replace hB4 := show Hid (Blk W4 b _) from hB4
    replace hx4 := show Hid _ from hx4
    clear hT4 hB3 hT3 hx3
    go_wp2_with fail
    refine (awake_c _).mono ?_
    rintro e w5 ⟨rfl, hx5⟩
    replace hB4 := show Hid (Blk w5 b _) from hB4.out.ext hx5
    replace hS4 := show Hid (Slp w5 _ _) from hS4.out.ext hx5
    replace hx := show Hid (Ext w w5) from hx4.out.trans hx5
    clear hx4 hx5 hW4 j0 j1 j2
    go_wp2_with (refine load27 hB4.out rfl rfl rfl rfl ?_)
    refine (Check_x [104, 111, 109, 101] 2 1 1 1 12 0 60000000 _ [] 100000000 1 2 3 4 1 _ [(0, 5)] 0 1 _ [] 9 (by decide +kernel) _ (by decide) (by decide) (by decide) (by decide) (nilr _) hS4.out (nilh _)).mono ?_
    rintro e w6 ⟨rfl, hx6⟩
    replace hx := show Hid (Ext w w6) from hx.out.trans hx6
    clear hx6 hB4 hS4
    go_wp2
    go_ret
    exact ⟨rfl, hx.out⟩
  · have hB4 : Blk (W3.setCell ⟨b + 1, 0, none⟩ (.int .i64 365)) b #[.string ⟨[104, 111, 109, 101].toArray⟩, .int .i64 2, .int .i64 1, .int .i64 1, .int .i64 1, .int .i64 12, .int .i64 0, .int .i64 60000000, .slice none 0 0, .int .i64 100000000, .int .i64 1, .int .i64 2, .int .i64 3, .int .i64 4, .int .i64 1, .slice (some ⟨b + 1, 0, none⟩) 1 1, .int .i64 0, .int .i64 1, .slice none 0 0] := hB3.other 0 _ (by omega)
    have hT4 : (W3.setCell ⟨b + 1, 0, none⟩ (.int .i64 365)).heap[b + 1]? = some (.cells #[.int .i64 365, .int .i64 5] 34 (0, 0)) := heap_setCell_same W3 (b + 1) 0 _ _ _ hT3
    have hx4 : Ext w (W3.setCell ⟨b + 1, 0, none⟩ (.int .i64 365)) := hx3.setCell (by show w.heap.size ≤ b + 1; omega) _
    obtain ⟨W4, hW4⟩ : ∃ W, W3.setCell ⟨b + 1, 0, none⟩ (.int .i64 365) = W := ⟨_, rfl⟩
    rw [hW4] at hB4 hT4 hx4
    have j0 : W3.cell? ⟨b + 1, 0, none⟩ = some (.int .i64 5) := (cell_of_row _ (b + 1) 0 _ _ _ hT3).trans rfl
    have j1 := frozen_of_row _ (b + 1) 0 _ _ hT3
    have j2 : W3.cell? ⟨b, 15, none⟩ = some (.slice (some ⟨b + 1, 0, none⟩) 1 1) := (cell_of_row _ b 15 _ _ _ hB3).trans rfl
    have hS4 := slp_row hT4
    replace hS4 := show Hid (Slp W4 _ _) from hS4
    replace hB4 := show Hid (Blk W4 b _) from hB4
    replace hx4 := show Hid _ from hx4
    clear hT4 hB3 hT3 hx3
    go_wp2_with fail
    refine (awake_c _).mono ?_
    rintro e w5 ⟨rfl, hx5⟩
    replace hB4 := show Hid (Blk w5 b _) from hB4.out.ext hx5
    replace hS4 := show Hid (Slp w5 _ _) from hS4.out.ext hx5
    replace hx := show Hid (Ext w w5) from hx4.out.trans hx5
    clear hx4 hx5 hW4 j0 j1 j2
    go_wp2_with (refine load27 hB4.out rfl rfl rfl rfl ?_)
    refine (Check_x [104, 111, 109, 101] 2 1 1 1 12 0 60000000 _ [] 100000000 1 2 3 4 1 _ [(365, 5)] 0 1 _ [] 0 (by decide +kernel) _ (by decide) (by decide) (by decide) (by decide) (nilr _) hS4.out (nilh _)).mono ?_
    rintro e w6 ⟨rfl, hx6⟩
    replace hx := show Hid (Ext w w6) from hx.out.trans hx6
    clear hx6 hB4 hS4
    go_wp2
    go_ret
    exact ⟨rfl, hx.out⟩
  · have hB4 : Blk (W3.setCell ⟨b + 1, 0, none⟩ (.int .i64 366)) b #[.string ⟨[104, 111, 109, 101].toArray⟩, .int .i64 2, .int .i64 1, .int .i64 1, .int .i64 1, .int .i64 12, .int .i64 0, .int .i64 60000000, .slice none 0 0, .int .i64 100000000, .int .i64 1, .int .i64 2, .int .i64 3, .int .i64 4, .int .i64 1, .slice (some ⟨b + 1, 0, none⟩) 1 1, .int .i64 0, .int .i64 1, .slice none 0 0] := hB3.other 0 _ (by omega)
    have hT4 : (W3.setCell ⟨b + 1, 0, none⟩ (.int .i64 366)).heap[b + 1]? = some (.cells #[.int .i64 366, .int .i64 5] 34 (0, 0)) := heap_setCell_same W3 (b + 1) 0 _ _ _ hT3
    have hx4 : Ext w (W3.setCell ⟨b + 1, 0, none⟩ (.int .i64 366)) := hx3.setCell (by show w.heap.size ≤ b + 1; omega) _
    obtain ⟨W4, hW4⟩ : ∃ W, W3.setCell ⟨b + 1, 0, none⟩ (.int .i64 366) = W := ⟨_, rfl⟩
    rw [hW4] at hB4 hT4 hx4
    have j0 : W3.cell? ⟨b + 1, 0, none⟩ = some (.int .i64 5) := (cell_of_row _ (b + 1) 0 _ _ _ hT3).trans rfl
    have j1 := frozen_of_row _ (b + 1) 0 _ _ hT3
    have j2 : W3.cell? ⟨b, 15, none⟩ = some (.slice (some ⟨b + 1, 0, none⟩) 1 1) := (cell_of_row _ b 15 _ _ _ hB3).trans rfl
    have hS4 := slp_row hT4
    replace hS4 := show Hid (Slp W4 _ _) from hS4
    replace hB4 := show Hid (Blk W4 b _) from hB4
    replace hx4 := show Hid _ from hx4
    clear hT4 hB3 hT3 hx3
    go_wp2_with fail
    refine (awake_c _).mono ?_
    rintro e w5 ⟨rfl, hx5⟩
    replace hB4 := show Hid (Blk w5 b _) from hB4.out.ext hx5
    replace hS4 := show Hid (Slp w5 _ _) from hS4.out.ext hx5
    replace hx := show Hid (Ext w w5) from hx4.out.trans hx5
    clear hx4 hx5 hW4 j0 j1 j2
    go_wp2_with (refine load27 hB4.out rfl rfl rfl rfl ?_)
    refine (Check_x [104, 111, 109, 101] 2 1 1 1 12 0 60000000 _ [] 100000000 1 2 3 4 1 _ [(366, 5)] 0 1 _ [] 9 (by decide +kernel) _ (by decide) (by decide) (by decide) (by decide) (nilr _) hS4.out (nilh _)).mono ?_
    rintro e w6 ⟨rfl, hx6⟩
    replace hx := show Hid (Ext w w6) from hx.out.trans hx6
    clear hx6 hB4 hS4
    go_wp2
    go_ret
    exact ⟨rfl, hx.out⟩
end Go.Proofs.Ytipnchejhjkomaa
