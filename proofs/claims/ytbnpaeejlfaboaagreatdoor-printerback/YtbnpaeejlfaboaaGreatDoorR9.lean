/- Contracts that the proof of this law leans on: no statement of the seat is proved here. -/
import Derived.Deep.DeepCutAuto
import Derived.Laws.EntriesVeiled
import Derived.Lib.SliceRun
import Derived.StillTailTactics
import Derived.Test.YtbnpaeejlfaboaaGreatDoorR4
import Derived.Test.YtbnpaeejlfaboaaGreatDoorR7
import Derived.Test.YtbnpaeejlfaboaaGreatDoorR8

namespace Go.Proofs.YtbnpaeejlfaboaaGreatDoor
open Go.RowKit Go.Lib
set_option linter.unusedVariables false
theorem zero_opt (w : World) : (zeroValue 140).run Tryz.prog w = .ok (.agg #[.string ⟨#[]⟩, .int .i64 0]) w := by kernel_rfl
theorem clear_one (w : World) (ty : TypeId) (b o c : Nat) (u v : Value) (c0 : w.cell? ⟨b, o, none⟩ = some u) (c1 : w.cell? ⟨b, o + 1, none⟩ = some v) (z0 : w.frozen? ⟨b, o, none⟩ = false) (z1 : w.frozen? ⟨b, o + 1, none⟩ = false) :
    (Builtin.clear_ #[145] ty #[.slice (some ⟨b, o, none⟩) 1 c]).run Tryz.prog w = .ok (.tuple #[]) ((w.setCell ⟨b, o, none⟩ (.string ⟨#[]⟩)).setCell ⟨b, o + 1, none⟩ (.int .i64 0)) := by
  have hst := run_storeCells_cells (P := Tryz.prog) b o [.string ⟨#[]⟩, .int .i64 0] 0 w (fun j hj => by
    match j, hj with
    | 0, _ => simp [c0]
    | 1, _ => simp [c1]) (fun j hj => by
    match j, hj with
    | 0, _ => exact z0
    | 1, _ => exact z1) (by intro v hv; simp at hv; rcases hv with rfl | rfl <;> rfl)
  simp only [Nat.add_zero] at hst
  have hzc : (Builtin.zeroCells (Value.agg #[.string ⟨#[]⟩, .int .i64 0]).cells 1).toList = [.string ⟨#[]⟩, .int .i64 0] := by kernel_rfl
  have hz : (zeroValue 140).run Tryz.prog w = .ok (.agg #[.string ⟨#[]⟩, .int .i64 0]) w := zero_opt w
  simp [Builtin.clear_, run_underlying Tryz.underlying145, hz, hzc, hst]
  rfl
theorem order1_c (s : List UInt8) (x v : Int) (b : Nat) (w : World) (hb : w.cell? ⟨b, 0, none⟩ = some (.int .i64 v)) :
    Calls Tryz.prog 131 #[.agg #[.string ⟨s.toArray⟩, .int .i64 x], .pointer (some ⟨b, 0, none⟩)] w fun e w' => e = .returned (.bool (x == v)) ∧ Ext w w' := by
  have hlt := lt_of_cell hb
  obtain ⟨B, hB⟩ : ∃ B, (x == v) = B := ⟨_, rfl⟩
  rw [hB]
  go_enter Tryz.func131, Tryz.ntmps131
  go_wp2
  go_ret
  exact ⟨rfl, (Ext.refl _).alloc _ _⟩
theorem idxV_c (g c b i : Nat) (o : Opts) (s0 : List UInt8) (v : Int) (w : World) (hn : o.length ≤ 100) (hg : Opt w g o) (hb : w.cell? ⟨b, 0, none⟩ = some (.int .i64 v)) (hi : o[i]? = some (s0, v)) (hno : ∀ j s x, j < i → o[j]? = some (s, x) → x ≠ v) :
    Calls Tryz.prog 150 #[.slice (some ⟨g, 0, none⟩) o.length c, .func (.func 131) #[] #[.pointer (some ⟨b, 0, none⟩)]] w fun e w' => e = .returned (.int .i64 i) ∧ Ext w w' := by
  have hil : i < o.length := (List.getElem?_eq_some_iff.1 hi).1
  replace hg := show Hid _ from hg
  replace hb := show Hid _ from hb
  replace hi := show Hid _ from hi
  replace hno := show Hid _ from hno
  go_enter Tryz.func150, Tryz.ntmps150
  go_wp2
  go_loopw [8] (fun q wr => ∃ k : Nat, k ≤ i ∧ q = .int .i64 k ∧ Hid (Ext w wr)) (fun q _ => i - (RowKit.intOf q).toNat)
  case atStart => exact ⟨0, Nat.zero_le _, rfl, Ext.refl w⟩
  case round =>
    obtain ⟨k, hk, rfl, hx⟩ := hrel
    have hlt : k < o.length := by omega
    obtain ⟨s, x, hsv⟩ : ∃ s v, o[k]? = some (s, v) := ⟨o[k].1, o[k].2, by rw [List.getElem?_eq_getElem hlt]⟩
    have c0 := hx.out.cell_of (hg.out.on k s x hsv).1
    have c1 := hx.out.cell_of (hg.out.on k s x hsv).2
    have hb1 : Hid (wr.cell? ⟨b, 0, none⟩ = some (.int .i64 v)) := hx.out.cell_of hb.out
    by_cases hq : k = i
    · subst hq
      obtain ⟨rfl, rfl⟩ : s = s0 ∧ x = v := by have := hsv.symm.trans hi.out; simpa using this
      replace hsv := show Hid _ from hsv
      go_wp2_with (go_at_call 131; refine (order1_c _ _ _ _ _ hb1.out).mono ?_; rintro e w1 ⟨rfl, hx1⟩; replace hx1 := show Hid _ from hx1)
      go_ret
      exact ⟨rfl, hx.out.trans hx1.out⟩
    · have hq2 : (x == v) = false := by simpa using hno.out k s x (by omega) hsv
      replace hsv := show Hid _ from hsv
      go_wp2_with (go_at_call 131; refine (order1_c _ _ _ _ _ hb1.out).mono ?_; rintro e w1 ⟨rfl, hx1⟩; replace hx1 := show Hid _ from hx1)
      go_roundw
      case rel => exact ⟨k + 1, by omega, by go_num, hx.out.trans hx1.out⟩
      case measure => simp [RowKit.intOf]; omega
theorem del40 (g b : Nat) (s0 s1 s2 s3 : List UInt8) (v1 v2 v3 v : Int) (w : World) (hb : w.cell? ⟨b, 0, none⟩ = some (.int .i64 v)) (hg : w.heap[g]? = some (.cells #[.string ⟨s0.toArray⟩, .int .i64 v, .string ⟨s1.toArray⟩, .int .i64 v1, .string ⟨s2.toArray⟩, .int .i64 v2, .string ⟨s3.toArray⟩, .int .i64 v3] 140 (0, 0))) (n1 : (v1 == v) = false) (n2 : (v2 == v) = false) (n3 : (v3 == v) = false) :
    Calls Tryz.prog 130 #[.slice (some ⟨g, 0, none⟩) 4 4, .func (.func 131) #[] #[.pointer (some ⟨b, 0, none⟩)]] w fun e w' => e = .returned (.slice (some ⟨g, 0, none⟩) 3 4) ∧ w'.heap[g]? = some (.cells #[.string ⟨s1.toArray⟩, .int .i64 v1, .string ⟨s2.toArray⟩, .int .i64 v2, .string ⟨s3.toArray⟩, .int .i64 v3, .string ⟨#[]⟩, .int .i64 0] 140 (0, 0)) ∧ Exr g w w' := by
  have hbg : b ≠ g := by
    rintro rfl
    have := (cell_of_row w b 0 _ _ _ hg).symm.trans hb
    simp at this
  have hbl := lt_of_cell hb
  have hgl := (Array.getElem?_eq_some_iff.1 hg).1
  have ho : Hid (Opt w g [(s0, v), (s1, v1), (s2, v2), (s3, v3)]) := ⟨fun k u x hk => by
    match k, hk with
    | 0, e =>
      obtain ⟨rfl, rfl⟩ : s0 = u ∧ v = x := by simpa using e
      exact ⟨(cell_of_row w g 0 _ _ _ hg).trans rfl, (cell_of_row w g 1 _ _ _ hg).trans rfl⟩
    | 1, e =>
      obtain ⟨rfl, rfl⟩ : s1 = u ∧ v1 = x := by simpa using e
      exact ⟨(cell_of_row w g 2 _ _ _ hg).trans rfl, (cell_of_row w g 3 _ _ _ hg).trans rfl⟩
    | 2, e =>
      obtain ⟨rfl, rfl⟩ : s2 = u ∧ v2 = x := by simpa using e
      exact ⟨(cell_of_row w g 4 _ _ _ hg).trans rfl, (cell_of_row w g 5 _ _ _ hg).trans rfl⟩
    | 3, e =>
      obtain ⟨rfl, rfl⟩ : s3 = u ∧ v3 = x := by simpa using e
      exact ⟨(cell_of_row w g 6 _ _ _ hg).trans rfl, (cell_of_row w g 7 _ _ _ hg).trans rfl⟩
    | k + 4, e => simp at e⟩
  replace hg := show Hid _ from hg
  replace hb := show Hid _ from hb
  go_enter Tryz.func130, Tryz.ntmps130
  go_wp2_with fail
  refine (idxV_c g 4 b 0 [(s0, v), (s1, v1), (s2, v2), (s3, v3)] s0 v _ (by simp) ho.out hb.out rfl ?_).mono ?_
  · intro j u x hj hk
    omega
  rintro e w1 ⟨rfl, hx⟩
  clear ho
  replace hg := show Hid _ from (hx.below.block g hgl).trans hg.out
  replace hb := show Hid _ from hx.cell_of hb.out
  have hX : Hid (Exr g w w1) := .of hx
  clear hx hgl hbl
  go_wp2_with fail
  refine wp_loop_rounds 4 ?_
  have z0 := frozen_of_row w1 g 0 _ _ hg.out
  have c0 := (cell_of_row w1 g 0 _ _ _ hg.out).trans (show _ = some (.string ⟨s0.toArray⟩) from rfl)
  have z1 := frozen_of_row w1 g 1 _ _ hg.out
  have c1 := (cell_of_row w1 g 1 _ _ _ hg.out).trans (show _ = some (.int .i64 v) from rfl)
  have z2 := frozen_of_row w1 g 2 _ _ hg.out
  have c2 := (cell_of_row w1 g 2 _ _ _ hg.out).trans (show _ = some (.string ⟨s1.toArray⟩) from rfl)
  have z3 := frozen_of_row w1 g 3 _ _ hg.out
  have c3 := (cell_of_row w1 g 3 _ _ _ hg.out).trans (show _ = some (.int .i64 v1) from rfl)
  have z4 := frozen_of_row w1 g 4 _ _ hg.out
  have c4 := (cell_of_row w1 g 4 _ _ _ hg.out).trans (show _ = some (.string ⟨s2.toArray⟩) from rfl)
  have z5 := frozen_of_row w1 g 5 _ _ hg.out
  have c5 := (cell_of_row w1 g 5 _ _ _ hg.out).trans (show _ = some (.int .i64 v2) from rfl)
  have z6 := frozen_of_row w1 g 6 _ _ hg.out
  have c6 := (cell_of_row w1 g 6 _ _ _ hg.out).trans (show _ = some (.string ⟨s3.toArray⟩) from rfl)
  have z7 := frozen_of_row w1 g 7 _ _ hg.out
  have c7 := (cell_of_row w1 g 7 _ _ _ hg.out).trans (show _ = some (.int .i64 v3) from rfl)
  rw [rounds_succ]
  go_wp2_with fail
  refine (order1_c s1 v1 v b _ (((Ext.refl w1).alloc _ _).cell_of hb.out)).mono ?_
  rintro e w2 ⟨rfl, hx⟩
  have b0 : w2.cell? ⟨w1.heap.size, 0, none⟩ = some (.string ⟨s1.toArray⟩) := hx.cell_of (by simp [go_sem])
  have b1 : w2.cell? ⟨w1.heap.size, 1, none⟩ = some (.int .i64 v1) := hx.cell_of (by simp [go_sem])
  replace hx := ((Ext.refl w1).alloc _ _).trans hx
  have hgl := (Array.getElem?_eq_some_iff.1 hg.out).1
  replace hg := show Hid _ from (hx.below.block g hgl).trans hg.out
  replace hb := show Hid _ from hx.cell_of hb.out
  replace hX := show Hid (Exr g w w2) from hX.out.on hx
  clear hx hgl
  clear z0 c0 z1 c1 z2 c2 z3 c3 z4 c4 z5 c5 z6 c6 z7 c7
  have z0 := frozen_of_row w2 g 0 _ _ hg.out
  have c0 := (cell_of_row w2 g 0 _ _ _ hg.out).trans (show _ = some (.string ⟨s0.toArray⟩) from rfl)
  have z1 := frozen_of_row w2 g 1 _ _ hg.out
  have c1 := (cell_of_row w2 g 1 _ _ _ hg.out).trans (show _ = some (.int .i64 v) from rfl)
  have z2 := frozen_of_row w2 g 2 _ _ hg.out
  have c2 := (cell_of_row w2 g 2 _ _ _ hg.out).trans (show _ = some (.string ⟨s1.toArray⟩) from rfl)
  have z3 := frozen_of_row w2 g 3 _ _ hg.out
  have c3 := (cell_of_row w2 g 3 _ _ _ hg.out).trans (show _ = some (.int .i64 v1) from rfl)
  have z4 := frozen_of_row w2 g 4 _ _ hg.out
  have c4 := (cell_of_row w2 g 4 _ _ _ hg.out).trans (show _ = some (.string ⟨s2.toArray⟩) from rfl)
  have z5 := frozen_of_row w2 g 5 _ _ hg.out
  have c5 := (cell_of_row w2 g 5 _ _ _ hg.out).trans (show _ = some (.int .i64 v2) from rfl)
  have z6 := frozen_of_row w2 g 6 _ _ hg.out
  have c6 := (cell_of_row w2 g 6 _ _ _ hg.out).trans (show _ = some (.string ⟨s3.toArray⟩) from rfl)
  have z7 := frozen_of_row w2 g 7 _ _ hg.out
  have c7 := (cell_of_row w2 g 7 _ _ _ hg.out).trans (show _ = some (.int .i64 v3) from rfl)
  go_wp2
  replace hg := show Hid (((w2.setCell ⟨g, 0, none⟩ (.string ⟨s1.toArray⟩)).setCell ⟨g, 1, none⟩ (.int .i64 v1)).heap[g]? = some (.cells #[.string ⟨s1.toArray⟩, .int .i64 v1, .string ⟨s1.toArray⟩, .int .i64 v1, .string ⟨s2.toArray⟩, .int .i64 v2, .string ⟨s3.toArray⟩, .int .i64 v3] 140 (0, 0))) from (heap_setCell_same _ g 1 _ _ (.int .i64 v1) ((heap_setCell_same w2 g 0 _ _ (.string ⟨s1.toArray⟩) hg.out))).trans rfl
  replace hb := show Hid (((w2.setCell ⟨g, 0, none⟩ (.string ⟨s1.toArray⟩)).setCell ⟨g, 1, none⟩ (.int .i64 v1)).cell? ⟨b, 0, none⟩ = some (.int .i64 v)) from by show _ = _; rw [L8.other _ (Or.inl (Ne.symm hbg)), L8.other _ (Or.inl (Ne.symm hbg))]; exact hb.out
  replace hX := show Hid (Exr g w ((w2.setCell ⟨g, 0, none⟩ (.string ⟨s1.toArray⟩)).setCell ⟨g, 1, none⟩ (.int .i64 v1))) from (hX.out.set _ _).set _ _
  clear z0 c0 z1 c1 z2 c2 z3 c3 z4 c4 z5 c5 z6 c6 z7 c7
  clear b0 b1
  obtain ⟨y2, hW⟩ : ∃ W, ((w2.setCell ⟨g, 0, none⟩ (.string ⟨s1.toArray⟩)).setCell ⟨g, 1, none⟩ (.int .i64 v1)) = W := ⟨_, rfl⟩
  rw [hW] at hg hb hX ⊢
  clear hW
  have z0 := frozen_of_row y2 g 0 _ _ hg.out
  have c0 := (cell_of_row y2 g 0 _ _ _ hg.out).trans (show _ = some (.string ⟨s1.toArray⟩) from rfl)
  have z1 := frozen_of_row y2 g 1 _ _ hg.out
  have c1 := (cell_of_row y2 g 1 _ _ _ hg.out).trans (show _ = some (.int .i64 v1) from rfl)
  have z2 := frozen_of_row y2 g 2 _ _ hg.out
  have c2 := (cell_of_row y2 g 2 _ _ _ hg.out).trans (show _ = some (.string ⟨s1.toArray⟩) from rfl)
  have z3 := frozen_of_row y2 g 3 _ _ hg.out
  have c3 := (cell_of_row y2 g 3 _ _ _ hg.out).trans (show _ = some (.int .i64 v1) from rfl)
  have z4 := frozen_of_row y2 g 4 _ _ hg.out
  have c4 := (cell_of_row y2 g 4 _ _ _ hg.out).trans (show _ = some (.string ⟨s2.toArray⟩) from rfl)
  have z5 := frozen_of_row y2 g 5 _ _ hg.out
  have c5 := (cell_of_row y2 g 5 _ _ _ hg.out).trans (show _ = some (.int .i64 v2) from rfl)
  have z6 := frozen_of_row y2 g 6 _ _ hg.out
  have c6 := (cell_of_row y2 g 6 _ _ _ hg.out).trans (show _ = some (.string ⟨s3.toArray⟩) from rfl)
  have z7 := frozen_of_row y2 g 7 _ _ hg.out
  have c7 := (cell_of_row y2 g 7 _ _ _ hg.out).trans (show _ = some (.int .i64 v3) from rfl)
  rw [rounds_succ]
  go_wp2_with fail
  refine (order1_c s2 v2 v b _ (((Ext.refl y2).alloc _ _).cell_of hb.out)).mono ?_
  rintro e w3 ⟨rfl, hx⟩
  have b0 : w3.cell? ⟨y2.heap.size, 0, none⟩ = some (.string ⟨s2.toArray⟩) := hx.cell_of (by simp [go_sem])
  have b1 : w3.cell? ⟨y2.heap.size, 1, none⟩ = some (.int .i64 v2) := hx.cell_of (by simp [go_sem])
  replace hx := ((Ext.refl y2).alloc _ _).trans hx
  have hgl := (Array.getElem?_eq_some_iff.1 hg.out).1
  replace hg := show Hid _ from (hx.below.block g hgl).trans hg.out
  replace hb := show Hid _ from hx.cell_of hb.out
  replace hX := show Hid (Exr g w w3) from hX.out.on hx
  clear hx hgl
  clear z0 c0 z1 c1 z2 c2 z3 c3 z4 c4 z5 c5 z6 c6 z7 c7
  have z0 := frozen_of_row w3 g 0 _ _ hg.out
  have c0 := (cell_of_row w3 g 0 _ _ _ hg.out).trans (show _ = some (.string ⟨s1.toArray⟩) from rfl)
  have z1 := frozen_of_row w3 g 1 _ _ hg.out
  have c1 := (cell_of_row w3 g 1 _ _ _ hg.out).trans (show _ = some (.int .i64 v1) from rfl)
  have z2 := frozen_of_row w3 g 2 _ _ hg.out
  have c2 := (cell_of_row w3 g 2 _ _ _ hg.out).trans (show _ = some (.string ⟨s1.toArray⟩) from rfl)
  have z3 := frozen_of_row w3 g 3 _ _ hg.out
  have c3 := (cell_of_row w3 g 3 _ _ _ hg.out).trans (show _ = some (.int .i64 v1) from rfl)
  have z4 := frozen_of_row w3 g 4 _ _ hg.out
  have c4 := (cell_of_row w3 g 4 _ _ _ hg.out).trans (show _ = some (.string ⟨s2.toArray⟩) from rfl)
  have z5 := frozen_of_row w3 g 5 _ _ hg.out
  have c5 := (cell_of_row w3 g 5 _ _ _ hg.out).trans (show _ = some (.int .i64 v2) from rfl)
  have z6 := frozen_of_row w3 g 6 _ _ hg.out
  have c6 := (cell_of_row w3 g 6 _ _ _ hg.out).trans (show _ = some (.string ⟨s3.toArray⟩) from rfl)
  have z7 := frozen_of_row w3 g 7 _ _ hg.out
  have c7 := (cell_of_row w3 g 7 _ _ _ hg.out).trans (show _ = some (.int .i64 v3) from rfl)
  go_wp2
  replace hg := show Hid (((w3.setCell ⟨g, 2, none⟩ (.string ⟨s2.toArray⟩)).setCell ⟨g, 3, none⟩ (.int .i64 v2)).heap[g]? = some (.cells #[.string ⟨s1.toArray⟩, .int .i64 v1, .string ⟨s2.toArray⟩, .int .i64 v2, .string ⟨s2.toArray⟩, .int .i64 v2, .string ⟨s3.toArray⟩, .int .i64 v3] 140 (0, 0))) from (heap_setCell_same _ g 3 _ _ (.int .i64 v2) ((heap_setCell_same w3 g 2 _ _ (.string ⟨s2.toArray⟩) hg.out))).trans rfl
  replace hb := show Hid (((w3.setCell ⟨g, 2, none⟩ (.string ⟨s2.toArray⟩)).setCell ⟨g, 3, none⟩ (.int .i64 v2)).cell? ⟨b, 0, none⟩ = some (.int .i64 v)) from by show _ = _; rw [L8.other _ (Or.inl (Ne.symm hbg)), L8.other _ (Or.inl (Ne.symm hbg))]; exact hb.out
  replace hX := show Hid (Exr g w ((w3.setCell ⟨g, 2, none⟩ (.string ⟨s2.toArray⟩)).setCell ⟨g, 3, none⟩ (.int .i64 v2))) from (hX.out.set _ _).set _ _
  clear z0 c0 z1 c1 z2 c2 z3 c3 z4 c4 z5 c5 z6 c6 z7 c7
  clear b0 b1
  obtain ⟨y3, hW⟩ : ∃ W, ((w3.setCell ⟨g, 2, none⟩ (.string ⟨s2.toArray⟩)).setCell ⟨g, 3, none⟩ (.int .i64 v2)) = W := ⟨_, rfl⟩
  rw [hW] at hg hb hX ⊢
  clear hW
  have z0 := frozen_of_row y3 g 0 _ _ hg.out
  have c0 := (cell_of_row y3 g 0 _ _ _ hg.out).trans (show _ = some (.string ⟨s1.toArray⟩) from rfl)
  have z1 := frozen_of_row y3 g 1 _ _ hg.out
  have c1 := (cell_of_row y3 g 1 _ _ _ hg.out).trans (show _ = some (.int .i64 v1) from rfl)
  have z2 := frozen_of_row y3 g 2 _ _ hg.out
  have c2 := (cell_of_row y3 g 2 _ _ _ hg.out).trans (show _ = some (.string ⟨s2.toArray⟩) from rfl)
  have z3 := frozen_of_row y3 g 3 _ _ hg.out
  have c3 := (cell_of_row y3 g 3 _ _ _ hg.out).trans (show _ = some (.int .i64 v2) from rfl)
  have z4 := frozen_of_row y3 g 4 _ _ hg.out
  have c4 := (cell_of_row y3 g 4 _ _ _ hg.out).trans (show _ = some (.string ⟨s2.toArray⟩) from rfl)
  have z5 := frozen_of_row y3 g 5 _ _ hg.out
  have c5 := (cell_of_row y3 g 5 _ _ _ hg.out).trans (show _ = some (.int .i64 v2) from rfl)
  have z6 := frozen_of_row y3 g 6 _ _ hg.out
  have c6 := (cell_of_row y3 g 6 _ _ _ hg.out).trans (show _ = some (.string ⟨s3.toArray⟩) from rfl)
  have z7 := frozen_of_row y3 g 7 _ _ hg.out
  have c7 := (cell_of_row y3 g 7 _ _ _ hg.out).trans (show _ = some (.int .i64 v3) from rfl)
  rw [rounds_succ]
  go_wp2_with fail
  refine (order1_c s3 v3 v b _ (((Ext.refl y3).alloc _ _).cell_of hb.out)).mono ?_
  rintro e w4 ⟨rfl, hx⟩
  have b0 : w4.cell? ⟨y3.heap.size, 0, none⟩ = some (.string ⟨s3.toArray⟩) := hx.cell_of (by simp [go_sem])
  have b1 : w4.cell? ⟨y3.heap.size, 1, none⟩ = some (.int .i64 v3) := hx.cell_of (by simp [go_sem])
  replace hx := ((Ext.refl y3).alloc _ _).trans hx
  have hgl := (Array.getElem?_eq_some_iff.1 hg.out).1
  replace hg := show Hid _ from (hx.below.block g hgl).trans hg.out
  replace hb := show Hid _ from hx.cell_of hb.out
  replace hX := show Hid (Exr g w w4) from hX.out.on hx
  clear hx hgl
  clear z0 c0 z1 c1 z2 c2 z3 c3 z4 c4 z5 c5 z6 c6 z7 c7
  have z0 := frozen_of_row w4 g 0 _ _ hg.out
  have c0 := (cell_of_row w4 g 0 _ _ _ hg.out).trans (show _ = some (.string ⟨s1.toArray⟩) from rfl)
  have z1 := frozen_of_row w4 g 1 _ _ hg.out
  have c1 := (cell_of_row w4 g 1 _ _ _ hg.out).trans (show _ = some (.int .i64 v1) from rfl)
  have z2 := frozen_of_row w4 g 2 _ _ hg.out
  have c2 := (cell_of_row w4 g 2 _ _ _ hg.out).trans (show _ = some (.string ⟨s2.toArray⟩) from rfl)
  have z3 := frozen_of_row w4 g 3 _ _ hg.out
  have c3 := (cell_of_row w4 g 3 _ _ _ hg.out).trans (show _ = some (.int .i64 v2) from rfl)
  have z4 := frozen_of_row w4 g 4 _ _ hg.out
  have c4 := (cell_of_row w4 g 4 _ _ _ hg.out).trans (show _ = some (.string ⟨s2.toArray⟩) from rfl)
  have z5 := frozen_of_row w4 g 5 _ _ hg.out
  have c5 := (cell_of_row w4 g 5 _ _ _ hg.out).trans (show _ = some (.int .i64 v2) from rfl)
  have z6 := frozen_of_row w4 g 6 _ _ hg.out
  have c6 := (cell_of_row w4 g 6 _ _ _ hg.out).trans (show _ = some (.string ⟨s3.toArray⟩) from rfl)
  have z7 := frozen_of_row w4 g 7 _ _ hg.out
  have c7 := (cell_of_row w4 g 7 _ _ _ hg.out).trans (show _ = some (.int .i64 v3) from rfl)
  go_wp2
  replace hg := show Hid (((w4.setCell ⟨g, 4, none⟩ (.string ⟨s3.toArray⟩)).setCell ⟨g, 5, none⟩ (.int .i64 v3)).heap[g]? = some (.cells #[.string ⟨s1.toArray⟩, .int .i64 v1, .string ⟨s2.toArray⟩, .int .i64 v2, .string ⟨s3.toArray⟩, .int .i64 v3, .string ⟨s3.toArray⟩, .int .i64 v3] 140 (0, 0))) from (heap_setCell_same _ g 5 _ _ (.int .i64 v3) ((heap_setCell_same w4 g 4 _ _ (.string ⟨s3.toArray⟩) hg.out))).trans rfl
  replace hb := show Hid (((w4.setCell ⟨g, 4, none⟩ (.string ⟨s3.toArray⟩)).setCell ⟨g, 5, none⟩ (.int .i64 v3)).cell? ⟨b, 0, none⟩ = some (.int .i64 v)) from by show _ = _; rw [L8.other _ (Or.inl (Ne.symm hbg)), L8.other _ (Or.inl (Ne.symm hbg))]; exact hb.out
  replace hX := show Hid (Exr g w ((w4.setCell ⟨g, 4, none⟩ (.string ⟨s3.toArray⟩)).setCell ⟨g, 5, none⟩ (.int .i64 v3))) from (hX.out.set _ _).set _ _
  clear z0 c0 z1 c1 z2 c2 z3 c3 z4 c4 z5 c5 z6 c6 z7 c7
  clear b0 b1
  obtain ⟨y4, hW⟩ : ∃ W, ((w4.setCell ⟨g, 4, none⟩ (.string ⟨s3.toArray⟩)).setCell ⟨g, 5, none⟩ (.int .i64 v3)) = W := ⟨_, rfl⟩
  rw [hW] at hg hb hX ⊢
  clear hW
  have z0 := frozen_of_row y4 g 0 _ _ hg.out
  have c0 := (cell_of_row y4 g 0 _ _ _ hg.out).trans (show _ = some (.string ⟨s1.toArray⟩) from rfl)
  have z1 := frozen_of_row y4 g 1 _ _ hg.out
  have c1 := (cell_of_row y4 g 1 _ _ _ hg.out).trans (show _ = some (.int .i64 v1) from rfl)
  have z2 := frozen_of_row y4 g 2 _ _ hg.out
  have c2 := (cell_of_row y4 g 2 _ _ _ hg.out).trans (show _ = some (.string ⟨s2.toArray⟩) from rfl)
  have z3 := frozen_of_row y4 g 3 _ _ hg.out
  have c3 := (cell_of_row y4 g 3 _ _ _ hg.out).trans (show _ = some (.int .i64 v2) from rfl)
  have z4 := frozen_of_row y4 g 4 _ _ hg.out
  have c4 := (cell_of_row y4 g 4 _ _ _ hg.out).trans (show _ = some (.string ⟨s3.toArray⟩) from rfl)
  have z5 := frozen_of_row y4 g 5 _ _ hg.out
  have c5 := (cell_of_row y4 g 5 _ _ _ hg.out).trans (show _ = some (.int .i64 v3) from rfl)
  have z6 := frozen_of_row y4 g 6 _ _ hg.out
  have c6 := (cell_of_row y4 g 6 _ _ _ hg.out).trans (show _ = some (.string ⟨s3.toArray⟩) from rfl)
  have z7 := frozen_of_row y4 g 7 _ _ hg.out
  have c7 := (cell_of_row y4 g 7 _ _ _ hg.out).trans (show _ = some (.int .i64 v3) from rfl)
  have hcl := fun ty => clear_one y4 ty g 6 1 _ _ c6 c7 z6 z7
  rw [rounds_succ]
  go_wp2_with (simp only [hcl])
  go_ret
  exact ⟨rfl, (heap_setCell_same _ g 7 _ _ (.int .i64 0) (heap_setCell_same y4 g 6 _ _ (.string ⟨#[]⟩) hg.out)).trans rfl, (hX.out.set _ _).set _ _⟩
theorem del41 (g b : Nat) (s0 s1 s2 s3 : List UInt8) (v0 v2 v3 v : Int) (w : World) (hb : w.cell? ⟨b, 0, none⟩ = some (.int .i64 v)) (hg : w.heap[g]? = some (.cells #[.string ⟨s0.toArray⟩, .int .i64 v0, .string ⟨s1.toArray⟩, .int .i64 v, .string ⟨s2.toArray⟩, .int .i64 v2, .string ⟨s3.toArray⟩, .int .i64 v3] 140 (0, 0))) (n0 : (v0 == v) = false) (n2 : (v2 == v) = false) (n3 : (v3 == v) = false) :
    Calls Tryz.prog 130 #[.slice (some ⟨g, 0, none⟩) 4 4, .func (.func 131) #[] #[.pointer (some ⟨b, 0, none⟩)]] w fun e w' => e = .returned (.slice (some ⟨g, 0, none⟩) 3 4) ∧ w'.heap[g]? = some (.cells #[.string ⟨s0.toArray⟩, .int .i64 v0, .string ⟨s2.toArray⟩, .int .i64 v2, .string ⟨s3.toArray⟩, .int .i64 v3, .string ⟨#[]⟩, .int .i64 0] 140 (0, 0)) ∧ Exr g w w' := by
  have hbg : b ≠ g := by
    rintro rfl
    have := (cell_of_row w b 0 _ _ _ hg).symm.trans hb
    simp at this
  have hbl := lt_of_cell hb
  have hgl := (Array.getElem?_eq_some_iff.1 hg).1
  have ho : Hid (Opt w g [(s0, v0), (s1, v), (s2, v2), (s3, v3)]) := ⟨fun k u x hk => by
    match k, hk with
    | 0, e =>
      obtain ⟨rfl, rfl⟩ : s0 = u ∧ v0 = x := by simpa using e
      exact ⟨(cell_of_row w g 0 _ _ _ hg).trans rfl, (cell_of_row w g 1 _ _ _ hg).trans rfl⟩
    | 1, e =>
      obtain ⟨rfl, rfl⟩ : s1 = u ∧ v = x := by simpa using e
      exact ⟨(cell_of_row w g 2 _ _ _ hg).trans rfl, (cell_of_row w g 3 _ _ _ hg).trans rfl⟩
    | 2, e =>
      obtain ⟨rfl, rfl⟩ : s2 = u ∧ v2 = x := by simpa using e
      exact ⟨(cell_of_row w g 4 _ _ _ hg).trans rfl, (cell_of_row w g 5 _ _ _ hg).trans rfl⟩
    | 3, e =>
      obtain ⟨rfl, rfl⟩ : s3 = u ∧ v3 = x := by simpa using e
      exact ⟨(cell_of_row w g 6 _ _ _ hg).trans rfl, (cell_of_row w g 7 _ _ _ hg).trans rfl⟩
    | k + 4, e => simp at e⟩
  replace hg := show Hid _ from hg
  replace hb := show Hid _ from hb
  go_enter Tryz.func130, Tryz.ntmps130
  go_wp2_with fail
  refine (idxV_c g 4 b 1 [(s0, v0), (s1, v), (s2, v2), (s3, v3)] s1 v _ (by simp) ho.out hb.out rfl ?_).mono ?_
  · intro j u x hj hk
    match j, hj, hk with
    | 0, _, e =>
      obtain ⟨rfl, rfl⟩ : s0 = u ∧ v0 = x := by simpa using e
      simpa using n0
    | j + 1, hj, _ => omega
  rintro e w1 ⟨rfl, hx⟩
  clear ho
  replace hg := show Hid _ from (hx.below.block g hgl).trans hg.out
  replace hb := show Hid _ from hx.cell_of hb.out
  have hX : Hid (Exr g w w1) := .of hx
  clear hx hgl hbl
  go_wp2_with fail
  refine wp_loop_rounds 3 ?_
  have z0 := frozen_of_row w1 g 0 _ _ hg.out
  have c0 := (cell_of_row w1 g 0 _ _ _ hg.out).trans (show _ = some (.string ⟨s0.toArray⟩) from rfl)
  have z1 := frozen_of_row w1 g 1 _ _ hg.out
  have c1 := (cell_of_row w1 g 1 _ _ _ hg.out).trans (show _ = some (.int .i64 v0) from rfl)
  have z2 := frozen_of_row w1 g 2 _ _ hg.out
  have c2 := (cell_of_row w1 g 2 _ _ _ hg.out).trans (show _ = some (.string ⟨s1.toArray⟩) from rfl)
  have z3 := frozen_of_row w1 g 3 _ _ hg.out
  have c3 := (cell_of_row w1 g 3 _ _ _ hg.out).trans (show _ = some (.int .i64 v) from rfl)
  have z4 := frozen_of_row w1 g 4 _ _ hg.out
  have c4 := (cell_of_row w1 g 4 _ _ _ hg.out).trans (show _ = some (.string ⟨s2.toArray⟩) from rfl)
  have z5 := frozen_of_row w1 g 5 _ _ hg.out
  have c5 := (cell_of_row w1 g 5 _ _ _ hg.out).trans (show _ = some (.int .i64 v2) from rfl)
  have z6 := frozen_of_row w1 g 6 _ _ hg.out
  have c6 := (cell_of_row w1 g 6 _ _ _ hg.out).trans (show _ = some (.string ⟨s3.toArray⟩) from rfl)
  have z7 := frozen_of_row w1 g 7 _ _ hg.out
  have c7 := (cell_of_row w1 g 7 _ _ _ hg.out).trans (show _ = some (.int .i64 v3) from rfl)
  rw [rounds_succ]
  go_wp2_with fail
  refine (order1_c s2 v2 v b _ (((Ext.refl w1).alloc _ _).cell_of hb.out)).mono ?_
  rintro e w2 ⟨rfl, hx⟩
  have b0 : w2.cell? ⟨w1.heap.size, 0, none⟩ = some (.string ⟨s2.toArray⟩) := hx.cell_of (by simp [go_sem])
  have b1 : w2.cell? ⟨w1.heap.size, 1, none⟩ = some (.int .i64 v2) := hx.cell_of (by simp [go_sem])
  replace hx := ((Ext.refl w1).alloc _ _).trans hx
  have hgl := (Array.getElem?_eq_some_iff.1 hg.out).1
  replace hg := show Hid _ from (hx.below.block g hgl).trans hg.out
  replace hb := show Hid _ from hx.cell_of hb.out
  replace hX := show Hid (Exr g w w2) from hX.out.on hx
  clear hx hgl
  clear z0 c0 z1 c1 z2 c2 z3 c3 z4 c4 z5 c5 z6 c6 z7 c7
  have z0 := frozen_of_row w2 g 0 _ _ hg.out
  have c0 := (cell_of_row w2 g 0 _ _ _ hg.out).trans (show _ = some (.string ⟨s0.toArray⟩) from rfl)
  have z1 := frozen_of_row w2 g 1 _ _ hg.out
  have c1 := (cell_of_row w2 g 1 _ _ _ hg.out).trans (show _ = some (.int .i64 v0) from rfl)
  have z2 := frozen_of_row w2 g 2 _ _ hg.out
  have c2 := (cell_of_row w2 g 2 _ _ _ hg.out).trans (show _ = some (.string ⟨s1.toArray⟩) from rfl)
  have z3 := frozen_of_row w2 g 3 _ _ hg.out
  have c3 := (cell_of_row w2 g 3 _ _ _ hg.out).trans (show _ = some (.int .i64 v) from rfl)
  have z4 := frozen_of_row w2 g 4 _ _ hg.out
  have c4 := (cell_of_row w2 g 4 _ _ _ hg.out).trans (show _ = some (.string ⟨s2.toArray⟩) from rfl)
  have z5 := frozen_of_row w2 g 5 _ _ hg.out
  have c5 := (cell_of_row w2 g 5 _ _ _ hg.out).trans (show _ = some (.int .i64 v2) from rfl)
  have z6 := frozen_of_row w2 g 6 _ _ hg.out
  have c6 := (cell_of_row w2 g 6 _ _ _ hg.out).trans (show _ = some (.string ⟨s3.toArray⟩) from rfl)
  have z7 := frozen_of_row w2 g 7 _ _ hg.out
  have c7 := (cell_of_row w2 g 7 _ _ _ hg.out).trans (show _ = some (.int .i64 v3) from rfl)
  go_wp2
  replace hg := show Hid (((w2.setCell ⟨g, 2, none⟩ (.string ⟨s2.toArray⟩)).setCell ⟨g, 3, none⟩ (.int .i64 v2)).heap[g]? = some (.cells #[.string ⟨s0.toArray⟩, .int .i64 v0, .string ⟨s2.toArray⟩, .int .i64 v2, .string ⟨s2.toArray⟩, .int .i64 v2, .string ⟨s3.toArray⟩, .int .i64 v3] 140 (0, 0))) from (heap_setCell_same _ g 3 _ _ (.int .i64 v2) ((heap_setCell_same w2 g 2 _ _ (.string ⟨s2.toArray⟩) hg.out))).trans rfl
  replace hb := show Hid (((w2.setCell ⟨g, 2, none⟩ (.string ⟨s2.toArray⟩)).setCell ⟨g, 3, none⟩ (.int .i64 v2)).cell? ⟨b, 0, none⟩ = some (.int .i64 v)) from by show _ = _; rw [L8.other _ (Or.inl (Ne.symm hbg)), L8.other _ (Or.inl (Ne.symm hbg))]; exact hb.out
  replace hX := show Hid (Exr g w ((w2.setCell ⟨g, 2, none⟩ (.string ⟨s2.toArray⟩)).setCell ⟨g, 3, none⟩ (.int .i64 v2))) from (hX.out.set _ _).set _ _
  clear z0 c0 z1 c1 z2 c2 z3 c3 z4 c4 z5 c5 z6 c6 z7 c7
  clear b0 b1
  obtain ⟨y2, hW⟩ : ∃ W, ((w2.setCell ⟨g, 2, none⟩ (.string ⟨s2.toArray⟩)).setCell ⟨g, 3, none⟩ (.int .i64 v2)) = W := ⟨_, rfl⟩
  rw [hW] at hg hb hX ⊢
  clear hW
  have z0 := frozen_of_row y2 g 0 _ _ hg.out
  have c0 := (cell_of_row y2 g 0 _ _ _ hg.out).trans (show _ = some (.string ⟨s0.toArray⟩) from rfl)
  have z1 := frozen_of_row y2 g 1 _ _ hg.out
  have c1 := (cell_of_row y2 g 1 _ _ _ hg.out).trans (show _ = some (.int .i64 v0) from rfl)
  have z2 := frozen_of_row y2 g 2 _ _ hg.out
  have c2 := (cell_of_row y2 g 2 _ _ _ hg.out).trans (show _ = some (.string ⟨s2.toArray⟩) from rfl)
  have z3 := frozen_of_row y2 g 3 _ _ hg.out
  have c3 := (cell_of_row y2 g 3 _ _ _ hg.out).trans (show _ = some (.int .i64 v2) from rfl)
  have z4 := frozen_of_row y2 g 4 _ _ hg.out
  have c4 := (cell_of_row y2 g 4 _ _ _ hg.out).trans (show _ = some (.string ⟨s2.toArray⟩) from rfl)
  have z5 := frozen_of_row y2 g 5 _ _ hg.out
  have c5 := (cell_of_row y2 g 5 _ _ _ hg.out).trans (show _ = some (.int .i64 v2) from rfl)
  have z6 := frozen_of_row y2 g 6 _ _ hg.out
  have c6 := (cell_of_row y2 g 6 _ _ _ hg.out).trans (show _ = some (.string ⟨s3.toArray⟩) from rfl)
  have z7 := frozen_of_row y2 g 7 _ _ hg.out
  have c7 := (cell_of_row y2 g 7 _ _ _ hg.out).trans (show _ = some (.int .i64 v3) from rfl)
  rw [rounds_succ]
  go_wp2_with fail
  refine (order1_c s3 v3 v b _ (((Ext.refl y2).alloc _ _).cell_of hb.out)).mono ?_
  rintro e w3 ⟨rfl, hx⟩
  have b0 : w3.cell? ⟨y2.heap.size, 0, none⟩ = some (.string ⟨s3.toArray⟩) := hx.cell_of (by simp [go_sem])
  have b1 : w3.cell? ⟨y2.heap.size, 1, none⟩ = some (.int .i64 v3) := hx.cell_of (by simp [go_sem])
  replace hx := ((Ext.refl y2).alloc _ _).trans hx
  have hgl := (Array.getElem?_eq_some_iff.1 hg.out).1
  replace hg := show Hid _ from (hx.below.block g hgl).trans hg.out
  replace hb := show Hid _ from hx.cell_of hb.out
  replace hX := show Hid (Exr g w w3) from hX.out.on hx
  clear hx hgl
  clear z0 c0 z1 c1 z2 c2 z3 c3 z4 c4 z5 c5 z6 c6 z7 c7
  have z0 := frozen_of_row w3 g 0 _ _ hg.out
  have c0 := (cell_of_row w3 g 0 _ _ _ hg.out).trans (show _ = some (.string ⟨s0.toArray⟩) from rfl)
  have z1 := frozen_of_row w3 g 1 _ _ hg.out
  have c1 := (cell_of_row w3 g 1 _ _ _ hg.out).trans (show _ = some (.int .i64 v0) from rfl)
  have z2 := frozen_of_row w3 g 2 _ _ hg.out
  have c2 := (cell_of_row w3 g 2 _ _ _ hg.out).trans (show _ = some (.string ⟨s2.toArray⟩) from rfl)
  have z3 := frozen_of_row w3 g 3 _ _ hg.out
  have c3 := (cell_of_row w3 g 3 _ _ _ hg.out).trans (show _ = some (.int .i64 v2) from rfl)
  have z4 := frozen_of_row w3 g 4 _ _ hg.out
  have c4 := (cell_of_row w3 g 4 _ _ _ hg.out).trans (show _ = some (.string ⟨s2.toArray⟩) from rfl)
  have z5 := frozen_of_row w3 g 5 _ _ hg.out
  have c5 := (cell_of_row w3 g 5 _ _ _ hg.out).trans (show _ = some (.int .i64 v2) from rfl)
  have z6 := frozen_of_row w3 g 6 _ _ hg.out
  have c6 := (cell_of_row w3 g 6 _ _ _ hg.out).trans (show _ = some (.string ⟨s3.toArray⟩) from rfl)
  have z7 := frozen_of_row w3 g 7 _ _ hg.out
  have c7 := (cell_of_row w3 g 7 _ _ _ hg.out).trans (show _ = some (.int .i64 v3) from rfl)
  go_wp2
  replace hg := show Hid (((w3.setCell ⟨g, 4, none⟩ (.string ⟨s3.toArray⟩)).setCell ⟨g, 5, none⟩ (.int .i64 v3)).heap[g]? = some (.cells #[.string ⟨s0.toArray⟩, .int .i64 v0, .string ⟨s2.toArray⟩, .int .i64 v2, .string ⟨s3.toArray⟩, .int .i64 v3, .string ⟨s3.toArray⟩, .int .i64 v3] 140 (0, 0))) from (heap_setCell_same _ g 5 _ _ (.int .i64 v3) ((heap_setCell_same w3 g 4 _ _ (.string ⟨s3.toArray⟩) hg.out))).trans rfl
  replace hb := show Hid (((w3.setCell ⟨g, 4, none⟩ (.string ⟨s3.toArray⟩)).setCell ⟨g, 5, none⟩ (.int .i64 v3)).cell? ⟨b, 0, none⟩ = some (.int .i64 v)) from by show _ = _; rw [L8.other _ (Or.inl (Ne.symm hbg)), L8.other _ (Or.inl (Ne.symm hbg))]; exact hb.out
  replace hX := show Hid (Exr g w ((w3.setCell ⟨g, 4, none⟩ (.string ⟨s3.toArray⟩)).setCell ⟨g, 5, none⟩ (.int .i64 v3))) from (hX.out.set _ _).set _ _
  clear z0 c0 z1 c1 z2 c2 z3 c3 z4 c4 z5 c5 z6 c6 z7 c7
  clear b0 b1
  obtain ⟨y3, hW⟩ : ∃ W, ((w3.setCell ⟨g, 4, none⟩ (.string ⟨s3.toArray⟩)).setCell ⟨g, 5, none⟩ (.int .i64 v3)) = W := ⟨_, rfl⟩
  rw [hW] at hg hb hX ⊢
  clear hW
  have z0 := frozen_of_row y3 g 0 _ _ hg.out
  have c0 := (cell_of_row y3 g 0 _ _ _ hg.out).trans (show _ = some (.string ⟨s0.toArray⟩) from rfl)
  have z1 := frozen_of_row y3 g 1 _ _ hg.out
  have c1 := (cell_of_row y3 g 1 _ _ _ hg.out).trans (show _ = some (.int .i64 v0) from rfl)
  have z2 := frozen_of_row y3 g 2 _ _ hg.out
  have c2 := (cell_of_row y3 g 2 _ _ _ hg.out).trans (show _ = some (.string ⟨s2.toArray⟩) from rfl)
  have z3 := frozen_of_row y3 g 3 _ _ hg.out
  have c3 := (cell_of_row y3 g 3 _ _ _ hg.out).trans (show _ = some (.int .i64 v2) from rfl)
  have z4 := frozen_of_row y3 g 4 _ _ hg.out
  have c4 := (cell_of_row y3 g 4 _ _ _ hg.out).trans (show _ = some (.string ⟨s3.toArray⟩) from rfl)
  have z5 := frozen_of_row y3 g 5 _ _ hg.out
  have c5 := (cell_of_row y3 g 5 _ _ _ hg.out).trans (show _ = some (.int .i64 v3) from rfl)
  have z6 := frozen_of_row y3 g 6 _ _ hg.out
  have c6 := (cell_of_row y3 g 6 _ _ _ hg.out).trans (show _ = some (.string ⟨s3.toArray⟩) from rfl)
  have z7 := frozen_of_row y3 g 7 _ _ hg.out
  have c7 := (cell_of_row y3 g 7 _ _ _ hg.out).trans (show _ = some (.int .i64 v3) from rfl)
  have hcl := fun ty => clear_one y3 ty g 6 1 _ _ c6 c7 z6 z7
  rw [rounds_succ]
  go_wp2_with (simp only [hcl])
  go_ret
  exact ⟨rfl, (heap_setCell_same _ g 7 _ _ (.int .i64 0) (heap_setCell_same y3 g 6 _ _ (.string ⟨#[]⟩) hg.out)).trans rfl, (hX.out.set _ _).set _ _⟩
theorem del42 (g b : Nat) (s0 s1 s2 s3 : List UInt8) (v0 v1 v3 v : Int) (w : World) (hb : w.cell? ⟨b, 0, none⟩ = some (.int .i64 v)) (hg : w.heap[g]? = some (.cells #[.string ⟨s0.toArray⟩, .int .i64 v0, .string ⟨s1.toArray⟩, .int .i64 v1, .string ⟨s2.toArray⟩, .int .i64 v, .string ⟨s3.toArray⟩, .int .i64 v3] 140 (0, 0))) (n0 : (v0 == v) = false) (n1 : (v1 == v) = false) (n3 : (v3 == v) = false) :
    Calls Tryz.prog 130 #[.slice (some ⟨g, 0, none⟩) 4 4, .func (.func 131) #[] #[.pointer (some ⟨b, 0, none⟩)]] w fun e w' => e = .returned (.slice (some ⟨g, 0, none⟩) 3 4) ∧ w'.heap[g]? = some (.cells #[.string ⟨s0.toArray⟩, .int .i64 v0, .string ⟨s1.toArray⟩, .int .i64 v1, .string ⟨s3.toArray⟩, .int .i64 v3, .string ⟨#[]⟩, .int .i64 0] 140 (0, 0)) ∧ Exr g w w' := by
  have hbg : b ≠ g := by
    rintro rfl
    have := (cell_of_row w b 0 _ _ _ hg).symm.trans hb
    simp at this
  have hbl := lt_of_cell hb
  have hgl := (Array.getElem?_eq_some_iff.1 hg).1
  have ho : Hid (Opt w g [(s0, v0), (s1, v1), (s2, v), (s3, v3)]) := ⟨fun k u x hk => by
    match k, hk with
    | 0, e =>
      obtain ⟨rfl, rfl⟩ : s0 = u ∧ v0 = x := by simpa using e
      exact ⟨(cell_of_row w g 0 _ _ _ hg).trans rfl, (cell_of_row w g 1 _ _ _ hg).trans rfl⟩
    | 1, e =>
      obtain ⟨rfl, rfl⟩ : s1 = u ∧ v1 = x := by simpa using e
      exact ⟨(cell_of_row w g 2 _ _ _ hg).trans rfl, (cell_of_row w g 3 _ _ _ hg).trans rfl⟩
    | 2, e =>
      obtain ⟨rfl, rfl⟩ : s2 = u ∧ v = x := by simpa using e
      exact ⟨(cell_of_row w g 4 _ _ _ hg).trans rfl, (cell_of_row w g 5 _ _ _ hg).trans rfl⟩
    | 3, e =>
      obtain ⟨rfl, rfl⟩ : s3 = u ∧ v3 = x := by simpa using e
      exact ⟨(cell_of_row w g 6 _ _ _ hg).trans rfl, (cell_of_row w g 7 _ _ _ hg).trans rfl⟩
    | k + 4, e => simp at e⟩
  replace hg := show Hid _ from hg
  replace hb := show Hid _ from hb
  go_enter Tryz.func130, Tryz.ntmps130
  go_wp2_with fail
  refine (idxV_c g 4 b 2 [(s0, v0), (s1, v1), (s2, v), (s3, v3)] s2 v _ (by simp) ho.out hb.out rfl ?_).mono ?_
  · intro j u x hj hk
    match j, hj, hk with
    | 0, _, e =>
      obtain ⟨rfl, rfl⟩ : s0 = u ∧ v0 = x := by simpa using e
      simpa using n0
    | 1, _, e =>
      obtain ⟨rfl, rfl⟩ : s1 = u ∧ v1 = x := by simpa using e
      simpa using n1
    | j + 2, hj, _ => omega
  rintro e w1 ⟨rfl, hx⟩
  clear ho
  replace hg := show Hid _ from (hx.below.block g hgl).trans hg.out
  replace hb := show Hid _ from hx.cell_of hb.out
  have hX : Hid (Exr g w w1) := .of hx
  clear hx hgl hbl
  go_wp2_with fail
  refine wp_loop_rounds 2 ?_
  have z0 := frozen_of_row w1 g 0 _ _ hg.out
  have c0 := (cell_of_row w1 g 0 _ _ _ hg.out).trans (show _ = some (.string ⟨s0.toArray⟩) from rfl)
  have z1 := frozen_of_row w1 g 1 _ _ hg.out
  have c1 := (cell_of_row w1 g 1 _ _ _ hg.out).trans (show _ = some (.int .i64 v0) from rfl)
  have z2 := frozen_of_row w1 g 2 _ _ hg.out
  have c2 := (cell_of_row w1 g 2 _ _ _ hg.out).trans (show _ = some (.string ⟨s1.toArray⟩) from rfl)
  have z3 := frozen_of_row w1 g 3 _ _ hg.out
  have c3 := (cell_of_row w1 g 3 _ _ _ hg.out).trans (show _ = some (.int .i64 v1) from rfl)
  have z4 := frozen_of_row w1 g 4 _ _ hg.out
  have c4 := (cell_of_row w1 g 4 _ _ _ hg.out).trans (show _ = some (.string ⟨s2.toArray⟩) from rfl)
  have z5 := frozen_of_row w1 g 5 _ _ hg.out
  have c5 := (cell_of_row w1 g 5 _ _ _ hg.out).trans (show _ = some (.int .i64 v) from rfl)
  have z6 := frozen_of_row w1 g 6 _ _ hg.out
  have c6 := (cell_of_row w1 g 6 _ _ _ hg.out).trans (show _ = some (.string ⟨s3.toArray⟩) from rfl)
  have z7 := frozen_of_row w1 g 7 _ _ hg.out
  have c7 := (cell_of_row w1 g 7 _ _ _ hg.out).trans (show _ = some (.int .i64 v3) from rfl)
  rw [rounds_succ]
  go_wp2_with fail
  refine (order1_c s3 v3 v b _ (((Ext.refl w1).alloc _ _).cell_of hb.out)).mono ?_
  rintro e w2 ⟨rfl, hx⟩
  have b0 : w2.cell? ⟨w1.heap.size, 0, none⟩ = some (.string ⟨s3.toArray⟩) := hx.cell_of (by simp [go_sem])
  have b1 : w2.cell? ⟨w1.heap.size, 1, none⟩ = some (.int .i64 v3) := hx.cell_of (by simp [go_sem])
  replace hx := ((Ext.refl w1).alloc _ _).trans hx
  have hgl := (Array.getElem?_eq_some_iff.1 hg.out).1
  replace hg := show Hid _ from (hx.below.block g hgl).trans hg.out
  replace hb := show Hid _ from hx.cell_of hb.out
  replace hX := show Hid (Exr g w w2) from hX.out.on hx
  clear hx hgl
  clear z0 c0 z1 c1 z2 c2 z3 c3 z4 c4 z5 c5 z6 c6 z7 c7
  have z0 := frozen_of_row w2 g 0 _ _ hg.out
  have c0 := (cell_of_row w2 g 0 _ _ _ hg.out).trans (show _ = some (.string ⟨s0.toArray⟩) from rfl)
  have z1 := frozen_of_row w2 g 1 _ _ hg.out
  have c1 := (cell_of_row w2 g 1 _ _ _ hg.out).trans (show _ = some (.int .i64 v0) from rfl)
  have z2 := frozen_of_row w2 g 2 _ _ hg.out
  have c2 := (cell_of_row w2 g 2 _ _ _ hg.out).trans (show _ = some (.string ⟨s1.toArray⟩) from rfl)
  have z3 := frozen_of_row w2 g 3 _ _ hg.out
  have c3 := (cell_of_row w2 g 3 _ _ _ hg.out).trans (show _ = some (.int .i64 v1) from rfl)
  have z4 := frozen_of_row w2 g 4 _ _ hg.out
  have c4 := (cell_of_row w2 g 4 _ _ _ hg.out).trans (show _ = some (.string ⟨s2.toArray⟩) from rfl)
  have z5 := frozen_of_row w2 g 5 _ _ hg.out
  have c5 := (cell_of_row w2 g 5 _ _ _ hg.out).trans (show _ = some (.int .i64 v) from rfl)
  have z6 := frozen_of_row w2 g 6 _ _ hg.out
  have c6 := (cell_of_row w2 g 6 _ _ _ hg.out).trans (show _ = some (.string ⟨s3.toArray⟩) from rfl)
  have z7 := frozen_of_row w2 g 7 _ _ hg.out
  have c7 := (cell_of_row w2 g 7 _ _ _ hg.out).trans (show _ = some (.int .i64 v3) from rfl)
  go_wp2
  replace hg := show Hid (((w2.setCell ⟨g, 4, none⟩ (.string ⟨s3.toArray⟩)).setCell ⟨g, 5, none⟩ (.int .i64 v3)).heap[g]? = some (.cells #[.string ⟨s0.toArray⟩, .int .i64 v0, .string ⟨s1.toArray⟩, .int .i64 v1, .string ⟨s3.toArray⟩, .int .i64 v3, .string ⟨s3.toArray⟩, .int .i64 v3] 140 (0, 0))) from (heap_setCell_same _ g 5 _ _ (.int .i64 v3) ((heap_setCell_same w2 g 4 _ _ (.string ⟨s3.toArray⟩) hg.out))).trans rfl
  replace hb := show Hid (((w2.setCell ⟨g, 4, none⟩ (.string ⟨s3.toArray⟩)).setCell ⟨g, 5, none⟩ (.int .i64 v3)).cell? ⟨b, 0, none⟩ = some (.int .i64 v)) from by show _ = _; rw [L8.other _ (Or.inl (Ne.symm hbg)), L8.other _ (Or.inl (Ne.symm hbg))]; exact hb.out
  replace hX := show Hid (Exr g w ((w2.setCell ⟨g, 4, none⟩ (.string ⟨s3.toArray⟩)).setCell ⟨g, 5, none⟩ (.int .i64 v3))) from (hX.out.set _ _).set _ _
  clear z0 c0 z1 c1 z2 c2 z3 c3 z4 c4 z5 c5 z6 c6 z7 c7
  clear b0 b1
  obtain ⟨y2, hW⟩ : ∃ W, ((w2.setCell ⟨g, 4, none⟩ (.string ⟨s3.toArray⟩)).setCell ⟨g, 5, none⟩ (.int .i64 v3)) = W := ⟨_, rfl⟩
  rw [hW] at hg hb hX ⊢
  clear hW
  have z0 := frozen_of_row y2 g 0 _ _ hg.out
  have c0 := (cell_of_row y2 g 0 _ _ _ hg.out).trans (show _ = some (.string ⟨s0.toArray⟩) from rfl)
  have z1 := frozen_of_row y2 g 1 _ _ hg.out
  have c1 := (cell_of_row y2 g 1 _ _ _ hg.out).trans (show _ = some (.int .i64 v0) from rfl)
  have z2 := frozen_of_row y2 g 2 _ _ hg.out
  have c2 := (cell_of_row y2 g 2 _ _ _ hg.out).trans (show _ = some (.string ⟨s1.toArray⟩) from rfl)
  have z3 := frozen_of_row y2 g 3 _ _ hg.out
  have c3 := (cell_of_row y2 g 3 _ _ _ hg.out).trans (show _ = some (.int .i64 v1) from rfl)
  have z4 := frozen_of_row y2 g 4 _ _ hg.out
  have c4 := (cell_of_row y2 g 4 _ _ _ hg.out).trans (show _ = some (.string ⟨s3.toArray⟩) from rfl)
  have z5 := frozen_of_row y2 g 5 _ _ hg.out
  have c5 := (cell_of_row y2 g 5 _ _ _ hg.out).trans (show _ = some (.int .i64 v3) from rfl)
  have z6 := frozen_of_row y2 g 6 _ _ hg.out
  have c6 := (cell_of_row y2 g 6 _ _ _ hg.out).trans (show _ = some (.string ⟨s3.toArray⟩) from rfl)
  have z7 := frozen_of_row y2 g 7 _ _ hg.out
  have c7 := (cell_of_row y2 g 7 _ _ _ hg.out).trans (show _ = some (.int .i64 v3) from rfl)
  have hcl := fun ty => clear_one y2 ty g 6 1 _ _ c6 c7 z6 z7
  rw [rounds_succ]
  go_wp2_with (simp only [hcl])
  go_ret
  exact ⟨rfl, (heap_setCell_same _ g 7 _ _ (.int .i64 0) (heap_setCell_same y2 g 6 _ _ (.string ⟨#[]⟩) hg.out)).trans rfl, (hX.out.set _ _).set _ _⟩
theorem del43 (g b : Nat) (s0 s1 s2 s3 : List UInt8) (v0 v1 v2 v : Int) (w : World) (hb : w.cell? ⟨b, 0, none⟩ = some (.int .i64 v)) (hg : w.heap[g]? = some (.cells #[.string ⟨s0.toArray⟩, .int .i64 v0, .string ⟨s1.toArray⟩, .int .i64 v1, .string ⟨s2.toArray⟩, .int .i64 v2, .string ⟨s3.toArray⟩, .int .i64 v] 140 (0, 0))) (n0 : (v0 == v) = false) (n1 : (v1 == v) = false) (n2 : (v2 == v) = false) :
    Calls Tryz.prog 130 #[.slice (some ⟨g, 0, none⟩) 4 4, .func (.func 131) #[] #[.pointer (some ⟨b, 0, none⟩)]] w fun e w' => e = .returned (.slice (some ⟨g, 0, none⟩) 3 4) ∧ w'.heap[g]? = some (.cells #[.string ⟨s0.toArray⟩, .int .i64 v0, .string ⟨s1.toArray⟩, .int .i64 v1, .string ⟨s2.toArray⟩, .int .i64 v2, .string ⟨#[]⟩, .int .i64 0] 140 (0, 0)) ∧ Exr g w w' := by
  have hbg : b ≠ g := by
    rintro rfl
    have := (cell_of_row w b 0 _ _ _ hg).symm.trans hb
    simp at this
  have hbl := lt_of_cell hb
  have hgl := (Array.getElem?_eq_some_iff.1 hg).1
  have ho : Hid (Opt w g [(s0, v0), (s1, v1), (s2, v2), (s3, v)]) := ⟨fun k u x hk => by
    match k, hk with
    | 0, e =>
      obtain ⟨rfl, rfl⟩ : s0 = u ∧ v0 = x := by simpa using e
      exact ⟨(cell_of_row w g 0 _ _ _ hg).trans rfl, (cell_of_row w g 1 _ _ _ hg).trans rfl⟩
    | 1, e =>
      obtain ⟨rfl, rfl⟩ : s1 = u ∧ v1 = x := by simpa using e
      exact ⟨(cell_of_row w g 2 _ _ _ hg).trans rfl, (cell_of_row w g 3 _ _ _ hg).trans rfl⟩
    | 2, e =>
      obtain ⟨rfl, rfl⟩ : s2 = u ∧ v2 = x := by simpa using e
      exact ⟨(cell_of_row w g 4 _ _ _ hg).trans rfl, (cell_of_row w g 5 _ _ _ hg).trans rfl⟩
    | 3, e =>
      obtain ⟨rfl, rfl⟩ : s3 = u ∧ v = x := by simpa using e
      exact ⟨(cell_of_row w g 6 _ _ _ hg).trans rfl, (cell_of_row w g 7 _ _ _ hg).trans rfl⟩
    | k + 4, e => simp at e⟩
  replace hg := show Hid _ from hg
  replace hb := show Hid _ from hb
  go_enter Tryz.func130, Tryz.ntmps130
  go_wp2_with fail
  refine (idxV_c g 4 b 3 [(s0, v0), (s1, v1), (s2, v2), (s3, v)] s3 v _ (by simp) ho.out hb.out rfl ?_).mono ?_
  · intro j u x hj hk
    match j, hj, hk with
    | 0, _, e =>
      obtain ⟨rfl, rfl⟩ : s0 = u ∧ v0 = x := by simpa using e
      simpa using n0
    | 1, _, e =>
      obtain ⟨rfl, rfl⟩ : s1 = u ∧ v1 = x := by simpa using e
      simpa using n1
    | 2, _, e =>
      obtain ⟨rfl, rfl⟩ : s2 = u ∧ v2 = x := by simpa using e
      simpa using n2
    | j + 3, hj, _ => omega
  rintro e w1 ⟨rfl, hx⟩
  clear ho
  replace hg := show Hid _ from (hx.below.block g hgl).trans hg.out
  replace hb := show Hid _ from hx.cell_of hb.out
  have hX : Hid (Exr g w w1) := .of hx
  clear hx hgl hbl
  go_wp2_with fail
  refine wp_loop_rounds 1 ?_
  have z0 := frozen_of_row w1 g 0 _ _ hg.out
  have c0 := (cell_of_row w1 g 0 _ _ _ hg.out).trans (show _ = some (.string ⟨s0.toArray⟩) from rfl)
  have z1 := frozen_of_row w1 g 1 _ _ hg.out
  have c1 := (cell_of_row w1 g 1 _ _ _ hg.out).trans (show _ = some (.int .i64 v0) from rfl)
  have z2 := frozen_of_row w1 g 2 _ _ hg.out
  have c2 := (cell_of_row w1 g 2 _ _ _ hg.out).trans (show _ = some (.string ⟨s1.toArray⟩) from rfl)
  have z3 := frozen_of_row w1 g 3 _ _ hg.out
  have c3 := (cell_of_row w1 g 3 _ _ _ hg.out).trans (show _ = some (.int .i64 v1) from rfl)
  have z4 := frozen_of_row w1 g 4 _ _ hg.out
  have c4 := (cell_of_row w1 g 4 _ _ _ hg.out).trans (show _ = some (.string ⟨s2.toArray⟩) from rfl)
  have z5 := frozen_of_row w1 g 5 _ _ hg.out
  have c5 := (cell_of_row w1 g 5 _ _ _ hg.out).trans (show _ = some (.int .i64 v2) from rfl)
  have z6 := frozen_of_row w1 g 6 _ _ hg.out
  have c6 := (cell_of_row w1 g 6 _ _ _ hg.out).trans (show _ = some (.string ⟨s3.toArray⟩) from rfl)
  have z7 := frozen_of_row w1 g 7 _ _ hg.out
  have c7 := (cell_of_row w1 g 7 _ _ _ hg.out).trans (show _ = some (.int .i64 v) from rfl)
  have hcl := fun ty => clear_one w1 ty g 6 1 _ _ c6 c7 z6 z7
  rw [rounds_succ]
  go_wp2_with (simp only [hcl])
  go_ret
  exact ⟨rfl, (heap_setCell_same _ g 7 _ _ (.int .i64 0) (heap_setCell_same w1 g 6 _ _ (.string ⟨#[]⟩) hg.out)).trans rfl, (hX.out.set _ _).set _ _⟩
theorem del30 (g b : Nat) (s0 s1 s2 : List UInt8) (v1 v2 v : Int) (w : World) (hb : w.cell? ⟨b, 0, none⟩ = some (.int .i64 v)) (hg : w.heap[g]? = some (.cells #[.string ⟨s0.toArray⟩, .int .i64 v, .string ⟨s1.toArray⟩, .int .i64 v1, .string ⟨s2.toArray⟩, .int .i64 v2, .string ⟨#[]⟩, .int .i64 0] 140 (0, 0))) (n1 : (v1 == v) = false) (n2 : (v2 == v) = false) :
    Calls Tryz.prog 130 #[.slice (some ⟨g, 0, none⟩) 3 4, .func (.func 131) #[] #[.pointer (some ⟨b, 0, none⟩)]] w fun e w' => e = .returned (.slice (some ⟨g, 0, none⟩) 2 4) ∧ w'.heap[g]? = some (.cells #[.string ⟨s1.toArray⟩, .int .i64 v1, .string ⟨s2.toArray⟩, .int .i64 v2, .string ⟨#[]⟩, .int .i64 0, .string ⟨#[]⟩, .int .i64 0] 140 (0, 0)) ∧ Exr g w w' := by
  have hbg : b ≠ g := by
    rintro rfl
    have := (cell_of_row w b 0 _ _ _ hg).symm.trans hb
    simp at this
  have hbl := lt_of_cell hb
  have hgl := (Array.getElem?_eq_some_iff.1 hg).1
  have ho : Hid (Opt w g [(s0, v), (s1, v1), (s2, v2)]) := ⟨fun k u x hk => by
    match k, hk with
    | 0, e =>
      obtain ⟨rfl, rfl⟩ : s0 = u ∧ v = x := by simpa using e
      exact ⟨(cell_of_row w g 0 _ _ _ hg).trans rfl, (cell_of_row w g 1 _ _ _ hg).trans rfl⟩
    | 1, e =>
      obtain ⟨rfl, rfl⟩ : s1 = u ∧ v1 = x := by simpa using e
      exact ⟨(cell_of_row w g 2 _ _ _ hg).trans rfl, (cell_of_row w g 3 _ _ _ hg).trans rfl⟩
    | 2, e =>
      obtain ⟨rfl, rfl⟩ : s2 = u ∧ v2 = x := by simpa using e
      exact ⟨(cell_of_row w g 4 _ _ _ hg).trans rfl, (cell_of_row w g 5 _ _ _ hg).trans rfl⟩
    | k + 3, e => simp at e⟩
  replace hg := show Hid _ from hg
  replace hb := show Hid _ from hb
  go_enter Tryz.func130, Tryz.ntmps130
  go_wp2_with fail
  refine (idxV_c g 4 b 0 [(s0, v), (s1, v1), (s2, v2)] s0 v _ (by simp) ho.out hb.out rfl ?_).mono ?_
  · intro j u x hj hk
    omega
  rintro e w1 ⟨rfl, hx⟩
  clear ho
  replace hg := show Hid _ from (hx.below.block g hgl).trans hg.out
  replace hb := show Hid _ from hx.cell_of hb.out
  have hX : Hid (Exr g w w1) := .of hx
  clear hx hgl hbl
  go_wp2_with fail
  refine wp_loop_rounds 3 ?_
  have z0 := frozen_of_row w1 g 0 _ _ hg.out
  have c0 := (cell_of_row w1 g 0 _ _ _ hg.out).trans (show _ = some (.string ⟨s0.toArray⟩) from rfl)
  have z1 := frozen_of_row w1 g 1 _ _ hg.out
  have c1 := (cell_of_row w1 g 1 _ _ _ hg.out).trans (show _ = some (.int .i64 v) from rfl)
  have z2 := frozen_of_row w1 g 2 _ _ hg.out
  have c2 := (cell_of_row w1 g 2 _ _ _ hg.out).trans (show _ = some (.string ⟨s1.toArray⟩) from rfl)
  have z3 := frozen_of_row w1 g 3 _ _ hg.out
  have c3 := (cell_of_row w1 g 3 _ _ _ hg.out).trans (show _ = some (.int .i64 v1) from rfl)
  have z4 := frozen_of_row w1 g 4 _ _ hg.out
  have c4 := (cell_of_row w1 g 4 _ _ _ hg.out).trans (show _ = some (.string ⟨s2.toArray⟩) from rfl)
  have z5 := frozen_of_row w1 g 5 _ _ hg.out
  have c5 := (cell_of_row w1 g 5 _ _ _ hg.out).trans (show _ = some (.int .i64 v2) from rfl)
  rw [rounds_succ]
  go_wp2_with fail
  refine (order1_c s1 v1 v b _ (((Ext.refl w1).alloc _ _).cell_of hb.out)).mono ?_
  rintro e w2 ⟨rfl, hx⟩
  have b0 : w2.cell? ⟨w1.heap.size, 0, none⟩ = some (.string ⟨s1.toArray⟩) := hx.cell_of (by simp [go_sem])
  have b1 : w2.cell? ⟨w1.heap.size, 1, none⟩ = some (.int .i64 v1) := hx.cell_of (by simp [go_sem])
  replace hx := ((Ext.refl w1).alloc _ _).trans hx
  have hgl := (Array.getElem?_eq_some_iff.1 hg.out).1
  replace hg := show Hid _ from (hx.below.block g hgl).trans hg.out
  replace hb := show Hid _ from hx.cell_of hb.out
  replace hX := show Hid (Exr g w w2) from hX.out.on hx
  clear hx hgl
  clear z0 c0 z1 c1 z2 c2 z3 c3 z4 c4 z5 c5
  have z0 := frozen_of_row w2 g 0 _ _ hg.out
  have c0 := (cell_of_row w2 g 0 _ _ _ hg.out).trans (show _ = some (.string ⟨s0.toArray⟩) from rfl)
  have z1 := frozen_of_row w2 g 1 _ _ hg.out
  have c1 := (cell_of_row w2 g 1 _ _ _ hg.out).trans (show _ = some (.int .i64 v) from rfl)
  have z2 := frozen_of_row w2 g 2 _ _ hg.out
  have c2 := (cell_of_row w2 g 2 _ _ _ hg.out).trans (show _ = some (.string ⟨s1.toArray⟩) from rfl)
  have z3 := frozen_of_row w2 g 3 _ _ hg.out
  have c3 := (cell_of_row w2 g 3 _ _ _ hg.out).trans (show _ = some (.int .i64 v1) from rfl)
  have z4 := frozen_of_row w2 g 4 _ _ hg.out
  have c4 := (cell_of_row w2 g 4 _ _ _ hg.out).trans (show _ = some (.string ⟨s2.toArray⟩) from rfl)
  have z5 := frozen_of_row w2 g 5 _ _ hg.out
  have c5 := (cell_of_row w2 g 5 _ _ _ hg.out).trans (show _ = some (.int .i64 v2) from rfl)
  go_wp2
  replace hg := show Hid (((w2.setCell ⟨g, 0, none⟩ (.string ⟨s1.toArray⟩)).setCell ⟨g, 1, none⟩ (.int .i64 v1)).heap[g]? = some (.cells #[.string ⟨s1.toArray⟩, .int .i64 v1, .string ⟨s1.toArray⟩, .int .i64 v1, .string ⟨s2.toArray⟩, .int .i64 v2, .string ⟨#[]⟩, .int .i64 0] 140 (0, 0))) from (heap_setCell_same _ g 1 _ _ (.int .i64 v1) ((heap_setCell_same w2 g 0 _ _ (.string ⟨s1.toArray⟩) hg.out))).trans rfl
  replace hb := show Hid (((w2.setCell ⟨g, 0, none⟩ (.string ⟨s1.toArray⟩)).setCell ⟨g, 1, none⟩ (.int .i64 v1)).cell? ⟨b, 0, none⟩ = some (.int .i64 v)) from by show _ = _; rw [L8.other _ (Or.inl (Ne.symm hbg)), L8.other _ (Or.inl (Ne.symm hbg))]; exact hb.out
  replace hX := show Hid (Exr g w ((w2.setCell ⟨g, 0, none⟩ (.string ⟨s1.toArray⟩)).setCell ⟨g, 1, none⟩ (.int .i64 v1))) from (hX.out.set _ _).set _ _
  clear z0 c0 z1 c1 z2 c2 z3 c3 z4 c4 z5 c5
  clear b0 b1
  obtain ⟨y2, hW⟩ : ∃ W, ((w2.setCell ⟨g, 0, none⟩ (.string ⟨s1.toArray⟩)).setCell ⟨g, 1, none⟩ (.int .i64 v1)) = W := ⟨_, rfl⟩
  rw [hW] at hg hb hX ⊢
  clear hW
  have z0 := frozen_of_row y2 g 0 _ _ hg.out
  have c0 := (cell_of_row y2 g 0 _ _ _ hg.out).trans (show _ = some (.string ⟨s1.toArray⟩) from rfl)
  have z1 := frozen_of_row y2 g 1 _ _ hg.out
  have c1 := (cell_of_row y2 g 1 _ _ _ hg.out).trans (show _ = some (.int .i64 v1) from rfl)
  have z2 := frozen_of_row y2 g 2 _ _ hg.out
  have c2 := (cell_of_row y2 g 2 _ _ _ hg.out).trans (show _ = some (.string ⟨s1.toArray⟩) from rfl)
  have z3 := frozen_of_row y2 g 3 _ _ hg.out
  have c3 := (cell_of_row y2 g 3 _ _ _ hg.out).trans (show _ = some (.int .i64 v1) from rfl)
  have z4 := frozen_of_row y2 g 4 _ _ hg.out
  have c4 := (cell_of_row y2 g 4 _ _ _ hg.out).trans (show _ = some (.string ⟨s2.toArray⟩) from rfl)
  have z5 := frozen_of_row y2 g 5 _ _ hg.out
  have c5 := (cell_of_row y2 g 5 _ _ _ hg.out).trans (show _ = some (.int .i64 v2) from rfl)
  rw [rounds_succ]
  go_wp2_with fail
  refine (order1_c s2 v2 v b _ (((Ext.refl y2).alloc _ _).cell_of hb.out)).mono ?_
  rintro e w3 ⟨rfl, hx⟩
  have b0 : w3.cell? ⟨y2.heap.size, 0, none⟩ = some (.string ⟨s2.toArray⟩) := hx.cell_of (by simp [go_sem])
  have b1 : w3.cell? ⟨y2.heap.size, 1, none⟩ = some (.int .i64 v2) := hx.cell_of (by simp [go_sem])
  replace hx := ((Ext.refl y2).alloc _ _).trans hx
  have hgl := (Array.getElem?_eq_some_iff.1 hg.out).1
  replace hg := show Hid _ from (hx.below.block g hgl).trans hg.out
  replace hb := show Hid _ from hx.cell_of hb.out
  replace hX := show Hid (Exr g w w3) from hX.out.on hx
  clear hx hgl
  clear z0 c0 z1 c1 z2 c2 z3 c3 z4 c4 z5 c5
  have z0 := frozen_of_row w3 g 0 _ _ hg.out
  have c0 := (cell_of_row w3 g 0 _ _ _ hg.out).trans (show _ = some (.string ⟨s1.toArray⟩) from rfl)
  have z1 := frozen_of_row w3 g 1 _ _ hg.out
  have c1 := (cell_of_row w3 g 1 _ _ _ hg.out).trans (show _ = some (.int .i64 v1) from rfl)
  have z2 := frozen_of_row w3 g 2 _ _ hg.out
  have c2 := (cell_of_row w3 g 2 _ _ _ hg.out).trans (show _ = some (.string ⟨s1.toArray⟩) from rfl)
  have z3 := frozen_of_row w3 g 3 _ _ hg.out
  have c3 := (cell_of_row w3 g 3 _ _ _ hg.out).trans (show _ = some (.int .i64 v1) from rfl)
  have z4 := frozen_of_row w3 g 4 _ _ hg.out
  have c4 := (cell_of_row w3 g 4 _ _ _ hg.out).trans (show _ = some (.string ⟨s2.toArray⟩) from rfl)
  have z5 := frozen_of_row w3 g 5 _ _ hg.out
  have c5 := (cell_of_row w3 g 5 _ _ _ hg.out).trans (show _ = some (.int .i64 v2) from rfl)
  go_wp2
  replace hg := show Hid (((w3.setCell ⟨g, 2, none⟩ (.string ⟨s2.toArray⟩)).setCell ⟨g, 3, none⟩ (.int .i64 v2)).heap[g]? = some (.cells #[.string ⟨s1.toArray⟩, .int .i64 v1, .string ⟨s2.toArray⟩, .int .i64 v2, .string ⟨s2.toArray⟩, .int .i64 v2, .string ⟨#[]⟩, .int .i64 0] 140 (0, 0))) from (heap_setCell_same _ g 3 _ _ (.int .i64 v2) ((heap_setCell_same w3 g 2 _ _ (.string ⟨s2.toArray⟩) hg.out))).trans rfl
  replace hb := show Hid (((w3.setCell ⟨g, 2, none⟩ (.string ⟨s2.toArray⟩)).setCell ⟨g, 3, none⟩ (.int .i64 v2)).cell? ⟨b, 0, none⟩ = some (.int .i64 v)) from by show _ = _; rw [L8.other _ (Or.inl (Ne.symm hbg)), L8.other _ (Or.inl (Ne.symm hbg))]; exact hb.out
  replace hX := show Hid (Exr g w ((w3.setCell ⟨g, 2, none⟩ (.string ⟨s2.toArray⟩)).setCell ⟨g, 3, none⟩ (.int .i64 v2))) from (hX.out.set _ _).set _ _
  clear z0 c0 z1 c1 z2 c2 z3 c3 z4 c4 z5 c5
  clear b0 b1
  obtain ⟨y3, hW⟩ : ∃ W, ((w3.setCell ⟨g, 2, none⟩ (.string ⟨s2.toArray⟩)).setCell ⟨g, 3, none⟩ (.int .i64 v2)) = W := ⟨_, rfl⟩
  rw [hW] at hg hb hX ⊢
  clear hW
  have z0 := frozen_of_row y3 g 0 _ _ hg.out
  have c0 := (cell_of_row y3 g 0 _ _ _ hg.out).trans (show _ = some (.string ⟨s1.toArray⟩) from rfl)
  have z1 := frozen_of_row y3 g 1 _ _ hg.out
  have c1 := (cell_of_row y3 g 1 _ _ _ hg.out).trans (show _ = some (.int .i64 v1) from rfl)
  have z2 := frozen_of_row y3 g 2 _ _ hg.out
  have c2 := (cell_of_row y3 g 2 _ _ _ hg.out).trans (show _ = some (.string ⟨s2.toArray⟩) from rfl)
  have z3 := frozen_of_row y3 g 3 _ _ hg.out
  have c3 := (cell_of_row y3 g 3 _ _ _ hg.out).trans (show _ = some (.int .i64 v2) from rfl)
  have z4 := frozen_of_row y3 g 4 _ _ hg.out
  have c4 := (cell_of_row y3 g 4 _ _ _ hg.out).trans (show _ = some (.string ⟨s2.toArray⟩) from rfl)
  have z5 := frozen_of_row y3 g 5 _ _ hg.out
  have c5 := (cell_of_row y3 g 5 _ _ _ hg.out).trans (show _ = some (.int .i64 v2) from rfl)
  have hcl := fun ty => clear_one y3 ty g 4 2 _ _ c4 c5 z4 z5
  rw [rounds_succ]
  go_wp2_with (simp only [hcl])
  go_ret
  exact ⟨rfl, (heap_setCell_same _ g 5 _ _ (.int .i64 0) (heap_setCell_same y3 g 4 _ _ (.string ⟨#[]⟩) hg.out)).trans rfl, (hX.out.set _ _).set _ _⟩
theorem del31 (g b : Nat) (s0 s1 s2 : List UInt8) (v0 v2 v : Int) (w : World) (hb : w.cell? ⟨b, 0, none⟩ = some (.int .i64 v)) (hg : w.heap[g]? = some (.cells #[.string ⟨s0.toArray⟩, .int .i64 v0, .string ⟨s1.toArray⟩, .int .i64 v, .string ⟨s2.toArray⟩, .int .i64 v2, .string ⟨#[]⟩, .int .i64 0] 140 (0, 0))) (n0 : (v0 == v) = false) (n2 : (v2 == v) = false) :
    Calls Tryz.prog 130 #[.slice (some ⟨g, 0, none⟩) 3 4, .func (.func 131) #[] #[.pointer (some ⟨b, 0, none⟩)]] w fun e w' => e = .returned (.slice (some ⟨g, 0, none⟩) 2 4) ∧ w'.heap[g]? = some (.cells #[.string ⟨s0.toArray⟩, .int .i64 v0, .string ⟨s2.toArray⟩, .int .i64 v2, .string ⟨#[]⟩, .int .i64 0, .string ⟨#[]⟩, .int .i64 0] 140 (0, 0)) ∧ Exr g w w' := by
  have hbg : b ≠ g := by
    rintro rfl
    have := (cell_of_row w b 0 _ _ _ hg).symm.trans hb
    simp at this
  have hbl := lt_of_cell hb
  have hgl := (Array.getElem?_eq_some_iff.1 hg).1
  have ho : Hid (Opt w g [(s0, v0), (s1, v), (s2, v2)]) := ⟨fun k u x hk => by
    match k, hk with
    | 0, e =>
      obtain ⟨rfl, rfl⟩ : s0 = u ∧ v0 = x := by simpa using e
      exact ⟨(cell_of_row w g 0 _ _ _ hg).trans rfl, (cell_of_row w g 1 _ _ _ hg).trans rfl⟩
    | 1, e =>
      obtain ⟨rfl, rfl⟩ : s1 = u ∧ v = x := by simpa using e
      exact ⟨(cell_of_row w g 2 _ _ _ hg).trans rfl, (cell_of_row w g 3 _ _ _ hg).trans rfl⟩
    | 2, e =>
      obtain ⟨rfl, rfl⟩ : s2 = u ∧ v2 = x := by simpa using e
      exact ⟨(cell_of_row w g 4 _ _ _ hg).trans rfl, (cell_of_row w g 5 _ _ _ hg).trans rfl⟩
    | k + 3, e => simp at e⟩
  replace hg := show Hid _ from hg
  replace hb := show Hid _ from hb
  go_enter Tryz.func130, Tryz.ntmps130
  go_wp2_with fail
  refine (idxV_c g 4 b 1 [(s0, v0), (s1, v), (s2, v2)] s1 v _ (by simp) ho.out hb.out rfl ?_).mono ?_
  · intro j u x hj hk
    match j, hj, hk with
    | 0, _, e =>
      obtain ⟨rfl, rfl⟩ : s0 = u ∧ v0 = x := by simpa using e
      simpa using n0
    | j + 1, hj, _ => omega
  rintro e w1 ⟨rfl, hx⟩
  clear ho
  replace hg := show Hid _ from (hx.below.block g hgl).trans hg.out
  replace hb := show Hid _ from hx.cell_of hb.out
  have hX : Hid (Exr g w w1) := .of hx
  clear hx hgl hbl
  go_wp2_with fail
  refine wp_loop_rounds 2 ?_
  have z0 := frozen_of_row w1 g 0 _ _ hg.out
  have c0 := (cell_of_row w1 g 0 _ _ _ hg.out).trans (show _ = some (.string ⟨s0.toArray⟩) from rfl)
  have z1 := frozen_of_row w1 g 1 _ _ hg.out
  have c1 := (cell_of_row w1 g 1 _ _ _ hg.out).trans (show _ = some (.int .i64 v0) from rfl)
  have z2 := frozen_of_row w1 g 2 _ _ hg.out
  have c2 := (cell_of_row w1 g 2 _ _ _ hg.out).trans (show _ = some (.string ⟨s1.toArray⟩) from rfl)
  have z3 := frozen_of_row w1 g 3 _ _ hg.out
  have c3 := (cell_of_row w1 g 3 _ _ _ hg.out).trans (show _ = some (.int .i64 v) from rfl)
  have z4 := frozen_of_row w1 g 4 _ _ hg.out
  have c4 := (cell_of_row w1 g 4 _ _ _ hg.out).trans (show _ = some (.string ⟨s2.toArray⟩) from rfl)
  have z5 := frozen_of_row w1 g 5 _ _ hg.out
  have c5 := (cell_of_row w1 g 5 _ _ _ hg.out).trans (show _ = some (.int .i64 v2) from rfl)
  rw [rounds_succ]
  go_wp2_with fail
  refine (order1_c s2 v2 v b _ (((Ext.refl w1).alloc _ _).cell_of hb.out)).mono ?_
  rintro e w2 ⟨rfl, hx⟩
  have b0 : w2.cell? ⟨w1.heap.size, 0, none⟩ = some (.string ⟨s2.toArray⟩) := hx.cell_of (by simp [go_sem])
  have b1 : w2.cell? ⟨w1.heap.size, 1, none⟩ = some (.int .i64 v2) := hx.cell_of (by simp [go_sem])
  replace hx := ((Ext.refl w1).alloc _ _).trans hx
  have hgl := (Array.getElem?_eq_some_iff.1 hg.out).1
  replace hg := show Hid _ from (hx.below.block g hgl).trans hg.out
  replace hb := show Hid _ from hx.cell_of hb.out
  replace hX := show Hid (Exr g w w2) from hX.out.on hx
  clear hx hgl
  clear z0 c0 z1 c1 z2 c2 z3 c3 z4 c4 z5 c5
  have z0 := frozen_of_row w2 g 0 _ _ hg.out
  have c0 := (cell_of_row w2 g 0 _ _ _ hg.out).trans (show _ = some (.string ⟨s0.toArray⟩) from rfl)
  have z1 := frozen_of_row w2 g 1 _ _ hg.out
  have c1 := (cell_of_row w2 g 1 _ _ _ hg.out).trans (show _ = some (.int .i64 v0) from rfl)
  have z2 := frozen_of_row w2 g 2 _ _ hg.out
  have c2 := (cell_of_row w2 g 2 _ _ _ hg.out).trans (show _ = some (.string ⟨s1.toArray⟩) from rfl)
  have z3 := frozen_of_row w2 g 3 _ _ hg.out
  have c3 := (cell_of_row w2 g 3 _ _ _ hg.out).trans (show _ = some (.int .i64 v) from rfl)
  have z4 := frozen_of_row w2 g 4 _ _ hg.out
  have c4 := (cell_of_row w2 g 4 _ _ _ hg.out).trans (show _ = some (.string ⟨s2.toArray⟩) from rfl)
  have z5 := frozen_of_row w2 g 5 _ _ hg.out
  have c5 := (cell_of_row w2 g 5 _ _ _ hg.out).trans (show _ = some (.int .i64 v2) from rfl)
  go_wp2
  replace hg := show Hid (((w2.setCell ⟨g, 2, none⟩ (.string ⟨s2.toArray⟩)).setCell ⟨g, 3, none⟩ (.int .i64 v2)).heap[g]? = some (.cells #[.string ⟨s0.toArray⟩, .int .i64 v0, .string ⟨s2.toArray⟩, .int .i64 v2, .string ⟨s2.toArray⟩, .int .i64 v2, .string ⟨#[]⟩, .int .i64 0] 140 (0, 0))) from (heap_setCell_same _ g 3 _ _ (.int .i64 v2) ((heap_setCell_same w2 g 2 _ _ (.string ⟨s2.toArray⟩) hg.out))).trans rfl
  replace hb := show Hid (((w2.setCell ⟨g, 2, none⟩ (.string ⟨s2.toArray⟩)).setCell ⟨g, 3, none⟩ (.int .i64 v2)).cell? ⟨b, 0, none⟩ = some (.int .i64 v)) from by show _ = _; rw [L8.other _ (Or.inl (Ne.symm hbg)), L8.other _ (Or.inl (Ne.symm hbg))]; exact hb.out
  replace hX := show Hid (Exr g w ((w2.setCell ⟨g, 2, none⟩ (.string ⟨s2.toArray⟩)).setCell ⟨g, 3, none⟩ (.int .i64 v2))) from (hX.out.set _ _).set _ _
  clear z0 c0 z1 c1 z2 c2 z3 c3 z4 c4 z5 c5
  clear b0 b1
  obtain ⟨y2, hW⟩ : ∃ W, ((w2.setCell ⟨g, 2, none⟩ (.string ⟨s2.toArray⟩)).setCell ⟨g, 3, none⟩ (.int .i64 v2)) = W := ⟨_, rfl⟩
  rw [hW] at hg hb hX ⊢
  clear hW
  have z0 := frozen_of_row y2 g 0 _ _ hg.out
  have c0 := (cell_of_row y2 g 0 _ _ _ hg.out).trans (show _ = some (.string ⟨s0.toArray⟩) from rfl)
  have z1 := frozen_of_row y2 g 1 _ _ hg.out
  have c1 := (cell_of_row y2 g 1 _ _ _ hg.out).trans (show _ = some (.int .i64 v0) from rfl)
  have z2 := frozen_of_row y2 g 2 _ _ hg.out
  have c2 := (cell_of_row y2 g 2 _ _ _ hg.out).trans (show _ = some (.string ⟨s2.toArray⟩) from rfl)
  have z3 := frozen_of_row y2 g 3 _ _ hg.out
  have c3 := (cell_of_row y2 g 3 _ _ _ hg.out).trans (show _ = some (.int .i64 v2) from rfl)
  have z4 := frozen_of_row y2 g 4 _ _ hg.out
  have c4 := (cell_of_row y2 g 4 _ _ _ hg.out).trans (show _ = some (.string ⟨s2.toArray⟩) from rfl)
  have z5 := frozen_of_row y2 g 5 _ _ hg.out
  have c5 := (cell_of_row y2 g 5 _ _ _ hg.out).trans (show _ = some (.int .i64 v2) from rfl)
  have hcl := fun ty => clear_one y2 ty g 4 2 _ _ c4 c5 z4 z5
  rw [rounds_succ]
  go_wp2_with (simp only [hcl])
  go_ret
  exact ⟨rfl, (heap_setCell_same _ g 5 _ _ (.int .i64 0) (heap_setCell_same y2 g 4 _ _ (.string ⟨#[]⟩) hg.out)).trans rfl, (hX.out.set _ _).set _ _⟩
theorem del32 (g b : Nat) (s0 s1 s2 : List UInt8) (v0 v1 v : Int) (w : World) (hb : w.cell? ⟨b, 0, none⟩ = some (.int .i64 v)) (hg : w.heap[g]? = some (.cells #[.string ⟨s0.toArray⟩, .int .i64 v0, .string ⟨s1.toArray⟩, .int .i64 v1, .string ⟨s2.toArray⟩, .int .i64 v, .string ⟨#[]⟩, .int .i64 0] 140 (0, 0))) (n0 : (v0 == v) = false) (n1 : (v1 == v) = false) :
    Calls Tryz.prog 130 #[.slice (some ⟨g, 0, none⟩) 3 4, .func (.func 131) #[] #[.pointer (some ⟨b, 0, none⟩)]] w fun e w' => e = .returned (.slice (some ⟨g, 0, none⟩) 2 4) ∧ w'.heap[g]? = some (.cells #[.string ⟨s0.toArray⟩, .int .i64 v0, .string ⟨s1.toArray⟩, .int .i64 v1, .string ⟨#[]⟩, .int .i64 0, .string ⟨#[]⟩, .int .i64 0] 140 (0, 0)) ∧ Exr g w w' := by
  have hbg : b ≠ g := by
    rintro rfl
    have := (cell_of_row w b 0 _ _ _ hg).symm.trans hb
    simp at this
  have hbl := lt_of_cell hb
  have hgl := (Array.getElem?_eq_some_iff.1 hg).1
  have ho : Hid (Opt w g [(s0, v0), (s1, v1), (s2, v)]) := ⟨fun k u x hk => by
    match k, hk with
    | 0, e =>
      obtain ⟨rfl, rfl⟩ : s0 = u ∧ v0 = x := by simpa using e
      exact ⟨(cell_of_row w g 0 _ _ _ hg).trans rfl, (cell_of_row w g 1 _ _ _ hg).trans rfl⟩
    | 1, e =>
      obtain ⟨rfl, rfl⟩ : s1 = u ∧ v1 = x := by simpa using e
      exact ⟨(cell_of_row w g 2 _ _ _ hg).trans rfl, (cell_of_row w g 3 _ _ _ hg).trans rfl⟩
    | 2, e =>
      obtain ⟨rfl, rfl⟩ : s2 = u ∧ v = x := by simpa using e
      exact ⟨(cell_of_row w g 4 _ _ _ hg).trans rfl, (cell_of_row w g 5 _ _ _ hg).trans rfl⟩
    | k + 3, e => simp at e⟩
  replace hg := show Hid _ from hg
  replace hb := show Hid _ from hb
  go_enter Tryz.func130, Tryz.ntmps130
  go_wp2_with fail
  refine (idxV_c g 4 b 2 [(s0, v0), (s1, v1), (s2, v)] s2 v _ (by simp) ho.out hb.out rfl ?_).mono ?_
  · intro j u x hj hk
    match j, hj, hk with
    | 0, _, e =>
      obtain ⟨rfl, rfl⟩ : s0 = u ∧ v0 = x := by simpa using e
      simpa using n0
    | 1, _, e =>
      obtain ⟨rfl, rfl⟩ : s1 = u ∧ v1 = x := by simpa using e
      simpa using n1
    | j + 2, hj, _ => omega
  rintro e w1 ⟨rfl, hx⟩
  clear ho
  replace hg := show Hid _ from (hx.below.block g hgl).trans hg.out
  replace hb := show Hid _ from hx.cell_of hb.out
  have hX : Hid (Exr g w w1) := .of hx
  clear hx hgl hbl
  go_wp2_with fail
  refine wp_loop_rounds 1 ?_
  have z0 := frozen_of_row w1 g 0 _ _ hg.out
  have c0 := (cell_of_row w1 g 0 _ _ _ hg.out).trans (show _ = some (.string ⟨s0.toArray⟩) from rfl)
  have z1 := frozen_of_row w1 g 1 _ _ hg.out
  have c1 := (cell_of_row w1 g 1 _ _ _ hg.out).trans (show _ = some (.int .i64 v0) from rfl)
  have z2 := frozen_of_row w1 g 2 _ _ hg.out
  have c2 := (cell_of_row w1 g 2 _ _ _ hg.out).trans (show _ = some (.string ⟨s1.toArray⟩) from rfl)
  have z3 := frozen_of_row w1 g 3 _ _ hg.out
  have c3 := (cell_of_row w1 g 3 _ _ _ hg.out).trans (show _ = some (.int .i64 v1) from rfl)
  have z4 := frozen_of_row w1 g 4 _ _ hg.out
  have c4 := (cell_of_row w1 g 4 _ _ _ hg.out).trans (show _ = some (.string ⟨s2.toArray⟩) from rfl)
  have z5 := frozen_of_row w1 g 5 _ _ hg.out
  have c5 := (cell_of_row w1 g 5 _ _ _ hg.out).trans (show _ = some (.int .i64 v) from rfl)
  have hcl := fun ty => clear_one w1 ty g 4 2 _ _ c4 c5 z4 z5
  rw [rounds_succ]
  go_wp2_with (simp only [hcl])
  go_ret
  exact ⟨rfl, (heap_setCell_same _ g 5 _ _ (.int .i64 0) (heap_setCell_same w1 g 4 _ _ (.string ⟨#[]⟩) hg.out)).trans rfl, (hX.out.set _ _).set _ _⟩
theorem del20 (g b : Nat) (s0 s1 : List UInt8) (v1 v : Int) (w : World) (hb : w.cell? ⟨b, 0, none⟩ = some (.int .i64 v)) (hg : w.heap[g]? = some (.cells #[.string ⟨s0.toArray⟩, .int .i64 v, .string ⟨s1.toArray⟩, .int .i64 v1, .string ⟨#[]⟩, .int .i64 0, .string ⟨#[]⟩, .int .i64 0] 140 (0, 0))) (n1 : (v1 == v) = false) :
    Calls Tryz.prog 130 #[.slice (some ⟨g, 0, none⟩) 2 4, .func (.func 131) #[] #[.pointer (some ⟨b, 0, none⟩)]] w fun e w' => e = .returned (.slice (some ⟨g, 0, none⟩) 1 4) ∧ w'.heap[g]? = some (.cells #[.string ⟨s1.toArray⟩, .int .i64 v1, .string ⟨#[]⟩, .int .i64 0, .string ⟨#[]⟩, .int .i64 0, .string ⟨#[]⟩, .int .i64 0] 140 (0, 0)) ∧ Exr g w w' := by
  have hbg : b ≠ g := by
    rintro rfl
    have := (cell_of_row w b 0 _ _ _ hg).symm.trans hb
    simp at this
  have hbl := lt_of_cell hb
  have hgl := (Array.getElem?_eq_some_iff.1 hg).1
  have ho : Hid (Opt w g [(s0, v), (s1, v1)]) := ⟨fun k u x hk => by
    match k, hk with
    | 0, e =>
      obtain ⟨rfl, rfl⟩ : s0 = u ∧ v = x := by simpa using e
      exact ⟨(cell_of_row w g 0 _ _ _ hg).trans rfl, (cell_of_row w g 1 _ _ _ hg).trans rfl⟩
    | 1, e =>
      obtain ⟨rfl, rfl⟩ : s1 = u ∧ v1 = x := by simpa using e
      exact ⟨(cell_of_row w g 2 _ _ _ hg).trans rfl, (cell_of_row w g 3 _ _ _ hg).trans rfl⟩
    | k + 2, e => simp at e⟩
  replace hg := show Hid _ from hg
  replace hb := show Hid _ from hb
  go_enter Tryz.func130, Tryz.ntmps130
  go_wp2_with fail
  refine (idxV_c g 4 b 0 [(s0, v), (s1, v1)] s0 v _ (by simp) ho.out hb.out rfl ?_).mono ?_
  · intro j u x hj hk
    omega
  rintro e w1 ⟨rfl, hx⟩
  clear ho
  replace hg := show Hid _ from (hx.below.block g hgl).trans hg.out
  replace hb := show Hid _ from hx.cell_of hb.out
  have hX : Hid (Exr g w w1) := .of hx
  clear hx hgl hbl
  go_wp2_with fail
  refine wp_loop_rounds 2 ?_
  have z0 := frozen_of_row w1 g 0 _ _ hg.out
  have c0 := (cell_of_row w1 g 0 _ _ _ hg.out).trans (show _ = some (.string ⟨s0.toArray⟩) from rfl)
  have z1 := frozen_of_row w1 g 1 _ _ hg.out
  have c1 := (cell_of_row w1 g 1 _ _ _ hg.out).trans (show _ = some (.int .i64 v) from rfl)
  have z2 := frozen_of_row w1 g 2 _ _ hg.out
  have c2 := (cell_of_row w1 g 2 _ _ _ hg.out).trans (show _ = some (.string ⟨s1.toArray⟩) from rfl)
  have z3 := frozen_of_row w1 g 3 _ _ hg.out
  have c3 := (cell_of_row w1 g 3 _ _ _ hg.out).trans (show _ = some (.int .i64 v1) from rfl)
  rw [rounds_succ]
  go_wp2_with fail
  refine (order1_c s1 v1 v b _ (((Ext.refl w1).alloc _ _).cell_of hb.out)).mono ?_
  rintro e w2 ⟨rfl, hx⟩
  have b0 : w2.cell? ⟨w1.heap.size, 0, none⟩ = some (.string ⟨s1.toArray⟩) := hx.cell_of (by simp [go_sem])
  have b1 : w2.cell? ⟨w1.heap.size, 1, none⟩ = some (.int .i64 v1) := hx.cell_of (by simp [go_sem])
  replace hx := ((Ext.refl w1).alloc _ _).trans hx
  have hgl := (Array.getElem?_eq_some_iff.1 hg.out).1
  replace hg := show Hid _ from (hx.below.block g hgl).trans hg.out
  replace hb := show Hid _ from hx.cell_of hb.out
  replace hX := show Hid (Exr g w w2) from hX.out.on hx
  clear hx hgl
  clear z0 c0 z1 c1 z2 c2 z3 c3
  have z0 := frozen_of_row w2 g 0 _ _ hg.out
  have c0 := (cell_of_row w2 g 0 _ _ _ hg.out).trans (show _ = some (.string ⟨s0.toArray⟩) from rfl)
  have z1 := frozen_of_row w2 g 1 _ _ hg.out
  have c1 := (cell_of_row w2 g 1 _ _ _ hg.out).trans (show _ = some (.int .i64 v) from rfl)
  have z2 := frozen_of_row w2 g 2 _ _ hg.out
  have c2 := (cell_of_row w2 g 2 _ _ _ hg.out).trans (show _ = some (.string ⟨s1.toArray⟩) from rfl)
  have z3 := frozen_of_row w2 g 3 _ _ hg.out
  have c3 := (cell_of_row w2 g 3 _ _ _ hg.out).trans (show _ = some (.int .i64 v1) from rfl)
  go_wp2
  replace hg := show Hid (((w2.setCell ⟨g, 0, none⟩ (.string ⟨s1.toArray⟩)).setCell ⟨g, 1, none⟩ (.int .i64 v1)).heap[g]? = some (.cells #[.string ⟨s1.toArray⟩, .int .i64 v1, .string ⟨s1.toArray⟩, .int .i64 v1, .string ⟨#[]⟩, .int .i64 0, .string ⟨#[]⟩, .int .i64 0] 140 (0, 0))) from (heap_setCell_same _ g 1 _ _ (.int .i64 v1) ((heap_setCell_same w2 g 0 _ _ (.string ⟨s1.toArray⟩) hg.out))).trans rfl
  replace hb := show Hid (((w2.setCell ⟨g, 0, none⟩ (.string ⟨s1.toArray⟩)).setCell ⟨g, 1, none⟩ (.int .i64 v1)).cell? ⟨b, 0, none⟩ = some (.int .i64 v)) from by show _ = _; rw [L8.other _ (Or.inl (Ne.symm hbg)), L8.other _ (Or.inl (Ne.symm hbg))]; exact hb.out
  replace hX := show Hid (Exr g w ((w2.setCell ⟨g, 0, none⟩ (.string ⟨s1.toArray⟩)).setCell ⟨g, 1, none⟩ (.int .i64 v1))) from (hX.out.set _ _).set _ _
  clear z0 c0 z1 c1 z2 c2 z3 c3
  clear b0 b1
  obtain ⟨y2, hW⟩ : ∃ W, ((w2.setCell ⟨g, 0, none⟩ (.string ⟨s1.toArray⟩)).setCell ⟨g, 1, none⟩ (.int .i64 v1)) = W := ⟨_, rfl⟩
  rw [hW] at hg hb hX ⊢
  clear hW
  have z0 := frozen_of_row y2 g 0 _ _ hg.out
  have c0 := (cell_of_row y2 g 0 _ _ _ hg.out).trans (show _ = some (.string ⟨s1.toArray⟩) from rfl)
  have z1 := frozen_of_row y2 g 1 _ _ hg.out
  have c1 := (cell_of_row y2 g 1 _ _ _ hg.out).trans (show _ = some (.int .i64 v1) from rfl)
  have z2 := frozen_of_row y2 g 2 _ _ hg.out
  have c2 := (cell_of_row y2 g 2 _ _ _ hg.out).trans (show _ = some (.string ⟨s1.toArray⟩) from rfl)
  have z3 := frozen_of_row y2 g 3 _ _ hg.out
  have c3 := (cell_of_row y2 g 3 _ _ _ hg.out).trans (show _ = some (.int .i64 v1) from rfl)
  have hcl := fun ty => clear_one y2 ty g 2 3 _ _ c2 c3 z2 z3
  rw [rounds_succ]
  go_wp2_with (simp only [hcl])
  go_ret
  exact ⟨rfl, (heap_setCell_same _ g 3 _ _ (.int .i64 0) (heap_setCell_same y2 g 2 _ _ (.string ⟨#[]⟩) hg.out)).trans rfl, (hX.out.set _ _).set _ _⟩
theorem del21 (g b : Nat) (s0 s1 : List UInt8) (v0 v : Int) (w : World) (hb : w.cell? ⟨b, 0, none⟩ = some (.int .i64 v)) (hg : w.heap[g]? = some (.cells #[.string ⟨s0.toArray⟩, .int .i64 v0, .string ⟨s1.toArray⟩, .int .i64 v, .string ⟨#[]⟩, .int .i64 0, .string ⟨#[]⟩, .int .i64 0] 140 (0, 0))) (n0 : (v0 == v) = false) :
    Calls Tryz.prog 130 #[.slice (some ⟨g, 0, none⟩) 2 4, .func (.func 131) #[] #[.pointer (some ⟨b, 0, none⟩)]] w fun e w' => e = .returned (.slice (some ⟨g, 0, none⟩) 1 4) ∧ w'.heap[g]? = some (.cells #[.string ⟨s0.toArray⟩, .int .i64 v0, .string ⟨#[]⟩, .int .i64 0, .string ⟨#[]⟩, .int .i64 0, .string ⟨#[]⟩, .int .i64 0] 140 (0, 0)) ∧ Exr g w w' := by
  have hbg : b ≠ g := by
    rintro rfl
    have := (cell_of_row w b 0 _ _ _ hg).symm.trans hb
    simp at this
  have hbl := lt_of_cell hb
  have hgl := (Array.getElem?_eq_some_iff.1 hg).1
  have ho : Hid (Opt w g [(s0, v0), (s1, v)]) := ⟨fun k u x hk => by
    match k, hk with
    | 0, e =>
      obtain ⟨rfl, rfl⟩ : s0 = u ∧ v0 = x := by simpa using e
      exact ⟨(cell_of_row w g 0 _ _ _ hg).trans rfl, (cell_of_row w g 1 _ _ _ hg).trans rfl⟩
    | 1, e =>
      obtain ⟨rfl, rfl⟩ : s1 = u ∧ v = x := by simpa using e
      exact ⟨(cell_of_row w g 2 _ _ _ hg).trans rfl, (cell_of_row w g 3 _ _ _ hg).trans rfl⟩
    | k + 2, e => simp at e⟩
  replace hg := show Hid _ from hg
  replace hb := show Hid _ from hb
  go_enter Tryz.func130, Tryz.ntmps130
  go_wp2_with fail
  refine (idxV_c g 4 b 1 [(s0, v0), (s1, v)] s1 v _ (by simp) ho.out hb.out rfl ?_).mono ?_
  · intro j u x hj hk
    match j, hj, hk with
    | 0, _, e =>
      obtain ⟨rfl, rfl⟩ : s0 = u ∧ v0 = x := by simpa using e
      simpa using n0
    | j + 1, hj, _ => omega
  rintro e w1 ⟨rfl, hx⟩
  clear ho
  replace hg := show Hid _ from (hx.below.block g hgl).trans hg.out
  replace hb := show Hid _ from hx.cell_of hb.out
  have hX : Hid (Exr g w w1) := .of hx
  clear hx hgl hbl
  go_wp2_with fail
  refine wp_loop_rounds 1 ?_
  have z0 := frozen_of_row w1 g 0 _ _ hg.out
  have c0 := (cell_of_row w1 g 0 _ _ _ hg.out).trans (show _ = some (.string ⟨s0.toArray⟩) from rfl)
  have z1 := frozen_of_row w1 g 1 _ _ hg.out
  have c1 := (cell_of_row w1 g 1 _ _ _ hg.out).trans (show _ = some (.int .i64 v0) from rfl)
  have z2 := frozen_of_row w1 g 2 _ _ hg.out
  have c2 := (cell_of_row w1 g 2 _ _ _ hg.out).trans (show _ = some (.string ⟨s1.toArray⟩) from rfl)
  have z3 := frozen_of_row w1 g 3 _ _ hg.out
  have c3 := (cell_of_row w1 g 3 _ _ _ hg.out).trans (show _ = some (.int .i64 v) from rfl)
  have hcl := fun ty => clear_one w1 ty g 2 3 _ _ c2 c3 z2 z3
  rw [rounds_succ]
  go_wp2_with (simp only [hcl])
  go_ret
  exact ⟨rfl, (heap_setCell_same _ g 3 _ _ (.int .i64 0) (heap_setCell_same w1 g 2 _ _ (.string ⟨#[]⟩) hg.out)).trans rfl, (hX.out.set _ _).set _ _⟩
theorem del10 (g b : Nat) (s0 : List UInt8) (v : Int) (w : World) (hb : w.cell? ⟨b, 0, none⟩ = some (.int .i64 v)) (hg : w.heap[g]? = some (.cells #[.string ⟨s0.toArray⟩, .int .i64 v, .string ⟨#[]⟩, .int .i64 0, .string ⟨#[]⟩, .int .i64 0, .string ⟨#[]⟩, .int .i64 0] 140 (0, 0))) :
    Calls Tryz.prog 130 #[.slice (some ⟨g, 0, none⟩) 1 4, .func (.func 131) #[] #[.pointer (some ⟨b, 0, none⟩)]] w fun e w' => e = .returned (.slice (some ⟨g, 0, none⟩) 0 4) ∧ w'.heap[g]? = some (.cells #[.string ⟨#[]⟩, .int .i64 0, .string ⟨#[]⟩, .int .i64 0, .string ⟨#[]⟩, .int .i64 0, .string ⟨#[]⟩, .int .i64 0] 140 (0, 0)) ∧ Exr g w w' := by
  have hbg : b ≠ g := by
    rintro rfl
    have := (cell_of_row w b 0 _ _ _ hg).symm.trans hb
    simp at this
  have hbl := lt_of_cell hb
  have hgl := (Array.getElem?_eq_some_iff.1 hg).1
  have ho : Hid (Opt w g [(s0, v)]) := ⟨fun k u x hk => by
    match k, hk with
    | 0, e =>
      obtain ⟨rfl, rfl⟩ : s0 = u ∧ v = x := by simpa using e
      exact ⟨(cell_of_row w g 0 _ _ _ hg).trans rfl, (cell_of_row w g 1 _ _ _ hg).trans rfl⟩
    | k + 1, e => simp at e⟩
  replace hg := show Hid _ from hg
  replace hb := show Hid _ from hb
  go_enter Tryz.func130, Tryz.ntmps130
  go_wp2_with fail
  refine (idxV_c g 4 b 0 [(s0, v)] s0 v _ (by simp) ho.out hb.out rfl ?_).mono ?_
  · intro j u x hj hk
    omega
  rintro e w1 ⟨rfl, hx⟩
  clear ho
  replace hg := show Hid _ from (hx.below.block g hgl).trans hg.out
  replace hb := show Hid _ from hx.cell_of hb.out
  have hX : Hid (Exr g w w1) := .of hx
  clear hx hgl hbl
  go_wp2_with fail
  refine wp_loop_rounds 1 ?_
  have z0 := frozen_of_row w1 g 0 _ _ hg.out
  have c0 := (cell_of_row w1 g 0 _ _ _ hg.out).trans (show _ = some (.string ⟨s0.toArray⟩) from rfl)
  have z1 := frozen_of_row w1 g 1 _ _ hg.out
  have c1 := (cell_of_row w1 g 1 _ _ _ hg.out).trans (show _ = some (.int .i64 v) from rfl)
  have hcl := fun ty => clear_one w1 ty g 0 4 _ _ c0 c1 z0 z1
  rw [rounds_succ]
  go_wp2_with (simp only [hcl])
  go_ret
  exact ⟨rfl, (heap_setCell_same _ g 1 _ _ (.int .i64 0) (heap_setCell_same w1 g 0 _ _ (.string ⟨#[]⟩) hg.out)).trans rfl, (hX.out.set _ _).set _ _⟩
end Go.Proofs.YtbnpaeejlfaboaaGreatDoor

namespace Go.Proofs.YtbnpaeejlfaboaaGreatDoor
open Go.RowKit Go.Lib
set_option linter.unusedVariables false
/-- Words that are chosen, one behind the other. -/
def ordF : Nat → Opts → List Tok → Res (List Int × List Tok)
  | 0, _, ts => .ok ([], ts)
  | k + 1, o, ts => (tk (pick o) ts).bind fun a => (ordF k (lessO o a.1) a.2).bind fun b => .ok (a.1 :: b.1, b.2)
def ordP (p : Prd) (ch : List Int) : Prd := { p with o0 := ch.getD 0 p.o0, o1 := ch.getD 1 p.o1, o2 := ch.getD 2 p.o2, o3 := ch.getD 3 p.o3 }
theorem Res.bind_assoc {α β γ : Type} (r : Res α) (f : α → Res β) (g : β → Res γ) : (r.bind f).bind g = r.bind fun a => (f a).bind g := by cases r <;> rfl
theorem order_ord (p : Prd) (ts : List Tok) : orderR p ts = (ordF 4 oOrder ts).bind fun b => .ok (ordP p b.1, b.2) := by
  unfold orderR
  simp only [ordF, Res.bind_assoc]
  rfl
/-- The row of the words that are left. -/
def orow (o : Opts) : Array Value := ((o.flatMap fun x => [Value.string ⟨x.1.toArray⟩, Value.int .i64 x.2]) ++ (List.replicate (4 - o.length) [Value.string ⟨#[]⟩, Value.int .i64 0]).flatten).toArray
/-- What turned was a row of words alone. -/
theorem Inn.far {wf w0 w w' : World} {r c g : Nat} {vr vl vh : Value} {s : St} {cells : Array Value} (h : Inn wf w0 w r c vr vl vh s) (hx : Exr g w w') (hg : w.heap[g]? = some (Obj.cells cells 140 (0, 0))) (hl : w0.heap.size ≤ g) : Inn wf w0 w' r c vr vl vh s := by
  have hk : ∀ (f : TypeId), f ≠ 140 → ∀ (k : Nat) (cur : Array Value), w.heap[k]? = some (Obj.cells cur f (0, 0)) → w'.heap[k]? = w.heap[k]? := fun f hf k cur hk => hx.block k (Array.getElem?_eq_some_iff.1 hk).1 (by
    rintro rfl
    have := hk.symm.trans hg
    simp at this
    exact hf this.2)
  obtain ⟨vt, hr, ht⟩ := h.row
  exact ⟨hx.ext h.ext hl, h.lo, h.loc, ⟨vt, (hk _ (by decide) _ _ hr).trans hr, ht⟩, (hk _ (by decide) _ _ h.cls).trans h.cls, own_keep h.sr (hk _ (by decide)), own_keep h.sl (hk _ (by decide)), own_keep h.sh (hk _ (by decide)), h.kp.go fun f k cur hf => hk f (by rcases hf with rfl | rfl <;> decide) k cur⟩
/-- How far the words have been chosen. -/
structure Chs (wf w0 wr : World) (r c g : Nat) (vr vl vh : Value) (s : St) (k : Nat) (o : Opts) (ch : List Int) (ts : List Tok) : Prop where
  len : o.length + k = 4
  num : ch.length = k
  inn : Inn wf w0 wr r c vr vl vh { s with ts := ts, p := ordP s.p ch }
  fine : Fine { s with ts := ts, p := ordP s.p ch }
  row : wr.heap[g]? = some (Obj.cells (orow o) 140 (0, 0))
  ok : ordF 4 oOrder s.ts = (ordF o.length o ts).bind fun b => .ok (ch ++ b.1, b.2)
  two : (o.map (·.2)).Nodup
  wrd : ∀ x ∈ o, x.1 ≠ []
theorem opt_of {w : World} {g : Nat} {o : Opts} (ho : o.length ≤ 4) (h : w.heap[g]? = some (Obj.cells (orow o) 140 (0, 0))) : Opt w g o := by
  refine ⟨fun k s v hk => ?_⟩
  have hl : ∀ (o : Opts) (k : Nat), o[k]? = some (s, v) → (o.flatMap fun x => [Value.string ⟨x.1.toArray⟩, Value.int .i64 x.2])[k * 2]? = some (.string ⟨s.toArray⟩) ∧ (o.flatMap fun x => [Value.string ⟨x.1.toArray⟩, Value.int .i64 x.2])[k * 2 + 1]? = some (.int .i64 v) := by
    intro o
    induction o with
    | nil => intro k hk; simp at hk
    | cons x o ih =>
      intro k hk
      cases k with
      | zero =>
        obtain rfl : x = (s, v) := by simpa using hk
        exact ⟨rfl, rfl⟩
      | succ k =>
        have := ih k (by simpa using hk)
        have e : (k + 1) * 2 = k * 2 + 2 := by omega
        rw [e]
        exact this
  obtain ⟨h1, h2⟩ := hl o k hk
  have hlt1 := (List.getElem?_eq_some_iff.1 h1).1
  have hlt2 := (List.getElem?_eq_some_iff.1 h2).1
  refine ⟨(cell_of_row w g (k * 2) _ _ _ h).trans ?_, (cell_of_row w g (k * 2 + 1) _ _ _ h).trans ?_⟩
  · unfold orow
    rw [List.getElem?_toArray, List.getElem?_append_left hlt1]
    exact h1
  · unfold orow
    rw [List.getElem?_toArray, List.getElem?_append_left hlt2]
    exact h2
theorem pick_nil {o : Opts} (h : ∀ x ∈ o, x.1 ≠ []) : pick o [] = none := by
  induction o with
  | nil => rfl
  | cons x o ih =>
    obtain ⟨s, v⟩ := x
    have h1 : s ≠ [] := h (s, v) (by simp)
    simp only [pick, if_neg h1]
    exact ih fun y hy => h y (by simp [hy])
theorem pick_mem {o : Opts} {l : List UInt8} {v : Int} (h : pick o l = some v) : ∃ i : Nat, o[i]? = some (l, v) := by
  induction o with
  | nil => cases h
  | cons x o ih =>
    obtain ⟨s, u⟩ := x
    simp only [pick] at h
    split at h
    · rename_i e
      obtain rfl : u = v := by simpa using h
      exact ⟨0, by simp [e]⟩
    · obtain ⟨i, hi⟩ := ih h
      exact ⟨i + 1, by simpa using hi⟩
theorem del4 (g b i : Nat) (s0 s1 s2 s3 : List UInt8) (v0 v1 v2 v3 v : Int) (l : List UInt8) (w : World) (hi : ([(s0, v0), (s1, v1), (s2, v2), (s3, v3)] : Opts)[i]? = some (l, v)) (hn : (([(s0, v0), (s1, v1), (s2, v2), (s3, v3)] : Opts).map (·.2)).Nodup) (hb : w.cell? ⟨b, 0, none⟩ = some (.int .i64 v)) (hg : w.heap[g]? = some (Obj.cells (orow [(s0, v0), (s1, v1), (s2, v2), (s3, v3)]) 140 (0, 0))) :
    Calls Tryz.prog 130 #[.slice (some ⟨g, 0, none⟩) 4 4, .func (.func 131) #[] #[.pointer (some ⟨b, 0, none⟩)]] w fun e w' => e = .returned (.slice (some ⟨g, 0, none⟩) 3 4) ∧ w'.heap[g]? = some (Obj.cells (orow (lessO [(s0, v0), (s1, v1), (s2, v2), (s3, v3)] v)) 140 (0, 0)) ∧ Exr g w w' := by
  simp at hn
  match i, hi with
  | 0, hi =>
    obtain ⟨rfl, rfl⟩ : s0 = l ∧ v0 = v := by simpa using hi
    have n1 : (v1 == v0) = false := by simp; omega
    have n2 : (v2 == v0) = false := by simp; omega
    have n3 : (v3 == v0) = false := by simp; omega
    have hle : lessO [(s0, v0), (s1, v1), (s2, v2), (s3, v3)] v0 = [(s1, v1), (s2, v2), (s3, v3)] := by
      unfold lessO
      simp [show ¬ v1 = v0 by simpa using n1, show ¬ v2 = v0 by simpa using n2, show ¬ v3 = v0 by simpa using n3]
    rw [hle]
    exact del40 g b s0 s1 s2 s3 v1 v2 v3 v0 w hb hg n1 n2 n3
  | 1, hi =>
    obtain ⟨rfl, rfl⟩ : s1 = l ∧ v1 = v := by simpa using hi
    have n0 : (v0 == v1) = false := by simp; omega
    have n2 : (v2 == v1) = false := by simp; omega
    have n3 : (v3 == v1) = false := by simp; omega
    have hle : lessO [(s0, v0), (s1, v1), (s2, v2), (s3, v3)] v1 = [(s0, v0), (s2, v2), (s3, v3)] := by
      unfold lessO
      simp [show ¬ v0 = v1 by simpa using n0, show ¬ v2 = v1 by simpa using n2, show ¬ v3 = v1 by simpa using n3]
    rw [hle]
    exact del41 g b s0 s1 s2 s3 v0 v2 v3 v1 w hb hg n0 n2 n3
  | 2, hi =>
    obtain ⟨rfl, rfl⟩ : s2 = l ∧ v2 = v := by simpa using hi
    have n0 : (v0 == v2) = false := by simp; omega
    have n1 : (v1 == v2) = false := by simp; omega
    have n3 : (v3 == v2) = false := by simp; omega
    have hle : lessO [(s0, v0), (s1, v1), (s2, v2), (s3, v3)] v2 = [(s0, v0), (s1, v1), (s3, v3)] := by
      unfold lessO
      simp [show ¬ v0 = v2 by simpa using n0, show ¬ v1 = v2 by simpa using n1, show ¬ v3 = v2 by simpa using n3]
    rw [hle]
    exact del42 g b s0 s1 s2 s3 v0 v1 v3 v2 w hb hg n0 n1 n3
  | 3, hi =>
    obtain ⟨rfl, rfl⟩ : s3 = l ∧ v3 = v := by simpa using hi
    have n0 : (v0 == v3) = false := by simp; omega
    have n1 : (v1 == v3) = false := by simp; omega
    have n2 : (v2 == v3) = false := by simp; omega
    have hle : lessO [(s0, v0), (s1, v1), (s2, v2), (s3, v3)] v3 = [(s0, v0), (s1, v1), (s2, v2)] := by
      unfold lessO
      simp [show ¬ v0 = v3 by simpa using n0, show ¬ v1 = v3 by simpa using n1, show ¬ v2 = v3 by simpa using n2]
    rw [hle]
    exact del43 g b s0 s1 s2 s3 v0 v1 v2 v3 w hb hg n0 n1 n2
  | i + 4, hi => simp at hi
theorem del3 (g b i : Nat) (s0 s1 s2 : List UInt8) (v0 v1 v2 v : Int) (l : List UInt8) (w : World) (hi : ([(s0, v0), (s1, v1), (s2, v2)] : Opts)[i]? = some (l, v)) (hn : (([(s0, v0), (s1, v1), (s2, v2)] : Opts).map (·.2)).Nodup) (hb : w.cell? ⟨b, 0, none⟩ = some (.int .i64 v)) (hg : w.heap[g]? = some (Obj.cells (orow [(s0, v0), (s1, v1), (s2, v2)]) 140 (0, 0))) :
    Calls Tryz.prog 130 #[.slice (some ⟨g, 0, none⟩) 3 4, .func (.func 131) #[] #[.pointer (some ⟨b, 0, none⟩)]] w fun e w' => e = .returned (.slice (some ⟨g, 0, none⟩) 2 4) ∧ w'.heap[g]? = some (Obj.cells (orow (lessO [(s0, v0), (s1, v1), (s2, v2)] v)) 140 (0, 0)) ∧ Exr g w w' := by
  simp at hn
  match i, hi with
  | 0, hi =>
    obtain ⟨rfl, rfl⟩ : s0 = l ∧ v0 = v := by simpa using hi
    have n1 : (v1 == v0) = false := by simp; omega
    have n2 : (v2 == v0) = false := by simp; omega
    have hle : lessO [(s0, v0), (s1, v1), (s2, v2)] v0 = [(s1, v1), (s2, v2)] := by
      unfold lessO
      simp [show ¬ v1 = v0 by simpa using n1, show ¬ v2 = v0 by simpa using n2]
    rw [hle]
    exact del30 g b s0 s1 s2 v1 v2 v0 w hb hg n1 n2
  | 1, hi =>
    obtain ⟨rfl, rfl⟩ : s1 = l ∧ v1 = v := by simpa using hi
    have n0 : (v0 == v1) = false := by simp; omega
    have n2 : (v2 == v1) = false := by simp; omega
    have hle : lessO [(s0, v0), (s1, v1), (s2, v2)] v1 = [(s0, v0), (s2, v2)] := by
      unfold lessO
      simp [show ¬ v0 = v1 by simpa using n0, show ¬ v2 = v1 by simpa using n2]
    rw [hle]
    exact del31 g b s0 s1 s2 v0 v2 v1 w hb hg n0 n2
  | 2, hi =>
    obtain ⟨rfl, rfl⟩ : s2 = l ∧ v2 = v := by simpa using hi
    have n0 : (v0 == v2) = false := by simp; omega
    have n1 : (v1 == v2) = false := by simp; omega
    have hle : lessO [(s0, v0), (s1, v1), (s2, v2)] v2 = [(s0, v0), (s1, v1)] := by
      unfold lessO
      simp [show ¬ v0 = v2 by simpa using n0, show ¬ v1 = v2 by simpa using n1]
    rw [hle]
    exact del32 g b s0 s1 s2 v0 v1 v2 w hb hg n0 n1
  | i + 3, hi => simp at hi
theorem del2 (g b i : Nat) (s0 s1 : List UInt8) (v0 v1 v : Int) (l : List UInt8) (w : World) (hi : ([(s0, v0), (s1, v1)] : Opts)[i]? = some (l, v)) (hn : (([(s0, v0), (s1, v1)] : Opts).map (·.2)).Nodup) (hb : w.cell? ⟨b, 0, none⟩ = some (.int .i64 v)) (hg : w.heap[g]? = some (Obj.cells (orow [(s0, v0), (s1, v1)]) 140 (0, 0))) :
    Calls Tryz.prog 130 #[.slice (some ⟨g, 0, none⟩) 2 4, .func (.func 131) #[] #[.pointer (some ⟨b, 0, none⟩)]] w fun e w' => e = .returned (.slice (some ⟨g, 0, none⟩) 1 4) ∧ w'.heap[g]? = some (Obj.cells (orow (lessO [(s0, v0), (s1, v1)] v)) 140 (0, 0)) ∧ Exr g w w' := by
  simp at hn
  match i, hi with
  | 0, hi =>
    obtain ⟨rfl, rfl⟩ : s0 = l ∧ v0 = v := by simpa using hi
    have n1 : (v1 == v0) = false := by simp; omega
    have hle : lessO [(s0, v0), (s1, v1)] v0 = [(s1, v1)] := by
      unfold lessO
      simp [show ¬ v1 = v0 by simpa using n1]
    rw [hle]
    exact del20 g b s0 s1 v1 v0 w hb hg n1
  | 1, hi =>
    obtain ⟨rfl, rfl⟩ : s1 = l ∧ v1 = v := by simpa using hi
    have n0 : (v0 == v1) = false := by simp; omega
    have hle : lessO [(s0, v0), (s1, v1)] v1 = [(s0, v0)] := by
      unfold lessO
      simp [show ¬ v0 = v1 by simpa using n0]
    rw [hle]
    exact del21 g b s0 s1 v0 v1 w hb hg n0
  | i + 2, hi => simp at hi
theorem del1 (g b i : Nat) (s0 : List UInt8) (v0 v : Int) (l : List UInt8) (w : World) (hi : ([(s0, v0)] : Opts)[i]? = some (l, v)) (hn : (([(s0, v0)] : Opts).map (·.2)).Nodup) (hb : w.cell? ⟨b, 0, none⟩ = some (.int .i64 v)) (hg : w.heap[g]? = some (Obj.cells (orow [(s0, v0)]) 140 (0, 0))) :
    Calls Tryz.prog 130 #[.slice (some ⟨g, 0, none⟩) 1 4, .func (.func 131) #[] #[.pointer (some ⟨b, 0, none⟩)]] w fun e w' => e = .returned (.slice (some ⟨g, 0, none⟩) 0 4) ∧ w'.heap[g]? = some (Obj.cells (orow (lessO [(s0, v0)] v)) 140 (0, 0)) ∧ Exr g w w' := by
  match i, hi with
  | 0, hi =>
    obtain ⟨rfl, rfl⟩ : s0 = l ∧ v0 = v := by simpa using hi
    have hle : lessO [(s0, v0)] v0 = [] := by
      unfold lessO
      simp []
    rw [hle]
    exact del10 g b s0 v0 w hb hg 
  | i + 1, hi => simp at hi
theorem two_less {o : Opts} {v : Int} (h : (o.map (·.2)).Nodup) : ((lessO o v).map (·.2)).Nodup := h.sublist (List.filter_sublist.map _)
theorem wrd_less {o : Opts} {v : Int} (h : ∀ x ∈ o, x.1 ≠ []) : ∀ x ∈ lessO o v, x.1 ≠ [] := fun x hx => h x (List.mem_filter.1 hx).1
theorem len_less : ∀ {o : Opts} {v : Int} {l : List UInt8} {i : Nat}, (o.map (·.2)).Nodup → o[i]? = some (l, v) → (lessO o v).length + 1 = o.length
  | [], v, l, i, _, h => by simp at h
  | (s, u) :: o, v, l, 0, hn, h => by
    obtain ⟨rfl, rfl⟩ : s = l ∧ u = v := by simpa using h
    simp only [List.map_cons, List.nodup_cons] at hn
    have e : lessO ((s, u) :: o) u = o := by
      unfold lessO
      rw [List.filter_cons_of_neg (by simp)]
      refine List.filter_eq_self.2 fun x hx => ?_
      have : x.2 ≠ u := fun e => hn.1 (List.mem_map.2 ⟨x, hx, e⟩)
      simp [this]
    rw [e]; simp
  | (s, u) :: o, v, l, i + 1, hn, h => by
    simp only [List.map_cons, List.nodup_cons] at hn
    have h2 : o[i]? = some (l, v) := by simpa using h
    have hv : v ∈ o.map (·.2) := List.mem_map.2 ⟨(l, v), List.mem_of_getElem? h2, rfl⟩
    have hu : ¬ u = v := fun e => hn.1 (e ▸ hv)
    have e : lessO ((s, u) :: o) v = (s, u) :: lessO o v := by
      unfold lessO
      rw [List.filter_cons_of_pos (by simp [hu])]
    rw [e]
    have := len_less hn.2 h2
    simp only [List.length_cons]
    omega
theorem box_int (w : World) (v : Int) (T : TypeId) : ∃ W b, w.alloc (.cells #[.int .i64 v] T) = W ∧ w.heap.size = b ∧ Ext w W ∧ W.cell? ⟨b, 0, none⟩ = some (.int .i64 v) := ⟨_, _, rfl, rfl, (Ext.refl w).alloc _ _, by simp [go_sem]⟩
theorem lay_left (w : World) : ∃ W b, w.alloc (.cells #[.string ⟨#[102, 101, 101, 115]⟩, .int .i64 1, .string ⟨#[112, 101, 110, 97, 108, 116, 121]⟩, .int .i64 2, .string ⟨#[105, 110, 116, 101, 114, 101, 115, 116]⟩, .int .i64 3, .string ⟨#[112, 114, 105, 110, 99, 105, 112, 97, 108]⟩, .int .i64 4] 140) = W ∧ w.heap.size = b ∧ Ext w W ∧ W.heap[b]? = some (Obj.cells (orow oOrder) 140 (0, 0)) :=
  ⟨_, _, rfl, rfl, (Ext.refl w).alloc _ _, heap_alloc_last w _⟩
theorem order_c (wf w0 w : World) (r c : Nat) (vr vl vh : Value) (s : St) (hf : Fine s) (h : Inn wf w0 w r c vr vl vh s) :
    Calls Tryz.prog 97 #[.pointer (some ⟨r, 0, none⟩)] w fun e w' => Rds wf w0 r c s.had (clauseR 12 s.p s.ts) e w' := by
  have hmf := L7.make_func
  obtain ⟨W, g, hW, hg, hx0, hrow⟩ := lay_left w
  have hne : Hid (g ≠ r) := by have := h.lt.1; show g ≠ r; omega
  have hlo : Hid (w0.heap.size ≤ g) := by have := h.ext.size; show _ ≤ _; omega
  have h0 : Hid (Chs wf w0 W r c g vr vl vh s 0 oOrder [] s.ts) := ⟨rfl, rfl, h.on hx0, hf, hrow, by
    show ordF 4 oOrder s.ts = (ordF 4 oOrder s.ts).bind fun b => .ok ([] ++ b.1, b.2)
    cases ordF 4 oOrder s.ts <;> rfl, by decide, by decide⟩
  replace h := show Hid _ from h
  replace hf := show Hid _ from hf
  clear hx0 hrow
  go_enter Tryz.func97, Tryz.ntmps97
  go_wp2_with fail
  clear hW hg
  go_loopw [2, 10] (fun v i wr => ∃ (k : Nat) (o : Opts) (ch : List Int) (ts : List Tok), i = .int .i64 (k : Int) ∧ k ≤ 4 ∧ v = .slice (some ⟨g, 0, none⟩) (4 - k) 4 ∧ Hid (Chs wf w0 wr r c g vr vl vh s k o ch ts)) (fun _ i _ => 4 - (RowKit.intOf i).toNat)
  case atStart => exact ⟨0, oOrder, [], s.ts, rfl, by omega, rfl, h0⟩
  case round =>
    obtain ⟨k, o, ch, ts, rfl, hk, rfl, hC⟩ := hrel
    clear h0
    have hkc : k = 0 ∨ k = 1 ∨ k = 2 ∨ k = 3 ∨ k = 4 := by omega
    rcases hkc with rfl | rfl | rfl | rfl | rfl
    · obtain ⟨s0, v0, s1, v1, s2, v2, s3, v3, rfl⟩ : ∃ s0 v0 s1 v1 s2 v2 s3 v3, o = [(s0, v0), (s1, v1), (s2, v2), (s3, v3)] := by
        have := hC.out.len
        match o, this with
        | [(s0, v0), (s1, v1), (s2, v2), (s3, v3)], _ => exact ⟨_, _, _, _, _, _, _, _, rfl⟩
      obtain ⟨rfl⟩ : ch = [] := by
        have := hC.out.num
        match ch, this with
        | [], _ => exact rfl
      have hst := hC.out.row
      obtain ⟨t, ts', hts, htl, hl⟩ := hC.out.fine.cons
      obtain rfl : ts = t :: ts' := hts
      have hinn := show Hid _ from hC.out.inn
      have hopt := show Hid _ from opt_of (by simp) hst
      clear hst
      cases hp : pick [(s0, v0), (s1, v1), (s2, v2), (s3, v3)] t.text with
      | none =>
        replace hp := show Hid _ from hp
        go_wp2_with fail
        refine (choose_x wf w0 _ r c vr vl vh _ t ts' g 4 4 [(s0, v0), (s1, v1), (s2, v2), (s3, v3)] rfl (by omega) rfl (by decide) hopt.out hne.out hinn.out).mono ?_
        rintro e w1 ⟨he, h1, hx⟩
        rw [hp.out] at he
        obtain rfl : e = thrown 7 t.at_ := he
        replace h1 := show Hid _ from h1
        clear hx
        unfold thrown
        go_wp2
        have hX : clauseR 12 s.p s.ts = .no 7 t.at_ := by
          show orderR s.p s.ts = _
          rw [order_ord, hC.out.ok]
          show Res.bind (Res.bind (Res.bind (tk _ _) _) _) _ = _
          rw [tk_none hp.out]; rfl
        rw [hX]
        exact ⟨rfl, Rds.no h1.out.ext⟩
      | some v =>
        replace hp := show Hid _ from hp
        go_wp2_with fail
        refine (choose_x wf w0 _ r c vr vl vh _ t ts' g 4 4 [(s0, v0), (s1, v1), (s2, v2), (s3, v3)] rfl (by omega) rfl (by decide) hopt.out hne.out hinn.out).mono ?_
        rintro e w1 ⟨he, h1, hx⟩
        rw [hp.out] at he
        obtain rfl : e = .returned (.int .i64 v) := he
        have hg1 := (hx.block g (Array.getElem?_eq_some_iff.1 hC.out.row).1 hne.out).trans hC.out.row
        obtain ⟨W2, b, hW2, hb2, hx2, b0⟩ := box_int w1 v 3
        have h2 := h1.on hx2
        have hg2 := (hx2.below.block g (Array.getElem?_eq_some_iff.1 hg1).1).trans hg1
        obtain ⟨c0, z0⟩ := h2.cell 12 (.int .i64 (ordP s.p []).o0) (fun _ => rfl)
        have hbr : b ≠ r := by have := h1.lt.1; omega
        replace h2 := show Hid _ from h2
        replace hg2 := show Hid _ from hg2
        clear hx h1 hg1 hx2
        go_upto_region 5 with fail
        go_region
        obtain ⟨W3, hW3⟩ : ∃ W, (W2.setCell ⟨r, 12, none⟩ (.int .i64 v)).drew = W := ⟨_, rfl⟩
        have h3 : Inn wf w0 W3 r c vr vl vh { s with ts := ts', p := ordP s.p ([] ++ [v]) } := hW3 ▸ (h2.out.turn 12 (.int .i64 v) (ordP s.p ([] ++ [v])) (fun _ => rfl) rfl rfl rfl).on (Ext.refl _).drew
        have hg3 : W3.heap[g]? = some (Obj.cells (orow [(s0, v0), (s1, v1), (s2, v2), (s3, v3)]) 140 (0, 0)) := hW3 ▸ ((heap_setCell_other _ _ _ _ hne.out).trans hg2.out)
        have b3 : W3.cell? ⟨b, 0, none⟩ = some (.int .i64 v) := hW3 ▸ (((Ext.refl _).drew).cell_of ((L8.other _ (Or.inl (Ne.symm hbr))).trans b0))
        replace h3 := show Hid _ from h3
        replace hg3 := show Hid _ from hg3
        replace b3 := show Hid _ from b3
        clear c0 z0 b0 h2 hg2 hbr
        go_wp2_with fail
        obtain ⟨i, hi⟩ := pick_mem hp.out
        refine (del4 g b i s0 s1 s2 s3 v0 v1 v2 v3 v t.text _ hi hC.out.two b3.out hg3.out).mono ?_
        rintro e w4 ⟨rfl, hg4, hx4⟩
        have hlen := len_less hC.out.two hi
        have h4 := show Hid _ from h3.out.far hx4 hg3.out hlo.out
        have htx := some_ne (f := pick [(s0, v0), (s1, v1), (s2, v2), (s3, v3)]) (pick_nil hC.out.wrd) hp.out
        have hfi := hC.out.fine.next rfl htx
        have hnew : Hid (Chs wf w0 w4 r c g vr vl vh s 1 (lessO [(s0, v0), (s1, v1), (s2, v2), (s3, v3)] v) ([] ++ [v]) ts') := ⟨by simp only [List.length_cons, List.length_nil] at hlen; omega, rfl, h4.out, ⟨hfi.fin, hfi.len, hfi.few⟩, hg4, by
          have e1 : (lessO [(s0, v0), (s1, v1), (s2, v2), (s3, v3)] v).length = 3 := by simp only [List.length_cons, List.length_nil] at hlen; omega
          rw [e1, hC.out.ok]
          show Res.bind (Res.bind (tk _ _) _) _ = _
          rw [tk_some hp.out]
          show Res.bind (Res.bind (ordF 3 _ _) _) _ = _
          rw [Res.bind_assoc]
          rfl, two_less hC.out.two, wrd_less hC.out.wrd⟩
        clear hg4 hx4 h4 hfi htx hlen b3 hg3 h3 hW3 hW2 hb2 hinn hopt hC hp hi
        go_wp2
        go_roundw
        case rel => exact ⟨1, _, _, _, rfl, by omega, rfl, hnew⟩
        case measure => simp [RowKit.intOf]
    · obtain ⟨s0, v0, s1, v1, s2, v2, rfl⟩ : ∃ s0 v0 s1 v1 s2 v2, o = [(s0, v0), (s1, v1), (s2, v2)] := by
        have := hC.out.len
        match o, this with
        | [(s0, v0), (s1, v1), (s2, v2)], _ => exact ⟨_, _, _, _, _, _, rfl⟩
      obtain ⟨a0, rfl⟩ : ∃ a0, ch = [a0] := by
        have := hC.out.num
        match ch, this with
        | [a0], _ => exact ⟨_, rfl⟩
      have hst := hC.out.row
      obtain ⟨t, ts', hts, htl, hl⟩ := hC.out.fine.cons
      obtain rfl : ts = t :: ts' := hts
      have hinn := show Hid _ from hC.out.inn
      have hopt := show Hid _ from opt_of (by simp) hst
      clear hst
      cases hp : pick [(s0, v0), (s1, v1), (s2, v2)] t.text with
      | none =>
        replace hp := show Hid _ from hp
        go_wp2_with fail
        refine (choose_x wf w0 _ r c vr vl vh _ t ts' g 3 4 [(s0, v0), (s1, v1), (s2, v2)] rfl (by omega) rfl (by decide) hopt.out hne.out hinn.out).mono ?_
        rintro e w1 ⟨he, h1, hx⟩
        rw [hp.out] at he
        obtain rfl : e = thrown 7 t.at_ := he
        replace h1 := show Hid _ from h1
        clear hx
        unfold thrown
        go_wp2
        have hX : clauseR 12 s.p s.ts = .no 7 t.at_ := by
          show orderR s.p s.ts = _
          rw [order_ord, hC.out.ok]
          show Res.bind (Res.bind (Res.bind (tk _ _) _) _) _ = _
          rw [tk_none hp.out]; rfl
        rw [hX]
        exact ⟨rfl, Rds.no h1.out.ext⟩
      | some v =>
        replace hp := show Hid _ from hp
        go_wp2_with fail
        refine (choose_x wf w0 _ r c vr vl vh _ t ts' g 3 4 [(s0, v0), (s1, v1), (s2, v2)] rfl (by omega) rfl (by decide) hopt.out hne.out hinn.out).mono ?_
        rintro e w1 ⟨he, h1, hx⟩
        rw [hp.out] at he
        obtain rfl : e = .returned (.int .i64 v) := he
        have hg1 := (hx.block g (Array.getElem?_eq_some_iff.1 hC.out.row).1 hne.out).trans hC.out.row
        obtain ⟨W2, b, hW2, hb2, hx2, b0⟩ := box_int w1 v 3
        have h2 := h1.on hx2
        have hg2 := (hx2.below.block g (Array.getElem?_eq_some_iff.1 hg1).1).trans hg1
        obtain ⟨c0, z0⟩ := h2.cell 13 (.int .i64 (ordP s.p [a0]).o1) (fun _ => rfl)
        have hbr : b ≠ r := by have := h1.lt.1; omega
        replace h2 := show Hid _ from h2
        replace hg2 := show Hid _ from hg2
        clear hx h1 hg1 hx2
        go_upto_region 5 with fail
        go_region
        obtain ⟨W3, hW3⟩ : ∃ W, (W2.setCell ⟨r, 13, none⟩ (.int .i64 v)).drew = W := ⟨_, rfl⟩
        have h3 : Inn wf w0 W3 r c vr vl vh { s with ts := ts', p := ordP s.p ([a0] ++ [v]) } := hW3 ▸ (h2.out.turn 13 (.int .i64 v) (ordP s.p ([a0] ++ [v])) (fun _ => rfl) rfl rfl rfl).on (Ext.refl _).drew
        have hg3 : W3.heap[g]? = some (Obj.cells (orow [(s0, v0), (s1, v1), (s2, v2)]) 140 (0, 0)) := hW3 ▸ ((heap_setCell_other _ _ _ _ hne.out).trans hg2.out)
        have b3 : W3.cell? ⟨b, 0, none⟩ = some (.int .i64 v) := hW3 ▸ (((Ext.refl _).drew).cell_of ((L8.other _ (Or.inl (Ne.symm hbr))).trans b0))
        replace h3 := show Hid _ from h3
        replace hg3 := show Hid _ from hg3
        replace b3 := show Hid _ from b3
        clear c0 z0 b0 h2 hg2 hbr
        go_wp2_with fail
        obtain ⟨i, hi⟩ := pick_mem hp.out
        refine (del3 g b i s0 s1 s2 v0 v1 v2 v t.text _ hi hC.out.two b3.out hg3.out).mono ?_
        rintro e w4 ⟨rfl, hg4, hx4⟩
        have hlen := len_less hC.out.two hi
        have h4 := show Hid _ from h3.out.far hx4 hg3.out hlo.out
        have htx := some_ne (f := pick [(s0, v0), (s1, v1), (s2, v2)]) (pick_nil hC.out.wrd) hp.out
        have hfi := hC.out.fine.next rfl htx
        have hnew : Hid (Chs wf w0 w4 r c g vr vl vh s 2 (lessO [(s0, v0), (s1, v1), (s2, v2)] v) ([a0] ++ [v]) ts') := ⟨by simp only [List.length_cons, List.length_nil] at hlen; omega, rfl, h4.out, ⟨hfi.fin, hfi.len, hfi.few⟩, hg4, by
          have e1 : (lessO [(s0, v0), (s1, v1), (s2, v2)] v).length = 2 := by simp only [List.length_cons, List.length_nil] at hlen; omega
          rw [e1, hC.out.ok]
          show Res.bind (Res.bind (tk _ _) _) _ = _
          rw [tk_some hp.out]
          show Res.bind (Res.bind (ordF 2 _ _) _) _ = _
          rw [Res.bind_assoc]
          rfl, two_less hC.out.two, wrd_less hC.out.wrd⟩
        clear hg4 hx4 h4 hfi htx hlen b3 hg3 h3 hW3 hW2 hb2 hinn hopt hC hp hi
        go_wp2
        go_roundw
        case rel => exact ⟨2, _, _, _, rfl, by omega, rfl, hnew⟩
        case measure => simp [RowKit.intOf]
    · obtain ⟨s0, v0, s1, v1, rfl⟩ : ∃ s0 v0 s1 v1, o = [(s0, v0), (s1, v1)] := by
        have := hC.out.len
        match o, this with
        | [(s0, v0), (s1, v1)], _ => exact ⟨_, _, _, _, rfl⟩
      obtain ⟨a0, a1, rfl⟩ : ∃ a0 a1, ch = [a0, a1] := by
        have := hC.out.num
        match ch, this with
        | [a0, a1], _ => exact ⟨_, _, rfl⟩
      have hst := hC.out.row
      obtain ⟨t, ts', hts, htl, hl⟩ := hC.out.fine.cons
      obtain rfl : ts = t :: ts' := hts
      have hinn := show Hid _ from hC.out.inn
      have hopt := show Hid _ from opt_of (by simp) hst
      clear hst
      cases hp : pick [(s0, v0), (s1, v1)] t.text with
      | none =>
        replace hp := show Hid _ from hp
        go_wp2_with fail
        refine (choose_x wf w0 _ r c vr vl vh _ t ts' g 2 4 [(s0, v0), (s1, v1)] rfl (by omega) rfl (by decide) hopt.out hne.out hinn.out).mono ?_
        rintro e w1 ⟨he, h1, hx⟩
        rw [hp.out] at he
        obtain rfl : e = thrown 7 t.at_ := he
        replace h1 := show Hid _ from h1
        clear hx
        unfold thrown
        go_wp2
        have hX : clauseR 12 s.p s.ts = .no 7 t.at_ := by
          show orderR s.p s.ts = _
          rw [order_ord, hC.out.ok]
          show Res.bind (Res.bind (Res.bind (tk _ _) _) _) _ = _
          rw [tk_none hp.out]; rfl
        rw [hX]
        exact ⟨rfl, Rds.no h1.out.ext⟩
      | some v =>
        replace hp := show Hid _ from hp
        go_wp2_with fail
        refine (choose_x wf w0 _ r c vr vl vh _ t ts' g 2 4 [(s0, v0), (s1, v1)] rfl (by omega) rfl (by decide) hopt.out hne.out hinn.out).mono ?_
        rintro e w1 ⟨he, h1, hx⟩
        rw [hp.out] at he
        obtain rfl : e = .returned (.int .i64 v) := he
        have hg1 := (hx.block g (Array.getElem?_eq_some_iff.1 hC.out.row).1 hne.out).trans hC.out.row
        obtain ⟨W2, b, hW2, hb2, hx2, b0⟩ := box_int w1 v 3
        have h2 := h1.on hx2
        have hg2 := (hx2.below.block g (Array.getElem?_eq_some_iff.1 hg1).1).trans hg1
        obtain ⟨c0, z0⟩ := h2.cell 14 (.int .i64 (ordP s.p [a0, a1]).o2) (fun _ => rfl)
        have hbr : b ≠ r := by have := h1.lt.1; omega
        replace h2 := show Hid _ from h2
        replace hg2 := show Hid _ from hg2
        clear hx h1 hg1 hx2
        go_upto_region 5 with fail
        go_region
        obtain ⟨W3, hW3⟩ : ∃ W, (W2.setCell ⟨r, 14, none⟩ (.int .i64 v)).drew = W := ⟨_, rfl⟩
        have h3 : Inn wf w0 W3 r c vr vl vh { s with ts := ts', p := ordP s.p ([a0, a1] ++ [v]) } := hW3 ▸ (h2.out.turn 14 (.int .i64 v) (ordP s.p ([a0, a1] ++ [v])) (fun _ => rfl) rfl rfl rfl).on (Ext.refl _).drew
        have hg3 : W3.heap[g]? = some (Obj.cells (orow [(s0, v0), (s1, v1)]) 140 (0, 0)) := hW3 ▸ ((heap_setCell_other _ _ _ _ hne.out).trans hg2.out)
        have b3 : W3.cell? ⟨b, 0, none⟩ = some (.int .i64 v) := hW3 ▸ (((Ext.refl _).drew).cell_of ((L8.other _ (Or.inl (Ne.symm hbr))).trans b0))
        replace h3 := show Hid _ from h3
        replace hg3 := show Hid _ from hg3
        replace b3 := show Hid _ from b3
        clear c0 z0 b0 h2 hg2 hbr
        go_wp2_with fail
        obtain ⟨i, hi⟩ := pick_mem hp.out
        refine (del2 g b i s0 s1 v0 v1 v t.text _ hi hC.out.two b3.out hg3.out).mono ?_
        rintro e w4 ⟨rfl, hg4, hx4⟩
        have hlen := len_less hC.out.two hi
        have h4 := show Hid _ from h3.out.far hx4 hg3.out hlo.out
        have htx := some_ne (f := pick [(s0, v0), (s1, v1)]) (pick_nil hC.out.wrd) hp.out
        have hfi := hC.out.fine.next rfl htx
        have hnew : Hid (Chs wf w0 w4 r c g vr vl vh s 3 (lessO [(s0, v0), (s1, v1)] v) ([a0, a1] ++ [v]) ts') := ⟨by simp only [List.length_cons, List.length_nil] at hlen; omega, rfl, h4.out, ⟨hfi.fin, hfi.len, hfi.few⟩, hg4, by
          have e1 : (lessO [(s0, v0), (s1, v1)] v).length = 1 := by simp only [List.length_cons, List.length_nil] at hlen; omega
          rw [e1, hC.out.ok]
          show Res.bind (Res.bind (tk _ _) _) _ = _
          rw [tk_some hp.out]
          show Res.bind (Res.bind (ordF 1 _ _) _) _ = _
          rw [Res.bind_assoc]
          rfl, two_less hC.out.two, wrd_less hC.out.wrd⟩
        clear hg4 hx4 h4 hfi htx hlen b3 hg3 h3 hW3 hW2 hb2 hinn hopt hC hp hi
        go_wp2
        go_roundw
        case rel => exact ⟨3, _, _, _, rfl, by omega, rfl, hnew⟩
        case measure => simp [RowKit.intOf]
    · obtain ⟨s0, v0, rfl⟩ : ∃ s0 v0, o = [(s0, v0)] := by
        have := hC.out.len
        match o, this with
        | [(s0, v0)], _ => exact ⟨_, _, rfl⟩
      obtain ⟨a0, a1, a2, rfl⟩ : ∃ a0 a1 a2, ch = [a0, a1, a2] := by
        have := hC.out.num
        match ch, this with
        | [a0, a1, a2], _ => exact ⟨_, _, _, rfl⟩
      have hst := hC.out.row
      obtain ⟨t, ts', hts, htl, hl⟩ := hC.out.fine.cons
      obtain rfl : ts = t :: ts' := hts
      have hinn := show Hid _ from hC.out.inn
      have hopt := show Hid _ from opt_of (by simp) hst
      clear hst
      cases hp : pick [(s0, v0)] t.text with
      | none =>
        replace hp := show Hid _ from hp
        go_wp2_with fail
        refine (choose_x wf w0 _ r c vr vl vh _ t ts' g 1 4 [(s0, v0)] rfl (by omega) rfl (by decide) hopt.out hne.out hinn.out).mono ?_
        rintro e w1 ⟨he, h1, hx⟩
        rw [hp.out] at he
        obtain rfl : e = thrown 7 t.at_ := he
        replace h1 := show Hid _ from h1
        clear hx
        unfold thrown
        go_wp2
        have hX : clauseR 12 s.p s.ts = .no 7 t.at_ := by
          show orderR s.p s.ts = _
          rw [order_ord, hC.out.ok]
          show Res.bind (Res.bind (Res.bind (tk _ _) _) _) _ = _
          rw [tk_none hp.out]; rfl
        rw [hX]
        exact ⟨rfl, Rds.no h1.out.ext⟩
      | some v =>
        replace hp := show Hid _ from hp
        go_wp2_with fail
        refine (choose_x wf w0 _ r c vr vl vh _ t ts' g 1 4 [(s0, v0)] rfl (by omega) rfl (by decide) hopt.out hne.out hinn.out).mono ?_
        rintro e w1 ⟨he, h1, hx⟩
        rw [hp.out] at he
        obtain rfl : e = .returned (.int .i64 v) := he
        have hg1 := (hx.block g (Array.getElem?_eq_some_iff.1 hC.out.row).1 hne.out).trans hC.out.row
        obtain ⟨W2, b, hW2, hb2, hx2, b0⟩ := box_int w1 v 3
        have h2 := h1.on hx2
        have hg2 := (hx2.below.block g (Array.getElem?_eq_some_iff.1 hg1).1).trans hg1
        obtain ⟨c0, z0⟩ := h2.cell 15 (.int .i64 (ordP s.p [a0, a1, a2]).o3) (fun _ => rfl)
        have hbr : b ≠ r := by have := h1.lt.1; omega
        replace h2 := show Hid _ from h2
        replace hg2 := show Hid _ from hg2
        clear hx h1 hg1 hx2
        go_upto_region 5 with fail
        go_region
        obtain ⟨W3, hW3⟩ : ∃ W, (W2.setCell ⟨r, 15, none⟩ (.int .i64 v)).drew = W := ⟨_, rfl⟩
        have h3 : Inn wf w0 W3 r c vr vl vh { s with ts := ts', p := ordP s.p ([a0, a1, a2] ++ [v]) } := hW3 ▸ (h2.out.turn 15 (.int .i64 v) (ordP s.p ([a0, a1, a2] ++ [v])) (fun _ => rfl) rfl rfl rfl).on (Ext.refl _).drew
        have hg3 : W3.heap[g]? = some (Obj.cells (orow [(s0, v0)]) 140 (0, 0)) := hW3 ▸ ((heap_setCell_other _ _ _ _ hne.out).trans hg2.out)
        have b3 : W3.cell? ⟨b, 0, none⟩ = some (.int .i64 v) := hW3 ▸ (((Ext.refl _).drew).cell_of ((L8.other _ (Or.inl (Ne.symm hbr))).trans b0))
        replace h3 := show Hid _ from h3
        replace hg3 := show Hid _ from hg3
        replace b3 := show Hid _ from b3
        clear c0 z0 b0 h2 hg2 hbr
        go_wp2_with fail
        obtain ⟨i, hi⟩ := pick_mem hp.out
        refine (del1 g b i s0 v0 v t.text _ hi hC.out.two b3.out hg3.out).mono ?_
        rintro e w4 ⟨rfl, hg4, hx4⟩
        have hlen := len_less hC.out.two hi
        have h4 := show Hid _ from h3.out.far hx4 hg3.out hlo.out
        have htx := some_ne (f := pick [(s0, v0)]) (pick_nil hC.out.wrd) hp.out
        have hfi := hC.out.fine.next rfl htx
        have hnew : Hid (Chs wf w0 w4 r c g vr vl vh s 4 (lessO [(s0, v0)] v) ([a0, a1, a2] ++ [v]) ts') := ⟨by simp only [List.length_cons, List.length_nil] at hlen; omega, rfl, h4.out, ⟨hfi.fin, hfi.len, hfi.few⟩, hg4, by
          have e1 : (lessO [(s0, v0)] v).length = 0 := by simp only [List.length_cons, List.length_nil] at hlen; omega
          rw [e1, hC.out.ok]
          show Res.bind (Res.bind (tk _ _) _) _ = _
          rw [tk_some hp.out]
          rfl, two_less hC.out.two, wrd_less hC.out.wrd⟩
        clear hg4 hx4 h4 hfi htx hlen b3 hg3 h3 hW3 hW2 hb2 hinn hopt hC hp hi
        go_wp2
        go_roundw
        case rel => exact ⟨4, _, _, _, rfl, by omega, rfl, hnew⟩
        case measure => simp [RowKit.intOf]
    · obtain ⟨a0, a1, a2, a3, rfl⟩ : ∃ a0 a1 a2 a3, ch = [a0, a1, a2, a3] := by
        have := hC.out.num
        match ch, this with
        | [a0, a1, a2, a3], _ => exact ⟨_, _, _, _, rfl⟩
      obtain rfl : o = [] := List.eq_nil_of_length_eq_zero (by have := hC.out.len; omega)
      go_wp2
      go_end0
      have hX : clauseR 12 s.p s.ts = .ok (ordP s.p [a0, a1, a2, a3], ts) := by
        show orderR s.p s.ts = _
        rw [order_ord, hC.out.ok]
        rfl
      rw [hX]
      exact Rds.ok (s := s) hC.out.inn
end Go.Proofs.YtbnpaeejlfaboaaGreatDoor

namespace Go.Proofs.YtbnpaeejlfaboaaGreatDoor
open Go.RowKit Go.Lib
set_option linter.unusedVariables false
def wordAt (k : Nat) : List UInt8 := words.getD k []
/-- The cells of the clauses. -/
structure Cll (w : World) (c : Nat) (h : Nat → Bool) : Prop where
  on : ∀ k, k < 15 → ∃ fn a b, w.cell? ⟨c, k * 5, none⟩ = some (.string ⟨(wordAt k).toArray⟩) ∧ w.cell? ⟨c, k * 5 + 1, none⟩ = some (.bool (must k)) ∧ w.cell? ⟨c, k * 5 + 2, none⟩ = some (.bool (often k)) ∧ w.cell? ⟨c, k * 5 + 3, none⟩ = some (.func fn a b) ∧ w.cell? ⟨c, k * 5 + 4, none⟩ = some (.bool (h k))
theorem Cll.of {w : World} {c r : Nat} {h : Nat → Bool} (hc : w.heap[c]? = some (Obj.cells (ccells r h) 109 (0, 0))) : Cll w c h := ⟨fun k hk => by
  match k, hk with
  | 0, _ => exact ⟨_, _, _, (cell_of_row w c 0 _ _ _ hc).trans rfl, (cell_of_row w c 1 _ _ _ hc).trans rfl, (cell_of_row w c 2 _ _ _ hc).trans rfl, (cell_of_row w c 3 _ _ _ hc).trans rfl, (cell_of_row w c 4 _ _ _ hc).trans rfl⟩
  | 1, _ => exact ⟨_, _, _, (cell_of_row w c 5 _ _ _ hc).trans rfl, (cell_of_row w c 6 _ _ _ hc).trans rfl, (cell_of_row w c 7 _ _ _ hc).trans rfl, (cell_of_row w c 8 _ _ _ hc).trans rfl, (cell_of_row w c 9 _ _ _ hc).trans rfl⟩
  | 2, _ => exact ⟨_, _, _, (cell_of_row w c 10 _ _ _ hc).trans rfl, (cell_of_row w c 11 _ _ _ hc).trans rfl, (cell_of_row w c 12 _ _ _ hc).trans rfl, (cell_of_row w c 13 _ _ _ hc).trans rfl, (cell_of_row w c 14 _ _ _ hc).trans rfl⟩
  | 3, _ => exact ⟨_, _, _, (cell_of_row w c 15 _ _ _ hc).trans rfl, (cell_of_row w c 16 _ _ _ hc).trans rfl, (cell_of_row w c 17 _ _ _ hc).trans rfl, (cell_of_row w c 18 _ _ _ hc).trans rfl, (cell_of_row w c 19 _ _ _ hc).trans rfl⟩
  | 4, _ => exact ⟨_, _, _, (cell_of_row w c 20 _ _ _ hc).trans rfl, (cell_of_row w c 21 _ _ _ hc).trans rfl, (cell_of_row w c 22 _ _ _ hc).trans rfl, (cell_of_row w c 23 _ _ _ hc).trans rfl, (cell_of_row w c 24 _ _ _ hc).trans rfl⟩
  | 5, _ => exact ⟨_, _, _, (cell_of_row w c 25 _ _ _ hc).trans rfl, (cell_of_row w c 26 _ _ _ hc).trans rfl, (cell_of_row w c 27 _ _ _ hc).trans rfl, (cell_of_row w c 28 _ _ _ hc).trans rfl, (cell_of_row w c 29 _ _ _ hc).trans rfl⟩
  | 6, _ => exact ⟨_, _, _, (cell_of_row w c 30 _ _ _ hc).trans rfl, (cell_of_row w c 31 _ _ _ hc).trans rfl, (cell_of_row w c 32 _ _ _ hc).trans rfl, (cell_of_row w c 33 _ _ _ hc).trans rfl, (cell_of_row w c 34 _ _ _ hc).trans rfl⟩
  | 7, _ => exact ⟨_, _, _, (cell_of_row w c 35 _ _ _ hc).trans rfl, (cell_of_row w c 36 _ _ _ hc).trans rfl, (cell_of_row w c 37 _ _ _ hc).trans rfl, (cell_of_row w c 38 _ _ _ hc).trans rfl, (cell_of_row w c 39 _ _ _ hc).trans rfl⟩
  | 8, _ => exact ⟨_, _, _, (cell_of_row w c 40 _ _ _ hc).trans rfl, (cell_of_row w c 41 _ _ _ hc).trans rfl, (cell_of_row w c 42 _ _ _ hc).trans rfl, (cell_of_row w c 43 _ _ _ hc).trans rfl, (cell_of_row w c 44 _ _ _ hc).trans rfl⟩
  | 9, _ => exact ⟨_, _, _, (cell_of_row w c 45 _ _ _ hc).trans rfl, (cell_of_row w c 46 _ _ _ hc).trans rfl, (cell_of_row w c 47 _ _ _ hc).trans rfl, (cell_of_row w c 48 _ _ _ hc).trans rfl, (cell_of_row w c 49 _ _ _ hc).trans rfl⟩
  | 10, _ => exact ⟨_, _, _, (cell_of_row w c 50 _ _ _ hc).trans rfl, (cell_of_row w c 51 _ _ _ hc).trans rfl, (cell_of_row w c 52 _ _ _ hc).trans rfl, (cell_of_row w c 53 _ _ _ hc).trans rfl, (cell_of_row w c 54 _ _ _ hc).trans rfl⟩
  | 11, _ => exact ⟨_, _, _, (cell_of_row w c 55 _ _ _ hc).trans rfl, (cell_of_row w c 56 _ _ _ hc).trans rfl, (cell_of_row w c 57 _ _ _ hc).trans rfl, (cell_of_row w c 58 _ _ _ hc).trans rfl, (cell_of_row w c 59 _ _ _ hc).trans rfl⟩
  | 12, _ => exact ⟨_, _, _, (cell_of_row w c 60 _ _ _ hc).trans rfl, (cell_of_row w c 61 _ _ _ hc).trans rfl, (cell_of_row w c 62 _ _ _ hc).trans rfl, (cell_of_row w c 63 _ _ _ hc).trans rfl, (cell_of_row w c 64 _ _ _ hc).trans rfl⟩
  | 13, _ => exact ⟨_, _, _, (cell_of_row w c 65 _ _ _ hc).trans rfl, (cell_of_row w c 66 _ _ _ hc).trans rfl, (cell_of_row w c 67 _ _ _ hc).trans rfl, (cell_of_row w c 68 _ _ _ hc).trans rfl, (cell_of_row w c 69 _ _ _ hc).trans rfl⟩
  | 14, _ => exact ⟨_, _, _, (cell_of_row w c 70 _ _ _ hc).trans rfl, (cell_of_row w c 71 _ _ _ hc).trans rfl, (cell_of_row w c 72 _ _ _ hc).trans rfl, (cell_of_row w c 73 _ _ _ hc).trans rfl, (cell_of_row w c 74 _ _ _ hc).trans rfl⟩
  | k + 15, hk => omega⟩
theorem clause1_c (s l : List UInt8) (m o t : Bool) (fn : Fn) (p q : Array Value) (b : Nat) (w : World) (hb : w.cell? ⟨b, 2, none⟩ = some (.string ⟨l.toArray⟩)) :
    Calls Tryz.prog 136 #[.agg #[.string ⟨s.toArray⟩, .bool m, .bool o, .func fn p q, .bool t], .pointer (some ⟨b, 0, none⟩)] w fun e w' => e = .returned (.bool (s == l)) ∧ Ext w w' := by
  have hlt := lt_of_cell hb
  obtain ⟨B, hB⟩ : ∃ B, (s == l) = B := ⟨_, rfl⟩
  rw [hB]
  go_enter Tryz.func136, Tryz.ntmps136
  go_wp2
  go_ret
  exact ⟨rfl, (Ext.refl _).alloc _ _⟩
theorem complete1_c (s : List UInt8) (m o t : Bool) (fn : Fn) (p q : Array Value) (w : World) :
    Calls Tryz.prog 105 #[.agg #[.string ⟨s.toArray⟩, .bool m, .bool o, .func fn p q, .bool t]] w fun e w' => e = .returned (.bool (m && !t)) ∧ Ext w w' := by
  cases m
  · go_enter Tryz.func105, Tryz.ntmps105
    go_wp2
    go_ret
    exact ⟨rfl, (Ext.refl _).alloc _ _⟩
  · go_enter Tryz.func105, Tryz.ntmps105
    go_wp2
    go_ret
    exact ⟨rfl, (Ext.refl _).alloc _ _⟩
theorem which_lt (l : List UInt8) : which l ≤ 15 := by
  have := List.findIdx_le_length (xs := words) (p := fun s => decide (s = l))
  exact this
theorem which_no {l : List UInt8} {k : Nat} (h : k < which l) : ¬ wordAt k = l := by
  have h15 := which_lt l
  have hk : k < words.length := by show k < 15; omega
  have := List.not_of_lt_findIdx (p := fun s => decide (s = l)) (xs := words) h
  have e : wordAt k = words[k] := by unfold wordAt; rw [List.getD_eq_getElem?_getD, List.getElem?_eq_getElem hk]; rfl
  rw [e]
  simpa using this
theorem which_at {l : List UInt8} (h : which l < 15) : wordAt (which l) = l := by
  have hk : words.findIdx (fun s => decide (s = l)) < words.length := h
  have := List.findIdx_getElem (p := fun s => decide (s = l)) (xs := words) (w := hk)
  have e : wordAt (which l) = words[words.findIdx (fun s => decide (s = l))] := by
    unfold wordAt which
    rw [List.getD_eq_getElem?_getD, List.getElem?_eq_getElem hk]; rfl
  rw [e]
  simpa using this
theorem idxC_c (c b : Nat) (h : Nat → Bool) (l : List UInt8) (w : World) (hc : Cll w c h) (hb : w.cell? ⟨b, 2, none⟩ = some (.string ⟨l.toArray⟩)) :
    Calls Tryz.prog 135 #[.slice (some ⟨c, 0, none⟩) 15 15, .func (.func 136) #[] #[.pointer (some ⟨b, 0, none⟩)]] w fun e w' => e = .returned (.int .i64 (if which l < 15 then (which l : Int) else -1)) ∧ Ext w w' := by
  obtain ⟨i, hi⟩ : ∃ i, which l = i := ⟨_, rfl⟩
  have hi15 := which_lt l
  rw [hi] at hi15 ⊢
  replace hi := show Hid _ from hi
  replace hc := show Hid _ from hc
  replace hb := show Hid _ from hb
  go_enter Tryz.func135, Tryz.ntmps135
  go_wp2
  go_loopw [8] (fun q wr => ∃ k : Nat, k ≤ i ∧ q = .int .i64 k ∧ Hid (Ext w wr)) (fun q _ => i - (RowKit.intOf q).toNat)
  case atStart => exact ⟨0, Nat.zero_le _, rfl, Ext.refl w⟩
  case round =>
    obtain ⟨k, hk, rfl, hx⟩ := hrel
    by_cases hlt : k < 15
    · obtain ⟨fn, p, q, c0, c1, c2, c3, c4⟩ := hc.out.on k hlt
      replace c0 := hx.out.cell_of c0
      replace c1 := hx.out.cell_of c1
      replace c2 := hx.out.cell_of c2
      replace c3 := hx.out.cell_of c3
      replace c4 := hx.out.cell_of c4
      have hb1 : Hid (wr.cell? ⟨b, 2, none⟩ = some (.string ⟨l.toArray⟩)) := hx.out.cell_of hb.out
      by_cases hq : k = i
      · subst hq
        have hw : wordAt k = l := by have := which_at (l := l) (by rw [hi.out]; exact hlt); rw [hi.out] at this; exact this
        rw [hw] at c0
        go_wp2_with (go_at_call 136; refine (clause1_c _ _ _ _ _ _ _ _ _ _ hb1.out).mono ?_; rintro e w1 ⟨rfl, hx1⟩; replace hx1 := show Hid _ from hx1)
        go_ret
        exact ⟨rfl, hx.out.trans hx1.out⟩
      · have hw : ¬ wordAt k = l := which_no (by rw [hi.out]; omega)
        obtain ⟨s, hs⟩ : ∃ s, wordAt k = s := ⟨_, rfl⟩
        rw [hs] at c0 hw
        have hq2 : (s == l) = false := by simp [hw]
        replace hw := show Hid _ from hw
        replace hs := show Hid _ from hs
        go_wp2_with (go_at_call 136; refine (clause1_c _ _ _ _ _ _ _ _ _ _ hb1.out).mono ?_; rintro e w1 ⟨rfl, hx1⟩; replace hx1 := show Hid _ from hx1)
        go_roundw
        case rel => exact ⟨k + 1, by omega, by go_num, hx.out.trans hx1.out⟩
        case measure => simp [RowKit.intOf]; omega
    · obtain rfl : k = 15 := by omega
      obtain rfl : i = 15 := by omega
      go_wp2
      go_ret
      exact ⟨rfl, hx.out⟩
theorem whole_all {h : Nat → Bool} (H : ∀ j, j < 15 → (must j && !h j) = false) : whole h = true := by
  have a0 := H 0 (by omega); have a1 := H 1 (by omega); have a2 := H 2 (by omega); have a3 := H 3 (by omega); have a4 := H 4 (by omega); have a6 := H 6 (by omega); have a12 := H 12 (by omega)
  simp [must] at a0 a1 a2 a3 a4 a6 a12
  simp [whole, a0, a1, a2, a3, a4, a6, a12]
theorem whole_not {h : Nat → Bool} {k : Nat} (H : (must k && !h k) = true) : whole h = false := by
  simp only [Bool.and_eq_true, Bool.not_eq_true', must, Bool.or_eq_true, beq_iff_eq] at H
  obtain ⟨h1, h2⟩ := H
  rcases h1 with rfl | rfl | rfl | rfl | rfl | rfl | rfl <;> simp [whole, h2]
/-- Is one missing? -/
def Missed (h : Nat → Bool) (e : Ending) : Prop := if whole h then e = .returned (.int .i64 (-1)) else ∃ k : Nat, e = .returned (.int .i64 k)
theorem idxM_c (c : Nat) (h : Nat → Bool) (w : World) (hc : Cll w c h) :
    Calls Tryz.prog 135 #[.slice (some ⟨c, 0, none⟩) 15 15, .func (.func 105) #[] #[]] w fun e w' => Missed h e ∧ Ext w w' := by
  replace hc := show Hid _ from hc
  go_enter Tryz.func135, Tryz.ntmps135
  go_wp2
  go_loopw [8] (fun q wr => ∃ k : Nat, k ≤ 15 ∧ q = .int .i64 k ∧ Hid (Ext w wr) ∧ Hid (∀ j, j < k → (must j && !h j) = false)) (fun q _ => 15 - (RowKit.intOf q).toNat)
  case atStart => exact ⟨0, Nat.zero_le _, rfl, Ext.refl w, fun j hj => absurd hj (Nat.not_lt_zero j)⟩
  case round =>
    obtain ⟨k, hk, rfl, hx, hall⟩ := hrel
    by_cases hlt : k < 15
    · obtain ⟨fn, p, q, c0, c1, c2, c3, c4⟩ := hc.out.on k hlt
      replace c0 := hx.out.cell_of c0
      replace c1 := hx.out.cell_of c1
      replace c2 := hx.out.cell_of c2
      replace c3 := hx.out.cell_of c3
      replace c4 := hx.out.cell_of c4
      obtain ⟨s, hs⟩ : ∃ s, wordAt k = s := ⟨_, rfl⟩
      rw [hs] at c0
      replace hs := show Hid _ from hs
      cases hq : (must k && !h k)
      · have hq2 := show Hid _ from hq
        go_wp2_with (go_at_call 105; refine (complete1_c _ _ _ _ _ _ _ _).mono ?_; rintro e w1 ⟨rfl, hx1⟩; replace hx1 := show Hid _ from hx1)
        go_roundw
        case rel => exact ⟨k + 1, by omega, by go_num, hx.out.trans hx1.out, fun j hj => by
          by_cases e : j = k
          · subst e; exact hq2.out
          · exact hall.out j (by omega)⟩
        case measure => simp [RowKit.intOf]; omega
      · have hq2 := show Hid _ from hq
        go_wp2_with (go_at_call 105; refine (complete1_c _ _ _ _ _ _ _ _).mono ?_; rintro e w1 ⟨rfl, hx1⟩; replace hx1 := show Hid _ from hx1)
        go_ret
        refine ⟨?_, hx.out.trans hx1.out⟩
        unfold Missed
        rw [whole_not hq2.out]
        exact ⟨k, rfl⟩
    · obtain rfl : k = 15 := by omega
      go_wp2
      go_ret
      refine ⟨?_, hx.out⟩
      unfold Missed
      rw [whole_all hall.out]
      rfl
theorem contains_c (c : Nat) (h : Nat → Bool) (w : World) (hc : Cll w c h) :
    Calls Tryz.prog 104 #[.slice (some ⟨c, 0, none⟩) 15 15, .func (.func 105) #[] #[]] w fun e w' => e = .returned (.bool (!whole h)) ∧ Ext w w' := by
  obtain ⟨B, hB⟩ : ∃ B, whole h = B := ⟨_, rfl⟩
  rw [hB]
  replace hB := show Hid _ from hB
  cases B
  · go_enter Tryz.func104, Tryz.ntmps104
    go_wp2_with fail
    refine (idxM_c c h _ hc).mono ?_
    rintro e w1 ⟨hm, hx⟩
    unfold Missed at hm
    rw [hB.out] at hm
    obtain ⟨k, rfl⟩ : ∃ k : Nat, e = .returned (.int .i64 k) := hm
    have hk : (0 : Int) ≤ (k : Int) := by omega
    replace hx := show Hid _ from hx
    go_wp2
    go_ret
    exact ⟨rfl, hx.out⟩
  · go_enter Tryz.func104, Tryz.ntmps104
    go_wp2_with fail
    refine (idxM_c c h _ hc).mono ?_
    rintro e w1 ⟨hm, hx⟩
    unfold Missed at hm
    rw [hB.out] at hm
    obtain rfl : e = .returned (.int .i64 (-1)) := hm
    replace hx := show Hid _ from hx
    go_wp2
    go_ret
    exact ⟨rfl, hx.out⟩
theorem complete_c (wf w0 w : World) (r c : Nat) (vr vl vh : Value) (s : St) (h : Inn wf w0 w r c vr vl vh s) :
    Calls Tryz.prog 48 #[.pointer (some ⟨r, 0, none⟩)] w fun e w' => e = .returned (.bool (whole s.had)) ∧ Ext w w' := by
  obtain ⟨B, hB⟩ : ∃ B, whole s.had = B := ⟨_, rfl⟩
  have c1 := (h.cell 1 (.slice (some ⟨c, 0, none⟩) 15 15) (fun _ => rfl)).1
  have hc := show Hid _ from Cll.of h.cls
  rw [hB]
  have hB2 : (!whole s.had) = !B := by rw [hB]
  replace hB := show Hid _ from hB
  replace hB2 := show Hid _ from hB2
  replace h := show Hid _ from h
  go_enter Tryz.func48, Tryz.ntmps48
  go_wp2_with fail
  refine (contains_c c s.had _ hc.out).mono ?_
  rintro e w1 ⟨he, hx⟩
  rw [hB2.out] at he
  subst he
  replace hx := show Hid _ from hx
  go_wp2
  go_ret
  exact ⟨by simp, hx.out⟩
end Go.Proofs.YtbnpaeejlfaboaaGreatDoor

namespace Go.Proofs.YtbnpaeejlfaboaaGreatDoor
open Go.RowKit Go.Lib
set_option linter.unusedVariables false
theorem tell_cells (r : Nat) (h : Nat → Bool) : ∀ i, i < 15 → (ccells r h).setIfInBounds (5 * i + 4) (.bool true) = ccells r (seen h i)
  | 0, _ => by simp [ccells, seen]
  | 1, _ => by simp [ccells, seen]
  | 2, _ => by simp [ccells, seen]
  | 3, _ => by simp [ccells, seen]
  | 4, _ => by simp [ccells, seen]
  | 5, _ => by simp [ccells, seen]
  | 6, _ => by simp [ccells, seen]
  | 7, _ => by simp [ccells, seen]
  | 8, _ => by simp [ccells, seen]
  | 9, _ => by simp [ccells, seen]
  | 10, _ => by simp [ccells, seen]
  | 11, _ => by simp [ccells, seen]
  | 12, _ => by simp [ccells, seen]
  | 13, _ => by simp [ccells, seen]
  | 14, _ => by simp [ccells, seen]
  | i + 15, hi => by omega
theorem Inn.tell {wf w0 w : World} {r c : Nat} {vr vl vh : Value} {s : St} (h : Inn wf w0 w r c vr vl vh s) (i : Nat) (hi : i < 15) : Inn wf w0 (w.setCell ⟨c, 5 * i + 4, none⟩ (.bool true)) r c vr vl vh { s with had := seen s.had i } := by
  obtain ⟨vt, hr, ht⟩ := h.row
  have hk : ∀ (f : TypeId), f ≠ 109 → ∀ (k : Nat) (cur : Array Value), w.heap[k]? = some (Obj.cells cur f (0, 0)) → (w.setCell ⟨c, 5 * i + 4, none⟩ (.bool true)).heap[k]? = w.heap[k]? := fun f hf k cur hk => heap_setCell_other _ _ _ _ (by
    show k ≠ c
    rintro rfl
    have := hk.symm.trans h.cls
    simp at this
    exact hf this.2)
  exact ⟨h.ext.setCell h.loc _, h.lo, h.loc, ⟨vt, (hk _ (by decide) _ _ hr).trans hr, ht⟩, (heap_setCell_same w c (5 * i + 4) _ _ _ h.cls).trans (by rw [tell_cells r s.had i hi]), own_keep h.sr (hk _ (by decide)), own_keep h.sl (hk _ (by decide)), own_keep h.sh (hk _ (by decide)), h.kp.go fun f k cur hf => hk f (by rcases hf with rfl | rfl <;> decide) k cur⟩
/-- A region that draws its order, whose first n operations leave the world as it is, and whose others come in their order behind them. -/
theorem wp_region_tail {P : Program} {id : Nat} {Q : Exit → Act → World → Prop} {a : Act} {w : World} {l : List Oper} (n : Nat) (hm : P.follows .mixedOrders = true) (hB : Region.lexTailB .any l.toArray n = true)
    (h : ∀ W, Ext w W → wpStill P l.toArray W (fun a' => wpList P l.toArray Q (l.drop n) a' W) (l.take n) a) : (Code.region id l.toArray true).wp P Q a w :=
  wp_region_still_tail n hm hB (h _ ((Ext.refl w).drew))
/-- What a clause, or a group, leaves behind. -/
def Rdc (wf w0 : World) (r c : Nat) (X : Res St) (e : Ending) (w' : World) : Prop :=
  Ext w0 w' ∧ match X with
    | .ok u => e = .returned (.tuple #[]) ∧ ∃ vr vl vh, Inn wf w0 w' r c vr vl vh u
    | .no x y => e = thrown x y
theorem Rdc.no {wf w0 w : World} {r c : Nat} {x y : Nat} (hx : Ext w0 w) : Rdc wf w0 r c (.no x y) (thrown x y) w := ⟨hx, rfl⟩
theorem Rdc.ok {wf w0 w : World} {r c : Nat} {u : St} {vr vl vh : Value} (hi : Inn wf w0 w r c vr vl vh u) : Rdc wf w0 r c (.ok u) (.returned (.tuple #[])) w := ⟨hi.ext, rfl, vr, vl, vh, hi⟩
/-- What clauses' readers keep to. -/
theorem reads_fine {s : St} {i : Nat} {a : Prd × List Tok} (hf : Fine s) (h : clauseR i s.p s.ts = .ok a) (hd : Nat → Bool) : Fine ⟨a.2, a.1, hd⟩ ∧ a.2.length < s.ts.length := by
  have one : ∀ {f : List UInt8 → Option Int} {s : St} {b : Int × List Tok}, Fine s → f [] = none → tk f s.ts = .ok b → Fine { s with ts := b.2 } ∧ s.ts.length = b.2.length + 1 := by
    intro f s b hf hn hb
    obtain ⟨t, ts, hs, _, _⟩ := hf.cons
    rw [hs] at hb
    cases hp : f t.text with
    | none => rw [tk_none hp] at hb; cases hb
    | some v =>
      rw [tk_some hp] at hb
      obtain rfl : (v, ts) = b := by simpa using hb
      exact ⟨hf.next hs (some_ne hn hp), by rw [hs]; simp⟩
  have fin : ∀ {f : List UInt8 → Option Int} {g : Int → Prd}, f [] = none → (∀ v, (g v).rs = s.p.rs ∧ (g v).lt = s.p.lt ∧ (g v).hd = s.p.hd) → ((tk f s.ts).bind fun b => Res.ok (g b.1, b.2)) = .ok a → Fine ⟨a.2, a.1, hd⟩ ∧ a.2.length < s.ts.length := by
    intro f g hn hg hb
    cases ht : tk f s.ts with
    | no x y => rw [ht] at hb; cases hb
    | ok b =>
      rw [ht] at hb
      obtain rfl : (g b.1, b.2) = a := by simpa [Res.bind] using hb
      obtain ⟨h1, h2⟩ := one hf hn ht
      obtain ⟨g1, g2, g3⟩ := hg b.1
      refine ⟨⟨h1.fin, h1.len, ?_⟩, by show b.2.length < _; omega⟩
      have := h1.few
      show b.2.length + (g b.1).rs.length + (g b.1).lt.length + (g b.1).hd.length ≤ 20010
      rw [g1, g2, g3]
      exact this
  have grow : ∀ {f g : List UInt8 → Option Int} {q : Int → Int → Prd}, f [] = none → g [] = none → (∀ u v, (q u v).rs.length + (q u v).lt.length + (q u v).hd.length ≤ s.p.rs.length + s.p.lt.length + s.p.hd.length + 1) → ((tk f s.ts).bind fun b => (tk g b.2).bind fun d => Res.ok (q b.1 d.1, d.2)) = .ok a → Fine ⟨a.2, a.1, hd⟩ ∧ a.2.length < s.ts.length := by
    intro f g q hn1 hn2 hq hb
    cases ht : tk f s.ts with
    | no x y => rw [ht] at hb; cases hb
    | ok b =>
      rw [ht] at hb
      obtain ⟨h1, h2⟩ := one hf hn1 ht
      have hb2 : ((tk g b.2).bind fun d => Res.ok (q b.1 d.1, d.2)) = .ok a := hb
      cases ht2 : tk g b.2 with
      | no x y => rw [ht2] at hb2; cases hb2
      | ok d =>
        rw [ht2] at hb2
        obtain rfl : (q b.1 d.1, d.2) = a := by simpa [Res.bind] using hb2
        obtain ⟨h3, h4⟩ := one h1 hn2 ht2
        have e4 : b.2.length = d.2.length + 1 := h4
        refine ⟨⟨h3.fin, h3.len, ?_⟩, by show d.2.length < _; omega⟩
        have := hf.few
        have := hq b.1 d.1
        show d.2.length + (q b.1 d.1).rs.length + (q b.1 d.1).lt.length + (q b.1 d.1).hd.length ≤ 20010
        omega
  match i, h with
  | 0, h => exact fin (g := fun v => { s.p with cn := v }) (by decide) (fun v => ⟨rfl, rfl, rfl⟩) h
  | 1, h => exact fin (g := fun v => { s.p with rd := v }) (by decide) (fun v => ⟨rfl, rfl, rfl⟩) h
  | 2, h => exact fin (g := fun v => { s.p with kd := v }) (by decide) (fun v => ⟨rfl, rfl, rfl⟩) h
  | 3, h => exact fin (g := fun v => { s.p with ev := v }) num_nil (fun v => ⟨rfl, rfl, rfl⟩) h
  | 4, h => exact fin (g := fun v => { s.p with tm := v }) num_nil (fun v => ⟨rfl, rfl, rfl⟩) h
  | 5, h => exact fin (g := fun v => { s.p with gr := v }) num_nil (fun v => ⟨rfl, rfl, rfl⟩) h
  | 6, h => exact fin (g := fun v => { s.p with rt := v }) rate_nil (fun v => ⟨rfl, rfl, rfl⟩) h
  | 7, h => exact fin (g := fun v => { s.p with pn := v }) rate_nil (fun v => ⟨rfl, rfl, rfl⟩) h
  | 8, h => exact grow (q := fun u v => { s.p with rs := s.p.rs ++ [(u, v)] }) num_nil rate_nil (fun u v => by simp; omega) h
  | 9, h => exact grow (q := fun u v => { s.p with lt := s.p.lt ++ [(u, v)] }) num_nil mon_nil (fun u v => by simp; omega) h
  | 10, h => exact fin (g := fun v => { s.p with cp := v }) mon_nil (fun v => ⟨rfl, rfl, rfl⟩) h
  | 11, h =>
    have hb : ((tk dayO s.ts).bind fun b => Res.ok ({ s.p with hd := s.p.hd ++ [b.1] }, b.2)) = .ok a := h
    cases ht : tk dayO s.ts with
    | no x y => rw [ht] at hb; cases hb
    | ok b =>
      rw [ht] at hb
      obtain rfl : ({ s.p with hd := s.p.hd ++ [b.1] }, b.2) = a := by simpa [Res.bind] using hb
      obtain ⟨h1, h2⟩ := one hf day_nil ht
      refine ⟨⟨h1.fin, h1.len, ?_⟩, by show b.2.length < _; omega⟩
      have := hf.few
      show b.2.length + s.p.rs.length + s.p.lt.length + (s.p.hd ++ [b.1]).length ≤ 20010
      simp only [List.length_append, List.length_cons, List.length_nil]
      omega
  | 12, h =>
    have hb : ((ordF 4 oOrder s.ts).bind fun b => Res.ok (ordP s.p b.1, b.2)) = .ok a := by rw [← order_ord]; exact h
    have all : ∀ (n : Nat) (o : Opts) (u : St) (b : List Int × List Tok), Fine u → (∀ x ∈ o, x.1 ≠ []) → ordF n o u.ts = .ok b → Fine { u with ts := b.2 } ∧ u.ts.length = b.2.length + n := by
      intro n
      induction n with
      | zero =>
        intro o u b hu _ hb
        obtain rfl : ([], u.ts) = b := by simpa [ordF] using hb
        exact ⟨hu, rfl⟩
      | succ n ih =>
        intro o u b hu ho hb
        simp only [ordF] at hb
        cases ht : tk (pick o) u.ts with
        | no x y => rw [ht] at hb; cases hb
        | ok d =>
          rw [ht] at hb
          obtain ⟨h1, h2⟩ := one hu (pick_nil ho) ht
          have hb2 : ((ordF n (lessO o d.1) d.2).bind fun b => Res.ok (d.1 :: b.1, b.2)) = .ok b := hb
          cases ht2 : ordF n (lessO o d.1) d.2 with
          | no x y => rw [ht2] at hb2; cases hb2
          | ok f =>
            rw [ht2] at hb2
            obtain rfl : (d.1 :: f.1, f.2) = b := by simpa [Res.bind] using hb2
            obtain ⟨h3, h4⟩ := ih (lessO o d.1) { u with ts := d.2 } f h1 (wrd_less ho) ht2
            have e4 : d.2.length = f.2.length + n := h4
            exact ⟨h3, by show u.ts.length = f.2.length + (n + 1); omega⟩
    cases ht : ordF 4 oOrder s.ts with
    | no x y => rw [ht] at hb; cases hb
    | ok b =>
      rw [ht] at hb
      obtain rfl : (ordP s.p b.1, b.2) = a := by simpa [Res.bind] using hb
      obtain ⟨h1, h2⟩ := all 4 oOrder s b hf (by decide) ht
      exact ⟨⟨h1.fin, h1.len, h1.few⟩, by show b.2.length < _; omega⟩
  | 13, h => exact fin (g := fun v => { s.p with ov := v }) (by decide) (fun v => ⟨rfl, rfl, rfl⟩) h
  | 14, h => exact fin (g := fun v => { s.p with rl := v }) (by decide) (fun v => ⟨rfl, rfl, rfl⟩) h
  | i + 15, h => cases h
theorem clause_15 (wf w0 w : World) (r c : Nat) (vr vl vh : Value) (s : St) (t : Tok) (he0 : Hid (Env w0)) (h : Inn wf w0 w r c vr vl vh s) (hi : which t.text = 15) :
    Calls Tryz.prog 103 #[.pointer (some ⟨r, 0, none⟩), tokV t] w fun e w' => Rdc wf w0 r c (clR t s) e w' := by
  have hX : clR t s = .no 7 t.at_ := by unfold clR; rw [hi]; rfl
  rw [hX]
  clear hX
  have hmf := L7.make_func
  obtain ⟨W0, b, hW, hb, hx0, b0, b1, b2⟩ := box_tok w t 93
  replace h := show Hid _ from h.on hx0
  have c1 := (h.out.cell 1 (.slice (some ⟨c, 0, none⟩) 15 15) (fun _ => rfl)).1
  have hcl := show Hid _ from Cll.of h.out.cls
  clear hx0
  unfold tokV
  go_enter Tryz.func103, Tryz.ntmps103
  go_wp2_with fail
  refine (idxC_c c b s.had t.text _ hcl.out b2).mono ?_
  rintro e w1 ⟨he, hx⟩
  rw [hi] at he
  replace h := show Hid _ from h.out.on hx
  replace b0 := hx.cell_of b0
  replace b1 := hx.cell_of b1
  replace b2 := hx.cell_of b2
  clear hx c1 hcl hW hb
  obtain rfl : e = .returned (.int .i64 (-1)) := he
  clear hi
  go_wp2_with fail
  refine (need_no t _).mono ?_
  rintro e w2 ⟨rfl, hx⟩
  replace h := show Hid _ from h.out.on hx
  clear hx b0 b1 b2
  unfold thrown
  go_wp2
  exact ⟨rfl, Rdc.no h.out.ext⟩
set_option maxRecDepth 100000 in
set_option maxHeartbeats 4000000 in
theorem clause_t (wf w0 w : World) (r c : Nat) (vr vl vh : Value) (s : St) (t : Tok) (hf : Fine s) (he0 : Hid (Env w0)) (h : Inn wf w0 w r c vr vl vh s) (i : Nat) (hi15 : i < 15) (hi : which t.text = i) (hof : often i = false) (hh : s.had i = true) :
    Calls Tryz.prog 103 #[.pointer (some ⟨r, 0, none⟩), tokV t] w fun e w' => Rdc wf w0 r c (clR t s) e w' := by
  have hX : clR t s = .no 7 t.at_ := by unfold clR; rw [hi, if_pos hi15, hof, hh]; rfl
  rw [hX]
  clear hX
  have hmf := L7.make_func
  obtain ⟨W0, b, hW, hb, hx0, b0, b1, b2⟩ := box_tok w t 93
  replace h := show Hid _ from h.on hx0
  have c1 := (h.out.cell 1 (.slice (some ⟨c, 0, none⟩) 15 15) (fun _ => rfl)).1
  have hcl := show Hid _ from Cll.of h.out.cls
  replace hf := show Hid _ from hf
  have hiI : (i : Int) < 15 := by omega
  have hi0 : (0 : Int) ≤ (i : Int) := by omega
  clear hx0
  unfold tokV
  go_enter Tryz.func103, Tryz.ntmps103
  go_wp2_with fail
  refine (idxC_c c b s.had t.text _ hcl.out b2).mono ?_
  rintro e w1 ⟨he, hx⟩
  rw [hi, if_pos hi15] at he
  replace h := show Hid _ from h.out.on hx
  replace b0 := hx.cell_of b0
  replace b1 := hx.cell_of b1
  replace b2 := hx.cell_of b2
  clear hx c1 hcl hW hb
  obtain rfl : e = .returned (.int .i64 (i : Int)) := he
  go_wp2_with fail
  refine (need_ok t _).mono ?_
  rintro e w2 ⟨rfl, hx⟩
  replace h := show Hid _ from h.out.on hx
  replace b0 := hx.cell_of b0
  replace b1 := hx.cell_of b1
  replace b2 := hx.cell_of b2
  clear hx
  have c1 := (h.out.cell 1 (.slice (some ⟨c, 0, none⟩) 15 15) (fun _ => rfl)).1
  obtain ⟨fn', a', b', _, _, d2, _, d4⟩ := (Cll.of h.out.cls).on i hi15
  rw [hof] at d2
  rw [hh] at d4
  clear hi hmf
  go_upto_region 4 with fail
  refine wp_region_tail 12 (by kernel_rfl) (by kernel_rfl) ?_
  intro w3 hx
  replace h := show Hid _ from h.out.on hx
  replace b0 := hx.cell_of b0
  replace b1 := hx.cell_of b1
  replace b2 := hx.cell_of b2
  replace d2 := hx.cell_of d2
  replace d4 := hx.cell_of d4
  replace c1 := hx.cell_of c1
  clear hx
  simp only [List.take_succ_cons, List.take_zero, List.drop_succ_cons, List.drop_zero]
  repeat still_step
  refine wpStill_nil ?_
  go_wp2_with fail
  refine (need_no t _).mono ?_
  rintro e w4 ⟨rfl, hx⟩
  replace h := show Hid _ from h.out.on hx
  clear hx b0 b1 b2 c1 d2 d4
  unfold thrown
  go_wp2
  exact ⟨rfl, Rdc.no h.out.ext⟩
set_option maxRecDepth 100000 in
set_option maxHeartbeats 8000000 in
theorem clause_f (wf w0 w : World) (r c : Nat) (vr vl vh : Value) (s : St) (t : Tok) (hf : Fine s) (he0 : Hid (Env w0)) (h : Inn wf w0 w r c vr vl vh s) (i : Nat) (hi15 : i < 15) (hi : which t.text = i) (fn : Nat) (hfn : (often i = true ∧ (fn = 93 ∨ fn = 94 ∨ fn = 96)) ∨ (often i = false ∧ s.had i = false ∧ (fn = 85 ∨ fn = 86 ∨ fn = 87 ∨ fn = 88 ∨ fn = 89 ∨ fn = 90 ∨ fn = 91 ∨ fn = 92 ∨ fn = 95 ∨ fn = 97 ∨ fn = 98 ∨ fn = 99))) (h3 : ∀ h : Nat → Bool, (ccells r h)[i * 5 + 3]? = some (.func (.func fn) #[.pointer (some ⟨r, 0, none⟩)] #[]))
    (hC : ∀ W : World, Inn wf w0 W r c vr vl vh { s with had := seen s.had i } → Calls Tryz.prog fn #[.pointer (some ⟨r, 0, none⟩)] W fun e w' => Rds wf w0 r c (seen s.had i) (clauseR i s.p s.ts) e w') :
    Calls Tryz.prog 103 #[.pointer (some ⟨r, 0, none⟩), tokV t] w fun e w' => Rdc wf w0 r c (clR t s) e w' := by
  have hX : clR t s = (clauseR i s.p s.ts).bind fun a => (xp [59] a.2).bind fun ts => .ok ⟨ts, a.1, seen s.had i⟩ := by
    unfold clR
    rw [hi, if_pos hi15]
    rcases hfn with ⟨ho, _⟩ | ⟨ho, hh, _⟩
    · rw [ho]; rfl
    · rw [ho, hh]; rfl
  rw [hX]
  clear hX
  replace hC := show Hid _ from hC
  replace h3 := show Hid _ from h3
  rcases hfn with ⟨hof, hfn⟩ | ⟨hof, hh, hfn⟩
  all_goals
    have hmf := L7.make_func
    obtain ⟨W0, b, hW, hb, hx0, b0, b1, b2⟩ := box_tok w t 93
    replace h := show Hid _ from h.on hx0
    have c1 := (h.out.cell 1 (.slice (some ⟨c, 0, none⟩) 15 15) (fun _ => rfl)).1
    have hcl := show Hid _ from Cll.of h.out.cls
    replace hf := show Hid _ from hf
    have hiI : (i : Int) < 15 := by omega
    have hi0 : (0 : Int) ≤ (i : Int) := by omega
    clear hx0
    unfold tokV
    go_enter Tryz.func103, Tryz.ntmps103
    go_wp2_with fail
    refine (idxC_c c b s.had t.text _ hcl.out b2).mono ?_
    rintro e w1 ⟨he, hx⟩
    rw [hi, if_pos hi15] at he
    replace h := show Hid _ from h.out.on hx
    replace b0 := hx.cell_of b0
    replace b1 := hx.cell_of b1
    replace b2 := hx.cell_of b2
    clear hx c1 hcl hW hb
    obtain rfl : e = .returned (.int .i64 (i : Int)) := he
    go_wp2_with fail
    refine (need_ok t _).mono ?_
    rintro e w2 ⟨rfl, hx⟩
    replace h := show Hid _ from h.out.on hx
    replace b0 := hx.cell_of b0
    replace b1 := hx.cell_of b1
    replace b2 := hx.cell_of b2
    clear hx
    have c1 := (h.out.cell 1 (.slice (some ⟨c, 0, none⟩) 15 15) (fun _ => rfl)).1
    obtain ⟨fn', a', b', _, _, d2, _, d4⟩ := (Cll.of h.out.cls).on i hi15
    rw [hof] at d2
    try rw [hh] at d4
    try clear hh
    clear hi hmf
    go_upto_region 4 with fail
    refine wp_region_tail 12 (by kernel_rfl) (by kernel_rfl) ?_
    intro w3 hx
    replace h := show Hid _ from h.out.on hx
    replace b0 := hx.cell_of b0
    replace b1 := hx.cell_of b1
    replace b2 := hx.cell_of b2
    replace d2 := hx.cell_of d2
    replace d4 := hx.cell_of d4
    replace c1 := hx.cell_of c1
    clear hx
    simp only [List.take_succ_cons, List.take_zero, List.drop_succ_cons, List.drop_zero]
    repeat still_step
    refine wpStill_nil ?_
    go_wp2_with fail
    refine (need_ok t _).mono ?_
    rintro e w4 ⟨rfl, hx⟩
    replace h := show Hid _ from h.out.on hx
    clear hx b0 b1 b2 c1 d2 d4
    have d3 := (cell_of_row _ c (i * 5 + 3) _ _ _ h.out.cls).trans (h3.out _)
    have d4 : w4.cell? ⟨c, i * 5 + 4, none⟩ = some (.bool (s.had i)) := by obtain ⟨_, _, _, _, _, _, _, d4⟩ := (Cll.of h.out.cls).on i hi15; exact d4
    have z4 := frozen_of_row _ c (i * 5 + 4) _ _ h.out.cls
    replace h := show Hid (Inn wf w0 (w4.setCell ⟨c, i * 5 + 4, none⟩ (.bool true)) r c vr vl vh { s with had := seen s.had i }) from by have := h.out.tell i hi15; rw [Nat.mul_comm] at this; exact this
    have hf2 : Hid (Fine { s with had := seen s.had i }) := ⟨hf.out.fin, hf.out.len, hf.out.few⟩
    go_upto_region 6 with fail
    repeat' rcases hfn with rfl | hfn
  all_goals try subst hfn
  all_goals
    go_wp2_with fail
    refine (hC.out _ h.out).mono ?_
    rintro e w5 hR
    clear h d3 d4 z4
    cases hr : clauseR i s.p s.ts with
    | no x y =>
      rw [hr] at hR
      obtain ⟨hx, rfl⟩ : Ext w0 w5 ∧ e = thrown x y := hR
      replace hx := show Hid _ from hx
      replace hr := show Hid _ from hr
      unfold thrown
      go_wp2
      rw [hr.out]
      exact ⟨rfl, Rdc.no hx.out⟩
    | ok a =>
      rw [hr] at hR
      obtain ⟨_, rfl, vr', vl', vh', h⟩ : Ext w0 w5 ∧ e = .returned (.tuple #[]) ∧ ∃ vr vl vh, Inn wf w0 w5 r c vr vl vh ⟨a.2, a.1, seen s.had i⟩ := hR
      obtain ⟨t6, ts6, hs6, ht6, hl6⟩ := (reads_fine hf.out hr (seen s.had i)).1.cons
      have hs6' : a.2 = t6 :: ts6 := hs6
      replace h := show Hid _ from h
      replace hs6 := show Hid _ from hs6
      replace hs6' := show Hid _ from hs6'
      replace hr := show Hid _ from hr
      by_cases hq : t6.text = [59]
      · replace hq := show Hid _ from hq
        go_wp2_with fail
        refine (expect_c wf w0 _ r c vr' vl' vh' ⟨a.2, a.1, seen s.had i⟩ t6 ts6 [59] hs6.out (by omega) h.out).mono ?_
        rintro e w7 ⟨he, h7, hx⟩
        rw [if_pos hq.out] at he
        subst he
        replace h7 := show Hid _ from h7
        clear hx
        go_wp2
        go_end0
        have hY : ((clauseR i s.p s.ts).bind fun a => (xp [59] a.2).bind fun ts => .ok ⟨ts, a.1, seen s.had i⟩) = Res.ok (⟨ts6, a.1, seen s.had i⟩ : St) := by
          rw [hr.out]; show (xp [59] a.2).bind _ = _; rw [hs6'.out]; show (if t6.text = [59] then Res.ok ts6 else Res.no 7 t6.at_).bind _ = _; rw [if_pos hq.out]; rfl
        rw [hY]
        exact Rdc.ok h7.out
      · replace hq := show Hid _ from hq
        go_wp2_with fail
        refine (expect_c wf w0 _ r c vr' vl' vh' ⟨a.2, a.1, seen s.had i⟩ t6 ts6 [59] hs6.out (by omega) h.out).mono ?_
        rintro e w7 ⟨he, h7, hx⟩
        rw [if_neg hq.out] at he
        subst he
        replace h7 := show Hid _ from h7
        clear hx
        unfold thrown
        go_wp2
        have hY : ((clauseR i s.p s.ts).bind fun a => (xp [59] a.2).bind fun ts => .ok ⟨ts, a.1, seen s.had i⟩) = (Res.no 7 t6.at_ : Res St) := by
          rw [hr.out]; show (xp [59] a.2).bind _ = _; rw [hs6'.out]; show (if t6.text = [59] then Res.ok ts6 else Res.no 7 t6.at_).bind _ = _; rw [if_neg hq.out]; rfl
        rw [hY]
        exact ⟨rfl, Rdc.no h7.out.ext⟩
end Go.Proofs.YtbnpaeejlfaboaaGreatDoor

namespace Go.Proofs.YtbnpaeejlfaboaaGreatDoor
open Go.RowKit Go.Lib
set_option linter.unusedVariables false
theorem clause_c (wf w0 w : World) (r c : Nat) (vr vl vh : Value) (s : St) (t : Tok) (hf : Fine s) (he0 : Hid (Env w0)) (h : Inn wf w0 w r c vr vl vh s) :
    Calls Tryz.prog 103 #[.pointer (some ⟨r, 0, none⟩), tokV t] w fun e w' => Rdc wf w0 r c (clR t s) e w' := by
  obtain ⟨i, hi⟩ : ∃ i, which t.text = i := ⟨_, rfl⟩
  have hle := which_lt t.text
  rw [hi] at hle
  rcases Nat.lt_or_ge i 15 with h15 | h15
  · by_cases ht : often i = false ∧ s.had i = true
    · exact clause_t wf w0 w r c vr vl vh s t hf he0 h i h15 hi ht.1 ht.2
    have hh : often i = false → s.had i = false := fun k => by cases hs : s.had i with | false => rfl | true => exact absurd ⟨k, hs⟩ ht
    match i, h15, hi, hh with
    | 0, h15, hi, hh =>
      refine clause_f wf w0 w r c vr vl vh s t hf he0 h 0 h15 hi 85 (Or.inr ⟨rfl, hh rfl, by simp⟩) (fun _ => rfl) (fun W hW => ?_)
      obtain ⟨t1, ts1, hs1, ht1, hl1⟩ := (show Fine { s with had := seen s.had 0 } from ⟨hf.fin, hf.len, hf.few⟩).cons
      exact count_c wf w0 W r c vr vl vh _ t1 ts1 hs1 (by omega) hW
    | 1, h15, hi, hh =>
      refine clause_f wf w0 w r c vr vl vh s t hf he0 h 1 h15 hi 86 (Or.inr ⟨rfl, hh rfl, by simp⟩) (fun _ => rfl) (fun W hW => ?_)
      obtain ⟨t1, ts1, hs1, ht1, hl1⟩ := (show Fine { s with had := seen s.had 1 } from ⟨hf.fin, hf.len, hf.few⟩).cons
      exact round_c wf w0 W r c vr vl vh _ t1 ts1 hs1 (by omega) hW
    | 2, h15, hi, hh =>
      refine clause_f wf w0 w r c vr vl vh s t hf he0 h 2 h15 hi 87 (Or.inr ⟨rfl, hh rfl, by simp⟩) (fun _ => rfl) (fun W hW => ?_)
      obtain ⟨t1, ts1, hs1, ht1, hl1⟩ := (show Fine { s with had := seen s.had 2 } from ⟨hf.fin, hf.len, hf.few⟩).cons
      exact kind_c wf w0 W r c vr vl vh _ t1 ts1 hs1 (by omega) hW
    | 3, h15, hi, hh =>
      refine clause_f wf w0 w r c vr vl vh s t hf he0 h 3 h15 hi 88 (Or.inr ⟨rfl, hh rfl, by simp⟩) (fun _ => rfl) (fun W hW => ?_)
      obtain ⟨t1, ts1, hs1, ht1, hl1⟩ := (show Fine { s with had := seen s.had 3 } from ⟨hf.fin, hf.len, hf.few⟩).cons
      exact every_r wf w0 W r c vr vl vh _ t1 ts1 hs1 (by omega) ht1 he0 hW
    | 4, h15, hi, hh =>
      refine clause_f wf w0 w r c vr vl vh s t hf he0 h 4 h15 hi 89 (Or.inr ⟨rfl, hh rfl, by simp⟩) (fun _ => rfl) (fun W hW => ?_)
      obtain ⟨t1, ts1, hs1, ht1, hl1⟩ := (show Fine { s with had := seen s.had 4 } from ⟨hf.fin, hf.len, hf.few⟩).cons
      exact times_r wf w0 W r c vr vl vh _ t1 ts1 hs1 (by omega) ht1 he0 hW
    | 5, h15, hi, hh =>
      refine clause_f wf w0 w r c vr vl vh s t hf he0 h 5 h15 hi 90 (Or.inr ⟨rfl, hh rfl, by simp⟩) (fun _ => rfl) (fun W hW => ?_)
      obtain ⟨t1, ts1, hs1, ht1, hl1⟩ := (show Fine { s with had := seen s.had 5 } from ⟨hf.fin, hf.len, hf.few⟩).cons
      exact grace_r wf w0 W r c vr vl vh _ t1 ts1 hs1 (by omega) ht1 he0 hW
    | 6, h15, hi, hh =>
      refine clause_f wf w0 w r c vr vl vh s t hf he0 h 6 h15 hi 91 (Or.inr ⟨rfl, hh rfl, by simp⟩) (fun _ => rfl) (fun W hW => ?_)
      obtain ⟨t1, ts1, hs1, ht1, hl1⟩ := (show Fine { s with had := seen s.had 6 } from ⟨hf.fin, hf.len, hf.few⟩).cons
      exact rate_r wf w0 W r c vr vl vh _ t1 ts1 hs1 (by omega) ht1 he0 hW
    | 7, h15, hi, hh =>
      refine clause_f wf w0 w r c vr vl vh s t hf he0 h 7 h15 hi 92 (Or.inr ⟨rfl, hh rfl, by simp⟩) (fun _ => rfl) (fun W hW => ?_)
      obtain ⟨t1, ts1, hs1, ht1, hl1⟩ := (show Fine { s with had := seen s.had 7 } from ⟨hf.fin, hf.len, hf.few⟩).cons
      exact penalty_r wf w0 W r c vr vl vh _ t1 ts1 hs1 (by omega) ht1 he0 hW
    | 8, h15, hi, hh =>
      refine clause_f wf w0 w r c vr vl vh s t hf he0 h 8 h15 hi 93 (Or.inl ⟨rfl, by simp⟩) (fun _ => rfl) (fun W hW => ?_)
      exact reset_c wf w0 W r c vr vl vh { s with had := seen s.had 8 } ⟨hf.fin, hf.len, hf.few⟩ he0 hW
    | 9, h15, hi, hh =>
      refine clause_f wf w0 w r c vr vl vh s t hf he0 h 9 h15 hi 94 (Or.inl ⟨rfl, by simp⟩) (fun _ => rfl) (fun W hW => ?_)
      exact late_c wf w0 W r c vr vl vh { s with had := seen s.had 9 } ⟨hf.fin, hf.len, hf.few⟩ he0 hW
    | 10, h15, hi, hh =>
      refine clause_f wf w0 w r c vr vl vh s t hf he0 h 10 h15 hi 95 (Or.inr ⟨rfl, hh rfl, by simp⟩) (fun _ => rfl) (fun W hW => ?_)
      obtain ⟨t1, ts1, hs1, ht1, hl1⟩ := (show Fine { s with had := seen s.had 10 } from ⟨hf.fin, hf.len, hf.few⟩).cons
      exact cap_r wf w0 W r c vr vl vh _ t1 ts1 hs1 (by omega) ht1 he0 hW
    | 11, h15, hi, hh =>
      refine clause_f wf w0 w r c vr vl vh s t hf he0 h 11 h15 hi 96 (Or.inl ⟨rfl, by simp⟩) (fun _ => rfl) (fun W hW => ?_)
      obtain ⟨t1, ts1, hs1, ht1, hl1⟩ := (show Fine { s with had := seen s.had 11 } from ⟨hf.fin, hf.len, hf.few⟩).cons
      have hfew := hf.few
      exact holiday_c wf w0 W r c vr vl vh _ t1 ts1 hs1 (by omega) ht1 (by have := congrArg List.length hs1; simp only [List.length_cons] at this; show s.p.hd.length ≤ 20010; omega) he0 hW
    | 12, h15, hi, hh =>
      refine clause_f wf w0 w r c vr vl vh s t hf he0 h 12 h15 hi 97 (Or.inr ⟨rfl, hh rfl, by simp⟩) (fun _ => rfl) (fun W hW => ?_)
      exact order_c wf w0 W r c vr vl vh { s with had := seen s.had 12 } ⟨hf.fin, hf.len, hf.few⟩ hW
    | 13, h15, hi, hh =>
      refine clause_f wf w0 w r c vr vl vh s t hf he0 h 13 h15 hi 98 (Or.inr ⟨rfl, hh rfl, by simp⟩) (fun _ => rfl) (fun W hW => ?_)
      obtain ⟨t1, ts1, hs1, ht1, hl1⟩ := (show Fine { s with had := seen s.had 13 } from ⟨hf.fin, hf.len, hf.few⟩).cons
      exact over_c wf w0 W r c vr vl vh _ t1 ts1 hs1 (by omega) hW
    | 14, h15, hi, hh =>
      refine clause_f wf w0 w r c vr vl vh s t hf he0 h 14 h15 hi 99 (Or.inr ⟨rfl, hh rfl, by simp⟩) (fun _ => rfl) (fun W hW => ?_)
      obtain ⟨t1, ts1, hs1, ht1, hl1⟩ := (show Fine { s with had := seen s.had 14 } from ⟨hf.fin, hf.len, hf.few⟩).cons
      exact roll_c wf w0 W r c vr vl vh _ t1 ts1 hs1 (by omega) hW
    | i + 15, h15, _, _ => omega
  · obtain rfl : i = 15 := by omega
    exact clause_15 wf w0 w r c vr vl vh s t he0 h hi
theorem clR_fine {s u : St} {t : Tok} (hf : Fine s) (h : clR t s = .ok u) : Fine u ∧ u.ts.length < s.ts.length := by
  unfold clR at h
  split at h
  · split at h
    · cases hr : clauseR (which t.text) s.p s.ts with
      | no x y => rw [hr] at h; cases h
      | ok a =>
        rw [hr] at h
        obtain ⟨h1, h2⟩ := reads_fine hf hr (seen s.had (which t.text))
        obtain ⟨t6, ts6, hs6, _, _⟩ := h1.cons
        have hs6' : a.2 = t6 :: ts6 := hs6
        have h3 : (xp [59] a.2).bind (fun ts => Res.ok (⟨ts, a.1, seen s.had (which t.text)⟩ : St)) = .ok u := h
        rw [hs6'] at h3
        by_cases hq : t6.text = [59]
        · have h4 : (Res.ok (⟨ts6, a.1, seen s.had (which t.text)⟩ : St)) = .ok u := by simpa [xp, hq, Res.bind] using h3
          obtain rfl := Res.ok.inj h4
          refine ⟨h1.next hs6 (by rw [hq]; simp), ?_⟩
          rw [hs6'] at h2
          simp only [List.length_cons] at h2
          show ts6.length < _
          omega
        · simp [xp, hq, Res.bind] at h3
    · cases h
  · cases h
theorem grp_fine : ∀ (f d : Nat) (s u : St), Fine s → grp f d s = .ok u → Fine u ∧ u.ts.length < s.ts.length
  | 0, d, s, u, _, h => by cases h
  | f + 1, d, s, u, hf, h => by
    obtain ⟨t, ts, hs, _, _⟩ := hf.cons
    have hl : s.ts.length = ts.length + 1 := by rw [hs]; rfl
    rw [grp, hs] at h
    simp only [] at h
    split at h
    · rename_i hq
      obtain rfl := Res.ok.inj h
      exact ⟨hf.next hs (by rw [hq]; simp), by show ts.length < _; omega⟩
    · split at h
      · rename_i hq
        have hf1 := hf.next hs (by rw [hq]; simp)
        split at h
        · cases hg : grp f (d + 1) { s with ts := ts } with
          | no x y => rw [hg] at h; cases h
          | ok v =>
            rw [hg] at h
            obtain ⟨h1, h2⟩ := grp_fine f (d + 1) _ v hf1 hg
            obtain ⟨h3, h4⟩ := grp_fine f d v u h1 h
            have : v.ts.length < ts.length := h2
            exact ⟨h3, by omega⟩
        · cases h
      · rename_i hq1 hq2
        cases hc : clR t { s with ts := ts } with
        | no x y => rw [hc] at h; cases h
        | ok v =>
          rw [hc] at h
          by_cases hn : t.text = []
          · have : clR t { s with ts := ts } = .no 7 t.at_ := by unfold clR; rw [hn]; rfl
            rw [this] at hc
            cases hc
          · obtain ⟨h1, h2⟩ := clR_fine (hf.next hs hn) hc
            obtain ⟨h3, h4⟩ := grp_fine f d v u h1 h
            have : v.ts.length < ts.length := h2
            exact ⟨h3, by omega⟩
theorem grp_fuel : ∀ (f g d : Nat) (s : St), Fine s → s.ts.length < f → s.ts.length < g → grp f d s = grp g d s
  | 0, _, _, s, _, h, _ => by omega
  | _, 0, _, s, _, _, h => by omega
  | f + 1, g + 1, d, s, hf, h1, h2 => by
    obtain ⟨t, ts, hs, _, _⟩ := hf.cons
    have hl : s.ts.length = ts.length + 1 := by rw [hs]; rfl
    rw [grp, grp, hs]
    simp only []
    split
    · rfl
    · split
      · rename_i hq
        have hf1 := hf.next hs (by rw [hq]; simp)
        split
        · rw [grp_fuel f g (d + 1) { s with ts := ts } hf1 (by show ts.length < f; omega) (by show ts.length < g; omega)]
          cases hg : grp g (d + 1) { s with ts := ts } with
          | no x y => rfl
          | ok v =>
            obtain ⟨h3, h4⟩ := grp_fine g (d + 1) _ v hf1 hg
            have : v.ts.length < ts.length := h4
            exact grp_fuel f g d v h3 (by omega) (by omega)
        · rfl
      · cases hc : clR t { s with ts := ts } with
        | no x y => rfl
        | ok v =>
          by_cases hn : t.text = []
          · have : clR t { s with ts := ts } = .no 7 t.at_ := by unfold clR; rw [hn]; rfl
            rw [this] at hc
            cases hc
          · obtain ⟨h3, h4⟩ := clR_fine (hf.next hs hn) hc
            have : v.ts.length < ts.length := h4
            exact grp_fuel f g d v h3 (by omega) (by omega)
/-- A group, from its beginning. -/
def grpR (d : Nat) (s : St) : Res St := grp (s.ts.length + 1) d s
theorem grpR_shut {d : Nat} {s : St} {t : Tok} {ts : List Tok} (hs : s.ts = t :: ts) (hq : t.text = [125]) : grpR d s = .ok { s with ts := ts } := by
  unfold grpR
  rw [grp, hs]
  simp only [if_pos hq]
theorem grpR_deep {d : Nat} {s : St} {t : Tok} {ts : List Tok} (hs : s.ts = t :: ts) (hq : t.text = [123]) (hd : ¬ d < 32) : grpR d s = .no 8 t.at_ := by
  unfold grpR
  rw [grp, hs]
  simp only [hq, if_neg hd]
  simp
theorem grpR_open {d : Nat} {s : St} {t : Tok} {ts : List Tok} (hf : Fine s) (hs : s.ts = t :: ts) (hq : t.text = [123]) (hd : d < 32) : grpR d s = (grpR (d + 1) { s with ts := ts }).bind fun u => grpR d u := by
  have hl : s.ts.length = ts.length + 1 := by rw [hs]; rfl
  have hf1 := hf.next hs (by rw [hq]; simp)
  unfold grpR
  rw [grp, hs]
  simp only [hq, if_pos hd]
  rw [if_neg (by decide), if_pos trivial]
  rw [grp_fuel (t :: ts).length (ts.length + 1) (d + 1) { s with ts := ts } hf1 (by simp) (by simp)]
  cases hg : grp (ts.length + 1) (d + 1) { s with ts := ts } with
  | no x y => rfl
  | ok v =>
    obtain ⟨h3, h4⟩ := grp_fine _ _ _ v hf1 hg
    have : v.ts.length < ts.length := h4
    exact grp_fuel _ _ d v h3 (by simp; omega) (by omega)
theorem grpR_else {d : Nat} {s : St} {t : Tok} {ts : List Tok} (hf : Fine s) (hs : s.ts = t :: ts) (h1 : ¬ t.text = [125]) (h2 : ¬ t.text = [123]) : grpR d s = (clR t { s with ts := ts }).bind fun u => grpR d u := by
  have hl : s.ts.length = ts.length + 1 := by rw [hs]; rfl
  unfold grpR
  rw [grp, hs]
  simp only [if_neg h1, if_neg h2]
  cases hc : clR t { s with ts := ts } with
  | no x y => rfl
  | ok v =>
    by_cases hn : t.text = []
    · have : clR t { s with ts := ts } = .no 7 t.at_ := by unfold clR; rw [hn]; rfl
      rw [this] at hc
      cases hc
    · obtain ⟨h3, h4⟩ := clR_fine (hf.next hs hn) hc
      have : v.ts.length < ts.length := h4
      exact grp_fuel _ _ d v h3 (by simp; omega) (by omega)
/-- How many signs are left. -/
def tlen (w : World) (r : Nat) : Nat :=
  match w.cell? ⟨r, 0, none⟩ with
  | some (.slice _ n _) => n
  | _ => 0
theorem Inn.tlen {wf w0 w : World} {r c : Nat} {vr vl vh : Value} {s : St} (h : Inn wf w0 w r c vr vl vh s) : Go.Proofs.YtbnpaeejlfaboaaGreatDoor.tlen w r = s.ts.length := by
  obtain ⟨vt, hr, ao, cp, rfl, _⟩ := h.row
  unfold Go.Proofs.YtbnpaeejlfaboaaGreatDoor.tlen
  rw [(cell_of_row w r 0 _ _ _ hr).trans (show _ = some (.slice ao s.ts.length cp) from rfl)]
/-- How far a group has been read. -/
structure Grp (wf w0 wr : World) (r c d : Nat) (s s' : St) : Prop where
  inn : ∃ vr vl vh, Inn wf w0 wr r c vr vl vh s'
  fine : Fine s'
  ok : grpR d s = grpR d s'
  le : s'.ts.length ≤ s.ts.length
set_option maxRecDepth 100000 in
set_option maxHeartbeats 1000000 in
theorem group_c (wf w0 : World) (r c : Nat) (he0 : Hid (Env w0)) : ∀ (n d : Nat) (D : Int) (w : World) (vr vl vh : Value) (s : St), D = (d : Int) → s.ts.length ≤ n → d ≤ 32 → Fine s → Inn wf w0 w r c vr vl vh s →
    Calls Tryz.prog 46 #[.pointer (some ⟨r, 0, none⟩), .int .i64 D] w fun e w' => Rdc wf w0 r c (grpR d s) e w' := by
  intro n
  induction n with
  | zero =>
    intro d D w vr vl vh s _ hn _ hf h
    obtain ⟨t, ts, hs, _, _⟩ := hf.cons
    rw [hs] at hn
    simp at hn
  | succ n ih =>
    rintro d D w vr vl vh s rfl hn hd32 hf h
    have hG : Hid (Grp wf w0 w r c d s s) := ⟨⟨vr, vl, vh, h⟩, hf, rfl, Nat.le_refl _⟩
    replace ih := show Hid _ from ih
    replace hf := show Hid _ from hf
    replace h := show Hid _ from h
    replace hn := show Hid _ from hn
    clear h
    go_enter Tryz.func46, Tryz.ntmps46
    go_wp2_with fail
    go_loopw [5] (fun v wr => ∃ s' : St, Hid (Grp wf w0 wr r c d s s')) (fun _ wr => Go.Proofs.YtbnpaeejlfaboaaGreatDoor.tlen wr r)
    case atStart => exact ⟨s, hG⟩
    case round =>
      obtain ⟨s', hg⟩ := hrel
      clear hG
      obtain ⟨⟨vr, vl, vh, h⟩, hf', hok, hle⟩ := hg.out
      have htl := show Hid _ from h.tlen
      obtain ⟨t, ts, hs, ht, hl⟩ := hf'.cons
      have hlen : Hid (s'.ts.length = ts.length + 1) := by show _ = _; rw [hs]; rfl
      replace h := show Hid _ from h
      replace hf' := show Hid _ from hf'
      replace hok := show Hid _ from hok
      replace hle := show Hid _ from hle
      replace hs := show Hid _ from hs
      go_wp2_with fail
      refine (take_c wf w0 _ r c vr vl vh s' t ts hs.out (by omega) h.out).mono ?_
      rintro e w1 ⟨rfl, h1, hx⟩
      unfold tokV
      obtain ⟨W2, b, hW, hb, hx2, b0, b1, b2⟩ := box_tok w1 t 93
      replace h1 := show Hid _ from h1.on hx2
      clear hx hx2
      by_cases hq1 : t.text = [125]
      · have hqa : (t.text == [125]) = true := by simp [hq1]
        replace hq1 := show Hid _ from hq1
        go_wp2
        go_end0
        rw [hok.out, grpR_shut hs.out hq1.out]
        exact Rdc.ok h1.out
      · have hqa : (t.text == [125]) = false := by simp [hq1]
        by_cases hq2 : t.text = [123]
        · have hqb : (t.text == [123]) = true := by simp [hq2]
          by_cases hd : d < 32
          · have hdi : (d : Int) < 32 := by omega
            replace hq1 := show Hid _ from hq1
            replace hq2 := show Hid _ from hq2
            go_wp2_with fail
            refine (L7.needAt_ok _ _ _).mono ?_
            rintro e w3 ⟨rfl, rfl⟩
            go_wp2_with fail
            have hfn : Hid (Fine { s' with ts := ts }) := hf'.out.next hs.out (by rw [hq2.out]; simp)
            refine (ih.out (d + 1) _ _ vr vl vh { s' with ts := ts } (by omega) (by show ts.length ≤ n; have := hn.out; have := hle.out; have := hlen.out; omega) (by omega) hfn.out h1.out).mono ?_
            rintro e w4 hR
            clear h1
            cases hg2 : grpR (d + 1) { s' with ts := ts } with
            | no x y =>
              have hR2 : Ext w0 w4 ∧ e = thrown x y := by have := hR; unfold Rdc at this; rw [hg2] at this; exact this
              obtain ⟨hx, rfl⟩ := hR2
              replace hg2 := show Hid _ from hg2
              replace hx := show Hid _ from hx
              clear hR b0 b1 b2 hW hb
              unfold thrown
              go_wp2
              rw [hok.out, grpR_open hf'.out hs.out hq2.out hd, hg2.out]
              exact ⟨rfl, Rdc.no hx.out⟩
            | ok u =>
              have hR2 : Ext w0 w4 ∧ e = .returned (.tuple #[]) ∧ ∃ vr vl vh, Inn wf w0 w4 r c vr vl vh u := by have := hR; unfold Rdc at this; rw [hg2] at this; exact this
              obtain ⟨_, rfl, vr', vl', vh', h4⟩ := hR2
              have hfu := grp_fine _ _ _ u hfn.out hg2
              have hlu : u.ts.length < ts.length := hfu.2
              have hGu : Hid (Grp wf w0 w4 r c d s u) := ⟨⟨_, _, _, h4⟩, hfu.1, by rw [hok.out, grpR_open hf'.out hs.out hq2.out hd, hg2]; rfl, by have := hle.out; have := hlen.out; omega⟩
              have hm : Hid (Go.Proofs.YtbnpaeejlfaboaaGreatDoor.tlen w4 r < Go.Proofs.YtbnpaeejlfaboaaGreatDoor.tlen wr r) := by show _ < _; rw [h4.tlen, htl.out]; have := hlen.out; omega
              clear hR b0 b1 b2 hW hb h4 hg2 hfu hlu
              go_wp2
              go_roundw
              case rel => exact ⟨u, hGu⟩
              case measure => exact hm.out
          · have hdi : decide ((d : Int) < 32) = false := decide_eq_false (by omega)
            have hdj : decide (d < 32) = false := decide_eq_false hd
            replace hq1 := show Hid _ from hq1
            replace hq2 := show Hid _ from hq2
            go_wp2_with fail
            refine (L7.needAt_no _ _ _).mono ?_
            rintro e w3 ⟨rfl, rfl⟩
            go_wp2
            rw [hok.out, grpR_deep hs.out hq2.out hd]
            exact ⟨rfl, Rdc.no h1.out.ext⟩
        · have hqb : (t.text == [123]) = false := by simp [hq2]
          by_cases hnil : t.text = []
          · have hX : grpR d s = .no 7 t.at_ := by
              rw [hok.out, grpR_else hf'.out hs.out hq1 hq2]
              have : clR t { s' with ts := ts } = .no 7 t.at_ := by unfold clR; rw [hnil]; rfl
              rw [this]; rfl
            have hw15 : which t.text = 15 := by rw [hnil]; rfl
            replace hq1 := show Hid _ from hq1
            replace hq2 := show Hid _ from hq2
            replace hnil := show Hid _ from hnil
            replace hX := show Hid _ from hX
            replace hw15 := show Hid _ from hw15
            go_wp2_with fail
            refine (clause_15 wf w0 _ r c vr vl vh { s' with ts := ts } t he0 h1.out hw15.out).mono ?_
            rintro e w4 hR
            have hR2 : Ext w0 w4 ∧ e = thrown 7 t.at_ := by
              have := hR
              unfold Rdc at this
              have hc : clR t { s' with ts := ts } = .no 7 t.at_ := by unfold clR; rw [hnil.out]; rfl
              rw [hc] at this
              exact this
            obtain ⟨hx, rfl⟩ := hR2
            replace hx := show Hid _ from hx
            clear hR b0 b1 b2 hW hb h1
            unfold thrown
            go_wp2
            rw [hX.out]
            exact ⟨rfl, Rdc.no hx.out⟩
          · have hfn : Hid (Fine { s' with ts := ts }) := hf'.out.next hs.out hnil
            replace hq1 := show Hid _ from hq1
            replace hq2 := show Hid _ from hq2
            replace hnil := show Hid _ from hnil
            go_wp2_with fail
            refine (clause_c wf w0 _ r c vr vl vh { s' with ts := ts } t hfn.out he0 h1.out).mono ?_
            rintro e w4 hR
            clear h1
            cases hg2 : clR t { s' with ts := ts } with
            | no x y =>
              have hR2 : Ext w0 w4 ∧ e = thrown x y := by have := hR; unfold Rdc at this; rw [hg2] at this; exact this
              obtain ⟨hx, rfl⟩ := hR2
              replace hg2 := show Hid _ from hg2
              replace hx := show Hid _ from hx
              clear hR b0 b1 b2 hW hb
              unfold thrown
              go_wp2
              rw [hok.out, grpR_else hf'.out hs.out hq1.out hq2.out, hg2.out]
              exact ⟨rfl, Rdc.no hx.out⟩
            | ok u =>
              have hR2 : Ext w0 w4 ∧ e = .returned (.tuple #[]) ∧ ∃ vr vl vh, Inn wf w0 w4 r c vr vl vh u := by have := hR; unfold Rdc at this; rw [hg2] at this; exact this
              obtain ⟨_, rfl, vr', vl', vh', h4⟩ := hR2
              have hfu := clR_fine hfn.out hg2
              have hlu : u.ts.length < ts.length := hfu.2
              have hGu : Hid (Grp wf w0 w4 r c d s u) := ⟨⟨_, _, _, h4⟩, hfu.1, by rw [hok.out, grpR_else hf'.out hs.out hq1.out hq2.out, hg2]; rfl, by have := hle.out; have := hlen.out; omega⟩
              have hm : Hid (Go.Proofs.YtbnpaeejlfaboaaGreatDoor.tlen w4 r < Go.Proofs.YtbnpaeejlfaboaaGreatDoor.tlen wr r) := by show _ < _; rw [h4.tlen, htl.out]; have := hlen.out; omega
              clear hR b0 b1 b2 hW hb h4 hg2 hfu hlu
              go_wp2
              go_roundw
              case rel => exact ⟨u, hGu⟩
              case measure => exact hm.out
end Go.Proofs.YtbnpaeejlfaboaaGreatDoor

namespace Go.Proofs.YtbnpaeejlfaboaaGreatDoor
open Go.RowKit Go.Lib
set_option linter.unusedVariables false
set_option maxRecDepth 100000 in
set_option maxHeartbeats 2000000 in
theorem known_c (r : Nat) (w : World) :
    Calls Tryz.prog 43 #[.pointer (some ⟨r, 0, none⟩)] w fun e w' => e = .returned (.slice (some ⟨w.heap.size, 0, none⟩) 15 15) ∧ w' = w.alloc (.cells (ccells r had0) 109) := by
  have hmf := L7.make_func
  go_enter Tryz.func43, Tryz.ntmps43
  go_wp2
  go_ret
  exact ⟨rfl, rfl⟩
def zrd (v : Value) : Array Value := #[v, .slice none 0 0, .string ⟨#[]⟩, .int .i64 0, .int .i64 0, .int .i64 0, .int .i64 0, .int .i64 0, .int .i64 0, .int .i64 0, .slice none 0 0, .int .i64 0, .int .i64 0, .int .i64 0, .int .i64 0, .int .i64 0, .int .i64 1, .slice none 0 0, .int .i64 0, .int .i64 1, .slice none 0 0]
set_option maxRecDepth 100000 in
theorem newReader_c (v : Value) (ts : List Tok) (w : World) (hv : Tks w v ts) :
    Calls Tryz.prog 25 #[v] w fun e w' => ∃ r c, e = .returned (.pointer (some ⟨r, 0, none⟩)) ∧ Inn w w w' r c (.slice none 0 0) (.slice none 0 0) (.slice none 0 0) ⟨ts, prd0, had0⟩ := by
  obtain ⟨ao, cp, hvs, _⟩ := id hv
  obtain ⟨W, hW, hx⟩ : ∃ W, w.alloc (.cells (zrd v) 90) = W ∧ Ext w W := ⟨_, rfl, (Ext.refl w).alloc _ _⟩
  have hsz : W.heap.size = w.heap.size + 1 := by rw [← hW]; simp
  have hr : W.heap[w.heap.size]? = some (Obj.cells (zrd v) 90 (0, 0)) := by rw [← hW]; exact heap_alloc_last w _
  subst hvs
  unfold zrd at hW hr
  replace hv := show Hid _ from hv
  replace hr := show Hid _ from hr
  replace hx := show Hid _ from hx
  go_enter Tryz.func25, Tryz.ntmps25
  go_wp2_with fail
  refine (known_c _ _).mono ?_
  rintro e w1 ⟨rfl, hw1⟩
  have hx1 : Ext W w1 := hw1 ▸ (Ext.refl W).alloc _ _
  have hc1 : Hid (w1.heap[w.heap.size + 1]? = some (Obj.cells (ccells w.heap.size had0) 109 (0, 0))) := by show _ = _; rw [hw1, ← hsz]; exact heap_alloc_last W _
  have hr1 : Hid (w1.heap[w.heap.size]? = some (Obj.cells (zrd (.slice ao ts.length cp)) 90 (0, 0))) := by show _ = _; rw [hx1.below.block _ (by omega)]; exact hr.out
  have c1 := (cell_of_row w1 w.heap.size 1 _ _ _ hr1.out).trans (show _ = some (.slice none 0 0) from rfl)
  have z1 := frozen_of_row w1 w.heap.size 1 _ _ hr1.out
  replace hx := show Hid (Ext w w1) from hx.out.trans hx1
  clear hx1 hw1 hr hW
  go_wp2
  go_ret
  refine ⟨w.heap.size, w.heap.size + 1, rfl, ?_⟩
  have hext := hx.out.setCell (a := ⟨w.heap.size, 1, none⟩) (Nat.le_refl _) (.slice (some ⟨w.heap.size + 1, 0, none⟩) 15 15)
  exact ⟨hext, Nat.le_refl _, by omega, ⟨_, (heap_setCell_same w1 w.heap.size 1 _ _ _ hr1.out).trans rfl, hv.out⟩, (heap_setCell_other _ _ _ _ (by show w.heap.size + 1 ≠ w.heap.size; omega)).trans hc1.out, World.ownsRow_nil _ _ _ _, World.ownsRow_nil _ _ _ _, World.ownsRow_nil _ _ _ _, Kp.ext hext⟩
set_option maxRecDepth 100000 in
theorem name_c (wf w0 w : World) (r c : Nat) (vr vl vh : Value) (s : St) (t : Tok) (ts : List Tok) (hs : s.ts = t :: ts) (hl : ts.length ≤ 20010) (htl : t.text.length ≤ 20000) (h : Inn wf w0 w r c vr vl vh s) :
    Calls Tryz.prog 45 #[.pointer (some ⟨r, 0, none⟩)] w fun e w' => Rdc wf w0 r c (if L8.nmb t.text then .ok { s with ts := ts, p := { s.p with nm := t.text } } else .no 7 t.at_) e w' := by
  obtain ⟨B, hB⟩ : ∃ B, L8.nmb t.text = B := ⟨_, rfl⟩
  rw [hB]
  replace hB := show Hid _ from hB
  replace h := show Hid _ from h
  replace hs := show Hid _ from hs
  go_enter Tryz.func45, Tryz.ntmps45
  go_wp2_with fail
  refine (take_c wf w0 _ r c vr vl vh s t ts hs.out hl h.out).mono ?_
  rintro e w1 ⟨rfl, h1, hx⟩
  unfold tokV
  obtain ⟨W2, b, hW, hb, hx2, b0, b1, b2⟩ := box_tok w1 t 93
  replace h1 := show Hid _ from h1.on hx2
  clear hx hx2
  go_upto_region 1 with fail
  refine wp_region_tail 4 (by kernel_rfl) (by kernel_rfl) ?_
  intro w3 hx
  replace h1 := show Hid _ from h1.out.on hx
  replace b0 := hx.cell_of b0
  replace b1 := hx.cell_of b1
  replace b2 := hx.cell_of b2
  clear hx hW hb
  simp only [List.take_succ_cons, List.take_zero, List.drop_succ_cons, List.drop_zero]
  still_step
  still_step
  still_call (L8.Name_x t.text B hB.out _ (by omega))
  still_step
  refine wpStill_nil ?_
  cases B
  · go_wp2_with fail
    refine (need_no t _).mono ?_
    rintro e w4 ⟨rfl, hx⟩
    replace h1 := show Hid _ from h1.out.on hx
    clear hx b0 b1 b2
    unfold thrown
    go_wp2
    exact ⟨rfl, Rdc.no h1.out.ext⟩
  · go_wp2_with fail
    refine (need_ok t _).mono ?_
    rintro e w4 ⟨rfl, hx⟩
    replace h1 := show Hid _ from h1.out.on hx
    replace b2 := hx.cell_of b2
    clear hx b0 b1
    obtain ⟨c2, z2⟩ := h1.out.cell 2 (.string ⟨s.p.nm.toArray⟩) (fun _ => rfl)
    go_wp2
    go_end0
    exact Rdc.ok (h1.out.turn 2 (.string ⟨t.text.toArray⟩) { s.p with nm := t.text } (fun _ => rfl) rfl rfl rfl)
end Go.Proofs.YtbnpaeejlfaboaaGreatDoor

namespace Go.Proofs.YtbnpaeejlfaboaaGreatDoor
open Go.RowKit Go.Lib
set_option linter.unusedVariables false
/-- A product's block. -/
def Blk (w : World) (b : Nat) (c : Array Value) : Prop := w.heap[b]? = some (Obj.cells c 27 (0, 0))
theorem Blk.ext {w w' : World} {b : Nat} {c : Array Value} (h : Blk w b c) (hx : Ext w w') : Blk w' b c := (hx.below.block b (Array.getElem?_eq_some_iff.1 h).1).trans h
theorem Blk.exr {w w' : World} {b g : Nat} {c : Array Value} (h : Blk w b c) (hx : Exr g w w') (hn : b ≠ g) : Blk w' b c := (hx.block b (Array.getElem?_eq_some_iff.1 h).1 hn).trans h
theorem Exr.setRow (w : World) (g : Nat) (c : Array Value) : Exr g w (w.setRow g c) :=
  ⟨rfl, rfl, rfl, by simp [World.setRow], fun k _ hk => by
    unfold World.setRow
    simp only []
    rw [Array.getElem?_modify, if_neg (Ne.symm hk)]⟩
theorem load27 {ops : Array Oper} {rest : List Oper} {o : Oper} {a : Act} {w : World} {Q : Exit → Act → World → Prop} {x : Operand} {g : Nat} {cs : Array Value} (hg : Blk w g cs) (hn : cs.size = 19) (ho : o.op = .load 27 x)
    (hx : a.eval x = .pointer (some ⟨g, 0, none⟩)) (hw : Region.wanted o (yielded ops a.tmps) = true)
    (h : wpList Tryz.prog ops Q rest (a.put o.dst (.agg cs)) w) : wpList Tryz.prog ops Q (o :: rest) a w :=
  L8.load27 hg hn ho hx hw h
theorem store27 {ops : Array Oper} {rest : List Oper} {o : Oper} {a : Act} {w : World} {Q : Exit → Act → World → Prop} {x y : Operand} {g : Nat} {old cs : Array Value} (hg : Blk w g old) (hm : old.size = 19) (hn : cs.size = 19) (h1 : cs.all (·.oneCell') = true) (hgd : o.guard = none) (ho : o.op = .store 27 x y)
    (hx : a.eval x = .pointer (some ⟨g, 0, none⟩)) (hy : a.eval y = .agg cs)
    (h : ∀ W, Blk W g cs → Exr g w W → wpList Tryz.prog ops Q rest (a.put o.dst undef) W) : wpList Tryz.prog ops Q (o :: rest) a w :=
  wpList_store_row hgd _ x y ho g cs hx hy _ old hg (by rw [hn]; kernel_rfl) (by rw [hm, hn]) h1 (h _ (setRow_heap w g old cs _ _ hg) (Exr.setRow w g cs))
def zP : Array Value := #[.string ⟨#[]⟩, .int .i64 0, .int .i64 0, .int .i64 0, .int .i64 0, .int .i64 0, .int .i64 0, .int .i64 0, .slice none 0 0, .int .i64 0, .int .i64 0, .int .i64 0, .int .i64 0, .int .i64 0, .int .i64 0, .slice none 0 0, .int .i64 0, .int .i64 0, .slice none 0 0]
theorem zP_ok : zP.size = 19 ∧ zP.all (·.oneCell') = true := ⟨rfl, by simp [zP, Value.oneCell']⟩
/-- A product that is boxed: its cells are what it is made of. -/
structure Flat (cs : Array Value) : Prop where
  size : cs.size = 19
  one : cs.all (·.oneCell') = true
  box : ∀ (w : World), (Instr.box 27 (.agg cs)).run Tryz.prog w = .ok (.pointer (some ⟨w.heap.size, 0, none⟩)) (w.alloc (.cells cs 27))
theorem lay3 (w : World) (cs : Array Value) : ∃ W1 W2 W3 b, w.alloc (.cells cs 27) = W1 ∧ w.heap.size = b ∧ W1.alloc (.cells #[.string ⟨#[]⟩, .int .i64 0, .int .i64 0, .int .i64 0, .int .i64 0, .int .i64 0, .int .i64 0, .int .i64 0, .slice none 0 0, .int .i64 0, .int .i64 0, .int .i64 0, .int .i64 0, .int .i64 0, .int .i64 0, .slice none 0 0, .int .i64 0, .int .i64 0, .slice none 0 0] 27) = W2 ∧ W1.heap.size = b + 1 ∧ W2.alloc (.cells #[.string ⟨#[]⟩, .int .i64 0, .int .i64 0, .int .i64 0, .int .i64 0, .int .i64 0, .int .i64 0, .int .i64 0, .slice none 0 0, .int .i64 0, .int .i64 0, .int .i64 0, .int .i64 0, .int .i64 0, .int .i64 0, .slice none 0 0, .int .i64 0, .int .i64 0, .slice none 0 0] 27) = W3 ∧ W2.heap.size = b + 2 ∧ Blk W3 b cs ∧ Blk W3 (b + 1) zP ∧ Blk W3 (b + 2) zP ∧ Ext w W3 := by
  refine ⟨_, _, _, _, rfl, rfl, rfl, by simp, rfl, by simp, ?_, ?_, ?_, (((Ext.refl w).alloc _ _).alloc _ _).alloc _ _⟩
  · have h : Blk (w.alloc (.cells cs 27)) w.heap.size cs := heap_alloc_last w _
    exact h.ext (((Ext.refl _).alloc _ _).alloc _ _)
  · have h : Blk ((w.alloc (.cells cs 27)).alloc (.cells zP 27)) (w.alloc (.cells cs 27)).heap.size zP := heap_alloc_last _ _
    have e : (w.alloc (.cells cs 27)).heap.size = w.heap.size + 1 := by simp
    rw [e] at h
    exact h.ext ((Ext.refl _).alloc _ _)
  · have h : Blk (((w.alloc (.cells cs 27)).alloc (.cells zP 27)).alloc (.cells zP 27)) ((w.alloc (.cells cs 27)).alloc (.cells zP 27)).heap.size zP := heap_alloc_last _ _
    have e : ((w.alloc (.cells cs 27)).alloc (.cells zP 27)).heap.size = w.heap.size + 2 := by simp
    rw [e] at h
    exact h
theorem loadP_run {w : World} {g : Nat} {cs : Array Value} (hB : Blk w g cs) (hn : cs.size = 19) : (Instr.loadAt 27 (.pointer (some ⟨g, 0, none⟩))).run Tryz.prog w = .ok (.agg cs) w := by
  have hl := run_loadVar_row (P := Tryz.prog) w g 27 27 cs (0, 0) _ hB Tryz.underlying27 rfl (by rw [hn]; kernel_rfl)
  simp only [Instr.loadAt, Instr.sureAddr, Sem.run_bind, Sem.run_pure, Result.andThen_ok, hl]
theorem exec_loadP {o : Oper} {a : Act} {w : World} {x : Operand} {g : Nat} {cs : Array Value} (hB : Blk w g cs) (hn : cs.size = 19) (ho : o.op = .load 27 x) (hx : a.eval x = .pointer (some ⟨g, 0, none⟩)) : (execOp a.eval o).run Tryz.prog w = .ok (.value (.agg cs)) w := by
  unfold execOp
  simp only [ho, hx, loadP_run hB hn, Sem.run_bind, Sem.run_pure, Result.andThen_ok]
theorem exec_storeP {o : Oper} {a : Act} {w : World} {x y : Operand} {g : Nat} {old cs : Array Value} (hB : Blk w g old) (hm : old.size = 19) (hn : cs.size = 19) (h1 : cs.all (·.oneCell') = true) (ho : o.op = .store 27 x y) (hx : a.eval x = .pointer (some ⟨g, 0, none⟩)) (hy : a.eval y = .agg cs) : (execOp a.eval o).run Tryz.prog w = .ok .skip (w.setRow g cs) := by
  unfold execOp
  simp only [ho, hx, hy, Instr.storeAt, Instr.sureAddr, Sem.run_bind, Sem.run_pure, Result.andThen_ok, run_storeVar_row (P := Tryz.prog) w g _ 27 old cs hB (by rw [hn]; kernel_rfl) (by rw [hm, hn]) h1]
/-- One operation of a deferred call's region, told by its run. -/
theorem wpOpS_run {ops : Array Oper} {Q : Exit → Act → List Frame → World → Prop} {i : Nat} {o : Oper} {K : Act → List Frame → World → Prop} {a : Act} {fs : List Frame} {w w' : World} {n : Next} {v : Value} (hi : ops[i]? = some o) (hw : Region.wanted o (yielded ops a.tmps) = true) (hr : (execOp a.eval o).run Tryz.prog w = .ok n w') (hn : n = .value v ∨ n = .skip ∧ v = undef) (h : K (a.put o.dst v) fs w') : wpOpS Tryz.prog ops Q i K a fs w := by
  unfold wpOpS
  simp only [hi, if_pos hw, hr]
  rcases hn with rfl | ⟨rfl, rfl⟩
  · exact h
  · exact h
theorem results3 {fn : Func} {p q r : Tmp} (h : fn.results = #[.cell p 27, .tmp q, .tmp r]) (tmps : Array Value) (w : World) (g : Nat) (cs : Array Value) (hp : tmps.getD p undef = .pointer (some ⟨g, 0, none⟩)) (hB : Blk w g cs) (hn : cs.size = 19) :
    (results fn tmps).run Tryz.prog w = .ok (.tuple #[.agg cs, tmps.getD q undef, tmps.getD r undef]) w := by
  have hp' : tmps[p]?.getD undef = .pointer (some ⟨g, 0, none⟩) := by simpa using hp
  have hl := run_loadVar_row (P := Tryz.prog) w g 27 27 cs (0, 0) _ hB Tryz.underlying27 rfl (by rw [hn]; kernel_rfl)
  simp [results, h, hp', asAddr, hl]
theorem settleP_nil (cs : Array Value) (hc : Flat cs) (w : World) :
    Calls Tryz.prog 22 #[.nilIface, .agg cs] w fun e w' => e = .returned (.tuple #[.agg cs, .int .i64 0, .int .i64 0]) ∧ Ext w w' := by
  obtain ⟨W1, W2, W3, b, hW1, hb, hW2, hs1, hW3, hs2, hB0, hB1, hB2, hx⟩ := lay3 w cs
  have hbox := hc.box
  replace hc := show Hid _ from hc
  replace hx := show Hid _ from hx
  go_enter Tryz.func22, Tryz.ntmps22
  go_upto_region 5 with fail
  refine wp_region_lit ?_
  refine load27 hB0 hc.out.size rfl rfl rfl ?_
  refine store27 hB1 rfl hc.out.size hc.out.one rfl rfl rfl rfl ?_
  intro W4 hB4 hx4
  have hlo : Hid (w.heap.size ≤ b + 1) := by show _ ≤ _; omega
  clear hW1 hW2 hW3 hs1 hs2 hB0 hB1 hB2
  replace hB4 := show Hid _ from hB4
  replace hx4 := show Hid _ from hx4
  go_wp2
  exact bodyPost_ret (v := .tuple #[.agg cs, .int .i64 0, .int .i64 0]) (results3 (p := 4) (q := 5) (r := 6) Tryz.results22 _ _ (b + 1) cs rfl hB4.out hc.out.size) rfl ⟨rfl, hx4.out.ext hx.out hlo.out⟩
theorem assert_errno (W : World) (x : Value) : (Instr.typeAssert (.iface 29 x) 20 29 true).run Tryz.prog W = .ok (.tuple #[x, .bool true]) W := by kernel_rfl
theorem assert_other (W : World) (x : Value) : (Instr.typeAssert (.iface 85 x) 20 29 true).run Tryz.prog W = .ok (.tuple #[.int .i64 0, .bool false]) W := by kernel_rfl
theorem assert_placed (W : World) (x : Value) : (Instr.typeAssert (.iface 85 x) 20 85 true).run Tryz.prog W = .ok (.tuple #[x, .bool true]) W := by kernel_rfl
set_option maxRecDepth 100000 in
theorem settleP_placed (c k : Int) (cs : Array Value) (hc : Flat cs) (w : World) :
    Calls Tryz.prog 22 #[.iface 85 (.agg #[.int .i64 c, .int .i64 k]), .agg cs] w fun e w' => e = .returned (.tuple #[.agg zP, .int .i64 k, .int .i64 c]) ∧ Ext w w' := by
  have hta := assert_placed
  have htb := assert_other
  obtain ⟨W1, W2, W3, b, hW1, hb, hW2, hs1, hW3, hs2, hB0, hB1, hB2, hx⟩ := lay3 w cs
  obtain ⟨W4, d, hW4, hd, hx4, d0, d1⟩ : ∃ W d, W3.alloc (.cells #[.int .i64 c, .int .i64 k] 85) = W ∧ W3.heap.size = d ∧ Ext W3 W ∧ W.cell? ⟨d, 0, none⟩ = some (.int .i64 c) ∧ W.cell? ⟨d, 1, none⟩ = some (.int .i64 k) := ⟨_, _, rfl, rfl, (Ext.refl _).alloc _ _, by simp [go_sem], by simp [go_sem]⟩
  have hbox := hc.box
  replace hx := show Hid _ from hx.trans hx4
  replace hB1 := hB1.ext hx4
  replace hB2 := hB2.ext hx4
  clear hx4 hB0
  replace hc := show Hid _ from hc
  go_enter Tryz.func22, Tryz.ntmps22
  go_upto_region 11 with fail
  clear hW1 hW2 hW3 hs1 hs2 hW4 hbox hta htb
  refine L8.wp_region_thrown (fun W => Blk W (b + 2) zP ∧ W.cell? ⟨d, 0, none⟩ = some (.int .i64 c) ∧ W.cell? ⟨d, 1, none⟩ = some (.int .i64 k)) (fun a => False) [] (fun t => none) (fun x W => False) (by kernel_rfl) (fun _ _ _ h1 _ h3 => h3.elim) ⟨hB2.ext (Ext.refl _).drew, (Ext.refl _).drew.cell_of d0, (Ext.refl _).drew.cell_of d1⟩ (fun hHeld => ?_)
  have hx5 : Ext W4 W4.drew := (Ext.refl _).drew
  replace hB1 := hB1.ext hx5
  replace hx := show Hid _ from hx.out.trans hx5
  generalize W4.drew = W5 at *
  clear hx5 hB2 d0 d1
  refine L8.takeT 0 (oi := { dst := some 22, op := Op.load 27 (Operand.tmp 7), type := 27, pos := "throw.go:68", after := #[], guard := none }) (v := .agg zP) rfl (by kernel_rfl) (by kernel_rfl) (by kernel_rfl) (by decide) (Or.inl ⟨by rfl, fun W hW => ?_⟩) hHeld ?_
  · exact exec_loadP hW.1 zP_ok.1 rfl rfl
  simp only [Act.put, List.setIfInBounds_toArray, List.set_cons_zero, List.set_cons_succ]
  refine L8.takeT 1 (oi := { dst := some 23, op := Op.fieldAddr 85 (Operand.tmp 10) 1, type := 0, pos := "throw.go:68", after := #[{ on := 5, ground := Ground.gcOnly Departure.lateStores }], guard := none }) (v := .pointer (some ⟨d, 1, none⟩)) rfl (by kernel_rfl) (by kernel_rfl) (by kernel_rfl) (by decide) (Or.inl ⟨by rfl, fun W hW => ?_⟩) hHeld ?_
  · go_simp
  simp only [Act.put, List.setIfInBounds_toArray, List.set_cons_zero, List.set_cons_succ]
  refine L8.takeT 2 (oi := { dst := some 24, op := Op.load 3 (Operand.tmp 23), type := 3, pos := "throw.go:68", after := #[{ on := 1, ground := Ground.data }, { on := 5, ground := Ground.gcOnly Departure.lateStores }], guard := none }) (v := .int .i64 k) rfl (by kernel_rfl) (by kernel_rfl) (by kernel_rfl) (by decide) (Or.inl ⟨by rfl, fun W hW => ?_⟩) hHeld ?_
  · have hW1 := hW.2.2
    go_simp
  simp only [Act.put, List.setIfInBounds_toArray, List.set_cons_zero, List.set_cons_succ]
  refine L8.takeT 3 (oi := { dst := some 25, op := Op.fieldAddr 85 (Operand.tmp 10) 0, type := 0, pos := "throw.go:68", after := #[{ on := 6, ground := Ground.gcOnly Departure.lateStores }], guard := none }) (v := .pointer (some ⟨d, 0, none⟩)) rfl (by kernel_rfl) (by kernel_rfl) (by kernel_rfl) (by decide) (Or.inl ⟨by rfl, fun W hW => ?_⟩) hHeld ?_
  · go_simp
  simp only [Act.put, List.setIfInBounds_toArray, List.set_cons_zero, List.set_cons_succ]
  refine L8.takeT 4 (oi := { dst := some 26, op := Op.load 29 (Operand.tmp 25), type := 29, pos := "throw.go:68", after := #[{ on := 3, ground := Ground.data }, { on := 6, ground := Ground.gcOnly Departure.lateStores }], guard := none }) (v := .int .i64 c) rfl (by kernel_rfl) (by kernel_rfl) (by kernel_rfl) (by decide) (Or.inl ⟨by rfl, fun W hW => ?_⟩) hHeld ?_
  · have hW1 := hW.2.1
    go_simp
  simp only [Act.put, List.setIfInBounds_toArray, List.set_cons_zero, List.set_cons_succ]
  refine wpAnyH_ready (rs := [5]) (by kernel_rfl) (by simp) ?_
  refine AllReadyH.cons (o := { dst := none, op := Op.store 27 (Operand.tmp 4) (Operand.tmp 22), type := 0, pos := "throw.go:68", after := #[{ on := 0, ground := Ground.data }, { on := 0, ground := Ground.phase }, { on := 1, ground := Ground.textOnly Departure.lateStores }, { on := 2, ground := Ground.textOnly Departure.lateStores }, { on := 3, ground := Ground.textOnly Departure.lateStores }, { on := 4, ground := Ground.textOnly Departure.lateStores }], guard := none }) rfl (fun K hK => ?_) AllReadyH.nil
  rw [if_pos (by rfl)]
  have hx6 := Exr.setRow W5 (b + 1) zP
  have hd1 : d ≠ b + 1 := by
    rintro rfl
    have := (cell_of_row W5 (b + 1) 0 _ _ _ hB1).symm.trans hHeld.2.1
    simp [zP] at this
  refine wp_store_row _ (.tmp 4) (.tmp 22) rfl (b + 1) zP rfl rfl _ zP hB1 (by kernel_rfl) rfl zP_ok.2 ?_
  refine hK.out _ _ ⟨hHeld.1.exr hx6 (by omega), hx6.cell_of hd1 hHeld.2.1, hx6.cell_of hd1 hHeld.2.2⟩ ?_
  clear hK K
  intro hHeld
  have hB6 := show Hid (Blk (W5.setRow (b + 1) zP) (b + 1) zP) from setRow_heap W5 (b + 1) _ zP _ _ hB1
  replace hx6 := show Hid _ from hx6
  simp only [Act.put]
  refine L8.takeT 6 (oi := { dst := some 5, op := Op.assign (Operand.tmp 24), type := 3, pos := "throw.go:68", after := #[{ on := 2, ground := Ground.data }, { on := 5, ground := Ground.chain }, { on := 0, ground := Ground.phase }, { on := 1, ground := Ground.phase }, { on := 2, ground := Ground.phase }, { on := 3, ground := Ground.textOnly Departure.lateStores }, { on := 4, ground := Ground.textOnly Departure.lateStores }, { on := 5, ground := Ground.phase }], guard := none }) (v := .int .i64 k) rfl (by kernel_rfl) (by kernel_rfl) (by kernel_rfl) (by decide) (Or.inl ⟨by rfl, fun W hW => ?_⟩) hHeld ?_
  · go_simp
  simp only [Act.put, List.setIfInBounds_toArray, List.set_cons_zero, List.set_cons_succ]
  refine L8.takeT 7 (oi := { dst := some 6, op := Op.assign (Operand.tmp 26), type := 29, pos := "throw.go:68", after := #[{ on := 4, ground := Ground.data }, { on := 6, ground := Ground.chain }, { on := 0, ground := Ground.phase }, { on := 1, ground := Ground.phase }, { on := 2, ground := Ground.phase }, { on := 3, ground := Ground.phase }, { on := 4, ground := Ground.phase }, { on := 5, ground := Ground.phase }, { on := 6, ground := Ground.phase }], guard := none }) (v := .int .i64 c) rfl (by kernel_rfl) (by kernel_rfl) (by kernel_rfl) (by decide) (Or.inl ⟨by rfl, fun W hW => ?_⟩) hHeld ?_
  · go_simp
  simp only [Act.put, List.setIfInBounds_toArray, List.set_cons_zero, List.set_cons_succ]
  refine wpAnyH_done (by kernel_rfl) (L8.ThrowQ.normal ?_) _
  have hlo : Hid (w.heap.size ≤ b + 1) := by show _ ≤ _; omega
  clear hHeld hd1
  go_wp2
  exact bodyPost_ret (v := .tuple #[.agg zP, .int .i64 k, .int .i64 c]) (results3 (p := 4) (q := 5) (r := 6) Tryz.results22 _ _ (b + 1) zP rfl hB6.out zP_ok.1) rfl ⟨rfl, hx6.out.ext hx.out hlo.out⟩
end Go.Proofs.YtbnpaeejlfaboaaGreatDoor
