
/- The program's New of package growth, as contracts: no statement of the seat is proved here. -/
import Derived.Test.YtafjmpaefikdcaaGreatDoorL12Gr2
namespace Go.Proofs.YtafjmpaefikdcaaGreatDoor.L12
open Go.RowKit
set_option linter.unusedVariables false

/-- What is new and bears. -/
structure Born (w w' : World) (B : Nat) (m W r : Int) : Prop where
  brr : Brr w' B m W r
  lo : w.heap.size ≤ B
  ext : Ext w w'
theorem of_k (m : Int) (hm : m = 1 ∨ m = 3) (w : World) :
    Calls Tryz.prog 61 #[.int .i64 m] w fun e w' => e = .returned (.tuple #[.agg #[.int .i64 m], .int .i64 0]) ∧ Ext w w' := by
  rcases hm with rfl | rfl
  · exact of_1 w
  · exact of_3 w
theorem Parts_w (c : Int) (w : World) (h1 : 1 ≤ c) (h2 : c ≤ 3) (P : Int) (hP : ptA c = P) :
    Calls Tryz.prog 59 #[.int .i64 c] w fun e w' => e = .returned (.tuple #[.int .i64 P, .int .i64 0]) ∧ Ext w w' := hP ▸ Parts_ok c w h1 h2
theorem New_1 (c P : Int) (w : World) (P0 : 0 < P) (P1 : P ≤ 133590) (hPt : Hid (∀ w, Calls Tryz.prog 59 #[.int .i64 c] w fun e w' => e = .returned (.tuple #[.int .i64 P, .int .i64 0]) ∧ Ext w w')) :
    Calls Tryz.prog 40 #[.int .i64 c, .int .i64 1] w fun e w' => ∃ B, e = .returned (.tuple #[.pointer (some ⟨B, 0, none⟩), .int .i64 0]) ∧ Born w w' B 1 (1000000000 * P) 0 := by
  have hmf := make_func
  go_enter_defers Tryz.func40, Tryz.ntmps40
  go_wp2_with fail
  refine (need_ok _ _).mono ?_
  rintro e w1 ⟨rfl, rfl⟩
  go_wp2_with fail
  refine (hPt.out _).mono ?_
  rintro e w1 ⟨rfl, hx⟩
  have hf : Fac w w.heap.size w1 (.pointer none) 0 := (Fac.begin w w (.pointer none) _ _ (Ext.refl w)).on hx
  have gp := hf.p; have gq := hf.q; have gpz := hf.pz; have gqz := hf.qz
  replace hf := show Hid _ from hf
  clear hx
  go_wp2_with fail
  refine (sureI_ok _ _).mono ?_
  rintro e w2 ⟨rfl, hx⟩
  replace hf : Fac w w.heap.size w2 (.pointer none) 0 := hf.out.on hx
  have gp := hf.p; have gq := hf.q; have gpz := hf.pz; have gqz := hf.qz
  replace hf := show Hid _ from hf
  clear hx
  go_wp2_with fail
  refine (of_1 _).mono ?_
  rintro e w3 ⟨rfl, hx⟩
  replace hf : Fac w w.heap.size w3 (.pointer none) 0 := hf.out.on hx
  have gp := hf.p; have gq := hf.q; have gpz := hf.pz; have gqz := hf.qz
  replace hf := show Hid _ from hf
  clear hx
  go_wp2_with fail
  refine (sureR_ok _ _).mono ?_
  rintro e w4 ⟨rfl, hx⟩
  replace hf : Fac w w.heap.size w4 (.pointer none) 0 := hf.out.on hx
  have gp := hf.p; have gq := hf.q; have gpz := hf.pz; have gqz := hf.qz
  have ga : ∀ C t, (w4.alloc (.cells C t)).cell? ⟨w.heap.size, 0, none⟩ = some (.pointer none) := fun C t => ((Ext.refl w4).alloc C t).cell_of gp
  have gb : ∀ C t, (w4.alloc (.cells C t)).cell? ⟨w.heap.size + 1, 0, none⟩ = some (.int .i64 0) := fun C t => ((Ext.refl w4).alloc C t).cell_of gq
  have gaz : ∀ C t, (w4.alloc (.cells C t)).frozen? ⟨w.heap.size, 0, none⟩ = false := fun C t => ((Ext.refl w4).alloc C t).froz_of gp gpz
  have gbz : ∀ C t, (w4.alloc (.cells C t)).frozen? ⟨w.heap.size + 1, 0, none⟩ = false := fun C t => ((Ext.refl w4).alloc C t).froz_of gq gqz
  have hl := lt_of_cell gq
  replace hf := show Hid _ from hf
  clear hx gp gq gpz gqz
  go_wp2
  have hg : Fac w w.heap.size (((w4.alloc (.cells #[.int .i64 1, .int .i64 (1000000000 * P), .int .i64 0] 107)).setCell ⟨w.heap.size, 0, none⟩ (.pointer (some ⟨w4.heap.size, 0, none⟩))).setCell ⟨w.heap.size + 1, 0, none⟩ (.int .i64 0)) (.pointer (some ⟨w4.heap.size, 0, none⟩)) 0 := ((hf.out.on ((Ext.refl w4).alloc _ _)).set1 _).set2 _
  refine new_leave_idle w _ w.heap.size _ _ _ _ (by rfl) (by rfl) hg ?_
  intro w2 hy
  have hb : Brr (w4.alloc (.cells #[.int .i64 1, .int .i64 (1000000000 * P), .int .i64 0] 107)) w4.heap.size 1 (1000000000 * P) 0 := ⟨by simp [go_sem], by simp [go_sem], by simp [go_sem], by simp [go_sem]⟩
  refine ⟨w4.heap.size, rfl, ⟨?_, by omega, hg.fin hy⟩⟩
  exact ((((hb.far (by omega) _ _).far (by omega) _ _).ext hy).far (by omega) _ _).far (by omega) _ _
theorem New_3 (c P : Int) (w : World) (P0 : 0 < P) (P1 : P ≤ 133590) (hPt : Hid (∀ w, Calls Tryz.prog 59 #[.int .i64 c] w fun e w' => e = .returned (.tuple #[.int .i64 P, .int .i64 0]) ∧ Ext w w')) :
    Calls Tryz.prog 40 #[.int .i64 c, .int .i64 3] w fun e w' => ∃ B, e = .returned (.tuple #[.pointer (some ⟨B, 0, none⟩), .int .i64 0]) ∧ Born w w' B 3 (1000000000 * P) 0 := by
  have hmf := make_func
  go_enter_defers Tryz.func40, Tryz.ntmps40
  go_wp2_with fail
  refine (need_ok _ _).mono ?_
  rintro e w1 ⟨rfl, rfl⟩
  go_wp2_with fail
  refine (hPt.out _).mono ?_
  rintro e w1 ⟨rfl, hx⟩
  have hf : Fac w w.heap.size w1 (.pointer none) 0 := (Fac.begin w w (.pointer none) _ _ (Ext.refl w)).on hx
  have gp := hf.p; have gq := hf.q; have gpz := hf.pz; have gqz := hf.qz
  replace hf := show Hid _ from hf
  clear hx
  go_wp2_with fail
  refine (sureI_ok _ _).mono ?_
  rintro e w2 ⟨rfl, hx⟩
  replace hf : Fac w w.heap.size w2 (.pointer none) 0 := hf.out.on hx
  have gp := hf.p; have gq := hf.q; have gpz := hf.pz; have gqz := hf.qz
  replace hf := show Hid _ from hf
  clear hx
  go_wp2_with fail
  refine (of_3 _).mono ?_
  rintro e w3 ⟨rfl, hx⟩
  replace hf : Fac w w.heap.size w3 (.pointer none) 0 := hf.out.on hx
  have gp := hf.p; have gq := hf.q; have gpz := hf.pz; have gqz := hf.qz
  replace hf := show Hid _ from hf
  clear hx
  go_wp2_with fail
  refine (sureR_ok _ _).mono ?_
  rintro e w4 ⟨rfl, hx⟩
  replace hf : Fac w w.heap.size w4 (.pointer none) 0 := hf.out.on hx
  have gp := hf.p; have gq := hf.q; have gpz := hf.pz; have gqz := hf.qz
  have ga : ∀ C t, (w4.alloc (.cells C t)).cell? ⟨w.heap.size, 0, none⟩ = some (.pointer none) := fun C t => ((Ext.refl w4).alloc C t).cell_of gp
  have gb : ∀ C t, (w4.alloc (.cells C t)).cell? ⟨w.heap.size + 1, 0, none⟩ = some (.int .i64 0) := fun C t => ((Ext.refl w4).alloc C t).cell_of gq
  have gaz : ∀ C t, (w4.alloc (.cells C t)).frozen? ⟨w.heap.size, 0, none⟩ = false := fun C t => ((Ext.refl w4).alloc C t).froz_of gp gpz
  have gbz : ∀ C t, (w4.alloc (.cells C t)).frozen? ⟨w.heap.size + 1, 0, none⟩ = false := fun C t => ((Ext.refl w4).alloc C t).froz_of gq gqz
  have hl := lt_of_cell gq
  replace hf := show Hid _ from hf
  clear hx gp gq gpz gqz
  go_wp2
  have hg : Fac w w.heap.size (((w4.alloc (.cells #[.int .i64 3, .int .i64 (1000000000 * P), .int .i64 0] 107)).setCell ⟨w.heap.size, 0, none⟩ (.pointer (some ⟨w4.heap.size, 0, none⟩))).setCell ⟨w.heap.size + 1, 0, none⟩ (.int .i64 0)) (.pointer (some ⟨w4.heap.size, 0, none⟩)) 0 := ((hf.out.on ((Ext.refl w4).alloc _ _)).set1 _).set2 _
  refine new_leave_idle w _ w.heap.size _ _ _ _ (by rfl) (by rfl) hg ?_
  intro w2 hy
  have hb : Brr (w4.alloc (.cells #[.int .i64 3, .int .i64 (1000000000 * P), .int .i64 0] 107)) w4.heap.size 3 (1000000000 * P) 0 := ⟨by simp [go_sem], by simp [go_sem], by simp [go_sem], by simp [go_sem]⟩
  refine ⟨w4.heap.size, rfl, ⟨?_, by omega, hg.fin hy⟩⟩
  exact ((((hb.far (by omega) _ _).far (by omega) _ _).ext hy).far (by omega) _ _).far (by omega) _ _
theorem New_r (c m : Int) (w : World) (h1 : (m == 1) = false) (h3 : (m == 3) = false) :
    Calls Tryz.prog 40 #[.int .i64 c, .int .i64 m] w fun e w' => e = .returned (.tuple #[.pointer none, .int .i64 1]) ∧ Ext w w' := by
  have hmf := make_func
  have hf : Hid (Fac w w.heap.size ((w.alloc (.cells #[.pointer none] 70)).alloc (.cells #[.int .i64 0] 33)) (.pointer none) 0) := Fac.begin w w _ _ _ (Ext.refl w)
  go_enter_defers Tryz.func40, Tryz.ntmps40
  go_wp2_with fail
  refine (need_no _ _).mono ?_
  rintro e w1 ⟨rfl, rfl⟩
  go_wp2_with fail
  refine new_leave_catch w _ w.heap.size _ _ _ _ _ (by rfl) (by rfl) hf.out ?_
  exact fun w2 hy => ⟨rfl, hf.out.fin hy⟩
theorem New_c1 (c : Int) (w : World) (h : ¬ (1 ≤ c ∧ c ≤ 3)) :
    Calls Tryz.prog 40 #[.int .i64 c, .int .i64 1] w fun e w' => e = .returned (.tuple #[.pointer none, .int .i64 1]) ∧ Ext w w' := by
  have hmf := make_func
  have hP : Hid (∀ w, Calls Tryz.prog 59 #[.int .i64 c] w fun e w' => e = .returned (.tuple #[.int .i64 0, .int .i64 1]) ∧ Ext w w') := fun w => Parts_no c w h
  clear h
  go_enter_defers Tryz.func40, Tryz.ntmps40
  go_wp2_with fail
  refine (need_ok _ _).mono ?_
  rintro e w1 ⟨rfl, rfl⟩
  go_wp2_with fail
  refine (hP.out _).mono ?_
  rintro e w1 ⟨rfl, hx⟩
  have hf : Hid (Fac w w.heap.size w1 (.pointer none) 0) := (Fac.begin w w (.pointer none) _ _ (Ext.refl w)).on hx
  clear hx
  go_wp2_with fail
  refine (sureI_no _ _ (by decide) _).mono ?_
  rintro e w2 ⟨rfl, hx⟩
  replace hf : Hid (Fac w w.heap.size w2 (.pointer none) 0) := hf.out.on hx
  clear hx
  go_wp2_with fail
  refine new_leave_catch w _ w.heap.size _ _ _ _ _ (by rfl) (by rfl) hf.out ?_
  exact fun w2 hy => ⟨rfl, hf.out.fin hy⟩
theorem New_c3 (c : Int) (w : World) (h : ¬ (1 ≤ c ∧ c ≤ 3)) :
    Calls Tryz.prog 40 #[.int .i64 c, .int .i64 3] w fun e w' => e = .returned (.tuple #[.pointer none, .int .i64 1]) ∧ Ext w w' := by
  have hmf := make_func
  have hP : Hid (∀ w, Calls Tryz.prog 59 #[.int .i64 c] w fun e w' => e = .returned (.tuple #[.int .i64 0, .int .i64 1]) ∧ Ext w w') := fun w => Parts_no c w h
  clear h
  go_enter_defers Tryz.func40, Tryz.ntmps40
  go_wp2_with fail
  refine (need_ok _ _).mono ?_
  rintro e w1 ⟨rfl, rfl⟩
  go_wp2_with fail
  refine (hP.out _).mono ?_
  rintro e w1 ⟨rfl, hx⟩
  have hf : Hid (Fac w w.heap.size w1 (.pointer none) 0) := (Fac.begin w w (.pointer none) _ _ (Ext.refl w)).on hx
  clear hx
  go_wp2_with fail
  refine (sureI_no _ _ (by decide) _).mono ?_
  rintro e w2 ⟨rfl, hx⟩
  replace hf : Hid (Fac w w.heap.size w2 (.pointer none) 0) := hf.out.on hx
  clear hx
  go_wp2_with fail
  refine new_leave_catch w _ w.heap.size _ _ _ _ _ (by rfl) (by rfl) hf.out ?_
  exact fun w2 hy => ⟨rfl, hf.out.fin hy⟩
theorem pt_bd {c : Int} (h1 : 1 ≤ c) (h2 : c ≤ 3) : ptA c = 360 ∨ ptA c = 365 ∨ ptA c = 133590 := by
  unfold ptA
  rcases (by omega : c = 1 ∨ c = 2 ∨ c = 3) with e | e | e <;> subst e <;> decide
theorem New_ok (c m : Int) (w : World) (h1 : 1 ≤ c) (h2 : c ≤ 3) (hm : m = 1 ∨ m = 3) :
    Calls Tryz.prog 40 #[.int .i64 c, .int .i64 m] w fun e w' => ∃ B, e = .returned (.tuple #[.pointer (some ⟨B, 0, none⟩), .int .i64 0]) ∧ Born w w' B m (1000000000 * ptA c) 0 := by
  have hb := pt_bd h1 h2
  rcases hm with rfl | rfl
  · exact New_1 c (ptA c) w (by omega) (by omega) (fun w => Parts_ok c w h1 h2)
  · exact New_3 c (ptA c) w (by omega) (by omega) (fun w => Parts_ok c w h1 h2)
theorem New_no (c m : Int) (w : World) (h : ¬ ((1 ≤ c ∧ c ≤ 3) ∧ (m = 1 ∨ m = 3))) :
    Calls Tryz.prog 40 #[.int .i64 c, .int .i64 m] w fun e w' => e = .returned (.tuple #[.pointer none, .int .i64 1]) ∧ Ext w w' := by
  by_cases hm : m = 1 ∨ m = 3
  · have hc : ¬ (1 ≤ c ∧ c ≤ 3) := fun k => h ⟨k, hm⟩
    rcases hm with rfl | rfl
    · exact New_c1 c w hc
    · exact New_c3 c w hc
  · exact New_r c m w (by simp; omega) (by simp; omega)
end Go.Proofs.YtafjmpaefikdcaaGreatDoor.L12