
/- Parts of fraction, and the document's Parts, as contracts: no statement of the seat is proved here. -/
import Derived.Test.YtafjmpaefikdcaaGreatDoorL12Face
import Derived.Deep.DeepCutAuto
import Derived.Laws.EntriesVeiled
namespace Go.Proofs.YtafjmpaefikdcaaGreatDoor.L12
open Go.RowKit
set_option linter.unusedVariables false

/-- What Parts and Between answer. -/
def ptA (c : Int) : Int := if c = 1 then 360 else if c = 2 then 365 else if c = 3 then 133590 else 0
def ptE (c : Int) : Int := if 1 ≤ c ∧ c ≤ 3 then 0 else 1
theorem pt_ok {c : Int} (h1 : 1 ≤ c) (h2 : c ≤ 3) : ptE c = 0 := by unfold ptE; rw [if_pos ⟨h1, h2⟩]
theorem pt_no {c : Int} (h : ¬ (1 ≤ c ∧ c ≤ 3)) : ptA c = 0 ∧ ptE c = 1 := by
  unfold ptA ptE; rw [if_neg h]
  refine ⟨?_, rfl⟩
  rw [if_neg (by omega), if_neg (by omega), if_neg (by omega)]
/-- The function by which a count tells a day's place. -/
def fvOf (c : Int) : FuncId := if c = 1 then 105 else if c = 2 then 106 else 107
theorem yearOf_1 (w : World) :
    Calls Tryz.prog 87 #[.int .i64 1] w fun e w' => e = .returned (.agg #[.int .i64 360, .func (.func 105) #[] #[]]) ∧ Ext w w' := by
  go_enter Tryz.func87, Tryz.ntmps87
  go_wp2
  exact bodyPost_ret (v := .agg #[.int .i64 360, .func (.func 105) #[] #[]]) (by simp [results, Tryz.results87, go_sem]) rfl ⟨rfl, (Ext.refl _).alloc _ _⟩
theorem yearOf_2 (w : World) :
    Calls Tryz.prog 87 #[.int .i64 2] w fun e w' => e = .returned (.agg #[.int .i64 365, .func (.func 106) #[] #[]]) ∧ Ext w w' := by
  go_enter Tryz.func87, Tryz.ntmps87
  go_wp2
  exact bodyPost_ret (v := .agg #[.int .i64 365, .func (.func 106) #[] #[]]) (by simp [results, Tryz.results87, go_sem]) rfl ⟨rfl, (Ext.refl _).alloc _ _⟩
theorem yearOf_3 (w : World) :
    Calls Tryz.prog 87 #[.int .i64 3] w fun e w' => e = .returned (.agg #[.int .i64 133590, .func (.func 107) #[] #[]]) ∧ Ext w w' := by
  go_enter Tryz.func87, Tryz.ntmps87
  go_wp2
  exact bodyPost_ret (v := .agg #[.int .i64 133590, .func (.func 107) #[] #[]]) (by simp [results, Tryz.results87, go_sem]) rfl ⟨rfl, (Ext.refl _).alloc _ _⟩
theorem yearOf_ok (c : Int) (w : World) (h1 : 1 ≤ c) (h2 : c ≤ 3) :
    Calls Tryz.prog 87 #[.int .i64 c] w fun e w' => e = .returned (.agg #[.int .i64 (ptA c), .func (.func (fvOf c)) #[] #[]]) ∧ Ext w w' := by
  rcases (by omega : c = 1 ∨ c = 2 ∨ c = 3) with e | e | e <;> subst e
  · exact yearOf_1 w
  · exact yearOf_2 w
  · exact yearOf_3 w
theorem yearOf_no (c : Int) (w : World) (h : ¬ (1 ≤ c ∧ c ≤ 3)) :
    Calls Tryz.prog 87 #[.int .i64 c] w fun e w' => e = .panicked [{ v := .iface 33 (.int .i64 1), recovered := false }] ∧ Ext w w' := by
  have h1 : c ≠ 1 := by omega
  have h2 : c ≠ 2 := by omega
  have h3 : c ≠ 3 := by omega
  clear h
  go_enter Tryz.func87, Tryz.ntmps87
  go_wp2
  exact ⟨rfl, rfl, (Ext.refl _).alloc _ _⟩
theorem field_y (x y : Value) (w : World) : (Instr.field 126 (.agg #[x, y]) 0).run Tryz.prog w = .ok x w := by kernel_rfl
theorem Parts_ok (c : Int) (w : World) (h1 : 1 ≤ c) (h2 : c ≤ 3) :
    Calls Tryz.prog 59 #[.int .i64 c] w fun e w' => e = .returned (.tuple #[.int .i64 (ptA c), .int .i64 0]) ∧ Ext w w' := by
  have hmf := make_func
  have hfy := field_y
  go_enter_defers Tryz.func59, Tryz.ntmps59
  go_wp2_with fail
  refine (yearOf_ok _ _ h1 h2).mono ?_
  rintro e w1 ⟨rfl, hx⟩
  have hf : Fac w (w.heap.size) w1 (.int .i64 0) 0 := ((Fac.begin w _ (.int .i64 0) _ _ (by repeat (first | exact Ext.refl _ | apply Ext.alloc))).on hx).cast (by simp [go_sem])
  have gp := hf.p; have gq := hf.q; have gpz := hf.pz; have gqz := hf.qz
  replace hf := show Hid _ from hf
  clear hx
  go_wp2
  refine parts_leave_idle w _ w.heap.size _ _ _ _ (by rfl) (by rfl) ((hf.out.set1 _).set2 _) ?_
  exact fun w2 hy => ⟨rfl, ((hf.out.set1 _).set2 _).fin hy⟩
theorem Parts_no (c : Int) (w : World) (h : ¬ (1 ≤ c ∧ c ≤ 3)) :
    Calls Tryz.prog 59 #[.int .i64 c] w fun e w' => e = .returned (.tuple #[.int .i64 0, .int .i64 1]) ∧ Ext w w' := by
  have hmf := make_func
  replace h := show Hid _ from h
  go_enter_defers Tryz.func59, Tryz.ntmps59
  go_wp2_with fail
  refine (yearOf_no _ _ h.out).mono ?_
  rintro e w1 ⟨rfl, hx⟩
  have hf : Fac w (w.heap.size) w1 (.int .i64 0) 0 := ((Fac.begin w _ (.int .i64 0) _ _ (by repeat (first | exact Ext.refl _ | apply Ext.alloc))).on hx).cast (by simp [go_sem])
  have gp := hf.p; have gq := hf.q; have gpz := hf.pz; have gqz := hf.qz
  replace hf := show Hid _ from hf
  clear hx
  go_wp2
  refine parts_leave_catch w _ w.heap.size _ _ _ _ _ (by rfl) (by rfl) hf.out ?_
  exact fun w2 hy => ⟨rfl, hf.out.fin hy⟩
theorem Parts_c (c : Int) (w : World) :
    Calls Tryz.prog 59 #[.int .i64 c] w fun e w' => e = .returned (.tuple #[.int .i64 (ptA c), .int .i64 (ptE c)]) ∧ Ext w w' := by
  by_cases h : 1 ≤ c ∧ c ≤ 3
  · rw [pt_ok h.1 h.2]; exact Parts_ok c w h.1 h.2
  · rw [(pt_no h).1, (pt_no h).2]; exact Parts_no c w h
theorem rParts_c (c : Int) (w : World) :
    Calls Tryz.prog 64 #[.int .i64 c] w fun e w' => e = .returned (.tuple #[.int .i64 (ptA c), .int .i64 (ptE c)]) ∧ w' = w := by
  by_cases h1 : c = 1
  · subst h1
    go_enter Tryz.func64, Tryz.ntmps64
    go_wp2
    go_ret2
    exact ⟨rfl, rfl⟩
  · by_cases h2 : c = 2
    · subst h2
      go_enter Tryz.func64, Tryz.ntmps64
      go_wp2
      go_ret2
      exact ⟨rfl, rfl⟩
    · by_cases h3 : c = 3
      · subst h3
        go_enter Tryz.func64, Tryz.ntmps64
        go_wp2
        go_ret2
        exact ⟨rfl, rfl⟩
      · have e := pt_no (c := c) (by omega)
        rw [e.1, e.2]
        clear e
        go_enter Tryz.func64, Tryz.ntmps64
        go_wp2
        go_ret2
        exact ⟨rfl, rfl⟩
end Go.Proofs.YtafjmpaefikdcaaGreatDoor.L12