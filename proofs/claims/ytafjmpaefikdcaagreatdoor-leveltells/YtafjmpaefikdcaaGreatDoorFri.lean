/- Lists of int64 among the arguments: no statement of the seat is proved here. -/
import Derived.Test.YtafjmpaefikdcaaGreatDoorPf
import Derived.Deep.Slices
import Derived.ChangeSlices
import Derived.ChangeSame
import Derived.Carry
namespace Go.Proofs.YtafjmpaefikdcaaGreatDoor
open Go.RowKit Go.ChangeShapes Go.WideShapes Go.ChangeAt
set_option linter.unusedVariables false
set_option maxRecDepth 100000

/-- An int64. -/
def J64 (a : Int) : Prop := -9223372036854775808 ≤ a ∧ a ≤ 9223372036854775807
theorem cells_i64 : Tryz.prog.cellsOf 2 = 1 := by kernel_rfl
/-- A slice of ints among the arguments: its numbers; and it reads the same behind a call that only makes new memory. -/
theorem open_slc64 {H : Type} {enc : TypeId × Value → H} {W : World} {base : Nat} {v : Value} {d : DataW H} {ps : List MemPlace} (hval : Value.okWide Tryz.prog W .any base 28 v) (h : DataW.Trod enc Tryz.prog W 0 (fun _ => true) true 28 v d ps) :
    ∃ l : List Int, L8.Slc W v l ∧ l.length ≤ maxLen ∧ (∀ x ∈ l, J64 x) ∧ ∀ W' : World, Ext W W' → DataW.Trod enc Tryz.prog W' 0 (fun b => decide (b < W.heap.size)) true 28 v d ps := by
  obtain ⟨a0, len, cap, rfl⟩ := okWide_slice Tryz.underlying28 hval
  obtain ⟨fuel, hf⟩ := h
  rcases open_ints Tryz.underlying28 Tryz.underlying2 cells_i64 hf with ⟨hcs, hx⟩ | ⟨a, len', cap', zs, hcs, _, hl, hm, hz, hx, hcell, hwz⟩
  · simp [Value.cells] at hcs
    obtain ⟨rfl, rfl, rfl⟩ := hcs
    simp only [Prod.mk.injEq] at hx
    obtain ⟨rfl, rfl⟩ := hx
    exact ⟨[], Or.inl ⟨none, 0, rfl, (fun _ => rfl), rfl⟩, Nat.zero_le _, (fun x hx => by cases hx), fun W' _ => shut_slice_nil Tryz.underlying28⟩
  · simp [Value.cells] at hcs
    obtain ⟨rfl, rfl, rfl⟩ := hcs
    simp only [Prod.mk.injEq] at hx
    obtain ⟨rfl, rfl⟩ := hx
    simp only [if_true] at hz
    have hwz' := hwz
    refine ⟨zs.take len, ?_, by simp; omega, fun x hx => bounds_i64 (hwz x (List.mem_of_mem_take hx)), fun W' hX => ?_⟩
    · by_cases hl0 : len = 0
      · subst hl0
        exact Or.inl ⟨some a, cap, rfl, (fun h => by cases h), by simp⟩
      · obtain ⟨b, off, spot⟩ := a
        have hspot : spot = none := by simpa [Addr.add] using World.cell?_spot (hcell 0 (by omega))
        subst hspot
        refine Or.inr ⟨b, off, cap, by rw [List.length_take, Nat.min_eq_left (by omega)], fun k x hk => ?_⟩
        have hk' : k < len := by
          have := (List.getElem?_eq_some_iff.1 hk).1
          simp at this; omega
        have := hcell k (by omega)
        rw [List.getElem?_take_of_lt hk'] at hk
        rw [add_plain] at this
        simpa [List.getD, hk] using this
    · by_cases hz0 : zs.length = 0
      · have hc0 : cap = 0 := by omega
        have hl0 : len = 0 := by omega
        subst hc0; subst hl0
        have t0 := shut_ints (enc := enc) (P := Tryz.prog) (w := W') (base := 0) (spare := fun b => decide (b < W.heap.size)) (held := true) (a := a) (len := 0) (cap := 0) (zs := zs) 0 Tryz.underlying28 Tryz.underlying2 cells_i64 (Nat.zero_le _) (Nat.le_refl _) hm (by simp [hz0]) (fun i hi => by omega) hwz
        exact ⟨2, by simpa [Value.cells] using t0⟩
      · obtain ⟨b, off, spot⟩ := a
        have hspot : spot = none := by simpa [Addr.add] using World.cell?_spot (hcell 0 (by omega))
        subst hspot
        have hb : b < W.heap.size := by have := hcell 0 (by omega); rw [add_plain] at this; exact lt_of_cell this
        have t0 := shut_ints (enc := enc) (P := Tryz.prog) (w := W') (base := 0) (spare := fun b => decide (b < W.heap.size)) (held := true) (a := ⟨b, off, none⟩) (len := len) (cap := cap) (zs := zs) 0 Tryz.underlying28 Tryz.underlying2 cells_i64 (Nat.zero_le _) hl hm (by simp [hb, hz]) (fun i hi => by
          have := hcell i hi
          rw [add_plain] at this ⊢
          exact hX.cell_of this) hwz
        exact ⟨2, by simpa [Value.cells] using t0⟩
end Go.Proofs.YtafjmpaefikdcaaGreatDoor
