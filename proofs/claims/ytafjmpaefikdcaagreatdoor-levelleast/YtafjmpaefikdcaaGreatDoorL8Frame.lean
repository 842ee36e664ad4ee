
/- From a plain row of the seat to its walk: a row of ints, and of bytes, among the arguments: no statement of the seat is proved here. -/
import Derived.Test.YtafjmpaefikdcaaGreatDoorL8Pr10
import Derived.Test.YtafjmpaefikdcaaGreatDoorRows
import Derived.ChangeSlices
import Derived.ChangeSame
import Derived.ProofKit
import Derived.OpenShut
import Derived.ShutString
namespace Go.Proofs.YtafjmpaefikdcaaGreatDoor.L8
open Go.RowKit Go.ChangeShapes Go.WideShapes Go.ChangeAt

theorem own : ownKnob Tryz.prog.godebug = none := by kernel_rfl
theorem cells_int : Tryz.prog.cellsOf 3 = 1 := by kernel_rfl
theorem cells_u8 : Tryz.prog.cellsOf 5 = 1 := by kernel_rfl
theorem bounds_u8 {n : Int} (h : (Lit.int .u8 n).wf = true) : 0 ≤ n ∧ n ≤ 255 := by
  simp only [Lit.wf, Bool.and_eq_true, decide_eq_true_eq] at h
  exact h
/-- A slice of these bytes. -/
def Slu (w : World) (v : Value) (l : List Int) : Prop :=
  (∃ a c, v = .slice a 0 c ∧ (a = none → c = 0) ∧ l = []) ∨ ∃ b off c, v = .slice (some ⟨b, off, none⟩) l.length c ∧ ∀ (k : Nat) (x : Int), l[k]? = some x → w.cell? ⟨b, off + k, none⟩ = some (.int .u8 x)
set_option maxRecDepth 100000 in
/-- A slice of ints among the arguments: its numbers; and it reads the same behind a call that only makes new memory. -/
theorem open_slc {H : Type} {enc : TypeId × Value → H} {W : World} {base : Nat} {v : Value} {d : DataW H} {ps : List MemPlace} (hval : Value.okWide Tryz.prog W .any base 25 v) (h : DataW.Trod enc Tryz.prog W 0 (fun _ => true) true 25 v d ps) :
    ∃ l : List Int, Slc W v l ∧ l.length ≤ maxLen ∧ (∀ x ∈ l, I64 x) ∧ ∀ W' : World, Ext W W' → DataW.Trod enc Tryz.prog W' 0 (fun b => decide (b < W.heap.size)) true 25 v d ps := by
  obtain ⟨a0, len, cap, rfl⟩ := okWide_slice Tryz.underlying25 hval
  obtain ⟨fuel, hf⟩ := h
  rcases open_ints Tryz.underlying25 Tryz.underlying3 cells_int hf with ⟨hcs, hx⟩ | ⟨a, len', cap', zs, hcs, _, hl, hm, hz, hx, hcell, hwz⟩
  · simp [Value.cells] at hcs
    obtain ⟨rfl, rfl, rfl⟩ := hcs
    simp only [Prod.mk.injEq] at hx
    obtain ⟨rfl, rfl⟩ := hx
    exact ⟨[], Or.inl ⟨none, 0, rfl, (fun _ => rfl), rfl⟩, Nat.zero_le _, (fun x hx => by cases hx), fun W' _ => shut_slice_nil Tryz.underlying25⟩
  · simp [Value.cells] at hcs
    obtain ⟨rfl, rfl, rfl⟩ := hcs
    simp only [Prod.mk.injEq] at hx
    obtain ⟨rfl, rfl⟩ := hx
    simp only [if_true] at hz
    have hwz' := hwz
    refine ⟨zs.take len, ?_, by simp; omega, fun x hx => bounds_i64 (hwz x (List.mem_of_mem_take hx)), fun W' hX => ?_⟩
    · by_cases hl0 : len = 0
      · subst hl0
        exact Or.inl ⟨some a, cap, rfl, (fun h => by cases h), by simp⟩
      · obtain ⟨b, off, spot⟩ := a
        have hspot : spot = none := by simpa [Addr.add] using World.cell?_spot (hcell 0 (by omega))
        subst hspot
        refine Or.inr ⟨b, off, cap, by rw [List.length_take, Nat.min_eq_left (by omega)], fun k x hk => ?_⟩
        have hk' : k < len := by
          have := (List.getElem?_eq_some_iff.1 hk).1
          simp at this; omega
        have := hcell k (by omega)
        rw [List.getElem?_take_of_lt hk'] at hk
        rw [add_plain] at this
        simpa [List.getD, hk] using this
    · by_cases hz0 : zs.length = 0
      · have hc0 : cap = 0 := by omega
        have hl0 : len = 0 := by omega
        subst hc0; subst hl0
        have t0 := shut_ints (enc := enc) (P := Tryz.prog) (w := W') (base := 0) (spare := fun b => decide (b < W.heap.size)) (held := true) (a := a) (len := 0) (cap := 0) (zs := zs) 0 Tryz.underlying25 Tryz.underlying3 cells_int (Nat.zero_le _) (Nat.le_refl _) hm (by simp [hz0]) (fun i hi => by omega) hwz
        exact ⟨2, by simpa [Value.cells] using t0⟩
      · obtain ⟨b, off, spot⟩ := a
        have hspot : spot = none := by simpa [Addr.add] using World.cell?_spot (hcell 0 (by omega))
        subst hspot
        have hb : b < W.heap.size := by have := hcell 0 (by omega); rw [add_plain] at this; exact lt_of_cell this
        have t0 := shut_ints (enc := enc) (P := Tryz.prog) (w := W') (base := 0) (spare := fun b => decide (b < W.heap.size)) (held := true) (a := ⟨b, off, none⟩) (len := len) (cap := cap) (zs := zs) 0 Tryz.underlying25 Tryz.underlying3 cells_int (Nat.zero_le _) hl hm (by simp [hb, hz]) (fun i hi => by
          have := hcell i hi
          rw [add_plain] at this ⊢
          exact hX.cell_of this) hwz
        exact ⟨2, by simpa [Value.cells] using t0⟩
end Go.Proofs.YtafjmpaefikdcaaGreatDoor.L8