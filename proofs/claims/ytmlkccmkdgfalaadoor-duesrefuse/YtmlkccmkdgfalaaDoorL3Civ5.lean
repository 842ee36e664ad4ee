
/- Date and Weekday of the document's own, as contracts: no statement of the seat is proved here. -/
import Derived.Test.YtmlkccmkdgfalaaDoorL3Civ4
namespace Go.Proofs.YtmlkccmkdgfalaaDoor.L3
open Go.RowKit
set_option linter.unusedVariables false

/-- The number in a cell. -/
def cellInt (w : World) (b o : Nat) : Int := match w.cell? ⟨b, o, none⟩ with | some (.int _ n) => n | _ => 0
theorem cellInt_of {w : World} {b o : Nat} {k : IntKind} {n : Int} (h : w.cell? ⟨b, o, none⟩ = some (.int k n)) : cellInt w b o = n := by unfold cellInt; rw [h]
/-- The result's cells and those of the date that is sought. -/
structure Dst (w wr : World) (r b : Nat) (y m d : Int) : Prop where
  ext : Ext w wr
  lo : w.heap.size ≤ r
  ne : r < b
  r0 : wr.cell? ⟨r, 0, none⟩ = some (.int .i64 0)
  r1 : wr.cell? ⟨r, 1, none⟩ = some (.int .i64 0)
  r2 : wr.cell? ⟨r, 2, none⟩ = some (.int .i64 0)
  b0 : wr.cell? ⟨b, 0, none⟩ = some (.int .i64 y)
  b1 : wr.cell? ⟨b, 1, none⟩ = some (.int .i64 m)
  b2 : wr.cell? ⟨b, 2, none⟩ = some (.int .i64 d)
  f0 : wr.frozen? ⟨r, 0, none⟩ = false
  f1 : wr.frozen? ⟨r, 1, none⟩ = false
  f2 : wr.frozen? ⟨r, 2, none⟩ = false
  g0 : wr.frozen? ⟨b, 0, none⟩ = false
  g1 : wr.frozen? ⟨b, 1, none⟩ = false
  g2 : wr.frozen? ⟨b, 2, none⟩ = false
theorem Dst.start (w : World) (y m : Int) (t : TypeId) :
    ∃ W r b, (w.alloc (.cells #[.int .i64 0, .int .i64 0, .int .i64 0] t)).alloc (.cells #[.int .i64 y, .int .i64 m, .int .i64 0] t) = W ∧ w.heap.size = r ∧ r + 1 = b ∧ Dst w W r b y m 0 :=
  ⟨_, _, _, rfl, rfl, rfl, ((Ext.refl w).alloc _ _).alloc _ _, Nat.le_refl _, by omega, by simp [go_sem], by simp [go_sem], by simp [go_sem], by simp [go_sem], by simp [go_sem], by simp [go_sem],
    by simp [go_sem], by simp [go_sem], by simp [go_sem], by simp [go_sem], by simp [go_sem], by simp [go_sem]⟩
theorem other {w : World} {b o b' o' : Nat} (x : Value) (h : b ≠ b' ∨ o ≠ o') : (w.setCell ⟨b, o, none⟩ x).cell? ⟨b', o', none⟩ = w.cell? ⟨b', o', none⟩ :=
  by
    apply World.cell?_setCell_other
    intro e
    injection e with e1 e2
    omega
theorem same {w : World} {a : Addr} {v u : Value} (h : w.cell? a = some u) : (w.setCell a v).cell? a = some v := by
  apply World.cell?_setCell_same
  exact h
theorem Dst.year {w wr : World} {r b : Nat} {y m d : Int} (h : Dst w wr r b y m d) (z : Int) : Dst w (wr.setCell ⟨b, 0, none⟩ (.int .i64 z)) r b z m d := by
  have := h.ne; have := h.lo
  exact ⟨h.ext.setCell (show w.heap.size ≤ b by omega) _, h.lo, h.ne, by rw [other _ (by omega)]; exact h.r0, by rw [other _ (by omega)]; exact h.r1, by rw [other _ (by omega)]; exact h.r2,
    same h.b0, by rw [other _ (by omega)]; exact h.b1, by rw [other _ (by omega)]; exact h.b2,
    by simpa using h.f0, by simpa using h.f1, by simpa using h.f2, by simpa using h.g0, by simpa using h.g1, by simpa using h.g2⟩
theorem Dst.month {w wr : World} {r b : Nat} {y m d : Int} (h : Dst w wr r b y m d) (z : Int) : Dst w (wr.setCell ⟨b, 1, none⟩ (.int .i64 z)) r b y z d := by
  have := h.ne; have := h.lo
  exact ⟨h.ext.setCell (show w.heap.size ≤ b by omega) _, h.lo, h.ne, by rw [other _ (by omega)]; exact h.r0, by rw [other _ (by omega)]; exact h.r1, by rw [other _ (by omega)]; exact h.r2,
    by rw [other _ (by omega)]; exact h.b0, same h.b1, by rw [other _ (by omega)]; exact h.b2,
    by simpa using h.f0, by simpa using h.f1, by simpa using h.f2, by simpa using h.g0, by simpa using h.g1, by simpa using h.g2⟩
theorem Dst.day {w wr : World} {r b : Nat} {y m d : Int} (h : Dst w wr r b y m d) (z : Int) : Dst w (wr.setCell ⟨b, 2, none⟩ (.int .i64 z)) r b y m z := by
  have := h.ne; have := h.lo
  exact ⟨h.ext.setCell (show w.heap.size ≤ b by omega) _, h.lo, h.ne, by rw [other _ (by omega)]; exact h.r0, by rw [other _ (by omega)]; exact h.r1, by rw [other _ (by omega)]; exact h.r2,
    by rw [other _ (by omega)]; exact h.b0, by rw [other _ (by omega)]; exact h.b1, same h.b2,
    by simpa using h.f0, by simpa using h.f1, by simpa using h.f2, by simpa using h.g0, by simpa using h.g1, by simpa using h.g2⟩

theorem Dst.done {w wr : World} {r b : Nat} {y m d : Int} (h : Dst w wr r b y m d) (z : Int) :
    ∃ W, (((wr.setCell ⟨b, 2, none⟩ (.int .i64 z)).setCell ⟨r, 0, none⟩ (.int .i64 y)).setCell ⟨r, 1, none⟩ (.int .i64 m)).setCell ⟨r, 2, none⟩ (.int .i64 z) = W ∧
      W.cell? ⟨r, 0, none⟩ = some (.int .i64 y) ∧ W.cell? ⟨r, 1, none⟩ = some (.int .i64 m) ∧ W.cell? ⟨r, 2, none⟩ = some (.int .i64 z) ∧ Ext w W := by
  have k := h.day z
  have := h.ne; have := h.lo
  refine ⟨_, rfl, ?_, ?_, ?_, ?_⟩
  · rw [other _ (by omega), other _ (by omega)]; exact same k.r0
  · rw [other _ (by omega)]; exact same (by rw [other _ (by omega)]; exact k.r1)
  · exact same (by rw [other _ (by omega), other _ (by omega)]; exact k.r2)
  · exact ((k.ext.setCell (show w.heap.size ≤ r from h.lo) _).setCell (show w.heap.size ≤ r from h.lo) _).setCell (show w.heap.size ≤ r from h.lo) _

end Go.Proofs.YtmlkccmkdgfalaaDoor.L3