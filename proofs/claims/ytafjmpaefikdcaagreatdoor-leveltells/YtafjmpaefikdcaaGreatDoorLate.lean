
/- A region that draws its order, whose operations read what was there and whose calls only make new memory: one walk serves every order; no program of its own is spoken of here. -/
import Derived.Test.YtafjmpaefikdcaaGreatDoorBase
import Derived.Deep.QuietTactic
import Derived.BigQuiet
namespace Go.Proofs.YtafjmpaefikdcaaGreatDoor
open Go.RowKit

/-- A world that comes behind w: nothing that was there has turned. -/
structure Late (w : World) where
  to : World
  ext : Ext w to
theorem wp_region_late {P : Program} {id : Nat} {Q : Exit → Act → World → Prop} {a : Act} {w : World} {l : List Oper} (hm : P.follows .mixedOrders = true) (hB : Region.lexB .any l.toArray = true)
    (h : wpQuiet P l.toArray (fun w' => ∃ s : Late w, w' = s.to) (fun a' => ∀ w', (∃ s : Late w, w' = s.to) → Q .normal a' w') l a) : (Code.region id l.toArray true).wp P Q a w :=
  wp_region_quiet (C := fun w' => ∃ s : Late w, w' = s.to) hm hB ⟨⟨_, (Ext.refl w).drew⟩, rfl⟩ (by simpa using h)
theorem late_of {P : Program} {f : FuncId} {args : Array Value} {w : World} {s : Late w} {v : Value}
    (h : Calls P f args s.to fun e w' => e = .returned v ∧ Ext s.to w') : Calls P f args s.to fun e w'' => e = .returned v ∧ ∃ t : Late w, w'' = t.to :=
  h.mono fun _ _ ⟨he, hx⟩ => ⟨he, ⟨_, s.ext.trans hx⟩, rfl⟩
theorem late_same {P : Program} {f : FuncId} {args : Array Value} {w : World} {s : Late w} {v : Value}
    (h : Calls P f args s.to fun e w' => e = .returned v ∧ w' = s.to) : Calls P f args s.to fun e w'' => e = .returned v ∧ ∃ t : Late w, w'' = t.to :=
  h.mono fun _ _ ⟨he, hx⟩ => ⟨he, s, hx⟩
theorem late_ext {w w' : World} (h : ∃ s : Late w, w' = s.to) : Ext w w' := by
  obtain ⟨s, rfl⟩ := h
  exact s.ext
/-- What is read there is read behind it, too. -/
theorem Late.cell {w : World} {b o : Nat} {v : Value} (h : w.cell? ⟨b, o, none⟩ = some v) : ∀ s : Late w, s.to.cell? ⟨b, o, none⟩ = some v :=
  fun s => by rw [s.ext.cell b o (lt_of_cell h)]; exact h
theorem Ext.cell_of {w w' : World} {b o : Nat} {v : Value} (hx : Ext w w') (h : w.cell? ⟨b, o, none⟩ = some v) : w'.cell? ⟨b, o, none⟩ = some v := by
  rw [hx.cell b o (lt_of_cell h)]; exact h
/-- A struct of three numbers, laid in a new block. -/
theorem box3 (w : World) (x y z : Value) (t : TypeId) : ∃ W b, w.alloc (.cells #[x, y, z] t) = W ∧ w.heap.size = b ∧ Ext w W ∧ W.cell? ⟨b, 0, none⟩ = some x ∧ W.cell? ⟨b, 1, none⟩ = some y ∧ W.cell? ⟨b, 2, none⟩ = some z :=
  ⟨_, _, rfl, rfl, (Ext.refl w).alloc _ _, by simp [go_sem], by simp [go_sem], by simp [go_sem]⟩
theorem Ext.froz_of {w w' : World} {b o : Nat} {v : Value} (hx : Ext w w') (h : w.cell? ⟨b, o, none⟩ = some v) (k : w.frozen? ⟨b, o, none⟩ = false) : w'.frozen? ⟨b, o, none⟩ = false := by
  rw [hx.froz b o (lt_of_cell h)]; exact k
theorem Ext.grown {w w' : World} (hg : w.grownBy w' none) : Ext w w' := ⟨(Below.refl _ _).grown hg (Nat.le_refl _) (fun k h => by cases h)⟩

end Go.Proofs.YtafjmpaefikdcaaGreatDoor
