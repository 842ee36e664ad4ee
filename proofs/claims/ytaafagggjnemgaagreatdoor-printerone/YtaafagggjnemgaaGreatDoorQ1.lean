/- Contracts that the proof of this law leans on: no statement of the seat is proved here. -/
import Derived.BigQuiet
import Derived.Deep.QuietTactic
import Derived.Defers
import Derived.Orders
import Derived.Recover
import Derived.Sort.Grow
import Derived.WalkKit
import Derived.WalkLawsBesides
import Derived.WalkSpells

namespace Go.Proofs.YtaafagggjnemgaaGreatDoor
open Go.RowKit
/-- w' is w with new blocks behind it, cells of those written, draws made: nothing that was there has turned. -/
structure Ext (w w' : World) : Prop where
  below : Below w.heap.size w w'
theorem Ext.refl (w : World) : Ext w w := ⟨Below.refl _ _⟩
theorem Ext.trans {a b c : World} (h : Ext a b) (k : Ext b c) : Ext a c := ⟨h.below.trans (k.below.mono h.below.size)⟩
theorem Ext.alloc {w w' : World} (h : Ext w w') (c : Array Value) (t : TypeId) : Ext w (w'.alloc (.cells c t)) := ⟨h.below.alloc h.below.size _⟩
theorem Ext.drew {w w' : World} (h : Ext w w') : Ext w w'.drew := ⟨h.below.drew⟩
theorem Ext.drewN {w w' : World} (h : Ext w w') (n : Nat) : Ext w (w'.drewN n) := ⟨⟨h.below.os, h.below.tape, h.below.output, h.below.size, h.below.block⟩⟩
theorem Ext.grow {w w' : World} (h : Ext w w') (os : Array Obj) : Ext w (Go.Sort.grow w' os) :=
  ⟨h.below.os, h.below.tape, h.below.output, by rw [Go.Sort.size_grow]; have := h.below.size; omega, fun k hk => by
    rw [Go.Sort.heap_grow_old _ _ (Nat.lt_of_lt_of_le hk h.below.size)]; exact h.below.block k hk⟩
theorem Ext.setCell {w w' : World} (h : Ext w w') {a : Addr} (ha : w.heap.size ≤ a.block) (v : Value) : Ext w (w'.setCell a v) := ⟨h.below.setCell ha v⟩
theorem Ext.size {w w' : World} (h : Ext w w') : w.heap.size ≤ w'.heap.size := h.below.size
theorem Ext.cell {w w' : World} (h : Ext w w') : ∀ b o, b < w.heap.size → w'.cell? ⟨b, o, none⟩ = w.cell? ⟨b, o, none⟩ :=
  fun b o hb => h.below.cell (p := ⟨b, o, none⟩) hb
theorem Ext.froz {w w' : World} (h : Ext w w') : ∀ b o, b < w.heap.size → w'.frozen? ⟨b, o, none⟩ = w.frozen? ⟨b, o, none⟩ :=
  fun b o hb => h.below.frozen (p := ⟨b, o, none⟩) hb
theorem lt_of_cell {w : World} {b o : Nat} {v : Value} (h : w.cell? ⟨b, o, none⟩ = some v) : b < w.heap.size := by
  by_cases hb : b < w.heap.size
  · exact hb
  · have : w.heap[b]? = none := by simp; omega
    simp [World.cell?, this] at h
section
variable {P : Program} {ops : Array Oper} {Q : Exit → Act → List Frame → World → Prop} {md : Region.Mode} {a : Act} {cs : List Frame} {w : World}
end
end Go.Proofs.YtaafagggjnemgaaGreatDoor

namespace Go.Proofs.YtaafagggjnemgaaGreatDoor
open Go.RowKit
/-- A world that comes behind w: nothing that was there has turned. -/
structure Late (w : World) where
  to : World
  ext : Ext w to
theorem wp_region_late {P : Program} {id : Nat} {Q : Exit → Act → World → Prop} {a : Act} {w : World} {l : List Oper} (hm : P.follows .mixedOrders = true) (hB : Region.lexB .any l.toArray = true)
    (h : wpQuiet P l.toArray (fun w' => ∃ s : Late w, w' = s.to) (fun a' => ∀ w', (∃ s : Late w, w' = s.to) → Q .normal a' w') l a) : (Code.region id l.toArray true).wp P Q a w :=
  wp_region_quiet (C := fun w' => ∃ s : Late w, w' = s.to) hm hB ⟨⟨_, (Ext.refl w).drew⟩, rfl⟩ (by simpa using h)
theorem late_of {P : Program} {f : FuncId} {args : Array Value} {w : World} {s : Late w} {v : Value}
    (h : Calls P f args s.to fun e w' => e = .returned v ∧ Ext s.to w') : Calls P f args s.to fun e w'' => e = .returned v ∧ ∃ t : Late w, w'' = t.to :=
  h.mono fun _ _ ⟨he, hx⟩ => ⟨he, ⟨_, s.ext.trans hx⟩, rfl⟩
theorem late_same {P : Program} {f : FuncId} {args : Array Value} {w : World} {s : Late w} {v : Value}
    (h : Calls P f args s.to fun e w' => e = .returned v ∧ w' = s.to) : Calls P f args s.to fun e w'' => e = .returned v ∧ ∃ t : Late w, w'' = t.to :=
  h.mono fun _ _ ⟨he, hx⟩ => ⟨he, s, hx⟩
theorem late_ext {w w' : World} (h : ∃ s : Late w, w' = s.to) : Ext w w' := by
  obtain ⟨s, rfl⟩ := h
  exact s.ext
/-- What is read there is read behind it, too. -/
theorem Late.cell {w : World} {b o : Nat} {v : Value} (h : w.cell? ⟨b, o, none⟩ = some v) : ∀ s : Late w, s.to.cell? ⟨b, o, none⟩ = some v :=
  fun s => by rw [s.ext.cell b o (lt_of_cell h)]; exact h
theorem Ext.cell_of {w w' : World} {b o : Nat} {v : Value} (hx : Ext w w') (h : w.cell? ⟨b, o, none⟩ = some v) : w'.cell? ⟨b, o, none⟩ = some v := by
  rw [hx.cell b o (lt_of_cell h)]; exact h
/-- A struct of three numbers, laid in a new block. -/
theorem box3 (w : World) (x y z : Value) (t : TypeId) : ∃ W b, w.alloc (.cells #[x, y, z] t) = W ∧ w.heap.size = b ∧ Ext w W ∧ W.cell? ⟨b, 0, none⟩ = some x ∧ W.cell? ⟨b, 1, none⟩ = some y ∧ W.cell? ⟨b, 2, none⟩ = some z :=
  ⟨_, _, rfl, rfl, (Ext.refl w).alloc _ _, by simp [go_sem], by simp [go_sem], by simp [go_sem]⟩
end Go.Proofs.YtaafagggjnemgaaGreatDoor
