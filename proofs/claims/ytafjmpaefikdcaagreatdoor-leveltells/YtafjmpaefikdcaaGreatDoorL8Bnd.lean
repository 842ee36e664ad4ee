
/- The plain product, laid in a block by the statements, with a tier: no statement of the seat is proved here. -/
import Derived.Test.YtafjmpaefikdcaaGreatDoorL8Frame
namespace Go.Proofs.YtafjmpaefikdcaaGreatDoor.L8
open Go.RowKit
set_option linter.unusedVariables false

theorem sz_plain : plainA.size = 19 := rfl
/-- The plain product in a block of its own, as the law has laid it there. -/
theorem lay_plain (w : World) : ∃ W0 W1 b, w.alloc (.cells #[.string ⟨#[]⟩, .int .i64 0, .int .i64 0, .int .i64 0, .int .i64 0, .int .i64 0, .int .i64 0, .int .i64 0, .slice none 0 0, .int .i64 0, .int .i64 0, .int .i64 0, .int .i64 0, .int .i64 0, .int .i64 0, .slice none 0 0, .int .i64 0, .int .i64 0, .slice none 0 0] 27) = W0 ∧ w.heap.size = b ∧ W0.heap.size = b + 1 ∧ (storeCells ⟨b, 0, none⟩ plainA.toList 0).run Tryz.prog W0 = .ok () W1 ∧ W1.heap.size = b + 1 ∧ Blk W1 b plainA ∧ Ext w W1 :=
  ⟨_, _, _, rfl, rfl, by simp, run_storeCells_new w 27 _ plainA (by kernel_rfl) rfl (by kernel_rfl), by simp, heap_alloc_last w _, (Ext.refl w).alloc _ _⟩
/-- A whole product out of its block, where it is wanted. -/
theorem load27 {ops : Array Oper} {rest : List Oper} {o : Oper} {a : Act} {w : World} {Q : Exit → Act → World → Prop} {x : Operand} {g : Nat} {cs : Array Value} (hg : Blk w g cs) (hn : cs.size = 19) (ho : o.op = .load 27 x)
    (hx : a.eval x = .pointer (some ⟨g, 0, none⟩)) (hw : Region.wanted o (yielded ops a.tmps) = true)
    (h : wpList Tryz.prog ops Q rest (a.put o.dst (.agg cs)) w) : wpList Tryz.prog ops Q (o :: rest) a w :=
  wpList_step fun K hK => by
    rw [if_pos hw]
    exact wp_load_row _ x ho g hx _ cs (0, 0) _ hg Tryz.underlying27 rfl (by rw [hn]; kernel_rfl) (hK _ _ h)
/-- A row of pairs in a block. -/
theorem slp_row {w : World} {b : Nat} {x y : Int} {t : TypeId} (h : w.heap[b]? = some (.cells #[.int .i64 x, .int .i64 y] t (0, 0))) : Slp w (.slice (some ⟨b, 0, none⟩) 1 1) [(x, y)] :=
  Or.inr ⟨b, 0, 1, rfl, fun k u v hk => by
    match k, hk with
    | 0, hk =>
      obtain ⟨rfl, rfl⟩ : x = u ∧ y = v := by simpa using hk
      exact ⟨(cell_of_row w b 0 _ _ _ h).trans rfl, (cell_of_row w b 1 _ _ _ h).trans rfl⟩
    | k + 1, hk => simp at hk⟩
/-- The tier beside it, and the product that has it. -/
theorem lay_tier {w W1 : World} {b : Nat} (hs : W1.heap.size = b + 1) (hB : Blk W1 b plainA) (hx : Ext w W1) (hb : w.heap.size = b) :
    ∃ W2 W3, W1.alloc (.cells #[.int .i64 5, .int .i64 5] 91) = W2 ∧ W2.cell? ⟨b, 15, none⟩ = some (.slice none 0 0) ∧ W2.frozen? ⟨b, 15, none⟩ = false ∧ W2.setCell ⟨b, 15, none⟩ (.slice (some ⟨b + 1, 0, none⟩) 1 1) = W3 ∧
      Blk W3 b #[.string ⟨[104, 111, 109, 101].toArray⟩, .int .i64 2, .int .i64 1, .int .i64 1, .int .i64 1, .int .i64 12, .int .i64 0, .int .i64 60000000, .slice none 0 0, .int .i64 100000000, .int .i64 1, .int .i64 2, .int .i64 3, .int .i64 4, .int .i64 1, .slice (some ⟨b + 1, 0, none⟩) 1 1, .int .i64 0, .int .i64 1, .slice none 0 0] ∧ W3.heap[b + 1]? = some (.cells #[.int .i64 5, .int .i64 5] 91 (0, 0)) ∧ Ext w W3 := by
  have h2 : Blk (W1.alloc (.cells #[.int .i64 5, .int .i64 5] 91)) b plainA := hB.ext ((Ext.refl W1).alloc _ _)
  refine ⟨_, _, rfl, (cell_of_row _ b 15 _ _ _ h2).trans rfl, frozen_of_row _ b 15 _ _ h2, rfl, h2.set 15 _, ?_, (hx.alloc _ _).setCell (show w.heap.size ≤ b by omega) _⟩
  rw [heap_setCell_other _ _ _ _ (by show b + 1 ≠ b; omega), ← hs]
  exact heap_alloc_last W1 _
end Go.Proofs.YtafjmpaefikdcaaGreatDoor.L8