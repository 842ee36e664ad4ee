/- Texts of an elder layer, one behind the other (layer 4), as contracts: no statement of the seat is proved here. -/
import Derived.Test.YtafjmpaefikdcaaDoorM3
import Derived.StillTailTactics
/- Add of package monthly, and the document's own, as contracts: no statement of the seat is proved here. -/
namespace Go.Proofs.YtafjmpaefikdcaaDoor.L4
open Go.Proofs.YtafjmpaefikdcaaDoor.L3
open Go.RowKit
set_option linter.unusedVariables false
set_option maxRecDepth 100000

/-- A struct of three numbers, laid in a new block that may be written. -/
theorem box3f (w : World) (x y z : Value) (t : TypeId) : ∃ W b, w.alloc (.cells #[x, y, z] t) = W ∧ w.heap.size = b ∧ Ext w W ∧ W.cell? ⟨b, 0, none⟩ = some x ∧ W.cell? ⟨b, 1, none⟩ = some y ∧ W.cell? ⟨b, 2, none⟩ = some z ∧
    W.frozen? ⟨b, 0, none⟩ = false ∧ W.frozen? ⟨b, 1, none⟩ = false ∧ W.frozen? ⟨b, 2, none⟩ = false :=
  ⟨_, _, rfl, rfl, (Ext.refl w).alloc _ _, by simp [go_sem], by simp [go_sem], by simp [go_sem], by simp [go_sem], by simp [go_sem], by simp [go_sem]⟩
/-- A region that draws its order, whose first n operations leave the world as it is, and whose others come in their order behind them. -/
theorem wp_region_tail {P : Program} {id : Nat} {Q : Exit → Act → World → Prop} {a : Act} {w : World} {l : List Oper} (n : Nat) (hm : P.follows .mixedOrders = true) (hB : Region.lexTailB .any l.toArray n = true)
    (h : ∀ W, Ext w W → wpStill P l.toArray W (fun a' => wpList P l.toArray Q (l.drop n) a' W) (l.take n) a) : (Code.region id l.toArray true).wp P Q a w :=
  wp_region_still_tail n hm hB (h _ ((Ext.refl w).drew))
end Go.Proofs.YtafjmpaefikdcaaDoor.L4
/- The method add of package monthly's date, as a contract: no statement of the seat is proved here. -/
namespace Go.Proofs.YtafjmpaefikdcaaDoor.L4
open Go.Proofs.YtafjmpaefikdcaaDoor.L3
open Go.RowKit
set_option linter.unusedVariables false
set_option maxRecDepth 100000

end Go.Proofs.YtafjmpaefikdcaaDoor.L4
/- The document's own Add, and awake, as contracts: no statement of the seat is proved here. -/
namespace Go.Proofs.YtafjmpaefikdcaaDoor.L4
open Go.Proofs.YtafjmpaefikdcaaDoor.L3
open Go.RowKit
set_option linter.unusedVariables false
set_option maxRecDepth 100000

theorem rO (y m k : Int) : (12 * y + m - 1 + k) / 12 = yO (mi y m + k) ∧ (12 * y + m - 1 + k) % 12 + 1 = mO (mi y m + k) := by unfold yO mO mi; omega
theorem nA_awake : nA 19753 1 = 19782 ∧ nE 19753 1 = 0 := by decide
end Go.Proofs.YtafjmpaefikdcaaDoor.L4
/- A row of numbers in new memory; series and Dates of package monthly, as contracts: no statement of the seat is proved here. -/
namespace Go.Proofs.YtafjmpaefikdcaaDoor.L4
open Go.Proofs.YtafjmpaefikdcaaDoor.L3
open Go.RowKit
set_option linter.unusedVariables false
set_option maxRecDepth 100000

/-- A block's first T cells are the numbers f 0, f 1 .. -/
structure Arr (w : World) (g T : Nat) (f : Nat → Int) : Prop where
  cell : ∀ j, j < T → w.cell? ⟨g, j, none⟩ = some (.int .i64 (f j))
  free : ∀ j, j < T → w.frozen? ⟨g, j, none⟩ = false
theorem Arr.ext {w w' : World} {g T : Nat} {f : Nat → Int} (h : Arr w g T f) (hx : Ext w w') : Arr w' g T f :=
  ⟨fun j hj => hx.cell_of (h.cell j hj), fun j hj => hx.froz_of (h.cell j hj) (h.free j hj)⟩
/-- The first k are f's, the others 0. -/
def upTo (f : Nat → Int) (k : Nat) : Nat → Int := fun j => if j < k then f j else 0
theorem Arr.store {w : World} {g T : Nat} {f : Nat → Int} {k : Nat} (h : Arr w g T (upTo f k)) (v : Int) (hv : f k = v) : Arr (w.setCell ⟨g, k, none⟩ (.int .i64 v)) g T (upTo f (k + 1)) := by
  refine ⟨fun j hj => ?_, fun j hj => by simpa using h.free j hj⟩
  by_cases hjk : j = k
  · subst hjk
    rw [same (h.cell j hj)]
    simp [upTo, hv]
  · rw [other _ (Or.inr (fun e => hjk e.symm)), h.cell j hj]
    unfold upTo
    by_cases c : j < k
    · rw [if_pos c, if_pos (by omega)]
    · rw [if_neg c, if_neg (by omega)]
theorem Arr.full {w : World} {g T : Nat} {f : Nat → Int} (h : Arr w g T (upTo f T)) : Arr w g T f :=
  ⟨fun j hj => by rw [h.cell j hj]; unfold upTo; rw [if_pos hj], h.free⟩
theorem Arr.made {w' : World} {B g T : Nat} {e : TypeId} {f : Nat → Int} (h : w'.ownsRow B e 1 (.slice (some ⟨g, 0, none⟩) T T) T (madeCells #[Value.int .i64 0] T).toList) : Arr w' g T (upTo f 0) := by
  refine ⟨fun j hj => ?_, fun j _ => h.frozenAt j⟩
  rw [h.cellAt j (by omega)]
  have : (madeCells #[Value.int .i64 0] T).toList = List.replicate T (.int .i64 0) := toList_madeCells_one _ _
  rw [this]
  simp [upTo, hj]
theorem info_int : (Tryd.prog.info? 3).map (fun i => (i.zero, i.size, i.bytes)) = some (some (.int .i64 0), 1, 8) := by kernel_rfl
theorem mul_bd (ev : Int) (k : Nat) (e1 : 1 ≤ ev) (e2 : ev ≤ 12) (hk : k < 600) : 1 ≤ ev * ((k : Int) + 1) ∧ ev * ((k : Int) + 1) ≤ 7200 := by
  have h1 : ev * 1 ≤ ev * ((k : Int) + 1) := Int.mul_le_mul_of_nonneg_left (by omega) (by omega)
  have h2 : ev * ((k : Int) + 1) ≤ 12 * ((k : Int) + 1) := Int.mul_le_mul_of_nonneg_right e2 (by omega)
  omega
/-- The k-th day of the series, from 0 on. -/
def serA (n ev : Int) (k : Nat) : Int := nA n (ev * ((k : Int) + 1))
def serE (n ev : Int) (k : Nat) : Int := nE n (ev * ((k : Int) + 1))

end Go.Proofs.YtafjmpaefikdcaaDoor.L4
/- Dates of package monthly, as a contract: no statement of the seat is proved here. -/
namespace Go.Proofs.YtafjmpaefikdcaaDoor.L4
open Go.Proofs.YtafjmpaefikdcaaDoor.L3
open Go.RowKit
set_option linter.unusedVariables false
set_option maxRecDepth 100000

/-- The first of T places at which it does not hold. -/
theorem first_not (p : Nat → Prop) : ∀ T : Nat, (∀ j, j < T → p j) ∨ ∃ J, J < T ∧ ¬ p J ∧ ∀ j, j < J → p j
  | 0 => Or.inl fun j hj => absurd hj (Nat.not_lt_zero _)
  | T + 1 => by
    rcases first_not p T with h | ⟨J, h1, h2, h3⟩
    · by_cases c : p T
      · exact Or.inl fun j hj => by
          by_cases e : j = T
          · exact e ▸ c
          · exact h j (by omega)
      · exact Or.inr ⟨T, by omega, c, h⟩
    · exact Or.inr ⟨J, by omega, h2, h3⟩
theorem serE_two (n ev : Int) (k : Nat) : serE n ev k = 0 ∨ serE n ev k = 5 := nE_two _ _

end Go.Proofs.YtafjmpaefikdcaaDoor.L4
/- The document's own Dates, as a contract: no statement of the seat is proved here. -/
namespace Go.Proofs.YtafjmpaefikdcaaDoor.L4
open Go.Proofs.YtafjmpaefikdcaaDoor.L3
open Go.RowKit
set_option linter.unusedVariables false
set_option maxRecDepth 100000

/-- The first k of f, as values. -/
def ints (f : Nat → Int) (k : Nat) : List Value := (List.range k).map fun j => .int .i64 (f j)
theorem ints_succ (f : Nat → Int) (k : Nat) : ints f (k + 1) = ints f k ++ [.int .i64 (f k)] := by simp [ints, List.range_succ]
theorem ints_length (f : Nat → Int) (k : Nat) : (ints f k).length = k := by simp [ints]
theorem Arr.of_own {w : World} {B : Nat} {e : TypeId} {v : Value} {T : Nat} {f : Nat → Int} (hT : 1 ≤ T) (h : w.ownsRow B e 1 v T (ints f T)) : ∃ g c, v = .slice (some ⟨g, 0, none⟩) T c ∧ Arr w g T f := by
  have h' := h
  rcases h'.2 with ⟨_, h0⟩ | ⟨g, c, cur, rfl, _⟩
  · omega
  · refine ⟨g, c, rfl, fun j hj => ?_, fun j _ => h.frozenAt j⟩
    rw [h.cellAt j (by omega)]
    simp [ints, hj]
theorem own_ext {w w' : World} {B : Nat} {e : TypeId} {z : Nat} {v : Value} {T : Nat} {xs : List Value} (h : w.ownsRow B e z v T xs) (hx : Ext w w') : w'.ownsRow B e z v T xs := by
  refine ⟨h.1, ?_⟩
  rcases h.2 with h0 | ⟨g, c, cur, h1, h2, h3, h4⟩
  · exact Or.inl h0
  · refine Or.inr ⟨g, c, cur, h1, h2, ?_, h4⟩
    rw [hx.below.block g (Array.getElem?_eq_some_iff.1 h3).1]
    exact h3
theorem own_lo {w : World} {B : Nat} {e : TypeId} {z : Nat} {v : Value} {T : Nat} {xs : List Value} (h : w.ownsRow B e z v T xs) : ∀ k, v.ownBlock = some k → B ≤ k := fun k hk => (h.lt k hk).1
theorem mul_comm' (ev : Int) (k : Nat) : ((k : Int) + 1) * ev = ev * ((k : Int) + 1) := Int.mul_comm _ _
end Go.Proofs.YtafjmpaefikdcaaDoor.L4
