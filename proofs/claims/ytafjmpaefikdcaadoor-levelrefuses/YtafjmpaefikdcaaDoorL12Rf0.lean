
/- The document's own Whole, New, times and plus of layer 12, as contracts: no statement of the seat is proved here. -/
import Derived.Test.YtafjmpaefikdcaaDoorL12Gr3
import Derived.Test.YtafjmpaefikdcaaDoorL12Vl
import Derived.Deep.AppendSrc
namespace Go.Proofs.YtafjmpaefikdcaaDoor.L12
open Go.RowKit
set_option linter.unusedVariables false

theorem own_ext {w w' : World} {B : Nat} {e : TypeId} {z : Nat} {v : Value} {T : Nat} {xs : List Value} (h : w.ownsRow B e z v T xs) (hx : Ext w w') : w'.ownsRow B e z v T xs := by
  refine ⟨h.1, ?_⟩
  rcases h.2 with h0 | ⟨g, c, cur, h1, h2, h3, h4⟩
  · exact Or.inl h0
  · refine Or.inr ⟨g, c, cur, h1, h2, ?_, h4⟩
    rw [hx.below.block g (Array.getElem?_eq_some_iff.1 h3).1]
    exact h3
theorem own_lo {w : World} {B : Nat} {e : TypeId} {z : Nat} {v : Value} {T : Nat} {xs : List Value} (h : w.ownsRow B e z v T xs) : ∀ k, v.ownBlock = some k → B ≤ k := fun k hk => (h.lt k hk).1
theorem info_i64 : (Tryd.prog.info? 2).map (fun i => (i.zero, i.size, i.bytes)) = some (some (.int .i64 0), 1, 8) := by kernel_rfl
/-- The document's bearer in its block: the parts of a year, whether halves go up, the rest. -/
structure Rbr (w : World) (C : Nat) (P : Int) (up : Bool) (r : Int) : Prop where
  c0 : w.cell? ⟨C, 0, none⟩ = some (.int .i64 P)
  c1 : w.cell? ⟨C, 1, none⟩ = some (.bool up)
  c2 : w.cell? ⟨C, 2, none⟩ = some (.int .i64 r)
  fz : w.frozen? ⟨C, 2, none⟩ = false
theorem Rbr.ext {w w' : World} {C : Nat} {P r : Int} {up : Bool} (h : Rbr w C P up r) (hx : Ext w w') : Rbr w' C P up r :=
  ⟨hx.cell_of h.c0, hx.cell_of h.c1, hx.cell_of h.c2, hx.froz_of h.c2 h.fz⟩
theorem Rbr.put {w : World} {C : Nat} {P r : Int} {up : Bool} (h : Rbr w C P up r) (x : Int) : Rbr (w.setCell ⟨C, 2, none⟩ (.int .i64 x)) C P up x :=
  ⟨by rw [other _ (Or.inr (by omega))]; exact h.c0, by rw [other _ (Or.inr (by omega))]; exact h.c1, same h.c2, by simp [go_sem, h.fz]⟩
theorem Rbr.far {w : World} {C D : Nat} {P r : Int} {up : Bool} (h : Rbr w C P up r) (hn : D ≠ C) (o : Nat) (x : Value) : Rbr (w.setCell ⟨D, o, none⟩ x) C P up r :=
  ⟨by rw [other _ (Or.inl hn)]; exact h.c0, by rw [other _ (Or.inl hn)]; exact h.c1, by rw [other _ (Or.inl hn)]; exact h.c2, by simp [go_sem, h.fz]⟩
theorem Rbr.lt {w : World} {C : Nat} {P r : Int} {up : Bool} (h : Rbr w C P up r) : C < w.heap.size := lt_of_cell h.c0
/-- A row of numbers, read. -/
def Row (w : World) (b : Nat) (l : List Int) : Prop := ∀ (k : Nat) (x : Int), l[k]? = some x → w.cell? ⟨b, k, none⟩ = some (.int .i64 x)
theorem Row.ext {w w' : World} {b : Nat} {l : List Int} (h : Row w b l) (hx : Ext w w') : Row w' b l := fun k x hk => hx.cell_of (h k x hk)
/-- Numbers, as values. -/
def nums (l : List Int) : List Value := l.map (.int .i64)
theorem nums_snoc (l : List Int) (d : Int) : nums (l ++ [d]) = nums l ++ [.int .i64 d] := by simp [nums]
theorem nums_len (l : List Int) : (nums l).length = l.length := by simp [nums]
theorem nums_set (l : List Int) (i : Nat) (d : Int) : nums (l.set i d) = (nums l).set i (.int .i64 d) := by simp [nums, List.map_set]
theorem Row.of_own {w : World} {B : Nat} {e : TypeId} {v : Value} {n : Nat} {l : List Int} (hn : l.length = n) (h1 : 1 ≤ n) (h : w.ownsRow B e 1 v n (nums l)) :
    ∃ g c, v = .slice (some ⟨g, 0, none⟩) n c ∧ Row w g l ∧ ∀ j, w.frozen? ⟨g, j, none⟩ = false := by
  have h' := h
  rcases h'.2 with ⟨_, h0⟩ | ⟨g, c, cur, rfl, _⟩
  · omega
  · refine ⟨g, c, rfl, fun k x hk => ?_, fun j => h.frozenAt j⟩
    have hlt : k < n := by have := (List.getElem?_eq_some_iff.1 hk).1; omega
    rw [h.cellAt k (by omega)]
    simp [nums, hk]
end Go.Proofs.YtafjmpaefikdcaaDoor.L12