
/- Copies with room behind them, held against each other, as contracts: of ints, of resets, of tiers; no statement of the seat is proved here. -/
import Derived.Test.YtafjmpaefikdcaaGreatDoorL8Pr12
import Derived.Deep.AppendSrc
namespace Go.Proofs.YtafjmpaefikdcaaGreatDoor.L8
open Go.RowKit
set_option linter.unusedVariables false
set_option maxRecDepth 100000

/-- These numbers lie in a block's first cells, and may be written. -/
structure Lst (w : World) (g : Nat) (L : List Int) : Prop where
  cell : ∀ (k : Nat) (x : Int), L[k]? = some x → w.cell? ⟨g, k, none⟩ = some (.int .i64 x)
  free : ∀ (k : Nat) (x : Int), L[k]? = some x → w.frozen? ⟨g, k, none⟩ = false
theorem Lst.ext {w w' : World} {g : Nat} {L : List Int} (h : Lst w g L) (hx : Ext w w') : Lst w' g L :=
  ⟨fun k x hk => hx.cell_of (h.cell k x hk), fun k x hk => hx.froz_of (h.cell k x hk) (h.free k x hk)⟩
theorem Lst.front {w : World} {g : Nat} {L M : List Int} (h : Lst w g (L ++ M)) : Lst w g L :=
  ⟨fun k x hk => h.cell k x (by rw [List.getElem?_append_left (List.getElem?_eq_some_iff.1 hk).1]; exact hk), fun k x hk => h.free k x (by rw [List.getElem?_append_left (List.getElem?_eq_some_iff.1 hk).1]; exact hk)⟩
/-- A block of so many cells that may be written. -/
def Cells (w : World) (g T : Nat) : Prop := ∀ k, k < T → (∃ u, w.cell? ⟨g, k, none⟩ = some u) ∧ w.frozen? ⟨g, k, none⟩ = false
theorem Cells.set {w : World} {g T : Nat} (h : Cells w g T) (j : Nat) (v : Value) : Cells (w.setCell ⟨g, j, none⟩ v) g T := by
  intro k hk
  obtain ⟨⟨u, hu⟩, hf⟩ := h k hk
  refine ⟨?_, by simpa using hf⟩
  by_cases e : k = j
  · subst e; exact ⟨v, same hu⟩
  · exact ⟨u, by rw [other _ (Or.inr (fun h => e h.symm))]; exact hu⟩
theorem Lst.put {w : World} {g T : Nat} {L : List Int} (h : Lst w g L) (hc : Cells w g T) (hT : L.length < T) (v : Int) : Lst (w.setCell ⟨g, L.length, none⟩ (.int .i64 v)) g (L ++ [v]) := by
  have key : ∀ (k : Nat) (x : Int), (L ++ [v])[k]? = some x → (w.setCell ⟨g, L.length, none⟩ (.int .i64 v)).cell? ⟨g, k, none⟩ = some (.int .i64 x) := by
    intro k x hk
    by_cases e : k = L.length
    · subst e
      simp at hk
      subst hk
      obtain ⟨⟨u, hu⟩, _⟩ := hc _ hT
      exact same hu
    · have hlt : k < L.length := by
        have := (List.getElem?_eq_some_iff.1 hk).1
        simp at this; omega
      rw [other _ (Or.inr (fun h => e h.symm))]
      rw [List.getElem?_append_left hlt] at hk
      exact h.cell k x hk
  refine ⟨key, fun k x hk => ?_⟩
  have : k < T := by
    have := (List.getElem?_eq_some_iff.1 hk).1
    simp at this; omega
  simpa using (hc k this).2
theorem Cells.of_own {w : World} {B g n T : Nat} {e : TypeId} {xs : List Value} (h : w.ownsRow B e 1 (.slice (some ⟨g, 0, none⟩) n T) n xs) : Cells w g T := by
  intro k hk
  refine ⟨?_, h.frozenAt k⟩
  rcases h.2 with ⟨h0, _⟩ | ⟨g', c', cur, h1, h2, h3, h4, h5, h6, h7⟩
  · cases h0
  · injection h1 with e1 e2 e3
    injection e1 with e1
    injection e1 with e1
    subst e1; subst e3
    refine ⟨cur[k]'(by omega), ?_⟩
    simp [World.cell?, h3]
theorem Lst.of_own {w : World} {B g T : Nat} {e : TypeId} {l : List Int} (h : w.ownsRow B e 1 (.slice (some ⟨g, 0, none⟩) l.length T) l.length (l.map (.int .i64))) : Lst w g l :=
  ⟨fun k x hk => by rw [h.cellAt k (by have := (List.getElem?_eq_some_iff.1 hk).1; omega)]; simp [hk], fun k x hk => h.frozenAt k⟩
/-- What a slice's address gives to an append of its numbers. -/
theorem Slc.src {w : World} {v : Value} {l : List Int} (h : Slc w v l) : ∃ ao c, v = .slice ao l.length c ∧ (ao = none → l.length = 0 ∧ c = 0) ∧
    ∀ w' : World, Ext w w' → ∀ ad, ao = some ad → ∀ j u, (l.map (Value.int .i64))[j]? = some u → w'.cell? (ad.add j) = some u := by
  rcases h with ⟨a, c, rfl, hn, rfl⟩ | ⟨b, off, c, rfl, hc⟩
  · exact ⟨a, c, rfl, (fun h => ⟨rfl, hn h⟩), fun w' hx ad _ j u hj => by simp at hj⟩
  · refine ⟨_, c, rfl, (fun h => by cases h), fun w' hx ad had j u hj => ?_⟩
    obtain rfl := Option.some.inj had
    simp at hj
    obtain ⟨x, h1, rfl⟩ := hj
    rw [Addr.add_lit]
    exact hx.cell_of (hc j x h1)
theorem Lst.slc {w : World} {g n c : Nat} {l M : List Int} (h : Lst w g (l ++ M)) (hn : l.length = n) : Slc w (.slice (some ⟨g, 0, none⟩) n c) l := by
  subst hn
  exact Or.inr ⟨g, 0, c, rfl, fun k x hk => by rw [Nat.zero_add]; exact h.front.cell k x hk⟩
/-- The cells of pairs. -/
def cellsP (l : List (Int × Int)) : List Value := l.flatMap fun p => [.int .i64 p.1, .int .i64 p.2]
theorem cellsP_len : ∀ l : List (Int × Int), (cellsP l).length = l.length * 2
  | [] => rfl
  | p :: l => by
    show (cellsP l).length + 1 + 1 = _
    rw [cellsP_len l]; simp; omega
theorem cellsP_at : ∀ (l : List (Int × Int)) (k : Nat) (x y : Int), l[k]? = some (x, y) → (cellsP l)[k * 2]? = some (.int .i64 x) ∧ (cellsP l)[k * 2 + 1]? = some (.int .i64 y)
  | [], k, x, y, h => by simp at h
  | p :: l, 0, x, y, h => by
    obtain rfl : p = (x, y) := by simpa using h
    exact ⟨rfl, rfl⟩
  | p :: l, k + 1, x, y, h => by
    have ih := cellsP_at l k x y (by simpa using h)
    have e : (k + 1) * 2 = k * 2 + 2 := by omega
    rw [e]
    exact ih
theorem cellsP_of : ∀ (l : List (Int × Int)) (j : Nat) (u : Value), (cellsP l)[j]? = some u → ∃ k x y, l[k]? = some (x, y) ∧ (j = k * 2 ∧ u = .int .i64 x ∨ j = k * 2 + 1 ∧ u = .int .i64 y)
  | [], j, u, h => by simp [cellsP] at h
  | p :: l, 0, u, h => ⟨0, p.1, p.2, rfl, Or.inl ⟨rfl, by have : some (Value.int .i64 p.1) = some u := h; exact (Option.some.inj this).symm⟩⟩
  | p :: l, 1, u, h => ⟨0, p.1, p.2, rfl, Or.inr ⟨rfl, by have : some (Value.int .i64 p.2) = some u := h; exact (Option.some.inj this).symm⟩⟩
  | p :: l, j + 2, u, h => by
    obtain ⟨k, x, y, h1, h2⟩ := cellsP_of l j u h
    refine ⟨k + 1, x, y, by simpa using h1, ?_⟩
    rcases h2 with ⟨a, b⟩ | ⟨a, b⟩
    · exact Or.inl ⟨by omega, b⟩
    · exact Or.inr ⟨by omega, b⟩
theorem cellsP_one (l : List (Int × Int)) : ∀ u ∈ cellsP l, u.oneCell' = true := fun u hu => by
  simp [cellsP] at hu
  obtain ⟨a, b, _, rfl | rfl⟩ := hu <;> rfl
/-- These pairs lie in a block's first cells, and may be written. -/
structure Lsp (w : World) (g : Nat) (L : List (Int × Int)) : Prop where
  cell : ∀ (k : Nat) (x y : Int), L[k]? = some (x, y) → w.cell? ⟨g, k * 2, none⟩ = some (.int .i64 x) ∧ w.cell? ⟨g, k * 2 + 1, none⟩ = some (.int .i64 y)
theorem Lsp.ext {w w' : World} {g : Nat} {L : List (Int × Int)} (h : Lsp w g L) (hx : Ext w w') : Lsp w' g L :=
  ⟨fun k x y hk => ⟨hx.cell_of (h.cell k x y hk).1, hx.cell_of (h.cell k x y hk).2⟩⟩
theorem Lsp.front {w : World} {g : Nat} {L M : List (Int × Int)} (h : Lsp w g (L ++ M)) : Lsp w g L :=
  ⟨fun k x y hk => h.cell k x y (by rw [List.getElem?_append_left (List.getElem?_eq_some_iff.1 hk).1]; exact hk)⟩
theorem Lsp.slp {w : World} {g c : Nat} {l M : List (Int × Int)} (h : Lsp w g (l ++ M)) : Slp w (.slice (some ⟨g, 0, none⟩) l.length c) l :=
  Or.inr ⟨g, 0, c, rfl, fun k x y hk => by rw [Nat.zero_add]; exact h.front.cell k x y hk⟩
theorem Lsp.put {w : World} {g T : Nat} {L : List (Int × Int)} (h : Lsp w g L) (hc : Cells w g T) (hT : L.length * 2 + 1 < T) (x y : Int) : Lsp ((w.setCell ⟨g, L.length * 2, none⟩ (.int .i64 x)).setCell ⟨g, L.length * 2 + 1, none⟩ (.int .i64 y)) g (L ++ [(x, y)]) := by
  refine ⟨fun k u v hk => ?_⟩
  obtain ⟨⟨c0, hc0⟩, _⟩ := hc (L.length * 2) (by omega)
  obtain ⟨⟨c1, hc1⟩, _⟩ := hc (L.length * 2 + 1) hT
  by_cases e : k = L.length
  · subst e
    simp at hk
    obtain ⟨rfl, rfl⟩ := hk
    exact ⟨by rw [other _ (Or.inr (by omega))]; exact same hc0, same (by rw [other _ (Or.inr (by omega))]; exact hc1)⟩
  · have hlt : k < L.length := by
      have := (List.getElem?_eq_some_iff.1 hk).1
      simp at this; omega
    rw [List.getElem?_append_left hlt] at hk
    have := h.cell k u v hk
    refine ⟨?_, ?_⟩
    · rw [other _ (Or.inr (by omega)), other _ (Or.inr (by omega))]; exact this.1
    · rw [other _ (Or.inr (by omega)), other _ (Or.inr (by omega))]; exact this.2
theorem Cells.of_own2 {w : World} {B g n T : Nat} {e : TypeId} {xs : List Value} (h : w.ownsRow B e 2 (.slice (some ⟨g, 0, none⟩) n T) n xs) : Cells w g (T * 2) := by
  intro k hk
  refine ⟨?_, h.frozenAt k⟩
  rcases h.2 with ⟨h0, _⟩ | ⟨g', c', cur, h1, h2, h3, h4, h5, h6, h7⟩
  · cases h0
  · injection h1 with e1 e2 e3
    injection e1 with e1
    injection e1 with e1
    subst e1; subst e3
    refine ⟨cur[k]'(by omega), ?_⟩
    simp [World.cell?, h3]
theorem Lsp.of_own {w : World} {B g T : Nat} {e : TypeId} {l : List (Int × Int)} (h : w.ownsRow B e 2 (.slice (some ⟨g, 0, none⟩) l.length T) l.length (cellsP l)) : Lsp w g l :=
  ⟨fun k x y hk => by
    have hlt := (List.getElem?_eq_some_iff.1 hk).1
    rw [h.cellAt (k * 2) (by omega), h.cellAt (k * 2 + 1) (by omega)]
    exact cellsP_at l k x y hk⟩
theorem Slp.src {w : World} {v : Value} {l : List (Int × Int)} (h : Slp w v l) : ∃ ao c, v = .slice ao l.length c ∧ (ao = none → l.length = 0 ∧ c = 0) ∧
    ∀ w' : World, Ext w w' → ∀ ad, ao = some ad → ∀ j u, (cellsP l)[j]? = some u → w'.cell? (ad.add j) = some u := by
  rcases h with ⟨a, c, rfl, hn, rfl⟩ | ⟨b, off, c, rfl, hc⟩
  · exact ⟨a, c, rfl, (fun h => ⟨rfl, hn h⟩), fun w' hx ad _ j u hj => by simp [cellsP] at hj⟩
  · refine ⟨_, c, rfl, (fun h => by cases h), fun w' hx ad had j u hj => ?_⟩
    obtain rfl := Option.some.inj had
    obtain ⟨k, x, y, h1, h2⟩ := cellsP_of l j u hj
    rw [Addr.add_lit]
    rcases h2 with ⟨rfl, rfl⟩ | ⟨rfl, rfl⟩
    · exact hx.cell_of (hc k x y h1).1
    · exact hx.cell_of (hc k x y h1).2
theorem fill_two (w : World) (t : TypeId) : ∃ W F, w.alloc (.cells #[.int .i64 71, .int .i64 0] t) = W ∧ w.heap.size = F ∧ Ext w W ∧ W.cell? ⟨F, 0, none⟩ = some (.int .i64 71) ∧ W.cell? ⟨F, 1, none⟩ = some (.int .i64 0) ∧ F < W.heap.size :=
  ⟨_, _, rfl, rfl, (Ext.refl w).alloc _ _, by simp [go_sem], by simp [go_sem], by simp⟩
theorem infoR : (Tryz.prog.info? 89).map (fun i => (i.zero, i.size, i.bytes)) = some (some (.agg #[.int .i64 0, .int .i64 0]), 2, 16) := by kernel_rfl
theorem infoT : (Tryz.prog.info? 91).map (fun i => (i.zero, i.size, i.bytes)) = some (some (.agg #[.int .i64 0, .int .i64 0]), 2, 16) := by kernel_rfl
end Go.Proofs.YtafjmpaefikdcaaGreatDoor.L8