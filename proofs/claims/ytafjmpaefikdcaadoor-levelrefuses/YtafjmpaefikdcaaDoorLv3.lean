
/- The document's own answers of layer 13 (what may be asked, the walk, the search), as contracts: no statement of the seat is proved here. -/
import Derived.Test.YtafjmpaefikdcaaDoorLv2
namespace Go.Proofs.YtafjmpaefikdcaaDoor
open Go.RowKit
open L12 (Rbr Rst bq br Ask)
open L8 (Slc)
set_option linter.unusedVariables false

/-- A slice of numbers that came in, or was made: where its numbers are. -/
structure Sll (w : World) (sa : Option Addr) (T : Nat) (l : List Int) : Prop where
  len : l.length = T
  at_ : ∀ (k : Nat) (x : Int), l[k]? = some x → ∃ b off, sa = some ⟨b, off, none⟩ ∧ w.cell? ⟨b, off + k, none⟩ = some (.int .i64 x)
theorem Sll.ext {w w' : World} {sa : Option Addr} {T : Nat} {l : List Int} (h : Sll w sa T l) (hx : Ext w w') : Sll w' sa T l :=
  ⟨h.len, fun k x hk => by obtain ⟨b, off, e, hc⟩ := h.at_ k x hk; exact ⟨b, off, e, hx.cell_of hc⟩⟩
theorem sll_of {w : World} {v : Value} {l : List Int} (h : Slc w v l) : ∃ sa c, v = .slice sa l.length c ∧ Sll w sa l.length l := by
  rcases h with ⟨a, c, rfl, _, rfl⟩ | ⟨b, off, c, rfl, hc⟩
  · exact ⟨_, _, rfl, rfl, fun k x hk => by simp at hk⟩
  · exact ⟨_, _, rfl, rfl, fun k x hk => ⟨b, off, rfl, hc k x hk⟩⟩
/-- Which error tells what is wrong with what is asked. -/
def askE (p : Prd) (l : List Int) (a : Int) (E : Int) : Prop := (okP p = false ∧ E = 9) ∨ (okP p = true ∧ ¬ Okl p.tm l a ∧ E = 1) ∨ (okP p = true ∧ Okl p.tm l a ∧ E = 0)
theorem askE_ex (p : Prd) (l : List Int) (a : Int) : ∃ E, askE p l a E := by
  cases h : okP p
  · exact ⟨9, Or.inl ⟨h, rfl⟩⟩
  · by_cases k : Okl p.tm l a
    · exact ⟨0, Or.inr (Or.inr ⟨h, k, rfl⟩)⟩
    · exact ⟨1, Or.inr (Or.inl ⟨h, k, rfl⟩)⟩
theorem Okl.iff (T : Nat) (t a : Int) (l : List Int) (hT : l.length = T) : Okl t l a ↔ ((((T : Int) = t) ∧ 1 ≤ a) ∧ a ≤ 10000000000000) ∧ ∀ n ∈ l.take T, 0 ≤ n ∧ n ≤ 267180 := by
  rw [List.take_of_length_le (by omega)]
  unfold Okl
  constructor
  · rintro ⟨h1, h2, h3, h4⟩; exact ⟨⟨⟨by omega, h3⟩, h4⟩, h2⟩
  · rintro ⟨⟨⟨h1, h3⟩, h4⟩, h2⟩; exact ⟨by omega, h2, h3, h4⟩
theorem take_succ_iff {l : List Int} {k : Nat} {u : Int} (h : l[k]? = some u) (A : Prop) : (A ∧ ∀ n ∈ l.take (k + 1), 0 ≤ n ∧ n ≤ 267180) ↔ (A ∧ ∀ n ∈ l.take k, 0 ≤ n ∧ n ≤ 267180) ∧ (0 ≤ u ∧ u ≤ 267180) := by
  rw [List.take_add_one, h]
  simp only [Option.toList_some, List.mem_append, List.mem_singleton]
  constructor
  · rintro ⟨a, b⟩; exact ⟨⟨a, fun n hn => b n (Or.inl hn)⟩, b u (Or.inr rfl)⟩
  · rintro ⟨⟨a, b⟩, c⟩; exact ⟨a, fun n hn => hn.elim (b n) (fun e => e ▸ c)⟩
end Go.Proofs.YtafjmpaefikdcaaDoor
