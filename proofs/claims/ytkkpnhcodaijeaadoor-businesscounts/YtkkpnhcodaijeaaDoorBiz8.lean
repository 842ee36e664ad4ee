/- Holidays that a statement gathers of a slice's numbers, and what follows of them: no statement of the seat is proved here. -/
import Derived.Test.YtkkpnhcodaijeaaDoorBiz6
import Derived.Test.YtkkpnhcodaijeaaDoorBiz7
namespace Go.Proofs.YtkkpnhcodaijeaaDoor
open Go.RowKit
set_option linter.unusedVariables false

theorem Slc.at {w : World} {ao : Option Addr} {n c k : Nat} {l : List Int} (h : Slc w (.slice ao n c) l) (hk : k < n) : ∃ b off V, ao = some ⟨b, off, none⟩ ∧ l[k]? = some V ∧ w.cell? ⟨b, off + k, none⟩ = some (.int .i64 V) := by
  rcases h with ⟨a, c', e, _, _⟩ | ⟨b, off, c', e, hc⟩
  · injection e with e1 e2 e3; omega
  · injection e with e1 e2 e3
    have hk' : k < l.length := by omega
    exact ⟨b, off, l[k], e1, List.getElem?_eq_getElem hk', hc k _ (List.getElem?_eq_getElem hk')⟩
/-- A list that rises: its last is above all others. -/
theorem srt_last {L : List Int} {z : Int} (h : L.Pairwise (· < ·)) (hz : L[L.length - 1]? = some z) : ∀ x ∈ L, x ≤ z := by
  intro x hx
  obtain ⟨i, hi, rfl⟩ := List.mem_iff_getElem.1 hx
  obtain ⟨hl, rfl⟩ := List.getElem?_eq_some_iff.1 hz
  by_cases e : i = L.length - 1
  · subst e; exact Int.le_refl _
  · have := List.pairwise_iff_getElem.1 h i (L.length - 1) hi hl (by omega)
    omega
/-- What is gathered: it rises, and lies between two days. -/
structure Gat (L : List Int) (lo hi : Int) : Prop where
  srt : L.Pairwise (· < ·)
  bd : ∀ x ∈ L, lo ≤ x ∧ x ≤ hi
theorem Gat.nil (lo hi : Int) : Gat [] lo hi := ⟨List.Pairwise.nil, fun x h => by cases h⟩
theorem Gat.add {L : List Int} {lo hi k : Int} (h : Gat L lo hi) (hk : ∀ x ∈ L, x < k) (h1 : lo ≤ k) (h2 : k ≤ hi) : Gat (L ++ [k]) lo hi := by
  refine ⟨List.pairwise_append.2 ⟨h.srt, List.pairwise_singleton _ _, fun a ha b hb => ?_⟩, fun x hx => ?_⟩
  · simp at hb; subst hb; exact hk a ha
  · rcases List.mem_append.1 hx with hx | hx
    · exact h.bd x hx
    · simp at hx; subst hx; exact ⟨h1, h2⟩
theorem Gat.rgt {L : List Int} {lo hi : Int} (h : Gat L lo hi) (h1 : -25567 ≤ lo) (h2 : hi ≤ 84370) (hl : L.length ≤ 200) : rgt L = true := by
  unfold Go.Proofs.YtkkpnhcodaijeaaDoor.rgt
  rw [rsg_of L _ h.srt (fun x hx => by have := h.bd x hx; omega), decide_eq_true hl]; rfl
theorem own_at {w : World} {B g c : Nat} {e : TypeId} {v : Value} {L : List Int} {z : Int} {k : Nat} (h : w.ownsRow B e 1 (.slice (some ⟨g, 0, none⟩) L.length c) L.length (L.map (.int .i64))) (hz : L[k]? = some z) : w.cell? ⟨g, k, none⟩ = some (.int .i64 z) := by
  rw [h.cellAt k (by have := (List.getElem?_eq_some_iff.1 hz).1; omega)]
  simp [hz]
theorem own_some {w : World} {B : Nat} {e : TypeId} {v : Value} {L : List Int} (h : w.ownsRow B e 1 v L.length (L.map (.int .i64))) (hL : L ≠ []) : ∃ g c z, v = .slice (some ⟨g, 0, none⟩) L.length c ∧ L[L.length - 1]? = some z ∧ w.cell? ⟨g, L.length - 1, none⟩ = some (.int .i64 z) := by
  have h' := h
  have hp : 0 < L.length := List.length_pos_iff.2 hL
  rcases h'.2 with ⟨rfl, h0⟩ | ⟨g, c, cur, rfl, _⟩
  · omega
  · have hz : L[L.length - 1]? = some (L[L.length - 1]'(by omega)) := List.getElem?_eq_getElem (by omega)
    exact ⟨g, c, _, rfl, hz, own_at (v := .slice none 0 0) h hz⟩
theorem own_none {w : World} {B : Nat} {e : TypeId} {v : Value} (h : w.ownsRow B e 1 v 0 []) : ∃ ao c, v = .slice ao 0 c := by
  rcases h.2 with ⟨rfl, _⟩ | ⟨g, c, cur, rfl, _⟩
  · exact ⟨_, _, rfl⟩
  · exact ⟨_, _, rfl⟩
theorem own_ext {w w' : World} {B : Nat} {e : TypeId} {z : Nat} {v : Value} {T : Nat} {xs : List Value} (h : w.ownsRow B e z v T xs) (hx : Ext w w') : w'.ownsRow B e z v T xs := by
  refine ⟨h.1, ?_⟩
  rcases h.2 with h0 | ⟨g, c, cur, h1, h2, h3, h4⟩
  · exact Or.inl h0
  · refine Or.inr ⟨g, c, cur, h1, h2, ?_, h4⟩
    rw [hx.below.block g (Array.getElem?_eq_some_iff.1 h3).1]
    exact h3
theorem own_lo {w : World} {B : Nat} {e : TypeId} {z : Nat} {v : Value} {T : Nat} {xs : List Value} (h : w.ownsRow B e z v T xs) : ∀ k, v.ownBlock = some k → B ≤ k := fun k hk => (h.lt k hk).1
theorem u64_mod (a m : Int) (hm : 0 < m) : ∃ R, (IntKind.u64.wrap a).tmod m = R ∧ 0 ≤ R ∧ R < m := by
  refine ⟨_, rfl, ?_, ?_⟩
  · have : 0 ≤ IntKind.u64.wrap a := by simp [IntKind.wrap, IntKind.signed, IntKind.bits]; omega
    exact Int.tmod_nonneg m this
  · have := Int.tmod_lt_of_pos (IntKind.u64.wrap a) hm
    exact this
/-- Around a day that has holidays near it alone there are days of business on both sides. -/
structure Near (L : List Int) (D m a b : Int) : Prop where
  up : sk L 1 D = (a, true)
  dn : sk L (-1) D = (b, true)
  a1 : D ≤ a
  a2 : a ≤ D + m + 3
  b1 : D - m - 3 ≤ b
  b2 : b ≤ D
  oa : opn L a = true
  ob : opn L b = true
  na : ∀ k, D ≤ k → k < a → opn L k = false
  nb : ∀ k, k ≤ D → b < k → opn L k = false
theorem opn_of {L : List Int} {n : Int} (h1 : -25567 ≤ n) (h2 : n ≤ 84370) (h3 : (n + 3) % 7 < 5) (h4 : n ∉ L) : opn L n = true := (opn_iff L n).2 ⟨h1, h2, h3, h4⟩
theorem near_of {L : List Int} {D m : Int} (hm : 0 ≤ m) (h : ∀ x ∈ L, D - m ≤ x ∧ x ≤ D + m) (h1 : -25567 ≤ D - m - 3) (h2 : D + m + 3 ≤ 84370) : ∃ a b, Near L D m a b := by
  have e1 : ∃ k, D ≤ k ∧ k ≤ D + m + 3 ∧ opn L k = true := by
    by_cases c : (D + m + 1 + 3) % 7 < 5
    · exact ⟨D + m + 1, by omega, by omega, opn_of (by omega) (by omega) c (fun hx => by have := h _ hx; omega)⟩
    · exact ⟨D + m + 3, by omega, by omega, opn_of (by omega) (by omega) (by omega) (fun hx => by have := h _ hx; omega)⟩
  have e2 : ∃ k, k ≤ D ∧ D - m - 3 ≤ k ∧ opn L k = true := by
    by_cases c : (D - m - 1 + 3) % 7 < 5
    · exact ⟨D - m - 1, by omega, by omega, opn_of (by omega) (by omega) c (fun hx => by have := h _ hx; omega)⟩
    · exact ⟨D - m - 3, by omega, by omega, opn_of (by omega) (by omega) (by omega) (fun hx => by have := h _ hx; omega)⟩
  obtain ⟨k, k1, k2, k3⟩ := e1
  obtain ⟨j, j1, j2, j3⟩ := e2
  rcases sk_up L _ D rfl (by omega) with ⟨p1, p2, p3, p4⟩ | ⟨_, p⟩
  · rcases sk_dn L _ D rfl (by omega) with ⟨q1, q2, q3, q4⟩ | ⟨_, q⟩
    · refine ⟨(sk L 1 D).1, (sk L (-1) D).1, Prod.ext rfl p1, Prod.ext rfl q1, p3, ?_, ?_, q3, p2, q2, p4, q4⟩
      · rcases Int.lt_or_le k (sk L 1 D).1 with c | c
        · have := p4 k k1 c; rw [k3] at this; cases this
        · omega
      · rcases Int.lt_or_le (sk L (-1) D).1 j with c | c
        · have := q4 j j1 c; rw [j3] at this; cases this
        · omega
    · have := q j j1; rw [j3] at this; cases this
  · have := p k k1; rw [k3] at this; cases this
theorem Near.roll {L : List Int} {D m a b : Int} (h : Near L D m a b) (hD : inD D = true) : (rlA L D 2 = a ∧ rlE L D 2 = 0) ∧ (rlA L D 4 = b ∧ rlE L D 4 = 0) ∧ (rlE L D 3 = 0 ∧ (rlA L D 3 = a ∧ sameM D a = true ∨ rlA L D 3 = b)) := by
  have r2 : rolP L D 2 = (a, true) := by unfold rolP; rw [h.up]; simp
  have r4 : rolP L D 4 = (b, true) := by unfold rolP; rw [h.dn]; simp
  refine ⟨⟨?_, ?_⟩, ⟨?_, ?_⟩, ?_⟩
  · unfold rlA; rw [hD, r2]; simp
  · unfold rlE; rw [hD, r2]; simp
  · unfold rlA; rw [hD, r4]; simp
  · unfold rlE; rw [hD, r4]; simp
  · cases hS : sameM D a
    · have r3 : rolP L D 3 = (b, true) := by unfold rolP; rw [h.up, h.dn]; simp [hS]
      refine ⟨by unfold rlE; rw [hD, r3]; simp, Or.inr (by unfold rlA; rw [hD, r3]; simp)⟩
    · have r3 : rolP L D 3 = (a, true) := by unfold rolP; rw [h.up]; simp [hS]
      refine ⟨by unfold rlE; rw [hD, r3]; simp, Or.inl ⟨by unfold rlA; rw [hD, r3]; simp, rfl⟩⟩
/-- What is of business stays where it is. -/
theorem roll_open {L : List Int} {n how : Int} (h : opn L n = true) (h1 : 1 ≤ how) (h2 : how ≤ 4) : rlA L n how = n ∧ rlE L n how = 0 := by
  have hn := opn_in h
  refine ⟨?_, ?_⟩
  · unfold rlA
    rw [if_pos ⟨hn, h1, h2⟩, rolP_open h]
    split <;> simp
  · unfold rlE
    rw [if_pos hn, if_pos ⟨h1, h2⟩, rolP_open h]
    split <;> simp
theorem Near.between {L : List Int} {D m a b : Int} (h : Near L D m a b) : ∀ k, b < k → k < a → opn L k = false := fun k k1 k2 => by
  by_cases c : D ≤ k
  · exact h.na k c k2
  · exact h.nb k (by omega) k1
end Go.Proofs.YtkkpnhcodaijeaaDoor
