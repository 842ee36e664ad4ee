
/- Remainders; and both sides' answers at once (layer 13): no statement of the seat is proved here. -/
import Derived.Test.YtafjmpaefikdcaaGreatDoorLv7
namespace Go.Proofs.YtafjmpaefikdcaaGreatDoor
open Go.RowKit
open L8 (Slc)
set_option linter.unusedVariables false
set_option maxRecDepth 100000

theorem rem_w (x m : Int) (hm : 0 < m) (hM : m ≤ 10000000000000) : ∃ R : Int, (IntKind.u64.wrap x).tmod m = R ∧ 0 ≤ R ∧ R < m ∧ IntKind.i64.wrap R = R ∧ IntKind.i64.wrap (1 + R) = 1 + R ∧ IntKind.i64.wrap (2 + R) = 2 + R := by
  have h0 : 0 ≤ IntKind.u64.wrap x := by rw [IntKind.wrap_u64]; exact Int.emod_nonneg _ (by decide)
  have h1 := Int.tmod_nonneg m h0
  have h2 := Int.tmod_lt_of_pos (IntKind.u64.wrap x) hm
  exact ⟨_, rfl, h1, h2, by rw [IntKind.wrap_i64]; omega, by rw [IntKind.wrap_i64]; omega, by rw [IntKind.wrap_i64]; omega⟩
theorem arr_sl {w : World} {g T c : Nat} {f : Nat → Int} (h : L4.Arr w g T f) : Slc w (.slice (some ⟨g, 0, none⟩) T c) (fst T f) := by
  refine Or.inr ⟨g, 0, c, by rw [fst_length], fun k x hk => ?_⟩
  obtain ⟨h1, h2⟩ := fst_at hk
  rw [Nat.zero_add, h.cell k h1, h2]
/-- A list of at least one number lies somewhere. -/
theorem slc_at {w : World} {v : Value} {l : List Int} (h : Slc w v l) (hl : l ≠ []) : ∃ b off c, v = .slice (some ⟨b, off, none⟩) l.length c ∧ ∀ (k : Nat) (x : Int), l[k]? = some x → w.cell? ⟨b, off + k, none⟩ = some (.int .i64 x) := by
  rcases h with ⟨_, _, _, _, h⟩ | ⟨b, off, c, rfl, hc⟩
  · exact absurd h hl
  · exact ⟨b, off, c, rfl, hc⟩
theorem okl_ne {p : Prd} {l : List Int} {a : Int} (hok : okP p = true) (hO : Okl p.tm l a) : l ≠ [] := by
  have t := (tm_T hok).1
  have u := (tm_T hok).2.1
  rintro rfl
  have := hO.1
  simp at this
  omega
/-- Left, whatever comes of it. -/
theorem Left_ex (p : Prd) (l : List Int) (a x E : Int) (hE : askE p l a E) : ∃ v F : Int,
    (E ≠ 0 → v = 0 ∧ F = E) ∧ (E = 0 → ¬ (0 ≤ x ∧ x ≤ 1000000000000000) → v = 0 ∧ F = 1) ∧ (E = 0 → 0 ≤ x ∧ x ≤ 1000000000000000 → v = lvl p l a x ∧ F = 0) := by
  by_cases h : E = 0
  · by_cases k : 0 ≤ x ∧ x ≤ 1000000000000000
    · exact ⟨_, _, fun c => absurd h c, fun _ c => absurd k c, fun _ _ => ⟨rfl, rfl⟩⟩
    · exact ⟨_, _, fun c => absurd h c, fun _ _ => ⟨rfl, rfl⟩, fun _ c => absurd c k⟩
  · exact ⟨_, _, fun _ => ⟨rfl, rfl⟩, fun c => absurd c h, fun c => absurd c h⟩
theorem ask_0 {p : Prd} {l : List Int} {a : Int} (hE : askE p l a 0) : okP p = true ∧ Okl p.tm l a := by
  rcases hE with ⟨_, h⟩ | ⟨_, _, h⟩ | ⟨h1, h2, _⟩
  · exact absurd h (by decide)
  · exact absurd h (by decide)
  · exact ⟨h1, h2⟩
theorem Left_a (p : Prd) (vr vl vh s : Value) (l : List Int) (a x E v F : Int) (w : World) (hi : Inp w p vr vl vh) (hs : Slc w s l) (hE : askE p l a E)
    (h1 : E ≠ 0 → v = 0 ∧ F = E) (h2 : E = 0 → ¬ (0 ≤ x ∧ x ≤ 1000000000000000) → v = 0 ∧ F = 1) (h3 : E = 0 → 0 ≤ x ∧ x ≤ 1000000000000000 → v = lvl p l a x ∧ F = 0) :
    Calls Tryz.prog 9 #[.agg (pcells p vr vl vh), s, .int .i64 a, .int .i64 x] w fun e w' => e = .returned (.tuple #[.int .i64 v, .int .i64 F]) ∧ Ext w w' := by
  by_cases h : E = 0
  · subst h
    obtain ⟨hok, hO⟩ := ask_0 hE
    obtain ⟨b, off, c, rfl, hc⟩ := slc_at hs (okl_ne hok hO)
    by_cases k : 0 ≤ x ∧ x ≤ 1000000000000000
    · obtain ⟨rfl, rfl⟩ := h3 rfl k
      exact Left_yes p vr vl vh b off c l a x w hi hc hok hO k.1 k.2 _ rfl
    · obtain ⟨rfl, rfl⟩ := h2 rfl k
      exact Left_arg p vr vl vh b off c l a x w hi hc hok hO k
  · obtain ⟨rfl, rfl⟩ := h1 h
    exact Left_no p vr vl vh s l a x _ w hi hs hE h
/-- Of, whatever comes of it. -/
theorem Of_ex (p : Prd) (l : List Int) (a E : Int) (hE : askE p l a E) : ∃ u F : Int,
    (E ≠ 0 → u = 0 ∧ F = E) ∧ (E = 0 → 0 < lvl p l a 1000000000000000 → u = 0 ∧ F = 10) ∧ (E = 0 → ¬ 0 < lvl p l a 1000000000000000 → Lst (lvl p l a) u ∧ F = 0) := by
  by_cases h : E = 0
  · subst h
    by_cases k : 0 < lvl p l a 1000000000000000
    · exact ⟨_, _, fun c => absurd rfl c, fun _ _ => ⟨rfl, rfl⟩, fun _ c => absurd k c⟩
    · obtain ⟨hok, hO⟩ := ask_0 hE
      obtain ⟨u, hu⟩ := lst_ex (lvl_fal hok hO) (by omega)
      exact ⟨u, _, fun c => absurd rfl c, fun _ c => absurd c k, fun _ _ => ⟨hu, rfl⟩⟩
  · exact ⟨_, _, fun _ => ⟨rfl, rfl⟩, fun c => absurd c h, fun c => absurd c h⟩
theorem Of_a (p : Prd) (vr vl vh s : Value) (l : List Int) (a E u F : Int) (w : World) (hi : Inp w p vr vl vh) (hs : Slc w s l) (hE : askE p l a E)
    (h1 : E ≠ 0 → u = 0 ∧ F = E) (h2 : E = 0 → 0 < lvl p l a 1000000000000000 → u = 0 ∧ F = 10) (h3 : E = 0 → ¬ 0 < lvl p l a 1000000000000000 → Lst (lvl p l a) u ∧ F = 0) :
    Calls Tryz.prog 11 #[.agg (pcells p vr vl vh), s, .int .i64 a] w fun e w' => e = .returned (.tuple #[.int .i64 u, .int .i64 F]) ∧ Ext w w' := by
  by_cases h : E = 0
  · subst h
    obtain ⟨hok, hO⟩ := ask_0 hE
    obtain ⟨b, off, c, rfl, hc⟩ := slc_at hs (okl_ne hok hO)
    by_cases k : 0 < lvl p l a 1000000000000000
    · obtain ⟨rfl, rfl⟩ := h2 rfl k
      exact Of_steep p vr vl vh b off c l a w hi hc hok hO k
    · obtain ⟨hu, rfl⟩ := h3 rfl k
      exact Of_yes p vr vl vh b off c l a u w hi hc hok hO hu
  · obtain ⟨rfl, rfl⟩ := h1 h
    exact Of_no p vr vl vh s l a _ w hi hs hE h
end Go.Proofs.YtafjmpaefikdcaaGreatDoor
