/- More white between signs; two texts, a line each: as facts on lists; no program is spoken of here. -/
import Derived.Test.YtocdkgmmnkmlpaaDoorLex8
namespace Go.Proofs.YtocdkgmmnkmlpaaDoor
open Go.RowKit Go.Lib
set_option linter.unusedVariables false

/-- What a sign is, wherever it stands. -/
def sig (t : Tok) : Nat × List UInt8 := (t.kind, t.text)
/-- Texts, each with white ahead of it. -/
def joinW (W : List UInt8) (ts : List Tok) : List UInt8 := ts.flatMap fun t => W ++ t.text
theorem joinW_snoc (W : List UInt8) (ts : List Tok) (t : Tok) : joinW W (ts ++ [t]) = joinW W ts ++ (W ++ t.text) := by simp [joinW]
theorem joinW_cons (W : List UInt8) (t : Tok) (ts : List Tok) : joinW W (t :: ts) = W ++ (t.text ++ joinW W ts) := by simp [joinW]
/-- White: passed over, whatever stands behind it; it begins with a blank. -/
structure Wht (W : List UInt8) : Prop where
  pass : ∀ x, wh false (W ++ x) = W.length + wh false x
  blank : ∃ r, W = 32 :: r
theorem joinW_stops {W : List UInt8} (h : Wht W) (ts : List Tok) : stops (joinW W ts ++ W) := by
  obtain ⟨r, hr⟩ := h.blank
  cases ts with
  | nil => rw [show joinW W [] = [] from rfl, List.nil_append, hr]; exact stops_bl r
  | cons t ts => rw [joinW_cons, hr, List.cons_append, List.cons_append]; exact stops_bl _
theorem lex_white {W : List UInt8} (hW : Wht W) : ∀ (n p P : Nat) (l : List UInt8), l.length ≤ n → (lex p l).2 = none →
    (lex P (joinW W (lex p l).1 ++ W)).1.map sig = (lex p l).1.map sig ∧ (lex P (joinW W (lex p l).1 ++ W)).2 = none := by
  have hend : ∀ P, lex P (joinW W [] ++ W) = ([], none) := fun P => by
    have h := hW.pass []
    rw [List.append_nil, show wh false [] = 0 from rfl, Nat.add_zero] at h
    rw [show joinW W [] = [] from rfl, List.nil_append]
    exact lex_end h
  intro n
  induction n with
  | zero =>
    intro p P l h hn
    obtain rfl : l = [] := List.eq_nil_of_length_eq_zero (by omega)
    rw [lex_end (l := []) rfl]
    rw [show (([], none) : List Tok × Option Nat).1 = [] from rfl, hend]
    exact ⟨rfl, rfl⟩
  | succ n ih =>
    intro p P l h hn
    rw [lex_def p] at hn ⊢
    cases hm : l.drop (wh false l) with
    | nil =>
      simp only
      rw [hend]
      exact ⟨rfl, rfl⟩
    | cons c m =>
      rw [hm] at hn
      have hlen : l.length = wh false l + (m.length + 1) := by have := congrArg List.length hm; simp at this; have := wh_le false l; omega
      have hz := sz_le (c :: m)
      simp only [List.length_cons] at hz
      simp only at hn ⊢
      by_cases hs : sz (c :: m) = 0
      · rw [if_pos hs] at hn; simp at hn
      · rw [if_neg hs] at hn ⊢
        simp only at hn ⊢
        obtain ⟨k, hk⟩ : ∃ k, sz (c :: m) = k + 1 := ⟨sz (c :: m) - 1, by omega⟩
        rw [hk] at hn ⊢
        have ih1 := ih (p + wh false l + (k + 1)) (P + W.length + (k + 1)) ((c :: m).drop (k + 1)) (by rw [List.length_drop]; simp; omega) hn
        generalize (lex (p + wh false l + (k + 1)) ((c :: m).drop (k + 1))).1 = us at ih1 ⊢
        rw [joinW_cons]
        simp only [List.take_succ_cons]
        obtain ⟨h1, h2⟩ := cut_cons (c := c) (m := m) (r := joinW W us ++ W) (k := k) (by omega) (joinW_stops hW us)
        have e1 : W ++ (c :: m.take k ++ joinW W us) ++ W = W ++ (c :: (m.take k ++ (joinW W us ++ W))) := by simp
        rw [e1]
        have hw0 : wh false (c :: (m.take k ++ (joinW W us ++ W))) = 0 := wh_sgn (c := c) (m := m) (by omega) _
        have hp := hW.pass (c :: (m.take k ++ (joinW W us ++ W)))
        rw [lex_skip (n := W.length) (p := P) (by rw [List.drop_left]; exact hp), List.drop_left]
        have htl : (m.take k).length = k := by rw [List.length_take]; omega
        rw [lex_tok hw0 (by rw [h1, hk]) (by omega), h2]
        have e2 : (c :: (m.take k ++ (joinW W us ++ W))).drop (k + 1) = joinW W us ++ W := by
          rw [List.drop_succ_cons]
          have := List.drop_left (l₁ := m.take k) (l₂ := joinW W us ++ W)
          rwa [htl] at this
        have e3 : (c :: (m.take k ++ (joinW W us ++ W))).take (k + 1) = c :: m.take k := by
          rw [List.take_succ_cons]
          have := List.take_left (l₁ := m.take k) (l₂ := joinW W us ++ W)
          rw [htl] at this
          rw [this]
        rw [e2, e3]
        refine ⟨?_, ih1.2⟩
        simp only [List.map_cons, ih1.1]
        rfl
theorem wh_rem (y : List UInt8) : ∀ r : List UInt8, wh true (r.filter (· != 10) ++ 10 :: y) = (r.filter (· != 10)).length + 1 + wh false y
  | [] => by simp [wh]
  | c :: r => by
    by_cases h : c = 10
    · subst h; simpa using wh_rem y r
    · have hc : (c != 10) = true := by simpa using h
      have e : (c :: r).filter (· != 10) = c :: r.filter (· != 10) := List.filter_cons_of_pos (p := (· != 10)) hc
      rw [e, List.cons_append, wh, if_neg h, wh_rem y r]
      simp only [List.length_cons]
      omega
/-- The white of the statement: a blank, a remark, a line's end, a tab. -/
def whtOf (r : List UInt8) : List UInt8 := 32 :: 35 :: (r.filter (· != 10) ++ [10, 9])
theorem whtOf_wht (r : List UInt8) : Wht (whtOf r) := by
  refine ⟨fun x => ?_, ⟨_, rfl⟩⟩
  have e : whtOf r ++ x = 32 :: 35 :: (r.filter (· != 10) ++ 10 :: (9 :: x)) := by simp [whtOf]
  rw [e, wh, if_pos (by decide), wh, if_neg (by decide), if_pos rfl, wh_rem, wh, if_pos (by decide)]
  simp [whtOf]
  omega
theorem lex_text : ∀ (n p : Nat) (l : List UInt8), l.length ≤ n → ∀ t ∈ (lex p l).1, t.text.length ≤ l.length := by
  intro n
  induction n with
  | zero =>
    intro p l h t ht
    obtain rfl : l = [] := List.eq_nil_of_length_eq_zero (by omega)
    rw [lex_end (l := []) rfl] at ht; simp at ht
  | succ n ih =>
    intro p l h t ht
    rw [lex_def p] at ht
    cases hm : l.drop (wh false l) with
    | nil => rw [hm] at ht; simp at ht
    | cons c m =>
      have hlen : l.length = wh false l + (m.length + 1) := by have := congrArg List.length hm; simp at this; have := wh_le false l; omega
      have hz := sz_le (c :: m)
      simp only [List.length_cons] at hz
      rw [hm] at ht
      simp only at ht
      by_cases hs : sz (c :: m) = 0
      · rw [if_pos hs] at ht; simp at ht
      · rw [if_neg hs] at ht
        rcases List.mem_cons.1 ht with rfl | ht
        · show ((c :: m).take _).length ≤ _
          rw [List.length_take]; simp only [List.length_cons]; omega
        · have := ih _ _ (by rw [List.length_drop]; simp; omega) t ht
          rw [List.length_drop] at this
          simp only [List.length_cons] at this
          omega
/-- Two texts, a line each: what All answers. -/
theorem join_bad1 {s t : List UInt8} {us : List Tok} {p : Nat} (hs : s.length ≤ 1000) (ht : t.length ≤ 1000) (h : lex 0 s = (us, some p)) : aE (s ++ 10 :: t) = 6 := by
  have := lex_join t s.length 0 s (Nat.le_refl _)
  rw [h] at this
  exact (a_bad (by simp; omega) this).2.1
theorem join_bad2 {s t : List UInt8} {us vs : List Tok} {p : Nat} (hs : s.length ≤ 1000) (ht : t.length ≤ 1000) (h : lex 0 s = (us, none)) (k : lex 0 t = (vs, some p)) :
    aP (s ++ 10 :: t) = p + (s.length + 1) ∧ aE (s ++ 10 :: t) = 6 ∧ aT (s ++ 10 :: t) = [] := by
  have h1 := lex_join t s.length 0 s (Nat.le_refl _)
  have h2 := lex_shift (s.length + 1) t.length 0 t (Nat.le_refl _)
  rw [k] at h2
  rw [h, show 0 + s.length + 1 = 0 + (s.length + 1) by omega, h2] at h1
  exact a_bad (by simp; omega) h1
theorem join_ok {s t : List UInt8} {us vs : List Tok} (hs : s.length ≤ 1000) (ht : t.length ≤ 1000) (h : lex 0 s = (us, none)) (k : lex 0 t = (vs, none)) :
    aP (s ++ 10 :: t) = 0 ∧ aE (s ++ 10 :: t) = 0 ∧ aT (s ++ 10 :: t) = us ++ (vs ++ [(⟨0, t.length, []⟩ : Tok)]).map (shT (s.length + 1)) := by
  have h1 := lex_join t s.length 0 s (Nat.le_refl _)
  have h2 := lex_shift (s.length + 1) t.length 0 t (Nat.le_refl _)
  rw [k] at h2
  rw [h, show 0 + s.length + 1 = 0 + (s.length + 1) by omega, h2] at h1
  obtain ⟨e1, e2, e3⟩ := a_fin (by simp; omega) h1
  refine ⟨e1, e2, ?_⟩
  rw [e3]
  simp [shT]
  omega
theorem lex_at : ∀ (n p : Nat) (l : List UInt8), l.length ≤ n → (∀ t ∈ (lex p l).1, t.at_ < p + l.length) ∧ (∀ q, (lex p l).2 = some q → q < p + l.length) := by
  intro n
  induction n with
  | zero =>
    intro p l h
    obtain rfl : l = [] := List.eq_nil_of_length_eq_zero (by omega)
    rw [lex_end (l := []) rfl]; simp
  | succ n ih =>
    intro p l h
    rw [lex_def p]
    cases hm : l.drop (wh false l) with
    | nil => simp
    | cons c m =>
      have hlen : l.length = wh false l + (m.length + 1) := by have := congrArg List.length hm; simp at this; have := wh_le false l; omega
      have hz := sz_le (c :: m)
      simp only [List.length_cons] at hz
      simp only
      by_cases hs : sz (c :: m) = 0
      · rw [if_pos hs]
        refine ⟨by simp, fun q hq => ?_⟩
        have : p + wh false l = q := by simpa using hq
        omega
      · rw [if_neg hs]
        have h2 := ih (p + wh false l + sz (c :: m)) ((c :: m).drop (sz (c :: m))) (by rw [List.length_drop]; simp; omega)
        rw [List.length_drop] at h2
        simp only [List.length_cons] at h2
        refine ⟨fun t ht => ?_, fun q hq => ?_⟩
        · rcases List.mem_cons.1 ht with rfl | ht
          · show p + wh false l < _; omega
          · have := h2.1 t ht; omega
        · have := h2.2 q hq; omega
theorem joins_cases {s t : List UInt8} (hs : s.length ≤ 1000) (ht : t.length ≤ 1000) :
    (aE s = 6 ∧ aE (s ++ 10 :: t) = 6) ∨ (aE s = 0 ∧ aE t = 6 ∧ aE (s ++ 10 :: t) = 6 ∧ aP (s ++ 10 :: t) = aP t + (s.length + 1) ∧ aP t ≤ 1000 ∧ aT (s ++ 10 :: t) = []) ∨
      (aE s = 0 ∧ aE t = 0 ∧ aE (s ++ 10 :: t) = 0 ∧ ∃ us vs, aT s = us ++ [⟨0, s.length, []⟩] ∧ aT t = vs ∧ aT (s ++ 10 :: t) = us ++ vs.map (shT (s.length + 1)) ∧ vs ≠ [] ∧ us.length ≤ 1000 ∧ vs.length ≤ 1001 ∧ ∀ v ∈ vs, v.at_ ≤ 1000) := by
  cases h : lex 0 s with
  | mk us o =>
    cases o with
    | some p => exact Or.inl ⟨(a_bad (by omega) h).2.1, join_bad1 hs ht h⟩
    | none =>
      have f1 := lex_few s.length 0 s (Nat.le_refl _)
      rw [h] at f1
      simp only at f1
      obtain ⟨_, e2, e3⟩ := a_fin (by omega) h
      have f2 := lex_few t.length 0 t (Nat.le_refl _)
      have f3 := lex_at t.length 0 t (Nat.le_refl _)
      cases k : lex 0 t with
      | mk vs o =>
        rw [k] at f2 f3
        simp only at f2 f3
        cases o with
        | some p =>
          obtain ⟨g1, g2, g3⟩ := join_bad2 hs ht h k
          obtain ⟨i1, i2, _⟩ := a_bad (by omega) k
          have := f3.2 p rfl
          refine Or.inr (Or.inl ⟨e2, i2, g2, by rw [g1, i1], by rw [i1]; omega, g3⟩)
        | none =>
          obtain ⟨g1, g2, g3⟩ := join_ok hs ht h k
          obtain ⟨i1, i2, i3⟩ := a_fin (by omega) k
          refine Or.inr (Or.inr ⟨e2, i2, g2, us, vs ++ [⟨0, t.length, []⟩], e3, i3, g3, by simp, by omega, by simp; omega, ?_⟩)
          intro v hv
          rcases List.mem_append.1 hv with hv | hv
          · have := f3.1 v hv; omega
          · have : v = ⟨0, t.length, []⟩ := by simpa using hv
            rw [this]; exact ht
end Go.Proofs.YtocdkgmmnkmlpaaDoor
