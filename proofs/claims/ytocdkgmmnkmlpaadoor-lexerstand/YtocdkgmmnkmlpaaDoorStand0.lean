/- What stands between signs, step by step: as facts on lists; no program is spoken of here. -/
import Derived.Test.YtocdkgmmnkmlpaaDoorLex8
namespace Go.Proofs.YtocdkgmmnkmlpaaDoor
open Go.RowKit Go.Lib
set_option linter.unusedVariables false

/-- The signs that are left, from the place p on, of a text that has no fault: those of the text there, and the end. -/
structure Left (l : List UInt8) (p : Nat) (ts : List Tok) : Prop where
  le : p ≤ l.length
  ok : (lex p (l.drop p)).2 = none
  all : ts = (lex p (l.drop p)).1 ++ [⟨0, l.length, []⟩]
theorem Left.start {l : List UInt8} {us : List Tok} (h : lex 0 l = (us, none)) : Left l 0 (us ++ [⟨0, l.length, []⟩]) :=
  ⟨Nat.zero_le _, by rw [List.drop_zero, h], by rw [List.drop_zero, h]⟩
/-- The next sign: where it stands, what it is, and what is left behind it; or the end. -/
theorem Left.next {l : List UInt8} {p : Nat} {ts : List Tok} (h : Left l p ts) :
    ∃ q t us, ts = t :: us ∧ p + wh false (l.drop p) = q ∧ t.at_ = q ∧ q + t.text.length ≤ l.length ∧ (l.drop q).take t.text.length = t.text ∧
      ((us = [] ∧ t.kind = 0 ∧ t.text = [] ∧ q = l.length) ∨ (us ≠ [] ∧ t.kind ≠ 0 ∧ t.kind ≤ 3 ∧ t.text ≠ [] ∧ Left l (q + t.text.length) us)) := by
  have hw := wh_le false (l.drop p)
  rw [List.length_drop] at hw
  have hle := h.le
  have hall := h.all
  have hok := h.ok
  rw [lex_def] at hall hok
  refine ⟨p + wh false (l.drop p), ?_⟩
  rw [List.drop_drop] at hall hok
  cases hm : l.drop (p + wh false (l.drop p)) with
  | nil =>
    have hl := congrArg List.length hm
    rw [List.length_drop] at hl
    simp only [List.length_nil] at hl
    rw [hm] at hall hok
    refine ⟨⟨0, l.length, []⟩, [], by simpa using hall, rfl, ?_, ?_, by simp, Or.inl ⟨rfl, rfl, rfl, ?_⟩⟩
    · show l.length = _; omega
    · simp; omega
    · omega
  | cons c m =>
    have hl := congrArg List.length hm
    rw [List.length_drop] at hl
    simp only [List.length_cons] at hl
    have hz := sz_le (c :: m)
    simp only [List.length_cons] at hz
    rw [hm] at hall hok
    simp only at hall hok
    by_cases hs : sz (c :: m) = 0
    · rw [if_pos hs] at hok; simp at hok
    · rw [if_neg hs] at hall hok
      have htl : ((c :: m).take (sz (c :: m))).length = sz (c :: m) := by rw [List.length_take]; simp; omega
      have hd : (c :: m).drop (sz (c :: m)) = l.drop (p + wh false (l.drop p) + sz (c :: m)) := by rw [← hm, List.drop_drop]
      refine ⟨⟨kd (c :: m), p + wh false (l.drop p), (c :: m).take (sz (c :: m))⟩, (lex (p + wh false (l.drop p) + sz (c :: m)) ((c :: m).drop (sz (c :: m)))).1 ++ [⟨0, l.length, []⟩], by rw [hall]; rfl, rfl, rfl, ?_, ?_, Or.inr ⟨by simp, ?_, kd_le _, ?_, ?_⟩⟩
      · show _ + ((c :: m).take (sz (c :: m))).length ≤ _; rw [htl]; omega
      · show (c :: m).take ((c :: m).take (sz (c :: m))).length = _; rw [htl]
      · show kd (c :: m) ≠ 0
        rcases kd_cases c m with ⟨_, h2⟩ | ⟨k, t, h1, _, h3⟩ | ⟨h1, _⟩
        · exact absurd h2 hs
        · rw [h1]; rcases h3 with ⟨rfl, _⟩ | ⟨rfl, _⟩ <;> omega
        · rw [h1]; omega
      · show (c :: m).take (sz (c :: m)) ≠ []
        intro e; rw [e] at htl; simp at htl; omega
      · show Left l (p + wh false (l.drop p) + ((c :: m).take (sz (c :: m))).length) _
        rw [htl]
        exact ⟨by omega, by rw [← hd]; exact hok, by rw [hd]⟩
/-- A byte of what is passed over: whether a remark goes on behind it. -/
theorem wh_step {b : Bool} {c : UInt8} {m : List UInt8} (h : 0 < wh b (c :: m)) :
    wh b (c :: m) = 1 + wh (if c == 10 then false else if c == 35 then true else b) m ∧ ((if c == 10 then false else if c == 35 then true else b) = false → blankL.contains c = true) := by
  have hb10 : blankL.contains (10 : UInt8) = true := by decide
  have hb35 : blankL.contains (35 : UInt8) = false := by decide
  cases b with
  | false =>
    rw [wh] at h ⊢
    by_cases h1 : blankL.contains c = true
    · rw [if_pos h1]
      have h35 : c ≠ 35 := by intro e; subst e; rw [hb35] at h1; cases h1
      have e1 : (if c == 10 then false else if c == 35 then true else false) = false := by
        rw [show (c == 35) = false by simpa using h35]; simp
      rw [e1]
      exact ⟨rfl, fun _ => h1⟩
    · rw [if_neg h1] at h ⊢
      by_cases h2 : c = 35
      · subst h2; exact ⟨by simp, by simp⟩
      · rw [if_neg h2] at h; omega
  | true =>
    rw [wh]
    by_cases h1 : c = 10
    · subst h1; exact ⟨by simp, fun _ => hb10⟩
    · rw [if_neg h1]
      have e1 : (if c == 10 then false else if c == 35 then true else true) = true := by
        rw [show (c == 10) = false by simpa using h1]; simp
      rw [e1]
      exact ⟨rfl, by simp⟩
end Go.Proofs.YtocdkgmmnkmlpaaDoor
