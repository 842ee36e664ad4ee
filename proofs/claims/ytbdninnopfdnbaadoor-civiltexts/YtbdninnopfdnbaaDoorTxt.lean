/- Days as texts, by themselves: plain numbers and lists of bytes; no program is spoken of here. -/
import Derived.Test.YtbdninnopfdnbaaDoorCal
import Derived.Test.YtbdninnopfdnbaaDoorDigs
import Derived.Lib.Atoi
namespace Go.Proofs.YtbdninnopfdnbaaDoor
open Go.Lib
set_option linter.unusedVariables false

/-- What Number answers. -/
def numA (y m d : Int) : Int := if vldB y m d = true then num y m d else 0
def numE (y m d : Int) : Int := if vldB y m d = true then 0 else 5
theorem numA_ok (y m d : Int) (h : Vld y m d) : numA y m d = num y m d ∧ numE y m d = 0 := by
  unfold numA numE; simp [(vldB_iff y m d).2 h]
theorem numA_no (y m d : Int) (h : ¬ Vld y m d) : numA y m d = 0 ∧ numE y m d = 5 := by
  unfold numA numE; simp [mt (vldB_iff y m d).1 h]

theorem fix_two (n : Nat) : fix 2 n = [dgt (n / 10), dgt n] := by simp [fix]
theorem fix_four (n : Nat) : fix 4 n = [dgt (n / 10 / 10 / 10), dgt (n / 10 / 10), dgt (n / 10), dgt n] := by simp [fix]
theorem dec_two (n : Nat) (h : ¬ n < 10) (h2 : n < 100) : decDigits n = fix 2 n := by
  rw [decDigits_big h, decDigits_small (by omega), fix_two]; rfl
theorem dec_one (n : Nat) (h : n < 10) : 48 :: decDigits n = fix 2 n := by
  rw [decDigits_small h, fix_two, show n / 10 = 0 by omega]; rfl
theorem dec_four (n : Nat) (h : 1000 ≤ n) (h2 : n < 10000) : decDigits n = fix 4 n := by
  rw [decDigits_big (by omega), decDigits_big (by omega), decDigits_big (by omega), decDigits_small (by omega), fix_four]; rfl

/-- The text of a date. -/
def textL (y m d : Int) : List UInt8 := fix 4 y.toNat ++ 45 :: (fix 2 m.toNat ++ 45 :: fix 2 d.toNat)
theorem text_length (y m d : Int) : (textL y m d).length = 10 := by simp [textL, fix_length]
/-- Is it a digit, or a hyphen, where one stands? -/
def okAt (l : List UInt8) (i : Nat) : Bool := if i = 4 ∨ i = 7 then l.getD i 0 == 45 else isD (l.getD i 0)
def formL (l : List UInt8) : Bool := decide (l.length = 10) && (List.range 10).all (okAt l)
def pY (l : List UInt8) : Int := (valL (l.take 4) : Nat)
def pM (l : List UInt8) : Int := (valL ((l.drop 5).take 2) : Nat)
def pD (l : List UInt8) : Int := (valL (l.drop 8) : Nat)
/-- What Take answers. -/
def takA (l : List UInt8) : Int := if formL l = true then numA (pY l) (pM l) (pD l) else 0
def takE (l : List UInt8) : Int := if formL l = true then numE (pY l) (pM l) (pD l) else 4
theorem ten {l : List UInt8} (h : l.length = 10) : ∃ c0 c1 c2 c3 c4 c5 c6 c7 c8 c9, l = [c0, c1, c2, c3, c4, c5, c6, c7, c8, c9] := by
  match l, h with
  | [c0, c1, c2, c3, c4, c5, c6, c7, c8, c9], _ => exact ⟨c0, c1, c2, c3, c4, c5, c6, c7, c8, c9, rfl⟩
/-- The form, byte by byte. -/
structure Form (c0 c1 c2 c3 c4 c5 c6 c7 c8 c9 : UInt8) : Prop where
  d0 : isD c0 = true
  d1 : isD c1 = true
  d2 : isD c2 = true
  d3 : isD c3 = true
  h4 : c4 = 45
  d5 : isD c5 = true
  d6 : isD c6 = true
  h7 : c7 = 45
  d8 : isD c8 = true
  d9 : isD c9 = true
theorem form_iff (c0 c1 c2 c3 c4 c5 c6 c7 c8 c9 : UInt8) : formL [c0, c1, c2, c3, c4, c5, c6, c7, c8, c9] = true ↔ Form c0 c1 c2 c3 c4 c5 c6 c7 c8 c9 := by
  have : (List.range 10) = [0, 1, 2, 3, 4, 5, 6, 7, 8, 9] := by decide
  unfold formL
  rw [this]
  simp only [List.length_cons, List.length_nil, List.all_cons, List.all_nil, Bool.and_eq_true, decide_eq_true_eq, okAt]
  simp
  exact ⟨fun ⟨a0, a1, a2, a3, a4, a5, a6, a7, a8, a9⟩ => ⟨a0, a1, a2, a3, a4, a5, a6, a7, a8, a9⟩, fun h => ⟨h.d0, h.d1, h.d2, h.d3, h.h4, h.d5, h.d6, h.h7, h.d8, h.d9⟩⟩
theorem form_not (l : List UInt8) (h : l.length ≠ 10) : formL l = false := by unfold formL; simp [h]
theorem tak_not (l : List UInt8) (h : formL l = false) : takA l = 0 ∧ takE l = 4 := by unfold takA takE; simp [h]
theorem tak_form (l : List UInt8) (h : formL l = true) : takA l = numA (pY l) (pM l) (pD l) ∧ takE l = numE (pY l) (pM l) (pD l) := by unfold takA takE; simp [h]

theorem text_ten (y m d : Int) : textL y m d = [dgt (y.toNat / 10 / 10 / 10), dgt (y.toNat / 10 / 10), dgt (y.toNat / 10), dgt y.toNat, 45, dgt (m.toNat / 10), dgt m.toNat, 45, dgt (d.toNat / 10), dgt d.toNat] := by
  unfold textL; rw [fix_four, fix_two, fix_two]; rfl
theorem text_form (y m d : Int) : formL (textL y m d) = true := by
  rw [text_ten, form_iff]
  exact ⟨isD_dgt _, isD_dgt _, isD_dgt _, isD_dgt _, rfl, isD_dgt _, isD_dgt _, rfl, isD_dgt _, isD_dgt _⟩
theorem text_parts (y m d : Int) (h : Vld y m d) : pY (textL y m d) = y ∧ pM (textL y m d) = m ∧ pD (textL y m d) = d := by
  have e : textL y m d = fix 4 y.toNat ++ 45 :: (fix 2 m.toNat ++ 45 :: fix 2 d.toNat) := rfl
  have l4 := fix_length 4 y.toNat
  have l2 := fix_length 2 m.toNat
  have a : (textL y m d).take 4 = fix 4 y.toNat := by rw [e, List.take_append_of_le_length (by omega), List.take_of_length_le (by omega)]
  have b : (textL y m d).drop 5 = fix 2 m.toNat ++ 45 :: fix 2 d.toNat := by
    rw [e, show (5 : Nat) = (fix 4 y.toNat).length + 1 by omega, List.drop_append]; simp
  have c : (textL y m d).drop 8 = fix 2 d.toNat := by
    rw [show (8 : Nat) = 5 + 3 from rfl, ← List.drop_drop, b, show (3 : Nat) = (fix 2 m.toNat).length + 1 by omega, List.drop_append]; simp
  have := h.y1; have := h.y2; have := h.m1; have := h.m2; have := h.d1; have := h.d31
  refine ⟨?_, ?_, ?_⟩
  · unfold pY; rw [a, valL_fix]; omega
  · unfold pM; rw [b, List.take_append_of_le_length (by omega), List.take_of_length_le (by omega), valL_fix]; omega
  · unfold pD; rw [c, valL_fix]; omega
theorem text_take (y m d : Int) (h : Vld y m d) : takA (textL y m d) = num y m d ∧ takE (textL y m d) = 0 := by
  obtain ⟨a, b, c⟩ := text_parts y m d h
  obtain ⟨p, q⟩ := tak_form _ (text_form y m d)
  obtain ⟨r, s⟩ := numA_ok y m d h
  rw [p, q, a, b, c, r, s]
  exact ⟨rfl, rfl⟩
theorem fix_val (l : List UInt8) (h : l.all isD = true) : fix l.length (valL l) = l := by
  have := fix_valL l h 0
  simpa using this
theorem take_text (l : List UInt8) (h : formL l = true) : textL (pY l) (pM l) (pD l) = l := by
  have hl : l.length = 10 := by
    rcases Nat.decEq l.length 10 with k | k
    · rw [form_not l k] at h; cases h
    · exact k
  obtain ⟨c0, c1, c2, c3, c4, c5, c6, c7, c8, c9, rfl⟩ := ten hl
  have f := (form_iff _ _ _ _ _ _ _ _ _ _).1 h
  unfold textL pY pM pD
  have a := fix_val [c0, c1, c2, c3] (by simp [f.d0, f.d1, f.d2, f.d3])
  have b := fix_val [c5, c6] (by simp [f.d5, f.d6])
  have c := fix_val [c8, c9] (by simp [f.d8, f.d9])
  have h4 := f.h4
  have h7 := f.h7
  simp only [List.take, List.drop, Int.toNat_natCast, List.length_cons, List.length_nil] at a b c ⊢
  rw [a, b, c, h4, h7]
  rfl
theorem atoi_digits (l : List UInt8) (hne : l ≠ []) (h : l.all isD = true) : Lib.atoi l = some (valL l : Int) := by
  have key : ∀ (l : List UInt8) (acc : Nat), l.all isD = true → decFrom acc l = some (acc * 10 ^ l.length + valL l) := by
    intro l
    induction l with
    | nil => intro acc _; simp [decFrom, valL]
    | cons c t ih =>
      intro acc h
      have hc : isD c = true := by simp at h; exact h.1
      have ht : t.all isD = true := by simp at h; simpa using h.2
      obtain ⟨r1, r2⟩ := isD_range hc
      have hd : digitVal c = some (c.toNat - 48) := by unfold digitVal; rw [if_pos ⟨r1, r2⟩]
      simp only [decFrom, hd]
      rw [ih _ ht, valL_cons]
      congr 1
      rw [List.length_cons, Nat.pow_succ, Nat.add_mul, Nat.mul_assoc, Nat.mul_comm 10]
      omega
  cases l with
  | nil => exact absurd rfl hne
  | cons c t =>
    have hc : isD c = true := by simp at h; exact h.1
    obtain ⟨r1, r2⟩ := isD_range hc
    have n1 : (c == 45) = false := by
      rw [beq_eq_false_iff_ne]; intro e; subst e; exact absurd r1 (by decide)
    have n2 : (c == 43) = false := by
      rw [beq_eq_false_iff_ne]; intro e; subst e; exact absurd r1 (by decide)
    simp only [Lib.atoi, n1, n2, decNat, List.isEmpty_cons]
    rw [key _ _ h]
    simp
end Go.Proofs.YtbdninnopfdnbaaDoor
