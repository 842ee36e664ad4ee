/- Contracts that the proof of this law leans on: no statement of the seat is proved here. -/
import Derived.BigQuiet
import Derived.Deep.QuietTactic
import Derived.Laws.IdiomStrings
import Derived.Lib.Atoi
import Derived.Lib.AtoiErrMem
import Derived.Lib.ItoaLen
import Derived.Lib.ItoaMem
import Derived.Lib.TrimByte
import Derived.Test.YtaafagggjnemgaaGreatDoorQ0
import Derived.Test.YtaafagggjnemgaaGreatDoorQ1

namespace Go.Proofs.YtaafagggjnemgaaGreatDoor.L3
/-- A year of 366 days. -/
def lng (y : Int) : Bool := decide (y % 4 = 0 ∧ (y % 100 ≠ 0 ∨ y % 400 = 0))
def lp (y : Int) : Int := if lng y = true then 1 else 0
/-- How many days a month has; 0 of one that there is not. -/
def dim (y m : Int) : Int := if m < 1 ∨ 12 < m then 0 else if m = 2 then 28 + lp y else if m = 4 ∨ m = 6 ∨ m = 9 ∨ m = 11 then 30 else 31
def la (y : Int) : Int := (y - 1) / 4 - (y - 1) / 100 + (y - 1) / 400
/-- The number of a year's first day. -/
def st (y : Int) : Int := 365 * (y - 1970) + la y - 477
/-- The days of the months ahead. -/
def cum (y m : Int) : Int :=
  if m ≤ 1 then 0 else if m = 2 then 31 else if m = 3 then 59 + lp y else if m = 4 then 90 + lp y else if m = 5 then 120 + lp y else if m = 6 then 151 + lp y
  else if m = 7 then 181 + lp y else if m = 8 then 212 + lp y else if m = 9 then 243 + lp y else if m = 10 then 273 + lp y else if m = 11 then 304 + lp y else if m = 12 then 334 + lp y else 365 + lp y
/-- Which day a date is. -/
def num (y m d : Int) : Int := st y + cum y m + d - 1
/-- Is there such a day? -/
structure Vld (y m d : Int) : Prop where
  y1 : 1900 ≤ y
  y2 : y ≤ 2200
  d1 : 1 ≤ d
  d2 : d ≤ dim y m
def vldB (y m d : Int) : Bool := decide (1900 ≤ y ∧ y ≤ 2200 ∧ 1 ≤ d ∧ d ≤ dim y m)
theorem vldB_iff (y m d : Int) : vldB y m d = true ↔ Vld y m d :=
  ⟨fun h => by have := of_decide_eq_true h; exact ⟨this.1, this.2.1, this.2.2.1, this.2.2.2⟩, fun h => decide_eq_true ⟨h.y1, h.y2, h.d1, h.d2⟩⟩
theorem lp_01 (y : Int) : 0 ≤ lp y ∧ lp y ≤ 1 := by unfold lp; split <;> omega
theorem lng_of (y : Int) (h : y % 4 = 0) (k : y % 100 ≠ 0 ∨ y % 400 = 0) : lng y = true := decide_eq_true ⟨h, k⟩
theorem lng_not (y : Int) (h : ¬ (y % 4 = 0 ∧ (y % 100 ≠ 0 ∨ y % 400 = 0))) : lng y = false := decide_eq_false h
theorem lp_spec (y : Int) : (y % 4 = 0 ∧ (y % 100 ≠ 0 ∨ y % 400 = 0) ∧ lp y = 1) ∨ (¬ (y % 4 = 0 ∧ (y % 100 ≠ 0 ∨ y % 400 = 0)) ∧ lp y = 0) := by
  unfold lp lng
  by_cases h : y % 4 = 0 ∧ (y % 100 ≠ 0 ∨ y % 400 = 0)
  · left; exact ⟨h.1, h.2, by simp [h]⟩
  · right; exact ⟨h, by simp [h]⟩
theorem la_succ (y : Int) : la (y + 1) = la y + lp y := by
  have := lp_spec y
  unfold la
  rw [show y + 1 - 1 = y by omega]
  omega
theorem st_succ (y : Int) : st (y + 1) = st y + 365 + lp y := by unfold st; rw [la_succ]; omega
theorem st_mono (a b : Int) (h : a ≤ b) : st a ≤ st b := by unfold st la; omega
theorem st_bd (y : Int) (h : 1900 ≤ y) (k : y ≤ 2201) : -25567 ≤ st y ∧ st y ≤ 84371 := by
  have a := st_mono 1900 y h
  have b := st_mono y 2201 k
  have c : st 1900 = -25567 := by decide
  have d : st 2201 = 84371 := by decide
  omega
theorem la_bd (y : Int) (h : 1900 ≤ y) (k : y ≤ 2201) : 400 ≤ la y ∧ la y ≤ 600 := by unfold la; omega
theorem dim_out (y m : Int) (h : m < 1 ∨ 12 < m) : dim y m = 0 := by unfold dim; rw [if_pos h]
theorem dim_bd (y m : Int) (h : 1 ≤ m) (k : m ≤ 12) : 28 ≤ dim y m ∧ dim y m ≤ 31 := by
  have := lp_01 y
  unfold dim; rw [if_neg (by omega)]; split
  · omega
  · split <;> omega
theorem dim_le (y m : Int) : 0 ≤ dim y m ∧ dim y m ≤ 31 := by
  by_cases h : m < 1 ∨ 12 < m
  · rw [dim_out _ _ h]; omega
  · have := dim_bd y m (by omega) (by omega); omega
theorem Vld.m1 {y m d : Int} (h : Vld y m d) : 1 ≤ m := by
  by_cases k : 1 ≤ m
  · exact k
  · have := dim_out y m (by omega); have := h.d1; have := h.d2; omega
theorem Vld.m2 {y m d : Int} (h : Vld y m d) : m ≤ 12 := by
  by_cases k : m ≤ 12
  · exact k
  · have := dim_out y m (by omega); have := h.d1; have := h.d2; omega
theorem Vld.d31 {y m d : Int} (h : Vld y m d) : d ≤ 31 := by have := dim_le y m; have := h.d2; omega
theorem cases12 {m : Int} (h : 1 ≤ m) (k : m ≤ 12) : m = 1 ∨ m = 2 ∨ m = 3 ∨ m = 4 ∨ m = 5 ∨ m = 6 ∨ m = 7 ∨ m = 8 ∨ m = 9 ∨ m = 10 ∨ m = 11 ∨ m = 12 := by omega
theorem cum_succ (y m : Int) (h : 1 ≤ m) (k : m ≤ 12) : cum y (m + 1) = cum y m + dim y m := by
  rcases cases12 h k with rfl | rfl | rfl | rfl | rfl | rfl | rfl | rfl | rfl | rfl | rfl | rfl <;> simp [cum, dim] <;> omega
theorem cum_one (y : Int) : cum y 1 = 0 := rfl
theorem cum_end (y : Int) : cum y 13 = 365 + lp y := rfl
theorem cum_up (y a : Int) (j : Nat) : 1 ≤ a → a + j ≤ 13 → cum y a ≤ cum y (a + j) := by
  induction j with
  | zero => intro _ _; simp
  | succ j ih =>
    intro h1 h2
    have h3 := ih h1 (by omega)
    have h4 := cum_succ y (a + j) (by omega) (by omega)
    have h5 := dim_le y (a + j)
    rw [show a + ((j + 1 : Nat) : Int) = a + j + 1 by omega]
    omega
theorem cum_mono (y m k : Int) (h : 1 ≤ m) (hk : m < k) (h2 : k ≤ 13) : cum y (m + 1) ≤ cum y k := by
  have := cum_up y (m + 1) (k - (m + 1)).toNat (by omega) (by omega)
  rwa [show m + 1 + ((k - (m + 1)).toNat : Int) = k by omega] at this
theorem cum_bd (y m : Int) (h : 1 ≤ m) (k : m ≤ 13) : 0 ≤ cum y m ∧ cum y m ≤ 366 := by
  have a := cum_up y 1 (m - 1).toNat (by omega) (by omega)
  have b := cum_up y m (13 - m).toNat (by omega) (by omega)
  rw [show (1 : Int) + ((m - 1).toNat : Int) = m by omega, cum_one] at a
  rw [show m + ((13 - m).toNat : Int) = 13 by omega, cum_end] at b
  have := lp_01 y
  omega
theorem num_bd {y m d : Int} (h : Vld y m d) : -25567 ≤ num y m d ∧ num y m d ≤ 84370 := by
  have a := st_bd y h.y1 (by have := h.y2; omega)
  have b := cum_bd y m h.m1 (by have := h.m2; omega)
  have c := st_succ y
  have e := cum_succ y m h.m1 h.m2
  have f := cum_mono y m 13 h.m1 (by have := h.m2; omega) (by omega)
  have g := cum_end y
  have i := st_bd (y + 1) (by have := h.y1; omega) (by have := h.y2; omega)
  have := h.d1; have := h.d2
  unfold num; omega
/-- A date that is ahead is a day that is ahead. -/
theorem num_lt {y m d y' m' d' : Int} (h : Vld y m d) (h' : Vld y' m' d') (k : y < y' ∨ y = y' ∧ (m < m' ∨ m = m' ∧ d < d')) : num y m d < num y' m' d' := by
  have e := cum_succ y m h.m1 h.m2
  have f := cum_mono y m 13 h.m1 (by have := h.m2; omega) (by omega)
  have g := cum_end y
  have b := cum_bd y' m' h'.m1 (by have := h'.m2; omega)
  have := h.d1; have := h.d2; have := h'.d1; have := h'.d2
  rcases k with k | ⟨rfl, k | ⟨rfl, k⟩⟩
  · have c := st_succ y
    have s := st_mono (y + 1) y' (by omega)
    unfold num; omega
  · have s := cum_mono y m m' h.m1 k (by have := h'.m2; omega)
    unfold num; omega
  · unfold num; omega
theorem num_iff {y m d y' m' d' : Int} (h : Vld y m d) (h' : Vld y' m' d') : (y < y' ∨ y = y' ∧ (m < m' ∨ m = m' ∧ d < d')) ↔ num y m d < num y' m' d' := by
  refine ⟨num_lt h h', fun k => ?_⟩
  by_cases a : y < y' ∨ y = y' ∧ (m < m' ∨ m = m' ∧ d < d')
  · exact a
  · by_cases b : y' < y ∨ y' = y ∧ (m' < m ∨ m' = m ∧ d' < d)
    · have := num_lt h' h b; omega
    · have h1 : y = y' := by omega
      have h2 : m = m' := by omega
      have h3 : d = d' := by omega
      subst h1; subst h2; subst h3; omega
/-- One date a day. -/
theorem num_inj {y m d y' m' d' : Int} (h : Vld y m d) (h' : Vld y' m' d') (k : num y m d = num y' m' d') : y = y' ∧ m = m' ∧ d = d' := by
  have a := num_iff h h'
  have b := num_iff h' h
  by_cases c : y < y' ∨ y = y' ∧ (m < m' ∨ m = m' ∧ d < d')
  · have := a.1 c; omega
  · by_cases e : y' < y ∨ y' = y ∧ (m' < m ∨ m' = m ∧ d' < d)
    · have := b.1 e; omega
    · omega
/-- The table of the months, from 0 on. -/
def mtab : List Int := [31, 28, 31, 30, 31, 30, 31, 31, 30, 31, 30, 31]
theorem mtab_dim (y m : Int) (h : 1 ≤ m) (k : m ≤ 12) (hn : ¬ (m = 2 ∧ lng y = true)) : mtab[(m - 1).toNat]? = some (dim y m) := by
  rcases cases12 h k with rfl | rfl | rfl | rfl | rfl | rfl | rfl | rfl | rfl | rfl | rfl | rfl <;> simp [mtab, dim]
  have : lng y = false := by simpa using hn
  simp [lp, this]
theorem dim_feb (y : Int) (h : lng y = true) : dim y 2 = 29 := by simp [dim, lp, h]
/-- The year in which a day is: the first guess is never too late. -/
theorem guess_le (n : Int) (h : -25567 ≤ n) (k : n ≤ 84370) : 1900 ≤ 1900 + (n + 25567) / 366 ∧ 1900 + (n + 25567) / 366 ≤ 2200 ∧ st (1900 + (n + 25567) / 366) ≤ n := by
  have h0 : 0 ≤ (n + 25567) / 366 := by omega
  have h1 : (n + 25567) / 366 ≤ 300 := by omega
  refine ⟨by omega, by omega, ?_⟩
  have hb : ∀ j : Int, 0 ≤ j → j ≤ 300 → st (1900 + j) ≤ 366 * j - 25567 := by
    intro j a b
    unfold st la; omega
  have := hb _ h0 h1
  omega
/-- The document's own count, in steps of four years. -/
theorem la_four (y k : Int) (h1 : 1900 + 4 * k < y + 4) (h2 : y ≤ 1900 + 4 * k) : la (1900 + 4 * k) = la y := by
  unfold la; omega
theorem la_step (k : Int) : la (1900 + 4 * (k + 1)) = la (1900 + 4 * k) + lp (1900 + 4 * k) := by
  have := lp_spec (1900 + 4 * k)
  unfold la; omega
theorem st_before (y : Int) : 365 * (y - 1900) + (la y - la 1900) = st y + 25567 := by
  have : la 1900 = 460 := by decide
  unfold st; omega
end Go.Proofs.YtaafagggjnemgaaGreatDoor.L3

namespace Go.Proofs.YtaafagggjnemgaaGreatDoor.L3
open Go.Lib
def dgt (n : Nat) : UInt8 := UInt8.ofNat (48 + n % 10)
def isD (c : UInt8) : Bool := decide (48 ≤ c.toNat) && decide (c.toNat ≤ 57)
def valL (l : List UInt8) : Nat := l.foldl (fun a c => 10 * a + (c.toNat - 48)) 0
def fix : Nat → Nat → List UInt8
  | 0, _ => []
  | k + 1, m => fix k (m / 10) ++ [dgt m]
theorem dgt_toNat (n : Nat) : (dgt n).toNat = 48 + n % 10 := by
  unfold dgt; simp; omega
theorem isD_dgt (n : Nat) : isD (dgt n) = true := by
  unfold isD; rw [dgt_toNat]; simp; omega
theorem valL_snoc (l : List UInt8) (c : UInt8) : valL (l ++ [c]) = 10 * valL l + (c.toNat - 48) := by
  simp [valL]
theorem fix_length (k : Nat) : ∀ m, (fix k m).length = k := by
  induction k with
  | zero => intro m; rfl
  | succ k ih => intro m; simp [fix, ih]
theorem valL_fix (k : Nat) : ∀ m, valL (fix k m) = m % 10 ^ k := by
  induction k with
  | zero => intro m; simp [fix, valL, Nat.mod_one]
  | succ k ih =>
    intro m
    rw [fix, valL_snoc, ih, dgt_toNat, Nat.pow_succ, Nat.mul_comm (10 ^ k) 10, Nat.mod_mul]
    omega
theorem decDigits_small {u : Nat} (h : u < 10) : decDigits u = [dgt u] := by
  rw [decDigits, dif_pos h]; unfold dgt; rw [Nat.mod_eq_of_lt h]
theorem decDigits_big {u : Nat} (h : ¬ u < 10) : decDigits u = decDigits (u / 10) ++ [dgt u] := by
  rw [decDigits, dif_neg h]; rfl
end Go.Proofs.YtaafagggjnemgaaGreatDoor.L3

namespace Go.Proofs.YtaafagggjnemgaaGreatDoor.L3
open Go.Lib
set_option linter.unusedVariables false
/-- What Number answers. -/
def numA (y m d : Int) : Int := if vldB y m d = true then num y m d else 0
def numE (y m d : Int) : Int := if vldB y m d = true then 0 else 5
theorem numA_ok (y m d : Int) (h : Vld y m d) : numA y m d = num y m d ∧ numE y m d = 0 := by
  unfold numA numE; simp [(vldB_iff y m d).2 h]
theorem fix_two (n : Nat) : fix 2 n = [dgt (n / 10), dgt n] := by simp [fix]
theorem fix_four (n : Nat) : fix 4 n = [dgt (n / 10 / 10 / 10), dgt (n / 10 / 10), dgt (n / 10), dgt n] := by simp [fix]
theorem dec_two (n : Nat) (h : ¬ n < 10) (h2 : n < 100) : decDigits n = fix 2 n := by
  rw [decDigits_big h, decDigits_small (by omega), fix_two]; rfl
theorem dec_one (n : Nat) (h : n < 10) : 48 :: decDigits n = fix 2 n := by
  rw [decDigits_small h, fix_two, show n / 10 = 0 by omega]; rfl
theorem dec_four (n : Nat) (h : 1000 ≤ n) (h2 : n < 10000) : decDigits n = fix 4 n := by
  rw [decDigits_big (by omega), decDigits_big (by omega), decDigits_big (by omega), decDigits_small (by omega), fix_four]; rfl
/-- The text of a date. -/
def textL (y m d : Int) : List UInt8 := fix 4 y.toNat ++ 45 :: (fix 2 m.toNat ++ 45 :: fix 2 d.toNat)
theorem text_length (y m d : Int) : (textL y m d).length = 10 := by simp [textL, fix_length]
/-- Is it a digit, or a hyphen, where one stands? -/
def okAt (l : List UInt8) (i : Nat) : Bool := if i = 4 ∨ i = 7 then l.getD i 0 == 45 else isD (l.getD i 0)
def formL (l : List UInt8) : Bool := decide (l.length = 10) && (List.range 10).all (okAt l)
def pY (l : List UInt8) : Int := (valL (l.take 4) : Nat)
def pM (l : List UInt8) : Int := (valL ((l.drop 5).take 2) : Nat)
def pD (l : List UInt8) : Int := (valL (l.drop 8) : Nat)
/-- What Take answers. -/
def takA (l : List UInt8) : Int := if formL l = true then numA (pY l) (pM l) (pD l) else 0
def takE (l : List UInt8) : Int := if formL l = true then numE (pY l) (pM l) (pD l) else 4
/-- The form, byte by byte. -/
structure Form (c0 c1 c2 c3 c4 c5 c6 c7 c8 c9 : UInt8) : Prop where
  d0 : isD c0 = true
  d1 : isD c1 = true
  d2 : isD c2 = true
  d3 : isD c3 = true
  h4 : c4 = 45
  d5 : isD c5 = true
  d6 : isD c6 = true
  h7 : c7 = 45
  d8 : isD c8 = true
  d9 : isD c9 = true
theorem form_iff (c0 c1 c2 c3 c4 c5 c6 c7 c8 c9 : UInt8) : formL [c0, c1, c2, c3, c4, c5, c6, c7, c8, c9] = true ↔ Form c0 c1 c2 c3 c4 c5 c6 c7 c8 c9 := by
  have : (List.range 10) = [0, 1, 2, 3, 4, 5, 6, 7, 8, 9] := by decide
  unfold formL
  rw [this]
  simp only [List.length_cons, List.length_nil, List.all_cons, List.all_nil, Bool.and_eq_true, decide_eq_true_eq, okAt]
  simp
  exact ⟨fun ⟨a0, a1, a2, a3, a4, a5, a6, a7, a8, a9⟩ => ⟨a0, a1, a2, a3, a4, a5, a6, a7, a8, a9⟩, fun h => ⟨h.d0, h.d1, h.d2, h.d3, h.h4, h.d5, h.d6, h.h7, h.d8, h.d9⟩⟩
theorem tak_form (l : List UInt8) (h : formL l = true) : takA l = numA (pY l) (pM l) (pD l) ∧ takE l = numE (pY l) (pM l) (pD l) := by unfold takA takE; simp [h]
theorem text_ten (y m d : Int) : textL y m d = [dgt (y.toNat / 10 / 10 / 10), dgt (y.toNat / 10 / 10), dgt (y.toNat / 10), dgt y.toNat, 45, dgt (m.toNat / 10), dgt m.toNat, 45, dgt (d.toNat / 10), dgt d.toNat] := by
  unfold textL; rw [fix_four, fix_two, fix_two]; rfl
theorem text_form (y m d : Int) : formL (textL y m d) = true := by
  rw [text_ten, form_iff]
  exact ⟨isD_dgt _, isD_dgt _, isD_dgt _, isD_dgt _, rfl, isD_dgt _, isD_dgt _, rfl, isD_dgt _, isD_dgt _⟩
theorem text_parts (y m d : Int) (h : Vld y m d) : pY (textL y m d) = y ∧ pM (textL y m d) = m ∧ pD (textL y m d) = d := by
  have e : textL y m d = fix 4 y.toNat ++ 45 :: (fix 2 m.toNat ++ 45 :: fix 2 d.toNat) := rfl
  have l4 := fix_length 4 y.toNat
  have l2 := fix_length 2 m.toNat
  have a : (textL y m d).take 4 = fix 4 y.toNat := by rw [e, List.take_append_of_le_length (by omega), List.take_of_length_le (by omega)]
  have b : (textL y m d).drop 5 = fix 2 m.toNat ++ 45 :: fix 2 d.toNat := by
    rw [e, show (5 : Nat) = (fix 4 y.toNat).length + 1 by omega, List.drop_append]; simp
  have c : (textL y m d).drop 8 = fix 2 d.toNat := by
    rw [show (8 : Nat) = 5 + 3 from rfl, ← List.drop_drop, b, show (3 : Nat) = (fix 2 m.toNat).length + 1 by omega, List.drop_append]; simp
  have := h.y1; have := h.y2; have := h.m1; have := h.m2; have := h.d1; have := h.d31
  refine ⟨?_, ?_, ?_⟩
  · unfold pY; rw [a, valL_fix]; omega
  · unfold pM; rw [b, List.take_append_of_le_length (by omega), List.take_of_length_le (by omega), valL_fix]; omega
  · unfold pD; rw [c, valL_fix]; omega
theorem text_take (y m d : Int) (h : Vld y m d) : takA (textL y m d) = num y m d ∧ takE (textL y m d) = 0 := by
  obtain ⟨a, b, c⟩ := text_parts y m d h
  obtain ⟨p, q⟩ := tak_form _ (text_form y m d)
  obtain ⟨r, s⟩ := numA_ok y m d h
  rw [p, q, a, b, c, r, s]
  exact ⟨rfl, rfl⟩
end Go.Proofs.YtaafagggjnemgaaGreatDoor.L3

namespace Go.Proofs.YtaafagggjnemgaaGreatDoor.L3
open Go.RowKit Go.Lib
set_option linter.unusedVariables false
/-- What the walks ask of the listed variables: the months' table, and the library's powers of ten. -/
structure Env (w : World) : Prop where
  mon : ∀ (i : Nat) (v : Int), mtab[i]? = some v → w.cell? ⟨6, i, none⟩ = some (.int .i64 v)
  pow : Lib.TabIs Tryz.prog w "internal/strconv.uint64pow10" .u64 Lib.pow10Tab
theorem Env.ext {w w' : World} (h : Env w) (hx : Ext w w') : Env w' := by
  obtain ⟨hm, ht⟩ := h
  refine ⟨fun i v hi => ?_, ?_⟩
  · have := hm i v hi
    rw [hx.cell _ _ (lt_of_cell this)]; exact this
  · unfold Lib.TabIs World.var? at *
    cases hg : Tryz.prog.globalNamed "internal/strconv.uint64pow10" with
    | none => simp [hg] at ht
    | some g =>
      simp only [hg, Option.bind_some] at ht ⊢
      have hlt : g < w.heap.size := by
        rcases Nat.lt_or_ge g w.heap.size with h' | h'
        · exact h'
        · rw [Array.getElem?_eq_none h'] at ht; simp at ht
      rw [hx.below.block g hlt]
      exact ht
def I64 (n : Int) : Prop := -9223372036854775808 ≤ n ∧ n ≤ 9223372036854775807
theorem tmod_zero (a b : Int) : a.tmod b = 0 ↔ a % b = 0 := by
  rw [← Int.dvd_iff_tmod_eq_zero, ← Int.dvd_iff_emod_eq_zero]
theorem ret_bool {a b : Bool} (h : a = b) : Ending.returned (.bool a) = .returned (.bool b) := by rw [h]
theorem ret_int {k : IntKind} {a b : Int} (h : a = b) : Ending.returned (.int k a) = .returned (.int k b) := by rw [h]
theorem long_c (y : Int) (w : World) :
    Calls Tryz.prog 138 #[.int .i64 y] w fun e w' => e = .returned (.bool (lng y)) ∧ w' = w := by
  have e4 := tmod_zero y 4; have e100 := tmod_zero y 100; have e400 := tmod_zero y 400
  replace e4 := show Hid _ from e4; replace e100 := show Hid _ from e100; replace e400 := show Hid _ from e400
  by_cases h4 : y.tmod 4 = 0
  · by_cases h100 : y.tmod 100 = 0
    · by_cases h400 : y.tmod 400 = 0
      · have hl : lng y = true := lng_of y (e4.out.1 h4) (Or.inr (e400.out.1 h400))
        rw [hl]
        clear hl
        go_enter Tryz.func138, Tryz.ntmps138
        go_wp2
        go_ret
        exact ⟨rfl, rfl⟩
      · have hl : lng y = false := lng_not y (fun k => by have := e100.out.1 h100; have := mt e400.out.2 h400; omega)
        rw [hl]
        clear hl
        go_enter Tryz.func138, Tryz.ntmps138
        go_wp2
        go_ret
        exact ⟨ret_bool (by simp [h400]), rfl⟩
    · have hl : lng y = true := lng_of y (e4.out.1 h4) (Or.inl (mt e100.out.2 h100))
      rw [hl]
      clear hl
      go_enter Tryz.func138, Tryz.ntmps138
      go_wp2
      go_ret
      exact ⟨rfl, rfl⟩
  · have hl : lng y = false := lng_not y (fun k => h4 (e4.out.2 k.1))
    rw [hl]
    clear hl
    go_enter Tryz.func138, Tryz.ntmps138
    go_wp2
    go_ret
    exact ⟨rfl, rfl⟩
theorem month_c (y m : Int) (w : World) (hm : I64 m) (he : Hid (Env w)) :
    Calls Tryz.prog 126 #[.int .i64 y, .int .i64 m] w fun e w' => e = .returned (.int .i64 (dim y m)) ∧ w' = w := by
  obtain ⟨m1, m2⟩ := hm
  by_cases h1 : m < 1
  · rw [dim_out y m (Or.inl h1)]
    go_enter Tryz.func126, Tryz.ntmps126
    go_wp2
    go_ret
    exact ⟨rfl, rfl⟩
  · by_cases h2 : 12 < m
    · rw [dim_out y m (Or.inr h2)]
      go_enter Tryz.func126, Tryz.ntmps126
      go_wp2
      go_ret
      exact ⟨rfl, rfl⟩
    · by_cases h3 : m = 2
      · subst h3
        cases hl : lng y
        · have hc := he.out.mon 1 28 rfl
          rw [show dim y 2 = 28 by simp [dim, lp, hl]]
          go_enter Tryz.func126, Tryz.ntmps126
          go_wp2_with (go_at_call 138; refine (long_c _ _).mono ?_; rintro e w' ⟨rfl, rfl⟩; rw [hl])
          go_ret
          exact ⟨rfl, rfl⟩
        · have hc := he.out.mon 1 28 rfl
          rw [dim_feb y hl]
          go_enter Tryz.func126, Tryz.ntmps126
          go_wp2_with (go_at_call 138; refine (long_c _ _).mono ?_; rintro e w' ⟨rfl, rfl⟩; rw [hl])
          go_ret
          exact ⟨rfl, rfl⟩
      · have hc := he.out.mon _ _ (mtab_dim y m (by omega) (by omega) (fun k => h3 k.1))
        rw [show (m - 1).toNat = m.toNat - 1 by omega] at hc
        generalize dim y m = v at hc ⊢
        go_enter Tryz.func126, Tryz.ntmps126
        go_wp2
        go_ret
        exact ⟨rfl, rfl⟩
theorem rLong_c (y : Int) (w : World) :
    Calls Tryz.prog 101 #[.int .i64 y] w fun e w' => e = .returned (.bool (lng y)) ∧ w' = w := by
  have e4 := tmod_zero y 4; have e100 := tmod_zero y 100; have e400 := tmod_zero y 400
  replace e4 := show Hid _ from e4; replace e100 := show Hid _ from e100; replace e400 := show Hid _ from e400
  by_cases h400 : y.tmod 400 = 0
  · have hl : lng y = true := lng_of y (by have := e400.out.1 h400; omega) (Or.inr (e400.out.1 h400))
    rw [hl]
    clear hl
    go_enter Tryz.func101, Tryz.ntmps101
    go_wp2
    go_ret
    exact ⟨rfl, rfl⟩
  · by_cases h4 : y.tmod 4 = 0
    · by_cases h100 : y.tmod 100 = 0
      · have hl : lng y = false := lng_not y (fun k => by have := e100.out.1 h100; have := mt e400.out.2 h400; omega)
        rw [hl]
        clear hl
        go_enter Tryz.func101, Tryz.ntmps101
        go_wp2
        go_ret
        exact ⟨rfl, rfl⟩
      · have hl : lng y = true := lng_of y (e4.out.1 h4) (Or.inl (mt e100.out.2 h100))
        rw [hl]
        clear hl
        go_enter Tryz.func101, Tryz.ntmps101
        go_wp2
        go_ret
        exact ⟨ret_bool (by simp [h100]), rfl⟩
    · have hl : lng y = false := lng_not y (fun k => h4 (e4.out.2 k.1))
      rw [hl]
      clear hl
      go_enter Tryz.func101, Tryz.ntmps101
      go_wp2
      go_ret
      exact ⟨rfl, rfl⟩
end Go.Proofs.YtaafagggjnemgaaGreatDoor.L3

namespace Go.Proofs.YtaafagggjnemgaaGreatDoor.L3
open Go.RowKit Go.Lib
set_option linter.unusedVariables false
theorem longAhead_c (y : Int) (w : World) (h1 : 1900 ≤ y) (h2 : y ≤ 2201) :
    Calls Tryz.prog 137 #[.int .i64 y] w fun e w' => e = .returned (.int .i64 (la y)) ∧ w' = w := by
  unfold la
  go_enter Tryz.func137, Tryz.ntmps137
  go_wp2
  go_ret
  exact ⟨rfl, rfl⟩
theorem start_c (y : Int) (w : World) (h1 : 1900 ≤ y) (h2 : y ≤ 2201) :
    Calls Tryz.prog 125 #[.int .i64 y] w fun e w' => e = .returned (.int .i64 (st y)) ∧ w' = w := by
  obtain ⟨b1, b2⟩ := la_bd y h1 h2
  have hl : la 1970 = 477 := by decide
  unfold st
  go_enter Tryz.func125, Tryz.ntmps125
  go_wp2_with (go_at_call 137; refine (longAhead_c _ _ (by omega) (by omega)).mono ?_; rintro e w' ⟨rfl, rfl⟩)
  go_ret
  exact ⟨ret_int (by omega), rfl⟩
theorem index_mon (k v : Int) (i : Nat) (hk : k = i) (hv : mtab[i]? = some v) (w : World) :
    (Instr.index 121 (.agg #[.int .i64 31, .int .i64 28, .int .i64 31, .int .i64 30, .int .i64 31, .int .i64 30, .int .i64 31, .int .i64 31, .int .i64 30, .int .i64 31, .int .i64 30, .int .i64 31]) (.int .i64 k)).run Tryz.prog w = .ok (.int .i64 v) w := by
  have hi : i < 12 := by
    rcases Nat.lt_or_ge i 12 with h | h
    · exact h
    · rw [List.getElem?_eq_none (by simpa [mtab] using h)] at hv; cases hv
  subst hk
  have hc : i = 0 ∨ i = 1 ∨ i = 2 ∨ i = 3 ∨ i = 4 ∨ i = 5 ∨ i = 6 ∨ i = 7 ∨ i = 8 ∨ i = 9 ∨ i = 10 ∨ i = 11 := by omega
  rcases hc with rfl | rfl | rfl | rfl | rfl | rfl | rfl | rfl | rfl | rfl | rfl | rfl <;> (obtain rfl := Option.some.inj hv; simp [Instr.index, asIntOf, run_underlying Tryz.underlying121, part, go_sem])
theorem rMonth_c (y m : Int) (w : World) (hm : I64 m) :
    Calls Tryz.prog 87 #[.int .i64 y, .int .i64 m] w fun e w' => e = .returned (.int .i64 (dim y m)) ∧ w' = w := by
  obtain ⟨m1, m2⟩ := hm
  by_cases h1 : m < 1
  · rw [dim_out y m (Or.inl h1)]
    go_enter Tryz.func87, Tryz.ntmps87
    go_wp2
    go_ret
    exact ⟨rfl, rfl⟩
  · by_cases h2 : 12 < m
    · rw [dim_out y m (Or.inr h2)]
      go_enter Tryz.func87, Tryz.ntmps87
      go_wp2
      go_ret
      exact ⟨rfl, rfl⟩
    · by_cases h3 : m = 2
      · subst h3
        have hx := index_mon 1 28 1 rfl rfl
        cases hl : lng y
        · rw [show dim y 2 = 28 by simp [dim, lp, hl]]
          go_enter Tryz.func87, Tryz.ntmps87
          go_wp2_with (go_at_call 101; refine (rLong_c _ _).mono ?_; rintro e w' ⟨rfl, rfl⟩; rw [hl])
          go_ret
          exact ⟨rfl, rfl⟩
        · rw [dim_feb y hl]
          go_enter Tryz.func87, Tryz.ntmps87
          go_wp2_with (go_at_call 101; refine (rLong_c _ _).mono ?_; rintro e w' ⟨rfl, rfl⟩; rw [hl])
          go_ret
          exact ⟨rfl, rfl⟩
      · have hx := index_mon (m - 1) _ _ (by omega) (mtab_dim y m (by omega) (by omega) (fun k => h3 k.1))
        generalize dim y m = v at hx ⊢
        go_enter Tryz.func87, Tryz.ntmps87
        go_wp2
        go_ret
        exact ⟨rfl, rfl⟩
theorem monthOf_c (y n : Int) (w : World) (h1 : 0 ≤ n) (h2 : n < 365 + lp y) (he : Hid (Env w)) :
    Calls Tryz.prog 124 #[.int .i64 n, .func (.func 126) #[.int .i64 y] #[]] w
      fun e w' => (∃ m : Int, 1 ≤ m ∧ m ≤ 12 ∧ cum y m ≤ n ∧ n < cum y m + dim y m ∧ e = .returned (.tuple #[.int .i64 m, .int .i64 (n - cum y m)])) ∧ w' = w := by
  have hl := lp_01 y
  obtain ⟨l1, l2⟩ := hl
  go_enter Tryz.func124, Tryz.ntmps124
  go_wp2
  go_loop [0, 4] (fun r k => ∃ j : Int, 1 ≤ j ∧ j ≤ 12 ∧ k = .int .i64 j ∧ cum y j ≤ n ∧ r = .int .i64 (n - cum y j)) (fun _ k => (12 - RowKit.intOf k).toNat)
  case atStart => exact ⟨1, by omega, by omega, rfl, h1, by rw [cum_one]; simp⟩
  case round =>
    obtain ⟨j, j1, j2, rfl, c3, rfl⟩ := hrel
    have cb := cum_bd y j j1 (by omega)
    obtain ⟨c1, c2⟩ := cb
    have db := dim_bd y j j1 (by omega)
    obtain ⟨d1, d2⟩ := db
    have cs := cum_succ y j j1 (by omega)
    have ce := cum_end y
    replace cs := show Hid _ from cs
    replace ce := show Hid _ from ce
    by_cases hj : dim y j ≤ n - cum y j
    · have j3 : j < 12 := by
        have := cs.out; have := ce.out
        rcases Int.lt_or_le j 12 with k | k
        · exact k
        · obtain rfl : j = 12 := by omega
          simp only [show (12 : Int) + 1 = 13 from rfl] at this cs
          have := cs.out
          omega
      go_wp2_with (go_at_call 126; refine (month_c _ _ _ (by unfold I64; omega) he).mono ?_; rintro e w' ⟨rfl, rfl⟩)
      go_round
      case rel => exact ⟨j + 1, by omega, by omega, by go_num, by rw [cs.out]; omega, by rw [cs.out]; go_num⟩
      case measure => simp [RowKit.intOf]; omega
    · go_wp2_with (go_at_call 126; refine (month_c _ _ _ (by unfold I64; omega) he).mono ?_; rintro e w' ⟨rfl, rfl⟩)
      go_ret2
      exact ⟨⟨j, j1, j2, c3, by omega, rfl⟩, rfl⟩
theorem yearOf_c (n : Int) (w : World) (h1 : -25567 ≤ n) (h2 : n ≤ 84370) :
    Calls Tryz.prog 123 #[.int .i64 n] w fun e w' => (∃ y : Int, 1900 ≤ y ∧ y ≤ 2200 ∧ st y ≤ n ∧ n < st y + 365 + lp y ∧ e = .returned (.int .i64 y)) ∧ w' = w := by
  obtain ⟨g1, g2, g3⟩ := guess_le n h1 h2
  go_enter Tryz.func123, Tryz.ntmps123
  go_wp2
  go_loop [3] (fun t => ∃ y : Int, 1900 ≤ y ∧ y ≤ 2200 ∧ st y ≤ n ∧ t = .int .i64 y) (fun t => (2200 - RowKit.intOf t).toNat)
  case atStart => exact ⟨_, g1, g2, g3, rfl⟩
  case round =>
    clear g1 g2 g3
    obtain ⟨y, y1, y2, y3, rfl⟩ := hrel
    have hs := show Hid _ from st_succ y
    have hb := st_bd (y + 1) (by omega) (by omega)
    obtain ⟨b1, b2⟩ := hb
    by_cases hc : st (y + 1) ≤ n
    · have y4 : y < 2200 := by
        rcases Int.lt_or_le y 2200 with k | k
        · exact k
        · obtain rfl : y = 2200 := by omega
          have : st (2200 + 1) = 84371 := by decide
          omega
      go_wp2_with (go_at_call 125; refine (start_c _ _ (by omega) (by omega)).mono ?_; rintro e w' ⟨rfl, rfl⟩)
      go_round
      case rel => exact ⟨y + 1, by omega, by omega, hc, by go_num⟩
      case measure => simp [RowKit.intOf]; omega
    · go_wp2_with (go_at_call 125; refine (start_c _ _ (by omega) (by omega)).mono ?_; rintro e w' ⟨rfl, rfl⟩)
      go_ret
      exact ⟨⟨y, y1, y2, y3, by have := hs.out; omega, rfl⟩, rfl⟩
theorem before_c (y : Int) (w : World) (h1 : 1900 ≤ y) (h2 : y ≤ 2201) :
    Calls Tryz.prog 86 #[.int .i64 y] w fun e w' => e = .returned (.int .i64 (st y + 25567)) ∧ w' = w := by
  have hb := st_before y
  rw [← hb]
  clear hb
  go_enter Tryz.func86, Tryz.ntmps86
  go_wp2
  go_loop [3, 4] (fun s t => ∃ k : Int, 0 ≤ k ∧ 1900 + 4 * k < y + 4 ∧ t = .int .i64 (1900 + 4 * k) ∧ s = .int .i64 (365 * (y - 1900) + (la (1900 + 4 * k) - la 1900))) (fun _ t => (y - RowKit.intOf t).toNat)
  case atStart => exact ⟨0, by omega, by omega, rfl, by simp⟩
  case round =>
    obtain ⟨k, k1, k2, rfl, rfl⟩ := hrel
    have hs := show Hid _ from la_step k
    obtain ⟨b1, b2⟩ : 400 ≤ la (1900 + 4 * k) ∧ la (1900 + 4 * k) ≤ 600 := by unfold la; omega
    have b3 : la 1900 = 460 := by decide
    rw [b3]
    generalize hq : la (1900 + 4 * k) = q at *
    replace hq := show Hid _ from hq
    by_cases hk : 1900 + 4 * k < y
    · cases hl : lng (1900 + 4 * k)
      · go_wp2_with (go_at_call 101; refine (rLong_c _ _).mono ?_; rintro e w' ⟨rfl, rfl⟩; rw [hl])
        go_round
        case rel => exact ⟨k + 1, by omega, by omega, by go_num, by rw [hs.out]; simp [lp, hl]⟩
        case measure => simp [RowKit.intOf]; omega
      · go_wp2_with (go_at_call 101; refine (rLong_c _ _).mono ?_; rintro e w' ⟨rfl, rfl⟩; rw [hl])
        go_round
        case rel => exact ⟨k + 1, by omega, by omega, by go_num, by rw [hs.out]; simp [lp, hl]; omega⟩
        case measure => simp [RowKit.intOf]; omega
    · have hf := la_four y k k2 (by omega)
      go_wp2
      go_ret
      exact ⟨ret_int (by rw [← hf, hq.out]), rfl⟩
end Go.Proofs.YtaafagggjnemgaaGreatDoor.L3

namespace Go.Proofs.YtaafagggjnemgaaGreatDoor.L3
open Go.RowKit Go.Lib
set_option linter.unusedVariables false
end Go.Proofs.YtaafagggjnemgaaGreatDoor.L3

namespace Go.Proofs.YtaafagggjnemgaaGreatDoor.L3
open Go.RowKit Go.Lib
set_option linter.unusedVariables false
set_option maxHeartbeats 1000000 in
theorem Date_ok (n : Int) (w : World) (h1 : -25567 ≤ n) (h2 : n ≤ 84370) (he : Hid (Env w)) :
    Calls Tryz.prog 111 #[.int .i64 n] w fun e w' => (∃ y m d : Int, e = .returned (.tuple #[.agg #[.int .i64 y, .int .i64 m, .int .i64 d], .int .i64 0]) ∧ Vld y m d ∧ num y m d = n) ∧ Ext w w' := by
  have a1 : ¬ n < -25567 := by omega
  have a2 : ¬ 84370 < n := by omega
  go_enter Tryz.func111, Tryz.ntmps111
  go_wp2_with fail
  refine (yearOf_c _ _ h1 h2).mono ?_
  rintro e w1 ⟨⟨y, y1, y2, y3, y4, rfl⟩, rfl⟩
  have sb := st_bd y y1 (by omega)
  obtain ⟨s1, s2⟩ := sb
  go_wp2_with fail
  refine (start_c _ _ y1 (by omega)).mono ?_
  rintro e w1 ⟨rfl, rfl⟩
  go_wp2_with fail
  refine (monthOf_c _ _ _ (by omega) (by omega) (he.out.ext ((Ext.refl _).alloc _ _))).mono ?_
  rintro e w1 ⟨⟨m, m1, m2, m3, m4, rfl⟩, rfl⟩
  have cb := cum_bd y m m1 (by omega)
  obtain ⟨c1, c2⟩ := cb
  have db := dim_bd y m m1 m2
  obtain ⟨d1, d2⟩ := db
  have hv : Hid (Vld y m (n - st y - cum y m + 1)) := ⟨y1, y2, by omega, by omega⟩
  have hn : Hid (num y m (n - st y - cum y m + 1) = n) := by show num y m _ = n; unfold num; omega
  go_wp2
  exact bodyPost_ret (v := .tuple #[.agg #[.int .i64 y, .int .i64 m, .int .i64 (n - st y - cum y m + 1)], .int .i64 0]) (by simp [results, Tryz.results111, go_sem]) rfl ⟨⟨y, m, _, rfl, hv.out, hn.out⟩, (Ext.refl _).alloc _ _⟩
end Go.Proofs.YtaafagggjnemgaaGreatDoor.L3

namespace Go.Proofs.YtaafagggjnemgaaGreatDoor.L3
open Go.RowKit Go.Lib
set_option linter.unusedVariables false
theorem Is_t (n : Int) (w : World) (h1 : -25567 ≤ n) (h2 : n ≤ 84370) :
    Calls Tryz.prog 85 #[.int .i64 n] w fun e w' => e = .returned (.bool true) ∧ w' = w := by
  go_enter Tryz.func85, Tryz.ntmps85
  go_wp2
  go_ret
  exact ⟨rfl, rfl⟩
theorem Is_f (n : Int) (w : World) (h : n < -25567 ∨ 84370 < n) :
    Calls Tryz.prog 85 #[.int .i64 n] w fun e w' => e = .returned (.bool false) ∧ w' = w := by
  rcases h with h | h
  · have h' : ¬ -25567 ≤ n := by omega
    go_enter Tryz.func85, Tryz.ntmps85
    go_wp2
    go_ret
    exact ⟨rfl, rfl⟩
  · have h' : -25567 ≤ n := by omega
    have h2 : ¬ n ≤ 84370 := by omega
    go_enter Tryz.func85, Tryz.ntmps85
    go_wp2
    go_ret
    exact ⟨rfl, rfl⟩
/-- The number in a cell. -/
def cellInt (w : World) (b o : Nat) : Int := match w.cell? ⟨b, o, none⟩ with | some (.int _ n) => n | _ => 0
theorem cellInt_of {w : World} {b o : Nat} {k : IntKind} {n : Int} (h : w.cell? ⟨b, o, none⟩ = some (.int k n)) : cellInt w b o = n := by unfold cellInt; rw [h]
/-- The result's cells and those of the date that is sought. -/
structure Dst (w wr : World) (r b : Nat) (y m d : Int) : Prop where
  ext : Ext w wr
  lo : w.heap.size ≤ r
  ne : r < b
  r0 : wr.cell? ⟨r, 0, none⟩ = some (.int .i64 0)
  r1 : wr.cell? ⟨r, 1, none⟩ = some (.int .i64 0)
  r2 : wr.cell? ⟨r, 2, none⟩ = some (.int .i64 0)
  b0 : wr.cell? ⟨b, 0, none⟩ = some (.int .i64 y)
  b1 : wr.cell? ⟨b, 1, none⟩ = some (.int .i64 m)
  b2 : wr.cell? ⟨b, 2, none⟩ = some (.int .i64 d)
  f0 : wr.frozen? ⟨r, 0, none⟩ = false
  f1 : wr.frozen? ⟨r, 1, none⟩ = false
  f2 : wr.frozen? ⟨r, 2, none⟩ = false
  g0 : wr.frozen? ⟨b, 0, none⟩ = false
  g1 : wr.frozen? ⟨b, 1, none⟩ = false
  g2 : wr.frozen? ⟨b, 2, none⟩ = false
theorem Dst.start (w : World) (y m : Int) (t : TypeId) :
    ∃ W r b, (w.alloc (.cells #[.int .i64 0, .int .i64 0, .int .i64 0] t)).alloc (.cells #[.int .i64 y, .int .i64 m, .int .i64 0] t) = W ∧ w.heap.size = r ∧ r + 1 = b ∧ Dst w W r b y m 0 :=
  ⟨_, _, _, rfl, rfl, rfl, ((Ext.refl w).alloc _ _).alloc _ _, Nat.le_refl _, by omega, by simp [go_sem], by simp [go_sem], by simp [go_sem], by simp [go_sem], by simp [go_sem], by simp [go_sem],
    by simp [go_sem], by simp [go_sem], by simp [go_sem], by simp [go_sem], by simp [go_sem], by simp [go_sem]⟩
theorem other {w : World} {b o b' o' : Nat} (x : Value) (h : b ≠ b' ∨ o ≠ o') : (w.setCell ⟨b, o, none⟩ x).cell? ⟨b', o', none⟩ = w.cell? ⟨b', o', none⟩ :=
  by
    apply World.cell?_setCell_other
    intro e
    injection e with e1 e2
    omega
theorem same {w : World} {a : Addr} {v u : Value} (h : w.cell? a = some u) : (w.setCell a v).cell? a = some v := by
  apply World.cell?_setCell_same
  exact h
theorem Dst.year {w wr : World} {r b : Nat} {y m d : Int} (h : Dst w wr r b y m d) (z : Int) : Dst w (wr.setCell ⟨b, 0, none⟩ (.int .i64 z)) r b z m d := by
  have := h.ne; have := h.lo
  exact ⟨h.ext.setCell (show w.heap.size ≤ b by omega) _, h.lo, h.ne, by rw [other _ (by omega)]; exact h.r0, by rw [other _ (by omega)]; exact h.r1, by rw [other _ (by omega)]; exact h.r2,
    same h.b0, by rw [other _ (by omega)]; exact h.b1, by rw [other _ (by omega)]; exact h.b2,
    by simpa using h.f0, by simpa using h.f1, by simpa using h.f2, by simpa using h.g0, by simpa using h.g1, by simpa using h.g2⟩
theorem Dst.month {w wr : World} {r b : Nat} {y m d : Int} (h : Dst w wr r b y m d) (z : Int) : Dst w (wr.setCell ⟨b, 1, none⟩ (.int .i64 z)) r b y z d := by
  have := h.ne; have := h.lo
  exact ⟨h.ext.setCell (show w.heap.size ≤ b by omega) _, h.lo, h.ne, by rw [other _ (by omega)]; exact h.r0, by rw [other _ (by omega)]; exact h.r1, by rw [other _ (by omega)]; exact h.r2,
    by rw [other _ (by omega)]; exact h.b0, same h.b1, by rw [other _ (by omega)]; exact h.b2,
    by simpa using h.f0, by simpa using h.f1, by simpa using h.f2, by simpa using h.g0, by simpa using h.g1, by simpa using h.g2⟩
theorem Dst.day {w wr : World} {r b : Nat} {y m d : Int} (h : Dst w wr r b y m d) (z : Int) : Dst w (wr.setCell ⟨b, 2, none⟩ (.int .i64 z)) r b y m z := by
  have := h.ne; have := h.lo
  exact ⟨h.ext.setCell (show w.heap.size ≤ b by omega) _, h.lo, h.ne, by rw [other _ (by omega)]; exact h.r0, by rw [other _ (by omega)]; exact h.r1, by rw [other _ (by omega)]; exact h.r2,
    by rw [other _ (by omega)]; exact h.b0, by rw [other _ (by omega)]; exact h.b1, same h.b2,
    by simpa using h.f0, by simpa using h.f1, by simpa using h.f2, by simpa using h.g0, by simpa using h.g1, by simpa using h.g2⟩
theorem Dst.done {w wr : World} {r b : Nat} {y m d : Int} (h : Dst w wr r b y m d) (z : Int) :
    ∃ W, (((wr.setCell ⟨b, 2, none⟩ (.int .i64 z)).setCell ⟨r, 0, none⟩ (.int .i64 y)).setCell ⟨r, 1, none⟩ (.int .i64 m)).setCell ⟨r, 2, none⟩ (.int .i64 z) = W ∧
      W.cell? ⟨r, 0, none⟩ = some (.int .i64 y) ∧ W.cell? ⟨r, 1, none⟩ = some (.int .i64 m) ∧ W.cell? ⟨r, 2, none⟩ = some (.int .i64 z) ∧ Ext w W := by
  have k := h.day z
  have := h.ne; have := h.lo
  refine ⟨_, rfl, ?_, ?_, ?_, ?_⟩
  · rw [other _ (by omega), other _ (by omega)]; exact same k.r0
  · rw [other _ (by omega)]; exact same (by rw [other _ (by omega)]; exact k.r1)
  · exact same (by rw [other _ (by omega), other _ (by omega)]; exact k.r2)
  · exact ((k.ext.setCell (show w.heap.size ≤ r from h.lo) _).setCell (show w.heap.size ≤ r from h.lo) _).setCell (show w.heap.size ≤ r from h.lo) _
set_option maxHeartbeats 1000000 in
theorem rDate_ok (n : Int) (w : World) (h1 : -25567 ≤ n) (h2 : n ≤ 84370) :
    Calls Tryz.prog 48 #[.int .i64 n] w fun e w' => (∃ y m d : Int, e = .returned (.tuple #[.agg #[.int .i64 y, .int .i64 m, .int .i64 d], .int .i64 0]) ∧ Vld y m d ∧ num y m d = n) ∧ Ext w w' := by
  obtain ⟨g1, g2, g3⟩ := guess_le n h1 h2
  go_enter Tryz.func48, Tryz.ntmps48
  go_wp2_with (go_at_call 85; refine (Is_t _ _ h1 h2).mono ?_; rintro e w' ⟨rfl, rfl⟩)
  obtain ⟨W0, r, b, hW, hr, hb, hd⟩ := Dst.start w (1900 + (n + 25567) / 366) 1 90
  rw [hW, hr, hb]
  clear hW hr hb
  replace hd := show Hid _ from hd
  generalize hy0 : 1900 + (n + 25567) / 366 = y0 at *
  clear hy0
  go_loopw [] (fun wr => ∃ y : Int, 1900 ≤ y ∧ y ≤ 2200 ∧ st y ≤ n ∧ Hid (Dst w wr r b y 1 0)) (fun wr => (2200 - cellInt wr b 0).toNat)
  case atStart => exact ⟨y0, g1, g2, g3, hd⟩
  case round =>
    clear g1 g2 g3 hd
    obtain ⟨y, y1, y2, y3, hd⟩ := hrel
    have c0 := hd.out.b0; have c1 := hd.out.b1; have c2 := hd.out.b2; have g0 := hd.out.g0
    have hs := show Hid _ from st_succ y
    obtain ⟨b1, b2⟩ := st_bd (y + 1) (by omega) (by omega)
    by_cases hc : st (y + 1) ≤ n
    · have y4 : y < 2200 := by
        rcases Int.lt_or_le y 2200 with k | k
        · exact k
        · obtain rfl : y = 2200 := by omega
          have : st (2200 + 1) = 84371 := by decide
          omega
      go_wp2_with (go_at_call 86; refine (before_c _ _ (by omega) (by omega)).mono ?_; rintro e w' ⟨rfl, rfl⟩)
      go_roundw
      case rel => exact ⟨y + 1, by omega, by omega, hc, hd.out.year (y + 1)⟩
      case measure => rw [cellInt_of (hd.out.year (y + 1)).b0, cellInt_of c0]; omega
    · have y5 : n < st y + 365 + lp y := by have := hs.out; omega
      obtain ⟨s1, s2⟩ := st_bd y y1 (by omega)
      obtain ⟨l1, l2⟩ := lp_01 y
      go_wp2_with (go_at_call 86; refine (before_c _ _ (by omega) (by omega)).mono ?_; rintro e w' ⟨rfl, rfl⟩)
      clear c0 c1 c2 g0 hs hc
      go_loopw [4] (fun t wr => ∃ m : Int, 1 ≤ m ∧ m ≤ 12 ∧ cum y m ≤ n - st y ∧ t = .int .i64 (n - st y - cum y m) ∧ Hid (Dst w wr r b y m 0)) (fun _ wr => (12 - cellInt wr b 1).toNat)
      case atStart => exact ⟨1, by omega, by omega, by rw [cum_one]; omega, by rw [cum_one]; go_num, hd⟩
      case round =>
        clear hd
        obtain ⟨m, m1, m2, m3, rfl, hd⟩ := hrel
        have c0 := hd.out.b0; have c1 := hd.out.b1; have c2 := hd.out.b2; have g1 := hd.out.g1; have g2 := hd.out.g2
        obtain ⟨k1, k2⟩ := cum_bd y m m1 (by omega)
        obtain ⟨k3, k4⟩ := dim_bd y m m1 (by omega)
        have cs := show Hid _ from cum_succ y m m1 (by omega)
        have ce := show Hid _ from cum_end y
        by_cases hj : dim y m ≤ n - st y - cum y m
        · have j3 : m < 12 := by
            have := cs.out; have := ce.out
            rcases Int.lt_or_le m 12 with k | k
            · exact k
            · obtain rfl : m = 12 := by omega
              simp only [show (12 : Int) + 1 = 13 from rfl] at this cs
              have := cs.out
              omega
          go_wp2_with (go_at_call 87; refine (rMonth_c _ _ _ (by unfold I64; omega)).mono ?_; rintro e w' ⟨rfl, rfl⟩)
          go_roundw
          case rel => exact ⟨m + 1, by omega, by omega, by rw [cs.out]; omega, by rw [cs.out]; go_num, hd.out.month (m + 1)⟩
          case measure => rw [cellInt_of (hd.out.month (m + 1)).b1, cellInt_of c1]; omega
        · have hv : Hid (Vld y m (n - st y - cum y m + 1)) := ⟨y1, y2, by omega, by omega⟩
          have hn : Hid (num y m (n - st y - cum y m + 1) = n) := by show num y m _ = n; unfold num; omega
          have q0 := hd.out.r0; have q1 := hd.out.r1; have q2 := hd.out.r2
          have f0 := hd.out.f0; have f1 := hd.out.f1; have f2 := hd.out.f2; have lo := hd.out.lo; have ne := hd.out.ne
          clear cs ce
          go_wp2_with (go_at_call 87; refine (rMonth_c _ _ _ (by unfold I64; omega)).mono ?_; rintro e w' ⟨rfl, rfl⟩)
          obtain ⟨W, hW, z0, z1, z2, hX⟩ := hd.out.done (n - st y - cum y m + 1)
          rw [hW]
          clear hW
          exact bodyPost_ret (v := .tuple #[.agg #[.int .i64 y, .int .i64 m, .int .i64 (n - st y - cum y m + 1)], .int .i64 0]) (by simp [results, Tryz.results48, go_sem, z0, z1, z2]) rfl ⟨⟨y, m, _, rfl, hv.out, hn.out⟩, hX⟩
end Go.Proofs.YtaafagggjnemgaaGreatDoor.L3

namespace Go.Proofs.YtaafagggjnemgaaGreatDoor.L3
open Go.RowKit Go.Lib
set_option linter.unusedVariables false
@[go_sem] theorem app_mk (a b : List UInt8) : (⟨a.toArray⟩ : ByteArray) ++ (⟨b.toArray⟩ : ByteArray) = ⟨(a ++ b).toArray⟩ := by
  apply ByteArray.ext
  simp
theorem twoDigits_c (n : Nat) (w : World) (h : n < 100) :
    Calls Tryz.prog 112 #[.int .i64 (n : Int)] w fun e w' => e = .returned (.string ⟨(fix 2 n).toArray⟩) ∧ w' = w := by
  by_cases h1 : n < 10
  · have e := dec_one n h1
    rw [← e]
    clear e
    have hl : (decDigits n).length = 1 := by rw [decDigits_small h1]; rfl
    have hn : (n : Int) < 10 := by omega
    have hi := show Hid _ from fun w => Tryz.strconv_Itoa_small n h w
    generalize decDigits n = l at *
    go_enter Tryz.func112, Tryz.ntmps112
    go_wp2_with (go_at_call 97; refine (hi.out _).mono ?_; rintro e w' ⟨rfl, rfl⟩)
    go_ret
    exact ⟨rfl, rfl⟩
  · rw [← dec_two n h1 h]
    have hn : ¬ (n : Int) < 10 := by omega
    have hi := show Hid _ from fun w => Tryz.strconv_Itoa_small n h w
    generalize decDigits n = l at *
    go_enter Tryz.func112, Tryz.ntmps112
    go_wp2_with (go_at_call 97; refine (hi.out _).mono ?_; rintro e w' ⟨rfl, rfl⟩)
    go_ret
    exact ⟨rfl, rfl⟩
theorem itoaYear_c (n : Nat) (w : World) (h1 : 1000 ≤ n) (h2 : n < 10000) (he : Hid (Env w)) :
    Calls Tryz.prog 97 #[.int .i64 (n : Int)] w fun e w' => e = .returned (.string ⟨(fix 4 n).toArray⟩) ∧ Ext w w' := by
  refine (Tryz.strconv_Itoa n (by omega) (by omega) w he.out.pow).mono ?_
  rintro e w' ⟨rfl, k, os, rfl⟩
  refine ⟨?_, ((Ext.refl w).drewN k).grow os⟩
  have : Lib.itoa (n : Int) = fix 4 n := by
    unfold Lib.itoa
    rw [if_neg (by omega), Int.toNat_natCast, dec_four n h1 h2]
  rw [this]
end Go.Proofs.YtaafagggjnemgaaGreatDoor.L3

namespace Go.Proofs.YtaafagggjnemgaaGreatDoor.L3
open Go.RowKit Go.Lib
set_option linter.unusedVariables false
theorem ret_text {a b : List UInt8} (h : a = b) (k : Int) : Ending.returned (.tuple #[.string ⟨a.toArray⟩, .int .i64 k]) = .returned (.tuple #[.string ⟨b.toArray⟩, .int .i64 k]) := by rw [h]
set_option maxHeartbeats 1000000 in
theorem Text_ok (n : Int) (w : World) (h1 : -25567 ≤ n) (h2 : n ≤ 84370) (he : Hid (Env w)) :
    Calls Tryz.prog 100 #[.int .i64 n] w fun e w' => (∃ y m d : Int, e = .returned (.tuple #[.string ⟨(textL y m d).toArray⟩, .int .i64 0]) ∧ Vld y m d ∧ num y m d = n) ∧ Ext w w' := by
  go_enter Tryz.func100, Tryz.ntmps100
  go_wp2_with fail
  refine (Date_ok _ _ h1 h2 he).mono ?_
  rintro e w1 ⟨⟨y, m, d, rfl, hv, hn⟩, hx⟩
  replace he : Hid (Env w1) := he.out.ext hx
  replace hx := show Hid _ from hx
  replace hn := show Hid _ from hn
  obtain ⟨Y, rfl⟩ : ∃ Y : Nat, y = Y := ⟨y.toNat, by have := hv.y1; omega⟩
  obtain ⟨M, rfl⟩ : ∃ M : Nat, m = M := ⟨m.toNat, by have := hv.m1; omega⟩
  obtain ⟨N, rfl⟩ : ∃ N : Nat, d = N := ⟨d.toNat, by have := hv.d1; omega⟩
  have y1 := hv.y1; have y2 := hv.y2; have m2 := hv.m2; have d2 := hv.d31
  replace hv := show Hid _ from hv
  go_wp2
  obtain ⟨W0, b, hW0, hb, hx0, k0, k1, k2⟩ := box3 w1 (.int .i64 (Y : Int)) (.int .i64 (M : Int)) (.int .i64 (N : Int)) 90
  rw [hW0, hb]
  clear hW0 hb
  replace he : Hid (Env W0) := he.out.ext hx0
  replace hx : Hid (Ext w W0) := hx.out.trans hx0
  clear hx0
  have j0 := Late.cell k0; have j1 := Late.cell k1; have j2 := Late.cell k2
  have hE : Hid (∀ s : Late W0, Hid (Env s.to)) := fun s => he.out.ext s.ext
  have hI : Hid (∀ w : World, Hid (Env w) → Calls Tryz.prog 97 #[.int .i64 (Y : Int)] w fun e w' => e = .returned (.string ⟨(fix 4 Y).toArray⟩) ∧ Ext w w') := fun w he => itoaYear_c Y w (by omega) (by omega) he
  have hM : Hid (∀ w : World, Calls Tryz.prog 112 #[.int .i64 (M : Int)] w fun e w' => e = .returned (.string ⟨(fix 2 M).toArray⟩) ∧ w' = w) := fun w => twoDigits_c M w (by omega)
  have hN : Hid (∀ w : World, Calls Tryz.prog 112 #[.int .i64 (N : Int)] w fun e w' => e = .returned (.string ⟨(fix 2 N).toArray⟩) ∧ w' = w) := fun w => twoDigits_c N w (by omega)
  have l1 := fix_length 4 Y; have l2 := fix_length 2 M; have l3 := fix_length 2 N
  have ht : Hid (textL (Y : Int) (M : Int) (N : Int) = fix 4 Y ++ 45 :: (fix 2 M ++ 45 :: fix 2 N)) := rfl
  generalize fix 4 Y = a at *
  generalize fix 2 M = p at *
  generalize fix 2 N = q at *
  clear y1 y2 m2 d2
  have hz : ∀ s : Late W0, ¬ 9223372036854775807 < 4 + 1 := fun _ => by omega
  clear hz
  have hNe1 : Nonempty (Late W0) := ⟨⟨_, Ext.refl _⟩⟩
  refine wp_region_late (by kernel_rfl) (by kernel_rfl) ?_
  repeat (go_big_quiet_step ((first
    | (go_at_call 97; exact late_of (hI.out _ (hE.out _)))
    | (go_at_call_of 112 (M : Int); exact late_same (hM.out _))
    | (go_at_call_of 112 (N : Int); exact late_same (hN.out _)))))
  refine wpQuiet_nil ?_
  intro W1 hw'
  have hx1 := late_ext hw'
  clear hw'
  go_wp2
  go_ret2
  exact ⟨⟨Y, M, N, by exact ret_text (by rw [ht.out]) 0, hv.out, hn.out⟩, hx.out.trans hx1⟩
end Go.Proofs.YtaafagggjnemgaaGreatDoor.L3

namespace Go.Proofs.YtaafagggjnemgaaGreatDoor.L3
/-- The greatest of the first k + 1 places at which f is at most n. -/
def lastLe (f : Int → Int) (n a : Int) : Nat → Int
  | 0 => a
  | k + 1 => if f (a + ((k + 1 : Nat) : Int)) ≤ n then a + ((k + 1 : Nat) : Int) else lastLe f n a k
theorem lastLe_spec (f : Int → Int) (n a : Int) (h : f a ≤ n) : ∀ (k : Nat), n < f (a + k + 1) → a ≤ lastLe f n a k ∧ lastLe f n a k ≤ a + k ∧ f (lastLe f n a k) ≤ n ∧ n < f (lastLe f n a k + 1)
  | 0, hn => by
    simp only [lastLe]
    have e : a + ((0 : Nat) : Int) = a := by omega
    rw [e] at hn ⊢
    exact ⟨Int.le_refl _, Int.le_refl _, h, hn⟩
  | k + 1, hn => by
    simp only [lastLe]
    by_cases c : f (a + ((k + 1 : Nat) : Int)) ≤ n
    · rw [if_pos c]; exact ⟨by omega, Int.le_refl _, c, hn⟩
    · rw [if_neg c]
      obtain ⟨p, q, r, s⟩ := lastLe_spec f n a h k (by rw [show a + (k : Int) + 1 = a + ((k + 1 : Nat) : Int) by omega]; omega)
      exact ⟨p, by omega, r, s⟩
/-- The date of a day. -/
def yOf (n : Int) : Int := lastLe st n 1900 300
def mOf (n : Int) : Int := lastLe (cum (yOf n)) (n - st (yOf n)) 1 11
def dOf (n : Int) : Int := n - st (yOf n) - cum (yOf n) (mOf n) + 1
theorem ofDay (n : Int) (h1 : -25567 ≤ n) (h2 : n ≤ 84370) : Vld (yOf n) (mOf n) (dOf n) ∧ num (yOf n) (mOf n) (dOf n) = n := by
  have s0 : st 1900 = -25567 := by decide
  have s1 : st 2201 = 84371 := by decide
  obtain ⟨a, b, c, d⟩ := lastLe_spec st n 1900 (by omega) 300 (by rw [show (1900 : Int) + ((300 : Nat) : Int) + 1 = 2201 by decide]; omega)
  change 1900 ≤ yOf n at a
  change yOf n ≤ 1900 + ((300 : Nat) : Int) at b
  change st (yOf n) ≤ n at c
  change n < st (yOf n + 1) at d
  have ss := st_succ (yOf n)
  have ce := cum_end (yOf n)
  obtain ⟨p, q, r, s⟩ := lastLe_spec (cum (yOf n)) (n - st (yOf n)) 1 (by rw [cum_one]; omega) 11 (by rw [show (1 : Int) + ((11 : Nat) : Int) + 1 = 13 by decide, ce]; omega)
  change 1 ≤ mOf n at p
  change mOf n ≤ 1 + ((11 : Nat) : Int) at q
  change cum (yOf n) (mOf n) ≤ n - st (yOf n) at r
  change n - st (yOf n) < cum (yOf n) (mOf n + 1) at s
  have cs := cum_succ (yOf n) (mOf n) p (by omega)
  have hd : dOf n = n - st (yOf n) - cum (yOf n) (mOf n) + 1 := rfl
  refine ⟨⟨a, by omega, by omega, by omega⟩, ?_⟩
  unfold num
  omega
theorem ofDay_of {n y m d : Int} (h : Vld y m d) (k : num y m d = n) : y = yOf n ∧ m = mOf n ∧ d = dOf n := by
  have b := num_bd h
  have o := ofDay n (by omega) (by omega)
  exact num_inj h o.1 (by rw [o.2, k])
end Go.Proofs.YtaafagggjnemgaaGreatDoor.L3

namespace Go.Proofs.YtaafagggjnemgaaGreatDoor.L3
open Go.RowKit Go.Lib
set_option linter.unusedVariables false
theorem _root_.Go.Proofs.YtaafagggjnemgaaGreatDoor.Ext.froz_of {w w' : World} {b o : Nat} {v : Value} (hx : Ext w w') (h : w.cell? ⟨b, o, none⟩ = some v) (k : w.frozen? ⟨b, o, none⟩ = false) : w'.frozen? ⟨b, o, none⟩ = false := by
  rw [hx.froz b o (lt_of_cell h)]; exact k
end Go.Proofs.YtaafagggjnemgaaGreatDoor.L3

namespace Go.Proofs.YtaafagggjnemgaaGreatDoor.L3
open Go.RowKit Go.Lib
set_option linter.unusedVariables false
theorem fix_cons (j : Nat) : ∀ v, fix (j + 1) v = dgt (v / 10 ^ j) :: fix j v := by
  induction j with
  | zero => intro v; simp [fix]
  | succ j ih =>
    intro v
    rw [fix, ih, fix, Nat.pow_succ, Nat.mul_comm (10 ^ j) 10, ← Nat.div_div_eq_div_mul]
    rfl
/-- Where the loop of Digits ends. -/
structure Ends (v least j : Nat) : Prop where
  le : least ≤ j
  z : v / 10 ^ j = 0
  nz : j = least ∨ v / 10 ^ (j - 1) ≠ 0
theorem ends_fix (v k j : Nat) (hk : v < 10 ^ k) (h : Ends v k j) : j = k := by
  rcases h.nz with e | e
  · exact e
  · have := h.le
    by_cases hj : j = k
    · exact hj
    · exfalso
      apply e
      apply Nat.div_eq_of_lt
      exact Nat.lt_of_lt_of_le hk (Nat.pow_le_pow_right (by omega) (by omega))
theorem one_byte (W : World) (b : Nat) (c : UInt8) (h : W.cell? ⟨b, 0, none⟩ = some (.int .u8 (c.toNat : Int))) :
    (convert 69 9 (.slice (some ⟨b, 0, none⟩) 1 1)).run Tryz.prog W = .ok (.string ⟨#[c]⟩) W :=
  run_convert_bytes_back (P := Tryz.prog) W 69 9 5 ⟨b, 0, none⟩ 1 [c] Tryz.underlying69 Tryz.underlying5 Tryz.underlying9 (fun j hj => by
    obtain rfl : j = 0 := by simpa using hj
    exact h)
set_option maxHeartbeats 1000000 in
theorem rDigits_c (v least : Nat) (w : World) (hv : v < 1000000) (hl : least ≤ 20) :
    Calls Tryz.prog 45 #[.int .i64 (v : Int), .int .i64 (least : Int)] w fun e w' => (∃ j, Ends v least j ∧ e = .returned (.string ⟨(fix j v).toArray⟩)) ∧ Ext w w' := by
  go_enter Tryz.func45, Tryz.ntmps45
  go_wp2
  go_loopw [0, 5] (fun vv s wr => ∃ j : Nat, j ≤ 20 ∧ vv = .int .i64 ((v / 10 ^ j : Nat) : Int) ∧ s = .string ⟨(fix j v).toArray⟩ ∧ (j ≤ least ∨ v / 10 ^ (j - 1) ≠ 0) ∧ Hid (Ext w wr)) (fun vv s _ => (RowKit.intOf vv).toNat + (20 - strSize s))
  case atStart => exact ⟨0, by omega, by simp, rfl, Or.inl (Nat.zero_le _), Ext.refl _⟩
  case round =>
    obtain ⟨j, hj, rfl, rfl, hor, hx⟩ := hrel
    have hvj : v / 10 ^ j < 1000000 := Nat.lt_of_le_of_lt (Nat.div_le_self _ _) hv
    have hj19 : 0 < v / 10 ^ j → j ≤ 19 := fun h0 => by
      rcases Nat.lt_or_ge j 20 with k | k
      · omega
      · have : v / 10 ^ j = 0 := Nat.div_eq_of_lt (Nat.lt_of_lt_of_le hv (Nat.le_trans (by decide) (Nat.pow_le_pow_right (n := 10) (by omega) k)))
        omega
    generalize hq : v / 10 ^ j = q at *
    by_cases hz : 0 < q
    · have hj1 := hj19 hz
      clear hj19
      have hq10 : v / 10 ^ (j + 1) = q / 10 := by rw [Nat.pow_succ, ← Nat.div_div_eq_div_mul, hq]
      obtain ⟨c, hc⟩ : ∃ c : UInt8, c = dgt q := ⟨_, rfl⟩
      have hcb := fun (W : World) (b : Nat) (h : W.cell? ⟨b, 0, none⟩ = some (.int .u8 (c.toNat : Int))) => one_byte W b c h
      have hfc : fix (j + 1) v = c :: fix j v := by rw [fix_cons, hq, hc]
      have hfl := fix_length j v
      have hbig : ¬ 9223372036854775807 < 1 + j := by omega
      replace hfc := show Hid _ from hfc
      replace hq10 := show Hid _ from hq10
      replace hq := show Hid _ from hq
      have hqI : (0 : Int) < (q : Int) := by omega
      have e2 : IntKind.u8.wrap (48 + (q : Int) % 10) = (c.toNat : Int) := by rw [hc, dgt_toNat, IntKind.wrap_u8]; omega
      replace hc := show Hid _ from hc
      go_wp2
      go_roundw
      case rel => exact ⟨j + 1, by omega, by rw [hq10.out]; go_num, by rw [hfc.out], Or.inr (by rw [Nat.add_sub_cancel, hq.out]; omega), (hx.out.alloc _ _)⟩
      case measure => simp [RowKit.intOf, strSize_string, Lib.size_mk, hfl]; omega
    · have hq0 : q = 0 := by omega
      subst hq0
      clear hj19 hz
      by_cases hle : j < least
      · have hleI : (j : Int) < (least : Int) := by omega
        have hq10 : v / 10 ^ (j + 1) = 0 := by rw [Nat.pow_succ, ← Nat.div_div_eq_div_mul, hq]
        obtain ⟨c, hc⟩ : ∃ c : UInt8, c = dgt 0 := ⟨_, rfl⟩
        have hcb := fun (W : World) (b : Nat) (h : W.cell? ⟨b, 0, none⟩ = some (.int .u8 (c.toNat : Int))) => one_byte W b c h
        have hfc : fix (j + 1) v = c :: fix j v := by rw [fix_cons, hq, hc]
        have hfl := fix_length j v
        have hbig : ¬ 9223372036854775807 < 1 + j := by omega
        replace hfc := show Hid _ from hfc
        replace hq10 := show Hid _ from hq10
        replace hq := show Hid _ from hq
        have e2 : IntKind.u8.wrap 48 = (c.toNat : Int) := by rw [hc]; rfl
        replace hc := show Hid _ from hc
        go_wp2
        go_roundw
        case rel => exact ⟨j + 1, by omega, by rw [hq10.out]; go_num, by rw [hfc.out], Or.inl (by omega), (hx.out.alloc _ _)⟩
        case measure => simp [RowKit.intOf, strSize_string, Lib.size_mk, hfl]; omega
      · have hleI : ¬ (j : Int) < (least : Int) := by omega
        have hfl := fix_length j v
        go_wp2
        go_ret
        refine ⟨⟨j, ⟨by omega, hq, ?_⟩, rfl⟩, hx.out⟩
        rcases hor with k | k
        · left; omega
        · right; exact k
theorem rDigits_fix (v k : Nat) (w : World) (hk : k ≤ 4) (hv : v < 10 ^ k) :
    Calls Tryz.prog 45 #[.int .i64 (v : Int), .int .i64 (k : Int)] w fun e w' => e = .returned (.string ⟨(fix k v).toArray⟩) ∧ Ext w w' := by
  have hv2 : v < 1000000 := Nat.lt_of_lt_of_le hv (Nat.le_trans (Nat.pow_le_pow_right (n := 10) (by omega) hk) (by decide))
  refine (rDigits_c v k w hv2 (by omega)).mono ?_
  rintro e w' ⟨⟨j, hj, rfl⟩, hx⟩
  exact ⟨by rw [ends_fix v k j hv hj], hx⟩
set_option maxHeartbeats 1000000 in
theorem rText_ok (n : Int) (w : World) (h1 : -25567 ≤ n) (h2 : n ≤ 84370) (he : Hid (Env w)) :
    Calls Tryz.prog 27 #[.int .i64 n] w fun e w' => (∃ y m d : Int, e = .returned (.tuple #[.string ⟨(textL y m d).toArray⟩, .int .i64 0]) ∧ Vld y m d ∧ num y m d = n) ∧ Ext w w' := by
  go_enter Tryz.func27, Tryz.ntmps27
  go_wp2_with fail
  refine (rDate_ok _ _ h1 h2).mono ?_
  rintro e w1 ⟨⟨y, m, d, rfl, hv, hn⟩, hx⟩
  replace he : Hid (Env w1) := he.out.ext hx
  replace hx := show Hid _ from hx
  replace hn := show Hid _ from hn
  obtain ⟨Y, rfl⟩ : ∃ Y : Nat, y = Y := ⟨y.toNat, by have := hv.y1; omega⟩
  obtain ⟨M, rfl⟩ : ∃ M : Nat, m = M := ⟨m.toNat, by have := hv.m1; omega⟩
  obtain ⟨N, rfl⟩ : ∃ N : Nat, d = N := ⟨d.toNat, by have := hv.d1; omega⟩
  have y1 := hv.y1; have y2 := hv.y2; have m2 := hv.m2; have d2 := hv.d31
  replace hv := show Hid _ from hv
  go_wp2
  obtain ⟨W0, b, hW0, hb, hx0, k0, k1, k2⟩ := box3 w1 (.int .i64 (Y : Int)) (.int .i64 (M : Int)) (.int .i64 (N : Int)) 90
  rw [hW0, hb]
  clear hW0 hb
  replace he : Hid (Env W0) := he.out.ext hx0
  replace hx : Hid (Ext w W0) := hx.out.trans hx0
  clear hx0
  have j0 := Late.cell k0; have j1 := Late.cell k1; have j2 := Late.cell k2
  have hE : Hid (∀ s : Late W0, Hid (Env s.to)) := fun s => he.out.ext s.ext
  have hI : Hid (∀ w : World, Calls Tryz.prog 45 #[.int .i64 (Y : Int), .int .i64 4] w fun e w' => e = .returned (.string ⟨(fix 4 Y).toArray⟩) ∧ Ext w w') := fun w => rDigits_fix Y 4 w (by omega) (by omega)
  have hM : Hid (∀ w : World, Calls Tryz.prog 45 #[.int .i64 (M : Int), .int .i64 2] w fun e w' => e = .returned (.string ⟨(fix 2 M).toArray⟩) ∧ Ext w w') := fun w => rDigits_fix M 2 w (by omega) (by omega)
  have hN : Hid (∀ w : World, Calls Tryz.prog 45 #[.int .i64 (N : Int), .int .i64 2] w fun e w' => e = .returned (.string ⟨(fix 2 N).toArray⟩) ∧ Ext w w') := fun w => rDigits_fix N 2 w (by omega) (by omega)
  have l1 := fix_length 4 Y; have l2 := fix_length 2 M; have l3 := fix_length 2 N
  have ht : Hid (textL (Y : Int) (M : Int) (N : Int) = fix 4 Y ++ 45 :: (fix 2 M ++ 45 :: fix 2 N)) := rfl
  generalize fix 4 Y = a at *
  generalize fix 2 M = p at *
  generalize fix 2 N = q at *
  have hz : ∀ s : Late W0, ¬ 9223372036854775807 < 4 + 1 := fun _ => by omega
  clear hz
  have hNe1 : Nonempty (Late W0) := ⟨⟨_, Ext.refl _⟩⟩
  refine wp_region_late (by kernel_rfl) (by kernel_rfl) ?_
  repeat (go_big_quiet_step ((first
    | (go_at_call_of 45 (Y : Int); exact late_of (hI.out _))
    | (go_at_call_of 45 (M : Int); exact late_of (hM.out _))
    | (go_at_call_of 45 (N : Int); exact late_of (hN.out _)))))
  refine wpQuiet_nil ?_
  intro W1 hw'
  have hx1 := late_ext hw'
  clear hw'
  go_wp2
  go_ret2
  exact ⟨⟨Y, M, N, by exact ret_text (by rw [ht.out]) 0, hv.out, hn.out⟩, hx.out.trans hx1⟩
end Go.Proofs.YtaafagggjnemgaaGreatDoor.L3

namespace Go.Proofs.YtaafagggjnemgaaGreatDoor.L3
open Go.RowKit Go.Lib
set_option linter.unusedVariables false
end Go.Proofs.YtaafagggjnemgaaGreatDoor.L3
