/- Contracts that the proof of this law leans on: no statement of the seat is proved here. -/
import Derived.BigQuiet
import Derived.Deep.QuietTactic
import Derived.Laws.IdiomStrings
import Derived.Lib.Atoi
import Derived.Lib.AtoiErrMem
import Derived.Lib.ItoaLen
import Derived.Lib.ItoaMem
import Derived.Lib.TrimByte
import Derived.Test.YtbnpaeejlfaboaaGreatDoorR0
import Derived.Test.YtbnpaeejlfaboaaGreatDoorR1

namespace Go.Proofs.YtbnpaeejlfaboaaGreatDoor.L3
/-- A year of 366 days. -/
def lng (y : Int) : Bool := decide (y % 4 = 0 ∧ (y % 100 ≠ 0 ∨ y % 400 = 0))
def lp (y : Int) : Int := if lng y = true then 1 else 0
/-- How many days a month has; 0 of one that there is not. -/
def dim (y m : Int) : Int := if m < 1 ∨ 12 < m then 0 else if m = 2 then 28 + lp y else if m = 4 ∨ m = 6 ∨ m = 9 ∨ m = 11 then 30 else 31
def la (y : Int) : Int := (y - 1) / 4 - (y - 1) / 100 + (y - 1) / 400
/-- The number of a year's first day. -/
def st (y : Int) : Int := 365 * (y - 1970) + la y - 477
/-- The days of the months ahead. -/
def cum (y m : Int) : Int :=
  if m ≤ 1 then 0 else if m = 2 then 31 else if m = 3 then 59 + lp y else if m = 4 then 90 + lp y else if m = 5 then 120 + lp y else if m = 6 then 151 + lp y
  else if m = 7 then 181 + lp y else if m = 8 then 212 + lp y else if m = 9 then 243 + lp y else if m = 10 then 273 + lp y else if m = 11 then 304 + lp y else if m = 12 then 334 + lp y else 365 + lp y
/-- Which day a date is. -/
def num (y m d : Int) : Int := st y + cum y m + d - 1
/-- Is there such a day? -/
structure Vld (y m d : Int) : Prop where
  y1 : 1900 ≤ y
  y2 : y ≤ 2200
  d1 : 1 ≤ d
  d2 : d ≤ dim y m
def vldB (y m d : Int) : Bool := decide (1900 ≤ y ∧ y ≤ 2200 ∧ 1 ≤ d ∧ d ≤ dim y m)
theorem vldB_iff (y m d : Int) : vldB y m d = true ↔ Vld y m d :=
  ⟨fun h => by have := of_decide_eq_true h; exact ⟨this.1, this.2.1, this.2.2.1, this.2.2.2⟩, fun h => decide_eq_true ⟨h.y1, h.y2, h.d1, h.d2⟩⟩
theorem lp_01 (y : Int) : 0 ≤ lp y ∧ lp y ≤ 1 := by unfold lp; split <;> omega
theorem lng_of (y : Int) (h : y % 4 = 0) (k : y % 100 ≠ 0 ∨ y % 400 = 0) : lng y = true := decide_eq_true ⟨h, k⟩
theorem lng_not (y : Int) (h : ¬ (y % 4 = 0 ∧ (y % 100 ≠ 0 ∨ y % 400 = 0))) : lng y = false := decide_eq_false h
theorem lp_spec (y : Int) : (y % 4 = 0 ∧ (y % 100 ≠ 0 ∨ y % 400 = 0) ∧ lp y = 1) ∨ (¬ (y % 4 = 0 ∧ (y % 100 ≠ 0 ∨ y % 400 = 0)) ∧ lp y = 0) := by
  unfold lp lng
  by_cases h : y % 4 = 0 ∧ (y % 100 ≠ 0 ∨ y % 400 = 0)
  · left; exact ⟨h.1, h.2, by simp [h]⟩
  · right; exact ⟨h, by simp [h]⟩
theorem la_succ (y : Int) : la (y + 1) = la y + lp y := by
  have := lp_spec y
  unfold la
  rw [show y + 1 - 1 = y by omega]
  omega
theorem st_succ (y : Int) : st (y + 1) = st y + 365 + lp y := by unfold st; rw [la_succ]; omega
theorem st_mono (a b : Int) (h : a ≤ b) : st a ≤ st b := by unfold st la; omega
theorem st_bd (y : Int) (h : 1900 ≤ y) (k : y ≤ 2201) : -25567 ≤ st y ∧ st y ≤ 84371 := by
  have a := st_mono 1900 y h
  have b := st_mono y 2201 k
  have c : st 1900 = -25567 := by decide
  have d : st 2201 = 84371 := by decide
  omega
theorem la_bd (y : Int) (h : 1900 ≤ y) (k : y ≤ 2201) : 400 ≤ la y ∧ la y ≤ 600 := by unfold la; omega
theorem dim_out (y m : Int) (h : m < 1 ∨ 12 < m) : dim y m = 0 := by unfold dim; rw [if_pos h]
theorem dim_bd (y m : Int) (h : 1 ≤ m) (k : m ≤ 12) : 28 ≤ dim y m ∧ dim y m ≤ 31 := by
  have := lp_01 y
  unfold dim; rw [if_neg (by omega)]; split
  · omega
  · split <;> omega
theorem dim_le (y m : Int) : 0 ≤ dim y m ∧ dim y m ≤ 31 := by
  by_cases h : m < 1 ∨ 12 < m
  · rw [dim_out _ _ h]; omega
  · have := dim_bd y m (by omega) (by omega); omega
theorem Vld.m1 {y m d : Int} (h : Vld y m d) : 1 ≤ m := by
  by_cases k : 1 ≤ m
  · exact k
  · have := dim_out y m (by omega); have := h.d1; have := h.d2; omega
theorem Vld.m2 {y m d : Int} (h : Vld y m d) : m ≤ 12 := by
  by_cases k : m ≤ 12
  · exact k
  · have := dim_out y m (by omega); have := h.d1; have := h.d2; omega
theorem Vld.d31 {y m d : Int} (h : Vld y m d) : d ≤ 31 := by have := dim_le y m; have := h.d2; omega
theorem cases12 {m : Int} (h : 1 ≤ m) (k : m ≤ 12) : m = 1 ∨ m = 2 ∨ m = 3 ∨ m = 4 ∨ m = 5 ∨ m = 6 ∨ m = 7 ∨ m = 8 ∨ m = 9 ∨ m = 10 ∨ m = 11 ∨ m = 12 := by omega
theorem cum_succ (y m : Int) (h : 1 ≤ m) (k : m ≤ 12) : cum y (m + 1) = cum y m + dim y m := by
  rcases cases12 h k with rfl | rfl | rfl | rfl | rfl | rfl | rfl | rfl | rfl | rfl | rfl | rfl <;> simp [cum, dim] <;> omega
theorem cum_one (y : Int) : cum y 1 = 0 := rfl
theorem cum_end (y : Int) : cum y 13 = 365 + lp y := rfl
theorem cum_up (y a : Int) (j : Nat) : 1 ≤ a → a + j ≤ 13 → cum y a ≤ cum y (a + j) := by
  induction j with
  | zero => intro _ _; simp
  | succ j ih =>
    intro h1 h2
    have h3 := ih h1 (by omega)
    have h4 := cum_succ y (a + j) (by omega) (by omega)
    have h5 := dim_le y (a + j)
    rw [show a + ((j + 1 : Nat) : Int) = a + j + 1 by omega]
    omega
theorem cum_mono (y m k : Int) (h : 1 ≤ m) (hk : m < k) (h2 : k ≤ 13) : cum y (m + 1) ≤ cum y k := by
  have := cum_up y (m + 1) (k - (m + 1)).toNat (by omega) (by omega)
  rwa [show m + 1 + ((k - (m + 1)).toNat : Int) = k by omega] at this
theorem cum_bd (y m : Int) (h : 1 ≤ m) (k : m ≤ 13) : 0 ≤ cum y m ∧ cum y m ≤ 366 := by
  have a := cum_up y 1 (m - 1).toNat (by omega) (by omega)
  have b := cum_up y m (13 - m).toNat (by omega) (by omega)
  rw [show (1 : Int) + ((m - 1).toNat : Int) = m by omega, cum_one] at a
  rw [show m + ((13 - m).toNat : Int) = 13 by omega, cum_end] at b
  have := lp_01 y
  omega
theorem num_bd {y m d : Int} (h : Vld y m d) : -25567 ≤ num y m d ∧ num y m d ≤ 84370 := by
  have a := st_bd y h.y1 (by have := h.y2; omega)
  have b := cum_bd y m h.m1 (by have := h.m2; omega)
  have c := st_succ y
  have e := cum_succ y m h.m1 h.m2
  have f := cum_mono y m 13 h.m1 (by have := h.m2; omega) (by omega)
  have g := cum_end y
  have i := st_bd (y + 1) (by have := h.y1; omega) (by have := h.y2; omega)
  have := h.d1; have := h.d2
  unfold num; omega
/-- A date that is ahead is a day that is ahead. -/
theorem num_lt {y m d y' m' d' : Int} (h : Vld y m d) (h' : Vld y' m' d') (k : y < y' ∨ y = y' ∧ (m < m' ∨ m = m' ∧ d < d')) : num y m d < num y' m' d' := by
  have e := cum_succ y m h.m1 h.m2
  have f := cum_mono y m 13 h.m1 (by have := h.m2; omega) (by omega)
  have g := cum_end y
  have b := cum_bd y' m' h'.m1 (by have := h'.m2; omega)
  have := h.d1; have := h.d2; have := h'.d1; have := h'.d2
  rcases k with k | ⟨rfl, k | ⟨rfl, k⟩⟩
  · have c := st_succ y
    have s := st_mono (y + 1) y' (by omega)
    unfold num; omega
  · have s := cum_mono y m m' h.m1 k (by have := h'.m2; omega)
    unfold num; omega
  · unfold num; omega
theorem num_iff {y m d y' m' d' : Int} (h : Vld y m d) (h' : Vld y' m' d') : (y < y' ∨ y = y' ∧ (m < m' ∨ m = m' ∧ d < d')) ↔ num y m d < num y' m' d' := by
  refine ⟨num_lt h h', fun k => ?_⟩
  by_cases a : y < y' ∨ y = y' ∧ (m < m' ∨ m = m' ∧ d < d')
  · exact a
  · by_cases b : y' < y ∨ y' = y ∧ (m' < m ∨ m' = m ∧ d' < d)
    · have := num_lt h' h b; omega
    · have h1 : y = y' := by omega
      have h2 : m = m' := by omega
      have h3 : d = d' := by omega
      subst h1; subst h2; subst h3; omega
/-- One date a day. -/
theorem num_inj {y m d y' m' d' : Int} (h : Vld y m d) (h' : Vld y' m' d') (k : num y m d = num y' m' d') : y = y' ∧ m = m' ∧ d = d' := by
  have a := num_iff h h'
  have b := num_iff h' h
  by_cases c : y < y' ∨ y = y' ∧ (m < m' ∨ m = m' ∧ d < d')
  · have := a.1 c; omega
  · by_cases e : y' < y ∨ y' = y ∧ (m' < m ∨ m' = m ∧ d' < d)
    · have := b.1 e; omega
    · omega
/-- The table of the months, from 0 on. -/
def mtab : List Int := [31, 28, 31, 30, 31, 30, 31, 31, 30, 31, 30, 31]
theorem mtab_dim (y m : Int) (h : 1 ≤ m) (k : m ≤ 12) (hn : ¬ (m = 2 ∧ lng y = true)) : mtab[(m - 1).toNat]? = some (dim y m) := by
  rcases cases12 h k with rfl | rfl | rfl | rfl | rfl | rfl | rfl | rfl | rfl | rfl | rfl | rfl <;> simp [mtab, dim]
  have : lng y = false := by simpa using hn
  simp [lp, this]
theorem dim_feb (y : Int) (h : lng y = true) : dim y 2 = 29 := by simp [dim, lp, h]
/-- The year in which a day is: the first guess is never too late. -/
theorem guess_le (n : Int) (h : -25567 ≤ n) (k : n ≤ 84370) : 1900 ≤ 1900 + (n + 25567) / 366 ∧ 1900 + (n + 25567) / 366 ≤ 2200 ∧ st (1900 + (n + 25567) / 366) ≤ n := by
  have h0 : 0 ≤ (n + 25567) / 366 := by omega
  have h1 : (n + 25567) / 366 ≤ 300 := by omega
  refine ⟨by omega, by omega, ?_⟩
  have hb : ∀ j : Int, 0 ≤ j → j ≤ 300 → st (1900 + j) ≤ 366 * j - 25567 := by
    intro j a b
    unfold st la; omega
  have := hb _ h0 h1
  omega
end Go.Proofs.YtbnpaeejlfaboaaGreatDoor.L3

namespace Go.Proofs.YtbnpaeejlfaboaaGreatDoor.L3
open Go.Lib
def dgt (n : Nat) : UInt8 := UInt8.ofNat (48 + n % 10)
def isD (c : UInt8) : Bool := decide (48 ≤ c.toNat) && decide (c.toNat ≤ 57)
def valL (l : List UInt8) : Nat := l.foldl (fun a c => 10 * a + (c.toNat - 48)) 0
def fix : Nat → Nat → List UInt8
  | 0, _ => []
  | k + 1, m => fix k (m / 10) ++ [dgt m]
theorem dgt_toNat (n : Nat) : (dgt n).toNat = 48 + n % 10 := by
  unfold dgt; simp; omega
theorem isD_dgt (n : Nat) : isD (dgt n) = true := by
  unfold isD; rw [dgt_toNat]; simp; omega
theorem isD_range {c : UInt8} (h : isD c = true) : 48 ≤ c.toNat ∧ c.toNat ≤ 57 := by
  unfold isD at h; simpa using h
theorem valL_snoc (l : List UInt8) (c : UInt8) : valL (l ++ [c]) = 10 * valL l + (c.toNat - 48) := by
  simp [valL]
theorem foldl_val (l : List UInt8) : ∀ a, l.foldl (fun a c => 10 * a + (c.toNat - 48)) a = a * 10 ^ l.length + valL l := by
  induction l with
  | nil => intro a; simp [valL]
  | cons x t ih =>
    intro a
    have h1 := ih (10 * a + (x.toNat - 48))
    have h2 := ih (10 * 0 + (x.toNat - 48))
    simp only [valL, List.foldl_cons, List.length_cons] at *
    rw [h1, h2, Nat.pow_succ]
    simp only [Nat.mul_zero, Nat.zero_add, Nat.add_mul]
    have : 10 * a * 10 ^ t.length = a * (10 ^ t.length * 10) := by
      rw [Nat.mul_comm 10 a, Nat.mul_assoc, Nat.mul_comm 10]
    omega
theorem valL_append (a b : List UInt8) : valL (a ++ b) = valL a * 10 ^ b.length + valL b := by
  have := foldl_val b (valL a)
  rw [← this]; simp [valL]
theorem valL_cons (x : UInt8) (t : List UInt8) : valL (x :: t) = (x.toNat - 48) * 10 ^ t.length + valL t := by
  have := valL_append [x] t
  simpa [valL] using this
theorem valL_lt (l : List UInt8) (h : l.all isD = true) : valL l < 10 ^ l.length := by
  induction l with
  | nil => simp [valL]
  | cons x t ih =>
    simp only [List.all_cons, Bool.and_eq_true] at h
    have h1 := ih h.2
    have h2 := isD_range h.1
    rw [valL_cons, List.length_cons, Nat.pow_succ]
    have : (x.toNat - 48) * 10 ^ t.length ≤ 9 * 10 ^ t.length := Nat.mul_le_mul_right _ (by omega)
    omega
theorem fix_length (k : Nat) : ∀ m, (fix k m).length = k := by
  induction k with
  | zero => intro m; rfl
  | succ k ih => intro m; simp [fix, ih]
theorem valL_fix (k : Nat) : ∀ m, valL (fix k m) = m % 10 ^ k := by
  induction k with
  | zero => intro m; simp [fix, valL, Nat.mod_one]
  | succ k ih =>
    intro m
    rw [fix, valL_snoc, ih, dgt_toNat, Nat.pow_succ, Nat.mul_comm (10 ^ k) 10, Nat.mod_mul]
    omega
theorem decDigits_small {u : Nat} (h : u < 10) : decDigits u = [dgt u] := by
  rw [decDigits, dif_pos h]; unfold dgt; rw [Nat.mod_eq_of_lt h]
theorem decDigits_big {u : Nat} (h : ¬ u < 10) : decDigits u = decDigits (u / 10) ++ [dgt u] := by
  rw [decDigits, dif_neg h]; rfl
end Go.Proofs.YtbnpaeejlfaboaaGreatDoor.L3

namespace Go.Proofs.YtbnpaeejlfaboaaGreatDoor.L3
open Go.Lib
set_option linter.unusedVariables false
/-- What Number answers. -/
def numA (y m d : Int) : Int := if vldB y m d = true then num y m d else 0
def numE (y m d : Int) : Int := if vldB y m d = true then 0 else 5
theorem numA_ok (y m d : Int) (h : Vld y m d) : numA y m d = num y m d ∧ numE y m d = 0 := by
  unfold numA numE; simp [(vldB_iff y m d).2 h]
theorem numA_no (y m d : Int) (h : ¬ Vld y m d) : numA y m d = 0 ∧ numE y m d = 5 := by
  unfold numA numE; simp [mt (vldB_iff y m d).1 h]
theorem fix_two (n : Nat) : fix 2 n = [dgt (n / 10), dgt n] := by simp [fix]
theorem fix_four (n : Nat) : fix 4 n = [dgt (n / 10 / 10 / 10), dgt (n / 10 / 10), dgt (n / 10), dgt n] := by simp [fix]
theorem dec_two (n : Nat) (h : ¬ n < 10) (h2 : n < 100) : decDigits n = fix 2 n := by
  rw [decDigits_big h, decDigits_small (by omega), fix_two]; rfl
theorem dec_one (n : Nat) (h : n < 10) : 48 :: decDigits n = fix 2 n := by
  rw [decDigits_small h, fix_two, show n / 10 = 0 by omega]; rfl
theorem dec_four (n : Nat) (h : 1000 ≤ n) (h2 : n < 10000) : decDigits n = fix 4 n := by
  rw [decDigits_big (by omega), decDigits_big (by omega), decDigits_big (by omega), decDigits_small (by omega), fix_four]; rfl
/-- The text of a date. -/
def textL (y m d : Int) : List UInt8 := fix 4 y.toNat ++ 45 :: (fix 2 m.toNat ++ 45 :: fix 2 d.toNat)
theorem text_length (y m d : Int) : (textL y m d).length = 10 := by simp [textL, fix_length]
/-- Is it a digit, or a hyphen, where one stands? -/
def okAt (l : List UInt8) (i : Nat) : Bool := if i = 4 ∨ i = 7 then l.getD i 0 == 45 else isD (l.getD i 0)
def formL (l : List UInt8) : Bool := decide (l.length = 10) && (List.range 10).all (okAt l)
def pY (l : List UInt8) : Int := (valL (l.take 4) : Nat)
def pM (l : List UInt8) : Int := (valL ((l.drop 5).take 2) : Nat)
def pD (l : List UInt8) : Int := (valL (l.drop 8) : Nat)
/-- What Take answers. -/
def takA (l : List UInt8) : Int := if formL l = true then numA (pY l) (pM l) (pD l) else 0
def takE (l : List UInt8) : Int := if formL l = true then numE (pY l) (pM l) (pD l) else 4
theorem ten {l : List UInt8} (h : l.length = 10) : ∃ c0 c1 c2 c3 c4 c5 c6 c7 c8 c9, l = [c0, c1, c2, c3, c4, c5, c6, c7, c8, c9] := by
  match l, h with
  | [c0, c1, c2, c3, c4, c5, c6, c7, c8, c9], _ => exact ⟨c0, c1, c2, c3, c4, c5, c6, c7, c8, c9, rfl⟩
/-- The form, byte by byte. -/
structure Form (c0 c1 c2 c3 c4 c5 c6 c7 c8 c9 : UInt8) : Prop where
  d0 : isD c0 = true
  d1 : isD c1 = true
  d2 : isD c2 = true
  d3 : isD c3 = true
  h4 : c4 = 45
  d5 : isD c5 = true
  d6 : isD c6 = true
  h7 : c7 = 45
  d8 : isD c8 = true
  d9 : isD c9 = true
theorem form_iff (c0 c1 c2 c3 c4 c5 c6 c7 c8 c9 : UInt8) : formL [c0, c1, c2, c3, c4, c5, c6, c7, c8, c9] = true ↔ Form c0 c1 c2 c3 c4 c5 c6 c7 c8 c9 := by
  have : (List.range 10) = [0, 1, 2, 3, 4, 5, 6, 7, 8, 9] := by decide
  unfold formL
  rw [this]
  simp only [List.length_cons, List.length_nil, List.all_cons, List.all_nil, Bool.and_eq_true, decide_eq_true_eq, okAt]
  simp
  exact ⟨fun ⟨a0, a1, a2, a3, a4, a5, a6, a7, a8, a9⟩ => ⟨a0, a1, a2, a3, a4, a5, a6, a7, a8, a9⟩, fun h => ⟨h.d0, h.d1, h.d2, h.d3, h.h4, h.d5, h.d6, h.h7, h.d8, h.d9⟩⟩
theorem form_not (l : List UInt8) (h : l.length ≠ 10) : formL l = false := by unfold formL; simp [h]
theorem tak_not (l : List UInt8) (h : formL l = false) : takA l = 0 ∧ takE l = 4 := by unfold takA takE; simp [h]
theorem tak_form (l : List UInt8) (h : formL l = true) : takA l = numA (pY l) (pM l) (pD l) ∧ takE l = numE (pY l) (pM l) (pD l) := by unfold takA takE; simp [h]
theorem text_ten (y m d : Int) : textL y m d = [dgt (y.toNat / 10 / 10 / 10), dgt (y.toNat / 10 / 10), dgt (y.toNat / 10), dgt y.toNat, 45, dgt (m.toNat / 10), dgt m.toNat, 45, dgt (d.toNat / 10), dgt d.toNat] := by
  unfold textL; rw [fix_four, fix_two, fix_two]; rfl
theorem text_form (y m d : Int) : formL (textL y m d) = true := by
  rw [text_ten, form_iff]
  exact ⟨isD_dgt _, isD_dgt _, isD_dgt _, isD_dgt _, rfl, isD_dgt _, isD_dgt _, rfl, isD_dgt _, isD_dgt _⟩
theorem text_parts (y m d : Int) (h : Vld y m d) : pY (textL y m d) = y ∧ pM (textL y m d) = m ∧ pD (textL y m d) = d := by
  have e : textL y m d = fix 4 y.toNat ++ 45 :: (fix 2 m.toNat ++ 45 :: fix 2 d.toNat) := rfl
  have l4 := fix_length 4 y.toNat
  have l2 := fix_length 2 m.toNat
  have a : (textL y m d).take 4 = fix 4 y.toNat := by rw [e, List.take_append_of_le_length (by omega), List.take_of_length_le (by omega)]
  have b : (textL y m d).drop 5 = fix 2 m.toNat ++ 45 :: fix 2 d.toNat := by
    rw [e, show (5 : Nat) = (fix 4 y.toNat).length + 1 by omega, List.drop_append]; simp
  have c : (textL y m d).drop 8 = fix 2 d.toNat := by
    rw [show (8 : Nat) = 5 + 3 from rfl, ← List.drop_drop, b, show (3 : Nat) = (fix 2 m.toNat).length + 1 by omega, List.drop_append]; simp
  have := h.y1; have := h.y2; have := h.m1; have := h.m2; have := h.d1; have := h.d31
  refine ⟨?_, ?_, ?_⟩
  · unfold pY; rw [a, valL_fix]; omega
  · unfold pM; rw [b, List.take_append_of_le_length (by omega), List.take_of_length_le (by omega), valL_fix]; omega
  · unfold pD; rw [c, valL_fix]; omega
theorem text_take (y m d : Int) (h : Vld y m d) : takA (textL y m d) = num y m d ∧ takE (textL y m d) = 0 := by
  obtain ⟨a, b, c⟩ := text_parts y m d h
  obtain ⟨p, q⟩ := tak_form _ (text_form y m d)
  obtain ⟨r, s⟩ := numA_ok y m d h
  rw [p, q, a, b, c, r, s]
  exact ⟨rfl, rfl⟩
theorem atoi_digits (l : List UInt8) (hne : l ≠ []) (h : l.all isD = true) : Lib.atoi l = some (valL l : Int) := by
  have key : ∀ (l : List UInt8) (acc : Nat), l.all isD = true → decFrom acc l = some (acc * 10 ^ l.length + valL l) := by
    intro l
    induction l with
    | nil => intro acc _; simp [decFrom, valL]
    | cons c t ih =>
      intro acc h
      have hc : isD c = true := by simp at h; exact h.1
      have ht : t.all isD = true := by simp at h; simpa using h.2
      obtain ⟨r1, r2⟩ := isD_range hc
      have hd : digitVal c = some (c.toNat - 48) := by unfold digitVal; rw [if_pos ⟨r1, r2⟩]
      simp only [decFrom, hd]
      rw [ih _ ht, valL_cons]
      congr 1
      rw [List.length_cons, Nat.pow_succ, Nat.add_mul, Nat.mul_assoc, Nat.mul_comm 10]
      omega
  cases l with
  | nil => exact absurd rfl hne
  | cons c t =>
    have hc : isD c = true := by simp at h; exact h.1
    obtain ⟨r1, r2⟩ := isD_range hc
    have n1 : (c == 45) = false := by
      rw [beq_eq_false_iff_ne]; intro e; subst e; exact absurd r1 (by decide)
    have n2 : (c == 43) = false := by
      rw [beq_eq_false_iff_ne]; intro e; subst e; exact absurd r1 (by decide)
    simp only [Lib.atoi, n1, n2, decNat, List.isEmpty_cons]
    rw [key _ _ h]
    simp
end Go.Proofs.YtbnpaeejlfaboaaGreatDoor.L3

namespace Go.Proofs.YtbnpaeejlfaboaaGreatDoor.L3
open Go.RowKit Go.Lib
set_option linter.unusedVariables false
/-- What the walks ask of the listed variables: the months' table, and the library's powers of ten. -/
structure Env (w : World) : Prop where
  mon : ∀ (i : Nat) (v : Int), mtab[i]? = some v → w.cell? ⟨6, i, none⟩ = some (.int .i64 v)
  pow : Lib.TabIs Tryz.prog w "internal/strconv.uint64pow10" .u64 Lib.pow10Tab
theorem Env.ext {w w' : World} (h : Env w) (hx : Ext w w') : Env w' := by
  obtain ⟨hm, ht⟩ := h
  refine ⟨fun i v hi => ?_, ?_⟩
  · have := hm i v hi
    rw [hx.cell _ _ (lt_of_cell this)]; exact this
  · unfold Lib.TabIs World.var? at *
    cases hg : Tryz.prog.globalNamed "internal/strconv.uint64pow10" with
    | none => simp [hg] at ht
    | some g =>
      simp only [hg, Option.bind_some] at ht ⊢
      have hlt : g < w.heap.size := by
        rcases Nat.lt_or_ge g w.heap.size with h' | h'
        · exact h'
        · rw [Array.getElem?_eq_none h'] at ht; simp at ht
      rw [hx.below.block g hlt]
      exact ht
def I64 (n : Int) : Prop := -9223372036854775808 ≤ n ∧ n ≤ 9223372036854775807
theorem tmod_zero (a b : Int) : a.tmod b = 0 ↔ a % b = 0 := by
  rw [← Int.dvd_iff_tmod_eq_zero, ← Int.dvd_iff_emod_eq_zero]
theorem ret_bool {a b : Bool} (h : a = b) : Ending.returned (.bool a) = .returned (.bool b) := by rw [h]
theorem ret_int {k : IntKind} {a b : Int} (h : a = b) : Ending.returned (.int k a) = .returned (.int k b) := by rw [h]
theorem long_c (y : Int) (w : World) :
    Calls Tryz.prog 209 #[.int .i64 y] w fun e w' => e = .returned (.bool (lng y)) ∧ w' = w := by
  have e4 := tmod_zero y 4; have e100 := tmod_zero y 100; have e400 := tmod_zero y 400
  replace e4 := show Hid _ from e4; replace e100 := show Hid _ from e100; replace e400 := show Hid _ from e400
  by_cases h4 : y.tmod 4 = 0
  · by_cases h100 : y.tmod 100 = 0
    · by_cases h400 : y.tmod 400 = 0
      · have hl : lng y = true := lng_of y (e4.out.1 h4) (Or.inr (e400.out.1 h400))
        rw [hl]
        clear hl
        go_enter Tryz.func209, Tryz.ntmps209
        go_wp2
        go_ret
        exact ⟨rfl, rfl⟩
      · have hl : lng y = false := lng_not y (fun k => by have := e100.out.1 h100; have := mt e400.out.2 h400; omega)
        rw [hl]
        clear hl
        go_enter Tryz.func209, Tryz.ntmps209
        go_wp2
        go_ret
        exact ⟨ret_bool (by simp [h400]), rfl⟩
    · have hl : lng y = true := lng_of y (e4.out.1 h4) (Or.inl (mt e100.out.2 h100))
      rw [hl]
      clear hl
      go_enter Tryz.func209, Tryz.ntmps209
      go_wp2
      go_ret
      exact ⟨rfl, rfl⟩
  · have hl : lng y = false := lng_not y (fun k => h4 (e4.out.2 k.1))
    rw [hl]
    clear hl
    go_enter Tryz.func209, Tryz.ntmps209
    go_wp2
    go_ret
    exact ⟨rfl, rfl⟩
theorem month_c (y m : Int) (w : World) (hm : I64 m) (he : Hid (Env w)) :
    Calls Tryz.prog 179 #[.int .i64 y, .int .i64 m] w fun e w' => e = .returned (.int .i64 (dim y m)) ∧ w' = w := by
  obtain ⟨m1, m2⟩ := hm
  by_cases h1 : m < 1
  · rw [dim_out y m (Or.inl h1)]
    go_enter Tryz.func179, Tryz.ntmps179
    go_wp2
    go_ret
    exact ⟨rfl, rfl⟩
  · by_cases h2 : 12 < m
    · rw [dim_out y m (Or.inr h2)]
      go_enter Tryz.func179, Tryz.ntmps179
      go_wp2
      go_ret
      exact ⟨rfl, rfl⟩
    · by_cases h3 : m = 2
      · subst h3
        cases hl : lng y
        · have hc := he.out.mon 1 28 rfl
          rw [show dim y 2 = 28 by simp [dim, lp, hl]]
          go_enter Tryz.func179, Tryz.ntmps179
          go_wp2_with (go_at_call 209; refine (long_c _ _).mono ?_; rintro e w' ⟨rfl, rfl⟩; rw [hl])
          go_ret
          exact ⟨rfl, rfl⟩
        · have hc := he.out.mon 1 28 rfl
          rw [dim_feb y hl]
          go_enter Tryz.func179, Tryz.ntmps179
          go_wp2_with (go_at_call 209; refine (long_c _ _).mono ?_; rintro e w' ⟨rfl, rfl⟩; rw [hl])
          go_ret
          exact ⟨rfl, rfl⟩
      · have hc := he.out.mon _ _ (mtab_dim y m (by omega) (by omega) (fun k => h3 k.1))
        rw [show (m - 1).toNat = m.toNat - 1 by omega] at hc
        generalize dim y m = v at hc ⊢
        go_enter Tryz.func179, Tryz.ntmps179
        go_wp2
        go_ret
        exact ⟨rfl, rfl⟩
end Go.Proofs.YtbnpaeejlfaboaaGreatDoor.L3

namespace Go.Proofs.YtbnpaeejlfaboaaGreatDoor.L3
open Go.RowKit Go.Lib
set_option linter.unusedVariables false
theorem longAhead_c (y : Int) (w : World) (h1 : 1900 ≤ y) (h2 : y ≤ 2201) :
    Calls Tryz.prog 208 #[.int .i64 y] w fun e w' => e = .returned (.int .i64 (la y)) ∧ w' = w := by
  unfold la
  go_enter Tryz.func208, Tryz.ntmps208
  go_wp2
  go_ret
  exact ⟨rfl, rfl⟩
theorem start_c (y : Int) (w : World) (h1 : 1900 ≤ y) (h2 : y ≤ 2201) :
    Calls Tryz.prog 178 #[.int .i64 y] w fun e w' => e = .returned (.int .i64 (st y)) ∧ w' = w := by
  obtain ⟨b1, b2⟩ := la_bd y h1 h2
  have hl : la 1970 = 477 := by decide
  unfold st
  go_enter Tryz.func178, Tryz.ntmps178
  go_wp2_with (go_at_call 208; refine (longAhead_c _ _ (by omega) (by omega)).mono ?_; rintro e w' ⟨rfl, rfl⟩)
  go_ret
  exact ⟨ret_int (by omega), rfl⟩
theorem known_c (y : Int) (w : World) :
    Calls Tryz.prog 198 #[.int .i64 y] w fun e w' => e = .returned (.bool (decide (1900 ≤ y ∧ y ≤ 2200))) ∧ w' = w := by
  by_cases h1 : 1900 ≤ y
  · by_cases h2 : y ≤ 2200
    · rw [decide_eq_true (show 1900 ≤ y ∧ y ≤ 2200 from ⟨h1, h2⟩)]
      go_enter Tryz.func198, Tryz.ntmps198
      go_wp2
      go_ret
      exact ⟨rfl, rfl⟩
    · rw [decide_eq_false (show ¬ (1900 ≤ y ∧ y ≤ 2200) from fun k => h2 k.2)]
      go_enter Tryz.func198, Tryz.ntmps198
      go_wp2
      go_ret
      exact ⟨rfl, rfl⟩
  · rw [decide_eq_false (show ¬ (1900 ≤ y ∧ y ≤ 2200) from fun k => h1 k.1)]
    go_enter Tryz.func198, Tryz.ntmps198
    go_wp2
    go_ret
    exact ⟨rfl, rfl⟩
/-- y.month as a value. -/
theorem ahead_c (y m : Int) (w : World) (h1 : 1 ≤ m) (h2 : m ≤ 12) (he : Hid (Env w)) :
    Calls Tryz.prog 199 #[.int .i64 m, .func (.func 179) #[.int .i64 y] #[]] w fun e w' => e = .returned (.int .i64 (cum y m)) ∧ w' = w := by
  go_enter Tryz.func199, Tryz.ntmps199
  go_wp2
  go_loop [5, 6] (fun s k => ∃ j : Int, 1 ≤ j ∧ j ≤ m ∧ k = .int .i64 j ∧ s = .int .i64 (cum y j)) (fun _ k => (m - RowKit.intOf k).toNat)
  case atStart => exact ⟨1, by omega, by omega, rfl, rfl⟩
  case round =>
    obtain ⟨j, j1, j2, rfl, rfl⟩ := hrel
    have cb := cum_bd y j j1 (by omega)
    obtain ⟨c1, c2⟩ := cb
    have db := dim_bd y j j1 (by omega)
    obtain ⟨d1, d2⟩ := db
    have cs := cum_succ y j j1 (by omega)
    replace cs := show Hid _ from cs
    by_cases hj : j < m
    · go_wp2_with (go_at_call 179; refine (month_c _ _ _ (by unfold I64; omega) he).mono ?_; rintro e w' ⟨rfl, rfl⟩)
      go_round
      case rel => exact ⟨j + 1, by omega, by omega, by go_num, by rw [cs.out]⟩
      case measure => simp [RowKit.intOf]; omega
    · obtain rfl : j = m := by omega
      go_wp2
      go_ret
      exact ⟨rfl, rfl⟩
theorem monthOf_c (y n : Int) (w : World) (h1 : 0 ≤ n) (h2 : n < 365 + lp y) (he : Hid (Env w)) :
    Calls Tryz.prog 177 #[.int .i64 n, .func (.func 179) #[.int .i64 y] #[]] w
      fun e w' => (∃ m : Int, 1 ≤ m ∧ m ≤ 12 ∧ cum y m ≤ n ∧ n < cum y m + dim y m ∧ e = .returned (.tuple #[.int .i64 m, .int .i64 (n - cum y m)])) ∧ w' = w := by
  have hl := lp_01 y
  obtain ⟨l1, l2⟩ := hl
  go_enter Tryz.func177, Tryz.ntmps177
  go_wp2
  go_loop [0, 4] (fun r k => ∃ j : Int, 1 ≤ j ∧ j ≤ 12 ∧ k = .int .i64 j ∧ cum y j ≤ n ∧ r = .int .i64 (n - cum y j)) (fun _ k => (12 - RowKit.intOf k).toNat)
  case atStart => exact ⟨1, by omega, by omega, rfl, h1, by rw [cum_one]; simp⟩
  case round =>
    obtain ⟨j, j1, j2, rfl, c3, rfl⟩ := hrel
    have cb := cum_bd y j j1 (by omega)
    obtain ⟨c1, c2⟩ := cb
    have db := dim_bd y j j1 (by omega)
    obtain ⟨d1, d2⟩ := db
    have cs := cum_succ y j j1 (by omega)
    have ce := cum_end y
    replace cs := show Hid _ from cs
    replace ce := show Hid _ from ce
    by_cases hj : dim y j ≤ n - cum y j
    · have j3 : j < 12 := by
        have := cs.out; have := ce.out
        rcases Int.lt_or_le j 12 with k | k
        · exact k
        · obtain rfl : j = 12 := by omega
          simp only [show (12 : Int) + 1 = 13 from rfl] at this cs
          have := cs.out
          omega
      go_wp2_with (go_at_call 179; refine (month_c _ _ _ (by unfold I64; omega) he).mono ?_; rintro e w' ⟨rfl, rfl⟩)
      go_round
      case rel => exact ⟨j + 1, by omega, by omega, by go_num, by rw [cs.out]; omega, by rw [cs.out]; go_num⟩
      case measure => simp [RowKit.intOf]; omega
    · go_wp2_with (go_at_call 179; refine (month_c _ _ _ (by unfold I64; omega) he).mono ?_; rintro e w' ⟨rfl, rfl⟩)
      go_ret2
      exact ⟨⟨j, j1, j2, c3, by omega, rfl⟩, rfl⟩
theorem yearOf_c (n : Int) (w : World) (h1 : -25567 ≤ n) (h2 : n ≤ 84370) :
    Calls Tryz.prog 176 #[.int .i64 n] w fun e w' => (∃ y : Int, 1900 ≤ y ∧ y ≤ 2200 ∧ st y ≤ n ∧ n < st y + 365 + lp y ∧ e = .returned (.int .i64 y)) ∧ w' = w := by
  obtain ⟨g1, g2, g3⟩ := guess_le n h1 h2
  go_enter Tryz.func176, Tryz.ntmps176
  go_wp2
  go_loop [3] (fun t => ∃ y : Int, 1900 ≤ y ∧ y ≤ 2200 ∧ st y ≤ n ∧ t = .int .i64 y) (fun t => (2200 - RowKit.intOf t).toNat)
  case atStart => exact ⟨_, g1, g2, g3, rfl⟩
  case round =>
    clear g1 g2 g3
    obtain ⟨y, y1, y2, y3, rfl⟩ := hrel
    have hs := show Hid _ from st_succ y
    have hb := st_bd (y + 1) (by omega) (by omega)
    obtain ⟨b1, b2⟩ := hb
    by_cases hc : st (y + 1) ≤ n
    · have y4 : y < 2200 := by
        rcases Int.lt_or_le y 2200 with k | k
        · exact k
        · obtain rfl : y = 2200 := by omega
          have : st (2200 + 1) = 84371 := by decide
          omega
      go_wp2_with (go_at_call 178; refine (start_c _ _ (by omega) (by omega)).mono ?_; rintro e w' ⟨rfl, rfl⟩)
      go_round
      case rel => exact ⟨y + 1, by omega, by omega, hc, by go_num⟩
      case measure => simp [RowKit.intOf]; omega
    · go_wp2_with (go_at_call 178; refine (start_c _ _ (by omega) (by omega)).mono ?_; rintro e w' ⟨rfl, rfl⟩)
      go_ret
      exact ⟨⟨y, y1, y2, y3, by have := hs.out; omega, rfl⟩, rfl⟩
end Go.Proofs.YtbnpaeejlfaboaaGreatDoor.L3

namespace Go.Proofs.YtbnpaeejlfaboaaGreatDoor.L3
open Go.RowKit Go.Lib
set_option linter.unusedVariables false
theorem known_t (y : Int) (w : World) (h1 : 1900 ≤ y) (h2 : y ≤ 2200) :
    Calls Tryz.prog 198 #[.int .i64 y] w fun e w' => e = .returned (.bool true) ∧ w' = w := by
  have := known_c y w
  rwa [decide_eq_true (show 1900 ≤ y ∧ y ≤ 2200 from ⟨h1, h2⟩)] at this
theorem known_f (y : Int) (w : World) (h : ¬ (1900 ≤ y ∧ y ≤ 2200)) :
    Calls Tryz.prog 198 #[.int .i64 y] w fun e w' => e = .returned (.bool false) ∧ w' = w := by
  have := known_c y w
  rwa [decide_eq_false h] at this
set_option maxHeartbeats 1000000 in
theorem Number_ok (y m d : Int) (w : World) (hv : Vld y m d) (he : Hid (Env w)) :
    Calls Tryz.prog 166 #[.agg #[.int .i64 y, .int .i64 m, .int .i64 d]] w fun e w' => e = .returned (.tuple #[.int .i64 (num y m d), .int .i64 0]) ∧ Ext w w' := by
  have y1 := hv.y1; have y2 := hv.y2; have d1 := hv.d1; have d2 := hv.d2; have m1 := hv.m1; have m2 := hv.m2
  have hm : I64 m := by unfold I64; omega
  replace hm := show Hid _ from hm
  have sb := st_bd y y1 (by omega)
  obtain ⟨s1, s2⟩ := sb
  have cb := cum_bd y m m1 (by omega)
  obtain ⟨c1, c2⟩ := cb
  have d31 := hv.d31
  have hn : num y m d = st y + cum y m + d - 1 := rfl
  rw [hn]
  have e1 : decide (d < 1) = false := decide_eq_false (by omega)
  have e2 : decide (dim y m < d) = false := decide_eq_false (by omega)
  clear hn hv
  go_enter Tryz.func166, Tryz.ntmps166
  go_wp2
  obtain ⟨W0, b, hW0, hb, hx0, k0, k1, k2⟩ := box3 w (.int .i64 y) (.int .i64 m) (.int .i64 d) 159
  rw [hW0, hb]
  clear hW0 hb
  replace hx0 := show Hid _ from hx0
  replace he : Hid (Env W0) := he.out.ext hx0.out
  have j0 := Late.cell k0; have j1 := Late.cell k1; have j2 := Late.cell k2
  have hE : Hid (∀ s : Late W0, Hid (Env s.to)) := fun s => he.out.ext s.ext
  have hNe1 : Nonempty (Late W0) := ⟨⟨_, Ext.refl _⟩⟩
  refine wp_region_late (by kernel_rfl) (by kernel_rfl) ?_
  repeat (go_big_quiet_step ((first
    | (go_at_call 198; exact late_same (known_t _ _ y1 y2))
    | (go_at_call 179; exact late_same (month_c _ _ _ hm.out (hE.out _))))))
  refine wpQuiet_nil ?_
  intro W1 hw'
  have hx1 := late_ext hw'
  clear hw'
  clear j0 j1 j2 hE
  replace k0 := hx1.cell_of k0; replace k1 := hx1.cell_of k1; replace k2 := hx1.cell_of k2
  replace he : Hid (Env W1) := he.out.ext hx1
  replace hx0 : Hid (Ext w W1) := hx0.out.trans hx1
  clear hx1
  go_wp2
  have j0 := Late.cell k0; have j1 := Late.cell k1; have j2 := Late.cell k2
  have hE : Hid (∀ s : Late W1, Hid (Env s.to)) := fun s => he.out.ext s.ext
  have hNe2 : Nonempty (Late W1) := ⟨⟨_, Ext.refl _⟩⟩
  refine wp_region_late (by kernel_rfl) (by kernel_rfl) ?_
  repeat (go_big_quiet_step ((first
    | (go_at_call 178; exact late_same (start_c _ _ y1 (by omega)))
    | (go_at_call 199; exact late_same (ahead_c _ _ _ m1 m2 (hE.out _))))))
  refine wpQuiet_nil ?_
  intro W2 hw'
  have hx2 := late_ext hw'
  clear hw'

  go_wp2
  go_ret2
  exact ⟨rfl, hx0.out.trans hx2⟩
set_option maxHeartbeats 1000000 in
theorem Number_a (y m d : Int) (w : World) (h : ¬ (1900 ≤ y ∧ y ≤ 2200)) (hm : Hid (I64 m)) (he : Hid (Env w)) :
    Calls Tryz.prog 166 #[.agg #[.int .i64 y, .int .i64 m, .int .i64 d]] w fun e w' => e = .returned (.tuple #[.int .i64 0, .int .i64 5]) ∧ Ext w w' := by
  replace h := show Hid _ from h
  go_enter Tryz.func166, Tryz.ntmps166
  go_wp2
  obtain ⟨W0, b, hW0, hb, hx0, k0, k1, k2⟩ := box3 w (.int .i64 y) (.int .i64 m) (.int .i64 d) 159
  rw [hW0, hb]
  clear hW0 hb
  replace hx0 := show Hid _ from hx0
  replace he : Hid (Env W0) := he.out.ext hx0.out
  have j0 := Late.cell k0; have j1 := Late.cell k1; have j2 := Late.cell k2
  have hE : Hid (∀ s : Late W0, Hid (Env s.to)) := fun s => he.out.ext s.ext
  have hNe1 : Nonempty (Late W0) := ⟨⟨_, Ext.refl _⟩⟩
  refine wp_region_late (by kernel_rfl) (by kernel_rfl) ?_
  repeat (go_big_quiet_step ((first
    | (go_at_call 198; exact late_same (known_f _ _ h.out))
    | (go_at_call 179; exact late_same (month_c _ _ _ hm.out (hE.out _))))))
  refine wpQuiet_nil ?_
  intro W1 hw'
  have hx1 := late_ext hw'
  clear hw'
  go_wp2
  go_ret2
  exact ⟨rfl, hx0.out.trans hx1⟩
set_option maxHeartbeats 1000000 in
theorem Number_b (y m d : Int) (w : World) (y1 : 1900 ≤ y) (y2 : y ≤ 2200) (h : d < 1) (hm : Hid (I64 m)) (he : Hid (Env w)) :
    Calls Tryz.prog 166 #[.agg #[.int .i64 y, .int .i64 m, .int .i64 d]] w fun e w' => e = .returned (.tuple #[.int .i64 0, .int .i64 5]) ∧ Ext w w' := by
  have e1 : decide (d < 1) = true := decide_eq_true h
  go_enter Tryz.func166, Tryz.ntmps166
  go_wp2
  obtain ⟨W0, b, hW0, hb, hx0, k0, k1, k2⟩ := box3 w (.int .i64 y) (.int .i64 m) (.int .i64 d) 159
  rw [hW0, hb]
  clear hW0 hb
  replace hx0 := show Hid _ from hx0
  replace he : Hid (Env W0) := he.out.ext hx0.out
  have j0 := Late.cell k0; have j1 := Late.cell k1; have j2 := Late.cell k2
  have hE : Hid (∀ s : Late W0, Hid (Env s.to)) := fun s => he.out.ext s.ext
  have hNe1 : Nonempty (Late W0) := ⟨⟨_, Ext.refl _⟩⟩
  refine wp_region_late (by kernel_rfl) (by kernel_rfl) ?_
  repeat (go_big_quiet_step ((first
    | (go_at_call 198; exact late_same (known_t _ _ y1 y2))
    | (go_at_call 179; exact late_same (month_c _ _ _ hm.out (hE.out _))))))
  refine wpQuiet_nil ?_
  intro W1 hw'
  have hx1 := late_ext hw'
  clear hw'
  go_wp2
  go_ret2
  exact ⟨rfl, hx0.out.trans hx1⟩
set_option maxHeartbeats 1000000 in
theorem Number_d (y m d : Int) (w : World) (y1 : 1900 ≤ y) (y2 : y ≤ 2200) (h1 : ¬ d < 1) (h : dim y m < d) (hm : Hid (I64 m)) (he : Hid (Env w)) :
    Calls Tryz.prog 166 #[.agg #[.int .i64 y, .int .i64 m, .int .i64 d]] w fun e w' => e = .returned (.tuple #[.int .i64 0, .int .i64 5]) ∧ Ext w w' := by
  have e1 : decide (d < 1) = false := decide_eq_false h1
  have e2 : decide (dim y m < d) = true := decide_eq_true h
  go_enter Tryz.func166, Tryz.ntmps166
  go_wp2
  obtain ⟨W0, b, hW0, hb, hx0, k0, k1, k2⟩ := box3 w (.int .i64 y) (.int .i64 m) (.int .i64 d) 159
  rw [hW0, hb]
  clear hW0 hb
  replace hx0 := show Hid _ from hx0
  replace he : Hid (Env W0) := he.out.ext hx0.out
  have j0 := Late.cell k0; have j1 := Late.cell k1; have j2 := Late.cell k2
  have hE : Hid (∀ s : Late W0, Hid (Env s.to)) := fun s => he.out.ext s.ext
  have hNe1 : Nonempty (Late W0) := ⟨⟨_, Ext.refl _⟩⟩
  refine wp_region_late (by kernel_rfl) (by kernel_rfl) ?_
  repeat (go_big_quiet_step ((first
    | (go_at_call 198; exact late_same (known_t _ _ y1 y2))
    | (go_at_call 179; exact late_same (month_c _ _ _ hm.out (hE.out _))))))
  refine wpQuiet_nil ?_
  intro W1 hw'
  have hx1 := late_ext hw'
  clear hw'
  go_wp2
  go_ret2
  exact ⟨rfl, hx0.out.trans hx1⟩
theorem Number_no (y m d : Int) (w : World) (hv : ¬ Vld y m d) (hm : I64 m) (he : Hid (Env w)) :
    Calls Tryz.prog 166 #[.agg #[.int .i64 y, .int .i64 m, .int .i64 d]] w fun e w' => e = .returned (.tuple #[.int .i64 0, .int .i64 5]) ∧ Ext w w' := by
  by_cases h : 1900 ≤ y ∧ y ≤ 2200
  · by_cases h1 : d < 1
    · exact Number_b y m d w h.1 h.2 h1 hm he
    · by_cases h2 : dim y m < d
      · exact Number_d y m d w h.1 h.2 h1 h2 hm he
      · exact absurd ⟨h.1, h.2, by omega, by omega⟩ hv
  · exact Number_a y m d w h hm he
theorem Number_c (y m d : Int) (w : World) (hm : I64 m) (he : Hid (Env w)) :
    Calls Tryz.prog 166 #[.agg #[.int .i64 y, .int .i64 m, .int .i64 d]] w fun e w' => e = .returned (.tuple #[.int .i64 (numA y m d), .int .i64 (numE y m d)]) ∧ Ext w w' := by
  by_cases h : Vld y m d
  · rw [(numA_ok y m d h).1, (numA_ok y m d h).2]; exact Number_ok y m d w h he
  · rw [(numA_no y m d h).1, (numA_no y m d h).2]; exact Number_no y m d w h hm he
end Go.Proofs.YtbnpaeejlfaboaaGreatDoor.L3

namespace Go.Proofs.YtbnpaeejlfaboaaGreatDoor.L3
open Go.RowKit Go.Lib
set_option linter.unusedVariables false
set_option maxHeartbeats 1000000 in
theorem Date_ok (n : Int) (w : World) (h1 : -25567 ≤ n) (h2 : n ≤ 84370) (he : Hid (Env w)) :
    Calls Tryz.prog 143 #[.int .i64 n] w fun e w' => (∃ y m d : Int, e = .returned (.tuple #[.agg #[.int .i64 y, .int .i64 m, .int .i64 d], .int .i64 0]) ∧ Vld y m d ∧ num y m d = n) ∧ Ext w w' := by
  have a1 : ¬ n < -25567 := by omega
  have a2 : ¬ 84370 < n := by omega
  go_enter Tryz.func143, Tryz.ntmps143
  go_wp2_with fail
  refine (yearOf_c _ _ h1 h2).mono ?_
  rintro e w1 ⟨⟨y, y1, y2, y3, y4, rfl⟩, rfl⟩
  have sb := st_bd y y1 (by omega)
  obtain ⟨s1, s2⟩ := sb
  go_wp2_with fail
  refine (start_c _ _ y1 (by omega)).mono ?_
  rintro e w1 ⟨rfl, rfl⟩
  go_wp2_with fail
  refine (monthOf_c _ _ _ (by omega) (by omega) (he.out.ext ((Ext.refl _).alloc _ _))).mono ?_
  rintro e w1 ⟨⟨m, m1, m2, m3, m4, rfl⟩, rfl⟩
  have cb := cum_bd y m m1 (by omega)
  obtain ⟨c1, c2⟩ := cb
  have db := dim_bd y m m1 m2
  obtain ⟨d1, d2⟩ := db
  have hv : Hid (Vld y m (n - st y - cum y m + 1)) := ⟨y1, y2, by omega, by omega⟩
  have hn : Hid (num y m (n - st y - cum y m + 1) = n) := by show num y m _ = n; unfold num; omega
  go_wp2
  exact bodyPost_ret (v := .tuple #[.agg #[.int .i64 y, .int .i64 m, .int .i64 (n - st y - cum y m + 1)], .int .i64 0]) (by simp [results, Tryz.results143, go_sem]) rfl ⟨⟨y, m, _, rfl, hv.out, hn.out⟩, (Ext.refl _).alloc _ _⟩
end Go.Proofs.YtbnpaeejlfaboaaGreatDoor.L3

namespace Go.Proofs.YtbnpaeejlfaboaaGreatDoor.L3
open Go.RowKit Go.Lib
set_option linter.unusedVariables false
end Go.Proofs.YtbnpaeejlfaboaaGreatDoor.L3

namespace Go.Proofs.YtbnpaeejlfaboaaGreatDoor.L3
open Go.RowKit Go.Lib
set_option linter.unusedVariables false
@[go_sem] theorem app_mk (a b : List UInt8) : (⟨a.toArray⟩ : ByteArray) ++ (⟨b.toArray⟩ : ByteArray) = ⟨(a ++ b).toArray⟩ := by
  apply ByteArray.ext
  simp
theorem digit_t (c : UInt8) (w : World) (h : isD c = true) :
    Calls Tryz.prog 197 #[.int .u8 (c.toNat : Int)] w fun e w' => e = .returned (.bool true) ∧ w' = w := by
  obtain ⟨h1, h2⟩ := isD_range h
  have k1 : (48 : Int) ≤ (c.toNat : Int) := by omega
  have k2 : (c.toNat : Int) ≤ 57 := by omega
  clear h h1 h2
  generalize (c.toNat : Int) = x at *
  go_enter Tryz.func197, Tryz.ntmps197
  go_wp2
  go_ret
  exact ⟨rfl, rfl⟩
theorem digit_f (c : UInt8) (w : World) (h : isD c = false) :
    Calls Tryz.prog 197 #[.int .u8 (c.toNat : Int)] w fun e w' => e = .returned (.bool false) ∧ w' = w := by
  by_cases k1 : (48 : Int) ≤ (c.toNat : Int)
  · have k2 : ¬ (c.toNat : Int) ≤ 57 := fun k2 => by
      have : isD c = true := by unfold isD; simp; omega
      rw [this] at h; cases h
    clear h
    generalize (c.toNat : Int) = x at *
    go_enter Tryz.func197, Tryz.ntmps197
    go_wp2
    go_ret
    exact ⟨rfl, rfl⟩
  · clear h
    generalize (c.toNat : Int) = x at *
    go_enter Tryz.func197, Tryz.ntmps197
    go_wp2
    go_ret
    exact ⟨rfl, rfl⟩
theorem number_c (l : List UInt8) (w : World) (hne : l ≠ []) (h : l.all isD = true) (hl : l.length ≤ 18) :
    Calls Tryz.prog 167 #[.string ⟨l.toArray⟩] w fun e w' => e = .returned (.int .i64 (valL l : Nat)) ∧ Ext w w' := by
  have ha := show Hid _ from atoi_digits l hne h
  go_enter Tryz.func167, Tryz.ntmps167
  go_wp2_with fail
  refine (Tryz.strconv_Atoi ⟨l.toArray⟩ _ (by rw [Lib.size_mk]; exact hl) ha.out _).mono ?_
  rintro e w1 ⟨rfl, t, rfl⟩
  have hx : Hid (Ext w (Lib.bytesWorld w 5 t)) := ⟨Lib.bytesWorld_below w 5 t⟩
  generalize Lib.bytesWorld w 5 t = w1 at *
  go_wp2
  go_ret
  exact ⟨rfl, hx.out⟩
theorem twoDigits_c (n : Nat) (w : World) (h : n < 100) :
    Calls Tryz.prog 144 #[.int .i64 (n : Int)] w fun e w' => e = .returned (.string ⟨(fix 2 n).toArray⟩) ∧ w' = w := by
  by_cases h1 : n < 10
  · have e := dec_one n h1
    rw [← e]
    clear e
    have hl : (decDigits n).length = 1 := by rw [decDigits_small h1]; rfl
    have hn : (n : Int) < 10 := by omega
    have hi := show Hid _ from fun w => Tryz.strconv_Itoa_small n h w
    generalize decDigits n = l at *
    go_enter Tryz.func144, Tryz.ntmps144
    go_wp2_with (go_at_call 114; refine (hi.out _).mono ?_; rintro e w' ⟨rfl, rfl⟩)
    go_ret
    exact ⟨rfl, rfl⟩
  · rw [← dec_two n h1 h]
    have hn : ¬ (n : Int) < 10 := by omega
    have hi := show Hid _ from fun w => Tryz.strconv_Itoa_small n h w
    generalize decDigits n = l at *
    go_enter Tryz.func144, Tryz.ntmps144
    go_wp2_with (go_at_call 114; refine (hi.out _).mono ?_; rintro e w' ⟨rfl, rfl⟩)
    go_ret
    exact ⟨rfl, rfl⟩
theorem itoaYear_c (n : Nat) (w : World) (h1 : 1000 ≤ n) (h2 : n < 10000) (he : Hid (Env w)) :
    Calls Tryz.prog 114 #[.int .i64 (n : Int)] w fun e w' => e = .returned (.string ⟨(fix 4 n).toArray⟩) ∧ Ext w w' := by
  refine (Tryz.strconv_Itoa n (by omega) (by omega) w he.out.pow).mono ?_
  rintro e w' ⟨rfl, k, os, rfl⟩
  refine ⟨?_, ((Ext.refl w).drewN k).grow os⟩
  have : Lib.itoa (n : Int) = fix 4 n := by
    unfold Lib.itoa
    rw [if_neg (by omega), Int.toNat_natCast, dec_four n h1 h2]
  rw [this]
theorem formed_no (l : List UInt8) (w : World) (h : l.length ≠ 10) (hl : l.length ≤ 1000000) :
    Calls Tryz.prog 165 #[.string ⟨l.toArray⟩] w fun e w' => e = .returned (.bool false) ∧ w' = w := by
  have k : ¬ (l.length : Int) = 10 := by omega
  go_enter Tryz.func165, Tryz.ntmps165
  go_wp2
  go_ret
  exact ⟨rfl, rfl⟩
set_option maxHeartbeats 4000000 in
theorem formed_c (c0 c1 c2 c3 c4 c5 c6 c7 c8 c9 : UInt8) (w : World) :
    Calls Tryz.prog 165 #[.string ⟨#[c0, c1, c2, c3, c4, c5, c6, c7, c8, c9]⟩] w fun e w' => e = .returned (.bool (formL [c0, c1, c2, c3, c4, c5, c6, c7, c8, c9])) ∧ w' = w := by
  have hfi := show Hid _ from form_iff c0 c1 c2 c3 c4 c5 c6 c7 c8 c9
  generalize formL [c0, c1, c2, c3, c4, c5, c6, c7, c8, c9] = B at *
  go_enter Tryz.func165, Tryz.ntmps165
  go_wp2
  go_loop [7] (fun t => ∃ k : Nat, k ≤ 10 ∧ t = .int .i64 (k : Int) ∧ Hid (∀ j, j < k → okAt [c0, c1, c2, c3, c4, c5, c6, c7, c8, c9] j = true)) (fun t => (10 - RowKit.intOf t).toNat)
  case atStart => exact ⟨0, by omega, rfl, fun j hj => absurd hj (Nat.not_lt_zero j)⟩
  case round =>
    obtain ⟨k, hk, rfl, hall⟩ := hrel
    have hkc : k = 0 ∨ k = 1 ∨ k = 2 ∨ k = 3 ∨ k = 4 ∨ k = 5 ∨ k = 6 ∨ k = 7 ∨ k = 8 ∨ k = 9 ∨ k = 10 := by omega
    rcases hkc with rfl | rfl | rfl | rfl | rfl | rfl | rfl | rfl | rfl | rfl | rfl
    · cases hc : isD c0
      · go_wp2_with (go_at_call 197; refine (digit_f _ _ hc).mono ?_; rintro e w' ⟨rfl, rfl⟩)
        go_ret
        refine ⟨ret_bool ?_, rfl⟩
        cases B
        · rfl
        · exact absurd (hfi.out.1 rfl).d0 (by rw [hc]; decide)
      · go_wp2_with (go_at_call 197; refine (digit_t _ _ hc).mono ?_; rintro e w' ⟨rfl, rfl⟩)
        go_round
        case rel => exact ⟨1, by omega, by go_num, fun j hj => by
          by_cases e : j = 0
          · subst e
            show (if (0 : Nat) = 4 ∨ (0 : Nat) = 7 then c0 == 45 else isD c0) = true
            simp [hc]
          · exact hall.out j (by omega)⟩
        case measure => simp [RowKit.intOf]
    · cases hc : isD c1
      · go_wp2_with (go_at_call 197; refine (digit_f _ _ hc).mono ?_; rintro e w' ⟨rfl, rfl⟩)
        go_ret
        refine ⟨ret_bool ?_, rfl⟩
        cases B
        · rfl
        · exact absurd (hfi.out.1 rfl).d1 (by rw [hc]; decide)
      · go_wp2_with (go_at_call 197; refine (digit_t _ _ hc).mono ?_; rintro e w' ⟨rfl, rfl⟩)
        go_round
        case rel => exact ⟨2, by omega, by go_num, fun j hj => by
          by_cases e : j = 1
          · subst e
            show (if (1 : Nat) = 4 ∨ (1 : Nat) = 7 then c1 == 45 else isD c1) = true
            simp [hc]
          · exact hall.out j (by omega)⟩
        case measure => simp [RowKit.intOf]
    · cases hc : isD c2
      · go_wp2_with (go_at_call 197; refine (digit_f _ _ hc).mono ?_; rintro e w' ⟨rfl, rfl⟩)
        go_ret
        refine ⟨ret_bool ?_, rfl⟩
        cases B
        · rfl
        · exact absurd (hfi.out.1 rfl).d2 (by rw [hc]; decide)
      · go_wp2_with (go_at_call 197; refine (digit_t _ _ hc).mono ?_; rintro e w' ⟨rfl, rfl⟩)
        go_round
        case rel => exact ⟨3, by omega, by go_num, fun j hj => by
          by_cases e : j = 2
          · subst e
            show (if (2 : Nat) = 4 ∨ (2 : Nat) = 7 then c2 == 45 else isD c2) = true
            simp [hc]
          · exact hall.out j (by omega)⟩
        case measure => simp [RowKit.intOf]
    · cases hc : isD c3
      · go_wp2_with (go_at_call 197; refine (digit_f _ _ hc).mono ?_; rintro e w' ⟨rfl, rfl⟩)
        go_ret
        refine ⟨ret_bool ?_, rfl⟩
        cases B
        · rfl
        · exact absurd (hfi.out.1 rfl).d3 (by rw [hc]; decide)
      · go_wp2_with (go_at_call 197; refine (digit_t _ _ hc).mono ?_; rintro e w' ⟨rfl, rfl⟩)
        go_round
        case rel => exact ⟨4, by omega, by go_num, fun j hj => by
          by_cases e : j = 3
          · subst e
            show (if (3 : Nat) = 4 ∨ (3 : Nat) = 7 then c3 == 45 else isD c3) = true
            simp [hc]
          · exact hall.out j (by omega)⟩
        case measure => simp [RowKit.intOf]
    · by_cases hc : (c4.toNat : Int) = 45
      · go_wp2
        go_round
        case rel => exact ⟨5, by omega, by go_num, fun j hj => by
          by_cases e : j = 4
          · subst e
            show (if (4 : Nat) = 4 ∨ (4 : Nat) = 7 then c4 == 45 else isD c4) = true
            have : c4 = 45 := by apply UInt8.toNat_inj.mp; exact Int.ofNat_inj.mp hc
            simp [this]
          · exact hall.out j (by omega)⟩
        case measure => simp [RowKit.intOf]
      · go_wp2
        go_ret
        refine ⟨ret_bool ?_, rfl⟩
        cases B
        · rfl
        · exact absurd (by rw [(hfi.out.1 rfl).h4]; rfl) hc
    · cases hc : isD c5
      · go_wp2_with (go_at_call 197; refine (digit_f _ _ hc).mono ?_; rintro e w' ⟨rfl, rfl⟩)
        go_ret
        refine ⟨ret_bool ?_, rfl⟩
        cases B
        · rfl
        · exact absurd (hfi.out.1 rfl).d5 (by rw [hc]; decide)
      · go_wp2_with (go_at_call 197; refine (digit_t _ _ hc).mono ?_; rintro e w' ⟨rfl, rfl⟩)
        go_round
        case rel => exact ⟨6, by omega, by go_num, fun j hj => by
          by_cases e : j = 5
          · subst e
            show (if (5 : Nat) = 4 ∨ (5 : Nat) = 7 then c5 == 45 else isD c5) = true
            simp [hc]
          · exact hall.out j (by omega)⟩
        case measure => simp [RowKit.intOf]
    · cases hc : isD c6
      · go_wp2_with (go_at_call 197; refine (digit_f _ _ hc).mono ?_; rintro e w' ⟨rfl, rfl⟩)
        go_ret
        refine ⟨ret_bool ?_, rfl⟩
        cases B
        · rfl
        · exact absurd (hfi.out.1 rfl).d6 (by rw [hc]; decide)
      · go_wp2_with (go_at_call 197; refine (digit_t _ _ hc).mono ?_; rintro e w' ⟨rfl, rfl⟩)
        go_round
        case rel => exact ⟨7, by omega, by go_num, fun j hj => by
          by_cases e : j = 6
          · subst e
            show (if (6 : Nat) = 4 ∨ (6 : Nat) = 7 then c6 == 45 else isD c6) = true
            simp [hc]
          · exact hall.out j (by omega)⟩
        case measure => simp [RowKit.intOf]
    · by_cases hc : (c7.toNat : Int) = 45
      · go_wp2
        go_round
        case rel => exact ⟨8, by omega, by go_num, fun j hj => by
          by_cases e : j = 7
          · subst e
            show (if (7 : Nat) = 4 ∨ (7 : Nat) = 7 then c7 == 45 else isD c7) = true
            have : c7 = 45 := by apply UInt8.toNat_inj.mp; exact Int.ofNat_inj.mp hc
            simp [this]
          · exact hall.out j (by omega)⟩
        case measure => simp [RowKit.intOf]
      · go_wp2
        go_ret
        refine ⟨ret_bool ?_, rfl⟩
        cases B
        · rfl
        · exact absurd (by rw [(hfi.out.1 rfl).h7]; rfl) hc
    · cases hc : isD c8
      · go_wp2_with (go_at_call 197; refine (digit_f _ _ hc).mono ?_; rintro e w' ⟨rfl, rfl⟩)
        go_ret
        refine ⟨ret_bool ?_, rfl⟩
        cases B
        · rfl
        · exact absurd (hfi.out.1 rfl).d8 (by rw [hc]; decide)
      · go_wp2_with (go_at_call 197; refine (digit_t _ _ hc).mono ?_; rintro e w' ⟨rfl, rfl⟩)
        go_round
        case rel => exact ⟨9, by omega, by go_num, fun j hj => by
          by_cases e : j = 8
          · subst e
            show (if (8 : Nat) = 4 ∨ (8 : Nat) = 7 then c8 == 45 else isD c8) = true
            simp [hc]
          · exact hall.out j (by omega)⟩
        case measure => simp [RowKit.intOf]
    · cases hc : isD c9
      · go_wp2_with (go_at_call 197; refine (digit_f _ _ hc).mono ?_; rintro e w' ⟨rfl, rfl⟩)
        go_ret
        refine ⟨ret_bool ?_, rfl⟩
        cases B
        · rfl
        · exact absurd (hfi.out.1 rfl).d9 (by rw [hc]; decide)
      · go_wp2_with (go_at_call 197; refine (digit_t _ _ hc).mono ?_; rintro e w' ⟨rfl, rfl⟩)
        go_round
        case rel => exact ⟨10, by omega, by go_num, fun j hj => by
          by_cases e : j = 9
          · subst e
            show (if (9 : Nat) = 4 ∨ (9 : Nat) = 7 then c9 == 45 else isD c9) = true
            simp [hc]
          · exact hall.out j (by omega)⟩
        case measure => simp [RowKit.intOf]
    · go_wp2
      go_ret
      refine ⟨ret_bool ?_, rfl⟩
      have h := hall.out
      refine Eq.symm (hfi.out.2 ⟨?_, ?_, ?_, ?_, ?_, ?_, ?_, ?_, ?_, ?_⟩)
      · have := h 0 (by omega); simpa [okAt] using this
      · have := h 1 (by omega); simpa [okAt] using this
      · have := h 2 (by omega); simpa [okAt] using this
      · have := h 3 (by omega); simpa [okAt] using this
      · have := h 4 (by omega); simpa [okAt] using this
      · have := h 5 (by omega); simpa [okAt] using this
      · have := h 6 (by omega); simpa [okAt] using this
      · have := h 7 (by omega); simpa [okAt] using this
      · have := h 8 (by omega); simpa [okAt] using this
      · have := h 9 (by omega); simpa [okAt] using this
end Go.Proofs.YtbnpaeejlfaboaaGreatDoor.L3

namespace Go.Proofs.YtbnpaeejlfaboaaGreatDoor.L3
open Go.RowKit Go.Lib
set_option linter.unusedVariables false
theorem ret_text {a b : List UInt8} (h : a = b) (k : Int) : Ending.returned (.tuple #[.string ⟨a.toArray⟩, .int .i64 k]) = .returned (.tuple #[.string ⟨b.toArray⟩, .int .i64 k]) := by rw [h]
set_option maxHeartbeats 1000000 in
theorem Text_ok (n : Int) (w : World) (h1 : -25567 ≤ n) (h2 : n ≤ 84370) (he : Hid (Env w)) :
    Calls Tryz.prog 117 #[.int .i64 n] w fun e w' => (∃ y m d : Int, e = .returned (.tuple #[.string ⟨(textL y m d).toArray⟩, .int .i64 0]) ∧ Vld y m d ∧ num y m d = n) ∧ Ext w w' := by
  go_enter Tryz.func117, Tryz.ntmps117
  go_wp2_with fail
  refine (Date_ok _ _ h1 h2 he).mono ?_
  rintro e w1 ⟨⟨y, m, d, rfl, hv, hn⟩, hx⟩
  replace he : Hid (Env w1) := he.out.ext hx
  replace hx := show Hid _ from hx
  replace hn := show Hid _ from hn
  obtain ⟨Y, rfl⟩ : ∃ Y : Nat, y = Y := ⟨y.toNat, by have := hv.y1; omega⟩
  obtain ⟨M, rfl⟩ : ∃ M : Nat, m = M := ⟨m.toNat, by have := hv.m1; omega⟩
  obtain ⟨N, rfl⟩ : ∃ N : Nat, d = N := ⟨d.toNat, by have := hv.d1; omega⟩
  have y1 := hv.y1; have y2 := hv.y2; have m2 := hv.m2; have d2 := hv.d31
  replace hv := show Hid _ from hv
  go_wp2
  obtain ⟨W0, b, hW0, hb, hx0, k0, k1, k2⟩ := box3 w1 (.int .i64 (Y : Int)) (.int .i64 (M : Int)) (.int .i64 (N : Int)) 159
  rw [hW0, hb]
  clear hW0 hb
  replace he : Hid (Env W0) := he.out.ext hx0
  replace hx : Hid (Ext w W0) := hx.out.trans hx0
  clear hx0
  have j0 := Late.cell k0; have j1 := Late.cell k1; have j2 := Late.cell k2
  have hE : Hid (∀ s : Late W0, Hid (Env s.to)) := fun s => he.out.ext s.ext
  have hI : Hid (∀ w : World, Hid (Env w) → Calls Tryz.prog 114 #[.int .i64 (Y : Int)] w fun e w' => e = .returned (.string ⟨(fix 4 Y).toArray⟩) ∧ Ext w w') := fun w he => itoaYear_c Y w (by omega) (by omega) he
  have hM : Hid (∀ w : World, Calls Tryz.prog 144 #[.int .i64 (M : Int)] w fun e w' => e = .returned (.string ⟨(fix 2 M).toArray⟩) ∧ w' = w) := fun w => twoDigits_c M w (by omega)
  have hN : Hid (∀ w : World, Calls Tryz.prog 144 #[.int .i64 (N : Int)] w fun e w' => e = .returned (.string ⟨(fix 2 N).toArray⟩) ∧ w' = w) := fun w => twoDigits_c N w (by omega)
  have l1 := fix_length 4 Y; have l2 := fix_length 2 M; have l3 := fix_length 2 N
  have ht : Hid (textL (Y : Int) (M : Int) (N : Int) = fix 4 Y ++ 45 :: (fix 2 M ++ 45 :: fix 2 N)) := rfl
  generalize fix 4 Y = a at *
  generalize fix 2 M = p at *
  generalize fix 2 N = q at *
  clear y1 y2 m2 d2
  have hz : ∀ s : Late W0, ¬ 9223372036854775807 < 4 + 1 := fun _ => by omega
  clear hz
  have hNe1 : Nonempty (Late W0) := ⟨⟨_, Ext.refl _⟩⟩
  refine wp_region_late (by kernel_rfl) (by kernel_rfl) ?_
  repeat (go_big_quiet_step ((first
    | (go_at_call 114; exact late_of (hI.out _ (hE.out _)))
    | (go_at_call_of 144 (M : Int); exact late_same (hM.out _))
    | (go_at_call_of 144 (N : Int); exact late_same (hN.out _)))))
  refine wpQuiet_nil ?_
  intro W1 hw'
  have hx1 := late_ext hw'
  clear hw'
  go_wp2
  go_ret2
  exact ⟨⟨Y, M, N, by exact ret_text (by rw [ht.out]) 0, hv.out, hn.out⟩, hx.out.trans hx1⟩
theorem Take_short (l : List UInt8) (w : World) (h : l.length ≠ 10) (hl : l.length ≤ 1000000) :
    Calls Tryz.prog 129 #[.string ⟨l.toArray⟩] w fun e w' => e = .returned (.tuple #[.int .i64 0, .int .i64 4]) ∧ Ext w w' := by
  replace h := show Hid _ from h
  go_enter Tryz.func129, Tryz.ntmps129
  go_wp2_with (go_at_call 165; refine (formed_no _ _ h.out hl).mono ?_; rintro e w' ⟨rfl, rfl⟩)
  go_ret2
  exact ⟨rfl, Ext.refl _⟩
theorem Take_no (c0 c1 c2 c3 c4 c5 c6 c7 c8 c9 : UInt8) (w : World) (h : formL [c0, c1, c2, c3, c4, c5, c6, c7, c8, c9] = false) :
    Calls Tryz.prog 129 #[.string ⟨#[c0, c1, c2, c3, c4, c5, c6, c7, c8, c9]⟩] w fun e w' => e = .returned (.tuple #[.int .i64 0, .int .i64 4]) ∧ Ext w w' := by
  have hf := fun w => formed_c c0 c1 c2 c3 c4 c5 c6 c7 c8 c9 w
  rw [h] at hf
  replace hf := show Hid _ from hf
  clear h
  go_enter Tryz.func129, Tryz.ntmps129
  go_wp2_with (go_at_call 165; refine (hf.out _).mono ?_; rintro e w' ⟨rfl, rfl⟩)
  go_ret2
  exact ⟨rfl, Ext.refl _⟩
set_option maxHeartbeats 2000000 in
theorem Take_ok (c0 c1 c2 c3 c4 c5 c6 c7 c8 c9 : UInt8) (w : World) (h : formL [c0, c1, c2, c3, c4, c5, c6, c7, c8, c9] = true) (he : Hid (Env w)) :
    Calls Tryz.prog 129 #[.string ⟨#[c0, c1, c2, c3, c4, c5, c6, c7, c8, c9]⟩] w fun e w' => e = .returned (.tuple #[.int .i64 (numA (pY [c0, c1, c2, c3, c4, c5, c6, c7, c8, c9]) (pM [c0, c1, c2, c3, c4, c5, c6, c7, c8, c9]) (pD [c0, c1, c2, c3, c4, c5, c6, c7, c8, c9])), .int .i64 (numE (pY [c0, c1, c2, c3, c4, c5, c6, c7, c8, c9]) (pM [c0, c1, c2, c3, c4, c5, c6, c7, c8, c9]) (pD [c0, c1, c2, c3, c4, c5, c6, c7, c8, c9]))]) ∧ Ext w w' := by
  have hf := fun w => formed_c c0 c1 c2 c3 c4 c5 c6 c7 c8 c9 w
  rw [h] at hf
  replace hf := show Hid _ from hf
  have f := (form_iff c0 c1 c2 c3 c4 c5 c6 c7 c8 c9).1 h
  have n1 : Hid (∀ w : World, Calls Tryz.prog 167 #[.string ⟨#[c0, c1, c2, c3]⟩] w fun e w' => e = .returned (.int .i64 (pY [c0, c1, c2, c3, c4, c5, c6, c7, c8, c9])) ∧ Ext w w') := fun w => number_c [c0, c1, c2, c3] w (by simp) (by simp [f.d0, f.d1, f.d2, f.d3]) (by simp)
  have n2 : Hid (∀ w : World, Calls Tryz.prog 167 #[.string ⟨#[c5, c6]⟩] w fun e w' => e = .returned (.int .i64 (pM [c0, c1, c2, c3, c4, c5, c6, c7, c8, c9])) ∧ Ext w w') := fun w => number_c [c5, c6] w (by simp) (by simp [f.d5, f.d6]) (by simp)
  have n3 : Hid (∀ w : World, Calls Tryz.prog 167 #[.string ⟨#[c8, c9]⟩] w fun e w' => e = .returned (.int .i64 (pD [c0, c1, c2, c3, c4, c5, c6, c7, c8, c9])) ∧ Ext w w') := fun w => number_c [c8, c9] w (by simp) (by simp [f.d8, f.d9]) (by simp)
  have e1 : (⟨#[c0, c1, c2, c3, c4, c5, c6, c7, c8, c9]⟩ : ByteArray).extract 0 4 = ⟨#[c0, c1, c2, c3]⟩ := rfl
  have e2 : (⟨#[c0, c1, c2, c3, c4, c5, c6, c7, c8, c9]⟩ : ByteArray).extract 5 7 = ⟨#[c5, c6]⟩ := rfl
  have e3 : (⟨#[c0, c1, c2, c3, c4, c5, c6, c7, c8, c9]⟩ : ByteArray).extract 8 10 = ⟨#[c8, c9]⟩ := rfl
  have hsz : (⟨#[c0, c1, c2, c3, c4, c5, c6, c7, c8, c9]⟩ : ByteArray).size = 10 := rfl
  have hm : Hid (I64 (pM [c0, c1, c2, c3, c4, c5, c6, c7, c8, c9])) := by
    have := valL_lt [c5, c6] (by simp [f.d5, f.d6])
    show I64 (pM [c0, c1, c2, c3, c4, c5, c6, c7, c8, c9])
    have e : pM [c0, c1, c2, c3, c4, c5, c6, c7, c8, c9] = (valL [c5, c6] : Nat) := rfl
    unfold I64; rw [e]; simp at this; omega
  generalize pY [c0, c1, c2, c3, c4, c5, c6, c7, c8, c9] = y at *
  generalize pM [c0, c1, c2, c3, c4, c5, c6, c7, c8, c9] = m at *
  generalize pD [c0, c1, c2, c3, c4, c5, c6, c7, c8, c9] = d at *
  have hN : Hid (∀ w : World, Hid (Env w) → Calls Tryz.prog 166 #[.agg #[.int .i64 y, .int .i64 m, .int .i64 d]] w fun e w' => e = .returned (.tuple #[.int .i64 (numA y m d), .int .i64 (numE y m d)]) ∧ Ext w w') := fun w he => Number_c y m d w hm.out he
  generalize numA y m d = na at *
  generalize numE y m d = ne at *
  clear f h hm
  go_enter Tryz.func129, Tryz.ntmps129
  go_wp2_with fail
  refine (hf.out _).mono ?_
  rintro e w1 ⟨rfl, rfl⟩
  go_wp2
  have hE : Hid (∀ s : Late w1, Hid (Env s.to)) := fun s => he.out.ext s.ext
  have hNe1 : Nonempty (Late w1) := ⟨⟨_, Ext.refl _⟩⟩
  refine wp_region_late (by kernel_rfl) (by kernel_rfl) ?_
  repeat (go_big_quiet_step ((first
    | (go_at_call_of 167 c0; exact late_of (n1.out _))
    | (go_at_call_of 167 c5; exact late_of (n2.out _))
    | (go_at_call_of 167 c8; exact late_of (n3.out _))
    | (go_at_call 166; exact late_of (hN.out _ (hE.out _))))))
  refine wpQuiet_nil ?_
  intro W1 hw'
  have hx1 := late_ext hw'
  clear hw'
  go_wp2
  go_ret2
  exact ⟨rfl, hx1⟩
theorem Take_c (l : List UInt8) (w : World) (hl : l.length ≤ 1000000) (he : Hid (Env w)) :
    Calls Tryz.prog 129 #[.string ⟨l.toArray⟩] w fun e w' => e = .returned (.tuple #[.int .i64 (takA l), .int .i64 (takE l)]) ∧ Ext w w' := by
  by_cases h : l.length = 10
  · obtain ⟨c0, c1, c2, c3, c4, c5, c6, c7, c8, c9, rfl⟩ := ten h
    cases hf : formL [c0, c1, c2, c3, c4, c5, c6, c7, c8, c9]
    · rw [(tak_not _ hf).1, (tak_not _ hf).2]; exact Take_no c0 c1 c2 c3 c4 c5 c6 c7 c8 c9 w hf
    · rw [(tak_form _ hf).1, (tak_form _ hf).2]; exact Take_ok c0 c1 c2 c3 c4 c5 c6 c7 c8 c9 w hf he
  · rw [(tak_not _ (form_not l h)).1, (tak_not _ (form_not l h)).2]; exact Take_short l w h hl
end Go.Proofs.YtbnpaeejlfaboaaGreatDoor.L3

namespace Go.Proofs.YtbnpaeejlfaboaaGreatDoor.L3
/-- The greatest of the first k + 1 places at which f is at most n. -/
def lastLe (f : Int → Int) (n a : Int) : Nat → Int
  | 0 => a
  | k + 1 => if f (a + ((k + 1 : Nat) : Int)) ≤ n then a + ((k + 1 : Nat) : Int) else lastLe f n a k
theorem lastLe_spec (f : Int → Int) (n a : Int) (h : f a ≤ n) : ∀ (k : Nat), n < f (a + k + 1) → a ≤ lastLe f n a k ∧ lastLe f n a k ≤ a + k ∧ f (lastLe f n a k) ≤ n ∧ n < f (lastLe f n a k + 1)
  | 0, hn => by
    simp only [lastLe]
    have e : a + ((0 : Nat) : Int) = a := by omega
    rw [e] at hn ⊢
    exact ⟨Int.le_refl _, Int.le_refl _, h, hn⟩
  | k + 1, hn => by
    simp only [lastLe]
    by_cases c : f (a + ((k + 1 : Nat) : Int)) ≤ n
    · rw [if_pos c]; exact ⟨by omega, Int.le_refl _, c, hn⟩
    · rw [if_neg c]
      obtain ⟨p, q, r, s⟩ := lastLe_spec f n a h k (by rw [show a + (k : Int) + 1 = a + ((k + 1 : Nat) : Int) by omega]; omega)
      exact ⟨p, by omega, r, s⟩
/-- The date of a day. -/
def yOf (n : Int) : Int := lastLe st n 1900 300
def mOf (n : Int) : Int := lastLe (cum (yOf n)) (n - st (yOf n)) 1 11
def dOf (n : Int) : Int := n - st (yOf n) - cum (yOf n) (mOf n) + 1
theorem ofDay (n : Int) (h1 : -25567 ≤ n) (h2 : n ≤ 84370) : Vld (yOf n) (mOf n) (dOf n) ∧ num (yOf n) (mOf n) (dOf n) = n := by
  have s0 : st 1900 = -25567 := by decide
  have s1 : st 2201 = 84371 := by decide
  obtain ⟨a, b, c, d⟩ := lastLe_spec st n 1900 (by omega) 300 (by rw [show (1900 : Int) + ((300 : Nat) : Int) + 1 = 2201 by decide]; omega)
  change 1900 ≤ yOf n at a
  change yOf n ≤ 1900 + ((300 : Nat) : Int) at b
  change st (yOf n) ≤ n at c
  change n < st (yOf n + 1) at d
  have ss := st_succ (yOf n)
  have ce := cum_end (yOf n)
  obtain ⟨p, q, r, s⟩ := lastLe_spec (cum (yOf n)) (n - st (yOf n)) 1 (by rw [cum_one]; omega) 11 (by rw [show (1 : Int) + ((11 : Nat) : Int) + 1 = 13 by decide, ce]; omega)
  change 1 ≤ mOf n at p
  change mOf n ≤ 1 + ((11 : Nat) : Int) at q
  change cum (yOf n) (mOf n) ≤ n - st (yOf n) at r
  change n - st (yOf n) < cum (yOf n) (mOf n + 1) at s
  have cs := cum_succ (yOf n) (mOf n) p (by omega)
  have hd : dOf n = n - st (yOf n) - cum (yOf n) (mOf n) + 1 := rfl
  refine ⟨⟨a, by omega, by omega, by omega⟩, ?_⟩
  unfold num
  omega
theorem ofDay_of {n y m d : Int} (h : Vld y m d) (k : num y m d = n) : y = yOf n ∧ m = mOf n ∧ d = dOf n := by
  have b := num_bd h
  have o := ofDay n (by omega) (by omega)
  exact num_inj h o.1 (by rw [o.2, k])
end Go.Proofs.YtbnpaeejlfaboaaGreatDoor.L3

namespace Go.Proofs.YtbnpaeejlfaboaaGreatDoor.L3
open Go.RowKit Go.Lib
set_option linter.unusedVariables false
theorem _root_.Go.Proofs.YtbnpaeejlfaboaaGreatDoor.Ext.froz_of {w w' : World} {b o : Nat} {v : Value} (hx : Ext w w') (h : w.cell? ⟨b, o, none⟩ = some v) (k : w.frozen? ⟨b, o, none⟩ = false) : w'.frozen? ⟨b, o, none⟩ = false := by
  rw [hx.froz b o (lt_of_cell h)]; exact k
end Go.Proofs.YtbnpaeejlfaboaaGreatDoor.L3

namespace Go.Proofs.YtbnpaeejlfaboaaGreatDoor.L3
open Go.RowKit Go.Lib
set_option linter.unusedVariables false
end Go.Proofs.YtbnpaeejlfaboaaGreatDoor.L3

namespace Go.Proofs.YtbnpaeejlfaboaaGreatDoor.L3
open Go.RowKit Go.Lib
set_option linter.unusedVariables false
end Go.Proofs.YtbnpaeejlfaboaaGreatDoor.L3
