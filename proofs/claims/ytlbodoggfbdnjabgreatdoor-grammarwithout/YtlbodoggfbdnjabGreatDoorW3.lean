/- Contracts that the proof of this law leans on: no statement of the seat is proved here. -/
import Derived.BigQuiet
import Derived.Deep.QuietTactic
import Derived.Laws.IdiomStrings
import Derived.Lib.Atoi
import Derived.Lib.AtoiErrMem
import Derived.Lib.ItoaLen
import Derived.Lib.ItoaMem
import Derived.Lib.TrimByte
import Derived.Test.YtlbodoggfbdnjabGreatDoorW0
import Derived.Test.YtlbodoggfbdnjabGreatDoorW1

namespace Go.Proofs.YtlbodoggfbdnjabGreatDoor.L3
/-- A year of 366 days. -/
def lng (y : Int) : Bool := decide (y % 4 = 0 ∧ (y % 100 ≠ 0 ∨ y % 400 = 0))
def lp (y : Int) : Int := if lng y = true then 1 else 0
/-- How many days a month has; 0 of one that there is not. -/
def dim (y m : Int) : Int := if m < 1 ∨ 12 < m then 0 else if m = 2 then 28 + lp y else if m = 4 ∨ m = 6 ∨ m = 9 ∨ m = 11 then 30 else 31
def la (y : Int) : Int := (y - 1) / 4 - (y - 1) / 100 + (y - 1) / 400
/-- The number of a year's first day. -/
def st (y : Int) : Int := 365 * (y - 1970) + la y - 477
/-- The days of the months ahead. -/
def cum (y m : Int) : Int :=
  if m ≤ 1 then 0 else if m = 2 then 31 else if m = 3 then 59 + lp y else if m = 4 then 90 + lp y else if m = 5 then 120 + lp y else if m = 6 then 151 + lp y
  else if m = 7 then 181 + lp y else if m = 8 then 212 + lp y else if m = 9 then 243 + lp y else if m = 10 then 273 + lp y else if m = 11 then 304 + lp y else if m = 12 then 334 + lp y else 365 + lp y
/-- Which day a date is. -/
def num (y m d : Int) : Int := st y + cum y m + d - 1
/-- Is there such a day? -/
structure Vld (y m d : Int) : Prop where
  y1 : 1900 ≤ y
  y2 : y ≤ 2200
  d1 : 1 ≤ d
  d2 : d ≤ dim y m
def vldB (y m d : Int) : Bool := decide (1900 ≤ y ∧ y ≤ 2200 ∧ 1 ≤ d ∧ d ≤ dim y m)
theorem vldB_iff (y m d : Int) : vldB y m d = true ↔ Vld y m d :=
  ⟨fun h => by have := of_decide_eq_true h; exact ⟨this.1, this.2.1, this.2.2.1, this.2.2.2⟩, fun h => decide_eq_true ⟨h.y1, h.y2, h.d1, h.d2⟩⟩
theorem lp_01 (y : Int) : 0 ≤ lp y ∧ lp y ≤ 1 := by unfold lp; split <;> omega
theorem lng_of (y : Int) (h : y % 4 = 0) (k : y % 100 ≠ 0 ∨ y % 400 = 0) : lng y = true := decide_eq_true ⟨h, k⟩
theorem lng_not (y : Int) (h : ¬ (y % 4 = 0 ∧ (y % 100 ≠ 0 ∨ y % 400 = 0))) : lng y = false := decide_eq_false h
theorem st_mono (a b : Int) (h : a ≤ b) : st a ≤ st b := by unfold st la; omega
theorem st_bd (y : Int) (h : 1900 ≤ y) (k : y ≤ 2201) : -25567 ≤ st y ∧ st y ≤ 84371 := by
  have a := st_mono 1900 y h
  have b := st_mono y 2201 k
  have c : st 1900 = -25567 := by decide
  have d : st 2201 = 84371 := by decide
  omega
theorem la_bd (y : Int) (h : 1900 ≤ y) (k : y ≤ 2201) : 400 ≤ la y ∧ la y ≤ 600 := by unfold la; omega
theorem dim_out (y m : Int) (h : m < 1 ∨ 12 < m) : dim y m = 0 := by unfold dim; rw [if_pos h]
theorem dim_bd (y m : Int) (h : 1 ≤ m) (k : m ≤ 12) : 28 ≤ dim y m ∧ dim y m ≤ 31 := by
  have := lp_01 y
  unfold dim; rw [if_neg (by omega)]; split
  · omega
  · split <;> omega
theorem dim_le (y m : Int) : 0 ≤ dim y m ∧ dim y m ≤ 31 := by
  by_cases h : m < 1 ∨ 12 < m
  · rw [dim_out _ _ h]; omega
  · have := dim_bd y m (by omega) (by omega); omega
theorem Vld.m1 {y m d : Int} (h : Vld y m d) : 1 ≤ m := by
  by_cases k : 1 ≤ m
  · exact k
  · have := dim_out y m (by omega); have := h.d1; have := h.d2; omega
theorem Vld.m2 {y m d : Int} (h : Vld y m d) : m ≤ 12 := by
  by_cases k : m ≤ 12
  · exact k
  · have := dim_out y m (by omega); have := h.d1; have := h.d2; omega
theorem Vld.d31 {y m d : Int} (h : Vld y m d) : d ≤ 31 := by have := dim_le y m; have := h.d2; omega
theorem cases12 {m : Int} (h : 1 ≤ m) (k : m ≤ 12) : m = 1 ∨ m = 2 ∨ m = 3 ∨ m = 4 ∨ m = 5 ∨ m = 6 ∨ m = 7 ∨ m = 8 ∨ m = 9 ∨ m = 10 ∨ m = 11 ∨ m = 12 := by omega
theorem cum_succ (y m : Int) (h : 1 ≤ m) (k : m ≤ 12) : cum y (m + 1) = cum y m + dim y m := by
  rcases cases12 h k with rfl | rfl | rfl | rfl | rfl | rfl | rfl | rfl | rfl | rfl | rfl | rfl <;> simp [cum, dim] <;> omega
theorem cum_one (y : Int) : cum y 1 = 0 := rfl
theorem cum_end (y : Int) : cum y 13 = 365 + lp y := rfl
theorem cum_up (y a : Int) (j : Nat) : 1 ≤ a → a + j ≤ 13 → cum y a ≤ cum y (a + j) := by
  induction j with
  | zero => intro _ _; simp
  | succ j ih =>
    intro h1 h2
    have h3 := ih h1 (by omega)
    have h4 := cum_succ y (a + j) (by omega) (by omega)
    have h5 := dim_le y (a + j)
    rw [show a + ((j + 1 : Nat) : Int) = a + j + 1 by omega]
    omega
theorem cum_bd (y m : Int) (h : 1 ≤ m) (k : m ≤ 13) : 0 ≤ cum y m ∧ cum y m ≤ 366 := by
  have a := cum_up y 1 (m - 1).toNat (by omega) (by omega)
  have b := cum_up y m (13 - m).toNat (by omega) (by omega)
  rw [show (1 : Int) + ((m - 1).toNat : Int) = m by omega, cum_one] at a
  rw [show m + ((13 - m).toNat : Int) = 13 by omega, cum_end] at b
  have := lp_01 y
  omega
/-- The table of the months, from 0 on. -/
def mtab : List Int := [31, 28, 31, 30, 31, 30, 31, 31, 30, 31, 30, 31]
theorem mtab_dim (y m : Int) (h : 1 ≤ m) (k : m ≤ 12) (hn : ¬ (m = 2 ∧ lng y = true)) : mtab[(m - 1).toNat]? = some (dim y m) := by
  rcases cases12 h k with rfl | rfl | rfl | rfl | rfl | rfl | rfl | rfl | rfl | rfl | rfl | rfl <;> simp [mtab, dim]
  have : lng y = false := by simpa using hn
  simp [lp, this]
theorem dim_feb (y : Int) (h : lng y = true) : dim y 2 = 29 := by simp [dim, lp, h]
end Go.Proofs.YtlbodoggfbdnjabGreatDoor.L3

namespace Go.Proofs.YtlbodoggfbdnjabGreatDoor.L3
open Go.Lib
theorem rev_ind {α : Type} {P : List α → Prop} (h0 : P []) (h1 : ∀ t c, P t → P (t ++ [c])) (l : List α) : P l := by
  have : ∀ m : List α, P m.reverse := by
    intro m
    induction m with
    | nil => exact h0
    | cons x t ih => rw [List.reverse_cons]; exact h1 _ _ ih
  simpa using this l.reverse
theorem dropWhile_nil {α : Type} (p : α → Bool) : ∀ l : List α, l.dropWhile p = [] ↔ ∀ x ∈ l, p x = true
  | [] => by simp
  | a :: l => by
    cases h : p a
    · simp [List.dropWhile, h]
    · simp [List.dropWhile, h, dropWhile_nil p l]
theorem dropWhile_head {α : Type} (p : α → Bool) : ∀ (l : List α) (x : α) (t : List α), l.dropWhile p = x :: t → p x = false
  | [], x, t, h => by simp at h
  | a :: l, x, t, h => by
    cases hp : p a
    · simp [List.dropWhile, hp] at h; rw [← h.1]; exact hp
    · simp [List.dropWhile, hp] at h; exact dropWhile_head p l x t h
theorem dropWhile_sub {α : Type} (p : α → Bool) : ∀ (l : List α) (x : α), x ∈ l.dropWhile p → x ∈ l
  | [], x, h => by simp at h
  | a :: l, x, h => by
    cases hp : p a
    · simpa [List.dropWhile, hp] using h
    · simp [List.dropWhile, hp] at h; exact List.mem_cons_of_mem _ (dropWhile_sub p l x h)
def dgt (n : Nat) : UInt8 := UInt8.ofNat (48 + n % 10)
def isD (c : UInt8) : Bool := decide (48 ≤ c.toNat) && decide (c.toNat ≤ 57)
def valL (l : List UInt8) : Nat := l.foldl (fun a c => 10 * a + (c.toNat - 48)) 0
def fix : Nat → Nat → List UInt8
  | 0, _ => []
  | k + 1, m => fix k (m / 10) ++ [dgt m]
def digs : List UInt8 := [48, 49, 50, 51, 52, 53, 54, 55, 56, 57]
theorem dgt_toNat (n : Nat) : (dgt n).toNat = 48 + n % 10 := by
  unfold dgt; simp; omega
theorem isD_dgt (n : Nat) : isD (dgt n) = true := by
  unfold isD; rw [dgt_toNat]; simp; omega
theorem isD_range {c : UInt8} (h : isD c = true) : 48 ≤ c.toNat ∧ c.toNat ≤ 57 := by
  unfold isD at h; simpa using h
theorem dgt_of {c : UInt8} (h : isD c = true) (n : Nat) (hn : n % 10 = c.toNat - 48) : dgt n = c := by
  have := isD_range h
  apply UInt8.toNat_inj.mp
  rw [dgt_toNat]; omega
theorem digs_contains (c : UInt8) : digs.contains c = isD c := by
  have : ∀ n : Fin 256, digs.contains (UInt8.ofNat n.val) = isD (UInt8.ofNat n.val) := by decide +kernel
  have := this ⟨c.toNat, UInt8.toNat_lt c⟩
  simpa using this
theorem valL_nil : valL [] = 0 := rfl
theorem valL_snoc (l : List UInt8) (c : UInt8) : valL (l ++ [c]) = 10 * valL l + (c.toNat - 48) := by
  simp [valL]
theorem foldl_val (l : List UInt8) : ∀ a, l.foldl (fun a c => 10 * a + (c.toNat - 48)) a = a * 10 ^ l.length + valL l := by
  induction l with
  | nil => intro a; simp [valL]
  | cons x t ih =>
    intro a
    have h1 := ih (10 * a + (x.toNat - 48))
    have h2 := ih (10 * 0 + (x.toNat - 48))
    simp only [valL, List.foldl_cons, List.length_cons] at *
    rw [h1, h2, Nat.pow_succ]
    simp only [Nat.mul_zero, Nat.zero_add, Nat.add_mul]
    have : 10 * a * 10 ^ t.length = a * (10 ^ t.length * 10) := by
      rw [Nat.mul_comm 10 a, Nat.mul_assoc, Nat.mul_comm 10]
    omega
theorem valL_append (a b : List UInt8) : valL (a ++ b) = valL a * 10 ^ b.length + valL b := by
  have := foldl_val b (valL a)
  rw [← this]; simp [valL]
theorem valL_cons (x : UInt8) (t : List UInt8) : valL (x :: t) = (x.toNat - 48) * 10 ^ t.length + valL t := by
  have := valL_append [x] t
  simpa [valL] using this
theorem valL_lt (l : List UInt8) (h : l.all isD = true) : valL l < 10 ^ l.length := by
  induction l with
  | nil => simp [valL]
  | cons x t ih =>
    simp only [List.all_cons, Bool.and_eq_true] at h
    have h1 := ih h.2
    have h2 := isD_range h.1
    rw [valL_cons, List.length_cons, Nat.pow_succ]
    have : (x.toNat - 48) * 10 ^ t.length ≤ 9 * 10 ^ t.length := Nat.mul_le_mul_right _ (by omega)
    omega
theorem fix_length (k : Nat) : ∀ m, (fix k m).length = k := by
  induction k with
  | zero => intro m; rfl
  | succ k ih => intro m; simp [fix, ih]
theorem fix_all (k : Nat) : ∀ m, (fix k m).all isD = true := by
  induction k with
  | zero => intro m; rfl
  | succ k ih => intro m; simp only [fix, List.all_append, ih, List.all_cons, List.all_nil, isD_dgt, Bool.and_self]
theorem valL_fix (k : Nat) : ∀ m, valL (fix k m) = m % 10 ^ k := by
  induction k with
  | zero => intro m; simp [fix, valL, Nat.mod_one]
  | succ k ih =>
    intro m
    rw [fix, valL_snoc, ih, dgt_toNat, Nat.pow_succ, Nat.mul_comm (10 ^ k) 10, Nat.mod_mul]
    omega
theorem decDigits_small {u : Nat} (h : u < 10) : decDigits u = [dgt u] := by
  rw [decDigits, dif_pos h]; unfold dgt; rw [Nat.mod_eq_of_lt h]
theorem decDigits_big {u : Nat} (h : ¬ u < 10) : decDigits u = decDigits (u / 10) ++ [dgt u] := by
  rw [decDigits, dif_neg h]; rfl
theorem decDigits_all (u : Nat) : (decDigits u).all isD = true := by
  induction u using Nat.strongRecOn with
  | ind u ih =>
    by_cases h : u < 10
    · rw [decDigits_small h]; simp only [List.all_cons, List.all_nil, isD_dgt, Bool.and_self]
    · rw [decDigits_big h, List.all_append, ih _ (by omega)]; simp only [List.all_cons, List.all_nil, isD_dgt, Bool.and_self]
theorem valL_decDigits (u : Nat) : valL (decDigits u) = u := by
  induction u using Nat.strongRecOn with
  | ind u ih =>
    by_cases h : u < 10
    · rw [decDigits_small h]; simp [valL, dgt_toNat]; omega
    · rw [decDigits_big h, valL_snoc, ih _ (by omega), dgt_toNat]; omega
theorem decDigits_ne (u : Nat) : decDigits u ≠ [] := by
  by_cases h : u < 10
  · rw [decDigits_small h]; simp
  · rw [decDigits_big h]; simp
/-- A number's digits have no nought ahead, but for 0 itself. -/
theorem decDigits_head (u : Nat) : decDigits u = [48] ∨ (decDigits u).head? ≠ some 48 := by
  induction u using Nat.strongRecOn with
  | ind u ih =>
    by_cases h : u < 10
    · rw [decDigits_small h]
      by_cases h0 : u = 0
      · left; subst h0; rfl
      · right
        intro e
        have : dgt u = 48 := by simpa using e
        have := congrArg UInt8.toNat this
        rw [dgt_toNat] at this
        have h48 : (48 : UInt8).toNat = 48 := rfl
        omega
    · rw [decDigits_big h]
      right
      rcases ih (u / 10) (by omega) with k | k
      · have := congrArg valL k
        rw [valL_decDigits] at this
        have : valL [48] = 0 := rfl
        omega
      · rw [List.head?_append]; cases hd : decDigits (u / 10) with
        | nil => exact absurd hd (decDigits_ne _)
        | cons a b => rw [hd] at k; simpa using k
/-- Digits with no nought ahead are those of their number. -/
theorem decDigits_valL (l : List UInt8) (hne : l ≠ []) (h : l.all isD = true) (h0 : l = [48] ∨ l.head? ≠ some 48) : decDigits (valL l) = l := by
  revert hne h h0
  refine rev_ind (P := fun l => l ≠ [] → l.all isD = true → (l = [48] ∨ l.head? ≠ some 48) → decDigits (valL l) = l) ?_ ?_ l
  · intro hne; exact absurd rfl hne
  · intro t c ih hne h h0
    rw [valL_snoc]
    rw [List.all_append, Bool.and_eq_true] at h
    have hc : isD c = true := by simpa using h.2
    have hr := isD_range hc
    cases t with
    | nil =>
      simp only [valL_nil, Nat.mul_zero, Nat.zero_add, List.nil_append]
      rw [decDigits_small (by omega), dgt_of hc _ (by omega)]
    | cons a b =>
      have hh : (a :: b).head? ≠ some 48 := by
        rcases h0 with k | k
        · simp at k
        · simpa using k
      have ih := ih (by simp) h.1 (Or.inr hh)
      have ha : isD a = true := by have := h.1; simp at this; exact this.1
      have hpos : 1 ≤ valL (a :: b) := by
        rw [valL_cons]
        have : 1 ≤ a.toNat - 48 := by
          have := isD_range ha
          have : a.toNat ≠ 48 := fun e => hh (by simp; exact UInt8.toNat_inj.mp e)
          omega
        have : 1 * 1 ≤ (a.toNat - 48) * 10 ^ b.length := Nat.mul_le_mul this (Nat.pos_of_ne_zero (by simp))
        omega
      rw [decDigits_big (by omega), show (10 * valL (a :: b) + (c.toNat - 48)) / 10 = valL (a :: b) by omega, ih, dgt_of hc _ (by omega)]
theorem all_mem {l : List UInt8} (h : l.all isD = true) {c : UInt8} (hc : c ∈ l) : isD c = true := List.all_eq_true.mp h c hc
end Go.Proofs.YtlbodoggfbdnjabGreatDoor.L3

namespace Go.Proofs.YtlbodoggfbdnjabGreatDoor.L3
open Go.Lib
set_option linter.unusedVariables false
/-- What Number answers. -/
def numA (y m d : Int) : Int := if vldB y m d = true then num y m d else 0
def numE (y m d : Int) : Int := if vldB y m d = true then 0 else 5
theorem numA_ok (y m d : Int) (h : Vld y m d) : numA y m d = num y m d ∧ numE y m d = 0 := by
  unfold numA numE; simp [(vldB_iff y m d).2 h]
theorem numA_no (y m d : Int) (h : ¬ Vld y m d) : numA y m d = 0 ∧ numE y m d = 5 := by
  unfold numA numE; simp [mt (vldB_iff y m d).1 h]
/-- Is it a digit, or a hyphen, where one stands? -/
def okAt (l : List UInt8) (i : Nat) : Bool := if i = 4 ∨ i = 7 then l.getD i 0 == 45 else isD (l.getD i 0)
def formL (l : List UInt8) : Bool := decide (l.length = 10) && (List.range 10).all (okAt l)
def pY (l : List UInt8) : Int := (valL (l.take 4) : Nat)
def pM (l : List UInt8) : Int := (valL ((l.drop 5).take 2) : Nat)
def pD (l : List UInt8) : Int := (valL (l.drop 8) : Nat)
/-- What Take answers. -/
def takA (l : List UInt8) : Int := if formL l = true then numA (pY l) (pM l) (pD l) else 0
def takE (l : List UInt8) : Int := if formL l = true then numE (pY l) (pM l) (pD l) else 4
theorem ten {l : List UInt8} (h : l.length = 10) : ∃ c0 c1 c2 c3 c4 c5 c6 c7 c8 c9, l = [c0, c1, c2, c3, c4, c5, c6, c7, c8, c9] := by
  match l, h with
  | [c0, c1, c2, c3, c4, c5, c6, c7, c8, c9], _ => exact ⟨c0, c1, c2, c3, c4, c5, c6, c7, c8, c9, rfl⟩
/-- The form, byte by byte. -/
structure Form (c0 c1 c2 c3 c4 c5 c6 c7 c8 c9 : UInt8) : Prop where
  d0 : isD c0 = true
  d1 : isD c1 = true
  d2 : isD c2 = true
  d3 : isD c3 = true
  h4 : c4 = 45
  d5 : isD c5 = true
  d6 : isD c6 = true
  h7 : c7 = 45
  d8 : isD c8 = true
  d9 : isD c9 = true
theorem form_iff (c0 c1 c2 c3 c4 c5 c6 c7 c8 c9 : UInt8) : formL [c0, c1, c2, c3, c4, c5, c6, c7, c8, c9] = true ↔ Form c0 c1 c2 c3 c4 c5 c6 c7 c8 c9 := by
  have : (List.range 10) = [0, 1, 2, 3, 4, 5, 6, 7, 8, 9] := by decide
  unfold formL
  rw [this]
  simp only [List.length_cons, List.length_nil, List.all_cons, List.all_nil, Bool.and_eq_true, decide_eq_true_eq, okAt]
  simp
  exact ⟨fun ⟨a0, a1, a2, a3, a4, a5, a6, a7, a8, a9⟩ => ⟨a0, a1, a2, a3, a4, a5, a6, a7, a8, a9⟩, fun h => ⟨h.d0, h.d1, h.d2, h.d3, h.h4, h.d5, h.d6, h.h7, h.d8, h.d9⟩⟩
theorem form_not (l : List UInt8) (h : l.length ≠ 10) : formL l = false := by unfold formL; simp [h]
theorem tak_not (l : List UInt8) (h : formL l = false) : takA l = 0 ∧ takE l = 4 := by unfold takA takE; simp [h]
theorem tak_form (l : List UInt8) (h : formL l = true) : takA l = numA (pY l) (pM l) (pD l) ∧ takE l = numE (pY l) (pM l) (pD l) := by unfold takA takE; simp [h]
theorem atoi_digits (l : List UInt8) (hne : l ≠ []) (h : l.all isD = true) : Lib.atoi l = some (valL l : Int) := by
  have key : ∀ (l : List UInt8) (acc : Nat), l.all isD = true → decFrom acc l = some (acc * 10 ^ l.length + valL l) := by
    intro l
    induction l with
    | nil => intro acc _; simp [decFrom, valL]
    | cons c t ih =>
      intro acc h
      have hc : isD c = true := by simp at h; exact h.1
      have ht : t.all isD = true := by simp at h; simpa using h.2
      obtain ⟨r1, r2⟩ := isD_range hc
      have hd : digitVal c = some (c.toNat - 48) := by unfold digitVal; rw [if_pos ⟨r1, r2⟩]
      simp only [decFrom, hd]
      rw [ih _ ht, valL_cons]
      congr 1
      rw [List.length_cons, Nat.pow_succ, Nat.add_mul, Nat.mul_assoc, Nat.mul_comm 10]
      omega
  cases l with
  | nil => exact absurd rfl hne
  | cons c t =>
    have hc : isD c = true := by simp at h; exact h.1
    obtain ⟨r1, r2⟩ := isD_range hc
    have n1 : (c == 45) = false := by
      rw [beq_eq_false_iff_ne]; intro e; subst e; exact absurd r1 (by decide)
    have n2 : (c == 43) = false := by
      rw [beq_eq_false_iff_ne]; intro e; subst e; exact absurd r1 (by decide)
    simp only [Lib.atoi, n1, n2, decNat, List.isEmpty_cons]
    rw [key _ _ h]
    simp
end Go.Proofs.YtlbodoggfbdnjabGreatDoor.L3

namespace Go.Proofs.YtlbodoggfbdnjabGreatDoor.L3
open Go.RowKit Go.Lib
set_option linter.unusedVariables false
/-- What the walks ask of the listed variables: the months' table, and the library's powers of ten. -/
structure Env (w : World) : Prop where
  mon : ∀ (i : Nat) (v : Int), mtab[i]? = some v → w.cell? ⟨1, i, none⟩ = some (.int .i64 v)
  pow : Lib.TabIs Tryz.prog w "internal/strconv.uint64pow10" .u64 Lib.pow10Tab
theorem Env.ext {w w' : World} (h : Env w) (hx : Ext w w') : Env w' := by
  obtain ⟨hm, ht⟩ := h
  refine ⟨fun i v hi => ?_, ?_⟩
  · have := hm i v hi
    rw [hx.cell _ _ (lt_of_cell this)]; exact this
  · unfold Lib.TabIs World.var? at *
    cases hg : Tryz.prog.globalNamed "internal/strconv.uint64pow10" with
    | none => simp [hg] at ht
    | some g =>
      simp only [hg, Option.bind_some] at ht ⊢
      have hlt : g < w.heap.size := by
        rcases Nat.lt_or_ge g w.heap.size with h' | h'
        · exact h'
        · rw [Array.getElem?_eq_none h'] at ht; simp at ht
      rw [hx.below.block g hlt]
      exact ht
def I64 (n : Int) : Prop := -9223372036854775808 ≤ n ∧ n ≤ 9223372036854775807
theorem tmod_zero (a b : Int) : a.tmod b = 0 ↔ a % b = 0 := by
  rw [← Int.dvd_iff_tmod_eq_zero, ← Int.dvd_iff_emod_eq_zero]
theorem ret_bool {a b : Bool} (h : a = b) : Ending.returned (.bool a) = .returned (.bool b) := by rw [h]
theorem ret_int {k : IntKind} {a b : Int} (h : a = b) : Ending.returned (.int k a) = .returned (.int k b) := by rw [h]
theorem long_c (y : Int) (w : World) :
    Calls Tryz.prog 178 #[.int .i64 y] w fun e w' => e = .returned (.bool (lng y)) ∧ w' = w := by
  have e4 := tmod_zero y 4; have e100 := tmod_zero y 100; have e400 := tmod_zero y 400
  replace e4 := show Hid _ from e4; replace e100 := show Hid _ from e100; replace e400 := show Hid _ from e400
  by_cases h4 : y.tmod 4 = 0
  · by_cases h100 : y.tmod 100 = 0
    · by_cases h400 : y.tmod 400 = 0
      · have hl : lng y = true := lng_of y (e4.out.1 h4) (Or.inr (e400.out.1 h400))
        rw [hl]
        clear hl
        go_enter Tryz.func178, Tryz.ntmps178
        go_wp2
        go_ret
        exact ⟨rfl, rfl⟩
      · have hl : lng y = false := lng_not y (fun k => by have := e100.out.1 h100; have := mt e400.out.2 h400; omega)
        rw [hl]
        clear hl
        go_enter Tryz.func178, Tryz.ntmps178
        go_wp2
        go_ret
        exact ⟨ret_bool (by simp [h400]), rfl⟩
    · have hl : lng y = true := lng_of y (e4.out.1 h4) (Or.inl (mt e100.out.2 h100))
      rw [hl]
      clear hl
      go_enter Tryz.func178, Tryz.ntmps178
      go_wp2
      go_ret
      exact ⟨rfl, rfl⟩
  · have hl : lng y = false := lng_not y (fun k => h4 (e4.out.2 k.1))
    rw [hl]
    clear hl
    go_enter Tryz.func178, Tryz.ntmps178
    go_wp2
    go_ret
    exact ⟨rfl, rfl⟩
theorem month_c (y m : Int) (w : World) (hm : I64 m) (he : Hid (Env w)) :
    Calls Tryz.prog 144 #[.int .i64 y, .int .i64 m] w fun e w' => e = .returned (.int .i64 (dim y m)) ∧ w' = w := by
  obtain ⟨m1, m2⟩ := hm
  by_cases h1 : m < 1
  · rw [dim_out y m (Or.inl h1)]
    go_enter Tryz.func144, Tryz.ntmps144
    go_wp2
    go_ret
    exact ⟨rfl, rfl⟩
  · by_cases h2 : 12 < m
    · rw [dim_out y m (Or.inr h2)]
      go_enter Tryz.func144, Tryz.ntmps144
      go_wp2
      go_ret
      exact ⟨rfl, rfl⟩
    · by_cases h3 : m = 2
      · subst h3
        cases hl : lng y
        · have hc := he.out.mon 1 28 rfl
          rw [show dim y 2 = 28 by simp [dim, lp, hl]]
          go_enter Tryz.func144, Tryz.ntmps144
          go_wp2_with (go_at_call 178; refine (long_c _ _).mono ?_; rintro e w' ⟨rfl, rfl⟩; rw [hl])
          go_ret
          exact ⟨rfl, rfl⟩
        · have hc := he.out.mon 1 28 rfl
          rw [dim_feb y hl]
          go_enter Tryz.func144, Tryz.ntmps144
          go_wp2_with (go_at_call 178; refine (long_c _ _).mono ?_; rintro e w' ⟨rfl, rfl⟩; rw [hl])
          go_ret
          exact ⟨rfl, rfl⟩
      · have hc := he.out.mon _ _ (mtab_dim y m (by omega) (by omega) (fun k => h3 k.1))
        rw [show (m - 1).toNat = m.toNat - 1 by omega] at hc
        generalize dim y m = v at hc ⊢
        go_enter Tryz.func144, Tryz.ntmps144
        go_wp2
        go_ret
        exact ⟨rfl, rfl⟩
end Go.Proofs.YtlbodoggfbdnjabGreatDoor.L3

namespace Go.Proofs.YtlbodoggfbdnjabGreatDoor.L3
open Go.RowKit Go.Lib
set_option linter.unusedVariables false
theorem longAhead_c (y : Int) (w : World) (h1 : 1900 ≤ y) (h2 : y ≤ 2201) :
    Calls Tryz.prog 179 #[.int .i64 y] w fun e w' => e = .returned (.int .i64 (la y)) ∧ w' = w := by
  unfold la
  go_enter Tryz.func179, Tryz.ntmps179
  go_wp2
  go_ret
  exact ⟨rfl, rfl⟩
theorem start_c (y : Int) (w : World) (h1 : 1900 ≤ y) (h2 : y ≤ 2201) :
    Calls Tryz.prog 145 #[.int .i64 y] w fun e w' => e = .returned (.int .i64 (st y)) ∧ w' = w := by
  obtain ⟨b1, b2⟩ := la_bd y h1 h2
  have hl : la 1970 = 477 := by decide
  unfold st
  go_enter Tryz.func145, Tryz.ntmps145
  go_wp2_with (go_at_call 179; refine (longAhead_c _ _ (by omega) (by omega)).mono ?_; rintro e w' ⟨rfl, rfl⟩)
  go_ret
  exact ⟨ret_int (by omega), rfl⟩
theorem known_c (y : Int) (w : World) :
    Calls Tryz.prog 143 #[.int .i64 y] w fun e w' => e = .returned (.bool (decide (1900 ≤ y ∧ y ≤ 2200))) ∧ w' = w := by
  by_cases h1 : 1900 ≤ y
  · by_cases h2 : y ≤ 2200
    · rw [decide_eq_true (show 1900 ≤ y ∧ y ≤ 2200 from ⟨h1, h2⟩)]
      go_enter Tryz.func143, Tryz.ntmps143
      go_wp2
      go_ret
      exact ⟨rfl, rfl⟩
    · rw [decide_eq_false (show ¬ (1900 ≤ y ∧ y ≤ 2200) from fun k => h2 k.2)]
      go_enter Tryz.func143, Tryz.ntmps143
      go_wp2
      go_ret
      exact ⟨rfl, rfl⟩
  · rw [decide_eq_false (show ¬ (1900 ≤ y ∧ y ≤ 2200) from fun k => h1 k.1)]
    go_enter Tryz.func143, Tryz.ntmps143
    go_wp2
    go_ret
    exact ⟨rfl, rfl⟩
/-- y.month as a value. -/
theorem ahead_c (y m : Int) (w : World) (h1 : 1 ≤ m) (h2 : m ≤ 12) (he : Hid (Env w)) :
    Calls Tryz.prog 146 #[.int .i64 m, .func (.func 144) #[.int .i64 y] #[]] w fun e w' => e = .returned (.int .i64 (cum y m)) ∧ w' = w := by
  go_enter Tryz.func146, Tryz.ntmps146
  go_wp2
  go_loop [5, 6] (fun s k => ∃ j : Int, 1 ≤ j ∧ j ≤ m ∧ k = .int .i64 j ∧ s = .int .i64 (cum y j)) (fun _ k => (m - RowKit.intOf k).toNat)
  case atStart => exact ⟨1, by omega, by omega, rfl, rfl⟩
  case round =>
    obtain ⟨j, j1, j2, rfl, rfl⟩ := hrel
    have cb := cum_bd y j j1 (by omega)
    obtain ⟨c1, c2⟩ := cb
    have db := dim_bd y j j1 (by omega)
    obtain ⟨d1, d2⟩ := db
    have cs := cum_succ y j j1 (by omega)
    replace cs := show Hid _ from cs
    by_cases hj : j < m
    · go_wp2_with (go_at_call 144; refine (month_c _ _ _ (by unfold I64; omega) he).mono ?_; rintro e w' ⟨rfl, rfl⟩)
      go_round
      case rel => exact ⟨j + 1, by omega, by omega, by go_num, by rw [cs.out]⟩
      case measure => simp [RowKit.intOf]; omega
    · obtain rfl : j = m := by omega
      go_wp2
      go_ret
      exact ⟨rfl, rfl⟩
end Go.Proofs.YtlbodoggfbdnjabGreatDoor.L3

namespace Go.Proofs.YtlbodoggfbdnjabGreatDoor.L3
open Go.RowKit Go.Lib
set_option linter.unusedVariables false
theorem known_t (y : Int) (w : World) (h1 : 1900 ≤ y) (h2 : y ≤ 2200) :
    Calls Tryz.prog 143 #[.int .i64 y] w fun e w' => e = .returned (.bool true) ∧ w' = w := by
  have := known_c y w
  rwa [decide_eq_true (show 1900 ≤ y ∧ y ≤ 2200 from ⟨h1, h2⟩)] at this
theorem known_f (y : Int) (w : World) (h : ¬ (1900 ≤ y ∧ y ≤ 2200)) :
    Calls Tryz.prog 143 #[.int .i64 y] w fun e w' => e = .returned (.bool false) ∧ w' = w := by
  have := known_c y w
  rwa [decide_eq_false h] at this
set_option maxHeartbeats 1000000 in
theorem Number_ok (y m d : Int) (w : World) (hv : Vld y m d) (he : Hid (Env w)) :
    Calls Tryz.prog 115 #[.agg #[.int .i64 y, .int .i64 m, .int .i64 d]] w fun e w' => e = .returned (.tuple #[.int .i64 (num y m d), .int .i64 0]) ∧ Ext w w' := by
  have y1 := hv.y1; have y2 := hv.y2; have d1 := hv.d1; have d2 := hv.d2; have m1 := hv.m1; have m2 := hv.m2
  have hm : I64 m := by unfold I64; omega
  replace hm := show Hid _ from hm
  have sb := st_bd y y1 (by omega)
  obtain ⟨s1, s2⟩ := sb
  have cb := cum_bd y m m1 (by omega)
  obtain ⟨c1, c2⟩ := cb
  have d31 := hv.d31
  have hn : num y m d = st y + cum y m + d - 1 := rfl
  rw [hn]
  have e1 : decide (d < 1) = false := decide_eq_false (by omega)
  have e2 : decide (dim y m < d) = false := decide_eq_false (by omega)
  clear hn hv
  go_enter Tryz.func115, Tryz.ntmps115
  go_wp2
  obtain ⟨W0, b, hW0, hb, hx0, k0, k1, k2⟩ := box3 w (.int .i64 y) (.int .i64 m) (.int .i64 d) 134
  rw [hW0, hb]
  clear hW0 hb
  replace hx0 := show Hid _ from hx0
  replace he : Hid (Env W0) := he.out.ext hx0.out
  have j0 := Late.cell k0; have j1 := Late.cell k1; have j2 := Late.cell k2
  have hE : Hid (∀ s : Late W0, Hid (Env s.to)) := fun s => he.out.ext s.ext
  have hNe1 : Nonempty (Late W0) := ⟨⟨_, Ext.refl _⟩⟩
  refine wp_region_late (by kernel_rfl) (by kernel_rfl) ?_
  repeat (go_big_quiet_step ((first
    | (go_at_call 143; exact late_same (known_t _ _ y1 y2))
    | (go_at_call 144; exact late_same (month_c _ _ _ hm.out (hE.out _))))))
  refine wpQuiet_nil ?_
  intro W1 hw'
  have hx1 := late_ext hw'
  clear hw'
  clear j0 j1 j2 hE
  replace k0 := hx1.cell_of k0; replace k1 := hx1.cell_of k1; replace k2 := hx1.cell_of k2
  replace he : Hid (Env W1) := he.out.ext hx1
  replace hx0 : Hid (Ext w W1) := hx0.out.trans hx1
  clear hx1
  go_wp2
  have j0 := Late.cell k0; have j1 := Late.cell k1; have j2 := Late.cell k2
  have hE : Hid (∀ s : Late W1, Hid (Env s.to)) := fun s => he.out.ext s.ext
  have hNe2 : Nonempty (Late W1) := ⟨⟨_, Ext.refl _⟩⟩
  refine wp_region_late (by kernel_rfl) (by kernel_rfl) ?_
  repeat (go_big_quiet_step ((first
    | (go_at_call 145; exact late_same (start_c _ _ y1 (by omega)))
    | (go_at_call 146; exact late_same (ahead_c _ _ _ m1 m2 (hE.out _))))))
  refine wpQuiet_nil ?_
  intro W2 hw'
  have hx2 := late_ext hw'
  clear hw'

  go_wp2
  go_ret2
  exact ⟨rfl, hx0.out.trans hx2⟩
set_option maxHeartbeats 1000000 in
theorem Number_a (y m d : Int) (w : World) (h : ¬ (1900 ≤ y ∧ y ≤ 2200)) (hm : Hid (I64 m)) (he : Hid (Env w)) :
    Calls Tryz.prog 115 #[.agg #[.int .i64 y, .int .i64 m, .int .i64 d]] w fun e w' => e = .returned (.tuple #[.int .i64 0, .int .i64 5]) ∧ Ext w w' := by
  replace h := show Hid _ from h
  go_enter Tryz.func115, Tryz.ntmps115
  go_wp2
  obtain ⟨W0, b, hW0, hb, hx0, k0, k1, k2⟩ := box3 w (.int .i64 y) (.int .i64 m) (.int .i64 d) 134
  rw [hW0, hb]
  clear hW0 hb
  replace hx0 := show Hid _ from hx0
  replace he : Hid (Env W0) := he.out.ext hx0.out
  have j0 := Late.cell k0; have j1 := Late.cell k1; have j2 := Late.cell k2
  have hE : Hid (∀ s : Late W0, Hid (Env s.to)) := fun s => he.out.ext s.ext
  have hNe1 : Nonempty (Late W0) := ⟨⟨_, Ext.refl _⟩⟩
  refine wp_region_late (by kernel_rfl) (by kernel_rfl) ?_
  repeat (go_big_quiet_step ((first
    | (go_at_call 143; exact late_same (known_f _ _ h.out))
    | (go_at_call 144; exact late_same (month_c _ _ _ hm.out (hE.out _))))))
  refine wpQuiet_nil ?_
  intro W1 hw'
  have hx1 := late_ext hw'
  clear hw'
  go_wp2
  go_ret2
  exact ⟨rfl, hx0.out.trans hx1⟩
set_option maxHeartbeats 1000000 in
theorem Number_b (y m d : Int) (w : World) (y1 : 1900 ≤ y) (y2 : y ≤ 2200) (h : d < 1) (hm : Hid (I64 m)) (he : Hid (Env w)) :
    Calls Tryz.prog 115 #[.agg #[.int .i64 y, .int .i64 m, .int .i64 d]] w fun e w' => e = .returned (.tuple #[.int .i64 0, .int .i64 5]) ∧ Ext w w' := by
  have e1 : decide (d < 1) = true := decide_eq_true h
  go_enter Tryz.func115, Tryz.ntmps115
  go_wp2
  obtain ⟨W0, b, hW0, hb, hx0, k0, k1, k2⟩ := box3 w (.int .i64 y) (.int .i64 m) (.int .i64 d) 134
  rw [hW0, hb]
  clear hW0 hb
  replace hx0 := show Hid _ from hx0
  replace he : Hid (Env W0) := he.out.ext hx0.out
  have j0 := Late.cell k0; have j1 := Late.cell k1; have j2 := Late.cell k2
  have hE : Hid (∀ s : Late W0, Hid (Env s.to)) := fun s => he.out.ext s.ext
  have hNe1 : Nonempty (Late W0) := ⟨⟨_, Ext.refl _⟩⟩
  refine wp_region_late (by kernel_rfl) (by kernel_rfl) ?_
  repeat (go_big_quiet_step ((first
    | (go_at_call 143; exact late_same (known_t _ _ y1 y2))
    | (go_at_call 144; exact late_same (month_c _ _ _ hm.out (hE.out _))))))
  refine wpQuiet_nil ?_
  intro W1 hw'
  have hx1 := late_ext hw'
  clear hw'
  go_wp2
  go_ret2
  exact ⟨rfl, hx0.out.trans hx1⟩
set_option maxHeartbeats 1000000 in
theorem Number_d (y m d : Int) (w : World) (y1 : 1900 ≤ y) (y2 : y ≤ 2200) (h1 : ¬ d < 1) (h : dim y m < d) (hm : Hid (I64 m)) (he : Hid (Env w)) :
    Calls Tryz.prog 115 #[.agg #[.int .i64 y, .int .i64 m, .int .i64 d]] w fun e w' => e = .returned (.tuple #[.int .i64 0, .int .i64 5]) ∧ Ext w w' := by
  have e1 : decide (d < 1) = false := decide_eq_false h1
  have e2 : decide (dim y m < d) = true := decide_eq_true h
  go_enter Tryz.func115, Tryz.ntmps115
  go_wp2
  obtain ⟨W0, b, hW0, hb, hx0, k0, k1, k2⟩ := box3 w (.int .i64 y) (.int .i64 m) (.int .i64 d) 134
  rw [hW0, hb]
  clear hW0 hb
  replace hx0 := show Hid _ from hx0
  replace he : Hid (Env W0) := he.out.ext hx0.out
  have j0 := Late.cell k0; have j1 := Late.cell k1; have j2 := Late.cell k2
  have hE : Hid (∀ s : Late W0, Hid (Env s.to)) := fun s => he.out.ext s.ext
  have hNe1 : Nonempty (Late W0) := ⟨⟨_, Ext.refl _⟩⟩
  refine wp_region_late (by kernel_rfl) (by kernel_rfl) ?_
  repeat (go_big_quiet_step ((first
    | (go_at_call 143; exact late_same (known_t _ _ y1 y2))
    | (go_at_call 144; exact late_same (month_c _ _ _ hm.out (hE.out _))))))
  refine wpQuiet_nil ?_
  intro W1 hw'
  have hx1 := late_ext hw'
  clear hw'
  go_wp2
  go_ret2
  exact ⟨rfl, hx0.out.trans hx1⟩
theorem Number_no (y m d : Int) (w : World) (hv : ¬ Vld y m d) (hm : I64 m) (he : Hid (Env w)) :
    Calls Tryz.prog 115 #[.agg #[.int .i64 y, .int .i64 m, .int .i64 d]] w fun e w' => e = .returned (.tuple #[.int .i64 0, .int .i64 5]) ∧ Ext w w' := by
  by_cases h : 1900 ≤ y ∧ y ≤ 2200
  · by_cases h1 : d < 1
    · exact Number_b y m d w h.1 h.2 h1 hm he
    · by_cases h2 : dim y m < d
      · exact Number_d y m d w h.1 h.2 h1 h2 hm he
      · exact absurd ⟨h.1, h.2, by omega, by omega⟩ hv
  · exact Number_a y m d w h hm he
theorem Number_c (y m d : Int) (w : World) (hm : I64 m) (he : Hid (Env w)) :
    Calls Tryz.prog 115 #[.agg #[.int .i64 y, .int .i64 m, .int .i64 d]] w fun e w' => e = .returned (.tuple #[.int .i64 (numA y m d), .int .i64 (numE y m d)]) ∧ Ext w w' := by
  by_cases h : Vld y m d
  · rw [(numA_ok y m d h).1, (numA_ok y m d h).2]; exact Number_ok y m d w h he
  · rw [(numA_no y m d h).1, (numA_no y m d h).2]; exact Number_no y m d w h hm he
end Go.Proofs.YtlbodoggfbdnjabGreatDoor.L3

namespace Go.Proofs.YtlbodoggfbdnjabGreatDoor.L3
open Go.RowKit Go.Lib
set_option linter.unusedVariables false
end Go.Proofs.YtlbodoggfbdnjabGreatDoor.L3

namespace Go.Proofs.YtlbodoggfbdnjabGreatDoor.L3
open Go.RowKit Go.Lib
set_option linter.unusedVariables false
/-- The result's cells and those of the date that is sought. -/
structure Dst (w wr : World) (r b : Nat) (y m d : Int) : Prop where
  ext : Ext w wr
  lo : w.heap.size ≤ r
  ne : r < b
  r0 : wr.cell? ⟨r, 0, none⟩ = some (.int .i64 0)
  r1 : wr.cell? ⟨r, 1, none⟩ = some (.int .i64 0)
  r2 : wr.cell? ⟨r, 2, none⟩ = some (.int .i64 0)
  b0 : wr.cell? ⟨b, 0, none⟩ = some (.int .i64 y)
  b1 : wr.cell? ⟨b, 1, none⟩ = some (.int .i64 m)
  b2 : wr.cell? ⟨b, 2, none⟩ = some (.int .i64 d)
  f0 : wr.frozen? ⟨r, 0, none⟩ = false
  f1 : wr.frozen? ⟨r, 1, none⟩ = false
  f2 : wr.frozen? ⟨r, 2, none⟩ = false
  g0 : wr.frozen? ⟨b, 0, none⟩ = false
  g1 : wr.frozen? ⟨b, 1, none⟩ = false
  g2 : wr.frozen? ⟨b, 2, none⟩ = false
theorem Dst.start (w : World) (y m : Int) (t : TypeId) :
    ∃ W r b, (w.alloc (.cells #[.int .i64 0, .int .i64 0, .int .i64 0] t)).alloc (.cells #[.int .i64 y, .int .i64 m, .int .i64 0] t) = W ∧ w.heap.size = r ∧ r + 1 = b ∧ Dst w W r b y m 0 :=
  ⟨_, _, _, rfl, rfl, rfl, ((Ext.refl w).alloc _ _).alloc _ _, Nat.le_refl _, by omega, by simp [go_sem], by simp [go_sem], by simp [go_sem], by simp [go_sem], by simp [go_sem], by simp [go_sem],
    by simp [go_sem], by simp [go_sem], by simp [go_sem], by simp [go_sem], by simp [go_sem], by simp [go_sem]⟩
theorem other {w : World} {b o b' o' : Nat} (x : Value) (h : b ≠ b' ∨ o ≠ o') : (w.setCell ⟨b, o, none⟩ x).cell? ⟨b', o', none⟩ = w.cell? ⟨b', o', none⟩ :=
  by
    apply World.cell?_setCell_other
    intro e
    injection e with e1 e2
    omega
theorem same {w : World} {a : Addr} {v u : Value} (h : w.cell? a = some u) : (w.setCell a v).cell? a = some v := by
  apply World.cell?_setCell_same
  exact h
theorem Dst.year {w wr : World} {r b : Nat} {y m d : Int} (h : Dst w wr r b y m d) (z : Int) : Dst w (wr.setCell ⟨b, 0, none⟩ (.int .i64 z)) r b z m d := by
  have := h.ne; have := h.lo
  exact ⟨h.ext.setCell (show w.heap.size ≤ b by omega) _, h.lo, h.ne, by rw [other _ (by omega)]; exact h.r0, by rw [other _ (by omega)]; exact h.r1, by rw [other _ (by omega)]; exact h.r2,
    same h.b0, by rw [other _ (by omega)]; exact h.b1, by rw [other _ (by omega)]; exact h.b2,
    by simpa using h.f0, by simpa using h.f1, by simpa using h.f2, by simpa using h.g0, by simpa using h.g1, by simpa using h.g2⟩
theorem Dst.month {w wr : World} {r b : Nat} {y m d : Int} (h : Dst w wr r b y m d) (z : Int) : Dst w (wr.setCell ⟨b, 1, none⟩ (.int .i64 z)) r b y z d := by
  have := h.ne; have := h.lo
  exact ⟨h.ext.setCell (show w.heap.size ≤ b by omega) _, h.lo, h.ne, by rw [other _ (by omega)]; exact h.r0, by rw [other _ (by omega)]; exact h.r1, by rw [other _ (by omega)]; exact h.r2,
    by rw [other _ (by omega)]; exact h.b0, same h.b1, by rw [other _ (by omega)]; exact h.b2,
    by simpa using h.f0, by simpa using h.f1, by simpa using h.f2, by simpa using h.g0, by simpa using h.g1, by simpa using h.g2⟩
theorem Dst.day {w wr : World} {r b : Nat} {y m d : Int} (h : Dst w wr r b y m d) (z : Int) : Dst w (wr.setCell ⟨b, 2, none⟩ (.int .i64 z)) r b y m z := by
  have := h.ne; have := h.lo
  exact ⟨h.ext.setCell (show w.heap.size ≤ b by omega) _, h.lo, h.ne, by rw [other _ (by omega)]; exact h.r0, by rw [other _ (by omega)]; exact h.r1, by rw [other _ (by omega)]; exact h.r2,
    by rw [other _ (by omega)]; exact h.b0, by rw [other _ (by omega)]; exact h.b1, same h.b2,
    by simpa using h.f0, by simpa using h.f1, by simpa using h.f2, by simpa using h.g0, by simpa using h.g1, by simpa using h.g2⟩
theorem Dst.done {w wr : World} {r b : Nat} {y m d : Int} (h : Dst w wr r b y m d) (z : Int) :
    ∃ W, (((wr.setCell ⟨b, 2, none⟩ (.int .i64 z)).setCell ⟨r, 0, none⟩ (.int .i64 y)).setCell ⟨r, 1, none⟩ (.int .i64 m)).setCell ⟨r, 2, none⟩ (.int .i64 z) = W ∧
      W.cell? ⟨r, 0, none⟩ = some (.int .i64 y) ∧ W.cell? ⟨r, 1, none⟩ = some (.int .i64 m) ∧ W.cell? ⟨r, 2, none⟩ = some (.int .i64 z) ∧ Ext w W := by
  have k := h.day z
  have := h.ne; have := h.lo
  refine ⟨_, rfl, ?_, ?_, ?_, ?_⟩
  · rw [other _ (by omega), other _ (by omega)]; exact same k.r0
  · rw [other _ (by omega)]; exact same (by rw [other _ (by omega)]; exact k.r1)
  · exact same (by rw [other _ (by omega), other _ (by omega)]; exact k.r2)
  · exact ((k.ext.setCell (show w.heap.size ≤ r from h.lo) _).setCell (show w.heap.size ≤ r from h.lo) _).setCell (show w.heap.size ≤ r from h.lo) _
end Go.Proofs.YtlbodoggfbdnjabGreatDoor.L3

namespace Go.Proofs.YtlbodoggfbdnjabGreatDoor.L3
open Go.RowKit Go.Lib
set_option linter.unusedVariables false
@[go_sem] theorem app_mk (a b : List UInt8) : (⟨a.toArray⟩ : ByteArray) ++ (⟨b.toArray⟩ : ByteArray) = ⟨(a ++ b).toArray⟩ := by
  apply ByteArray.ext
  simp
theorem digit_t (c : UInt8) (w : World) (h : isD c = true) :
    Calls Tryz.prog 142 #[.int .u8 (c.toNat : Int)] w fun e w' => e = .returned (.bool true) ∧ w' = w := by
  obtain ⟨h1, h2⟩ := isD_range h
  have k1 : (48 : Int) ≤ (c.toNat : Int) := by omega
  have k2 : (c.toNat : Int) ≤ 57 := by omega
  clear h h1 h2
  generalize (c.toNat : Int) = x at *
  go_enter Tryz.func142, Tryz.ntmps142
  go_wp2
  go_ret
  exact ⟨rfl, rfl⟩
theorem digit_f (c : UInt8) (w : World) (h : isD c = false) :
    Calls Tryz.prog 142 #[.int .u8 (c.toNat : Int)] w fun e w' => e = .returned (.bool false) ∧ w' = w := by
  by_cases k1 : (48 : Int) ≤ (c.toNat : Int)
  · have k2 : ¬ (c.toNat : Int) ≤ 57 := fun k2 => by
      have : isD c = true := by unfold isD; simp; omega
      rw [this] at h; cases h
    clear h
    generalize (c.toNat : Int) = x at *
    go_enter Tryz.func142, Tryz.ntmps142
    go_wp2
    go_ret
    exact ⟨rfl, rfl⟩
  · clear h
    generalize (c.toNat : Int) = x at *
    go_enter Tryz.func142, Tryz.ntmps142
    go_wp2
    go_ret
    exact ⟨rfl, rfl⟩
theorem number_c (l : List UInt8) (w : World) (hne : l ≠ []) (h : l.all isD = true) (hl : l.length ≤ 18) :
    Calls Tryz.prog 116 #[.string ⟨l.toArray⟩] w fun e w' => e = .returned (.int .i64 (valL l : Nat)) ∧ Ext w w' := by
  have ha := show Hid _ from atoi_digits l hne h
  go_enter Tryz.func116, Tryz.ntmps116
  go_wp2_with fail
  refine (Tryz.strconv_Atoi ⟨l.toArray⟩ _ (by rw [Lib.size_mk]; exact hl) ha.out _).mono ?_
  rintro e w1 ⟨rfl, t, rfl⟩
  have hx : Hid (Ext w (Lib.bytesWorld w 5 t)) := ⟨Lib.bytesWorld_below w 5 t⟩
  generalize Lib.bytesWorld w 5 t = w1 at *
  go_wp2
  go_ret
  exact ⟨rfl, hx.out⟩
theorem formed_no (l : List UInt8) (w : World) (h : l.length ≠ 10) (hl : l.length ≤ 1000000) :
    Calls Tryz.prog 114 #[.string ⟨l.toArray⟩] w fun e w' => e = .returned (.bool false) ∧ w' = w := by
  have k : ¬ (l.length : Int) = 10 := by omega
  go_enter Tryz.func114, Tryz.ntmps114
  go_wp2
  go_ret
  exact ⟨rfl, rfl⟩
set_option maxHeartbeats 4000000 in
theorem formed_c (c0 c1 c2 c3 c4 c5 c6 c7 c8 c9 : UInt8) (w : World) :
    Calls Tryz.prog 114 #[.string ⟨#[c0, c1, c2, c3, c4, c5, c6, c7, c8, c9]⟩] w fun e w' => e = .returned (.bool (formL [c0, c1, c2, c3, c4, c5, c6, c7, c8, c9])) ∧ w' = w := by
  have hfi := show Hid _ from form_iff c0 c1 c2 c3 c4 c5 c6 c7 c8 c9
  generalize formL [c0, c1, c2, c3, c4, c5, c6, c7, c8, c9] = B at *
  go_enter Tryz.func114, Tryz.ntmps114
  go_wp2
  go_loop [7] (fun t => ∃ k : Nat, k ≤ 10 ∧ t = .int .i64 (k : Int) ∧ Hid (∀ j, j < k → okAt [c0, c1, c2, c3, c4, c5, c6, c7, c8, c9] j = true)) (fun t => (10 - RowKit.intOf t).toNat)
  case atStart => exact ⟨0, by omega, rfl, fun j hj => absurd hj (Nat.not_lt_zero j)⟩
  case round =>
    obtain ⟨k, hk, rfl, hall⟩ := hrel
    have hkc : k = 0 ∨ k = 1 ∨ k = 2 ∨ k = 3 ∨ k = 4 ∨ k = 5 ∨ k = 6 ∨ k = 7 ∨ k = 8 ∨ k = 9 ∨ k = 10 := by omega
    rcases hkc with rfl | rfl | rfl | rfl | rfl | rfl | rfl | rfl | rfl | rfl | rfl
    · cases hc : isD c0
      · go_wp2_with (go_at_call 142; refine (digit_f _ _ hc).mono ?_; rintro e w' ⟨rfl, rfl⟩)
        go_ret
        refine ⟨ret_bool ?_, rfl⟩
        cases B
        · rfl
        · exact absurd (hfi.out.1 rfl).d0 (by rw [hc]; decide)
      · go_wp2_with (go_at_call 142; refine (digit_t _ _ hc).mono ?_; rintro e w' ⟨rfl, rfl⟩)
        go_round
        case rel => exact ⟨1, by omega, by go_num, fun j hj => by
          by_cases e : j = 0
          · subst e
            show (if (0 : Nat) = 4 ∨ (0 : Nat) = 7 then c0 == 45 else isD c0) = true
            simp [hc]
          · exact hall.out j (by omega)⟩
        case measure => simp [RowKit.intOf]
    · cases hc : isD c1
      · go_wp2_with (go_at_call 142; refine (digit_f _ _ hc).mono ?_; rintro e w' ⟨rfl, rfl⟩)
        go_ret
        refine ⟨ret_bool ?_, rfl⟩
        cases B
        · rfl
        · exact absurd (hfi.out.1 rfl).d1 (by rw [hc]; decide)
      · go_wp2_with (go_at_call 142; refine (digit_t _ _ hc).mono ?_; rintro e w' ⟨rfl, rfl⟩)
        go_round
        case rel => exact ⟨2, by omega, by go_num, fun j hj => by
          by_cases e : j = 1
          · subst e
            show (if (1 : Nat) = 4 ∨ (1 : Nat) = 7 then c1 == 45 else isD c1) = true
            simp [hc]
          · exact hall.out j (by omega)⟩
        case measure => simp [RowKit.intOf]
    · cases hc : isD c2
      · go_wp2_with (go_at_call 142; refine (digit_f _ _ hc).mono ?_; rintro e w' ⟨rfl, rfl⟩)
        go_ret
        refine ⟨ret_bool ?_, rfl⟩
        cases B
        · rfl
        · exact absurd (hfi.out.1 rfl).d2 (by rw [hc]; decide)
      · go_wp2_with (go_at_call 142; refine (digit_t _ _ hc).mono ?_; rintro e w' ⟨rfl, rfl⟩)
        go_round
        case rel => exact ⟨3, by omega, by go_num, fun j hj => by
          by_cases e : j = 2
          · subst e
            show (if (2 : Nat) = 4 ∨ (2 : Nat) = 7 then c2 == 45 else isD c2) = true
            simp [hc]
          · exact hall.out j (by omega)⟩
        case measure => simp [RowKit.intOf]
    · cases hc : isD c3
      · go_wp2_with (go_at_call 142; refine (digit_f _ _ hc).mono ?_; rintro e w' ⟨rfl, rfl⟩)
        go_ret
        refine ⟨ret_bool ?_, rfl⟩
        cases B
        · rfl
        · exact absurd (hfi.out.1 rfl).d3 (by rw [hc]; decide)
      · go_wp2_with (go_at_call 142; refine (digit_t _ _ hc).mono ?_; rintro e w' ⟨rfl, rfl⟩)
        go_round
        case rel => exact ⟨4, by omega, by go_num, fun j hj => by
          by_cases e : j = 3
          · subst e
            show (if (3 : Nat) = 4 ∨ (3 : Nat) = 7 then c3 == 45 else isD c3) = true
            simp [hc]
          · exact hall.out j (by omega)⟩
        case measure => simp [RowKit.intOf]
    · by_cases hc : (c4.toNat : Int) = 45
      · go_wp2
        go_round
        case rel => exact ⟨5, by omega, by go_num, fun j hj => by
          by_cases e : j = 4
          · subst e
            show (if (4 : Nat) = 4 ∨ (4 : Nat) = 7 then c4 == 45 else isD c4) = true
            have : c4 = 45 := by apply UInt8.toNat_inj.mp; exact Int.ofNat_inj.mp hc
            simp [this]
          · exact hall.out j (by omega)⟩
        case measure => simp [RowKit.intOf]
      · go_wp2
        go_ret
        refine ⟨ret_bool ?_, rfl⟩
        cases B
        · rfl
        · exact absurd (by rw [(hfi.out.1 rfl).h4]; rfl) hc
    · cases hc : isD c5
      · go_wp2_with (go_at_call 142; refine (digit_f _ _ hc).mono ?_; rintro e w' ⟨rfl, rfl⟩)
        go_ret
        refine ⟨ret_bool ?_, rfl⟩
        cases B
        · rfl
        · exact absurd (hfi.out.1 rfl).d5 (by rw [hc]; decide)
      · go_wp2_with (go_at_call 142; refine (digit_t _ _ hc).mono ?_; rintro e w' ⟨rfl, rfl⟩)
        go_round
        case rel => exact ⟨6, by omega, by go_num, fun j hj => by
          by_cases e : j = 5
          · subst e
            show (if (5 : Nat) = 4 ∨ (5 : Nat) = 7 then c5 == 45 else isD c5) = true
            simp [hc]
          · exact hall.out j (by omega)⟩
        case measure => simp [RowKit.intOf]
    · cases hc : isD c6
      · go_wp2_with (go_at_call 142; refine (digit_f _ _ hc).mono ?_; rintro e w' ⟨rfl, rfl⟩)
        go_ret
        refine ⟨ret_bool ?_, rfl⟩
        cases B
        · rfl
        · exact absurd (hfi.out.1 rfl).d6 (by rw [hc]; decide)
      · go_wp2_with (go_at_call 142; refine (digit_t _ _ hc).mono ?_; rintro e w' ⟨rfl, rfl⟩)
        go_round
        case rel => exact ⟨7, by omega, by go_num, fun j hj => by
          by_cases e : j = 6
          · subst e
            show (if (6 : Nat) = 4 ∨ (6 : Nat) = 7 then c6 == 45 else isD c6) = true
            simp [hc]
          · exact hall.out j (by omega)⟩
        case measure => simp [RowKit.intOf]
    · by_cases hc : (c7.toNat : Int) = 45
      · go_wp2
        go_round
        case rel => exact ⟨8, by omega, by go_num, fun j hj => by
          by_cases e : j = 7
          · subst e
            show (if (7 : Nat) = 4 ∨ (7 : Nat) = 7 then c7 == 45 else isD c7) = true
            have : c7 = 45 := by apply UInt8.toNat_inj.mp; exact Int.ofNat_inj.mp hc
            simp [this]
          · exact hall.out j (by omega)⟩
        case measure => simp [RowKit.intOf]
      · go_wp2
        go_ret
        refine ⟨ret_bool ?_, rfl⟩
        cases B
        · rfl
        · exact absurd (by rw [(hfi.out.1 rfl).h7]; rfl) hc
    · cases hc : isD c8
      · go_wp2_with (go_at_call 142; refine (digit_f _ _ hc).mono ?_; rintro e w' ⟨rfl, rfl⟩)
        go_ret
        refine ⟨ret_bool ?_, rfl⟩
        cases B
        · rfl
        · exact absurd (hfi.out.1 rfl).d8 (by rw [hc]; decide)
      · go_wp2_with (go_at_call 142; refine (digit_t _ _ hc).mono ?_; rintro e w' ⟨rfl, rfl⟩)
        go_round
        case rel => exact ⟨9, by omega, by go_num, fun j hj => by
          by_cases e : j = 8
          · subst e
            show (if (8 : Nat) = 4 ∨ (8 : Nat) = 7 then c8 == 45 else isD c8) = true
            simp [hc]
          · exact hall.out j (by omega)⟩
        case measure => simp [RowKit.intOf]
    · cases hc : isD c9
      · go_wp2_with (go_at_call 142; refine (digit_f _ _ hc).mono ?_; rintro e w' ⟨rfl, rfl⟩)
        go_ret
        refine ⟨ret_bool ?_, rfl⟩
        cases B
        · rfl
        · exact absurd (hfi.out.1 rfl).d9 (by rw [hc]; decide)
      · go_wp2_with (go_at_call 142; refine (digit_t _ _ hc).mono ?_; rintro e w' ⟨rfl, rfl⟩)
        go_round
        case rel => exact ⟨10, by omega, by go_num, fun j hj => by
          by_cases e : j = 9
          · subst e
            show (if (9 : Nat) = 4 ∨ (9 : Nat) = 7 then c9 == 45 else isD c9) = true
            simp [hc]
          · exact hall.out j (by omega)⟩
        case measure => simp [RowKit.intOf]
    · go_wp2
      go_ret
      refine ⟨ret_bool ?_, rfl⟩
      have h := hall.out
      refine Eq.symm (hfi.out.2 ⟨?_, ?_, ?_, ?_, ?_, ?_, ?_, ?_, ?_, ?_⟩)
      · have := h 0 (by omega); simpa [okAt] using this
      · have := h 1 (by omega); simpa [okAt] using this
      · have := h 2 (by omega); simpa [okAt] using this
      · have := h 3 (by omega); simpa [okAt] using this
      · have := h 4 (by omega); simpa [okAt] using this
      · have := h 5 (by omega); simpa [okAt] using this
      · have := h 6 (by omega); simpa [okAt] using this
      · have := h 7 (by omega); simpa [okAt] using this
      · have := h 8 (by omega); simpa [okAt] using this
      · have := h 9 (by omega); simpa [okAt] using this
end Go.Proofs.YtlbodoggfbdnjabGreatDoor.L3

namespace Go.Proofs.YtlbodoggfbdnjabGreatDoor.L3
open Go.RowKit Go.Lib
set_option linter.unusedVariables false
theorem Take_short (l : List UInt8) (w : World) (h : l.length ≠ 10) (hl : l.length ≤ 1000000) :
    Calls Tryz.prog 72 #[.string ⟨l.toArray⟩] w fun e w' => e = .returned (.tuple #[.int .i64 0, .int .i64 4]) ∧ Ext w w' := by
  replace h := show Hid _ from h
  go_enter Tryz.func72, Tryz.ntmps72
  go_wp2_with (go_at_call 114; refine (formed_no _ _ h.out hl).mono ?_; rintro e w' ⟨rfl, rfl⟩)
  go_ret2
  exact ⟨rfl, Ext.refl _⟩
theorem Take_no (c0 c1 c2 c3 c4 c5 c6 c7 c8 c9 : UInt8) (w : World) (h : formL [c0, c1, c2, c3, c4, c5, c6, c7, c8, c9] = false) :
    Calls Tryz.prog 72 #[.string ⟨#[c0, c1, c2, c3, c4, c5, c6, c7, c8, c9]⟩] w fun e w' => e = .returned (.tuple #[.int .i64 0, .int .i64 4]) ∧ Ext w w' := by
  have hf := fun w => formed_c c0 c1 c2 c3 c4 c5 c6 c7 c8 c9 w
  rw [h] at hf
  replace hf := show Hid _ from hf
  clear h
  go_enter Tryz.func72, Tryz.ntmps72
  go_wp2_with (go_at_call 114; refine (hf.out _).mono ?_; rintro e w' ⟨rfl, rfl⟩)
  go_ret2
  exact ⟨rfl, Ext.refl _⟩
set_option maxHeartbeats 2000000 in
theorem Take_ok (c0 c1 c2 c3 c4 c5 c6 c7 c8 c9 : UInt8) (w : World) (h : formL [c0, c1, c2, c3, c4, c5, c6, c7, c8, c9] = true) (he : Hid (Env w)) :
    Calls Tryz.prog 72 #[.string ⟨#[c0, c1, c2, c3, c4, c5, c6, c7, c8, c9]⟩] w fun e w' => e = .returned (.tuple #[.int .i64 (numA (pY [c0, c1, c2, c3, c4, c5, c6, c7, c8, c9]) (pM [c0, c1, c2, c3, c4, c5, c6, c7, c8, c9]) (pD [c0, c1, c2, c3, c4, c5, c6, c7, c8, c9])), .int .i64 (numE (pY [c0, c1, c2, c3, c4, c5, c6, c7, c8, c9]) (pM [c0, c1, c2, c3, c4, c5, c6, c7, c8, c9]) (pD [c0, c1, c2, c3, c4, c5, c6, c7, c8, c9]))]) ∧ Ext w w' := by
  have hf := fun w => formed_c c0 c1 c2 c3 c4 c5 c6 c7 c8 c9 w
  rw [h] at hf
  replace hf := show Hid _ from hf
  have f := (form_iff c0 c1 c2 c3 c4 c5 c6 c7 c8 c9).1 h
  have n1 : Hid (∀ w : World, Calls Tryz.prog 116 #[.string ⟨#[c0, c1, c2, c3]⟩] w fun e w' => e = .returned (.int .i64 (pY [c0, c1, c2, c3, c4, c5, c6, c7, c8, c9])) ∧ Ext w w') := fun w => number_c [c0, c1, c2, c3] w (by simp) (by simp [f.d0, f.d1, f.d2, f.d3]) (by simp)
  have n2 : Hid (∀ w : World, Calls Tryz.prog 116 #[.string ⟨#[c5, c6]⟩] w fun e w' => e = .returned (.int .i64 (pM [c0, c1, c2, c3, c4, c5, c6, c7, c8, c9])) ∧ Ext w w') := fun w => number_c [c5, c6] w (by simp) (by simp [f.d5, f.d6]) (by simp)
  have n3 : Hid (∀ w : World, Calls Tryz.prog 116 #[.string ⟨#[c8, c9]⟩] w fun e w' => e = .returned (.int .i64 (pD [c0, c1, c2, c3, c4, c5, c6, c7, c8, c9])) ∧ Ext w w') := fun w => number_c [c8, c9] w (by simp) (by simp [f.d8, f.d9]) (by simp)
  have e1 : (⟨#[c0, c1, c2, c3, c4, c5, c6, c7, c8, c9]⟩ : ByteArray).extract 0 4 = ⟨#[c0, c1, c2, c3]⟩ := rfl
  have e2 : (⟨#[c0, c1, c2, c3, c4, c5, c6, c7, c8, c9]⟩ : ByteArray).extract 5 7 = ⟨#[c5, c6]⟩ := rfl
  have e3 : (⟨#[c0, c1, c2, c3, c4, c5, c6, c7, c8, c9]⟩ : ByteArray).extract 8 10 = ⟨#[c8, c9]⟩ := rfl
  have hsz : (⟨#[c0, c1, c2, c3, c4, c5, c6, c7, c8, c9]⟩ : ByteArray).size = 10 := rfl
  have hm : Hid (I64 (pM [c0, c1, c2, c3, c4, c5, c6, c7, c8, c9])) := by
    have := valL_lt [c5, c6] (by simp [f.d5, f.d6])
    show I64 (pM [c0, c1, c2, c3, c4, c5, c6, c7, c8, c9])
    have e : pM [c0, c1, c2, c3, c4, c5, c6, c7, c8, c9] = (valL [c5, c6] : Nat) := rfl
    unfold I64; rw [e]; simp at this; omega
  generalize pY [c0, c1, c2, c3, c4, c5, c6, c7, c8, c9] = y at *
  generalize pM [c0, c1, c2, c3, c4, c5, c6, c7, c8, c9] = m at *
  generalize pD [c0, c1, c2, c3, c4, c5, c6, c7, c8, c9] = d at *
  have hN : Hid (∀ w : World, Hid (Env w) → Calls Tryz.prog 115 #[.agg #[.int .i64 y, .int .i64 m, .int .i64 d]] w fun e w' => e = .returned (.tuple #[.int .i64 (numA y m d), .int .i64 (numE y m d)]) ∧ Ext w w') := fun w he => Number_c y m d w hm.out he
  generalize numA y m d = na at *
  generalize numE y m d = ne at *
  clear f h hm
  go_enter Tryz.func72, Tryz.ntmps72
  go_wp2_with fail
  refine (hf.out _).mono ?_
  rintro e w1 ⟨rfl, rfl⟩
  go_wp2
  have hE : Hid (∀ s : Late w1, Hid (Env s.to)) := fun s => he.out.ext s.ext
  have hNe1 : Nonempty (Late w1) := ⟨⟨_, Ext.refl _⟩⟩
  refine wp_region_late (by kernel_rfl) (by kernel_rfl) ?_
  repeat (go_big_quiet_step ((first
    | (go_at_call_of 116 c0; exact late_of (n1.out _))
    | (go_at_call_of 116 c5; exact late_of (n2.out _))
    | (go_at_call_of 116 c8; exact late_of (n3.out _))
    | (go_at_call 115; exact late_of (hN.out _ (hE.out _))))))
  refine wpQuiet_nil ?_
  intro W1 hw'
  have hx1 := late_ext hw'
  clear hw'
  go_wp2
  go_ret2
  exact ⟨rfl, hx1⟩
theorem Take_c (l : List UInt8) (w : World) (hl : l.length ≤ 1000000) (he : Hid (Env w)) :
    Calls Tryz.prog 72 #[.string ⟨l.toArray⟩] w fun e w' => e = .returned (.tuple #[.int .i64 (takA l), .int .i64 (takE l)]) ∧ Ext w w' := by
  by_cases h : l.length = 10
  · obtain ⟨c0, c1, c2, c3, c4, c5, c6, c7, c8, c9, rfl⟩ := ten h
    cases hf : formL [c0, c1, c2, c3, c4, c5, c6, c7, c8, c9]
    · rw [(tak_not _ hf).1, (tak_not _ hf).2]; exact Take_no c0 c1 c2 c3 c4 c5 c6 c7 c8 c9 w hf
    · rw [(tak_form _ hf).1, (tak_form _ hf).2]; exact Take_ok c0 c1 c2 c3 c4 c5 c6 c7 c8 c9 w hf he
  · rw [(tak_not _ (form_not l h)).1, (tak_not _ (form_not l h)).2]; exact Take_short l w h hl
end Go.Proofs.YtlbodoggfbdnjabGreatDoor.L3
