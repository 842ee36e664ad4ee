/- Decimal digits, and what money and rates are as lists of bytes: plain numbers and lists; no program is spoken of here. -/
import Derived.Lib.ItoaMem
import Derived.Lib.ItoaLen
import Derived.Lib.Repeat
import Derived.Lib.SlTrimSet
import Derived.Lib.IndexMore
import Derived.Lib.CutLaws
namespace Go.Proofs.YtpmgbagnaaahoabDoor
open Go.Lib

theorem rev_ind {α : Type} {P : List α → Prop} (h0 : P []) (h1 : ∀ t c, P t → P (t ++ [c])) (l : List α) : P l := by
  have : ∀ m : List α, P m.reverse := by
    intro m
    induction m with
    | nil => exact h0
    | cons x t ih => rw [List.reverse_cons]; exact h1 _ _ ih
  simpa using this l.reverse
theorem dropWhile_nil {α : Type} (p : α → Bool) : ∀ l : List α, l.dropWhile p = [] ↔ ∀ x ∈ l, p x = true
  | [] => by simp
  | a :: l => by
    cases h : p a
    · simp [List.dropWhile, h]
    · simp [List.dropWhile, h, dropWhile_nil p l]
theorem dropWhile_head {α : Type} (p : α → Bool) : ∀ (l : List α) (x : α) (t : List α), l.dropWhile p = x :: t → p x = false
  | [], x, t, h => by simp at h
  | a :: l, x, t, h => by
    cases hp : p a
    · simp [List.dropWhile, hp] at h; rw [← h.1]; exact hp
    · simp [List.dropWhile, hp] at h; exact dropWhile_head p l x t h
theorem dropWhile_sub {α : Type} (p : α → Bool) : ∀ (l : List α) (x : α), x ∈ l.dropWhile p → x ∈ l
  | [], x, h => by simp at h
  | a :: l, x, h => by
    cases hp : p a
    · simpa [List.dropWhile, hp] using h
    · simp [List.dropWhile, hp] at h; exact List.mem_cons_of_mem _ (dropWhile_sub p l x h)

def dgt (n : Nat) : UInt8 := UInt8.ofNat (48 + n % 10)
def isD (c : UInt8) : Bool := decide (48 ≤ c.toNat) && decide (c.toNat ≤ 57)
def valL (l : List UInt8) : Nat := l.foldl (fun a c => 10 * a + (c.toNat - 48)) 0
def fix : Nat → Nat → List UInt8
  | 0, _ => []
  | k + 1, m => fix k (m / 10) ++ [dgt m]
def digs : List UInt8 := [48, 49, 50, 51, 52, 53, 54, 55, 56, 57]

theorem dgt_toNat (n : Nat) : (dgt n).toNat = 48 + n % 10 := by
  unfold dgt; simp; omega
theorem isD_dgt (n : Nat) : isD (dgt n) = true := by
  unfold isD; rw [dgt_toNat]; simp; omega
theorem isD_range {c : UInt8} (h : isD c = true) : 48 ≤ c.toNat ∧ c.toNat ≤ 57 := by
  unfold isD at h; simpa using h
theorem dgt_of {c : UInt8} (h : isD c = true) (n : Nat) (hn : n % 10 = c.toNat - 48) : dgt n = c := by
  have := isD_range h
  apply UInt8.toNat_inj.mp
  rw [dgt_toNat]; omega
theorem digs_contains (c : UInt8) : digs.contains c = isD c := by
  have : ∀ n : Fin 256, digs.contains (UInt8.ofNat n.val) = isD (UInt8.ofNat n.val) := by decide +kernel
  have := this ⟨c.toNat, UInt8.toNat_lt c⟩
  simpa using this

theorem valL_nil : valL [] = 0 := rfl
theorem valL_snoc (l : List UInt8) (c : UInt8) : valL (l ++ [c]) = 10 * valL l + (c.toNat - 48) := by
  simp [valL]
theorem foldl_val (l : List UInt8) : ∀ a, l.foldl (fun a c => 10 * a + (c.toNat - 48)) a = a * 10 ^ l.length + valL l := by
  induction l with
  | nil => intro a; simp [valL]
  | cons x t ih =>
    intro a
    have h1 := ih (10 * a + (x.toNat - 48))
    have h2 := ih (10 * 0 + (x.toNat - 48))
    simp only [valL, List.foldl_cons, List.length_cons] at *
    rw [h1, h2, Nat.pow_succ]
    simp only [Nat.mul_zero, Nat.zero_add, Nat.add_mul]
    have : 10 * a * 10 ^ t.length = a * (10 ^ t.length * 10) := by
      rw [Nat.mul_comm 10 a, Nat.mul_assoc, Nat.mul_comm 10]
    omega
theorem valL_append (a b : List UInt8) : valL (a ++ b) = valL a * 10 ^ b.length + valL b := by
  have := foldl_val b (valL a)
  rw [← this]; simp [valL]
theorem valL_cons (x : UInt8) (t : List UInt8) : valL (x :: t) = (x.toNat - 48) * 10 ^ t.length + valL t := by
  have := valL_append [x] t
  simpa [valL] using this
theorem valL_lt (l : List UInt8) (h : l.all isD = true) : valL l < 10 ^ l.length := by
  induction l with
  | nil => simp [valL]
  | cons x t ih =>
    simp only [List.all_cons, Bool.and_eq_true] at h
    have h1 := ih h.2
    have h2 := isD_range h.1
    rw [valL_cons, List.length_cons, Nat.pow_succ]
    have : (x.toNat - 48) * 10 ^ t.length ≤ 9 * 10 ^ t.length := Nat.mul_le_mul_right _ (by omega)
    omega
theorem valL_zeros (k : Nat) : valL (List.replicate k 48) = 0 := by
  induction k with
  | zero => rfl
  | succ k ih => rw [List.replicate_succ, valL_cons, ih]; simp

theorem fix_length (k : Nat) : ∀ m, (fix k m).length = k := by
  induction k with
  | zero => intro m; rfl
  | succ k ih => intro m; simp [fix, ih]
theorem fix_all (k : Nat) : ∀ m, (fix k m).all isD = true := by
  induction k with
  | zero => intro m; rfl
  | succ k ih => intro m; simp only [fix, List.all_append, ih, List.all_cons, List.all_nil, isD_dgt, Bool.and_self]
theorem valL_fix (k : Nat) : ∀ m, valL (fix k m) = m % 10 ^ k := by
  induction k with
  | zero => intro m; simp [fix, valL, Nat.mod_one]
  | succ k ih =>
    intro m
    rw [fix, valL_snoc, ih, dgt_toNat, Nat.pow_succ, Nat.mul_comm (10 ^ k) 10, Nat.mod_mul]
    omega

theorem decDigits_small {u : Nat} (h : u < 10) : decDigits u = [dgt u] := by
  rw [decDigits, dif_pos h]; unfold dgt; rw [Nat.mod_eq_of_lt h]
theorem decDigits_big {u : Nat} (h : ¬ u < 10) : decDigits u = decDigits (u / 10) ++ [dgt u] := by
  rw [decDigits, dif_neg h]; rfl
theorem decDigits_all (u : Nat) : (decDigits u).all isD = true := by
  induction u using Nat.strongRecOn with
  | ind u ih =>
    by_cases h : u < 10
    · rw [decDigits_small h]; simp only [List.all_cons, List.all_nil, isD_dgt, Bool.and_self]
    · rw [decDigits_big h, List.all_append, ih _ (by omega)]; simp only [List.all_cons, List.all_nil, isD_dgt, Bool.and_self]
theorem valL_decDigits (u : Nat) : valL (decDigits u) = u := by
  induction u using Nat.strongRecOn with
  | ind u ih =>
    by_cases h : u < 10
    · rw [decDigits_small h]; simp [valL, dgt_toNat]; omega
    · rw [decDigits_big h, valL_snoc, ih _ (by omega), dgt_toNat]; omega
theorem decDigits_ne (u : Nat) : decDigits u ≠ [] := by
  by_cases h : u < 10
  · rw [decDigits_small h]; simp
  · rw [decDigits_big h]; simp
/-- A number's digits have no nought ahead, but for 0 itself. -/
theorem decDigits_head (u : Nat) : decDigits u = [48] ∨ (decDigits u).head? ≠ some 48 := by
  induction u using Nat.strongRecOn with
  | ind u ih =>
    by_cases h : u < 10
    · rw [decDigits_small h]
      by_cases h0 : u = 0
      · left; subst h0; rfl
      · right
        intro e
        have : dgt u = 48 := by simpa using e
        have := congrArg UInt8.toNat this
        rw [dgt_toNat] at this
        have h48 : (48 : UInt8).toNat = 48 := rfl
        omega
    · rw [decDigits_big h]
      right
      rcases ih (u / 10) (by omega) with k | k
      · have := congrArg valL k
        rw [valL_decDigits] at this
        have : valL [48] = 0 := rfl
        omega
      · rw [List.head?_append]; cases hd : decDigits (u / 10) with
        | nil => exact absurd hd (decDigits_ne _)
        | cons a b => rw [hd] at k; simpa using k

/-- So many noughts ahead that there are as many digits at least. -/
def pad (n : Nat) (l : List UInt8) : List UInt8 := List.replicate (n - l.length) 48 ++ l
theorem pad_snoc (n : Nat) (l : List UInt8) (c : UInt8) : pad (n + 1) (l ++ [c]) = pad n l ++ [c] := by
  simp [pad]
theorem pad_decDigits (k : Nat) : ∀ u, pad (k + 1) (decDigits u) = decDigits (u / 10 ^ k) ++ fix k u := by
  induction k with
  | zero =>
    intro u
    have : 1 ≤ (decDigits u).length := by
      have := decDigits_ne u
      cases h : decDigits u with
      | nil => exact absurd h this
      | cons a b => simp
    simp [pad, fix, Nat.sub_eq_zero_of_le this]
  | succ k ih =>
    intro u
    have key : pad (k + 2) (decDigits u) = pad (k + 1) (decDigits (u / 10)) ++ [dgt u] := by
      by_cases h : u < 10
      · rw [decDigits_small h, show u / 10 = 0 by omega, decDigits_small (u := 0) (by omega)]
        simp only [pad, List.length_cons, List.length_nil]
        rw [show k + 2 - (0 + 1) = (k + 1 - (0 + 1)) + 1 by omega, List.replicate_succ']
        rfl
      · rw [decDigits_big h]; exact pad_snoc _ _ _
    rw [key, ih, fix, Nat.pow_succ, Nat.mul_comm (10 ^ k) 10, ← Nat.div_div_eq_div_mul]
    simp

/-- Digits with no nought ahead are those of their number. -/
theorem decDigits_valL (l : List UInt8) (hne : l ≠ []) (h : l.all isD = true) (h0 : l = [48] ∨ l.head? ≠ some 48) : decDigits (valL l) = l := by
  revert hne h h0
  refine rev_ind (P := fun l => l ≠ [] → l.all isD = true → (l = [48] ∨ l.head? ≠ some 48) → decDigits (valL l) = l) ?_ ?_ l
  · intro hne; exact absurd rfl hne
  · intro t c ih hne h h0
    rw [valL_snoc]
    rw [List.all_append, Bool.and_eq_true] at h
    have hc : isD c = true := by simpa using h.2
    have hr := isD_range hc
    cases t with
    | nil =>
      simp only [valL_nil, Nat.mul_zero, Nat.zero_add, List.nil_append]
      rw [decDigits_small (by omega), dgt_of hc _ (by omega)]
    | cons a b =>
      have hh : (a :: b).head? ≠ some 48 := by
        rcases h0 with k | k
        · simp at k
        · simpa using k
      have ih := ih (by simp) h.1 (Or.inr hh)
      have ha : isD a = true := by have := h.1; simp at this; exact this.1
      have hpos : 1 ≤ valL (a :: b) := by
        rw [valL_cons]
        have : 1 ≤ a.toNat - 48 := by
          have := isD_range ha
          have : a.toNat ≠ 48 := fun e => hh (by simp; exact UInt8.toNat_inj.mp e)
          omega
        have : 1 * 1 ≤ (a.toNat - 48) * 10 ^ b.length := Nat.mul_le_mul this (Nat.pos_of_ne_zero (by simp))
        omega
      rw [decDigits_big (by omega), show (10 * valL (a :: b) + (c.toNat - 48)) / 10 = valL (a :: b) by omega, ih, dgt_of hc _ (by omega)]
theorem fix_valL (l : List UInt8) (h : l.all isD = true) : ∀ x, fix l.length (x * 10 ^ l.length + valL l) = l := by
  revert h
  refine rev_ind (P := fun l => l.all isD = true → ∀ x, fix l.length (x * 10 ^ l.length + valL l) = l) ?_ ?_ l
  · intro _ x; rfl
  · intro t c ih h x
    rw [List.all_append, Bool.and_eq_true] at h
    have hc : isD c = true := by simpa using h.2
    have hr := isD_range hc
    rw [List.length_append, List.length_singleton, fix, valL_snoc, Nat.pow_succ]
    have e : x * (10 ^ t.length * 10) + (10 * valL t + (c.toNat - 48)) = 10 * (x * 10 ^ t.length + valL t) + (c.toNat - 48) := by
      rw [← Nat.mul_assoc]; omega
    rw [e, show (10 * (x * 10 ^ t.length + valL t) + (c.toNat - 48)) / 10 = x * 10 ^ t.length + valL t by omega, ih h.1, dgt_of hc _ (by omega)]

theorem all_mem {l : List UInt8} (h : l.all isD = true) {c : UInt8} (hc : c ∈ l) : isD c = true := List.all_eq_true.mp h c hc
theorem trimS_digs (l : List UInt8) : (trimS l digs = []) ↔ l.all isD = true := by
  unfold trimS trimLeftS
  rw [dropWhile_nil]
  simp only [digs_contains]
  constructor
  · intro h
    rw [List.all_eq_true]
    intro x hx
    have hn : List.dropWhile (digs.contains ·) l.reverse = [] := by
      cases hd : List.dropWhile (digs.contains ·) l.reverse with
      | nil => rfl
      | cons a b =>
        have h1 := dropWhile_head _ _ _ _ hd
        have h2 := h a (by unfold trimRightS; rw [hd]; simp)
        rw [digs_contains, h2] at h1; cases h1
    rw [dropWhile_nil] at hn
    have := hn x (by simpa using hx)
    rwa [digs_contains] at this
  · intro h x hx
    have : x ∈ l := by
      unfold trimRightS at hx
      have := dropWhile_sub _ _ _ (List.mem_reverse.mp hx)
      simpa using this
    exact all_mem h this
end Go.Proofs.YtpmgbagnaaahoabDoor
