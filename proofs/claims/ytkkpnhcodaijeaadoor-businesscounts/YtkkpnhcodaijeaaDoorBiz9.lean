/- How many days of business there are, by themselves: sums, a week, holidays among them: plain arithmetic, no program is spoken of here. -/
import Derived.Test.YtkkpnhcodaijeaaDoorBiz8
namespace Go.Proofs.YtkkpnhcodaijeaaDoor
open Go.RowKit
set_option linter.unusedVariables false

theorem cnt_add (l : List Int) (a : Int) (i j : Nat) : cnt l a (i + j) = cnt l a i + cnt l (a + (i : Int)) j := by
  induction j with
  | zero => simp [cnt]
  | succ j ih =>
    rw [show i + (j + 1) = (i + j) + 1 by omega]
    simp only [cnt]
    rw [ih, show a + ((i + j : Nat) : Int) = a + (i : Int) + (j : Int) by omega]
    omega
theorem opn_less {l : List Int} {n : Int} (h : opn l n = true) : opn [] n = true := by
  have := (opn_iff l n).1 h
  exact (opn_iff [] n).2 ⟨this.1, this.2.1, this.2.2.1, by simp⟩
theorem cnt_le (l : List Int) (a : Int) (k : Nat) : cnt l a k ≤ cnt [] a k := by
  induction k with
  | zero => simp [cnt]
  | succ k ih =>
    simp only [cnt]
    by_cases h : opn l (a + (k : Int)) = true
    · rw [if_pos h, if_pos (opn_less h)]; omega
    · rw [if_neg h]; split <;> omega
theorem opn_cons {x : Int} {t : List Int} {n : Int} (h : n ≠ x) : opn (x :: t) n = opn t n := by
  unfold opn
  simp [h]
theorem cnt_cons (x : Int) (t : List Int) (a : Int) (k : Nat) : cnt t a k ≤ cnt (x :: t) a k + (if a ≤ x ∧ x < a + (k : Int) then 1 else 0) := by
  induction k with
  | zero => simp [cnt]; split <;> omega
  | succ k ih =>
    simp only [cnt]
    by_cases h : a + (k : Int) = x
    · rw [if_neg (by omega)] at ih
      by_cases hk : a ≤ x ∧ x < a + ((k + 1 : Nat) : Int)
      · rw [if_pos hk]; split <;> split <;> omega
      · omega
    · rw [opn_cons h]
      by_cases hk : a ≤ x ∧ x < a + (k : Int)
      · rw [if_pos hk] at ih
        rw [if_pos (show a ≤ x ∧ x < a + ((k + 1 : Nat) : Int) by omega)]
        omega
      · rw [if_neg hk] at ih
        rw [if_neg (show ¬ (a ≤ x ∧ x < a + ((k + 1 : Nat) : Int)) by omega)]
        omega
theorem cnt_lost (l : List Int) (a : Int) (k : Nat) : cnt [] a k - cnt l a k ≤ l.length := by
  induction l with
  | nil => simp
  | cons x t ih =>
    have := cnt_cons x t a k
    have h2 : (if a ≤ x ∧ x < a + (k : Int) then (1 : Int) else 0) ≤ 1 := by split <;> omega
    simp only [List.length_cons]
    omega
theorem opn_wd {n : Int} (h1 : -25567 ≤ n) (h2 : n ≤ 84370) : opn [] n = decide ((n + 3) % 7 < 5) := by
  by_cases c : (n + 3) % 7 < 5
  · rw [decide_eq_true c]; exact opn_of h1 h2 c (by simp)
  · rw [decide_eq_false c]
    cases h : opn [] n
    · rfl
    · have := (opn_iff [] n).1 h
      exact absurd this.2.2.1 c
theorem cnt_week (a : Int) (h1 : -25567 ≤ a) (h2 : a + 6 ≤ 84370) : cnt [] a 7 = 5 := by
  have o : ∀ k : Nat, k < 7 → (if opn [] (a + (k : Int)) = true then (1 : Int) else 0) = (if ((a + 3) % 7 + (k : Int)) % 7 < 5 then 1 else 0) := by
    intro k hk
    rw [opn_wd (by omega) (by omega), show (a + (k : Int) + 3) % 7 = ((a + 3) % 7 + (k : Int)) % 7 by omega]
    simp
  simp only [cnt]
  rw [o 0 (by omega), o 1 (by omega), o 2 (by omega), o 3 (by omega), o 4 (by omega), o 5 (by omega), o 6 (by omega)]
  obtain h | h | h | h | h | h | h : (a + 3) % 7 = 0 ∨ (a + 3) % 7 = 1 ∨ (a + 3) % 7 = 2 ∨ (a + 3) % 7 = 3 ∨ (a + 3) % 7 = 4 ∨ (a + 3) % 7 = 5 ∨ (a + 3) % 7 = 6 := by omega
  all_goals (rw [h]; decide)
theorem ct_ok {l : List Int} {a b : Int} (h1 : -25567 ≤ a) (h2 : b ≤ 84370) (h : a ≤ b) : ctA l a b = cnt l a (b - a + 1).toNat ∧ ctE a b = 0 := by
  have ha : inD a = true := (inD_iff a).2 (by omega)
  have hb : inD b = true := (inD_iff b).2 (by omega)
  exact ⟨by unfold ctA; rw [if_pos ⟨ha, hb, h⟩], by unfold ctE; rw [if_pos ⟨ha, hb, h⟩]⟩
/-- What BusinessCounts asks of its five counts. -/
structure Five (L : List Int) (D N M : Int) (A B P : Int) : Prop where
  a : ctA L D (D + N) = A
  b : ctA L (D + N + 1) (D + N + 1 + M) = B
  all : ctA L D (D + N + 1 + M) = A + B
  week : ctA [] D (D + 6) = 5
  plain : ctA [] D (D + N + 1 + M) = P
  ea : ctE D (D + N) = 0
  eb : ctE (D + N + 1) (D + N + 1 + M) = 0
  eall : ctE D (D + N + 1 + M) = 0
  ew : ctE D (D + 6) = 0
  a0 : 0 ≤ A
  a1 : A ≤ 1000
  b0 : 0 ≤ B
  b1 : B ≤ 1000
  p1 : P ≤ 1000
  le : A + B ≤ P
  lost : P - (A + B) ≤ L.length
theorem five_of (L : List Int) (D N M : Int) (h1 : 10000 ≤ D) (h2 : D < 60000) (n1 : 0 ≤ N) (n2 : N < 200) (m1 : 0 ≤ M) (m2 : M < 200) : ∃ A B P, Five L D N M A B P := by
  obtain ⟨a1, a2⟩ := ct_ok (l := L) (a := D) (b := D + N) (by omega) (by omega) (by omega)
  obtain ⟨b1, b2⟩ := ct_ok (l := L) (a := D + N + 1) (b := D + N + 1 + M) (by omega) (by omega) (by omega)
  obtain ⟨c1, c2⟩ := ct_ok (l := L) (a := D) (b := D + N + 1 + M) (by omega) (by omega) (by omega)
  obtain ⟨w1, w2⟩ := ct_ok (l := []) (a := D) (b := D + 6) (by omega) (by omega) (by omega)
  obtain ⟨p1, p2⟩ := ct_ok (l := []) (a := D) (b := D + N + 1 + M) (by omega) (by omega) (by omega)
  have e := cnt_add L D (D + N - D + 1).toNat (D + N + 1 + M - (D + N + 1) + 1).toNat
  rw [show (D + N - D + 1).toNat + (D + N + 1 + M - (D + N + 1) + 1).toNat = (D + N + 1 + M - D + 1).toNat by omega, show D + (((D + N - D + 1).toNat : Nat) : Int) = D + N + 1 by omega] at e
  have x1 := cnt_bd L D (D + N - D + 1).toNat
  have x2 := cnt_bd L (D + N + 1) (D + N + 1 + M - (D + N + 1) + 1).toNat
  have x3 := cnt_bd [] D (D + N + 1 + M - D + 1).toNat
  have y1 := cnt_le L D (D + N + 1 + M - D + 1).toNat
  have y2 := cnt_lost L D (D + N + 1 + M - D + 1).toNat
  refine ⟨_, _, _, a1, b1, by rw [c1, e], ?_, p1, a2, b2, c2, w2, x1.1, by omega, x2.1, by omega, by omega, by rw [← e]; exact y1, by rw [← e]; exact y2⟩
  rw [w1, show (D + 6 - D + 1).toNat = 7 by omega]
  exact cnt_week D (by omega) (by omega)
theorem own_len {w : World} {B : Nat} {e : TypeId} {z : Nat} {v : Value} {n : Nat} {xs : List Value} (h : w.ownsRow B e z v n xs) : ∃ ao c, v = .slice ao n c := by
  rcases h.2 with ⟨rfl, rfl⟩ | ⟨g, c, cur, rfl, _⟩
  · exact ⟨_, _, rfl⟩
  · exact ⟨_, _, rfl⟩
end Go.Proofs.YtkkpnhcodaijeaaDoor
