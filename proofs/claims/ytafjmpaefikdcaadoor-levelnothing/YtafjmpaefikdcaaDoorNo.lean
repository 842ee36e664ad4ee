
/- Without interest: the walk of an instalment, and the least one; no program is spoken of here. -/
import Derived.Test.YtafjmpaefikdcaaDoorLv0
namespace Go.Proofs.YtafjmpaefikdcaaDoor
open L12 (Rst bq br rnd)
set_option linter.unusedVariables false

theorem br_nil {m W R : Int} (hr : Rst m W R) (hW : 0 < W) : br m W R 0 = R := by
  show 0 + R - W * bq m W R 0 = R
  rw [L12.bq_zero hr hW]
  omega
/-- At a rate of 0 nothing is borne: so many parts, each of them pays back. -/
theorem wk_free {m W x g : Int} (hW : 0 < W) (hx : 0 ≤ x) (hg : 0 ≤ g) : ∀ (l : List Int) (k : Nat) (B R : Int), Rst m W R → 1 ≤ B → B ≤ 1000000000000000 → g ≤ (k : Int) + l.length →
    (wk m W 0 x g l k B R ≤ 0 ↔ B ≤ ((k : Int) + l.length - max (k : Int) g) * x)
  | [], k, B, R, hr, hB, hB2, hk => by
    have e : (k : Int) + ([] : List Int).length - max (k : Int) g = 0 := by simp at hk ⊢; omega
    rw [e, Int.zero_mul]
    show B ≤ 0 ↔ B ≤ 0
    exact Iff.rfl
  | n :: l, k, B, R, hr, hB, hB2, hk => by
    have e0 : B * (0 * n) = 0 := by rw [Int.zero_mul, Int.mul_zero]
    have hk' : g ≤ ((k + 1 : Nat) : Int) + l.length := by simp at hk ⊢; omega
    unfold wk
    rw [e0, L12.bq_zero hr hW, br_nil hr hW, if_pos (by omega)]
    by_cases h1 : (k : Int) < g
    · rw [if_pos h1, wk_free hW hx hg l (k + 1) B R hr hB hB2 hk']
      have : (((k + 1 : Nat) : Int) + l.length - max ((k + 1 : Nat) : Int) g) = (k : Int) + (n :: l).length - max (k : Int) g := by simp; omega
      rw [this]
    · rw [if_neg h1, Int.add_zero]
      have ec : (k : Int) + (n :: l).length - max (k : Int) g = (((k + 1 : Nat) : Int) + l.length - max ((k + 1 : Nat) : Int) g) + 1 := by simp; omega
      have c0 : 0 ≤ (((k + 1 : Nat) : Int) + l.length - max ((k + 1 : Nat) : Int) g) := by simp; omega
      rw [ec, Int.add_mul, Int.one_mul]
      have c1 := Int.mul_nonneg c0 hx
      by_cases h2 : B - x ≤ 0
      · rw [if_pos h2]
        constructor <;> intro _ <;> omega
      · rw [if_neg h2, if_pos (by omega), wk_free hW hx hg l (k + 1) (B - x) R hr (by omega) (by omega) hk']
        constructor <;> intro _ <;> omega
theorem lst_free {m W g n a : Int} {l : List Int} (hm : m = 1 ∨ m = 3) (hW : 0 < W) (hg : 0 ≤ g) (hn : n = (l.length : Int) - g) (n1 : 1 ≤ n) (n2 : n ≤ 60) (a1 : 1 ≤ a) (a2 : a ≤ 10000000000000) :
    Lst (fun x => wk m W 0 x g l 0 a 0) ((a + n - 1) / n) := by
  have hd := Int.mul_ediv_add_emod (a + n - 1) n
  have o0 := Int.emod_nonneg (a + n - 1) (show n ≠ 0 by omega)
  have o1 := Int.emod_lt_of_pos (a + n - 1) (show 0 < n by omega)
  obtain ⟨v, hv⟩ : ∃ v, (a + n - 1) / n = v := ⟨_, rfl⟩
  rw [hv] at hd ⊢
  have v1 : 1 ≤ v := by
    have : n * 1 ≤ a + n - 1 := by omega
    rw [← hv]
    exact Int.le_ediv_of_mul_le (by omega) (by omega)
  have v2 : v ≤ 1000000000000000 := by
    have : 1 * v ≤ n * v := Int.mul_le_mul_of_nonneg_right n1 (by omega)
    omega
  have e : ((0 : Nat) : Int) + l.length - max ((0 : Nat) : Int) g = n := by omega
  have key : ∀ x, 0 ≤ x → (wk m W 0 x g l 0 a 0 ≤ 0 ↔ a ≤ n * x) := fun x hx => by
    have := wk_free hW hx hg l 0 a 0 (L12.rst_zero hm hW) a1 (by omega) (by omega)
    rwa [e] at this
  refine ⟨v1, v2, (key v (by omega)).2 (by omega), ?_⟩
  have k := key (v - 1) (by omega)
  have e2 : n * (v - 1) = n * v - n := by rw [Int.mul_sub, Int.mul_one]
  show 0 < wk m W 0 (v - 1) g l 0 a 0
  by_cases c : wk m W 0 (v - 1) g l 0 a 0 ≤ 0
  · have := k.1 c; omega
  · omega
end Go.Proofs.YtafjmpaefikdcaaDoor
