/- The days of instalments, one by one, by themselves; plain arithmetic, no program is spoken of here. -/
import Derived.Test.YtnpclkkjhbljbaaDoorMon4
import Derived.Test.YtnpclkkjhbljbaaDoorMon8
namespace Go.Proofs.YtnpclkkjhbljbaaDoor
open Go.RowKit
set_option linter.unusedVariables false

theorem step4 (n x : Int) (h : Has n x) : (dOf (nA n x) = dOf n ∨ (dOf (nA n x) = dim (yOf (nA n x)) (mOf (nA n x)) ∧ dOf (nA n x) < dOf n)) ∧ 12 * yOf (nA n x) + mOf (nA n x) - (12 * yOf n + mOf n) = x := by
  obtain ⟨V, e1, e2, c1, c2⟩ := nA_date h
  obtain ⟨v, en⟩ := ofDay n h.n1 h.n2
  have q := dO_bd _ (dOf n) h.t1 h.t2 v.d1
  rw [← e2, ← e1, (O_mi V).1, (O_mi V).2] at q
  refine ⟨by omega, ?_⟩
  unfold mi at e1
  omega
theorem rise4 (n x z : Int) (h : Has n x) (k : Has n z) (hx : x < z) : nA n x < nA n z := by
  obtain ⟨V, e1, e2, c1, c2⟩ := nA_date h
  obtain ⟨U, f1, f2, d1, d2⟩ := nA_date k
  have := mi_lt V U (by rw [e1, f1]; omega)
  rwa [(ofDay _ c1 c2).2, (ofDay _ d1 d2).2] at this
theorem rise0 (n x : Int) (h : Has n x) (hx : 0 < x) : n < nA n x := by
  have z := has_zero n h.n1 h.n2
  have := rise4 n 0 x z h hx
  rwa [nA_zero n z] at this
theorem all4 (n ev : Int) (T j : Nat) (h1 : -25567 ≤ n) (h2 : n ≤ 74432) (e1 : 1 ≤ ev) (e2 : ev ≤ 12) (t2 : T ≤ 24) (hj : j < T) : Has n (ev * ((j : Int) + 1)) := by
  have s : st (2173 + 1) = 74510 := by decide
  have m := mi_of n 2173 (by omega) (by omega) (by omega)
  have b := mi_bd (ofDay n (by omega) (by omega)).1
  have a : ev * 1 ≤ ev * ((j : Int) + 1) := Int.mul_le_mul_of_nonneg_left (by omega) (by omega)
  have c : ev * ((j : Int) + 1) ≤ 12 * ((j : Int) + 1) := Int.mul_le_mul_of_nonneg_right e2 (by omega)
  exact ⟨by omega, by omega, by omega, by omega⟩
/-- What is read of the k-th day. -/
structure Step (n ev : Int) (k : Nat) (y m d : Int) : Prop where
  v : Vld y m d
  dd : d = dOf n ∨ (dim y m = d ∧ d < dOf n)
  mm : 12 * y + m - (12 * yOf n + mOf n) = ((k : Int) + 1) * ev
  up : n < serA n ev k
  b1 : -25567 ≤ serA n ev k
  b2 : serA n ev k ≤ 84370
theorem step_of (n ev : Int) (T k : Nat) (h1 : -25567 ≤ n) (h2 : n ≤ 74432) (e1 : 1 ≤ ev) (e2 : ev ≤ 12) (t2 : T ≤ 24) (hk : k < T) : Step n ev k (yOf (serA n ev k)) (mOf (serA n ev k)) (dOf (serA n ev k)) := by
  have h := all4 n ev T k h1 h2 e1 e2 t2 hk
  obtain ⟨a, b⟩ := step4 n _ h
  obtain ⟨V, _, _, c1, c2⟩ := nA_date h
  have p := mul_bd ev k e1 e2 (by omega)
  refine ⟨V, ?_, by rw [mul_comm']; exact b, rise0 n _ h (by omega), c1, c2⟩
  rcases a with a | a
  · exact Or.inl a
  · exact Or.inr ⟨a.1.symm, a.2⟩
theorem step_up (n ev : Int) (T k : Nat) (h1 : -25567 ≤ n) (h2 : n ≤ 74432) (e1 : 1 ≤ ev) (e2 : ev ≤ 12) (t2 : T ≤ 24) (hk : k + 1 < T) : serA n ev k < serA n ev (k + 1) := by
  have a := all4 n ev T k h1 h2 e1 e2 t2 (by omega)
  have b := all4 n ev T (k + 1) h1 h2 e1 e2 t2 hk
  have c : ev * ((k : Int) + 1) < ev * (((k + 1 : Nat) : Int) + 1) := Int.mul_lt_mul_of_pos_left (by omega) (by omega)
  exact rise4 n _ _ a b c
end Go.Proofs.YtnpclkkjhbljbaaDoor
