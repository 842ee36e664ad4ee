/- Months in two steps and in one, by themselves; plain arithmetic, no program is spoken of here. -/
import Derived.Test.YtnpclkkjhbljbaaDoorMon0
namespace Go.Proofs.YtnpclkkjhbljbaaDoor
set_option linter.unusedVariables false

theorem mi_of (n : Int) (y : Int) (h1 : -25567 ≤ n) (h2 : n ≤ 84370) (h : n < st (y + 1)) : mi (yOf n) (mOf n) ≤ (y - 1900) * 12 + 11 := by
  obtain ⟨v, e⟩ := ofDay n h1 h2
  have b := cum_bd (yOf n) (mOf n) v.m1 (by have := v.m2; omega)
  have d1 := v.d1
  have m2 := v.m2
  have hy : yOf n ≤ y := by
    rcases Int.lt_or_le y (yOf n) with k | k
    · have := st_mono (y + 1) (yOf n) (by omega)
      unfold num at e
      omega
    · exact k
  unfold mi
  omega
/-- In one step never earlier than in two, and at most three days behind. -/
theorem two (n a b : Int) (h1 : Has n a) (h2 : Has n (a + b)) :
    Has (nA n a) b ∧ nA (nA n a) b ≤ nA n (a + b) ∧ nA n (a + b) - nA (nA n a) b ≤ 3 ∧ (dOf n ≤ 28 → nA (nA n a) b = nA n (a + b)) ∧ yOf (nA (nA n a) b) = yOf (nA n (a + b)) ∧ mOf (nA (nA n a) b) = mOf (nA n (a + b)) := by
  obtain ⟨V, e1, e2, c1, c2⟩ := nA_date h1
  have h3 : Has (nA n a) b := ⟨c1, c2, by rw [e1, Int.add_assoc]; exact h2.t1, by rw [e1, Int.add_assoc]; exact h2.t2⟩
  obtain ⟨v, en⟩ := ofDay n h1.n1 h1.n2
  have d1 := v.d1; have d2 := v.d31
  have k3 := nA_ok h3
  have k2 := nA_ok h2
  rw [e1, e2, Int.add_assoc] at k3
  have q1 := dO_bd (mi (yOf n) (mOf n) + a) (dOf n) h1.t1 h1.t2 d1
  have q2 := dO_bd (mi (yOf n) (mOf n) + (a + b)) (dOf n) h2.t1 h2.t2 d1
  have q3 := dO_bd (mi (yOf n) (mOf n) + (a + b)) (dO (mi (yOf n) (mOf n) + a) (dOf n)) h2.t1 h2.t2 q1.1
  obtain ⟨o1, o2, o3, o4⟩ := O_bd _ h1.t1 h1.t2
  obtain ⟨p1, p2, p3, p4⟩ := O_bd _ h2.t1 h2.t2
  have r1 := dim_bd (yO (mi (yOf n) (mOf n) + a)) _ o3 o4
  have r2 := dim_bd (yO (mi (yOf n) (mOf n) + (a + b))) _ p3 p4
  have V3 := O_vld _ _ h2.t1 h2.t2 q1.1
  have V2 := O_vld _ _ h2.t1 h2.t2 d1
  have s3 := ofDay_of V3 k3.symm
  have s2 := ofDay_of V2 k2.symm
  refine ⟨h3, ?_, ?_, ?_, by rw [← s3.1, ← s2.1], by rw [← s3.2.1, ← s2.2.1]⟩
  · rw [k3, k2]; unfold num; omega
  · rw [k3, k2]; unfold num; omega
  · intro hd; rw [k3, k2]; unfold num; omega
theorem nA_zero (n : Int) (h : Has n 0) : nA n 0 = n := by
  obtain ⟨v, e⟩ := ofDay n h.n1 h.n2
  obtain ⟨o1, o2⟩ := O_mi v
  rw [nA_ok h, Int.add_zero, o1, o2]
  have d2 := v.d2
  have : dO (mi (yOf n) (mOf n)) (dOf n) = dOf n := by unfold dO; rw [o1, o2, if_neg (by omega)]
  rw [this, e]
theorem has_zero (n : Int) (h1 : -25567 ≤ n) (h2 : n ≤ 84370) : Has n 0 := by
  have b := mi_bd (ofDay n h1 h2).1
  exact ⟨h1, h2, by omega, by omega⟩
/-- Forwards, and back again. -/
theorem back4 (n k : Int) (h : Has n k) : nE (nA n k) (-k) = 0 ∧ (dOf n ≤ 28 → nA (nA n k) (-k) = n) ∧ nA (nA n k) (-k) ≤ n ∧ n - nA (nA n k) (-k) ≤ 3 := by
  have z := has_zero n h.n1 h.n2
  have hz : k + -k = 0 := by omega
  have t := two n k (-k) h (by rw [hz]; exact z)
  rw [hz, nA_zero n z] at t
  exact ⟨nE_ok t.1, t.2.2.2.1, t.2.1, t.2.2.1⟩
theorem ends4 (n a b : Int) (h1 : 10000 ≤ n) (h2 : n ≤ 49999) (a1 : 0 ≤ a) (a2 : a ≤ 299) (b1 : 0 ≤ b) (b2 : b ≤ 299) : Has n a ∧ Has n (a + b) := by
  have s : st (2106 + 1) = 50038 := by decide
  have m := mi_of n 2106 (by omega) (by omega) (by omega)
  have b := mi_bd (ofDay n (by omega) (by omega)).1
  exact ⟨⟨by omega, by omega, by omega, by omega⟩, ⟨by omega, by omega, by omega, by omega⟩⟩
end Go.Proofs.YtnpclkkjhbljbaaDoor
