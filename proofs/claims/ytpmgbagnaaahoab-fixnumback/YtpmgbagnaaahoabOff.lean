/- Rounding in plain numbers: how far off what is rounded is, and where it is even: no program is spoken of here. -/
import Derived.Test.YtpmgbagnaaahoabNum
import Derived.Laws.BitsLemmas
import Derived.RowKit
namespace Go.Proofs.Ytpmgbagnaaahoab
open Go.RowKit (wrap64)

/-- What a word with its lower bits alone is. -/
theorem mask12 (n : Int) : bits .and .i64 n 4095 = n % 4096 := by
  have h : (BitVec.ofInt 64 4095).toNat = 2 ^ 12 - 1 := by decide
  have key : (BitVec.ofInt 64 n &&& BitVec.ofInt 64 4095).toNat = (n % ((2 ^ 64 : Nat) : Int)).toNat % 2 ^ 12 := by
    rw [BitVec.toNat_and, BitVec.toNat_ofInt, h, Nat.and_two_pow_sub_one_eq_mod]
  show IntKind.i64.wrap ((BitVec.ofInt 64 n &&& BitVec.ofInt 64 4095).toNat : Nat) = n % 4096
  rw [key, IntKind.wrap_i64]
  omega
theorem mask16 (n : Int) : bits .and .i64 n 65535 = n % 65536 := by
  have h : (BitVec.ofInt 64 65535).toNat = 2 ^ 16 - 1 := by decide
  have key : (BitVec.ofInt 64 n &&& BitVec.ofInt 64 65535).toNat = (n % ((2 ^ 64 : Nat) : Int)).toNat % 2 ^ 16 := by
    rw [BitVec.toNat_and, BitVec.toNat_ofInt, h, Nat.and_two_pow_sub_one_eq_mod]
  show IntKind.i64.wrap ((BitVec.ofInt 64 n &&& BitVec.ofInt 64 65535).toNat : Nat) = n % 65536
  rw [key, IntKind.wrap_i64]
  omega

theorem d_of_mask12 (n : Int) : ∃ D, wrap64 (1 + bits .and .i64 n 4095) = D ∧ 1 ≤ D ∧ D ≤ 4096 := by
  refine ⟨_, rfl, ?_⟩
  rw [mask12]; unfold wrap64; omega
theorem d_of_mask16 (n : Int) : ∃ D, wrap64 (1 + bits .and .i64 n 65535) = D ∧ 1 ≤ D ∧ D ≤ 65536 := by
  refine ⟨_, rfl, ?_⟩
  rw [mask16]; unfold wrap64; omega

theorem m_of_mod (n : Int) : wrap64 (1 + wrap64 ((IntKind.u64.wrap n).tmod 3)) = 1 ∨ wrap64 (1 + wrap64 ((IntKind.u64.wrap n).tmod 3)) = 2 ∨ wrap64 (1 + wrap64 ((IntKind.u64.wrap n).tmod 3)) = 3 := by
  rw [IntKind.wrap_u64, Int.tmod_eq_emod_of_nonneg (Int.emod_nonneg n (by omega))]
  unfold wrap64
  omega

theorem tmod_bound (n k : Int) (hk : 0 < k) : -k < n.tmod k ∧ n.tmod k < k := by
  rcases Int.lt_or_le n 0 with h | h
  · have e : n.tmod k = -((-n) % k) := by
      rw [← Int.tmod_eq_emod_of_nonneg (by omega : 0 ≤ -n), Int.neg_tmod, Int.neg_neg]
    have h1 := Int.emod_nonneg (-n) (by omega : k ≠ 0)
    have h2 := Int.emod_lt_of_pos (-n) hk
    omega
  · rw [Int.tmod_eq_emod_of_nonneg h]
    have h1 := Int.emod_nonneg n (by omega : k ≠ 0)
    have h2 := Int.emod_lt_of_pos n hk
    omega

theorem n_of_tmod (n k : Int) (hk : 0 < k) : ∃ N, n.tmod k = N ∧ -k < N ∧ N < k := ⟨_, rfl, tmod_bound n k hk⟩

/-- Off by how much. -/
theorem off_down (n d : Int) (hd : 0 < d) : 0 ≤ n - rnd 3 n d * d ∧ n - rnd 3 n d * d < d := by
  obtain ⟨e, h1, h2⟩ := div_rest n d hd
  have : rnd 3 n d = n / d := by simp [rnd, upB]
  rw [this, Int.mul_comm (n / d) d]
  omega

theorem off_up (n d : Int) (hd : 0 < d) : -d ≤ 2 * (n - rnd 1 n d * d) ∧ 2 * (n - rnd 1 n d * d) < d := by
  obtain ⟨e, h1, h2⟩ := div_rest n d hd
  by_cases h : d - n % d ≤ n % d
  · have : rnd 1 n d = n / d + 1 := by simp [rnd, upB, h]
    rw [this, Int.add_mul, Int.mul_comm (n / d) d]
    omega
  · have : rnd 1 n d = n / d := by simp [rnd, upB, h]
    rw [this, Int.mul_comm (n / d) d]
    omega

theorem off_even (n d : Int) (hd : 0 < d) : (-d < 2 * (n - rnd 2 n d * d) ∧ 2 * (n - rnd 2 n d * d) < d) ∨ ((2 * (n - rnd 2 n d * d) = d ∨ 2 * (n - rnd 2 n d * d) = -d) ∧ rnd 2 n d % 2 = 0) := by
  obtain ⟨e, h1, h2⟩ := div_rest n d hd
  by_cases h : d - n % d < n % d
  · have : rnd 2 n d = n / d + 1 := by simp [rnd, upB, h]
    rw [this, Int.add_mul, Int.mul_comm (n / d) d]
    omega
  · by_cases h3 : n % d = d - n % d
    · by_cases h4 : n / d % 2 = 0
      · have : rnd 2 n d = n / d := by
          have : upB 2 (n / d) (n % d) d = false := by simp [upB, h4]; omega
          simp [rnd, this]
        rw [this, Int.mul_comm (n / d) d]
        omega
      · have : rnd 2 n d = n / d + 1 := by
          have : upB 2 (n / d) (n % d) d = true := by simp [upB, h4]; omega
          simp [rnd, this]
        rw [this, Int.add_mul, Int.mul_comm (n / d) d]
        omega
    · have : rnd 2 n d = n / d := by
        have : upB 2 (n / d) (n % d) d = false := by simp [upB, h3]; omega
        simp [rnd, this]
      rw [this, Int.mul_comm (n / d) d]
      omega

/-- Any of the three: off by less than d. -/
theorem off_any (m n d : Int) (hm : m = 1 ∨ m = 2 ∨ m = 3) (hd : 0 < d) : -d < n - rnd m n d * d ∧ n - rnd m n d * d < d := by
  rcases hm with rfl | rfl | rfl
  · have := off_up n d hd; omega
  · have := off_even n d hd; omega
  · have := off_down n d hd; omega

theorem le_of_mul (v d B : Int) (hd : 1 ≤ d) (h1 : -B ≤ v * d) (h2 : v * d ≤ B) : -B ≤ v ∧ v ≤ B := by
  rcases Int.lt_or_le v 0 with h | h
  · have : v * d ≤ v * 1 := Int.mul_le_mul_of_nonpos_left (by omega) hd
    omega
  · have : v * 1 ≤ v * d := Int.mul_le_mul_of_nonneg_left hd h
    omega

/-- What is small, rounded, is small. -/
theorem rnd_bound (m n d B : Int) (hm : m = 1 ∨ m = 2 ∨ m = 3) (hd : 1 ≤ d) (h1 : -B ≤ n) (h2 : n ≤ B) : -(B + d) ≤ rnd m n d * d ∧ rnd m n d * d ≤ B + d ∧ -(B + d) ≤ rnd m n d ∧ rnd m n d ≤ B + d := by
  have h := off_any m n d hm (by omega)
  have k := le_of_mul (rnd m n d) d (B + d) hd (by omega) (by omega)
  omega

end Go.Proofs.Ytpmgbagnaaahoab
