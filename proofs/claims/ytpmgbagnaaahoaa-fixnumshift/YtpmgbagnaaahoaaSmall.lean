/- Divide and Ratio of small numbers answer the number, rounded: no statement of the seat is proved here. -/
import Derived.Test.YtpmgbagnaaahoaaAwake
import Derived.Test.YtpmgbagnaaahoaaOff
namespace Go.Proofs.Ytpmgbagnaaahoaa
open Go.RowKit
set_option linter.unusedVariables false

theorem divide_small (m n d : Int) (w : World) (hm : m = 1 ∨ m = 2 ∨ m = 3) (hn1 : -100000000000000 ≤ n) (hn2 : n ≤ 100000000000000) (hd : 1 ≤ d) (hd2 : d ≤ 100000000000000) :
    Calls Try.prog 17 #[.agg #[.int .i64 m], .int .i64 n, .int .i64 d] w fun e w' => e = .returned (.tuple #[.int .i64 (rnd m n d), .int .i64 0]) ∧ Ext w w' := by
  have hb := rnd_bound m n d 100000000000000 hm hd hn1 hn2
  exact divide_ok m n d w hm ⟨by omega, by omega⟩ (by omega) (by omega) (fun _ => divAt_small _ _ (by unfold mag; omega) (by omega) (by omega)) ⟨by omega, by omega⟩

theorem of_any (m : Int) (w : World) (hm : m = 1 ∨ m = 2 ∨ m = 3) :
    Calls Try.prog 16 #[.int .i64 m] w fun e w' => e = .returned (.tuple #[.agg #[.int .i64 m], .int .i64 0]) ∧ Ext w w' := by
  rcases hm with rfl | rfl | rfl
  · exact of_1 w
  · exact of_2 w
  · exact of_3 w

theorem m_of_mod' (n : Int) : ∃ M, wrap64 (1 + wrap64 ((IntKind.u64.wrap n).tmod 3)) = M ∧ (M = 1 ∨ M = 2 ∨ M = 3) := ⟨_, rfl, m_of_mod n⟩

theorem k_of_tmod (n : Int) : ∃ K, wrap64 (2 * n.tmod 1000) = K ∧ -2000 ≤ K ∧ K ≤ 2000 ∧ K % 2 = 0 := by
  refine ⟨_, rfl, ?_⟩
  have h := tmod_bound n 1000 (by omega)
  unfold wrap64
  omega

theorem mul_bound (a b A B : Int) (hA : 0 ≤ A) (h1 : -A ≤ a) (h2 : a ≤ A) (h3 : 0 ≤ b) (h4 : b ≤ B) : -(A * B) ≤ a * b ∧ a * b ≤ A * B := by
  have e1 : a * b ≤ A * b := Int.mul_le_mul_of_nonneg_right h2 h3
  have e2 : -A * b ≤ a * b := Int.mul_le_mul_of_nonneg_right h1 h3
  have e3 : A * b ≤ A * B := Int.mul_le_mul_of_nonneg_left h4 hA
  rw [Int.neg_mul] at e2
  omega

theorem mag_mul_lt (a b B C : Int) (hB : 0 ≤ B) (h1 : -B ≤ a) (h2 : a ≤ B) (h3 : -C ≤ b) (h4 : b ≤ C) : ((mag a * mag b : Nat) : Int) ≤ B * C := by
  rw [Int.natCast_mul]
  exact Int.mul_le_mul (by unfold mag; omega) (by unfold mag; omega) (by omega) hB

theorem ratio_small (m a b d : Int) (w : World) (hm : m = 1 ∨ m = 2 ∨ m = 3) (ha1 : -1000000000 ≤ a) (ha2 : a ≤ 1000000000) (hb1 : -1000 ≤ b) (hb2 : b ≤ 1000) (hd : 1 ≤ d) (hd2 : d ≤ 100000000000000) :
    Calls Try.prog 18 #[.agg #[.int .i64 m], .int .i64 a, .int .i64 b, .int .i64 d] w fun e w' => e = .returned (.tuple #[.int .i64 (rnd m (a * b) d), .int .i64 0]) ∧ Ext w w' := by
  have hN := mag_mul_lt a b 1000000000 1000 (by omega) ha1 ha2 hb1 hb2
  have hp := prod_mag a b
  have h1 : -1000000000000 ≤ a * b := by rw [hp]; split <;> omega
  have h2 : a * b ≤ 1000000000000 := by rw [hp]; split <;> omega
  have hb := rnd_bound m (a * b) d 1000000000000 hm hd h1 h2
  exact ratio_ok m a b d w hm ⟨by omega, by omega⟩ ⟨by omega, by omega⟩ (by omega) (by omega) (fun _ => divAt_small _ _ (by omega) (by omega) (by omega)) ⟨by omega, by omega⟩

/-- Whole numbers more. -/
theorem rnd_shift (m n d k : Int) (hd : 0 < d) (hk : k % 2 = 0 ∨ m ≠ 2) : rnd m (n + k * d) d = rnd m n d + k := by
  unfold rnd
  rw [Int.add_mul_ediv_right _ _ (by omega), Int.add_mul_emod_self_right]
  have e : upB m (n / d + k) (n % d) d = upB m (n / d) (n % d) d := by
    unfold upB
    rcases hk with hk | hk
    · have : (n / d + k) % 2 = n / d % 2 := by omega
      rw [this]
    · simp [hk]
  rw [e]
  split <;> omega

/-- Both sides seven times. -/
theorem rnd_seven (m n d : Int) (hd : 0 < d) : rnd m (n * 7) (7 * d) = rnd m n d := by
  obtain ⟨e, h1, h2⟩ := div_rest n d hd
  have hu := (Int.ediv_emod_unique (by omega : 0 < 7 * d) (a := n * 7) (r := 7 * (n % d)) (q := n / d)).2 ⟨by rw [Int.mul_assoc]; omega, by omega, by omega⟩
  unfold rnd
  rw [hu.1, hu.2]
  have e : upB m (n / d) (7 * (n % d)) (7 * d) = upB m (n / d) (n % d) d := by
    unfold upB
    have e1 : (7 * d - 7 * (n % d) ≤ 7 * (n % d)) = (d - n % d ≤ n % d) := propext (by omega)
    have e2 : (7 * d - 7 * (n % d) < 7 * (n % d)) = (d - n % d < n % d) := propext (by omega)
    have e3 : (7 * (n % d) = 7 * d - 7 * (n % d)) = (n % d = d - n % d) := propext (by omega)
    simp only [e1, e2, e3]
  rw [e]

end Go.Proofs.Ytpmgbagnaaahoaa
