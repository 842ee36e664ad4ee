
/- What a bearer bears, in plain numbers: no program is spoken of here. -/
import Derived.Test.YtafjmpaefikdcaaGreatDoorM12
namespace Go.Proofs.YtafjmpaefikdcaaGreatDoor.L12
set_option linter.unusedVariables false

/-- A rest that may be carried: of HalfUp half of the whole at most, of Down less than the whole, and not below 0. -/
def Rst (m W r : Int) : Prop := (m = 1 ∧ -W ≤ 2 * r ∧ 2 * r < W) ∨ (m = 3 ∧ 0 ≤ r ∧ r < W)
/-- What is borne of what is exact, and the rest then. -/
def bq (m W r E : Int) : Int := rnd m (E + r) W
def br (m W r E : Int) : Int := E + r - W * bq m W r E

theorem Rst.ways {m W r : Int} (h : Rst m W r) : m = 1 ∨ m = 2 ∨ m = 3 := by rcases h with h | h <;> omega
theorem Rst.bd {m W r : Int} (h : Rst m W r) (hW : 0 < W) : -W < r ∧ r < W := by rcases h with h | h <;> omega
theorem rst_zero {m W : Int} (hm : m = 1 ∨ m = 3) (hW : 0 < W) : Rst m W 0 := by
  rcases hm with rfl | rfl
  · exact Or.inl ⟨rfl, by omega, by omega⟩
  · exact Or.inr ⟨rfl, by omega, by omega⟩
theorem rnd_one (n d : Int) : rnd 1 n d = n / d + if d - n % d ≤ n % d then 1 else 0 := by
  simp [rnd, upB]
theorem rnd_three (n d : Int) : rnd 3 n d = n / d := by
  simp [rnd, upB]
theorem rnd_add (m x k W : Int) (hW : 0 < W) (hm : m = 1 ∨ m = 3) : rnd m (x + W * k) W = rnd m x W + k := by
  rcases hm with rfl | rfl
  · rw [rnd_one, rnd_one, Int.add_mul_ediv_left _ _ (by omega), Int.add_mul_emod_self_left]; omega
  · rw [rnd_three, rnd_three, Int.add_mul_ediv_left _ _ (by omega)]
theorem Rst.way {m W r : Int} (h : Rst m W r) : m = 1 ∨ m = 3 := by rcases h with h | h <;> omega
/-- What is borne: the whole times in what is exact, and once more at most. -/
theorem bq_parts {m W r E : Int} (h : Rst m W r) (hW : 0 < W) : bq m W r E = E / W + rnd m (E % W + r) W := by
  unfold bq
  have e : E + r = (E % W + r) + W * (E / W) := by have := Int.mul_ediv_add_emod E W; omega
  rw [e, rnd_add _ _ _ _ hW h.way]; omega
theorem div_two {n W : Int} (hW : 0 < W) (h1 : -W ≤ n) (h2 : n < 2 * W) : (n < 0 ∧ n / W = -1 ∧ n % W = n + W) ∨ (0 ≤ n ∧ n < W ∧ n / W = 0 ∧ n % W = n) ∨ (W ≤ n ∧ n / W = 1 ∧ n % W = n - W) := by
  by_cases c : n < 0
  · refine Or.inl ⟨c, ?_⟩
    have := (Int.ediv_emod_unique hW (a := n) (r := n + W) (q := -1)).2 ⟨by omega, by omega, by omega⟩
    exact this
  · by_cases c2 : n < W
    · exact Or.inr (Or.inl ⟨by omega, c2, Int.ediv_eq_zero_of_lt (by omega) c2, Int.emod_eq_of_lt (by omega) c2⟩)
    · refine Or.inr (Or.inr ⟨by omega, ?_⟩)
      have := (Int.ediv_emod_unique hW (a := n) (r := n - W) (q := 1)).2 ⟨by omega, by omega, by omega⟩
      exact this
/-- A rest, and less than the whole: none or one; and the rest then may be carried. -/
theorem more_one {m W r o : Int} (h : Rst m W r) (hW : 0 < W) (o1 : 0 ≤ o) (o2 : o < W) : (rnd m (o + r) W = 0 ∨ rnd m (o + r) W = 1) ∧ Rst m W (o + r - W * rnd m (o + r) W) := by
  rcases h with ⟨rfl, h1, h2⟩ | ⟨rfl, h1, h2⟩
  · rcases div_two (n := o + r) hW (by omega) (by omega) with ⟨c, d, e⟩ | ⟨c, c', d, e⟩ | ⟨c, d, e⟩
    · rw [rnd_one, d, e, if_pos (by omega)]; exact ⟨Or.inl (by omega), Or.inl ⟨rfl, by omega, by omega⟩⟩
    · rw [rnd_one, d, e]; split
      · exact ⟨Or.inr (by omega), Or.inl ⟨rfl, by omega, by omega⟩⟩
      · exact ⟨Or.inl (by omega), Or.inl ⟨rfl, by omega, by omega⟩⟩
    · rw [rnd_one, d, e, if_neg (by omega)]; exact ⟨Or.inr (by omega), Or.inl ⟨rfl, by omega, by omega⟩⟩
  · rcases div_two (n := o + r) hW (by omega) (by omega) with ⟨c, d, e⟩ | ⟨c, c', d, e⟩ | ⟨c, d, e⟩
    · omega
    · rw [rnd_three, d]; exact ⟨Or.inl (by omega), Or.inr ⟨rfl, by omega, by omega⟩⟩
    · rw [rnd_three, d]; exact ⟨Or.inr (by omega), Or.inr ⟨rfl, by omega, by omega⟩⟩
theorem br_parts {m W r E : Int} (h : Rst m W r) (hW : 0 < W) : br m W r E = E % W + r - W * rnd m (E % W + r) W := by
  unfold br
  rw [bq_parts h hW, Int.mul_add]
  have := Int.mul_ediv_add_emod E W
  omega
theorem br_rst {m W r E : Int} (h : Rst m W r) (hW : 0 < W) : Rst m W (br m W r E) := by
  rw [br_parts h hW]
  exact (more_one h hW (Int.emod_nonneg _ (by omega)) (Int.emod_lt_of_pos _ hW)).2
theorem bq_near {m W r E : Int} (h : Rst m W r) (hW : 0 < W) : E / W ≤ bq m W r E ∧ bq m W r E ≤ E / W + 1 := by
  rw [bq_parts h hW]
  have := (more_one h hW (Int.emod_nonneg E (by omega)) (Int.emod_lt_of_pos E hW)).1
  omega
theorem bq_nn {m W r E : Int} (h : Rst m W r) (hW : 0 < W) (hE : 0 ≤ E) : 0 ≤ bq m W r E :=
  Int.le_trans (Int.ediv_nonneg hE (by omega)) (bq_near h hW).1
/-- Two spans, one behind the other, bear what they bear as one. -/
theorem bq_add {m W r E F : Int} (h : Rst m W r) (hW : 0 < W) : bq m W r (E + F) = bq m W r E + bq m W (br m W r E) F := by
  have e : E + F + r = (F + br m W r E) + W * bq m W r E := by unfold br; omega
  show rnd m (E + F + r) W = _
  rw [e, rnd_add _ _ _ _ hW h.way]
  show bq m W (br m W r E) F + _ = _
  omega
theorem br_add {m W r E F : Int} (h : Rst m W r) (hW : 0 < W) : br m W r (E + F) = br m W (br m W r E) F := by
  unfold br
  rw [bq_add h hW, Int.mul_add]
  unfold br
  omega
theorem bq_zero {m W r : Int} (h : Rst m W r) (hW : 0 < W) : bq m W r 0 = 0 := by
  show rnd m (0 + r) W = 0
  rw [Int.zero_add]
  rcases h with ⟨rfl, h1, h2⟩ | ⟨rfl, h1, h2⟩
  · rcases div_two (n := r) hW (by omega) (by omega) with ⟨c, d, e⟩ | ⟨c, c', d, e⟩ | ⟨c, d, e⟩
    · rw [rnd_one, d, e, if_pos (by omega)]; rfl
    · rw [rnd_one, d, e, if_neg (by omega)]; rfl
    · omega
  · rw [rnd_three]; exact Int.ediv_eq_zero_of_lt h1 h2
theorem br_zero {m W r : Int} (h : Rst m W r) (hW : 0 < W) : br m W r 0 = r := by
  unfold br; rw [bq_zero h hW]; omega
theorem bq_mono {m W r E F : Int} (h : Rst m W r) (hW : 0 < W) (hEF : E ≤ F) : bq m W r E ≤ bq m W r F := by
  have := bq_add (E := E) (F := F - E) h hW
  rw [show E + (F - E) = F by omega] at this
  have := bq_nn (br_rst (E := E) h hW) hW (show 0 ≤ F - E by omega)
  omega
theorem mul3_nn {a b c : Int} (ha : 0 ≤ a) (hb : 0 ≤ b) (hc : 0 ≤ c) : 0 ≤ a * (b * c) := Int.mul_nonneg ha (Int.mul_nonneg hb hc)
theorem mul_le2 {a b A B : Int} (ha : 0 ≤ a) (hb : 0 ≤ b) (hA : a ≤ A) (hB : b ≤ B) : a * b ≤ A * B :=
  Int.le_trans (Int.mul_le_mul_of_nonneg_right hA hb) (Int.mul_le_mul_of_nonneg_left hB (Int.le_trans ha hA))
end Go.Proofs.YtafjmpaefikdcaaGreatDoor.L12