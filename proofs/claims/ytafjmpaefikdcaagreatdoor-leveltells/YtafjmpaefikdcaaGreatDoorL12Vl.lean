
/- Numbers by digits of a thousand million each, the lowest first: no program is spoken of here. -/
import Derived.Test.YtafjmpaefikdcaaGreatDoorL12Bp
namespace Go.Proofs.YtafjmpaefikdcaaGreatDoor.L12
set_option linter.unusedVariables false

/-- A number by its digits. -/
def val : List Int → Int
  | [] => 0
  | d :: l => d + 1000000000 * val l
/-- Each a digit. -/
def Dgs (l : List Int) : Prop := ∀ x ∈ l, 0 ≤ x ∧ x < 1000000000
/-- A thousand million, so often times itself. -/
def pw (k : Nat) : Int := 1000000000 ^ k
theorem pw_succ (k : Nat) : pw (k + 1) = 1000000000 * pw k := by unfold pw; rw [Int.pow_succ]; omega
theorem pw_zero : pw 0 = 1 := rfl
theorem pw_pos (k : Nat) : 0 < pw k := Int.pow_pos (by omega)
theorem val_append (l m : List Int) : val (l ++ m) = val l + pw l.length * val m := by
  induction l with
  | nil => simp [val, pw_zero]
  | cons d l ih =>
    show d + 1000000000 * val (l ++ m) = d + 1000000000 * val l + pw (l.length + 1) * val m
    rw [ih, pw_succ, Int.mul_add, Int.mul_assoc]; omega
theorem val_snoc (l : List Int) (d : Int) : val (l ++ [d]) = val l + pw l.length * d := by
  rw [val_append]; simp [val]
theorem Dgs.snoc {l : List Int} (h : Dgs l) {d : Int} (h0 : 0 ≤ d) (h1 : d < 1000000000) : Dgs (l ++ [d]) := by
  intro x hx
  rcases List.mem_append.1 hx with hx | hx
  · exact h x hx
  · obtain rfl : x = d := by simpa using hx
    exact ⟨h0, h1⟩
theorem Dgs.set {l : List Int} (h : Dgs l) {d : Int} (i : Nat) (h0 : 0 ≤ d) (h1 : d < 1000000000) : Dgs (l.set i d) := by
  intro x hx
  rcases List.mem_or_eq_of_mem_set hx with hx | rfl
  · exact h x hx
  · exact ⟨h0, h1⟩
theorem val_nn {l : List Int} (h : Dgs l) : 0 ≤ val l := by
  induction l with
  | nil => exact Int.le_refl _
  | cons d l ih =>
    have := ih fun x hx => h x (List.mem_cons_of_mem _ hx)
    have := (h d (List.mem_cons_self ..)).1
    show 0 ≤ d + 1000000000 * val l
    omega
theorem val_drop {l : List Int} {k : Nat} {x : Int} (h : l[k]? = some x) : val (l.drop k) = x + 1000000000 * val (l.drop (k + 1)) := by
  obtain ⟨hk, rfl⟩ := List.getElem?_eq_some_iff.1 h
  rw [List.drop_eq_getElem_cons hk]
  rfl
theorem val_set {l : List Int} {i : Nat} {x : Int} (h : l[i]? = some x) (y : Int) : val (l.set i y) = val l + pw i * (y - x) := by
  induction l generalizing i with
  | nil => simp at h
  | cons d l ih =>
    cases i with
    | zero =>
      obtain rfl : d = x := by simpa using h
      show y + 1000000000 * val l = d + 1000000000 * val l + 1 * (y - d)
      omega
    | succ i =>
      have := ih (by simpa using h)
      show d + 1000000000 * val (l.set i y) = d + 1000000000 * val l + pw (i + 1) * (y - x)
      rw [this, pw_succ, Int.mul_add, Int.mul_assoc]; omega
/-- A round of the product. -/
theorem tm_round {o : List Int} {d c by' X T p : Int} (hp : pw o.length = p) (h : val o + p * (c + by' * (d + 1000000000 * X)) = T) :
    val (o ++ [(d * by' + c) % 1000000000]) + (1000000000 * p) * ((d * by' + c) / 1000000000 + by' * X) = T := by
  rw [val_snoc, hp, ← h]
  have e := Int.mul_ediv_add_emod (d * by' + c) 1000000000
  generalize (d * by' + c) / 1000000000 = q at *
  generalize (d * by' + c) % 1000000000 = r at *
  have : c + by' * (d + 1000000000 * X) = 1000000000 * q + r + 1000000000 * (by' * X) := by
    rw [Int.mul_add, Int.mul_left_comm by' 1000000000 X, Int.mul_comm by' d]; omega
  rw [this, Int.mul_assoc 1000000000 p, Int.mul_add p, Int.mul_add p, Int.mul_add p, Int.mul_left_comm p 1000000000 q, Int.mul_left_comm p 1000000000]
  omega
theorem fin_round {o : List Int} {c T p : Int} (hp : pw o.length = p) (h : val o + p * c = T) :
    val (o ++ [c % 1000000000]) + (1000000000 * p) * (c / 1000000000) = T := by
  rw [val_snoc, hp, ← h]
  have e := Int.mul_ediv_add_emod c 1000000000
  generalize c / 1000000000 = q at *
  generalize c % 1000000000 = r at *
  rw [← e, Int.mul_add, Int.mul_assoc, Int.mul_left_comm p 1000000000 q]
  omega
/-- A round of the sum. -/
theorem pl_round {o : List Int} {i : Nat} {x v T p : Int} (hx : o[i]? = some x) (hp : pw i = p) (h : val o + p * v = T) :
    val (o.set i ((v + x) % 1000000000)) + (1000000000 * p) * ((v + x) / 1000000000) = T := by
  rw [val_set hx, hp, ← h]
  have e := Int.mul_ediv_add_emod (v + x) 1000000000
  generalize (v + x) / 1000000000 = q at *
  generalize (v + x) % 1000000000 = r at *
  obtain rfl : v = 1000000000 * q + (r - x) := by omega
  rw [Int.mul_add, Int.mul_assoc, Int.mul_left_comm p 1000000000 q]
  omega
theorem val_le_drop {l : List Int} (h : Dgs l) (k : Nat) (hk : k ≤ l.length) : pw k * val (l.drop k) ≤ val l := by
  have e := val_append (l.take k) (l.drop k)
  rw [List.take_append_drop, List.length_take, Nat.min_eq_left hk] at e
  have := val_nn (l := l.take k) fun x hx => h x (List.mem_of_mem_take hx)
  omega
theorem pw_two (i : Nat) (hi : 1 ≤ i) : 1000000000000000000 ≤ pw (i + 1) := by
  obtain ⟨j, rfl⟩ : ∃ j, i = j + 1 := ⟨i - 1, by omega⟩
  rw [pw_succ, pw_succ]
  have := pw_pos j
  omega
end Go.Proofs.YtafjmpaefikdcaaGreatDoor.L12