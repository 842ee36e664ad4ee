/- Which of two texts of money stands ahead: plain lists; no statement of the seat is proved here. -/
import Derived.Test.YtpmgbagnaaahoabDoorPure2
namespace Go.Proofs.YtpmgbagnaaahoabDoor
open Go.RowKit Go.Lib
set_option linter.unusedVariables false

theorem pow_le_of_digits (y : Nat) : 2 ≤ nDigits y → 10 ^ (nDigits y - 1) ≤ y := by
  induction y using Nat.strongRecOn with
  | ind y ih =>
    intro h
    by_cases h1 : y < 10
    · rw [nDigits_small h1] at h; omega
    · rw [nDigits_big h1]
      by_cases h2 : y / 10 < 10
      · rw [nDigits_small h2]; simp; omega
      · have h3 := nDigits_big h2
        have h4 := nDigits_pos (y / 10 / 10)
        have := ih (y / 10) (by omega) (by omega)
        have e : nDigits (y / 10) + 1 - 1 = (nDigits (y / 10) - 1) + 1 := by omega
        rw [e, Nat.pow_succ]
        omega
theorem digits_lt (x y : Nat) (h : nDigits x < nDigits y) : x < y := by
  have h1 := lt_pow_nDigits x
  have h2 := nDigits_pos x
  have h3 := pow_le_of_digits y (by omega)
  have h4 : 10 ^ nDigits x ≤ 10 ^ (nDigits y - 1) := Nat.pow_le_pow_right (by omega) (by omega)
  omega
theorem bl_append : ∀ (x x' y y' : List UInt8), x.length = x'.length → Op.bytesLess (x ++ y) (x' ++ y') = (Op.bytesLess x x' || (x == x' && Op.bytesLess y y'))
  | [], [], y, y', _ => by simp [Op.bytesLess]
  | [], _ :: _, _, _, h => by simp at h
  | _ :: _, [], _, _, h => by simp at h
  | a :: x, b :: x', y, y', h => by
    have ih := bl_append x x' y y' (by simpa using h)
    simp only [List.cons_append, Op.bytesLess, ih]
    by_cases hab : a = b
    · subst hab
      simp
    · have h2 : (a == b) = false := by simpa using hab
      simp [h2]
theorem bl_digits : ∀ (x y : List UInt8), x.length = y.length → x.all isD = true → y.all isD = true → Op.bytesLess x y = decide (valL x < valL y)
  | [], [], _, _, _ => by simp [Op.bytesLess, valL]
  | [], _ :: _, h, _, _ => by simp at h
  | _ :: _, [], h, _, _ => by simp at h
  | a :: x, b :: y, h, hx, hy => by
    simp only [List.all_cons, Bool.and_eq_true] at hx hy
    have hl : x.length = y.length := by simpa using h
    have ih := bl_digits x y hl hx.2 hy.2
    have ra := isD_range hx.1
    have rb := isD_range hy.1
    have vx := valL_lt x hx.2
    have vy := valL_lt y hy.2
    rw [valL_cons, valL_cons, ← hl]
    rw [← hl] at vy
    generalize 10 ^ x.length = p at *
    simp only [Op.bytesLess, ih]
    have lt_iff : (a < b) ↔ a.toNat < b.toNat := UInt8.lt_iff_toNat_lt
    by_cases hab : a.toNat < b.toNat
    · have h1 : (a.toNat - 48) * p + valL x < (b.toNat - 48) * p + valL y := by
        have : (a.toNat - 48 + 1) * p ≤ (b.toNat - 48) * p := Nat.mul_le_mul_right _ (by omega)
        rw [Nat.add_mul] at this
        omega
      simp [lt_iff, hab, h1]
    · by_cases he : a = b
      · subst he
        simp
      · have hne : b.toNat < a.toNat := by
          have : a.toNat ≠ b.toNat := fun e => he (UInt8.toNat_inj.mp e)
          omega
        have h1 : ¬ (a.toNat - 48) * p + valL x < (b.toNat - 48) * p + valL y := by
          have : (b.toNat - 48 + 1) * p ≤ (a.toNat - 48) * p := Nat.mul_le_mul_right _ (by omega)
          rw [Nat.add_mul] at this
          omega
        simp [lt_iff, hab, h1, he]

theorem money_nn (v : Int) (h : 0 ≤ v) : moneyL v = decDigits (v.natAbs / 100) ++ 46 :: fix 2 v.natAbs := by
  unfold moneyL signL
  rw [if_neg (by omega)]; rfl
theorem money_length (v : Int) (h : 0 ≤ v) : (moneyL v).length = nDigits (v.natAbs / 100) + 3 := by
  rw [money_nn v h, List.length_append, List.length_cons, fix_length, Lib.decDigits_length]
theorem money_less (a b : Int) (ha : 0 ≤ a) (hb : 0 ≤ b) (h : (moneyL a).length < (moneyL b).length) : a < b := by
  rw [money_length a ha, money_length b hb] at h
  have := digits_lt (a.natAbs / 100) (b.natAbs / 100) (by omega)
  omega
theorem money_lex (a b : Int) (ha : 0 ≤ a) (hb : 0 ≤ b) (h : (moneyL a).length = (moneyL b).length) : Op.bytesLess (moneyL a) (moneyL b) = decide (a < b) := by
  rw [money_length a ha, money_length b hb] at h
  have hd : (decDigits (a.natAbs / 100)).length = (decDigits (b.natAbs / 100)).length := by rw [Lib.decDigits_length, Lib.decDigits_length]; omega
  rw [money_nn a ha, money_nn b hb, bl_append _ _ _ _ hd]
  rw [bl_digits _ _ hd (decDigits_all _) (decDigits_all _), valL_decDigits, valL_decDigits]
  have hf : Op.bytesLess (46 :: fix 2 a.natAbs) (46 :: fix 2 b.natAbs) = decide (a.natAbs % 100 < b.natAbs % 100) := by
    have := bl_digits (fix 2 a.natAbs) (fix 2 b.natAbs) (by rw [fix_length, fix_length]) (fix_all _ _) (fix_all _ _)
    rw [valL_fix, valL_fix] at this
    simp only [Op.bytesLess, this]
    simp
  rw [hf]
  by_cases h1 : a.natAbs / 100 < b.natAbs / 100
  · have : a < b := by omega
    simp [h1, this]
  · by_cases h2 : a.natAbs / 100 = b.natAbs / 100
    · rw [h2]
      simp only [beq_self_eq_true, Bool.true_and]
      by_cases h3 : a.natAbs % 100 < b.natAbs % 100
      · have : a < b := by omega
        simp [h3, this]
      · have : ¬ a < b := by omega
        simp [h3, this]
    · have h4 : (decDigits (a.natAbs / 100) == decDigits (b.natAbs / 100)) = false := by
        simp
        intro e
        have := congrArg valL e
        rw [valL_decDigits, valL_decDigits] at this
        exact h2 this
      have : ¬ a < b := by omega
      simp [h1, h4, this]
theorem money_inj (a b : Int) (ha : I64 a) (hb : I64 b) (fa : a.natAbs ≤ 1000000000000000) (fb : b.natAbs ≤ 1000000000000000) : (moneyL a = moneyL b) ↔ a = b := by
  constructor
  · intro h
    have h1 := take_money a ha
    have h2 := take_money b hb
    rw [if_pos fa] at h1
    rw [if_pos fb] at h2
    rw [h, h2] at h1
    exact (congrArg Prod.fst h1).symm
  · intro h; rw [h]
end Go.Proofs.YtpmgbagnaaahoabDoor
