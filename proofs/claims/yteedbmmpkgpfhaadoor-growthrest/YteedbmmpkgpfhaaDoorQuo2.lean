
/- What quotient of the program returns, or throws, in plain numbers, given what its division of two words comes to: no statement of the seat is proved here. -/
import Derived.Test.YteedbmmpkgpfhaaDoorQuot
namespace Go.Proofs.YteedbmmpkgpfhaaDoor
open Go.RowKit
set_option linter.unusedVariables false

/-- bits.Div64 at the two words of n, by d. -/
def DivAt (n : Nat) (d : Int) : Prop := ∀ w, Calls Tryd.prog 46 #[.int .u64 (hiW n : Nat), .int .u64 (loW n : Nat), .int .u64 d] w fun e w' => e = .returned (.tuple #[.int .u64 (quoN n d.toNat : Nat), .int .u64 (remN n d.toNat : Nat)]) ∧ Ext w w'

theorem up_zero (m f d : Int) (hd : 0 < d) : upB m f 0 d = false := by
  unfold upB
  split
  · simp; omega
  · split
    · simp; omega
    · rfl

theorem hi_of_quo (N D : Nat) (hD : 0 < D) (h : N / D ≤ 1000000000000000) : hiW N < D := by
  unfold hiW
  rw [Nat.div_lt_iff_lt_mul (by omega)]
  have h1 := Nat.div_add_mod N D
  have h2 := Nat.mod_lt N hD
  have h3 : D * (N / D) ≤ D * 1000000000000000 := Nat.mul_le_mul_left _ h
  omega

theorem rnd_nn (m : Int) (N D : Nat) : rnd m (N : Int) (D : Int) = ((N / D : Nat) : Int) + if upB m ((N / D : Nat) : Int) ((N % D : Nat) : Int) (D : Int) then 1 else 0 := by
  unfold rnd
  rw [← Int.natCast_ediv, ← Int.natCast_emod]

theorem rnd_neg_none (m : Int) (N D : Nat) (hD : 0 < D) (h : N % D = 0) : rnd m (-(N : Int)) (D : Int) = -((N / D : Nat) : Int) := by
  unfold rnd
  obtain ⟨e1, e2⟩ := neg_div_none N D hD h
  rw [e1, e2, up_zero _ _ _ (by omega)]
  simp

theorem rnd_neg_rest (m : Int) (N D : Nat) (hD : 0 < D) (h : 0 < N % D) :
    rnd m (-(N : Int)) (D : Int) = (-((N / D : Nat) : Int) - 1) + if upB m (-((N / D : Nat) : Int) - 1) ((D : Int) - ((N % D : Nat) : Int)) (D : Int) then 1 else 0 := by
  unfold rnd
  obtain ⟨e1, e2⟩ := neg_div_rest N D hD h
  rw [e1, e2]

/-- What fits, rounded, has a size that fits. -/
theorem fit_size (m : Int) (N D : Nat) (hD : 0 < D) (s : Bool) (h : Fit (rnd m (if s then -(N : Int) else (N : Int)) (D : Int))) : N / D ≤ 1000000000000000 := by
  obtain ⟨h1, h2⟩ := h
  cases s
  · simp only [Bool.false_eq_true, if_false] at h1 h2
    rw [rnd_nn] at h2
    split at h2 <;> omega
  · simp only [if_true] at h1 h2
    by_cases h0 : N % D = 0
    · rw [rnd_neg_none m N D hD h0] at h1; omega
    · rw [rnd_neg_rest m N D hD (by omega)] at h1
      split at h1 <;> omega

theorem multiply_hid (a b : Int) (ha : I64 a) (hb : I64 b) (s : Bool) (hs : sgn a b = s) :
    Hid (∀ w, Calls Tryd.prog 55 #[.int .i64 a, .int .i64 b] w fun e w' => e = .returned (.tuple #[.int .u64 (hiW (mag a * mag b) : Nat), .int .u64 (loW (mag a * mag b) : Nat), .bool s]) ∧ w' = w) := by
  subst hs
  exact fun w => multiply_any a b w ha hb

theorem quot_ok (m a b d : Int) (w : World) (hm : m = 1 ∨ m = 2 ∨ m = 3) (ha : I64 a) (hb : I64 b) (hd : 0 < d) (hd2 : d ≤ 9223372036854775807)
    (Hdiv : hiW (mag a * mag b) < d.toNat → DivAt (mag a * mag b) d) (hf : Fit (rnd m (a * b) d)) :
    Calls Tryd.prog 48 #[.agg #[.int .i64 m], .int .i64 a, .int .i64 b, .int .i64 d] w fun e w' => e = .returned (.int .i64 (rnd m (a * b) d)) ∧ Ext w w' := by
  have hp := prod_mag a b
  cases hs : sgn a b
  all_goals
    have HM := multiply_hid a b ha hb _ hs
    rw [hs] at hp
    rw [hp] at hf ⊢
    clear hp
    generalize mag a * mag b = N at *
    obtain ⟨D, rfl⟩ := Int.eq_ofNat_of_zero_le (Int.le_of_lt hd)
    have hD : 0 < D := by omega
    have hsz := fit_size m N D hD _ hf
    have hhi := hi_of_quo N D hD hsz
    have HD := Hdiv (by simpa using hhi)
    unfold DivAt quoN remN at HD
    rw [Int.toNat_natCast] at HD
    have hr := Nat.mod_lt N hD
    have hq0 : (0 : Int) ≤ ((N / D : Nat) : Int) := Int.natCast_nonneg _
    obtain ⟨f1, f2⟩ := hf
  · simp only [Bool.false_eq_true, if_false] at f1 f2 ⊢
    rw [rnd_nn] at f1 f2 ⊢
    cases hu : upB m ((N / D : Nat) : Int) ((N % D : Nat) : Int) (D : Int)
    · simp only [hu, Bool.false_eq_true, if_false, Int.add_zero] at f1 f2 ⊢
      exact quot_Ad m a b D _ _ _ _ w HM HD hm hd hd2 (by omega) (by omega) (by omega) (by omega) (by omega) hu f1 f2
    · simp only [hu, if_true] at f1 f2 ⊢
      exact quot_Au m a b D _ _ _ _ w HM HD hm hd hd2 (by omega) (by omega) (by omega) (by omega) (by omega) hu f1 f2
  · simp only [if_true] at f1 f2 ⊢
    by_cases h0 : N % D = 0
    · rw [rnd_neg_none m N D hD h0] at f1 f2 ⊢
      rw [h0] at HD
      exact quot_Bd m a b D _ _ _ w HM HD hm hd hd2 (by omega) (by omega) (by omega) (up_zero _ _ _ hd) f1 f2
    · rw [rnd_neg_rest m N D hD (by omega)] at f1 f2 ⊢
      cases hu : upB m (-((N / D : Nat) : Int) - 1) ((D : Int) - ((N % D : Nat) : Int)) (D : Int)
      · simp only [hu, Bool.false_eq_true, if_false, Int.add_zero] at f1 f2 ⊢
        exact quot_Cd m a b D _ _ _ _ w HM HD hm hd hd2 (by omega) (by omega) (by omega) (by omega) (by omega) hu f1 f2
      · simp only [hu, if_true] at f1 f2 ⊢
        rw [show (-((N / D : Nat) : Int) - 1 + 1) = -((N / D : Nat) : Int) from by omega] at f1 f2 ⊢
        exact quot_Cu m a b D _ _ _ _ w HM HD hm hd hd2 (by omega) (by omega) (by omega) (by omega) (by omega) hu f1 f2

theorem quot_no (m a b d : Int) (w : World) (hm : m = 1 ∨ m = 2 ∨ m = 3) (ha : I64 a) (hb : I64 b) (hd : 0 < d) (hd2 : d ≤ 9223372036854775807)
    (Hdiv : hiW (mag a * mag b) < d.toNat → DivAt (mag a * mag b) d) (hf : ¬ Fit (rnd m (a * b) d)) :
    Calls Tryd.prog 48 #[.agg #[.int .i64 m], .int .i64 a, .int .i64 b, .int .i64 d] w fun e w' => e = .panicked [{ v := .iface 24 (.int .i64 3), recovered := false }] ∧ Ext w w' := by
  have hp := prod_mag a b
  cases hs : sgn a b
  all_goals
    have HM := multiply_hid a b ha hb _ hs
    rw [hs] at hp
    rw [hp] at hf
    clear hp
    generalize mag a * mag b = N at *
    obtain ⟨D, rfl⟩ := Int.eq_ofNat_of_zero_le (Int.le_of_lt hd)
    have hD : 0 < D := by omega
    by_cases hhi : hiW N < D
    case neg => exact quot_hi m a b D _ _ _ w HM hm hd hd2 (by simp; omega)
    have HD := Hdiv (by simpa using hhi)
    unfold DivAt quoN remN at HD
    rw [Int.toNat_natCast] at HD
    have hr := Nat.mod_lt N hD
    have hq0 : (0 : Int) ≤ ((N / D : Nat) : Int) := Int.natCast_nonneg _
    by_cases hsz : N / D ≤ 1000000000000000
    case neg => exact quot_big m a b D _ _ _ _ _ w HM HD hm hd hd2 (by omega) (by simp; omega)
  · simp only [Bool.false_eq_true, if_false] at hf
    rw [rnd_nn] at hf
    unfold Fit at hf
    cases hu : upB m ((N / D : Nat) : Int) ((N % D : Nat) : Int) (D : Int)
    · simp only [hu, Bool.false_eq_true, if_false, Int.add_zero] at hf
      exact absurd ⟨by omega, by omega⟩ hf
    · simp only [hu, if_true] at hf
      exact quot_Aux m a b D _ _ _ _ w HM HD hm hd hd2 (by omega) (by omega) (by omega) (by omega) (by omega) hu hf
  · simp only [if_true] at hf
    by_cases h0 : N % D = 0
    · rw [rnd_neg_none m N D hD h0] at hf
      unfold Fit at hf
      exact absurd ⟨by omega, by omega⟩ hf
    · rw [rnd_neg_rest m N D hD (by omega)] at hf
      unfold Fit at hf
      cases hu : upB m (-((N / D : Nat) : Int) - 1) ((D : Int) - ((N % D : Nat) : Int)) (D : Int)
      · simp only [hu, Bool.false_eq_true, if_false, Int.add_zero] at hf
        exact quot_Cdx m a b D _ _ _ _ w HM HD hm hd hd2 (by omega) (by omega) (by omega) (by omega) (by omega) hu hf
      · simp only [hu, if_true] at hf
        exact absurd ⟨by omega, by omega⟩ hf

/-- What a face answers: a number that fits, or 0 and the reason. -/
def ans (v : Int) : Value := .tuple #[.int .i64 v, .int .i64 0]
def err (c : Int) : Value := .tuple #[.int .i64 0, .int .i64 c]

theorem divide_ok (m n d : Int) (w : World) (hm : m = 1 ∨ m = 2 ∨ m = 3) (hn : I64 n) (hd : 0 < d) (hd2 : d ≤ 9223372036854775807)
    (Hdiv : hiW (mag n) < d.toNat → DivAt (mag n) d) (hf : Fit (rnd m n d)) :
    Calls Tryd.prog 39 #[.agg #[.int .i64 m], .int .i64 n, .int .i64 d] w fun e w' => e = .returned (.tuple #[.int .i64 (rnd m n d), .int .i64 0]) ∧ Ext w w' := by
  have e1 : mag n * mag 1 = mag n := by simp [mag]
  have e2 : n * 1 = n := by omega
  refine div_of_ok m n d _ (fun w => ?_) w
  have := quot_ok m n 1 d w hm hn ⟨by omega, by omega⟩ hd hd2 (by rw [e1]; exact Hdiv) (by rw [e2]; exact hf)
  rw [e2] at this
  exact this
theorem divide_no (m n d : Int) (w : World) (hm : m = 1 ∨ m = 2 ∨ m = 3) (hn : I64 n) (hd : 0 < d) (hd2 : d ≤ 9223372036854775807)
    (Hdiv : hiW (mag n) < d.toNat → DivAt (mag n) d) (hf : ¬ Fit (rnd m n d)) :
    Calls Tryd.prog 39 #[.agg #[.int .i64 m], .int .i64 n, .int .i64 d] w fun e w' => e = .returned (.tuple #[.int .i64 0, .int .i64 3]) ∧ Ext w w' := by
  have e1 : mag n * mag 1 = mag n := by simp [mag]
  have e2 : n * 1 = n := by omega
  exact div_of_no m n d 3 (fun w => quot_no m n 1 d w hm hn ⟨by omega, by omega⟩ hd hd2 (by rw [e1]; exact Hdiv) (by rw [e2]; exact hf)) w
theorem divide_zero (n d : Int) (w : World) :
    Calls Tryd.prog 39 #[.agg #[.int .i64 0], .int .i64 n, .int .i64 d] w fun e w' => e = .returned (.tuple #[.int .i64 0, .int .i64 1]) ∧ Ext w w' :=
  div_of_no 0 n d 1 (fun w => quot_zero n 1 d w) w
theorem divide_below (m n d : Int) (w : World) (hm : m = 1 ∨ m = 2 ∨ m = 3) (hd : d ≤ 0) :
    Calls Tryd.prog 39 #[.agg #[.int .i64 m], .int .i64 n, .int .i64 d] w fun e w' => e = .returned (.tuple #[.int .i64 0, .int .i64 1]) ∧ Ext w w' :=
  div_of_no m n d 1 (fun w => quot_below m n 1 d w hm (by simp; omega)) w
set_option maxHeartbeats 400000 in
theorem div64_small (lo d : Int) (w : World) (h0 : 0 ≤ lo) (h1 : lo ≤ 18446744073709551615) (hd : 0 < d) (hd2 : d ≤ 9223372036854775807) :
    Calls Tryd.prog 46 #[.int .u64 0, .int .u64 lo, .int .u64 d] w fun e w' => e = .returned (.tuple #[.int .u64 (lo / d), .int .u64 (lo % d)]) ∧ Ext w w' := by
  go_enter Tryd.func46, Tryd.ntmps46
  go_wp2
  go_region
  all_goals
    go_wp2
    go_ret2
    exact ⟨rfl, (Ext.refl _).drew⟩

end Go.Proofs.YteedbmmpkgpfhaaDoor
