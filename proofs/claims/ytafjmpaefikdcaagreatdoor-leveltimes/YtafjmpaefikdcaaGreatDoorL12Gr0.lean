
/- The program's upTo, divide and bear of package growth, as contracts: no statement of the seat is proved here. -/
import Derived.Test.YtafjmpaefikdcaaGreatDoorL12Pts
import Derived.Test.YtafjmpaefikdcaaGreatDoorM12
import Derived.Test.YtafjmpaefikdcaaGreatDoorL12Bp
namespace Go.Proofs.YtafjmpaefikdcaaGreatDoor.L12
open Go.RowKit
set_option linter.unusedVariables false

theorem upTo_c (v m : Int) (w : World) :
    Calls Tryz.prog 90 #[.int .i64 v, .int .i64 m] w fun e w' => e = .returned (.bool (decide (0 ≤ v) && decide (v ≤ m))) ∧ w' = w := by
  by_cases h1 : 0 ≤ v <;> by_cases h2 : v ≤ m <;>
  · go_enter Tryz.func90, Tryz.ntmps90
    go_wp2
    go_ret
    exact ⟨by simp [h1, h2], rfl⟩
theorem gdiv_A (a b d hi lo q r : Int) (w : World)
    (Hmul : Hid (∀ w, Calls Tryz.prog 109 #[.int .u64 a, .int .u64 b] w fun e w' => e = .returned (.tuple #[.int .u64 hi, .int .u64 lo]) ∧ w' = w))
    (Hdiv : Hid (∀ w, Calls Tryz.prog 110 #[.int .u64 hi, .int .u64 lo, .int .u64 d] w fun e w' => e = .returned (.tuple #[.int .u64 q, .int .u64 r]) ∧ Ext w w'))
    (a0 : 0 ≤ a) (a1 : a ≤ 1000000000000000) (b0 : 0 ≤ b) (b1 : b ≤ 100000000000000000) (d0 : 0 < d) (d1 : d ≤ 200000000000000) (h0 : 0 ≤ hi) (hhi : hi < d) (q0 : 0 ≤ q) (q1 : q ≤ 1000000000000000) (r0 : 0 ≤ r) (r1 : r < d) :
    Calls Tryz.prog 91 #[.int .i64 a, .int .i64 b, .int .i64 d] w fun e w' => e = .returned (.tuple #[.int .i64 q, .int .i64 r]) ∧ Ext w w' := by
  go_enter Tryz.func91, Tryz.ntmps91
  go_wp2_with fail
  refine (Hmul.out _).mono ?_
  rintro e w1 ⟨rfl, rfl⟩
  go_wp2_with fail
  refine (need_ok _ _).mono ?_
  rintro e w1 ⟨rfl, rfl⟩
  go_wp2_with fail
  refine (Hdiv.out _).mono ?_
  rintro e w4 ⟨rfl, hy⟩
  replace hy := show Hid _ from hy
  go_wp2_with fail
  refine (need_ok _ _).mono ?_
  rintro e w1 ⟨rfl, rfl⟩
  go_wp2_with fail
  go_ret2
  exact ⟨rfl, hy.out⟩
theorem gdiv_hi (a b d hi lo : Int) (w : World)
    (Hmul : Hid (∀ w, Calls Tryz.prog 109 #[.int .u64 a, .int .u64 b] w fun e w' => e = .returned (.tuple #[.int .u64 hi, .int .u64 lo]) ∧ w' = w))
    (a0 : 0 ≤ a) (a1 : a ≤ 1000000000000000) (b0 : 0 ≤ b) (b1 : b ≤ 100000000000000000) (d0 : 0 < d) (d1 : d ≤ 200000000000000) (h0 : 0 ≤ hi) (hhi : decide (hi < d) = false) :
    Calls Tryz.prog 91 #[.int .i64 a, .int .i64 b, .int .i64 d] w fun e w' => e = .panicked [{ v := .iface 33 (.int .i64 3), recovered := false }] ∧ Ext w w' := by
  go_enter Tryz.func91, Tryz.ntmps91
  go_wp2_with fail
  refine (Hmul.out _).mono ?_
  rintro e w1 ⟨rfl, rfl⟩
  go_wp2_with fail
  refine (need_no _ _).mono ?_
  rintro e w1 ⟨rfl, rfl⟩
  go_wp2_with fail
  exact ⟨rfl, rfl, Ext.refl _⟩
theorem gdiv_big (a b d hi lo q r : Int) (w : World)
    (Hmul : Hid (∀ w, Calls Tryz.prog 109 #[.int .u64 a, .int .u64 b] w fun e w' => e = .returned (.tuple #[.int .u64 hi, .int .u64 lo]) ∧ w' = w))
    (Hdiv : Hid (∀ w, Calls Tryz.prog 110 #[.int .u64 hi, .int .u64 lo, .int .u64 d] w fun e w' => e = .returned (.tuple #[.int .u64 q, .int .u64 r]) ∧ Ext w w'))
    (a0 : 0 ≤ a) (a1 : a ≤ 1000000000000000) (b0 : 0 ≤ b) (b1 : b ≤ 100000000000000000) (d0 : 0 < d) (d1 : d ≤ 200000000000000) (h0 : 0 ≤ hi) (hhi : hi < d) (hq : decide (q ≤ 1000000000000000) = false) :
    Calls Tryz.prog 91 #[.int .i64 a, .int .i64 b, .int .i64 d] w fun e w' => e = .panicked [{ v := .iface 33 (.int .i64 3), recovered := false }] ∧ Ext w w' := by
  go_enter Tryz.func91, Tryz.ntmps91
  go_wp2_with fail
  refine (Hmul.out _).mono ?_
  rintro e w1 ⟨rfl, rfl⟩
  go_wp2_with fail
  refine (need_ok _ _).mono ?_
  rintro e w1 ⟨rfl, rfl⟩
  go_wp2_with fail
  refine (Hdiv.out _).mono ?_
  rintro e w4 ⟨rfl, hy⟩
  replace hy := show Hid _ from hy
  go_wp2_with fail
  refine (need_no _ _).mono ?_
  rintro e w1 ⟨rfl, rfl⟩
  go_wp2_with fail
  exact ⟨rfl, rfl, hy.out⟩
theorem gdiv_ok (a b d : Int) (w : World) (a0 : 0 ≤ a) (a1 : a ≤ 1000000000000000) (b0 : 0 ≤ b) (b1 : b ≤ 100000000000000000) (d0 : 0 < d) (d1 : d ≤ 200000000000000) (hq : a * b / d ≤ 1000000000000000) :
    Calls Tryz.prog 91 #[.int .i64 a, .int .i64 b, .int .i64 d] w fun e w' => e = .returned (.tuple #[.int .i64 (a * b / d), .int .i64 (a * b % d)]) ∧ Ext w w' := by
  obtain ⟨A, rfl⟩ := Int.eq_ofNat_of_zero_le a0
  obtain ⟨B, rfl⟩ := Int.eq_ofNat_of_zero_le b0
  obtain ⟨D, rfl⟩ := Int.eq_ofNat_of_zero_le (Int.le_of_lt d0)
  have e : (A : Int) * (B : Int) = ((A * B : Nat) : Int) := (Int.natCast_mul A B).symm
  rw [e] at hq ⊢
  rw [← Int.natCast_ediv] at hq ⊢
  rw [← Int.natCast_emod]
  have hD : 0 < D := by omega
  have hhi := hi_of_quo (A * B) D hD (by omega)
  have HD := divAt_full (A * B) D d0 (by omega) (by simpa using hhi)
  unfold DivAt quoN remN at HD
  rw [Int.toNat_natCast] at HD
  have hr := Nat.mod_lt (A * B) hD
  exact gdiv_A _ _ _ _ _ _ _ w (fun w => mul64_any A B (by omega) (by omega) w) HD a0 a1 b0 b1 d0 d1 (Int.natCast_nonneg _) (by omega) (Int.natCast_nonneg _) hq (Int.natCast_nonneg _) (by omega)
theorem gdiv_no (a b d : Int) (w : World) (a0 : 0 ≤ a) (a1 : a ≤ 1000000000000000) (b0 : 0 ≤ b) (b1 : b ≤ 100000000000000000) (d0 : 0 < d) (d1 : d ≤ 200000000000000) (hq : ¬ a * b / d ≤ 1000000000000000) :
    Calls Tryz.prog 91 #[.int .i64 a, .int .i64 b, .int .i64 d] w fun e w' => e = .panicked [{ v := .iface 33 (.int .i64 3), recovered := false }] ∧ Ext w w' := by
  obtain ⟨A, rfl⟩ := Int.eq_ofNat_of_zero_le a0
  obtain ⟨B, rfl⟩ := Int.eq_ofNat_of_zero_le b0
  obtain ⟨D, rfl⟩ := Int.eq_ofNat_of_zero_le (Int.le_of_lt d0)
  have e : (A : Int) * (B : Int) = ((A * B : Nat) : Int) := (Int.natCast_mul A B).symm
  rw [e, ← Int.natCast_ediv] at hq
  have hD : 0 < D := by omega
  by_cases hhi : hiW (A * B) < D
  · have HD := divAt_full (A * B) D d0 (by omega) (by simpa using hhi)
    unfold DivAt quoN remN at HD
    rw [Int.toNat_natCast] at HD
    exact gdiv_big _ _ _ _ _ _ _ w (fun w => mul64_any A B (by omega) (by omega) w) HD a0 a1 b0 b1 d0 d1 (Int.natCast_nonneg _) (by omega) (decide_eq_false hq)
  · exact gdiv_hi _ _ _ _ _ w (fun w => mul64_any A B (by omega) (by omega) w) a0 a1 b0 b1 d0 d1 (Int.natCast_nonneg _) (by simp; omega)
end Go.Proofs.YtafjmpaefikdcaaGreatDoor.L12