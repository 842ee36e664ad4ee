/- Proved: for every a, b and n, quittancelaw01.FixnumSums returns true (which numbers fit, the sum of any two, any number so many times, or why not, as the document's own answers have them); no condition on a, b or n. -/
import Derived.Test.YtpmgbagnaaahoaaRows
import Derived.WalkKit
import Derived.ProofKit
import Derived.OpenShut
import Derived.ShutString
import Derived.Test.YtpmgbagnaaahoaaTimes
namespace Go.Proofs.Ytpmgbagnaaahoaa.fixnumSums
open Go.ChangeShapes Go.WideShapes Go.ChangeAt Go.RowKit
open Go.ChangeMaps (open_string shut_string)
set_option linter.unusedVariables false      -- a walk need not use every 'w<i>' (that an integer argument fits its kind)

theorem own : ownKnob Try.prog.godebug = none := by kernel_rfl

open Go.Proofs.Ytpmgbagnaaahoaa

theorem ref_fits (v : Int) (w : World) :
    Calls Try.prog 15 #[.int .i64 v] w fun e w' => e = .returned (.bool (fitB v)) ∧ w' = w := by
  have HF : Hid ((decide (-1000000000000000 ≤ v) && decide (v ≤ 1000000000000000)) = fitB v) := rfl
  by_cases h1 : -1000000000000000 ≤ v <;> by_cases h2 : v ≤ 1000000000000000 <;>
  · go_enter Try.func15, Try.ntmps15
    go_wp2
    go_ret
    exact ⟨by rw [← HF.out]; simp [h1, h2], rfl⟩

theorem fits_b (v : Int) (w : World) :
    Calls Try.prog 14 #[.int .i64 v] w fun e w' => e = .returned (.bool (fitB v)) ∧ w' = w := fits_any v w

theorem ref_plus_ok (a b : Int) (w : World) (h1 : fitB a = true) (h2 : fitB b = true) (h3 : fitB (a + b) = true) :
    Calls Try.prog 10 #[.int .i64 a, .int .i64 b] w fun e w' => e = .returned (.tuple #[.int .i64 (a + b), .int .i64 0]) ∧ w' = w := by
  have a1 := ((fitB_iff a).1 h1).1
  have a2 := ((fitB_iff a).1 h1).2
  have b1 := ((fitB_iff b).1 h2).1
  have b2 := ((fitB_iff b).1 h2).2
  go_enter Try.func10, Try.ntmps10
  go_wp2_with (go_at_call 15; refine (ref_fits _ _).mono ?_; rintro e w1 ⟨rfl, rfl⟩)
  go_ret2
  exact ⟨rfl, rfl⟩

theorem ref_plus_noS (a b : Int) (w : World) (h1 : fitB a = true) (h2 : fitB b = true) (h3 : fitB (a + b) = false) :
    Calls Try.prog 10 #[.int .i64 a, .int .i64 b] w fun e w' => e = .returned (.tuple #[.int .i64 0, .int .i64 3]) ∧ w' = w := by
  have a1 := ((fitB_iff a).1 h1).1
  have a2 := ((fitB_iff a).1 h1).2
  have b1 := ((fitB_iff b).1 h2).1
  have b2 := ((fitB_iff b).1 h2).2
  go_enter Try.func10, Try.ntmps10
  go_wp2_with (go_at_call 15; refine (ref_fits _ _).mono ?_; rintro e w1 ⟨rfl, rfl⟩)
  go_ret2
  exact ⟨rfl, rfl⟩

theorem ref_plus_noB (a b : Int) (w : World) (h1 : fitB a = true) (h2 : fitB b = false) :
    Calls Try.prog 10 #[.int .i64 a, .int .i64 b] w fun e w' => e = .returned (.tuple #[.int .i64 0, .int .i64 3]) ∧ w' = w := by
  go_enter Try.func10, Try.ntmps10
  go_wp2_with (go_at_call 15; refine (ref_fits _ _).mono ?_; rintro e w1 ⟨rfl, rfl⟩)
  go_ret2
  exact ⟨rfl, rfl⟩

theorem ref_plus_noA (a b : Int) (w : World) (h1 : fitB a = false) :
    Calls Try.prog 10 #[.int .i64 a, .int .i64 b] w fun e w' => e = .returned (.tuple #[.int .i64 0, .int .i64 3]) ∧ w' = w := by
  go_enter Try.func10, Try.ntmps10
  go_wp2_with (go_at_call 15; refine (ref_fits _ _).mono ?_; rintro e w1 ⟨rfl, rfl⟩)
  go_ret2
  exact ⟨rfl, rfl⟩

theorem ref_plus (a b : Int) (w : World) :
    Calls Try.prog 10 #[.int .i64 a, .int .i64 b] w fun e w' => e = .returned (.tuple #[.int .i64 (plusV a b), .int .i64 (plusE a b)]) ∧ w' = w := by
  unfold plusV plusE
  cases h1 : fitB a
  · simpa using ref_plus_noA a b w h1
  · cases h2 : fitB b
    · simpa using ref_plus_noB a b w h1 h2
    · cases h3 : fitB (a + b)
      · simpa using ref_plus_noS a b w h1 h2 h3
      · simpa using ref_plus_ok a b w h1 h2 h3

theorem ref_times_out (v n : Int) (w : World) (h1 : fitB v = false) :
    Calls Try.prog 12 #[.int .i64 v, .int .i64 n] w fun e w' => e = .returned (.tuple #[.int .i64 0, .int .i64 3]) ∧ w' = w := by
  go_enter Try.func12, Try.ntmps12
  go_wp2_with (go_at_call 15; refine (ref_fits _ _).mono ?_; rintro e w1 ⟨rfl, rfl⟩)
  go_ret2
  exact ⟨rfl, rfl⟩

theorem ref_times_v0 (n : Int) (w : World) :
    Calls Try.prog 12 #[.int .i64 0, .int .i64 n] w fun e w' => e = .returned (.tuple #[.int .i64 0, .int .i64 0]) ∧ w' = w := by
  have h1 : fitB 0 = true := by decide
  go_enter Try.func12, Try.ntmps12
  go_wp2_with (go_at_call 15; refine (ref_fits _ _).mono ?_; rintro e w1 ⟨rfl, rfl⟩)
  go_ret2
  exact ⟨rfl, rfl⟩

theorem ref_times_n0 (v : Int) (w : World) (h1 : fitB v = true) (h2 : (v == 0) = false) :
    Calls Try.prog 12 #[.int .i64 v, .int .i64 0] w fun e w' => e = .returned (.tuple #[.int .i64 0, .int .i64 0]) ∧ w' = w := by
  go_enter Try.func12, Try.ntmps12
  go_wp2_with (go_at_call 15; refine (ref_fits _ _).mono ?_; rintro e w1 ⟨rfl, rfl⟩)
  go_ret2
  exact ⟨rfl, rfl⟩

theorem ref_times_big (v n : Int) (w : World) (h1 : fitB v = true) (h2 : (v == 0) = false) (h3 : 1000000000000000 < n) :
    Calls Try.prog 12 #[.int .i64 v, .int .i64 n] w fun e w' => e = .returned (.tuple #[.int .i64 0, .int .i64 3]) ∧ w' = w := by
  have h4 : (n == 0) = false := by simp; omega
  go_enter Try.func12, Try.ntmps12
  go_wp2_with (go_at_call 15; refine (ref_fits _ _).mono ?_; rintro e w1 ⟨rfl, rfl⟩)
  go_ret2
  exact ⟨rfl, rfl⟩

theorem ref_times_low (v n : Int) (w : World) (h1 : fitB v = true) (h2 : (v == 0) = false) (h3 : n < -1000000000000000) :
    Calls Try.prog 12 #[.int .i64 v, .int .i64 n] w fun e w' => e = .returned (.tuple #[.int .i64 0, .int .i64 3]) ∧ w' = w := by
  have h4 : (n == 0) = false := by simp; omega
  go_enter Try.func12, Try.ntmps12
  go_wp2_with (go_at_call 15; refine (ref_fits _ _).mono ?_; rintro e w1 ⟨rfl, rfl⟩)
  go_ret2
  exact ⟨rfl, rfl⟩

theorem neg_quo (n : Int) (n1 : -1000000000000000 ≤ n) (n2 : n < 0) : wrap64 (-Int.tdiv 1000000000000000 n) = 1000000000000000 / (-n) := by
  have e : -Int.tdiv 1000000000000000 n = 1000000000000000 / (-n) := by rw [← Int.tdiv_neg, Int.tdiv_eq_ediv_of_nonneg (by omega)]
  have hb : 0 ≤ 1000000000000000 / (-n) := Int.ediv_nonneg (by omega) (by omega)
  have hb2 : 1000000000000000 / (-n) ≤ 1000000000000000 := Int.ediv_le_self _ (by omega)
  rw [e]
  unfold wrap64
  omega

theorem ref_times_ppok (v n : Int) (w : World) (h1 : fitB v = true) (v1 : 0 < v) (v2 : v ≤ 1000000000000000) (n1 : 0 < n) (n2 : n ≤ 1000000000000000) (hq : v ≤ 1000000000000000 / n) (p1 : -1000000000000000 ≤ v * n) (p2 : v * n ≤ 1000000000000000) :
    Calls Try.prog 12 #[.int .i64 v, .int .i64 n] w fun e w' => e = .returned (.tuple #[.int .i64 (v * n), .int .i64 0]) ∧ w' = w := by
  have h2 : (v == 0) = false := by simp; omega
  have h4 : (n == 0) = false := by simp; omega
  have hb : 0 ≤ 1000000000000000 / n := Int.ediv_nonneg (by omega) (by omega)
  have hb2 : 1000000000000000 / n ≤ 1000000000000000 := Int.ediv_le_self _ (by omega)
  go_enter Try.func12, Try.ntmps12
  go_wp2_with (go_at_call 15; refine (ref_fits _ _).mono ?_; rintro e w1 ⟨rfl, rfl⟩)
  go_ret2
  exact ⟨rfl, rfl⟩

theorem ref_times_ppno (v n : Int) (w : World) (h1 : fitB v = true) (v1 : 0 < v) (v2 : v ≤ 1000000000000000) (n1 : 0 < n) (n2 : n ≤ 1000000000000000) (hq : 1000000000000000 / n < v) :
    Calls Try.prog 12 #[.int .i64 v, .int .i64 n] w fun e w' => e = .returned (.tuple #[.int .i64 0, .int .i64 3]) ∧ w' = w := by
  have h2 : (v == 0) = false := by simp; omega
  have h4 : (n == 0) = false := by simp; omega
  have hb : 0 ≤ 1000000000000000 / n := Int.ediv_nonneg (by omega) (by omega)
  have hb2 : 1000000000000000 / n ≤ 1000000000000000 := Int.ediv_le_self _ (by omega)
  go_enter Try.func12, Try.ntmps12
  go_wp2_with (go_at_call 15; refine (ref_fits _ _).mono ?_; rintro e w1 ⟨rfl, rfl⟩)
  go_ret2
  exact ⟨rfl, rfl⟩

theorem ref_times_pnok (v n : Int) (w : World) (h1 : fitB v = true) (v1 : 0 < v) (v2 : v ≤ 1000000000000000) (n1 : -1000000000000000 ≤ n) (n2 : n < 0) (hq : v ≤ wrap64 (-Int.tdiv 1000000000000000 n)) (p1 : -1000000000000000 ≤ v * n) (p2 : v * n ≤ 1000000000000000) :
    Calls Try.prog 12 #[.int .i64 v, .int .i64 n] w fun e w' => e = .returned (.tuple #[.int .i64 (v * n), .int .i64 0]) ∧ w' = w := by
  have h2 : (v == 0) = false := by simp; omega
  have h4 : (n == 0) = false := by simp; omega
  go_enter Try.func12, Try.ntmps12
  go_wp2_with (go_at_call 15; refine (ref_fits _ _).mono ?_; rintro e w1 ⟨rfl, rfl⟩)
  go_ret2
  exact ⟨rfl, rfl⟩

theorem ref_times_pnno (v n : Int) (w : World) (h1 : fitB v = true) (v1 : 0 < v) (v2 : v ≤ 1000000000000000) (n1 : -1000000000000000 ≤ n) (n2 : n < 0) (hq : wrap64 (-Int.tdiv 1000000000000000 n) < v) :
    Calls Try.prog 12 #[.int .i64 v, .int .i64 n] w fun e w' => e = .returned (.tuple #[.int .i64 0, .int .i64 3]) ∧ w' = w := by
  have h2 : (v == 0) = false := by simp; omega
  have h4 : (n == 0) = false := by simp; omega
  go_enter Try.func12, Try.ntmps12
  go_wp2_with (go_at_call 15; refine (ref_fits _ _).mono ?_; rintro e w1 ⟨rfl, rfl⟩)
  go_ret2
  exact ⟨rfl, rfl⟩

theorem ref_times_npok (v n : Int) (w : World) (h1 : fitB v = true) (v1 : -1000000000000000 ≤ v) (v2 : v < 0) (n1 : 0 < n) (n2 : n ≤ 1000000000000000) (hq : -v ≤ 1000000000000000 / n) (p1 : -1000000000000000 ≤ v * n) (p2 : v * n ≤ 1000000000000000) :
    Calls Try.prog 12 #[.int .i64 v, .int .i64 n] w fun e w' => e = .returned (.tuple #[.int .i64 (v * n), .int .i64 0]) ∧ w' = w := by
  have h2 : (v == 0) = false := by simp; omega
  have h4 : (n == 0) = false := by simp; omega
  have hb : 0 ≤ 1000000000000000 / n := Int.ediv_nonneg (by omega) (by omega)
  have hb2 : 1000000000000000 / n ≤ 1000000000000000 := Int.ediv_le_self _ (by omega)
  go_enter Try.func12, Try.ntmps12
  go_wp2_with (go_at_call 15; refine (ref_fits _ _).mono ?_; rintro e w1 ⟨rfl, rfl⟩)
  go_ret2
  exact ⟨rfl, rfl⟩

theorem ref_times_npno (v n : Int) (w : World) (h1 : fitB v = true) (v1 : -1000000000000000 ≤ v) (v2 : v < 0) (n1 : 0 < n) (n2 : n ≤ 1000000000000000) (hq : 1000000000000000 / n < -v) :
    Calls Try.prog 12 #[.int .i64 v, .int .i64 n] w fun e w' => e = .returned (.tuple #[.int .i64 0, .int .i64 3]) ∧ w' = w := by
  have h2 : (v == 0) = false := by simp; omega
  have h4 : (n == 0) = false := by simp; omega
  have hb : 0 ≤ 1000000000000000 / n := Int.ediv_nonneg (by omega) (by omega)
  have hb2 : 1000000000000000 / n ≤ 1000000000000000 := Int.ediv_le_self _ (by omega)
  go_enter Try.func12, Try.ntmps12
  go_wp2_with (go_at_call 15; refine (ref_fits _ _).mono ?_; rintro e w1 ⟨rfl, rfl⟩)
  go_ret2
  exact ⟨rfl, rfl⟩

theorem ref_times_nnok (v n : Int) (w : World) (h1 : fitB v = true) (v1 : -1000000000000000 ≤ v) (v2 : v < 0) (n1 : -1000000000000000 ≤ n) (n2 : n < 0) (hq : -v ≤ wrap64 (-Int.tdiv 1000000000000000 n)) (p1 : -1000000000000000 ≤ v * n) (p2 : v * n ≤ 1000000000000000) :
    Calls Try.prog 12 #[.int .i64 v, .int .i64 n] w fun e w' => e = .returned (.tuple #[.int .i64 (v * n), .int .i64 0]) ∧ w' = w := by
  have h2 : (v == 0) = false := by simp; omega
  have h4 : (n == 0) = false := by simp; omega
  go_enter Try.func12, Try.ntmps12
  go_wp2_with (go_at_call 15; refine (ref_fits _ _).mono ?_; rintro e w1 ⟨rfl, rfl⟩)
  go_ret2
  exact ⟨rfl, rfl⟩

theorem ref_times_nnno (v n : Int) (w : World) (h1 : fitB v = true) (v1 : -1000000000000000 ≤ v) (v2 : v < 0) (n1 : -1000000000000000 ≤ n) (n2 : n < 0) (hq : wrap64 (-Int.tdiv 1000000000000000 n) < -v) :
    Calls Try.prog 12 #[.int .i64 v, .int .i64 n] w fun e w' => e = .returned (.tuple #[.int .i64 0, .int .i64 3]) ∧ w' = w := by
  have h2 : (v == 0) = false := by simp; omega
  have h4 : (n == 0) = false := by simp; omega
  go_enter Try.func12, Try.ntmps12
  go_wp2_with (go_at_call 15; refine (ref_fits _ _).mono ?_; rintro e w1 ⟨rfl, rfl⟩)
  go_ret2
  exact ⟨rfl, rfl⟩

theorem ref_times (v n : Int) (w : World) :
    Calls Try.prog 12 #[.int .i64 v, .int .i64 n] w fun e w' => e = .returned (.tuple #[.int .i64 (timesV v n), .int .i64 (timesE v n)]) ∧ w' = w := by
  unfold timesV timesE
  cases h1 : fitB v
  · simpa using ref_times_out v n w h1
  obtain ⟨v1, v2⟩ := (fitB_iff v).1 h1
  by_cases h2 : v = 0
  · subst h2
    simpa [mag] using ref_times_v0 n w
  by_cases h3 : n = 0
  · subst h3
    simpa [mag] using ref_times_n0 v w h1 (by simpa using h2)
  have hv0 : 0 < mag v := by unfold mag; omega
  have hn0 : 0 < mag n := by unfold mag; omega
  by_cases h4 : 1000000000000000 < n
  · have : ¬ mag v * mag n ≤ 1000000000000000 := by
      have h5 : 1 * mag n ≤ mag v * mag n := Nat.mul_le_mul_right _ hv0
      have h6 : 1000000000000000 < mag n := by unfold mag; omega
      omega
    simpa [this] using ref_times_big v n w h1 (by simpa using h2) h4
  by_cases h5 : n < -1000000000000000
  · have : ¬ mag v * mag n ≤ 1000000000000000 := by
      have h5 : 1 * mag n ≤ mag v * mag n := Nat.mul_le_mul_right _ hv0
      have h6 : 1000000000000000 < mag n := by unfold mag; omega
      omega
    simpa [this] using ref_times_low v n w h1 (by simpa using h2) h5
  have key : mag v * mag n ≤ 1000000000000000 ↔ ((mag v : Nat) : Int) ≤ 1000000000000000 / ((mag n : Nat) : Int) := by
    rw [← Nat.le_div_iff_mul_le hn0]
    have : (1000000000000000 : Int) / ((mag n : Nat) : Int) = ((1000000000000000 / mag n : Nat) : Int) := by simp
    rw [this]
    omega
  have hp := prod_mag v n
  by_cases hN : mag v * mag n ≤ 1000000000000000
  · have hq := key.1 hN
    have p1 : -1000000000000000 ≤ v * n := by rw [hp]; split <;> omega
    have p2 : v * n ≤ 1000000000000000 := by rw [hp]; split <;> omega
    simp only [hN, decide_true, Bool.and_self, if_true]
    rcases Int.lt_or_le v 0 with hv | hv <;> rcases Int.lt_or_le n 0 with hn | hn
    · rw [mag_neg v hv, mag_neg n hn] at hq
      exact ref_times_nnok v n w h1 v1 hv (by omega) hn (by rw [neg_quo n (by omega) hn]; exact hq) p1 p2
    · rw [mag_neg v hv, mag_nn n hn] at hq
      exact ref_times_npok v n w h1 v1 hv (by omega) (by omega) hq p1 p2
    · rw [mag_nn v hv, mag_neg n hn] at hq
      exact ref_times_pnok v n w h1 (by omega) v2 (by omega) hn (by rw [neg_quo n (by omega) hn]; exact hq) p1 p2
    · rw [mag_nn v hv, mag_nn n hn] at hq
      exact ref_times_ppok v n w h1 (by omega) v2 (by omega) (by omega) hq p1 p2
  · have hq : 1000000000000000 / ((mag n : Nat) : Int) < ((mag v : Nat) : Int) := by
      rcases Int.lt_or_le (1000000000000000 / ((mag n : Nat) : Int)) ((mag v : Nat) : Int) with h | h
      · exact h
      · exact absurd (key.2 h) hN
    simp only [hN, decide_false, Bool.and_false, Bool.false_eq_true, if_false]
    rcases Int.lt_or_le v 0 with hv | hv <;> rcases Int.lt_or_le n 0 with hn | hn
    · rw [mag_neg v hv, mag_neg n hn] at hq
      exact ref_times_nnno v n w h1 v1 hv (by omega) hn (by rw [neg_quo n (by omega) hn]; exact hq)
    · rw [mag_neg v hv, mag_nn n hn] at hq
      exact ref_times_npno v n w h1 v1 hv (by omega) (by omega) hq
    · rw [mag_nn v hv, mag_neg n hn] at hq
      exact ref_times_pnno v n w h1 (by omega) v2 (by omega) hn (by rw [neg_quo n (by omega) hn]; exact hq)
    · rw [mag_nn v hv, mag_nn n hn] at hq
      exact ref_times_ppno v n w h1 (by omega) v2 (by omega) (by omega) hq

theorem walk (a0 : Int) (a1 : Int) (a2 : Int) (w0 : (Lit.int .i64 a0).wf = true) (w1 : (Lit.int .i64 a1).wf = true) (w2 : (Lit.int .i64 a2).wf = true) (w : World) :
    Calls Try.prog 3 #[.int .i64 a0, .int .i64 a1, .int .i64 a2] w fun e w' => e = .returned (.bool true) ∧ Grown w w' := by
  have hn := i64_of_wf w2
  go_enter Try.func3, Try.ntmps3
  go_wp2_with fail
  refine (plus_any _ _ _).mono ?_
  rintro e w1 ⟨rfl, x1⟩
  go_wp2_with fail
  refine (ref_plus _ _ _).mono ?_
  rintro e w2 ⟨rfl, rfl⟩
  go_wp2_with fail
  refine (times_any _ _ _ hn).mono ?_
  rintro e w3 ⟨rfl, hx⟩
  have x3 := x1.trans hx
  clear x1 hx
  go_wp2_with fail
  refine (ref_times _ _ _).mono ?_
  rintro e w4 ⟨rfl, rfl⟩
  go_wp2_with fail
  refine (awake_any _).mono ?_
  rintro e w5 ⟨rfl, hx⟩
  have x5 := x3.trans hx
  clear x3 hx
  go_wp2_with fail
  refine (fits_b _ _).mono ?_
  rintro e w6 ⟨rfl, rfl⟩
  go_wp2_with fail
  refine (ref_fits _ _).mono ?_
  rintro e w6 ⟨rfl, rfl⟩
  go_wp2_with fail
  go_ret
  exact ⟨rfl, x5.grown⟩

set_option maxRecDepth 100000 in
theorem lifted (os : Os) (started : os.Started) (H : Type) (enc : TypeId × Value → H) :
    ReturnsInHanded {} Try.checked os 3 .any (Rows.fixnumSumsSpec.pre6 enc Try.prog Try.f3 Rows.fixnumSumsRow.domain false) (Rows.fixnumSumsSpec.post enc Try.prog Try.f3 false true false false) := by
  refine returnsInHanded_of_change (C := Try.checked) own started (by kernel_rfl) Try.func3
    (ChangeSpec.witness6 (enc := enc) (C := Try.checked) false ⟨#[], #[.int .i64 0, .int .i64 0, .int .i64 0], []⟩ 8 (by kernel_rfl) (by kernel_rfl) (by kernel_rfl) (by kernel_rfl)) ?_
  intro W base args ds gs before hval0 hW hcnd _
  have hval : ∀ (j : Nat) t v, Try.f3.params[j]? = some t → args[j]? = some v → Value.okWide Try.prog W .any base t v := hval0
  have hW' := hW
  obtain ⟨p, q, hA0, hV, rfl, hfz, hnd⟩ := hW
  have hA : DataW.TrodAll enc Try.prog W 0 (fun _ => true) true Try.f3.params.toList args.toList ds p := hA0
  rw [Try.params3] at hA hval
  obtain ⟨v0, vs0, d0, ds0, p0, q0, hargs, rfl, rfl, h0, r0⟩ := trodAll_cons hA
  obtain ⟨v1, vs1, d1, ds1, p1, q1, rfl, rfl, rfl, h1, r1⟩ := trodAll_cons r0
  obtain ⟨v2, vs2, d2, ds2, p2, q2, rfl, rfl, rfl, h2, r2⟩ := trodAll_cons r1
  obtain ⟨rfl, rfl, rfl⟩ := trodAll_nil r2
  obtain rfl : args = #[v0, v1, v2] := by cases args; simp_all
  obtain ⟨rfl, rfl⟩ := trodVars_none hV
  obtain ⟨a0, rfl, rfl, rfl, w0⟩ := open_int Try.underlying2 (hval 0 2 v0 rfl rfl) h0
  obtain ⟨a1, rfl, rfl, rfl, w1⟩ := open_int Try.underlying2 (hval 1 2 v1 rfl rfl) h1
  obtain ⟨a2, rfl, rfl, rfl, w2⟩ := open_int Try.underlying3 (hval 2 3 v2 rfl rfl) h2
  clear hA0 hval0
  simp only [List.append_nil] at hW'
  refine (walk a0 a1 a2 w0 w1 w2 W).mono fun e W' ⟨he, hg⟩ => ?_
  subst he
  exact ⟨_, rfl, post_of_same (pa := []) (pv := []) hW' (fun _ _ _ => (trodAll_cons_mk (shut_bool Try.underlying4 _) trodAll_mk0)) (fun sp _ => (trodAll_cons_mk (shut_int Try.underlying2 w0) (trodAll_cons_mk (shut_int Try.underlying2 w1) (trodAll_cons_mk (shut_int Try.underlying3 w2) trodAll_mk0)))) (fun _ _ => rfl) rfl
    (hg.frame _) hg.2.1 (ok_one (by kernel_rfl) rfl (okWide_bool_mk Try.underlying4 _))⟩

theorem over : Rows.fixnumSumsRow.holds Try.pinned (OpenSpec.ofChange Rows.fixnumSumsSpec) :=
  OpenClaim.holds_of_wide 3 Try.f3 rfl rfl rfl rfl rfl rfl rfl ⟨rfl, rfl, rfl, rfl, rfl⟩ rfl rfl rfl rfl rfl (by kernel_rfl) Try.func3 (by kernel_rfl)
    (of_decide_eq_true (by kernel_rfl)) (by unfold Func.isWrapper; first | (rw [if_pos (by decide +kernel)]; kernel_rfl) | (rw [if_neg (by decide +kernel)]; exact ⟨rfl, rfl⟩))
    (fun os started H enc _ => lifted os started H enc)

theorem proved : Rows.FixnumSumsSaid :=
  over
end Go.Proofs.Ytpmgbagnaaahoaa.fixnumSums
namespace Go.Proofs.Ytpmgbagnaaahoaa
theorem fixnumSums_holds : Rows.FixnumSumsSaid := fixnumSums.proved
#print axioms fixnumSums_holds
end Go.Proofs.Ytpmgbagnaaahoaa
