/- What Ratio of the document's answers for layer 1 answers: the product by d, rounded, or why not: no statement of the seat is proved here. -/
import Derived.Test.YtpmgbagnaaahoaaLimbs
namespace Go.Proofs.Ytpmgbagnaaahoaa
open Go.RowKit
set_option linter.unusedVariables false

theorem size_neg (a : Int) (w : World) (h1 : -9223372036854775808 ≤ a) (h2 : a < 0) :
    Calls Try.prog 34 #[.int .i64 a] w fun e w' => e = .returned (.int .u64 (-a)) ∧ w' = w := by
  have HE : Hid (-(a + 1) + 1 = -a) := by unfold Hid; omega
  go_enter Try.func34, Try.ntmps34
  go_wp2
  rw [HE.out]
  go_ret
  exact ⟨rfl, rfl⟩

theorem size_nn (a : Int) (w : World) (h1 : 0 ≤ a) (h2 : a ≤ 9223372036854775807) :
    Calls Try.prog 34 #[.int .i64 a] w fun e w' => e = .returned (.int .u64 a) ∧ w' = w := by
  go_enter Try.func34, Try.ntmps34
  go_wp2
  go_ret
  exact ⟨rfl, rfl⟩

theorem size_any (a : Int) (w : World) (h : I64 a) :
    Calls Try.prog 34 #[.int .i64 a] w fun e w' => e = .returned (.int .u64 (mag a : Nat)) ∧ w' = w := by
  obtain ⟨h1, h2⟩ := h
  rcases Int.lt_or_le a 0 with ha | ha
  · rw [mag_neg a ha]; exact size_neg a w h1 ha
  · rw [mag_nn a ha]; exact size_nn a w ha h2

theorem ref_below (m a b d : Int) (w : World) (hd : d ≤ 0) :
    Calls Try.prog 20 #[.int .i64 m, .int .i64 a, .int .i64 b, .int .i64 d] w fun e w' => e = .returned (.tuple #[.int .i64 0, .int .i64 1]) ∧ w' = w := by
  go_enter Try.func20, Try.ntmps20
  go_wp2
  go_ret2
  exact ⟨rfl, rfl⟩

/-- What stands in the loop's variables when so many bits are left. -/
def qAt (N D k : Nat) : Nat := N / 2 ^ k / D % 18446744073709551616
def rAt (N D k : Nat) : Nat := N / 2 ^ k % D
def oAt (N D k : Nat) : Bool := decide (9223372036854775808 ≤ N / 2 ^ k / D)
def bitAt (N j : Nat) : Nat := N / 2 ^ j % 2

theorem limb_bit (N j : Nat) : limb N (j / 32) / 2 ^ (j % 32) % 2 = bitAt N j := by
  unfold limb bitAt
  have h : ∀ X r : Nat, r < 32 → X % 4294967296 / 2 ^ r % 2 = X / 2 ^ r % 2 := by
    intro X r hr
    have t := Nat.testBit_mod_two_pow X 32 r
    rw [Nat.testBit_eq_decide_div_mod_eq, Nat.testBit_eq_decide_div_mod_eq, show decide (r < 32) = true from by simpa using hr, Bool.true_and] at t
    have t' : (X % 2 ^ 32 / 2 ^ r % 2 = 1) ↔ (X / 2 ^ r % 2 = 1) := by simpa using t
    rw [show (2 : Nat) ^ 32 = 4294967296 from rfl] at t'
    omega
  rw [h _ _ (Nat.mod_lt _ (by omega)), Nat.div_div_eq_div_mul, ← Nat.pow_add, show 32 * (j / 32) + j % 32 = j from by omega]

theorem half_bits (N j : Nat) : N / 2 ^ j = 2 * (N / 2 ^ (j + 1)) + bitAt N j := by
  unfold bitAt
  rw [Nat.pow_succ, ← Nat.div_div_eq_div_mul]
  omega

theorem step_lo (N D j : Nat) (hD : 0 < D) (h : 2 * rAt N D (j + 1) + bitAt N j < D) :
    N / 2 ^ j / D = 2 * (N / 2 ^ (j + 1) / D) ∧ rAt N D j = 2 * rAt N D (j + 1) + bitAt N j := by
  have e := half_bits N j
  unfold rAt at *
  have d := Nat.div_add_mod (N / 2 ^ (j + 1)) D
  have u := (Nat.div_mod_unique (a := N / 2 ^ j) (c := 2 * (N / 2 ^ (j + 1) % D) + bitAt N j) (d := 2 * (N / 2 ^ (j + 1) / D)) hD).2 ⟨by rw [e, Nat.mul_left_comm]; omega, h⟩
  exact u

theorem step_hi (N D j : Nat) (hD : 0 < D) (h : D ≤ 2 * rAt N D (j + 1) + bitAt N j) :
    N / 2 ^ j / D = 2 * (N / 2 ^ (j + 1) / D) + 1 ∧ rAt N D j = 2 * rAt N D (j + 1) + bitAt N j - D := by
  have e := half_bits N j
  have hb : bitAt N j < 2 := Nat.mod_lt _ (by omega)
  unfold rAt at *
  have d := Nat.div_add_mod (N / 2 ^ (j + 1)) D
  have l := Nat.mod_lt (N / 2 ^ (j + 1)) hD
  have u := (Nat.div_mod_unique (a := N / 2 ^ j) (c := 2 * (N / 2 ^ (j + 1) % D) + bitAt N j - D) (d := 2 * (N / 2 ^ (j + 1) / D) + 1) hD).2 ⟨by rw [e, Nat.mul_add, Nat.mul_one, Nat.mul_left_comm]; omega, by omega⟩
  exact u

theorem o_step (N D j : Nat) (q : Nat) (hq : N / 2 ^ j / D = 2 * (N / 2 ^ (j + 1) / D) ∨ N / 2 ^ j / D = 2 * (N / 2 ^ (j + 1) / D) + 1) :
    (oAt N D (j + 1) || decide (qAt N D (j + 1) / 4611686018427387904 = 1)) = oAt N D j := by
  unfold oAt qAt
  generalize N / 2 ^ j / D = A at *
  generalize N / 2 ^ (j + 1) / D = B at *
  by_cases h : 9223372036854775808 ≤ B
  · simp [h]; omega
  · simp [h]
    omega

theorem or_one (a : Nat) (ha : a < 18446744073709551616) (he : a % 2 = 0) : bits .or .u64 (a : Int) 1 = ((a + 1 : Nat) : Int) := by
  have h := bits_or_u64_nat a 1 ha (by omega)
  have e : a ||| 1 = a + 1 := by
    have := Nat.two_pow_add_eq_or_of_lt (i := 1) (b := 1) (by omega) (a / 2)
    rw [show 2 ^ 1 * (a / 2) = a from by omega] at this
    exact this.symm
  rw [e] at h
  exact h
theorem or_bit (r b : Nat) (hr : r ≤ 9223372036854775807) (hb : b < 2) : bits .or .u64 ((r : Int) * 2) (b : Int) = ((2 * r + b : Nat) : Int) := by
  have h := bits_or_u64_nat (r * 2) b (by omega) (by omega)
  have e : r * 2 ||| b = 2 * r + b := by
    have := Nat.two_pow_add_eq_or_of_lt (i := 1) (b := b) (by omega) r
    rw [show 2 ^ 1 * r = r * 2 from by omega] at this
    rw [← this]; omega
  rw [e] at h
  rw [show ((r : Int) * 2) = ((r * 2 : Nat) : Int) from by simp]
  exact h
theorem and_one (a : Nat) (ha : a < 18446744073709551616) : bits .and .u64 (a : Int) 1 = ((a % 2 : Nat) : Int) := by
  have h := bits_and_u64_nat a 1 ha (by omega)
  rw [show (1 : Nat) = 2 ^ 1 - 1 from rfl, Nat.and_two_pow_sub_one_eq_mod a 1] at h
  exact h

/-- Is the size rounded away from 0? -/
def upR (m : Int) (s : Bool) (Q R D : Nat) : Bool :=
  if R = 0 then false else if m = 3 then s else if R ≠ D - R then decide (D - R < R) else if m = 2 then decide (Q % 2 = 1) else !s
/-- The size, rounded; what is answered. -/
def szR (m : Int) (s : Bool) (N D : Nat) : Nat := N / D + if upR m s (N / D) (N % D) D then 1 else 0
def refV (m : Int) (s : Bool) (N D : Nat) : Int := if szR m s N D ≤ 1000000000000000 then (if s then -(szR m s N D : Int) else (szR m s N D : Int)) else 0
def refE (m : Int) (s : Bool) (N D : Nat) : Int := if szR m s N D ≤ 1000000000000000 then 0 else 3

theorem par_of (Q X : Nat) (h : Q = X % 18446744073709551616) : X % 2 = Q % 2 := by omega
theorem q_of (Q X : Nat) (h : Q = X % 18446744073709551616) (k : X < 9223372036854775808) : Q = X := by omega
theorem ref_fit (m : Int) (s : Bool) (N D q : Nat) (hq : szR m s N D = q) (h : q ≤ 1000000000000000) : refV m s N D = (if s then -(q : Int) else (q : Int)) ∧ refE m s N D = 0 := by
  unfold refV refE; rw [hq]; simp [h]
theorem ref_big (m : Int) (s : Bool) (N D q : Nat) (hq : szR m s N D = q) (h : 1000000000000000 < q) : refV m s N D = 0 ∧ refE m s N D = 3 := by
  unfold refV refE; rw [hq]; have : ¬ q ≤ 1000000000000000 := by omega
  simp [this]

set_option maxRecDepth 100000 in
set_option maxHeartbeats 8000000 in
theorem ref_core (m a b : Int) (D N : Nat) (w : World) (ha : I64 a) (hb : I64 b) (hN : mag a * mag b = N) (hD : 0 < D) (hD2 : D ≤ 9223372036854775807)
    (hN2 : N < 340282366920938463463374607431768211456) (s : Bool) (hs : (!(decide (a < 0) == decide (b < 0))) = s) :
    Calls Try.prog 20 #[.int .i64 m, .int .i64 a, .int .i64 b, .int .i64 (D : Int)] w fun e w' => e = .returned (.tuple #[.int .i64 (refV m s N D), .int .i64 (refE m s N D)]) ∧ Ext w w' := by
  have m1 := mag_lt a ha
  have m2 := mag_lt b hb
  have L := fun w => limbs_any (mag a) (mag b) w (by omega) (by omega)
  rw [hN] at L
  have HL : Hid (∀ w, _) := L
  clear L hN
  go_enter Try.func20, Try.ntmps20
  go_wp2_with fail
  refine (size_any a _ ha).mono ?_
  rintro e w1 ⟨rfl, rfl⟩
  go_wp2_with fail
  refine (size_any b _ hb).mono ?_
  rintro e w1 ⟨rfl, rfl⟩
  go_wp2_with fail
  refine (HL.out _).mono ?_
  rintro e w2 ⟨rfl, hx⟩
  clear HL m1 m2
  go_wp2_with fail
  go_loop [12, 13, 14, 15] (fun q r o i => ∃ k : Int, -1 ≤ k ∧ k ≤ 127 ∧ i = .int .i64 k ∧ q = .int .u64 (qAt N D (k + 1).toNat : Nat) ∧ r = .int .u64 (rAt N D (k + 1).toNat : Nat) ∧ o = .bool (oAt N D (k + 1).toNat)) (fun _ _ _ i => (intOf i + 1).toNat)
  case atStart =>
    have e0 : N / 2 ^ 128 = 0 := Nat.div_eq_of_lt (by omega)
    exact ⟨127, by omega, by omega, rfl, by simp [qAt, e0], by simp [rAt, e0], by simp [oAt, e0]⟩
  case round =>
    obtain ⟨k, hk1, hk2, rfl, rfl, rfl, rfl⟩ := hrel
    rcases Int.lt_or_le k 0 with h0 | h0
    · have hk : k = -1 := by omega
      subst hk
      have eD : ((-1 : Int) + 1).toNat = 0 := by decide
      rw [eD]
      have hR0 : rAt N D 0 = N % D := by simp [rAt]
      have hQ0 : qAt N D 0 = N / D % 18446744073709551616 := by simp [qAt]
      have hO0 : oAt N D 0 = decide (9223372036854775808 ≤ N / D) := by simp [oAt]
      have hRD : rAt N D 0 < D := by rw [hR0]; exact Nat.mod_lt _ hD
      have hQ1 : qAt N D 0 < 18446744073709551616 := Nat.mod_lt _ (by omega)
      generalize rAt N D 0 = R at *
      generalize qAt N D 0 = Q at *
      generalize oAt N D 0 = o at *
      have HR : Hid (N % D = R) := hR0.symm
      have HQ : Hid (Q = N / D % 18446744073709551616) := hQ0
      have HO : Hid (o = decide (9223372036854775808 ≤ N / D)) := hO0
      have hx0 : Ext w1 (w2.alloc (.cells #[.int .u64 (limb N 0 : Nat), .int .u64 (limb N 1 : Nat), .int .u64 (limb N 2 : Nat), .int .u64 (limb N 3 : Nat)] 49)) := hx.alloc _ _
      have B5 : bits .and .u64 (Q : Int) 1 = ((Q % 2 : Nat) : Int) := and_one Q hQ1
      obtain ⟨X, hX⟩ : ∃ X : Int, (Q : Int) = X := ⟨_, rfl⟩
      rw [hX] at B5
      rw [hX]
      have HX : Hid ((Q : Int) = X) := hX
      have X0 : 0 ≤ X := by omega
      have X1 : X ≤ 18446744073709551615 := by omega
      clear hX
      clear hR0 hQ0 hO0 hx hk1 hk2 h0 hQ1
      obtain ⟨pz, hpz⟩ : ∃ pz, ((Q % 2 : Nat) : Int) = pz := ⟨_, rfl⟩
      rw [hpz] at B5
      have HP : Hid (((Q % 2 : Nat) : Int) = pz) := hpz
      clear hpz
      cases s
      · by_cases w1c : R = 0
        · have t1 : ((R : Int) == 0) = true := by simp [w1c]
          have hu : upR m false (N / D) (N % D) D = false := by
            rw [HR.out]
            simp [upR, w1c]
          have hz : szR m false N D = N / D := by unfold szR; rw [hu]; simp
          clear w1c
          cases o
          · have ho : N / D < 9223372036854775808 := by have := HO.out; simp at this; omega
            have hQN : Q = N / D := q_of _ _ HQ.out ho
            have hQb : X ≤ 9223372036854775807 := by have := HX.out; omega
            rw [← hQN] at hz
            clear hQN ho
            by_cases hf : Q ≤ 1000000000000000
            · obtain ⟨v1, v2⟩ := ref_fit m false N D (Q) hz hf
              have V1 : Hid (refV m false N D = (X)) := by unfold Hid; rw [v1, ← HX.out]; simp
              have V2 : Hid (refE m false N D = 0) := v2
              have hf' : X ≤ 1000000000000000 := by have := HX.out; omega
              clear hz hu v1 v2 hf
              go_wp2_with fail
              go_ret2
              exact ⟨by rw [V1.out, V2.out]; rfl, hx0⟩
            · obtain ⟨v1, v2⟩ := ref_big m false N D (Q) hz (by omega)
              have V1 : Hid (refV m false N D = 0) := v1
              have V2 : Hid (refE m false N D = 3) := v2
              have hf' : 1000000000000000 < X := by have := HX.out; omega
              clear hz hu v1 v2 hf
              go_wp2_with fail
              go_ret2
              exact ⟨by rw [V1.out, V2.out]; rfl, hx0⟩
          · have ho : 9223372036854775808 ≤ N / D := by have := HO.out; simp at this; omega
            obtain ⟨v1, v2⟩ := ref_big m false N D (N / D) hz (by omega)
            have V1 : Hid (refV m false N D = 0) := v1
            have V2 : Hid (refE m false N D = 3) := v2
            clear hz hu v1 v2 ho
            go_wp2_with fail
            go_ret2
            exact ⟨by rw [V1.out, V2.out]; rfl, hx0⟩
        · have t1 : ((R : Int) == 0) = false := by simp [w1c]
          by_cases w2c : m = 3
          · have t2 : (m == 3) = true := by simp [w2c]
            have hu : upR m false (N / D) (N % D) D = false := by
              rw [HR.out]
              simp [upR, w1c, w2c]
            have hz : szR m false N D = N / D := by unfold szR; rw [hu]; simp
            clear w1c w2c
            cases o
            · have ho : N / D < 9223372036854775808 := by have := HO.out; simp at this; omega
              have hQN : Q = N / D := q_of _ _ HQ.out ho
              have hQb : X ≤ 9223372036854775807 := by have := HX.out; omega
              rw [← hQN] at hz
              clear hQN ho
              by_cases hf : Q ≤ 1000000000000000
              · obtain ⟨v1, v2⟩ := ref_fit m false N D (Q) hz hf
                have V1 : Hid (refV m false N D = (X)) := by unfold Hid; rw [v1, ← HX.out]; simp
                have V2 : Hid (refE m false N D = 0) := v2
                have hf' : X ≤ 1000000000000000 := by have := HX.out; omega
                clear hz hu v1 v2 hf
                go_wp2_with fail
                go_ret2
                exact ⟨by rw [V1.out, V2.out]; rfl, hx0⟩
              · obtain ⟨v1, v2⟩ := ref_big m false N D (Q) hz (by omega)
                have V1 : Hid (refV m false N D = 0) := v1
                have V2 : Hid (refE m false N D = 3) := v2
                have hf' : 1000000000000000 < X := by have := HX.out; omega
                clear hz hu v1 v2 hf
                go_wp2_with fail
                go_ret2
                exact ⟨by rw [V1.out, V2.out]; rfl, hx0⟩
            · have ho : 9223372036854775808 ≤ N / D := by have := HO.out; simp at this; omega
              obtain ⟨v1, v2⟩ := ref_big m false N D (N / D) hz (by omega)
              have V1 : Hid (refV m false N D = 0) := v1
              have V2 : Hid (refE m false N D = 3) := v2
              clear hz hu v1 v2 ho
              go_wp2_with fail
              go_ret2
              exact ⟨by rw [V1.out, V2.out]; rfl, hx0⟩
          · have t2 : (m == 3) = false := by simp [w2c]
            by_cases w3c : R = D - R
            · have t3 : ((R : Int) != (D : Int) - (R : Int)) = false := by simp; omega
              by_cases w4c : m = 2
              · have t4 : (m == 2) = true := by simp [w4c]
                by_cases w5c : Q % 2 = 1
                · have t5 : (pz == 1) = true := by have := HP.out; simp; omega
                  have hq2 : N / D % 2 = 1 := by rw [par_of _ _ HQ.out]; omega
                  have hu : upR m false (N / D) (N % D) D = true := by
                    rw [HR.out]
                    have w3d : (R ≠ D - R) = False := by simp [← w3c]
                    simp only [upR, w1c, w3d, w4c, if_false, if_true]; simp [hq2]
                  have hz : szR m false N D = N / D + 1 := by unfold szR; rw [hu]; simp
                  clear w1c w2c w3c w4c w5c hq2
                  cases o
                  · have ho : N / D < 9223372036854775808 := by have := HO.out; simp at this; omega
                    have hQN : Q = N / D := q_of _ _ HQ.out ho
                    have hQb : X ≤ 9223372036854775807 := by have := HX.out; omega
                    rw [← hQN] at hz
                    clear hQN ho
                    by_cases hf : Q + 1 ≤ 1000000000000000
                    · obtain ⟨v1, v2⟩ := ref_fit m false N D (Q + 1) hz hf
                      have V1 : Hid (refV m false N D = (X + 1)) := by unfold Hid; rw [v1, ← HX.out]; simp
                      have V2 : Hid (refE m false N D = 0) := v2
                      have hf' : X ≤ 999999999999999 := by have := HX.out; omega
                      clear hz hu v1 v2 hf
                      go_wp2_with fail
                      go_ret2
                      exact ⟨by rw [V1.out, V2.out]; rfl, hx0⟩
                    · obtain ⟨v1, v2⟩ := ref_big m false N D (Q + 1) hz (by omega)
                      have V1 : Hid (refV m false N D = 0) := v1
                      have V2 : Hid (refE m false N D = 3) := v2
                      have hf' : 1000000000000000 ≤ X := by have := HX.out; omega
                      clear hz hu v1 v2 hf
                      go_wp2_with fail
                      go_ret2
                      exact ⟨by rw [V1.out, V2.out]; rfl, hx0⟩
                  · have ho : 9223372036854775808 ≤ N / D := by have := HO.out; simp at this; omega
                    obtain ⟨v1, v2⟩ := ref_big m false N D (N / D + 1) hz (by omega)
                    have V1 : Hid (refV m false N D = 0) := v1
                    have V2 : Hid (refE m false N D = 3) := v2
                    clear hz hu v1 v2 ho
                    go_wp2_with fail
                    go_ret2
                    exact ⟨by rw [V1.out, V2.out]; rfl, hx0⟩
                · have t5 : (pz == 1) = false := by have := HP.out; simp; omega
                  have hq2 : N / D % 2 = 0 := by rw [par_of _ _ HQ.out]; omega
                  have hu : upR m false (N / D) (N % D) D = false := by
                    rw [HR.out]
                    have w3d : (R ≠ D - R) = False := by simp [← w3c]
                    simp only [upR, w1c, w3d, w4c, if_false, if_true]; simp [hq2]
                  have hz : szR m false N D = N / D := by unfold szR; rw [hu]; simp
                  clear w1c w2c w3c w4c w5c hq2
                  cases o
                  · have ho : N / D < 9223372036854775808 := by have := HO.out; simp at this; omega
                    have hQN : Q = N / D := q_of _ _ HQ.out ho
                    have hQb : X ≤ 9223372036854775807 := by have := HX.out; omega
                    rw [← hQN] at hz
                    clear hQN ho
                    by_cases hf : Q ≤ 1000000000000000
                    · obtain ⟨v1, v2⟩ := ref_fit m false N D (Q) hz hf
                      have V1 : Hid (refV m false N D = (X)) := by unfold Hid; rw [v1, ← HX.out]; simp
                      have V2 : Hid (refE m false N D = 0) := v2
                      have hf' : X ≤ 1000000000000000 := by have := HX.out; omega
                      clear hz hu v1 v2 hf
                      go_wp2_with fail
                      go_ret2
                      exact ⟨by rw [V1.out, V2.out]; rfl, hx0⟩
                    · obtain ⟨v1, v2⟩ := ref_big m false N D (Q) hz (by omega)
                      have V1 : Hid (refV m false N D = 0) := v1
                      have V2 : Hid (refE m false N D = 3) := v2
                      have hf' : 1000000000000000 < X := by have := HX.out; omega
                      clear hz hu v1 v2 hf
                      go_wp2_with fail
                      go_ret2
                      exact ⟨by rw [V1.out, V2.out]; rfl, hx0⟩
                  · have ho : 9223372036854775808 ≤ N / D := by have := HO.out; simp at this; omega
                    obtain ⟨v1, v2⟩ := ref_big m false N D (N / D) hz (by omega)
                    have V1 : Hid (refV m false N D = 0) := v1
                    have V2 : Hid (refE m false N D = 3) := v2
                    clear hz hu v1 v2 ho
                    go_wp2_with fail
                    go_ret2
                    exact ⟨by rw [V1.out, V2.out]; rfl, hx0⟩
              · have t4 : (m == 2) = false := by simp [w4c]
                have hu : upR m false (N / D) (N % D) D = true := by
                  rw [HR.out]
                  have w3d : (R ≠ D - R) = False := by simp [← w3c]
                  simp only [upR, w1c, w2c, w3d, w4c, if_false, Bool.not_false]
                have hz : szR m false N D = N / D + 1 := by unfold szR; rw [hu]; simp
                clear w1c w2c w3c w4c
                cases o
                · have ho : N / D < 9223372036854775808 := by have := HO.out; simp at this; omega
                  have hQN : Q = N / D := q_of _ _ HQ.out ho
                  have hQb : X ≤ 9223372036854775807 := by have := HX.out; omega
                  rw [← hQN] at hz
                  clear hQN ho
                  by_cases hf : Q + 1 ≤ 1000000000000000
                  · obtain ⟨v1, v2⟩ := ref_fit m false N D (Q + 1) hz hf
                    have V1 : Hid (refV m false N D = (X + 1)) := by unfold Hid; rw [v1, ← HX.out]; simp
                    have V2 : Hid (refE m false N D = 0) := v2
                    have hf' : X ≤ 999999999999999 := by have := HX.out; omega
                    clear hz hu v1 v2 hf
                    go_wp2_with fail
                    go_ret2
                    exact ⟨by rw [V1.out, V2.out]; rfl, hx0⟩
                  · obtain ⟨v1, v2⟩ := ref_big m false N D (Q + 1) hz (by omega)
                    have V1 : Hid (refV m false N D = 0) := v1
                    have V2 : Hid (refE m false N D = 3) := v2
                    have hf' : 1000000000000000 ≤ X := by have := HX.out; omega
                    clear hz hu v1 v2 hf
                    go_wp2_with fail
                    go_ret2
                    exact ⟨by rw [V1.out, V2.out]; rfl, hx0⟩
                · have ho : 9223372036854775808 ≤ N / D := by have := HO.out; simp at this; omega
                  obtain ⟨v1, v2⟩ := ref_big m false N D (N / D + 1) hz (by omega)
                  have V1 : Hid (refV m false N D = 0) := v1
                  have V2 : Hid (refE m false N D = 3) := v2
                  clear hz hu v1 v2 ho
                  go_wp2_with fail
                  go_ret2
                  exact ⟨by rw [V1.out, V2.out]; rfl, hx0⟩
            · have t3 : ((R : Int) != (D : Int) - (R : Int)) = true := by simp; omega
              by_cases w6c : D - R < R
              · have t6 : (D : Int) - (R : Int) < (R : Int) := by omega
                have hu : upR m false (N / D) (N % D) D = true := by
                  rw [HR.out]
                  simp [upR, w1c, w2c, w3c, w6c]
                have hz : szR m false N D = N / D + 1 := by unfold szR; rw [hu]; simp
                clear w1c w2c w3c w6c
                cases o
                · have ho : N / D < 9223372036854775808 := by have := HO.out; simp at this; omega
                  have hQN : Q = N / D := q_of _ _ HQ.out ho
                  have hQb : X ≤ 9223372036854775807 := by have := HX.out; omega
                  rw [← hQN] at hz
                  clear hQN ho
                  by_cases hf : Q + 1 ≤ 1000000000000000
                  · obtain ⟨v1, v2⟩ := ref_fit m false N D (Q + 1) hz hf
                    have V1 : Hid (refV m false N D = (X + 1)) := by unfold Hid; rw [v1, ← HX.out]; simp
                    have V2 : Hid (refE m false N D = 0) := v2
                    have hf' : X ≤ 999999999999999 := by have := HX.out; omega
                    clear hz hu v1 v2 hf
                    go_wp2_with fail
                    go_ret2
                    exact ⟨by rw [V1.out, V2.out]; rfl, hx0⟩
                  · obtain ⟨v1, v2⟩ := ref_big m false N D (Q + 1) hz (by omega)
                    have V1 : Hid (refV m false N D = 0) := v1
                    have V2 : Hid (refE m false N D = 3) := v2
                    have hf' : 1000000000000000 ≤ X := by have := HX.out; omega
                    clear hz hu v1 v2 hf
                    go_wp2_with fail
                    go_ret2
                    exact ⟨by rw [V1.out, V2.out]; rfl, hx0⟩
                · have ho : 9223372036854775808 ≤ N / D := by have := HO.out; simp at this; omega
                  obtain ⟨v1, v2⟩ := ref_big m false N D (N / D + 1) hz (by omega)
                  have V1 : Hid (refV m false N D = 0) := v1
                  have V2 : Hid (refE m false N D = 3) := v2
                  clear hz hu v1 v2 ho
                  go_wp2_with fail
                  go_ret2
                  exact ⟨by rw [V1.out, V2.out]; rfl, hx0⟩
              · have t6 : (R : Int) ≤ (D : Int) - (R : Int) := by omega
                have hu : upR m false (N / D) (N % D) D = false := by
                  rw [HR.out]
                  simp [upR, w1c, w2c, w3c]; omega
                have hz : szR m false N D = N / D := by unfold szR; rw [hu]; simp
                clear w1c w2c w3c w6c
                cases o
                · have ho : N / D < 9223372036854775808 := by have := HO.out; simp at this; omega
                  have hQN : Q = N / D := q_of _ _ HQ.out ho
                  have hQb : X ≤ 9223372036854775807 := by have := HX.out; omega
                  rw [← hQN] at hz
                  clear hQN ho
                  by_cases hf : Q ≤ 1000000000000000
                  · obtain ⟨v1, v2⟩ := ref_fit m false N D (Q) hz hf
                    have V1 : Hid (refV m false N D = (X)) := by unfold Hid; rw [v1, ← HX.out]; simp
                    have V2 : Hid (refE m false N D = 0) := v2
                    have hf' : X ≤ 1000000000000000 := by have := HX.out; omega
                    clear hz hu v1 v2 hf
                    go_wp2_with fail
                    go_ret2
                    exact ⟨by rw [V1.out, V2.out]; rfl, hx0⟩
                  · obtain ⟨v1, v2⟩ := ref_big m false N D (Q) hz (by omega)
                    have V1 : Hid (refV m false N D = 0) := v1
                    have V2 : Hid (refE m false N D = 3) := v2
                    have hf' : 1000000000000000 < X := by have := HX.out; omega
                    clear hz hu v1 v2 hf
                    go_wp2_with fail
                    go_ret2
                    exact ⟨by rw [V1.out, V2.out]; rfl, hx0⟩
                · have ho : 9223372036854775808 ≤ N / D := by have := HO.out; simp at this; omega
                  obtain ⟨v1, v2⟩ := ref_big m false N D (N / D) hz (by omega)
                  have V1 : Hid (refV m false N D = 0) := v1
                  have V2 : Hid (refE m false N D = 3) := v2
                  clear hz hu v1 v2 ho
                  go_wp2_with fail
                  go_ret2
                  exact ⟨by rw [V1.out, V2.out]; rfl, hx0⟩
      · by_cases w1c : R = 0
        · have t1 : ((R : Int) == 0) = true := by simp [w1c]
          have hu : upR m true (N / D) (N % D) D = false := by
            rw [HR.out]
            simp [upR, w1c]
          have hz : szR m true N D = N / D := by unfold szR; rw [hu]; simp
          clear w1c
          cases o
          · have ho : N / D < 9223372036854775808 := by have := HO.out; simp at this; omega
            have hQN : Q = N / D := q_of _ _ HQ.out ho
            have hQb : X ≤ 9223372036854775807 := by have := HX.out; omega
            rw [← hQN] at hz
            clear hQN ho
            by_cases hf : Q ≤ 1000000000000000
            · obtain ⟨v1, v2⟩ := ref_fit m true N D (Q) hz hf
              have V1 : Hid (refV m true N D = -(X)) := by unfold Hid; rw [v1, ← HX.out]; simp
              have V2 : Hid (refE m true N D = 0) := v2
              have hf' : X ≤ 1000000000000000 := by have := HX.out; omega
              clear hz hu v1 v2 hf
              go_wp2_with fail
              go_ret2
              exact ⟨by rw [V1.out, V2.out]; rfl, hx0⟩
            · obtain ⟨v1, v2⟩ := ref_big m true N D (Q) hz (by omega)
              have V1 : Hid (refV m true N D = 0) := v1
              have V2 : Hid (refE m true N D = 3) := v2
              have hf' : 1000000000000000 < X := by have := HX.out; omega
              clear hz hu v1 v2 hf
              go_wp2_with fail
              go_ret2
              exact ⟨by rw [V1.out, V2.out]; rfl, hx0⟩
          · have ho : 9223372036854775808 ≤ N / D := by have := HO.out; simp at this; omega
            obtain ⟨v1, v2⟩ := ref_big m true N D (N / D) hz (by omega)
            have V1 : Hid (refV m true N D = 0) := v1
            have V2 : Hid (refE m true N D = 3) := v2
            clear hz hu v1 v2 ho
            go_wp2_with fail
            go_ret2
            exact ⟨by rw [V1.out, V2.out]; rfl, hx0⟩
        · have t1 : ((R : Int) == 0) = false := by simp [w1c]
          by_cases w2c : m = 3
          · have t2 : (m == 3) = true := by simp [w2c]
            have hu : upR m true (N / D) (N % D) D = true := by
              rw [HR.out]
              simp [upR, w1c, w2c]
            have hz : szR m true N D = N / D + 1 := by unfold szR; rw [hu]; simp
            clear w1c w2c
            cases o
            · have ho : N / D < 9223372036854775808 := by have := HO.out; simp at this; omega
              have hQN : Q = N / D := q_of _ _ HQ.out ho
              have hQb : X ≤ 9223372036854775807 := by have := HX.out; omega
              rw [← hQN] at hz
              clear hQN ho
              by_cases hf : Q + 1 ≤ 1000000000000000
              · obtain ⟨v1, v2⟩ := ref_fit m true N D (Q + 1) hz hf
                have V1 : Hid (refV m true N D = -(X + 1)) := by unfold Hid; rw [v1, ← HX.out]; simp
                have V2 : Hid (refE m true N D = 0) := v2
                have hf' : X ≤ 999999999999999 := by have := HX.out; omega
                clear hz hu v1 v2 hf
                go_wp2_with fail
                go_ret2
                exact ⟨by rw [V1.out, V2.out]; rfl, hx0⟩
              · obtain ⟨v1, v2⟩ := ref_big m true N D (Q + 1) hz (by omega)
                have V1 : Hid (refV m true N D = 0) := v1
                have V2 : Hid (refE m true N D = 3) := v2
                have hf' : 1000000000000000 ≤ X := by have := HX.out; omega
                clear hz hu v1 v2 hf
                go_wp2_with fail
                go_ret2
                exact ⟨by rw [V1.out, V2.out]; rfl, hx0⟩
            · have ho : 9223372036854775808 ≤ N / D := by have := HO.out; simp at this; omega
              obtain ⟨v1, v2⟩ := ref_big m true N D (N / D + 1) hz (by omega)
              have V1 : Hid (refV m true N D = 0) := v1
              have V2 : Hid (refE m true N D = 3) := v2
              clear hz hu v1 v2 ho
              go_wp2_with fail
              go_ret2
              exact ⟨by rw [V1.out, V2.out]; rfl, hx0⟩
          · have t2 : (m == 3) = false := by simp [w2c]
            by_cases w3c : R = D - R
            · have t3 : ((R : Int) != (D : Int) - (R : Int)) = false := by simp; omega
              by_cases w4c : m = 2
              · have t4 : (m == 2) = true := by simp [w4c]
                by_cases w5c : Q % 2 = 1
                · have t5 : (pz == 1) = true := by have := HP.out; simp; omega
                  have hq2 : N / D % 2 = 1 := by rw [par_of _ _ HQ.out]; omega
                  have hu : upR m true (N / D) (N % D) D = true := by
                    rw [HR.out]
                    have w3d : (R ≠ D - R) = False := by simp [← w3c]
                    simp only [upR, w1c, w3d, w4c, if_false, if_true]; simp [hq2]
                  have hz : szR m true N D = N / D + 1 := by unfold szR; rw [hu]; simp
                  clear w1c w2c w3c w4c w5c hq2
                  cases o
                  · have ho : N / D < 9223372036854775808 := by have := HO.out; simp at this; omega
                    have hQN : Q = N / D := q_of _ _ HQ.out ho
                    have hQb : X ≤ 9223372036854775807 := by have := HX.out; omega
                    rw [← hQN] at hz
                    clear hQN ho
                    by_cases hf : Q + 1 ≤ 1000000000000000
                    · obtain ⟨v1, v2⟩ := ref_fit m true N D (Q + 1) hz hf
                      have V1 : Hid (refV m true N D = -(X + 1)) := by unfold Hid; rw [v1, ← HX.out]; simp
                      have V2 : Hid (refE m true N D = 0) := v2
                      have hf' : X ≤ 999999999999999 := by have := HX.out; omega
                      clear hz hu v1 v2 hf
                      go_wp2_with fail
                      go_ret2
                      exact ⟨by rw [V1.out, V2.out]; rfl, hx0⟩
                    · obtain ⟨v1, v2⟩ := ref_big m true N D (Q + 1) hz (by omega)
                      have V1 : Hid (refV m true N D = 0) := v1
                      have V2 : Hid (refE m true N D = 3) := v2
                      have hf' : 1000000000000000 ≤ X := by have := HX.out; omega
                      clear hz hu v1 v2 hf
                      go_wp2_with fail
                      go_ret2
                      exact ⟨by rw [V1.out, V2.out]; rfl, hx0⟩
                  · have ho : 9223372036854775808 ≤ N / D := by have := HO.out; simp at this; omega
                    obtain ⟨v1, v2⟩ := ref_big m true N D (N / D + 1) hz (by omega)
                    have V1 : Hid (refV m true N D = 0) := v1
                    have V2 : Hid (refE m true N D = 3) := v2
                    clear hz hu v1 v2 ho
                    go_wp2_with fail
                    go_ret2
                    exact ⟨by rw [V1.out, V2.out]; rfl, hx0⟩
                · have t5 : (pz == 1) = false := by have := HP.out; simp; omega
                  have hq2 : N / D % 2 = 0 := by rw [par_of _ _ HQ.out]; omega
                  have hu : upR m true (N / D) (N % D) D = false := by
                    rw [HR.out]
                    have w3d : (R ≠ D - R) = False := by simp [← w3c]
                    simp only [upR, w1c, w3d, w4c, if_false, if_true]; simp [hq2]
                  have hz : szR m true N D = N / D := by unfold szR; rw [hu]; simp
                  clear w1c w2c w3c w4c w5c hq2
                  cases o
                  · have ho : N / D < 9223372036854775808 := by have := HO.out; simp at this; omega
                    have hQN : Q = N / D := q_of _ _ HQ.out ho
                    have hQb : X ≤ 9223372036854775807 := by have := HX.out; omega
                    rw [← hQN] at hz
                    clear hQN ho
                    by_cases hf : Q ≤ 1000000000000000
                    · obtain ⟨v1, v2⟩ := ref_fit m true N D (Q) hz hf
                      have V1 : Hid (refV m true N D = -(X)) := by unfold Hid; rw [v1, ← HX.out]; simp
                      have V2 : Hid (refE m true N D = 0) := v2
                      have hf' : X ≤ 1000000000000000 := by have := HX.out; omega
                      clear hz hu v1 v2 hf
                      go_wp2_with fail
                      go_ret2
                      exact ⟨by rw [V1.out, V2.out]; rfl, hx0⟩
                    · obtain ⟨v1, v2⟩ := ref_big m true N D (Q) hz (by omega)
                      have V1 : Hid (refV m true N D = 0) := v1
                      have V2 : Hid (refE m true N D = 3) := v2
                      have hf' : 1000000000000000 < X := by have := HX.out; omega
                      clear hz hu v1 v2 hf
                      go_wp2_with fail
                      go_ret2
                      exact ⟨by rw [V1.out, V2.out]; rfl, hx0⟩
                  · have ho : 9223372036854775808 ≤ N / D := by have := HO.out; simp at this; omega
                    obtain ⟨v1, v2⟩ := ref_big m true N D (N / D) hz (by omega)
                    have V1 : Hid (refV m true N D = 0) := v1
                    have V2 : Hid (refE m true N D = 3) := v2
                    clear hz hu v1 v2 ho
                    go_wp2_with fail
                    go_ret2
                    exact ⟨by rw [V1.out, V2.out]; rfl, hx0⟩
              · have t4 : (m == 2) = false := by simp [w4c]
                have hu : upR m true (N / D) (N % D) D = false := by
                  rw [HR.out]
                  have w3d : (R ≠ D - R) = False := by simp [← w3c]
                  simp only [upR, w1c, w2c, w3d, w4c, if_false, Bool.not_true]
                have hz : szR m true N D = N / D := by unfold szR; rw [hu]; simp
                clear w1c w2c w3c w4c
                cases o
                · have ho : N / D < 9223372036854775808 := by have := HO.out; simp at this; omega
                  have hQN : Q = N / D := q_of _ _ HQ.out ho
                  have hQb : X ≤ 9223372036854775807 := by have := HX.out; omega
                  rw [← hQN] at hz
                  clear hQN ho
                  by_cases hf : Q ≤ 1000000000000000
                  · obtain ⟨v1, v2⟩ := ref_fit m true N D (Q) hz hf
                    have V1 : Hid (refV m true N D = -(X)) := by unfold Hid; rw [v1, ← HX.out]; simp
                    have V2 : Hid (refE m true N D = 0) := v2
                    have hf' : X ≤ 1000000000000000 := by have := HX.out; omega
                    clear hz hu v1 v2 hf
                    go_wp2_with fail
                    go_ret2
                    exact ⟨by rw [V1.out, V2.out]; rfl, hx0⟩
                  · obtain ⟨v1, v2⟩ := ref_big m true N D (Q) hz (by omega)
                    have V1 : Hid (refV m true N D = 0) := v1
                    have V2 : Hid (refE m true N D = 3) := v2
                    have hf' : 1000000000000000 < X := by have := HX.out; omega
                    clear hz hu v1 v2 hf
                    go_wp2_with fail
                    go_ret2
                    exact ⟨by rw [V1.out, V2.out]; rfl, hx0⟩
                · have ho : 9223372036854775808 ≤ N / D := by have := HO.out; simp at this; omega
                  obtain ⟨v1, v2⟩ := ref_big m true N D (N / D) hz (by omega)
                  have V1 : Hid (refV m true N D = 0) := v1
                  have V2 : Hid (refE m true N D = 3) := v2
                  clear hz hu v1 v2 ho
                  go_wp2_with fail
                  go_ret2
                  exact ⟨by rw [V1.out, V2.out]; rfl, hx0⟩
            · have t3 : ((R : Int) != (D : Int) - (R : Int)) = true := by simp; omega
              by_cases w6c : D - R < R
              · have t6 : (D : Int) - (R : Int) < (R : Int) := by omega
                have hu : upR m true (N / D) (N % D) D = true := by
                  rw [HR.out]
                  simp [upR, w1c, w2c, w3c, w6c]
                have hz : szR m true N D = N / D + 1 := by unfold szR; rw [hu]; simp
                clear w1c w2c w3c w6c
                cases o
                · have ho : N / D < 9223372036854775808 := by have := HO.out; simp at this; omega
                  have hQN : Q = N / D := q_of _ _ HQ.out ho
                  have hQb : X ≤ 9223372036854775807 := by have := HX.out; omega
                  rw [← hQN] at hz
                  clear hQN ho
                  by_cases hf : Q + 1 ≤ 1000000000000000
                  · obtain ⟨v1, v2⟩ := ref_fit m true N D (Q + 1) hz hf
                    have V1 : Hid (refV m true N D = -(X + 1)) := by unfold Hid; rw [v1, ← HX.out]; simp
                    have V2 : Hid (refE m true N D = 0) := v2
                    have hf' : X ≤ 999999999999999 := by have := HX.out; omega
                    clear hz hu v1 v2 hf
                    go_wp2_with fail
                    go_ret2
                    exact ⟨by rw [V1.out, V2.out]; rfl, hx0⟩
                  · obtain ⟨v1, v2⟩ := ref_big m true N D (Q + 1) hz (by omega)
                    have V1 : Hid (refV m true N D = 0) := v1
                    have V2 : Hid (refE m true N D = 3) := v2
                    have hf' : 1000000000000000 ≤ X := by have := HX.out; omega
                    clear hz hu v1 v2 hf
                    go_wp2_with fail
                    go_ret2
                    exact ⟨by rw [V1.out, V2.out]; rfl, hx0⟩
                · have ho : 9223372036854775808 ≤ N / D := by have := HO.out; simp at this; omega
                  obtain ⟨v1, v2⟩ := ref_big m true N D (N / D + 1) hz (by omega)
                  have V1 : Hid (refV m true N D = 0) := v1
                  have V2 : Hid (refE m true N D = 3) := v2
                  clear hz hu v1 v2 ho
                  go_wp2_with fail
                  go_ret2
                  exact ⟨by rw [V1.out, V2.out]; rfl, hx0⟩
              · have t6 : (R : Int) ≤ (D : Int) - (R : Int) := by omega
                have hu : upR m true (N / D) (N % D) D = false := by
                  rw [HR.out]
                  simp [upR, w1c, w2c, w3c]; omega
                have hz : szR m true N D = N / D := by unfold szR; rw [hu]; simp
                clear w1c w2c w3c w6c
                cases o
                · have ho : N / D < 9223372036854775808 := by have := HO.out; simp at this; omega
                  have hQN : Q = N / D := q_of _ _ HQ.out ho
                  have hQb : X ≤ 9223372036854775807 := by have := HX.out; omega
                  rw [← hQN] at hz
                  clear hQN ho
                  by_cases hf : Q ≤ 1000000000000000
                  · obtain ⟨v1, v2⟩ := ref_fit m true N D (Q) hz hf
                    have V1 : Hid (refV m true N D = -(X)) := by unfold Hid; rw [v1, ← HX.out]; simp
                    have V2 : Hid (refE m true N D = 0) := v2
                    have hf' : X ≤ 1000000000000000 := by have := HX.out; omega
                    clear hz hu v1 v2 hf
                    go_wp2_with fail
                    go_ret2
                    exact ⟨by rw [V1.out, V2.out]; rfl, hx0⟩
                  · obtain ⟨v1, v2⟩ := ref_big m true N D (Q) hz (by omega)
                    have V1 : Hid (refV m true N D = 0) := v1
                    have V2 : Hid (refE m true N D = 3) := v2
                    have hf' : 1000000000000000 < X := by have := HX.out; omega
                    clear hz hu v1 v2 hf
                    go_wp2_with fail
                    go_ret2
                    exact ⟨by rw [V1.out, V2.out]; rfl, hx0⟩
                · have ho : 9223372036854775808 ≤ N / D := by have := HO.out; simp at this; omega
                  obtain ⟨v1, v2⟩ := ref_big m true N D (N / D) hz (by omega)
                  have V1 : Hid (refV m true N D = 0) := v1
                  have V2 : Hid (refE m true N D = 3) := v2
                  clear hz hu v1 v2 ho
                  go_wp2_with fail
                  go_ret2
                  exact ⟨by rw [V1.out, V2.out]; rfl, hx0⟩
    · obtain ⟨j, rfl⟩ := Int.eq_ofNat_of_zero_le h0
      have ej : ((j : Int) + 1).toNat = j + 1 := by omega
      rw [ej]
      have r1 : rAt N D (j + 1) < D := Nat.mod_lt _ hD
      have q1 : qAt N D (j + 1) < 18446744073709551616 := Nat.mod_lt _ (by omega)
      have hb2 : bitAt N j < 2 := Nat.mod_lt _ (by omega)
      have lj : limb N (j / 32) < 4294967296 := Nat.mod_lt _ (by omega)
      have hc : (w2.alloc (.cells #[.int .u64 (limb N 0 : Nat), .int .u64 (limb N 1 : Nat), .int .u64 (limb N 2 : Nat), .int .u64 (limb N 3 : Nat)] 49)).cell? ⟨w2.heap.size, j / 32, none⟩ = some (.int .u64 (limb N (j / 32) : Nat)) := by
        have : j / 32 = 0 ∨ j / 32 = 1 ∨ j / 32 = 2 ∨ j / 32 = 3 := by omega
        rcases this with h | h | h | h <;> rw [h] <;> simp [go_sem]
      have hz1 := step_lo N D j hD
      have hz2 := step_hi N D j hD
      obtain ⟨z, hz⟩ : ∃ z, 2 * rAt N D (j + 1) + bitAt N j = z := ⟨_, rfl⟩
      obtain ⟨q2, hq2⟩ : ∃ q2, 2 * qAt N D (j + 1) % 18446744073709551616 = q2 := ⟨_, rfl⟩
      have B1 : bits .and .u64 ((limb N (j / 32) : Int) / 2 ^ (j % 32)) 1 = (bitAt N j : Int) := by
        have e2 : (2 : Int) ^ (j % 32) = ((2 ^ (j % 32) : Nat) : Int) := by simp
        have l2 : limb N (j / 32) / 2 ^ (j % 32) ≤ limb N (j / 32) := Nat.div_le_self _ _
        rw [e2, ← Int.natCast_ediv, and_one _ (by omega), limb_bit]
      have B2 : bits .or .u64 ((rAt N D (j + 1) : Int) * 2) (bitAt N j : Int) = (z : Int) := by rw [or_bit _ _ (by omega) hb2, hz]
      have B3 : IntKind.u64.wrap ((qAt N D (j + 1) : Int) * 2) = (q2 : Int) := by
        rw [IntKind.wrap_u64]; omega
      have B4 : bits .or .u64 (q2 : Int) 1 = ((q2 + 1 : Nat) : Int) := or_one q2 (by omega) (by omega)
      have hzD : z ≤ 18446744073709551615 := by omega
      have ek : ((j : Int) - 1 + 1).toNat = j := by omega
      rw [hz] at hz1 hz2
      have HZ1 : Hid (z < D → _ ∧ _) := hz1
      have HZ2 : Hid (D ≤ z → _ ∧ _) := hz2
      have HQ2 : Hid (2 * qAt N D (j + 1) % 18446744073709551616 = q2) := hq2
      clear hz hz1 hz2 hq2 hb2 ej
      obtain ⟨c, hc5⟩ : ∃ c, ((qAt N D (j + 1) : Int) / 4611686018427387904 == 1) = c := ⟨_, rfl⟩
      have HC5 : Hid (decide (qAt N D (j + 1) / 4611686018427387904 = 1) = c) := by
        unfold Hid; rw [← hc5, Bool.eq_iff_iff]; simp; omega
      cases ho : oAt N D (j + 1)
      · by_cases hlt : z < D
        · have o1 := o_step N D j 0 (Or.inl (HZ1.out hlt).1)
          rw [HC5.out, ho, Bool.false_or] at o1
          go_wp2
          refine ⟨⟨(j : Int) - 1, by omega, by omega, rfl, ?_, ?_, ?_⟩, by simp [intOf]⟩
          · rw [ek, ← HQ2.out]; unfold qAt; rw [(HZ1.out hlt).1]; exact congrArg (fun x : Nat => Value.int .u64 (x : Int)) (by omega)
          · rw [ek, (HZ1.out hlt).2]
          · rw [ek, ← o1]
        · have o1 := o_step N D j 0 (Or.inr (HZ2.out (by omega)).1)
          rw [HC5.out, ho, Bool.false_or] at o1
          go_wp2
          refine ⟨⟨(j : Int) - 1, by omega, by omega, rfl, ?_, ?_, ?_⟩, by simp [intOf]⟩
          · have hq2 := HQ2.out
            rw [ek]; unfold qAt at hq2 ⊢; rw [(HZ2.out (by omega)).1]; exact congrArg (fun x : Int => Value.int .u64 x) (by omega)
          · rw [ek, (HZ2.out (by omega)).2]; exact congrArg (fun x : Int => Value.int .u64 x) (by omega)
          · rw [ek, ← o1]
      · by_cases hlt : z < D
        · have o1 := o_step N D j 0 (Or.inl (HZ1.out hlt).1)
          rw [ho, Bool.true_or] at o1
          have O1 : Hid (true = oAt N D j) := o1
          clear o1
          go_wp2
          refine ⟨⟨(j : Int) - 1, by omega, by omega, rfl, ?_, ?_, ?_⟩, by simp [intOf]⟩
          · rw [ek, ← HQ2.out]; unfold qAt; rw [(HZ1.out hlt).1]; exact congrArg (fun x : Nat => Value.int .u64 (x : Int)) (by omega)
          · rw [ek, (HZ1.out hlt).2]
          · rw [ek, ← O1.out]
        · have o1 := o_step N D j 0 (Or.inr (HZ2.out (by omega)).1)
          rw [ho, Bool.true_or] at o1
          have O1 : Hid (true = oAt N D j) := o1
          clear o1
          go_wp2
          refine ⟨⟨(j : Int) - 1, by omega, by omega, rfl, ?_, ?_, ?_⟩, by simp [intOf]⟩
          · have hq2 := HQ2.out
            rw [ek]; unfold qAt at hq2 ⊢; rw [(HZ2.out (by omega)).1]; exact congrArg (fun x : Int => Value.int .u64 x) (by omega)
          · rw [ek, (HZ2.out (by omega)).2]; exact congrArg (fun x : Int => Value.int .u64 x) (by omega)
          · rw [ek, ← O1.out]

end Go.Proofs.Ytpmgbagnaaahoaa
