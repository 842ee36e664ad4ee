/- Texts of an elder layer, one behind the other (layer 12), as contracts: no statement of the seat is proved here. -/
import Derived.Lib.Mul64
import Derived.Laws.Bits64b
import Derived.Test.YtafjmpaefikdcaaGreatDoorL12Face
import Derived.Lib.BitFns
/- The plain numbers beneath fixnum: rounding by floors, and the facts on words of 64 bits: no program is spoken of here. -/
namespace Go.Proofs.YtafjmpaefikdcaaGreatDoor.L12
namespace U
/-- The lower half of a word. -/
theorem low (a : Nat) (ha : a < 18446744073709551616) : bits .and .u64 (a : Int) 4294967295 = ((a % 4294967296 : Nat) : Int) := by
  rw [show (4294967295 : Int) = ((4294967295 : Nat) : Int) from rfl, bits_and_u64_nat a 4294967295 ha (by omega), show (4294967295 : Nat) = 2 ^ 32 - 1 from rfl, Nat.and_two_pow_sub_one_eq_mod a 32]
theorem high (a : Nat) : (a : Int) / 4294967296 = ((a / 4294967296 : Nat) : Int) := by omega
theorem mul (a b : Nat) : (a : Int) * (b : Int) = ((a * b : Nat) : Int) := (Int.natCast_mul a b).symm
theorem add (a b : Nat) : (a : Int) + (b : Int) = ((a + b : Nat) : Int) := (Int.natCast_add a b).symm
theorem wrapMod (a : Nat) : IntKind.u64.wrap (a : Int) = ((a % 18446744073709551616 : Nat) : Int) := by rw [IntKind.wrap_u64]; omega
theorem wrapLt (a : Nat) (ha : a < 18446744073709551616) : IntKind.u64.wrap (a : Int) = (a : Int) := by rw [IntKind.wrap_u64]; omega
end U

/-- A number without its sign. -/
def mag (a : Int) : Nat := a.natAbs
/-- Do the signs make a product negative? -/
def sgn (a b : Int) : Bool := decide (a < 0) != decide (b < 0)
/-- The upper word, the lower word; a quotient, a rest. -/
def hiW (n : Nat) : Nat := n / 18446744073709551616
def loW (n : Nat) : Nat := n % 18446744073709551616
def quoN (n d : Nat) : Nat := n / d
def remN (n d : Nat) : Nat := n % d

/-- Is 'floor, and rest by d' rounded up? -/
def upB (m f r d : Int) : Bool :=
  if m = 1 then decide (d - r ≤ r) else if m = 2 then decide (d - r < r) || (decide (r = d - r) && decide (f % 2 ≠ 0)) else false

/-- n by d, rounded by m. -/
def rnd (m n d : Int) : Int := n / d + if upB m (n / d) (n % d) d then 1 else 0

/-- Does it fit? -/
def Fit (v : Int) : Prop := -1000000000000000 ≤ v ∧ v ≤ 1000000000000000

/-- The same, as a Bool. -/
def fitB (v : Int) : Bool := decide (-1000000000000000 ≤ v) && decide (v ≤ 1000000000000000)
theorem fitB_iff (v : Int) : fitB v = true ↔ Fit v := by simp [fitB, Fit]

theorem mag_nn (a : Int) (h : 0 ≤ a) : ((mag a : Nat) : Int) = a := by unfold mag; omega
theorem mag_neg (a : Int) (h : a < 0) : ((mag a : Nat) : Int) = -a := by unfold mag; omega

/-- The product out of its parts. -/
theorem prod_mag (a b : Int) : a * b = if sgn a b then -((mag a * mag b : Nat) : Int) else ((mag a * mag b : Nat) : Int) := by
  rw [Int.natCast_mul]
  rcases Int.lt_or_le a 0 with ha | ha <;> rcases Int.lt_or_le b 0 with hb | hb
  · have e : sgn a b = false := by simp [sgn, ha, hb]
    rw [e, mag_neg a ha, mag_neg b hb]; simp [Int.neg_mul_neg]
  · have e : sgn a b = true := by simp [sgn, ha]; omega
    rw [e, mag_neg a ha, mag_nn b hb]; simp [Int.neg_mul]
  · have e : sgn a b = true := by simp [sgn, hb]; omega
    rw [e, mag_nn a ha, mag_neg b hb]; simp [Int.mul_neg]
  · have e : sgn a b = false := by simp [sgn]; omega
    rw [e, mag_nn a ha, mag_nn b hb]; simp

/-- The floor and the rest of a negative number, out of its size's. -/
theorem neg_div_rest (N d : Nat) (hd : 0 < d) (h : 0 < N % d) : (-(N : Int)) / (d : Int) = -((N / d : Nat) : Int) - 1 ∧ (-(N : Int)) % (d : Int) = (d : Int) - ((N % d : Nat) : Int) := by
  have hlt := Nat.mod_lt N hd
  have e := Nat.div_add_mod N d
  have hq : (-(N : Int)) = (d : Int) * (-((N / d : Nat) : Int) - 1) + ((d : Int) - ((N % d : Nat) : Int)) := by
    have e' : (N : Int) = (d : Int) * ((N / d : Nat) : Int) + ((N % d : Nat) : Int) := by exact_mod_cast e.symm
    rw [Int.mul_sub, Int.mul_neg, Int.mul_one]
    omega
  have hdi : (0 : Int) < (d : Int) := by omega
  constructor
  · have := Int.ediv_emod_unique hdi (a := -(N : Int)) (r := (d : Int) - ((N % d : Nat) : Int)) (q := -((N / d : Nat) : Int) - 1)
    exact (this.2 ⟨by rw [hq, Int.add_comm], by omega, by omega⟩).1
  · have := Int.ediv_emod_unique hdi (a := -(N : Int)) (r := (d : Int) - ((N % d : Nat) : Int)) (q := -((N / d : Nat) : Int) - 1)
    exact (this.2 ⟨by rw [hq, Int.add_comm], by omega, by omega⟩).2

theorem neg_div_none (N d : Nat) (hd : 0 < d) (h : N % d = 0) : (-(N : Int)) / (d : Int) = -((N / d : Nat) : Int) ∧ (-(N : Int)) % (d : Int) = 0 := by
  have e := Nat.div_add_mod N d
  have hq : (-(N : Int)) = (d : Int) * (-((N / d : Nat) : Int)) + 0 := by
    have e' : (N : Int) = (d : Int) * ((N / d : Nat) : Int) + ((N % d : Nat) : Int) := by exact_mod_cast e.symm
    rw [Int.mul_neg]
    omega
  have hdi : (0 : Int) < (d : Int) := by omega
  have := Int.ediv_emod_unique hdi (a := -(N : Int)) (r := 0) (q := -((N / d : Nat) : Int))
  exact this.2 ⟨by omega, by omega, by omega⟩

theorem div_rest (n d : Int) (hd : 0 < d) : d * (n / d) + n % d = n ∧ 0 ≤ n % d ∧ n % d < d :=
  ⟨Int.mul_ediv_add_emod n d, Int.emod_nonneg n (by omega), Int.emod_lt_of_pos n hd⟩

end Go.Proofs.YtafjmpaefikdcaaGreatDoor.L12
/- What multiply, signed, goesUp and quotient of the program do, as contracts: no statement of the seat is proved here. -/
namespace Go.Proofs.YtafjmpaefikdcaaGreatDoor.L12
open Go.RowKit
set_option linter.unusedVariables false

theorem magnitude_neg (a : Int) (w : World) (h1 : -9223372036854775808 ≤ a) (h2 : a < 0) :
    Calls Tryz.prog 135 #[.int .i64 a] w fun e w' => e = .returned (.int .u64 (-a)) ∧ w' = w := by
  have HE : Hid (-(a + 1) + 1 = -a) := by unfold Hid; omega
  go_enter Tryz.func135, Tryz.ntmps135
  go_wp2
  rw [HE.out]
  go_ret
  exact ⟨rfl, rfl⟩

theorem magnitude_nn (a : Int) (w : World) (h1 : 0 ≤ a) (h2 : a ≤ 9223372036854775807) :
    Calls Tryz.prog 135 #[.int .i64 a] w fun e w' => e = .returned (.int .u64 a) ∧ w' = w := by
  go_enter Tryz.func135, Tryz.ntmps135
  go_wp2
  go_ret
  exact ⟨rfl, rfl⟩

/-- An int64. -/
def I64 (a : Int) : Prop := -9223372036854775808 ≤ a ∧ a ≤ 9223372036854775807

theorem magnitude_any (a : Int) (w : World) (h : I64 a) :
    Calls Tryz.prog 135 #[.int .i64 a] w fun e w' => e = .returned (.int .u64 (mag a : Nat)) ∧ w' = w := by
  obtain ⟨h1, h2⟩ := h
  rcases Int.lt_or_le a 0 with ha | ha
  · rw [mag_neg a ha]; exact magnitude_neg a w h1 ha
  · rw [mag_nn a ha]; exact magnitude_nn a w ha h2

theorem mag_lt (a : Int) (h : I64 a) : mag a ≤ 9223372036854775808 := by
  obtain ⟨h1, h2⟩ := h
  unfold mag; omega

set_option maxHeartbeats 1000000 in
theorem mul64_any (x y : Nat) (hx : x < 18446744073709551616) (hy : y < 18446744073709551616) (w : World) :
    Calls Tryz.prog 109 #[.int .u64 x, .int .u64 y] w fun e w' => e = .returned (.tuple #[.int .u64 (hiW (x * y) : Nat), .int .u64 (loW (x * y) : Nat)]) ∧ w' = w := by
  unfold hiW loW
  obtain ⟨bd, bt, bw, hhi⟩ := Lib.mul64_hi x y hx hy
  have ba := Lib.half_mul_le (a := x / 4294967296) (b := y / 4294967296) (by omega) (by omega)
  have bb := Lib.half_mul_le (a := x / 4294967296) (b := y % 4294967296) (by omega) (by omega)
  have bc := Lib.half_mul_le (a := x % 4294967296) (b := y / 4294967296) (by omega) (by omega)
  have ba' : x / 4294967296 * (y / 4294967296) < 18446744073709551616 := by omega
  have bb' : x / 4294967296 * (y % 4294967296) < 18446744073709551616 := by omega
  have bc' : x % 4294967296 * (y / 4294967296) < 18446744073709551616 := by omega
  have bh1 : x / 4294967296 * (y / 4294967296) + (x / 4294967296 * (y % 4294967296) + x % 4294967296 * (y % 4294967296) / 4294967296) / 4294967296 < 18446744073709551616 := by omega
  have bh : x / 4294967296 * (y / 4294967296) + (x / 4294967296 * (y % 4294967296) + x % 4294967296 * (y % 4294967296) / 4294967296) / 4294967296 + ((x / 4294967296 * (y % 4294967296) + x % 4294967296 * (y % 4294967296) / 4294967296) % 4294967296 + x % 4294967296 * (y / 4294967296)) / 4294967296 < 18446744073709551616 := by omega
  go_enter Tryz.func109, Tryz.ntmps109
  go_wp2
  simp only [U.low x hx, U.low y hy, U.high, U.mul, U.add, U.wrapLt _ bd, U.wrapLt _ bb', U.wrapLt _ bt, U.low _ bt, U.wrapLt _ bc', U.wrapLt _ bw, U.wrapLt _ ba', U.wrapLt _ bh1, U.wrapLt _ bh, U.wrapMod (x * y)]
  rw [hhi]
  go_ret2
  exact ⟨rfl, rfl⟩

theorem multiply_any (a b : Int) (w : World) (ha : I64 a) (hb : I64 b) :
    Calls Tryz.prog 124 #[.int .i64 a, .int .i64 b] w fun e w' => e = .returned (.tuple #[.int .u64 (hiW (mag a * mag b) : Nat), .int .u64 (loW (mag a * mag b) : Nat), .bool (sgn a b)]) ∧ w' = w := by
  have h1 := mag_lt a ha
  have h2 := mag_lt b hb
  have HS : Hid ((!(decide (a < 0) == decide (b < 0))) = sgn a b) := rfl
  go_enter Tryz.func124, Tryz.ntmps124
  go_wp2_with fail
  refine (magnitude_any a _ ha).mono ?_
  rintro e w1 ⟨rfl, rfl⟩
  go_wp2_with fail
  refine (magnitude_any b _ hb).mono ?_
  rintro e w1 ⟨rfl, rfl⟩
  go_wp2_with fail
  refine (mul64_any (mag a) (mag b) (by omega) (by omega) _).mono ?_
  rintro e w1 ⟨rfl, rfl⟩
  go_wp2_with fail
  rw [HS.out]
  go_ret3
  exact ⟨rfl, rfl⟩

theorem signed_any (n : Int) (s : Bool) (w : World) (h : I64 n) (h0 : 0 ≤ n) :
    Calls Tryz.prog 125 #[.int .i64 n, .bool s] w fun e w' => e = .returned (.int .i64 (if s then -n else n)) ∧ w' = w := by
  obtain ⟨h1, h2⟩ := h
  cases s
  · go_enter Tryz.func125, Tryz.ntmps125
    go_wp2
    go_ret
    exact ⟨rfl, rfl⟩
  · go_enter Tryz.func125, Tryz.ntmps125
    go_wp2
    go_ret
    exact ⟨rfl, rfl⟩

theorem tmod2 (f : Int) : (f.tmod 2 != 0) = decide (f % 2 ≠ 0) := by
  have h : f.tmod 2 = 0 ↔ f % 2 = 0 := by rw [← Int.dvd_iff_emod_eq_zero, ← Int.dvd_iff_tmod_eq_zero]
  rw [Bool.eq_iff_iff]; simp [h]

theorem goesUp_1 (f r d : Int) (w : World) (hr : 0 ≤ r) (hrd : r ≤ d) (hd : d ≤ 9223372036854775807) :
    Calls Tryz.prog 126 #[.agg #[.int .i64 1], .int .i64 f, .int .i64 r, .int .i64 d] w fun e w' => e = .returned (.bool (upB 1 f r d)) ∧ Ext w w' := by
  have HF : Hid (upB 1 f r d = decide (d - r ≤ r)) := by unfold Hid; simp [upB]
  go_enter Tryz.func126, Tryz.ntmps126
  go_wp2
  go_ret
  exact ⟨by rw [HF.out]; rfl, (Ext.refl _).alloc _ _⟩

theorem goesUp_3 (f r d : Int) (w : World) (hr : 0 ≤ r) (hrd : r ≤ d) (hd : d ≤ 9223372036854775807) :
    Calls Tryz.prog 126 #[.agg #[.int .i64 3], .int .i64 f, .int .i64 r, .int .i64 d] w fun e w' => e = .returned (.bool (upB 3 f r d)) ∧ Ext w w' := by
  have HF : Hid (upB 3 f r d = false) := by unfold Hid; simp [upB]
  go_enter Tryz.func126, Tryz.ntmps126
  go_wp2
  go_ret
  exact ⟨by rw [HF.out]; rfl, (Ext.refl _).alloc _ _⟩

theorem goesUp_2a (f r d : Int) (w : World) (hr : 0 ≤ r) (hrd : r ≤ d) (hd : d ≤ 9223372036854775807) (h1 : d - r < r) :
    Calls Tryz.prog 126 #[.agg #[.int .i64 2], .int .i64 f, .int .i64 r, .int .i64 d] w fun e w' => e = .returned (.bool (upB 2 f r d)) ∧ Ext w w' := by
  have HF : Hid (upB 2 f r d = true) := by unfold Hid; simp [upB, h1]
  go_enter Tryz.func126, Tryz.ntmps126
  go_wp2
  go_ret
  exact ⟨by rw [HF.out]; rfl, (Ext.refl _).alloc _ _⟩

theorem goesUp_2b (f r d : Int) (w : World) (hr : 0 ≤ r) (hrd : r ≤ d) (hd : d ≤ 9223372036854775807) (h1 : ¬ d - r < r) (hb : (r == d - r) = false) :
    Calls Tryz.prog 126 #[.agg #[.int .i64 2], .int .i64 f, .int .i64 r, .int .i64 d] w fun e w' => e = .returned (.bool (upB 2 f r d)) ∧ Ext w w' := by
  have HF : Hid (upB 2 f r d = false) := by unfold Hid; have hb2 : ¬ r = d - r := (by simpa using hb); simp [upB, hb2]; omega
  go_enter Tryz.func126, Tryz.ntmps126
  go_wp2
  go_ret
  exact ⟨by rw [HF.out]; rfl, (Ext.refl _).alloc _ _⟩

theorem goesUp_2c (f r d : Int) (w : World) (hr : 0 ≤ r) (hrd : r ≤ d) (hd : d ≤ 9223372036854775807) (h1 : ¬ d - r < r) (hb : (r == d - r) = true) :
    Calls Tryz.prog 126 #[.agg #[.int .i64 2], .int .i64 f, .int .i64 r, .int .i64 d] w fun e w' => e = .returned (.bool (upB 2 f r d)) ∧ Ext w w' := by
  have HF : Hid (upB 2 f r d = (f.tmod 2 != 0)) := by unfold Hid; have hb2 : r = d - r := (by simpa using hb); have h3 : decide (d - r < r) = false := (by simpa using h1); have h4 : decide (r = d - r) = true := (by simpa using hb2); rw [tmod2]; simp only [upB, h3, h4]; simp
  go_enter Tryz.func126, Tryz.ntmps126
  go_wp2
  go_ret
  exact ⟨by rw [HF.out]; rfl, (Ext.refl _).alloc _ _⟩

theorem goesUp_any (m f r d : Int) (w : World) (hm : m = 1 ∨ m = 2 ∨ m = 3) (hr : 0 ≤ r) (hrd : r ≤ d) (hd : d ≤ 9223372036854775807) :
    Calls Tryz.prog 126 #[.agg #[.int .i64 m], .int .i64 f, .int .i64 r, .int .i64 d] w fun e w' => e = .returned (.bool (upB m f r d)) ∧ Ext w w' := by
  rcases hm with rfl | rfl | rfl
  · exact goesUp_1 f r d w hr hrd hd
  · by_cases h1 : d - r < r
    · exact goesUp_2a f r d w hr hrd hd h1
    · cases hb : (r == d - r)
      · exact goesUp_2b f r d w hr hrd hd h1 hb
      · exact goesUp_2c f r d w hr hrd hd h1 hb
  · exact goesUp_3 f r d w hr hrd hd

end Go.Proofs.YtafjmpaefikdcaaGreatDoor.L12
/- What quotient of the program does, out of what its product and its division of two words come to: no statement of the seat is proved here. -/
namespace Go.Proofs.YtafjmpaefikdcaaGreatDoor.L12
open Go.RowKit
set_option linter.unusedVariables false

theorem signed_false (n : Int) (w : World) (h0 : 0 ≤ n) (h1 : n ≤ 1000000000000000) :
    Calls Tryz.prog 125 #[.int .i64 n, .bool false] w fun e w' => e = .returned (.int .i64 n) ∧ w' = w := signed_any n false w ⟨by omega, by omega⟩ h0
theorem signed_true (n : Int) (w : World) (h0 : 0 ≤ n) (h1 : n ≤ 1000000000000000) :
    Calls Tryz.prog 125 #[.int .i64 n, .bool true] w fun e w' => e = .returned (.int .i64 (-n)) ∧ w' = w := signed_any n true w ⟨by omega, by omega⟩ h0

set_option maxHeartbeats 800000 in
theorem quot_Ad (m a b d hi lo q r : Int) (w : World)
    (Hmul : Hid (∀ w, Calls Tryz.prog 124 #[.int .i64 a, .int .i64 b] w fun e w' => e = .returned (.tuple #[.int .u64 hi, .int .u64 lo, .bool false]) ∧ w' = w))
    (Hdiv : Hid (∀ w, Calls Tryz.prog 110 #[.int .u64 hi, .int .u64 lo, .int .u64 d] w fun e w' => e = .returned (.tuple #[.int .u64 q, .int .u64 r]) ∧ Ext w w'))
    (hm : m = 1 ∨ m = 2 ∨ m = 3) (hd : 0 < d) (hd2 : d ≤ 9223372036854775807) (hhi : hi < d) (q0 : 0 ≤ q) (q1 : q ≤ 1000000000000000) (r0 : 0 ≤ r) (r1 : r < d)
    (hu : upB m q r d = false) (k1 : -1000000000000000 ≤ q) (k2 : q ≤ 1000000000000000) :
    Calls Tryz.prog 112 #[.agg #[.int .i64 m], .int .i64 a, .int .i64 b, .int .i64 d] w fun e w' => e = .returned (.int .i64 (q)) ∧ Ext w w' := by
  go_enter Tryz.func112, Tryz.ntmps112
  go_wp2_with fail
  refine (need_ok _ _).mono ?_
  rintro e w1 ⟨rfl, rfl⟩
  go_wp2_with fail
  refine (need_ok _ _).mono ?_
  rintro e w1 ⟨rfl, rfl⟩
  go_wp2_with fail
  refine (Hmul.out _).mono ?_
  rintro e w1 ⟨rfl, rfl⟩
  go_wp2_with fail
  refine (need_ok _ _).mono ?_
  rintro e w1 ⟨rfl, rfl⟩
  go_wp2_with fail
  refine (Hdiv.out _).mono ?_
  rintro e w4 ⟨rfl, hy⟩
  have gc : w4.cell? ⟨w.heap.size, 0, none⟩ = some (.int .i64 m) := by rw [hy.cell _ _ (by simp)]; simp [go_sem]
  have hy0 : Ext w w4 := Ext.trans ((Ext.refl _).alloc _ _) hy
  clear hy
  go_wp2_with fail
  refine (need_ok _ _).mono ?_
  rintro e w1 ⟨rfl, rfl⟩
  go_wp2_with fail
  refine (signed_false q _ q0 (by omega)).mono ?_
  rintro e w1 ⟨rfl, rfl⟩
  go_wp2_with fail
  refine (goesUp_any m q r d _ hm (by omega) (by omega) hd2).mono ?_
  rintro e w2 ⟨rfl, hx⟩
  have hx0 : Ext w w2 := Ext.trans hy0 hx
  clear hx
  go_wp2_with fail
  refine (fitting_ok _ _ (by omega) (by omega)).mono ?_
  rintro e w3 ⟨rfl, rfl⟩
  go_wp2_with fail
  go_ret
  exact ⟨rfl, hx0⟩

set_option maxHeartbeats 800000 in
theorem quot_Au (m a b d hi lo q r : Int) (w : World)
    (Hmul : Hid (∀ w, Calls Tryz.prog 124 #[.int .i64 a, .int .i64 b] w fun e w' => e = .returned (.tuple #[.int .u64 hi, .int .u64 lo, .bool false]) ∧ w' = w))
    (Hdiv : Hid (∀ w, Calls Tryz.prog 110 #[.int .u64 hi, .int .u64 lo, .int .u64 d] w fun e w' => e = .returned (.tuple #[.int .u64 q, .int .u64 r]) ∧ Ext w w'))
    (hm : m = 1 ∨ m = 2 ∨ m = 3) (hd : 0 < d) (hd2 : d ≤ 9223372036854775807) (hhi : hi < d) (q0 : 0 ≤ q) (q1 : q ≤ 1000000000000000) (r0 : 0 ≤ r) (r1 : r < d)
    (hu : upB m q r d = true) (k1 : -1000000000000000 ≤ q + 1) (k2 : q + 1 ≤ 1000000000000000) :
    Calls Tryz.prog 112 #[.agg #[.int .i64 m], .int .i64 a, .int .i64 b, .int .i64 d] w fun e w' => e = .returned (.int .i64 (q + 1)) ∧ Ext w w' := by
  go_enter Tryz.func112, Tryz.ntmps112
  go_wp2_with fail
  refine (need_ok _ _).mono ?_
  rintro e w1 ⟨rfl, rfl⟩
  go_wp2_with fail
  refine (need_ok _ _).mono ?_
  rintro e w1 ⟨rfl, rfl⟩
  go_wp2_with fail
  refine (Hmul.out _).mono ?_
  rintro e w1 ⟨rfl, rfl⟩
  go_wp2_with fail
  refine (need_ok _ _).mono ?_
  rintro e w1 ⟨rfl, rfl⟩
  go_wp2_with fail
  refine (Hdiv.out _).mono ?_
  rintro e w4 ⟨rfl, hy⟩
  have gc : w4.cell? ⟨w.heap.size, 0, none⟩ = some (.int .i64 m) := by rw [hy.cell _ _ (by simp)]; simp [go_sem]
  have hy0 : Ext w w4 := Ext.trans ((Ext.refl _).alloc _ _) hy
  clear hy
  go_wp2_with fail
  refine (need_ok _ _).mono ?_
  rintro e w1 ⟨rfl, rfl⟩
  go_wp2_with fail
  refine (signed_false q _ q0 (by omega)).mono ?_
  rintro e w1 ⟨rfl, rfl⟩
  go_wp2_with fail
  refine (goesUp_any m q r d _ hm (by omega) (by omega) hd2).mono ?_
  rintro e w2 ⟨rfl, hx⟩
  have hx0 : Ext w w2 := Ext.trans hy0 hx
  clear hx
  go_wp2_with fail
  refine (fitting_ok _ _ (by omega) (by omega)).mono ?_
  rintro e w3 ⟨rfl, rfl⟩
  go_wp2_with fail
  go_ret
  exact ⟨rfl, hx0⟩

set_option maxHeartbeats 800000 in
theorem quot_Aux (m a b d hi lo q r : Int) (w : World)
    (Hmul : Hid (∀ w, Calls Tryz.prog 124 #[.int .i64 a, .int .i64 b] w fun e w' => e = .returned (.tuple #[.int .u64 hi, .int .u64 lo, .bool false]) ∧ w' = w))
    (Hdiv : Hid (∀ w, Calls Tryz.prog 110 #[.int .u64 hi, .int .u64 lo, .int .u64 d] w fun e w' => e = .returned (.tuple #[.int .u64 q, .int .u64 r]) ∧ Ext w w'))
    (hm : m = 1 ∨ m = 2 ∨ m = 3) (hd : 0 < d) (hd2 : d ≤ 9223372036854775807) (hhi : hi < d) (q0 : 0 ≤ q) (q1 : q ≤ 1000000000000000) (r0 : 0 ≤ r) (r1 : r < d)
    (hu : upB m q r d = true) (k : ¬ (-1000000000000000 ≤ q + 1 ∧ q + 1 ≤ 1000000000000000)) :
    Calls Tryz.prog 112 #[.agg #[.int .i64 m], .int .i64 a, .int .i64 b, .int .i64 d] w fun e w' => e = .panicked [{ v := .iface 33 (.int .i64 3), recovered := false }] ∧ Ext w w' := by
  go_enter Tryz.func112, Tryz.ntmps112
  go_wp2_with fail
  refine (need_ok _ _).mono ?_
  rintro e w1 ⟨rfl, rfl⟩
  go_wp2_with fail
  refine (need_ok _ _).mono ?_
  rintro e w1 ⟨rfl, rfl⟩
  go_wp2_with fail
  refine (Hmul.out _).mono ?_
  rintro e w1 ⟨rfl, rfl⟩
  go_wp2_with fail
  refine (need_ok _ _).mono ?_
  rintro e w1 ⟨rfl, rfl⟩
  go_wp2_with fail
  refine (Hdiv.out _).mono ?_
  rintro e w4 ⟨rfl, hy⟩
  have gc : w4.cell? ⟨w.heap.size, 0, none⟩ = some (.int .i64 m) := by rw [hy.cell _ _ (by simp)]; simp [go_sem]
  have hy0 : Ext w w4 := Ext.trans ((Ext.refl _).alloc _ _) hy
  clear hy
  go_wp2_with fail
  refine (need_ok _ _).mono ?_
  rintro e w1 ⟨rfl, rfl⟩
  go_wp2_with fail
  refine (signed_false q _ q0 (by omega)).mono ?_
  rintro e w1 ⟨rfl, rfl⟩
  go_wp2_with fail
  refine (goesUp_any m q r d _ hm (by omega) (by omega) hd2).mono ?_
  rintro e w2 ⟨rfl, hx⟩
  have hx0 : Ext w w2 := Ext.trans hy0 hx
  clear hx
  go_wp2_with fail
  refine (fitting_no _ _ (by omega)).mono ?_
  rintro e w3 ⟨rfl, rfl⟩
  go_wp2_with fail
  exact ⟨rfl, rfl, hx0⟩

set_option maxHeartbeats 800000 in
theorem quot_Bd (m a b d hi lo q : Int) (w : World)
    (Hmul : Hid (∀ w, Calls Tryz.prog 124 #[.int .i64 a, .int .i64 b] w fun e w' => e = .returned (.tuple #[.int .u64 hi, .int .u64 lo, .bool true]) ∧ w' = w))
    (Hdiv : Hid (∀ w, Calls Tryz.prog 110 #[.int .u64 hi, .int .u64 lo, .int .u64 d] w fun e w' => e = .returned (.tuple #[.int .u64 q, .int .u64 0]) ∧ Ext w w'))
    (hm : m = 1 ∨ m = 2 ∨ m = 3) (hd : 0 < d) (hd2 : d ≤ 9223372036854775807) (hhi : hi < d) (q0 : 0 ≤ q) (q1 : q ≤ 1000000000000000) 
    (hu : upB m (-q) 0 d = false) (k1 : -1000000000000000 ≤ -q) (k2 : -q ≤ 1000000000000000) :
    Calls Tryz.prog 112 #[.agg #[.int .i64 m], .int .i64 a, .int .i64 b, .int .i64 d] w fun e w' => e = .returned (.int .i64 (-q)) ∧ Ext w w' := by
  go_enter Tryz.func112, Tryz.ntmps112
  go_wp2_with fail
  refine (need_ok _ _).mono ?_
  rintro e w1 ⟨rfl, rfl⟩
  go_wp2_with fail
  refine (need_ok _ _).mono ?_
  rintro e w1 ⟨rfl, rfl⟩
  go_wp2_with fail
  refine (Hmul.out _).mono ?_
  rintro e w1 ⟨rfl, rfl⟩
  go_wp2_with fail
  refine (need_ok _ _).mono ?_
  rintro e w1 ⟨rfl, rfl⟩
  go_wp2_with fail
  refine (Hdiv.out _).mono ?_
  rintro e w4 ⟨rfl, hy⟩
  have gc : w4.cell? ⟨w.heap.size, 0, none⟩ = some (.int .i64 m) := by rw [hy.cell _ _ (by simp)]; simp [go_sem]
  have hy0 : Ext w w4 := Ext.trans ((Ext.refl _).alloc _ _) hy
  clear hy
  go_wp2_with fail
  refine (need_ok _ _).mono ?_
  rintro e w1 ⟨rfl, rfl⟩
  go_wp2_with fail
  refine (signed_true q _ q0 (by omega)).mono ?_
  rintro e w1 ⟨rfl, rfl⟩
  go_wp2_with fail
  refine (goesUp_any m (-q) 0 d _ hm (by omega) (by omega) hd2).mono ?_
  rintro e w2 ⟨rfl, hx⟩
  have hx0 : Ext w w2 := Ext.trans hy0 hx
  clear hx
  go_wp2_with fail
  refine (fitting_ok _ _ (by omega) (by omega)).mono ?_
  rintro e w3 ⟨rfl, rfl⟩
  go_wp2_with fail
  go_ret
  exact ⟨rfl, hx0⟩

set_option maxHeartbeats 800000 in
theorem quot_Bu (m a b d hi lo q : Int) (w : World)
    (Hmul : Hid (∀ w, Calls Tryz.prog 124 #[.int .i64 a, .int .i64 b] w fun e w' => e = .returned (.tuple #[.int .u64 hi, .int .u64 lo, .bool true]) ∧ w' = w))
    (Hdiv : Hid (∀ w, Calls Tryz.prog 110 #[.int .u64 hi, .int .u64 lo, .int .u64 d] w fun e w' => e = .returned (.tuple #[.int .u64 q, .int .u64 0]) ∧ Ext w w'))
    (hm : m = 1 ∨ m = 2 ∨ m = 3) (hd : 0 < d) (hd2 : d ≤ 9223372036854775807) (hhi : hi < d) (q0 : 0 ≤ q) (q1 : q ≤ 1000000000000000) 
    (hu : upB m (-q) 0 d = true) (k1 : -1000000000000000 ≤ -q + 1) (k2 : -q + 1 ≤ 1000000000000000) :
    Calls Tryz.prog 112 #[.agg #[.int .i64 m], .int .i64 a, .int .i64 b, .int .i64 d] w fun e w' => e = .returned (.int .i64 (-q + 1)) ∧ Ext w w' := by
  go_enter Tryz.func112, Tryz.ntmps112
  go_wp2_with fail
  refine (need_ok _ _).mono ?_
  rintro e w1 ⟨rfl, rfl⟩
  go_wp2_with fail
  refine (need_ok _ _).mono ?_
  rintro e w1 ⟨rfl, rfl⟩
  go_wp2_with fail
  refine (Hmul.out _).mono ?_
  rintro e w1 ⟨rfl, rfl⟩
  go_wp2_with fail
  refine (need_ok _ _).mono ?_
  rintro e w1 ⟨rfl, rfl⟩
  go_wp2_with fail
  refine (Hdiv.out _).mono ?_
  rintro e w4 ⟨rfl, hy⟩
  have gc : w4.cell? ⟨w.heap.size, 0, none⟩ = some (.int .i64 m) := by rw [hy.cell _ _ (by simp)]; simp [go_sem]
  have hy0 : Ext w w4 := Ext.trans ((Ext.refl _).alloc _ _) hy
  clear hy
  go_wp2_with fail
  refine (need_ok _ _).mono ?_
  rintro e w1 ⟨rfl, rfl⟩
  go_wp2_with fail
  refine (signed_true q _ q0 (by omega)).mono ?_
  rintro e w1 ⟨rfl, rfl⟩
  go_wp2_with fail
  refine (goesUp_any m (-q) 0 d _ hm (by omega) (by omega) hd2).mono ?_
  rintro e w2 ⟨rfl, hx⟩
  have hx0 : Ext w w2 := Ext.trans hy0 hx
  clear hx
  go_wp2_with fail
  refine (fitting_ok _ _ (by omega) (by omega)).mono ?_
  rintro e w3 ⟨rfl, rfl⟩
  go_wp2_with fail
  go_ret
  exact ⟨rfl, hx0⟩

set_option maxHeartbeats 800000 in
theorem quot_Cd (m a b d hi lo q r : Int) (w : World)
    (Hmul : Hid (∀ w, Calls Tryz.prog 124 #[.int .i64 a, .int .i64 b] w fun e w' => e = .returned (.tuple #[.int .u64 hi, .int .u64 lo, .bool true]) ∧ w' = w))
    (Hdiv : Hid (∀ w, Calls Tryz.prog 110 #[.int .u64 hi, .int .u64 lo, .int .u64 d] w fun e w' => e = .returned (.tuple #[.int .u64 q, .int .u64 r]) ∧ Ext w w'))
    (hm : m = 1 ∨ m = 2 ∨ m = 3) (hd : 0 < d) (hd2 : d ≤ 9223372036854775807) (hhi : hi < d) (q0 : 0 ≤ q) (q1 : q ≤ 1000000000000000) (r0 : 0 < r) (r1 : r < d)
    (hu : upB m (-q - 1) (d - r) d = false) (k1 : -1000000000000000 ≤ -q - 1) (k2 : -q - 1 ≤ 1000000000000000) :
    Calls Tryz.prog 112 #[.agg #[.int .i64 m], .int .i64 a, .int .i64 b, .int .i64 d] w fun e w' => e = .returned (.int .i64 (-q - 1)) ∧ Ext w w' := by
  go_enter Tryz.func112, Tryz.ntmps112
  go_wp2_with fail
  refine (need_ok _ _).mono ?_
  rintro e w1 ⟨rfl, rfl⟩
  go_wp2_with fail
  refine (need_ok _ _).mono ?_
  rintro e w1 ⟨rfl, rfl⟩
  go_wp2_with fail
  refine (Hmul.out _).mono ?_
  rintro e w1 ⟨rfl, rfl⟩
  go_wp2_with fail
  refine (need_ok _ _).mono ?_
  rintro e w1 ⟨rfl, rfl⟩
  go_wp2_with fail
  refine (Hdiv.out _).mono ?_
  rintro e w4 ⟨rfl, hy⟩
  have gc : w4.cell? ⟨w.heap.size, 0, none⟩ = some (.int .i64 m) := by rw [hy.cell _ _ (by simp)]; simp [go_sem]
  have hy0 : Ext w w4 := Ext.trans ((Ext.refl _).alloc _ _) hy
  clear hy
  go_wp2_with fail
  refine (need_ok _ _).mono ?_
  rintro e w1 ⟨rfl, rfl⟩
  go_wp2_with fail
  refine (signed_true q _ q0 (by omega)).mono ?_
  rintro e w1 ⟨rfl, rfl⟩
  go_wp2_with fail
  refine (goesUp_any m (-q - 1) (d - r) d _ hm (by omega) (by omega) hd2).mono ?_
  rintro e w2 ⟨rfl, hx⟩
  have hx0 : Ext w w2 := Ext.trans hy0 hx
  clear hx
  go_wp2_with fail
  refine (fitting_ok _ _ (by omega) (by omega)).mono ?_
  rintro e w3 ⟨rfl, rfl⟩
  go_wp2_with fail
  go_ret
  exact ⟨rfl, hx0⟩

set_option maxHeartbeats 800000 in
theorem quot_Cdx (m a b d hi lo q r : Int) (w : World)
    (Hmul : Hid (∀ w, Calls Tryz.prog 124 #[.int .i64 a, .int .i64 b] w fun e w' => e = .returned (.tuple #[.int .u64 hi, .int .u64 lo, .bool true]) ∧ w' = w))
    (Hdiv : Hid (∀ w, Calls Tryz.prog 110 #[.int .u64 hi, .int .u64 lo, .int .u64 d] w fun e w' => e = .returned (.tuple #[.int .u64 q, .int .u64 r]) ∧ Ext w w'))
    (hm : m = 1 ∨ m = 2 ∨ m = 3) (hd : 0 < d) (hd2 : d ≤ 9223372036854775807) (hhi : hi < d) (q0 : 0 ≤ q) (q1 : q ≤ 1000000000000000) (r0 : 0 < r) (r1 : r < d)
    (hu : upB m (-q - 1) (d - r) d = false) (k : ¬ (-1000000000000000 ≤ -q - 1 ∧ -q - 1 ≤ 1000000000000000)) :
    Calls Tryz.prog 112 #[.agg #[.int .i64 m], .int .i64 a, .int .i64 b, .int .i64 d] w fun e w' => e = .panicked [{ v := .iface 33 (.int .i64 3), recovered := false }] ∧ Ext w w' := by
  go_enter Tryz.func112, Tryz.ntmps112
  go_wp2_with fail
  refine (need_ok _ _).mono ?_
  rintro e w1 ⟨rfl, rfl⟩
  go_wp2_with fail
  refine (need_ok _ _).mono ?_
  rintro e w1 ⟨rfl, rfl⟩
  go_wp2_with fail
  refine (Hmul.out _).mono ?_
  rintro e w1 ⟨rfl, rfl⟩
  go_wp2_with fail
  refine (need_ok _ _).mono ?_
  rintro e w1 ⟨rfl, rfl⟩
  go_wp2_with fail
  refine (Hdiv.out _).mono ?_
  rintro e w4 ⟨rfl, hy⟩
  have gc : w4.cell? ⟨w.heap.size, 0, none⟩ = some (.int .i64 m) := by rw [hy.cell _ _ (by simp)]; simp [go_sem]
  have hy0 : Ext w w4 := Ext.trans ((Ext.refl _).alloc _ _) hy
  clear hy
  go_wp2_with fail
  refine (need_ok _ _).mono ?_
  rintro e w1 ⟨rfl, rfl⟩
  go_wp2_with fail
  refine (signed_true q _ q0 (by omega)).mono ?_
  rintro e w1 ⟨rfl, rfl⟩
  go_wp2_with fail
  refine (goesUp_any m (-q - 1) (d - r) d _ hm (by omega) (by omega) hd2).mono ?_
  rintro e w2 ⟨rfl, hx⟩
  have hx0 : Ext w w2 := Ext.trans hy0 hx
  clear hx
  go_wp2_with fail
  refine (fitting_no _ _ (by omega)).mono ?_
  rintro e w3 ⟨rfl, rfl⟩
  go_wp2_with fail
  exact ⟨rfl, rfl, hx0⟩

set_option maxHeartbeats 800000 in
theorem quot_Cu (m a b d hi lo q r : Int) (w : World)
    (Hmul : Hid (∀ w, Calls Tryz.prog 124 #[.int .i64 a, .int .i64 b] w fun e w' => e = .returned (.tuple #[.int .u64 hi, .int .u64 lo, .bool true]) ∧ w' = w))
    (Hdiv : Hid (∀ w, Calls Tryz.prog 110 #[.int .u64 hi, .int .u64 lo, .int .u64 d] w fun e w' => e = .returned (.tuple #[.int .u64 q, .int .u64 r]) ∧ Ext w w'))
    (hm : m = 1 ∨ m = 2 ∨ m = 3) (hd : 0 < d) (hd2 : d ≤ 9223372036854775807) (hhi : hi < d) (q0 : 0 ≤ q) (q1 : q ≤ 1000000000000000) (r0 : 0 < r) (r1 : r < d)
    (hu : upB m (-q - 1) (d - r) d = true) (k1 : -1000000000000000 ≤ -q) (k2 : -q ≤ 1000000000000000) :
    Calls Tryz.prog 112 #[.agg #[.int .i64 m], .int .i64 a, .int .i64 b, .int .i64 d] w fun e w' => e = .returned (.int .i64 (-q)) ∧ Ext w w' := by
  go_enter Tryz.func112, Tryz.ntmps112
  go_wp2_with fail
  refine (need_ok _ _).mono ?_
  rintro e w1 ⟨rfl, rfl⟩
  go_wp2_with fail
  refine (need_ok _ _).mono ?_
  rintro e w1 ⟨rfl, rfl⟩
  go_wp2_with fail
  refine (Hmul.out _).mono ?_
  rintro e w1 ⟨rfl, rfl⟩
  go_wp2_with fail
  refine (need_ok _ _).mono ?_
  rintro e w1 ⟨rfl, rfl⟩
  go_wp2_with fail
  refine (Hdiv.out _).mono ?_
  rintro e w4 ⟨rfl, hy⟩
  have gc : w4.cell? ⟨w.heap.size, 0, none⟩ = some (.int .i64 m) := by rw [hy.cell _ _ (by simp)]; simp [go_sem]
  have hy0 : Ext w w4 := Ext.trans ((Ext.refl _).alloc _ _) hy
  clear hy
  go_wp2_with fail
  refine (need_ok _ _).mono ?_
  rintro e w1 ⟨rfl, rfl⟩
  go_wp2_with fail
  refine (signed_true q _ q0 (by omega)).mono ?_
  rintro e w1 ⟨rfl, rfl⟩
  go_wp2_with fail
  refine (goesUp_any m (-q - 1) (d - r) d _ hm (by omega) (by omega) hd2).mono ?_
  rintro e w2 ⟨rfl, hx⟩
  have hx0 : Ext w w2 := Ext.trans hy0 hx
  clear hx
  go_wp2_with fail
  refine (fitting_ok _ _ (by omega) (by omega)).mono ?_
  rintro e w3 ⟨rfl, rfl⟩
  go_wp2_with fail
  go_ret
  exact ⟨rfl, hx0⟩

theorem quot_zero (a b d : Int) (w : World) :
    Calls Tryz.prog 112 #[.agg #[.int .i64 0], .int .i64 a, .int .i64 b, .int .i64 d] w fun e w' => e = .panicked [{ v := .iface 33 (.int .i64 1), recovered := false }] ∧ Ext w w' := by
  go_enter Tryz.func112, Tryz.ntmps112
  go_wp2_with fail
  refine (need_no _ _).mono ?_
  rintro e w1 ⟨rfl, rfl⟩
  go_wp2_with fail
  first | exact ⟨rfl, rfl, hy0⟩ | exact ⟨rfl, rfl, (Ext.refl _).alloc _ _⟩

theorem quot_below (m a b d : Int) (w : World) (hm : m = 1 ∨ m = 2 ∨ m = 3) (hd : decide (0 < d) = false) :
    Calls Tryz.prog 112 #[.agg #[.int .i64 m], .int .i64 a, .int .i64 b, .int .i64 d] w fun e w' => e = .panicked [{ v := .iface 33 (.int .i64 1), recovered := false }] ∧ Ext w w' := by
  go_enter Tryz.func112, Tryz.ntmps112
  go_wp2_with fail
  refine (need_ok _ _).mono ?_
  rintro e w1 ⟨rfl, rfl⟩
  go_wp2_with fail
  refine (need_no _ _).mono ?_
  rintro e w1 ⟨rfl, rfl⟩
  go_wp2_with fail
  first | exact ⟨rfl, rfl, hy0⟩ | exact ⟨rfl, rfl, (Ext.refl _).alloc _ _⟩

theorem quot_hi (m a b d hi lo : Int) (s : Bool) (w : World)
    (Hmul : Hid (∀ w, Calls Tryz.prog 124 #[.int .i64 a, .int .i64 b] w fun e w' => e = .returned (.tuple #[.int .u64 hi, .int .u64 lo, .bool s]) ∧ w' = w))
    (hm : m = 1 ∨ m = 2 ∨ m = 3) (hd : 0 < d) (hd2 : d ≤ 9223372036854775807) (hhi : decide (hi < d) = false) :
    Calls Tryz.prog 112 #[.agg #[.int .i64 m], .int .i64 a, .int .i64 b, .int .i64 d] w fun e w' => e = .panicked [{ v := .iface 33 (.int .i64 3), recovered := false }] ∧ Ext w w' := by
  go_enter Tryz.func112, Tryz.ntmps112
  go_wp2_with fail
  refine (need_ok _ _).mono ?_
  rintro e w1 ⟨rfl, rfl⟩
  go_wp2_with fail
  refine (need_ok _ _).mono ?_
  rintro e w1 ⟨rfl, rfl⟩
  go_wp2_with fail
  refine (Hmul.out _).mono ?_
  rintro e w1 ⟨rfl, rfl⟩
  go_wp2_with fail
  refine (need_no _ _).mono ?_
  rintro e w1 ⟨rfl, rfl⟩
  go_wp2_with fail
  first | exact ⟨rfl, rfl, hy0⟩ | exact ⟨rfl, rfl, (Ext.refl _).alloc _ _⟩

theorem quot_big (m a b d hi lo q r : Int) (s : Bool) (w : World)
    (Hmul : Hid (∀ w, Calls Tryz.prog 124 #[.int .i64 a, .int .i64 b] w fun e w' => e = .returned (.tuple #[.int .u64 hi, .int .u64 lo, .bool s]) ∧ w' = w))
    (Hdiv : Hid (∀ w, Calls Tryz.prog 110 #[.int .u64 hi, .int .u64 lo, .int .u64 d] w fun e w' => e = .returned (.tuple #[.int .u64 q, .int .u64 r]) ∧ Ext w w'))
    (hm : m = 1 ∨ m = 2 ∨ m = 3) (hd : 0 < d) (hd2 : d ≤ 9223372036854775807) (hhi : hi < d) (hq : decide (q ≤ 1000000000000000) = false) :
    Calls Tryz.prog 112 #[.agg #[.int .i64 m], .int .i64 a, .int .i64 b, .int .i64 d] w fun e w' => e = .panicked [{ v := .iface 33 (.int .i64 3), recovered := false }] ∧ Ext w w' := by
  go_enter Tryz.func112, Tryz.ntmps112
  go_wp2_with fail
  refine (need_ok _ _).mono ?_
  rintro e w1 ⟨rfl, rfl⟩
  go_wp2_with fail
  refine (need_ok _ _).mono ?_
  rintro e w1 ⟨rfl, rfl⟩
  go_wp2_with fail
  refine (Hmul.out _).mono ?_
  rintro e w1 ⟨rfl, rfl⟩
  go_wp2_with fail
  refine (need_ok _ _).mono ?_
  rintro e w1 ⟨rfl, rfl⟩
  go_wp2_with fail
  refine (Hdiv.out _).mono ?_
  rintro e w4 ⟨rfl, hy⟩
  have gc : w4.cell? ⟨w.heap.size, 0, none⟩ = some (.int .i64 m) := by rw [hy.cell _ _ (by simp)]; simp [go_sem]
  have hy0 : Ext w w4 := Ext.trans ((Ext.refl _).alloc _ _) hy
  clear hy
  go_wp2_with fail
  refine (need_no _ _).mono ?_
  rintro e w1 ⟨rfl, rfl⟩
  go_wp2_with fail
  first | exact ⟨rfl, rfl, hy0⟩ | exact ⟨rfl, rfl, (Ext.refl _).alloc _ _⟩

end Go.Proofs.YtafjmpaefikdcaaGreatDoor.L12
/- What quotient of the program returns, or throws, in plain numbers, given what its division of two words comes to: no statement of the seat is proved here. -/
namespace Go.Proofs.YtafjmpaefikdcaaGreatDoor.L12
open Go.RowKit
set_option linter.unusedVariables false

/-- bits.Div64 at the two words of n, by d. -/
def DivAt (n : Nat) (d : Int) : Prop := ∀ w, Calls Tryz.prog 110 #[.int .u64 (hiW n : Nat), .int .u64 (loW n : Nat), .int .u64 d] w fun e w' => e = .returned (.tuple #[.int .u64 (quoN n d.toNat : Nat), .int .u64 (remN n d.toNat : Nat)]) ∧ Ext w w'

theorem up_zero (m f d : Int) (hd : 0 < d) : upB m f 0 d = false := by
  unfold upB
  split
  · simp; omega
  · split
    · simp; omega
    · rfl

theorem hi_of_quo (N D : Nat) (hD : 0 < D) (h : N / D ≤ 1000000000000000) : hiW N < D := by
  unfold hiW
  rw [Nat.div_lt_iff_lt_mul (by omega)]
  have h1 := Nat.div_add_mod N D
  have h2 := Nat.mod_lt N hD
  have h3 : D * (N / D) ≤ D * 1000000000000000 := Nat.mul_le_mul_left _ h
  omega

theorem rnd_nn (m : Int) (N D : Nat) : rnd m (N : Int) (D : Int) = ((N / D : Nat) : Int) + if upB m ((N / D : Nat) : Int) ((N % D : Nat) : Int) (D : Int) then 1 else 0 := by
  unfold rnd
  rw [← Int.natCast_ediv, ← Int.natCast_emod]

theorem rnd_neg_none (m : Int) (N D : Nat) (hD : 0 < D) (h : N % D = 0) : rnd m (-(N : Int)) (D : Int) = -((N / D : Nat) : Int) := by
  unfold rnd
  obtain ⟨e1, e2⟩ := neg_div_none N D hD h
  rw [e1, e2, up_zero _ _ _ (by omega)]
  simp

theorem rnd_neg_rest (m : Int) (N D : Nat) (hD : 0 < D) (h : 0 < N % D) :
    rnd m (-(N : Int)) (D : Int) = (-((N / D : Nat) : Int) - 1) + if upB m (-((N / D : Nat) : Int) - 1) ((D : Int) - ((N % D : Nat) : Int)) (D : Int) then 1 else 0 := by
  unfold rnd
  obtain ⟨e1, e2⟩ := neg_div_rest N D hD h
  rw [e1, e2]

/-- What fits, rounded, has a size that fits. -/
theorem fit_size (m : Int) (N D : Nat) (hD : 0 < D) (s : Bool) (h : Fit (rnd m (if s then -(N : Int) else (N : Int)) (D : Int))) : N / D ≤ 1000000000000000 := by
  obtain ⟨h1, h2⟩ := h
  cases s
  · simp only [Bool.false_eq_true, if_false] at h1 h2
    rw [rnd_nn] at h2
    split at h2 <;> omega
  · simp only [if_true] at h1 h2
    by_cases h0 : N % D = 0
    · rw [rnd_neg_none m N D hD h0] at h1; omega
    · rw [rnd_neg_rest m N D hD (by omega)] at h1
      split at h1 <;> omega

theorem multiply_hid (a b : Int) (ha : I64 a) (hb : I64 b) (s : Bool) (hs : sgn a b = s) :
    Hid (∀ w, Calls Tryz.prog 124 #[.int .i64 a, .int .i64 b] w fun e w' => e = .returned (.tuple #[.int .u64 (hiW (mag a * mag b) : Nat), .int .u64 (loW (mag a * mag b) : Nat), .bool s]) ∧ w' = w) := by
  subst hs
  exact fun w => multiply_any a b w ha hb

theorem quot_ok (m a b d : Int) (w : World) (hm : m = 1 ∨ m = 2 ∨ m = 3) (ha : I64 a) (hb : I64 b) (hd : 0 < d) (hd2 : d ≤ 9223372036854775807)
    (Hdiv : hiW (mag a * mag b) < d.toNat → DivAt (mag a * mag b) d) (hf : Fit (rnd m (a * b) d)) :
    Calls Tryz.prog 112 #[.agg #[.int .i64 m], .int .i64 a, .int .i64 b, .int .i64 d] w fun e w' => e = .returned (.int .i64 (rnd m (a * b) d)) ∧ Ext w w' := by
  have hp := prod_mag a b
  cases hs : sgn a b
  all_goals
    have HM := multiply_hid a b ha hb _ hs
    rw [hs] at hp
    rw [hp] at hf ⊢
    clear hp
    generalize mag a * mag b = N at *
    obtain ⟨D, rfl⟩ := Int.eq_ofNat_of_zero_le (Int.le_of_lt hd)
    have hD : 0 < D := by omega
    have hsz := fit_size m N D hD _ hf
    have hhi := hi_of_quo N D hD hsz
    have HD := Hdiv (by simpa using hhi)
    unfold DivAt quoN remN at HD
    rw [Int.toNat_natCast] at HD
    have hr := Nat.mod_lt N hD
    have hq0 : (0 : Int) ≤ ((N / D : Nat) : Int) := Int.natCast_nonneg _
    obtain ⟨f1, f2⟩ := hf
  · simp only [Bool.false_eq_true, if_false] at f1 f2 ⊢
    rw [rnd_nn] at f1 f2 ⊢
    cases hu : upB m ((N / D : Nat) : Int) ((N % D : Nat) : Int) (D : Int)
    · simp only [hu, Bool.false_eq_true, if_false, Int.add_zero] at f1 f2 ⊢
      exact quot_Ad m a b D _ _ _ _ w HM HD hm hd hd2 (by omega) (by omega) (by omega) (by omega) (by omega) hu f1 f2
    · simp only [hu, if_true] at f1 f2 ⊢
      exact quot_Au m a b D _ _ _ _ w HM HD hm hd hd2 (by omega) (by omega) (by omega) (by omega) (by omega) hu f1 f2
  · simp only [if_true] at f1 f2 ⊢
    by_cases h0 : N % D = 0
    · rw [rnd_neg_none m N D hD h0] at f1 f2 ⊢
      rw [h0] at HD
      exact quot_Bd m a b D _ _ _ w HM HD hm hd hd2 (by omega) (by omega) (by omega) (up_zero _ _ _ hd) f1 f2
    · rw [rnd_neg_rest m N D hD (by omega)] at f1 f2 ⊢
      cases hu : upB m (-((N / D : Nat) : Int) - 1) ((D : Int) - ((N % D : Nat) : Int)) (D : Int)
      · simp only [hu, Bool.false_eq_true, if_false, Int.add_zero] at f1 f2 ⊢
        exact quot_Cd m a b D _ _ _ _ w HM HD hm hd hd2 (by omega) (by omega) (by omega) (by omega) (by omega) hu f1 f2
      · simp only [hu, if_true] at f1 f2 ⊢
        rw [show (-((N / D : Nat) : Int) - 1 + 1) = -((N / D : Nat) : Int) from by omega] at f1 f2 ⊢
        exact quot_Cu m a b D _ _ _ _ w HM HD hm hd hd2 (by omega) (by omega) (by omega) (by omega) (by omega) hu f1 f2

theorem quot_no (m a b d : Int) (w : World) (hm : m = 1 ∨ m = 2 ∨ m = 3) (ha : I64 a) (hb : I64 b) (hd : 0 < d) (hd2 : d ≤ 9223372036854775807)
    (Hdiv : hiW (mag a * mag b) < d.toNat → DivAt (mag a * mag b) d) (hf : ¬ Fit (rnd m (a * b) d)) :
    Calls Tryz.prog 112 #[.agg #[.int .i64 m], .int .i64 a, .int .i64 b, .int .i64 d] w fun e w' => e = .panicked [{ v := .iface 33 (.int .i64 3), recovered := false }] ∧ Ext w w' := by
  have hp := prod_mag a b
  cases hs : sgn a b
  all_goals
    have HM := multiply_hid a b ha hb _ hs
    rw [hs] at hp
    rw [hp] at hf
    clear hp
    generalize mag a * mag b = N at *
    obtain ⟨D, rfl⟩ := Int.eq_ofNat_of_zero_le (Int.le_of_lt hd)
    have hD : 0 < D := by omega
    by_cases hhi : hiW N < D
    case neg => exact quot_hi m a b D _ _ _ w HM hm hd hd2 (by simp; omega)
    have HD := Hdiv (by simpa using hhi)
    unfold DivAt quoN remN at HD
    rw [Int.toNat_natCast] at HD
    have hr := Nat.mod_lt N hD
    have hq0 : (0 : Int) ≤ ((N / D : Nat) : Int) := Int.natCast_nonneg _
    by_cases hsz : N / D ≤ 1000000000000000
    case neg => exact quot_big m a b D _ _ _ _ _ w HM HD hm hd hd2 (by omega) (by simp; omega)
  · simp only [Bool.false_eq_true, if_false] at hf
    rw [rnd_nn] at hf
    unfold Fit at hf
    cases hu : upB m ((N / D : Nat) : Int) ((N % D : Nat) : Int) (D : Int)
    · simp only [hu, Bool.false_eq_true, if_false, Int.add_zero] at hf
      exact absurd ⟨by omega, by omega⟩ hf
    · simp only [hu, if_true] at hf
      exact quot_Aux m a b D _ _ _ _ w HM HD hm hd hd2 (by omega) (by omega) (by omega) (by omega) (by omega) hu hf
  · simp only [if_true] at hf
    by_cases h0 : N % D = 0
    · rw [rnd_neg_none m N D hD h0] at hf
      unfold Fit at hf
      exact absurd ⟨by omega, by omega⟩ hf
    · rw [rnd_neg_rest m N D hD (by omega)] at hf
      unfold Fit at hf
      cases hu : upB m (-((N / D : Nat) : Int) - 1) ((D : Int) - ((N % D : Nat) : Int)) (D : Int)
      · simp only [hu, Bool.false_eq_true, if_false, Int.add_zero] at hf
        exact quot_Cdx m a b D _ _ _ _ w HM HD hm hd hd2 (by omega) (by omega) (by omega) (by omega) (by omega) hu hf
      · simp only [hu, if_true] at hf
        exact absurd ⟨by omega, by omega⟩ hf

/-- What a face answers: a number that fits, or 0 and the reason. -/
def ans (v : Int) : Value := .tuple #[.int .i64 v, .int .i64 0]
def err (c : Int) : Value := .tuple #[.int .i64 0, .int .i64 c]

theorem divide_ok (m n d : Int) (w : World) (hm : m = 1 ∨ m = 2 ∨ m = 3) (hn : I64 n) (hd : 0 < d) (hd2 : d ≤ 9223372036854775807)
    (Hdiv : hiW (mag n) < d.toNat → DivAt (mag n) d) (hf : Fit (rnd m n d)) :
    Calls Tryz.prog 92 #[.agg #[.int .i64 m], .int .i64 n, .int .i64 d] w fun e w' => e = .returned (.tuple #[.int .i64 (rnd m n d), .int .i64 0]) ∧ Ext w w' := by
  have e1 : mag n * mag 1 = mag n := by simp [mag]
  have e2 : n * 1 = n := by omega
  refine div_of_ok m n d _ (fun w => ?_) w
  have := quot_ok m n 1 d w hm hn ⟨by omega, by omega⟩ hd hd2 (by rw [e1]; exact Hdiv) (by rw [e2]; exact hf)
  rw [e2] at this
  exact this
theorem divide_no (m n d : Int) (w : World) (hm : m = 1 ∨ m = 2 ∨ m = 3) (hn : I64 n) (hd : 0 < d) (hd2 : d ≤ 9223372036854775807)
    (Hdiv : hiW (mag n) < d.toNat → DivAt (mag n) d) (hf : ¬ Fit (rnd m n d)) :
    Calls Tryz.prog 92 #[.agg #[.int .i64 m], .int .i64 n, .int .i64 d] w fun e w' => e = .returned (.tuple #[.int .i64 0, .int .i64 3]) ∧ Ext w w' := by
  have e1 : mag n * mag 1 = mag n := by simp [mag]
  have e2 : n * 1 = n := by omega
  exact div_of_no m n d 3 (fun w => quot_no m n 1 d w hm hn ⟨by omega, by omega⟩ hd hd2 (by rw [e1]; exact Hdiv) (by rw [e2]; exact hf)) w
theorem divide_zero (n d : Int) (w : World) :
    Calls Tryz.prog 92 #[.agg #[.int .i64 0], .int .i64 n, .int .i64 d] w fun e w' => e = .returned (.tuple #[.int .i64 0, .int .i64 1]) ∧ Ext w w' :=
  div_of_no 0 n d 1 (fun w => quot_zero n 1 d w) w
theorem divide_below (m n d : Int) (w : World) (hm : m = 1 ∨ m = 2 ∨ m = 3) (hd : d ≤ 0) :
    Calls Tryz.prog 92 #[.agg #[.int .i64 m], .int .i64 n, .int .i64 d] w fun e w' => e = .returned (.tuple #[.int .i64 0, .int .i64 1]) ∧ Ext w w' :=
  div_of_no m n d 1 (fun w => quot_below m n 1 d w hm (by simp; omega)) w
set_option maxHeartbeats 400000 in
theorem div64_small (lo d : Int) (w : World) (h0 : 0 ≤ lo) (h1 : lo ≤ 18446744073709551615) (hd : 0 < d) (hd2 : d ≤ 9223372036854775807) :
    Calls Tryz.prog 110 #[.int .u64 0, .int .u64 lo, .int .u64 d] w fun e w' => e = .returned (.tuple #[.int .u64 (lo / d), .int .u64 (lo % d)]) ∧ Ext w w' := by
  go_enter Tryz.func110, Tryz.ntmps110
  go_wp2
  go_region
  all_goals
    go_wp2
    go_ret2
    exact ⟨rfl, (Ext.refl _).drew⟩

end Go.Proofs.YtafjmpaefikdcaaGreatDoor.L12
/- The division of two words by one, digit by digit, in plain numbers: no program is spoken of here. -/
namespace Go.Proofs.YtafjmpaefikdcaaGreatDoor.L12
/-- The digit: (u * 2^32 + t) by v. -/
def dig (u t v : Int) : Int := (u * 4294967296 + t) / v
def rst (u t v : Int) : Int := (u * 4294967296 + t) % v

/-- A divisor whose upper bit is set, in two halves; a rest below it; the next half of the number. -/
structure Digit (u t v v1 v0 : Int) : Prop where
  parts : v = v1 * 4294967296 + v0
  lo0 : 0 ≤ v0
  lo1 : v0 < 4294967296
  hi0 : 2147483648 ≤ v1
  hi1 : v1 < 4294967296
  u0 : 0 ≤ u
  u1 : u < v
  t0 : 0 ≤ t
  t1 : t < 4294967296

theorem Digit.pos {u t v v1 v0 : Int} (h : Digit u t v v1 v0) : 0 < v := by
  obtain ⟨h1, h2, h3, h4, h5, h6, h7, h8, h9⟩ := h; omega

theorem Digit.mul {u t v v1 v0 : Int} (h : Digit u t v v1 v0) (q : Int) : q * v = q * v1 * 4294967296 + q * v0 := by
  rw [h.parts, Int.mul_add, Int.mul_assoc]

theorem dig_parts {u t v v1 v0 : Int} (h : Digit u t v v1 v0) : u * 4294967296 + t = dig u t v * v + rst u t v ∧ 0 ≤ rst u t v ∧ rst u t v < v ∧ 0 ≤ dig u t v ∧ dig u t v < 4294967296 := by
  have hv := h.pos
  obtain ⟨e, r0, r1⟩ := div_rest (u * 4294967296 + t) v hv
  have hu := h.u1; have h0 := h.u0; have ht := h.t1; have ht0 := h.t0
  refine ⟨by unfold dig rst; rw [Int.mul_comm (_ / v) v]; omega, r0, r1, Int.ediv_nonneg (by omega) (by omega), ?_⟩
  unfold dig
  rw [Int.ediv_lt_iff_lt_mul hv, Int.mul_comm 4294967296 v]
  omega

theorem dig_start {u t v v1 v0 : Int} (h : Digit u t v v1 v0) (q r : Int) (e : q * v1 + r = u) (r1 : r < v1) : dig u t v ≤ q := by
  obtain ⟨e1, a, b, c, d⟩ := dig_parts h
  have m := h.mul (dig u t v)
  have hi := h.hi0; have ht := h.t1; have l0 := h.lo0
  rcases Int.lt_or_le q (dig u t v) with hl | hl
  · have k : (q + 1) * v1 ≤ dig u t v * v1 := Int.mul_le_mul_of_nonneg_right (by omega) (by omega)
    rw [Int.add_mul, Int.one_mul] at k
    have k0 : 0 ≤ dig u t v * v0 := Int.mul_nonneg c l0
    omega
  · exact hl

theorem dig_start_le {u t v v1 v0 : Int} (h : Digit u t v v1 v0) (q r : Int) (e : q * v1 + r = u) (r0 : 0 ≤ r) : q ≤ 4294967297 := by
  have p := h.parts; have hi := h.hi0; have l1 := h.lo1; have hu := h.u1
  rcases Int.lt_or_le 4294967297 q with hl | hl
  · have k : 4294967298 * v1 ≤ q * v1 := Int.mul_le_mul_of_nonneg_right (by omega) (by omega)
    omega
  · exact hl

theorem dig_less {u t v v1 v0 : Int} (h : Digit u t v v1 v0) (q r : Int) (e : q * v1 + r = u) (k : 4294967296 * r + t < q * v0) : dig u t v ≤ q - 1 := by
  have m := h.mul q
  have : dig u t v < q := by
    unfold dig
    rw [Int.ediv_lt_iff_lt_mul h.pos]
    omega
  omega

theorem dig_big {u t v v1 v0 : Int} (h : Digit u t v v1 v0) (q : Int) (k : 4294967296 ≤ q) : dig u t v ≤ q - 1 := by
  obtain ⟨e1, a, b, c, d⟩ := dig_parts h
  omega

theorem dig_done {u t v v1 v0 : Int} (h : Digit u t v v1 v0) (q r : Int) (e : q * v1 + r = u) (l : dig u t v ≤ q) (k : q * v0 ≤ 4294967296 * r + t) : q = dig u t v := by
  have m := h.mul q
  have : q ≤ dig u t v := by
    unfold dig
    rw [Int.le_ediv_iff_mul_le h.pos]
    omega
  omega

theorem dig_break {u t v v1 v0 : Int} (h : Digit u t v v1 v0) (q r : Int) (e : q * v1 + r = u) (l : dig u t v ≤ q) (q1 : q ≤ 4294967296) (k : 4294967296 ≤ r) : q = dig u t v := by
  have l0 := h.lo0; have l1 := h.lo1; have ht := h.t0
  have k0 : q * v0 ≤ 4294967296 * v0 := Int.mul_le_mul_of_nonneg_right q1 l0
  exact dig_done h q r e l (by omega)

theorem dig_step {v1 u q r : Int} (e : q * v1 + r = u) : (q - 1) * v1 + (r + v1) = u := by
  rw [Int.sub_mul, Int.one_mul]; omega

/-- What goes round: the rest of a digit, reckoned in words. -/
theorem rst_word {u t v v1 v0 : Int} (h : Digit u t v v1 v0) (hv : v < 18446744073709551616) :
    (u * 4294967296 + t - dig u t v * v) % 18446744073709551616 = rst u t v := by
  obtain ⟨e1, a, b, c, d⟩ := dig_parts h
  omega

/-- The number, shifted, and its two digits: what comes out. -/
theorem two_digits (N d S u t1 t0 v v1 v0 : Int) (hS : 0 < S) (hv : v = d * S) (hN : N * S = (u * 4294967296 + t1) * 4294967296 + t0) (h : Digit u t1 v v1 v0)
    (h2 : Digit (rst u t1 v) t0 v v1 v0) :
    dig u t1 v * 4294967296 + dig (rst u t1 v) t0 v = N / d ∧ rst (rst u t1 v) t0 v / S = N % d := by
  obtain ⟨e1, a1, b1, c1, d1⟩ := dig_parts h
  obtain ⟨e2, a2, b2, c2, d2⟩ := dig_parts h2
  have key : N * S = (dig u t1 v * 4294967296 + dig (rst u t1 v) t0 v) * v + rst (rst u t1 v) t0 v := by
    rw [hN, e1, Int.add_mul, Int.add_mul (dig u t1 v * 4294967296), Int.add_assoc, e2, Int.mul_right_comm]
    omega
  generalize dig u t1 v * 4294967296 + dig (rst u t1 v) t0 v = Q at *
  generalize rst (rst u t1 v) t0 v = R at *
  have hvp : 0 < v := h.pos
  have u1 := (Int.ediv_emod_unique hvp (a := N * S) (r := R) (q := Q)).2 ⟨by rw [key, Int.mul_comm v Q]; omega, a2, b2⟩
  rw [hv] at u1
  rw [Int.mul_comm N S, Int.mul_comm d S, Int.mul_ediv_mul_of_pos N d hS, Int.mul_emod_mul_of_pos N d hS] at u1
  refine ⟨u1.1.symm, ?_⟩
  rw [← u1.2, Int.mul_ediv_cancel_left _ (by omega)]

end Go.Proofs.YtafjmpaefikdcaaGreatDoor.L12
/- What bits.Div64 of Go's own library, as it was turned, answers: the quotient and the rest of two words by one: no statement of the seat is proved here. -/
namespace Go.Proofs.YtafjmpaefikdcaaGreatDoor.L12
open Go.RowKit
set_option linter.unusedVariables false

theorem one_le_of_mul {a b c : Int} (h : 0 ≤ a) (k : c < a * b) (k0 : 0 ≤ c) : 1 ≤ a := by
  rcases Int.lt_or_le 0 a with h1 | h1
  · omega
  · have : a = 0 := by omega
    subst this
    rw [Int.zero_mul] at k
    omega

set_option maxRecDepth 100000 in
set_option maxHeartbeats 16000000 in
theorem div64_core (hi lo y s v v1 v0 u t t1 t0 qa ra Q1 U2 qb rb Q0 R : Int) (w : World) (a1 : 0 < hi) (a2 : hi < y) (a3 : y ≤ 9223372036854775807) (l0 : 0 ≤ lo) (l1 : lo ≤ 18446744073709551615) (s1 : 1 ≤ s) (s2 : s ≤ 63)
    (HL : Hid (∀ w, Calls Tryz.prog 123 #[.int .u64 y] w fun e w' => e = .returned (.int .i64 s) ∧ w' = w))
    (E1 : IntKind.u64.wrap (y * 2 ^ s.toNat) = v) (E2 : v / 4294967296 = v1) (E3 : bits .and .u64 v 4294967295 = v0)
    (E4 : bits .or .u64 (IntKind.u64.wrap (hi * 2 ^ s.toNat)) (lo / 2 ^ (64 - s).toNat) = u)
    (E5 : IntKind.u64.wrap (lo * 2 ^ s.toNat) = t) (E6 : t / 4294967296 = t1) (E7 : bits .and .u64 t 4294967295 = t0)
    (v11 : 2147483648 ≤ v1) (v12 : v1 < 4294967296) (v01 : 0 ≤ v0) (v02 : v0 < 4294967296) (vv1 : 9223372036854775808 ≤ v) (vv2 : v ≤ 18446744073709551615)
    (u1 : 0 ≤ u) (u2 : u < v) (t11 : 0 ≤ t1) (t12 : t1 < 4294967296) (t01 : 0 ≤ t0) (t02 : t0 < 4294967296)
    (E8 : u / v1 = qa) (E9 : u - qa * v1 = ra) (p1 : 0 ≤ qa * v1) (p2 : qa * v1 ≤ u) (ra1 : 0 ≤ ra) (ra2 : ra < v1) (qa1 : 0 ≤ qa)
    (F1 : IntKind.u64.wrap (IntKind.u64.wrap (IntKind.u64.wrap (u * 4294967296) + t1) - IntKind.u64.wrap (Q1 * v)) = U2)
    (F2 : U2 / v1 = qb) (F3 : U2 - qb * v1 = rb) (p3 : 0 ≤ qb * v1) (p4 : qb * v1 ≤ U2) (rb1 : 0 ≤ rb) (rb2 : rb < v1) (qb1 : 0 ≤ qb)
    (U21 : 0 ≤ U2) (U22 : U2 < v) (Q11 : 0 ≤ Q1) (Q12 : Q1 < 4294967296) (Q01 : 0 ≤ Q0) (Q02 : Q0 < 4294967296)
    (G1 : IntKind.u64.wrap (IntKind.u64.wrap (IntKind.u64.wrap (U2 * 4294967296) + t0) - IntKind.u64.wrap (Q0 * v)) = R) (R1 : 0 ≤ R) (R2 : R < v)
    (H1 : Digit u t1 v v1 v0) (H2 : Digit U2 t0 v v1 v0) (HQ1 : Hid (dig u t1 v = Q1)) (HQ0 : Hid (dig U2 t0 v = Q0)) :
    Calls Tryz.prog 110 #[.int .u64 hi, .int .u64 lo, .int .u64 y] w fun e w' => e = .returned (.tuple #[.int .u64 (Q1 * 4294967296 + Q0), .int .u64 (R / 2 ^ s.toNat)]) ∧ Ext w w' := by
  have HR : Hid (qa * v1 + ra = u) := by unfold Hid; omega
  have HR2 : Hid (qb * v1 + rb = U2) := by unfold Hid; omega
  go_enter Tryz.func110, Tryz.ntmps110
  go_wp2_with fail
  refine (HL.out _).mono ?_
  rintro e w1 ⟨rfl, rfl⟩
  go_wp2_with fail
  go_loop [15, 16] (fun q r => ∃ a b : Int, q = .int .u64 a ∧ r = .int .u64 b ∧ 0 ≤ a ∧ a ≤ 4294967297 ∧ a * v1 + b = u ∧ dig u t1 v ≤ a ∧ 0 ≤ b ∧ b < 4294967296) (fun _ r => (4294967296 - intOf r).toNat)
  case atStart => exact ⟨qa, ra, by first | rfl | rw [E8], rfl, qa1, dig_start_le H1 qa ra HR.out ra1, HR.out, dig_start H1 qa ra HR.out ra2, ra1, by omega⟩
  case round =>
    obtain ⟨a, b, rfl, rfl, g1, g2, g3, g4, g5, g6⟩ := hrel
    have G3 : Hid (a * v1 + b = u) := g3
    have G4 : Hid (dig u t1 v ≤ a) := g4
    clear g3 g4
    by_cases c1 : 4294967296 ≤ a
    · by_cases c2 : b + v1 < 4294967296
      · go_wp2
        go_round
        case rel => exact ⟨a - 1, b + v1, rfl, rfl, by omega, by omega, dig_step G3.out, dig_big H1 a c1, by omega, c2⟩
        case measure => simp [intOf]; omega
      · have eQ : a - 1 = Q1 := by rw [← HQ1.out]; exact dig_break H1 (a - 1) (b + v1) (dig_step G3.out) (dig_big H1 a c1) (by omega) (by omega)
        clear G3 G4
        go_wp2_with fail
        go_loop [18, 16] (fun q r => ∃ a b : Int, q = .int .u64 a ∧ r = .int .u64 b ∧ 0 ≤ a ∧ a ≤ 4294967297 ∧ a * v1 + b = U2 ∧ dig U2 t0 v ≤ a ∧ 0 ≤ b ∧ b < 4294967296) (fun _ r => (4294967296 - intOf r).toNat)
        case atStart => exact ⟨qb, rb, by first | rfl | rw [F2], rfl, qb1, dig_start_le H2 qb rb HR2.out rb1, HR2.out, dig_start H2 qb rb HR2.out rb2, rb1, by omega⟩
        case round =>
          obtain ⟨a, b, rfl, rfl, g1, g2, g3, g4, g5, g6⟩ := hrel
          have G3 : Hid (a * v1 + b = U2) := g3
          have G4 : Hid (dig U2 t0 v ≤ a) := g4
          clear g3 g4
          by_cases c1 : 4294967296 ≤ a
          · by_cases c2 : b + v1 < 4294967296
            · go_wp2
              go_round
              case rel => exact ⟨a - 1, b + v1, rfl, rfl, by omega, by omega, dig_step G3.out, dig_big H2 a c1, by omega, c2⟩
              case measure => simp [intOf]; omega
            · have eQ : a - 1 = Q0 := by rw [← HQ0.out]; exact dig_break H2 (a - 1) (b + v1) (dig_step G3.out) (dig_big H2 a c1) (by omega) (by omega)
              clear G3 G4
              go_wp2_with fail
              go_ret2
              exact ⟨rfl, Ext.refl _⟩
          · have m0 : 0 ≤ a * v0 := Int.mul_nonneg g1 v01
            have m1 : a * v0 ≤ 4294967295 * v0 := Int.mul_le_mul_of_nonneg_right (by omega) v01
            by_cases c3 : 4294967296 * b + t0 < a * v0
            · have g7 : 1 ≤ a := one_le_of_mul g1 c3 (by omega)
              by_cases c2 : b + v1 < 4294967296
              · go_wp2
                go_round
                case rel => exact ⟨a - 1, b + v1, rfl, rfl, by omega, by omega, dig_step G3.out, dig_less H2 a b G3.out c3, by omega, c2⟩
                case measure => simp [intOf]; omega
              · have eQ : a - 1 = Q0 := by rw [← HQ0.out]; exact dig_break H2 (a - 1) (b + v1) (dig_step G3.out) (dig_less H2 a b G3.out c3) (by omega) (by omega)
                clear G3 G4
                go_wp2_with fail
                go_ret2
                exact ⟨rfl, Ext.refl _⟩
            · have eQ : a = Q0 := by rw [← HQ0.out]; exact dig_done H2 a b G3.out G4.out (by omega)
              clear G3 G4
              subst eQ
              go_wp2_with fail
              go_ret2
              exact ⟨rfl, Ext.refl _⟩
    · have m0 : 0 ≤ a * v0 := Int.mul_nonneg g1 v01
      have m1 : a * v0 ≤ 4294967295 * v0 := Int.mul_le_mul_of_nonneg_right (by omega) v01
      by_cases c3 : 4294967296 * b + t1 < a * v0
      · have g7 : 1 ≤ a := one_le_of_mul g1 c3 (by omega)
        by_cases c2 : b + v1 < 4294967296
        · go_wp2
          go_round
          case rel => exact ⟨a - 1, b + v1, rfl, rfl, by omega, by omega, dig_step G3.out, dig_less H1 a b G3.out c3, by omega, c2⟩
          case measure => simp [intOf]; omega
        · have eQ : a - 1 = Q1 := by rw [← HQ1.out]; exact dig_break H1 (a - 1) (b + v1) (dig_step G3.out) (dig_less H1 a b G3.out c3) (by omega) (by omega)
          clear G3 G4
          go_wp2_with fail
          go_loop [18, 16] (fun q r => ∃ a b : Int, q = .int .u64 a ∧ r = .int .u64 b ∧ 0 ≤ a ∧ a ≤ 4294967297 ∧ a * v1 + b = U2 ∧ dig U2 t0 v ≤ a ∧ 0 ≤ b ∧ b < 4294967296) (fun _ r => (4294967296 - intOf r).toNat)
          case atStart => exact ⟨qb, rb, by first | rfl | rw [F2], rfl, qb1, dig_start_le H2 qb rb HR2.out rb1, HR2.out, dig_start H2 qb rb HR2.out rb2, rb1, by omega⟩
          case round =>
            obtain ⟨a, b, rfl, rfl, g1, g2, g3, g4, g5, g6⟩ := hrel
            have G3 : Hid (a * v1 + b = U2) := g3
            have G4 : Hid (dig U2 t0 v ≤ a) := g4
            clear g3 g4
            by_cases c1 : 4294967296 ≤ a
            · by_cases c2 : b + v1 < 4294967296
              · go_wp2
                go_round
                case rel => exact ⟨a - 1, b + v1, rfl, rfl, by omega, by omega, dig_step G3.out, dig_big H2 a c1, by omega, c2⟩
                case measure => simp [intOf]; omega
              · have eQ : a - 1 = Q0 := by rw [← HQ0.out]; exact dig_break H2 (a - 1) (b + v1) (dig_step G3.out) (dig_big H2 a c1) (by omega) (by omega)
                clear G3 G4
                go_wp2_with fail
                go_ret2
                exact ⟨rfl, Ext.refl _⟩
            · have m0 : 0 ≤ a * v0 := Int.mul_nonneg g1 v01
              have m1 : a * v0 ≤ 4294967295 * v0 := Int.mul_le_mul_of_nonneg_right (by omega) v01
              by_cases c3 : 4294967296 * b + t0 < a * v0
              · have g7 : 1 ≤ a := one_le_of_mul g1 c3 (by omega)
                by_cases c2 : b + v1 < 4294967296
                · go_wp2
                  go_round
                  case rel => exact ⟨a - 1, b + v1, rfl, rfl, by omega, by omega, dig_step G3.out, dig_less H2 a b G3.out c3, by omega, c2⟩
                  case measure => simp [intOf]; omega
                · have eQ : a - 1 = Q0 := by rw [← HQ0.out]; exact dig_break H2 (a - 1) (b + v1) (dig_step G3.out) (dig_less H2 a b G3.out c3) (by omega) (by omega)
                  clear G3 G4
                  go_wp2_with fail
                  go_ret2
                  exact ⟨rfl, Ext.refl _⟩
              · have eQ : a = Q0 := by rw [← HQ0.out]; exact dig_done H2 a b G3.out G4.out (by omega)
                clear G3 G4
                subst eQ
                go_wp2_with fail
                go_ret2
                exact ⟨rfl, Ext.refl _⟩
      · have eQ : a = Q1 := by rw [← HQ1.out]; exact dig_done H1 a b G3.out G4.out (by omega)
        clear G3 G4
        subst eQ
        go_wp2_with fail
        go_loop [18, 16] (fun q r => ∃ a b : Int, q = .int .u64 a ∧ r = .int .u64 b ∧ 0 ≤ a ∧ a ≤ 4294967297 ∧ a * v1 + b = U2 ∧ dig U2 t0 v ≤ a ∧ 0 ≤ b ∧ b < 4294967296) (fun _ r => (4294967296 - intOf r).toNat)
        case atStart => exact ⟨qb, rb, by first | rfl | rw [F2], rfl, qb1, dig_start_le H2 qb rb HR2.out rb1, HR2.out, dig_start H2 qb rb HR2.out rb2, rb1, by omega⟩
        case round =>
          obtain ⟨a, b, rfl, rfl, g1, g2, g3, g4, g5, g6⟩ := hrel
          have G3 : Hid (a * v1 + b = U2) := g3
          have G4 : Hid (dig U2 t0 v ≤ a) := g4
          clear g3 g4
          by_cases c1 : 4294967296 ≤ a
          · by_cases c2 : b + v1 < 4294967296
            · go_wp2
              go_round
              case rel => exact ⟨a - 1, b + v1, rfl, rfl, by omega, by omega, dig_step G3.out, dig_big H2 a c1, by omega, c2⟩
              case measure => simp [intOf]; omega
            · have eQ : a - 1 = Q0 := by rw [← HQ0.out]; exact dig_break H2 (a - 1) (b + v1) (dig_step G3.out) (dig_big H2 a c1) (by omega) (by omega)
              clear G3 G4
              go_wp2_with fail
              go_ret2
              exact ⟨rfl, Ext.refl _⟩
          · have m0 : 0 ≤ a * v0 := Int.mul_nonneg g1 v01
            have m1 : a * v0 ≤ 4294967295 * v0 := Int.mul_le_mul_of_nonneg_right (by omega) v01
            by_cases c3 : 4294967296 * b + t0 < a * v0
            · have g7 : 1 ≤ a := one_le_of_mul g1 c3 (by omega)
              by_cases c2 : b + v1 < 4294967296
              · go_wp2
                go_round
                case rel => exact ⟨a - 1, b + v1, rfl, rfl, by omega, by omega, dig_step G3.out, dig_less H2 a b G3.out c3, by omega, c2⟩
                case measure => simp [intOf]; omega
              · have eQ : a - 1 = Q0 := by rw [← HQ0.out]; exact dig_break H2 (a - 1) (b + v1) (dig_step G3.out) (dig_less H2 a b G3.out c3) (by omega) (by omega)
                clear G3 G4
                go_wp2_with fail
                go_ret2
                exact ⟨rfl, Ext.refl _⟩
            · have eQ : a = Q0 := by rw [← HQ0.out]; exact dig_done H2 a b G3.out G4.out (by omega)
              clear G3 G4
              subst eQ
              go_wp2_with fail
              go_ret2
              exact ⟨rfl, Ext.refl _⟩

end Go.Proofs.YtafjmpaefikdcaaGreatDoor.L12
/- What bits.Len64 and bits.LeadingZeros64 of Go's own library, as they were turned, answer for a number above 0: no statement of the seat is proved here. -/
namespace Go.Proofs.YtafjmpaefikdcaaGreatDoor.L12
open Go.RowKit
set_option linter.unusedVariables false

theorem len8_spec : ∀ n : Fin 256, 1 ≤ n.val → ∃ l : Nat, Lib.len8 (n.val : Int) = (l : Int) ∧ 1 ≤ l ∧ l ≤ 8 ∧ 2 ^ (l - 1) ≤ n.val ∧ n.val < 2 ^ l := by
  intro n hn
  refine ⟨Lib.bitLen n.val, Lib.len8_eq n, ?_⟩
  have key : ∀ n : Fin 256, 1 ≤ n.val → 1 ≤ Lib.bitLen n.val ∧ Lib.bitLen n.val ≤ 8 ∧ 2 ^ (Lib.bitLen n.val - 1) ≤ n.val ∧ n.val < 2 ^ Lib.bitLen n.val := by decide +kernel
  exact key n hn

theorem len_close (x k i l : Nat) (h : x / 2 ^ k = i) (h1 : 2 ^ (l - 1) ≤ i) (h2 : i < 2 ^ l) (hl : 1 ≤ l) : 2 ^ (k + l - 1) ≤ x ∧ x < 2 ^ (k + l) := by
  have hk : 0 < 2 ^ k := Nat.two_pow_pos k
  have e1 : 2 ^ (k + l - 1) = 2 ^ k * 2 ^ (l - 1) := by rw [← Nat.pow_add]; congr 1; omega
  have e2 : 2 ^ (k + l) = 2 ^ k * 2 ^ l := Nat.pow_add 2 k l
  have d := Nat.div_add_mod x (2 ^ k)
  have m := Nat.mod_lt x hk
  rw [h] at d
  have k1 : 2 ^ k * 2 ^ (l - 1) ≤ 2 ^ k * i := Nat.mul_le_mul_left _ h1
  have k2 : 2 ^ k * (i + 1) ≤ 2 ^ k * 2 ^ l := Nat.mul_le_mul_left _ h2
  rw [Nat.mul_add, Nat.mul_one] at k2
  omega

/-- What a length is. -/
def IsLen (x : Int) (l : Nat) : Prop := 1 ≤ l ∧ l ≤ 64 ∧ 2 ^ (l - 1) ≤ x.toNat ∧ x.toNat < 2 ^ l

theorem isLen_of (x i : Int) (k K : Nat) (hK : 2 ^ k = K) (hk : k ≤ 56) (hx : 0 < x) (hi : i = x / (K : Int)) (h1 : 1 ≤ i) (h2 : i ≤ 255) : ∃ l : Nat, (k : Int) + Lib.len8 i = (l : Int) ∧ IsLen x l := by
  obtain ⟨l, e, l1, l2, l3, l4⟩ := len8_spec ⟨i.toNat, by omega⟩ (by show 1 ≤ i.toNat; omega)
  have e' : Lib.len8 i = (l : Int) := by rw [← e]; congr 1; show i = ((i.toNat : Nat) : Int); omega
  have hd : x.toNat / 2 ^ k = i.toNat := by
    rw [hK, hi]
    obtain ⟨X, rfl⟩ := Int.eq_ofNat_of_zero_le (Int.le_of_lt hx)
    rw [← Int.natCast_ediv, Int.toNat_natCast, Int.toNat_natCast]
  have c := len_close x.toNat k i.toNat l hd l3 l4 l1
  exact ⟨k + l, by rw [e']; omega, by omega, by omega, c.1, c.2⟩

set_option maxRecDepth 100000 in
set_option maxHeartbeats 1000000 in
theorem len64_000 (x : Int) (w : World) (h0 : 0 < x) (h1 : x ≤ 9223372036854775807) (hA : x < 4294967296) (hB : x < 65536) (hC : x < 256) (i0 : 0 ≤ x) (i1 : x ≤ 255) (j0 : 0 ≤ Lib.len8 (x)) (j1 : Lib.len8 (x) ≤ 8) :
    Calls Tryz.prog 134 #[.int .u64 x] w fun e w' => e = .returned (.int .i64 (Lib.len8 (x))) ∧ w' = w := by
  go_enter Tryz.func134, Tryz.ntmps134
  go_wp2
  go_ret
  exact ⟨rfl, rfl⟩

set_option maxRecDepth 100000 in
set_option maxHeartbeats 1000000 in
theorem len64_001 (x : Int) (w : World) (h0 : 0 < x) (h1 : x ≤ 9223372036854775807) (hA : x < 4294967296) (hB : x < 65536) (hC : 256 ≤ x) (i0 : 0 ≤ x / 256) (i1 : x / 256 ≤ 255) (j0 : 0 ≤ Lib.len8 (x / 256)) (j1 : Lib.len8 (x / 256) ≤ 8) :
    Calls Tryz.prog 134 #[.int .u64 x] w fun e w' => e = .returned (.int .i64 (8 + Lib.len8 (x / 256))) ∧ w' = w := by
  go_enter Tryz.func134, Tryz.ntmps134
  go_wp2
  go_ret
  exact ⟨rfl, rfl⟩

set_option maxRecDepth 100000 in
set_option maxHeartbeats 1000000 in
theorem len64_010 (x : Int) (w : World) (h0 : 0 < x) (h1 : x ≤ 9223372036854775807) (hA : x < 4294967296) (hB : 65536 ≤ x) (hC : x / 65536 < 256) (i0 : 0 ≤ x / 65536) (i1 : x / 65536 ≤ 255) (j0 : 0 ≤ Lib.len8 (x / 65536)) (j1 : Lib.len8 (x / 65536) ≤ 8) :
    Calls Tryz.prog 134 #[.int .u64 x] w fun e w' => e = .returned (.int .i64 (16 + Lib.len8 (x / 65536))) ∧ w' = w := by
  go_enter Tryz.func134, Tryz.ntmps134
  go_wp2
  go_ret
  exact ⟨rfl, rfl⟩

set_option maxRecDepth 100000 in
set_option maxHeartbeats 1000000 in
theorem len64_011 (x : Int) (w : World) (h0 : 0 < x) (h1 : x ≤ 9223372036854775807) (hA : x < 4294967296) (hB : 65536 ≤ x) (hC : 256 ≤ x / 65536) (i0 : 0 ≤ x / 65536 / 256) (i1 : x / 65536 / 256 ≤ 255) (j0 : 0 ≤ Lib.len8 (x / 65536 / 256)) (j1 : Lib.len8 (x / 65536 / 256) ≤ 8) :
    Calls Tryz.prog 134 #[.int .u64 x] w fun e w' => e = .returned (.int .i64 (24 + Lib.len8 (x / 65536 / 256))) ∧ w' = w := by
  go_enter Tryz.func134, Tryz.ntmps134
  go_wp2
  go_ret
  exact ⟨rfl, rfl⟩

set_option maxRecDepth 100000 in
set_option maxHeartbeats 1000000 in
theorem len64_100 (x : Int) (w : World) (h0 : 0 < x) (h1 : x ≤ 9223372036854775807) (hA : 4294967296 ≤ x) (hB : x / 4294967296 < 65536) (hC : x / 4294967296 < 256) (i0 : 0 ≤ x / 4294967296) (i1 : x / 4294967296 ≤ 255) (j0 : 0 ≤ Lib.len8 (x / 4294967296)) (j1 : Lib.len8 (x / 4294967296) ≤ 8) :
    Calls Tryz.prog 134 #[.int .u64 x] w fun e w' => e = .returned (.int .i64 (32 + Lib.len8 (x / 4294967296))) ∧ w' = w := by
  go_enter Tryz.func134, Tryz.ntmps134
  go_wp2
  go_ret
  exact ⟨rfl, rfl⟩

set_option maxRecDepth 100000 in
set_option maxHeartbeats 1000000 in
theorem len64_101 (x : Int) (w : World) (h0 : 0 < x) (h1 : x ≤ 9223372036854775807) (hA : 4294967296 ≤ x) (hB : x / 4294967296 < 65536) (hC : 256 ≤ x / 4294967296) (i0 : 0 ≤ x / 4294967296 / 256) (i1 : x / 4294967296 / 256 ≤ 255) (j0 : 0 ≤ Lib.len8 (x / 4294967296 / 256)) (j1 : Lib.len8 (x / 4294967296 / 256) ≤ 8) :
    Calls Tryz.prog 134 #[.int .u64 x] w fun e w' => e = .returned (.int .i64 (40 + Lib.len8 (x / 4294967296 / 256))) ∧ w' = w := by
  go_enter Tryz.func134, Tryz.ntmps134
  go_wp2
  go_ret
  exact ⟨rfl, rfl⟩

set_option maxRecDepth 100000 in
set_option maxHeartbeats 1000000 in
theorem len64_110 (x : Int) (w : World) (h0 : 0 < x) (h1 : x ≤ 9223372036854775807) (hA : 4294967296 ≤ x) (hB : 65536 ≤ x / 4294967296) (hC : x / 4294967296 / 65536 < 256) (i0 : 0 ≤ x / 4294967296 / 65536) (i1 : x / 4294967296 / 65536 ≤ 255) (j0 : 0 ≤ Lib.len8 (x / 4294967296 / 65536)) (j1 : Lib.len8 (x / 4294967296 / 65536) ≤ 8) :
    Calls Tryz.prog 134 #[.int .u64 x] w fun e w' => e = .returned (.int .i64 (48 + Lib.len8 (x / 4294967296 / 65536))) ∧ w' = w := by
  go_enter Tryz.func134, Tryz.ntmps134
  go_wp2
  go_ret
  exact ⟨rfl, rfl⟩

set_option maxRecDepth 100000 in
set_option maxHeartbeats 1000000 in
theorem len64_111 (x : Int) (w : World) (h0 : 0 < x) (h1 : x ≤ 9223372036854775807) (hA : 4294967296 ≤ x) (hB : 65536 ≤ x / 4294967296) (hC : 256 ≤ x / 4294967296 / 65536) (i0 : 0 ≤ x / 4294967296 / 65536 / 256) (i1 : x / 4294967296 / 65536 / 256 ≤ 255) (j0 : 0 ≤ Lib.len8 (x / 4294967296 / 65536 / 256)) (j1 : Lib.len8 (x / 4294967296 / 65536 / 256) ≤ 8) :
    Calls Tryz.prog 134 #[.int .u64 x] w fun e w' => e = .returned (.int .i64 (56 + Lib.len8 (x / 4294967296 / 65536 / 256))) ∧ w' = w := by
  go_enter Tryz.func134, Tryz.ntmps134
  go_wp2
  go_ret
  exact ⟨rfl, rfl⟩

theorem len8_le (i : Int) (h0 : 0 ≤ i) (h1 : i ≤ 255) : 0 ≤ Lib.len8 i ∧ Lib.len8 i ≤ 8 := by
  have := Lib.bitLen_le8' i h0 h1
  rw [Lib.len8_of i h0 h1]
  omega

theorem len64_any (x : Int) (w : World) (h0 : 0 < x) (h1 : x ≤ 9223372036854775807) :
    ∃ l : Nat, IsLen x l ∧ ∀ w, Calls Tryz.prog 134 #[.int .u64 x] w fun e w' => e = .returned (.int .i64 l) ∧ w' = w := by
  rcases Int.lt_or_le x 4294967296 with hA | hA
  · rcases Int.lt_or_le (x) 65536 with hB | hB
    · rcases Int.lt_or_le (x) 256 with hC | hC
      · obtain ⟨l, e, h⟩ := isLen_of x (x) 0 1 (by decide) (by omega) h0 (by omega) (by omega) (by omega)
        have j := len8_le (x) (by omega) (by omega)
        have e' : Lib.len8 (x) = (l : Int) := by rw [← e]; omega
        refine ⟨l, h, fun w => ?_⟩
        rw [← e']
        exact len64_000 x w h0 h1 hA hB hC (by omega) (by omega) j.1 j.2
      · obtain ⟨l, e, h⟩ := isLen_of x (x / 256) 8 256 (by decide) (by omega) h0 (by omega) (by omega) (by omega)
        have j := len8_le (x / 256) (by omega) (by omega)
        have e' : 8 + Lib.len8 (x / 256) = (l : Int) := by rw [← e]; omega
        refine ⟨l, h, fun w => ?_⟩
        rw [← e']
        exact len64_001 x w h0 h1 hA hB hC (by omega) (by omega) j.1 j.2
    · rcases Int.lt_or_le (x / 65536) 256 with hC | hC
      · obtain ⟨l, e, h⟩ := isLen_of x (x / 65536) 16 65536 (by decide) (by omega) h0 (by omega) (by omega) (by omega)
        have j := len8_le (x / 65536) (by omega) (by omega)
        have e' : 16 + Lib.len8 (x / 65536) = (l : Int) := by rw [← e]; omega
        refine ⟨l, h, fun w => ?_⟩
        rw [← e']
        exact len64_010 x w h0 h1 hA hB hC (by omega) (by omega) j.1 j.2
      · obtain ⟨l, e, h⟩ := isLen_of x (x / 65536 / 256) 24 16777216 (by decide) (by omega) h0 (by omega) (by omega) (by omega)
        have j := len8_le (x / 65536 / 256) (by omega) (by omega)
        have e' : 24 + Lib.len8 (x / 65536 / 256) = (l : Int) := by rw [← e]; omega
        refine ⟨l, h, fun w => ?_⟩
        rw [← e']
        exact len64_011 x w h0 h1 hA hB hC (by omega) (by omega) j.1 j.2
  · rcases Int.lt_or_le (x / 4294967296) 65536 with hB | hB
    · rcases Int.lt_or_le (x / 4294967296) 256 with hC | hC
      · obtain ⟨l, e, h⟩ := isLen_of x (x / 4294967296) 32 4294967296 (by decide) (by omega) h0 (by omega) (by omega) (by omega)
        have j := len8_le (x / 4294967296) (by omega) (by omega)
        have e' : 32 + Lib.len8 (x / 4294967296) = (l : Int) := by rw [← e]; omega
        refine ⟨l, h, fun w => ?_⟩
        rw [← e']
        exact len64_100 x w h0 h1 hA hB hC (by omega) (by omega) j.1 j.2
      · obtain ⟨l, e, h⟩ := isLen_of x (x / 4294967296 / 256) 40 1099511627776 (by decide) (by omega) h0 (by omega) (by omega) (by omega)
        have j := len8_le (x / 4294967296 / 256) (by omega) (by omega)
        have e' : 40 + Lib.len8 (x / 4294967296 / 256) = (l : Int) := by rw [← e]; omega
        refine ⟨l, h, fun w => ?_⟩
        rw [← e']
        exact len64_101 x w h0 h1 hA hB hC (by omega) (by omega) j.1 j.2
    · rcases Int.lt_or_le (x / 4294967296 / 65536) 256 with hC | hC
      · obtain ⟨l, e, h⟩ := isLen_of x (x / 4294967296 / 65536) 48 281474976710656 (by decide) (by omega) h0 (by omega) (by omega) (by omega)
        have j := len8_le (x / 4294967296 / 65536) (by omega) (by omega)
        have e' : 48 + Lib.len8 (x / 4294967296 / 65536) = (l : Int) := by rw [← e]; omega
        refine ⟨l, h, fun w => ?_⟩
        rw [← e']
        exact len64_110 x w h0 h1 hA hB hC (by omega) (by omega) j.1 j.2
      · obtain ⟨l, e, h⟩ := isLen_of x (x / 4294967296 / 65536 / 256) 56 72057594037927936 (by decide) (by omega) h0 (by omega) (by omega) (by omega)
        have j := len8_le (x / 4294967296 / 65536 / 256) (by omega) (by omega)
        have e' : 56 + Lib.len8 (x / 4294967296 / 65536 / 256) = (l : Int) := by rw [← e]; omega
        refine ⟨l, h, fun w => ?_⟩
        rw [← e']
        exact len64_111 x w h0 h1 hA hB hC (by omega) (by omega) j.1 j.2

theorem zeros_any (x : Int) (h0 : 0 < x) (h1 : x ≤ 9223372036854775807) :
    ∃ l : Nat, IsLen x l ∧ l ≤ 63 ∧ ∀ w, Calls Tryz.prog 123 #[.int .u64 x] w fun e w' => e = .returned (.int .i64 (64 - (l : Int))) ∧ w' = w := by
  obtain ⟨l, h, c⟩ := len64_any x default h0 h1
  have l63 : l ≤ 63 := by
    rcases Nat.lt_or_ge 63 l with k | k
    · have e : l = 64 := by have := h.2.1; omega
      have := h.2.2.1
      rw [e] at this
      omega
    · exact k
  refine ⟨l, h, l63, fun w => ?_⟩
  have HC : Hid (∀ w, Calls Tryz.prog 134 #[.int .u64 x] w fun e w' => e = .returned (.int .i64 l) ∧ w' = w) := c
  clear c
  go_enter Tryz.func123, Tryz.ntmps123
  go_wp2_with fail
  refine (HC.out _).mono ?_
  rintro e w1 ⟨rfl, rfl⟩
  go_wp2_with fail
  go_ret
  exact ⟨rfl, rfl⟩

end Go.Proofs.YtafjmpaefikdcaaGreatDoor.L12
/- bits.Div64 of Go's own library, as it was turned, at every number of two words whose upper word is below the divisor: the quotient and the rest: no statement of the seat is proved here. -/
namespace Go.Proofs.YtafjmpaefikdcaaGreatDoor.L12
open Go.RowKit
set_option linter.unusedVariables false

theorem divAt_small (n : Nat) (d : Int) (hn : n < 18446744073709551616) (hd : 0 < d) (hd2 : d ≤ 9223372036854775807) : DivAt n d := by
  intro w
  have e1 : hiW n = 0 := by unfold hiW; omega
  have e2 : loW n = n := by unfold loW; omega
  obtain ⟨D, rfl⟩ := Int.eq_ofNat_of_zero_le (Int.le_of_lt hd)
  rw [e1, e2, Int.toNat_natCast]
  unfold quoN remN
  rw [Int.natCast_ediv, Int.natCast_emod]
  exact div64_small n D w (by omega) (by omega) hd hd2


theorem or_add (a b k : Nat) (hb : b < 2 ^ k) : a * 2 ^ k ||| b = a * 2 ^ k + b := by
  rw [Nat.mul_comm, ← Nat.two_pow_add_eq_or_of_lt hb]

/-- The numbers of a division, in plain words. -/
theorem div_numbers (n D l : Nat) (hD : 0 < D) (l1 : 1 ≤ l) (l2 : l ≤ 63) (hl1 : 2 ^ (l - 1) ≤ D) (hl2 : D < 2 ^ l) (hn : hiW n < D) :
    9223372036854775808 ≤ D * 2 ^ (64 - l) ∧ D * 2 ^ (64 - l) < 18446744073709551616 ∧
    hiW n * 2 ^ (64 - l) + loW n / 2 ^ l < D * 2 ^ (64 - l) ∧ loW n / 2 ^ l < 2 ^ (64 - l) ∧
    n * 2 ^ (64 - l) = (hiW n * 2 ^ (64 - l) + loW n / 2 ^ l) * 18446744073709551616 + loW n * 2 ^ (64 - l) % 18446744073709551616 := by
  have p1 : 2 ^ (l - 1) * 2 ^ (64 - l) = 9223372036854775808 := by rw [← Nat.pow_add, show l - 1 + (64 - l) = 63 by omega]
  have p2 : 2 ^ l * 2 ^ (64 - l) = 18446744073709551616 := by rw [← Nat.pow_add, show l + (64 - l) = 64 by omega]
  have hS : 0 < 2 ^ (64 - l) := Nat.two_pow_pos _
  have hL : 0 < 2 ^ l := Nat.two_pow_pos _
  have q1 : 2 ^ (l - 1) * 2 ^ (64 - l) ≤ D * 2 ^ (64 - l) := Nat.mul_le_mul_right _ hl1
  have q2 : (D + 1) * 2 ^ (64 - l) ≤ 2 ^ l * 2 ^ (64 - l) := Nat.mul_le_mul_right _ hl2
  have hlo : loW n < 18446744073709551616 := Nat.mod_lt _ (by omega)
  have lt : loW n / 2 ^ l < 2 ^ (64 - l) := by rw [Nat.div_lt_iff_lt_mul hL, Nat.mul_comm, p2]; exact hlo
  have q3 : (hiW n + 1) * 2 ^ (64 - l) ≤ D * 2 ^ (64 - l) := Nat.mul_le_mul_right _ hn
  rw [Nat.add_mul, Nat.one_mul] at q2 q3
  refine ⟨by omega, by omega, by omega, lt, ?_⟩
  have en : n = hiW n * 18446744073709551616 + loW n := by unfold hiW loW; omega
  have d1 : loW n * 2 ^ (64 - l) / 18446744073709551616 = loW n / 2 ^ l := by rw [← p2, Nat.mul_div_mul_right _ _ hS]
  have d2 := Nat.div_add_mod (loW n * 2 ^ (64 - l)) 18446744073709551616
  rw [d1] at d2
  generalize hiW n = H at *
  generalize loW n = Lo at *
  subst en
  rw [Nat.add_mul, Nat.add_mul, Nat.mul_right_comm]
  omega

theorem word_rst (u t v v1 v0 : Int) (h : Digit u t v v1 v0) (hv : v < 18446744073709551616) :
    IntKind.u64.wrap (IntKind.u64.wrap (IntKind.u64.wrap (u * 4294967296) + t) - IntKind.u64.wrap (dig u t v * v)) = rst u t v := by
  have k := rst_word h hv
  simp only [IntKind.wrap_u64]
  omega

theorem divAt_full (n : Nat) (d : Int) (hd : 0 < d) (hd2 : d ≤ 9223372036854775807) (hh : hiW n < d.toNat) : DivAt n d := by
  by_cases h0 : hiW n = 0
  · exact divAt_small n d (by unfold hiW at h0; omega) hd hd2
  obtain ⟨D, rfl⟩ := Int.eq_ofNat_of_zero_le (Int.le_of_lt hd)
  rw [Int.toNat_natCast] at hh
  obtain ⟨l, ⟨l1, l2, l3, l4⟩, l63, cz⟩ := zeros_any (D : Int) hd hd2
  rw [Int.toNat_natCast] at l3 l4
  obtain ⟨b1, b2, b3, b4, b5⟩ := div_numbers n D l (by omega) l1 l63 l3 l4 hh
  have hlo : loW n < 18446744073709551616 := Nat.mod_lt _ (by omega)
  have hS : 0 < 2 ^ (64 - l) := Nat.two_pow_pos _
  have hsN : (64 - (l : Int)).toNat = 64 - l := by omega
  have hsN2 : (64 - (64 - (l : Int))).toNat = l := by omega
  have t2 : loW n * 2 ^ (64 - l) % 18446744073709551616 < 18446744073709551616 := Nat.mod_lt _ (by omega)
  have hhS : hiW n * 2 ^ (64 - l) < 18446744073709551616 := Nat.lt_of_le_of_lt (Nat.le_add_right _ _) (Nat.lt_trans b3 b2)
  -- the words, as the walk writes them
  have E1 : IntKind.u64.wrap ((D : Int) * 2 ^ (64 - (l : Int)).toNat) = ((D * 2 ^ (64 - l) : Nat) : Int) := by
    rw [hsN, show (2 : Int) ^ (64 - l) = ((2 ^ (64 - l) : Nat) : Int) from by simp, U.mul, U.wrapLt _ b2]
  have E4 : bits .or .u64 (IntKind.u64.wrap ((hiW n : Int) * 2 ^ (64 - (l : Int)).toNat)) ((loW n : Int) / 2 ^ (64 - (64 - (l : Int))).toNat) = ((hiW n * 2 ^ (64 - l) + loW n / 2 ^ l : Nat) : Int) := by
    rw [hsN, hsN2, show (2 : Int) ^ (64 - l) = ((2 ^ (64 - l) : Nat) : Int) from by simp, U.mul, U.wrapLt _ hhS, show (2 : Int) ^ l = ((2 ^ l : Nat) : Int) from by simp, ← Int.natCast_ediv,
      bits_or_u64_nat _ _ hhS (by omega), or_add _ _ _ b4]
  have E5 : IntKind.u64.wrap ((loW n : Int) * 2 ^ (64 - (l : Int)).toNat) = ((loW n * 2 ^ (64 - l) % 18446744073709551616 : Nat) : Int) := by
    rw [hsN, show (2 : Int) ^ (64 - l) = ((2 ^ (64 - l) : Nat) : Int) from by simp, U.mul, U.wrapMod]
  have hR : (2 : Int) ^ (64 - (l : Int)).toNat = ((2 ^ (64 - l) : Nat) : Int) := by rw [hsN]; simp
  generalize hvv : D * 2 ^ (64 - l) = V at *
  generalize huu : hiW n * 2 ^ (64 - l) + loW n / 2 ^ l = W at *
  generalize htt : loW n * 2 ^ (64 - l) % 18446744073709551616 = T at *
  have H1 : Digit (W : Int) ((T / 4294967296 : Nat) : Int) (V : Int) ((V / 4294967296 : Nat) : Int) ((V % 4294967296 : Nat) : Int) :=
    ⟨by omega, by omega, by omega, by omega, by omega, by omega, by omega, by omega, by omega⟩
  obtain ⟨e1, r1, r2, q1, q2⟩ := dig_parts H1
  have H2 : Digit (rst (W : Int) ((T / 4294967296 : Nat) : Int) (V : Int)) ((T % 4294967296 : Nat) : Int) (V : Int) ((V / 4294967296 : Nat) : Int) ((V % 4294967296 : Nat) : Int) :=
    ⟨by omega, by omega, by omega, by omega, by omega, r1, r2, by omega, by omega⟩
  obtain ⟨e2, r3, r4, q3, q4⟩ := dig_parts H2
  have v1p : (0 : Int) < ((V / 4294967296 : Nat) : Int) := by omega
  obtain ⟨x1, x2, x3⟩ := div_rest (W : Int) ((V / 4294967296 : Nat) : Int) v1p
  obtain ⟨y1, y2, y3⟩ := div_rest (rst (W : Int) ((T / 4294967296 : Nat) : Int) (V : Int)) ((V / 4294967296 : Nat) : Int) v1p
  have TD := two_digits (n : Int) (D : Int) ((2 ^ (64 - l) : Nat) : Int) (W : Int) ((T / 4294967296 : Nat) : Int) ((T % 4294967296 : Nat) : Int) (V : Int) _ _ (by omega) (by rw [← hvv]; simp) (by
    rw [U.mul, b5]; omega) H1 H2
  intro w
  have c := div64_core (hiW n : Int) (loW n : Int) (D : Int) (64 - (l : Int)) (V : Int) ((V / 4294967296 : Nat) : Int) ((V % 4294967296 : Nat) : Int) (W : Int) (T : Int) ((T / 4294967296 : Nat) : Int) ((T % 4294967296 : Nat) : Int)
    ((W : Int) / ((V / 4294967296 : Nat) : Int)) ((W : Int) % ((V / 4294967296 : Nat) : Int)) (dig (W : Int) ((T / 4294967296 : Nat) : Int) (V : Int)) (rst (W : Int) ((T / 4294967296 : Nat) : Int) (V : Int))
    (rst (W : Int) ((T / 4294967296 : Nat) : Int) (V : Int) / ((V / 4294967296 : Nat) : Int)) (rst (W : Int) ((T / 4294967296 : Nat) : Int) (V : Int) % ((V / 4294967296 : Nat) : Int))
    (dig (rst (W : Int) ((T / 4294967296 : Nat) : Int) (V : Int)) ((T % 4294967296 : Nat) : Int) (V : Int)) (rst (rst (W : Int) ((T / 4294967296 : Nat) : Int) (V : Int)) ((T % 4294967296 : Nat) : Int) (V : Int)) w
    (by omega) (by omega) hd2 (by omega) (by omega) (by omega) (by omega) cz E1 (U.high V) (U.low V b2) E4 E5 (U.high T) (U.low T t2)
    (by omega) (by omega) (by omega) (by omega) (by omega) (by omega) (by omega) (by omega) (by omega) (by omega) (by omega) (by omega)
    rfl (by rw [Int.mul_comm]; omega) (Int.mul_nonneg (Int.ediv_nonneg (by omega) (by omega)) (by omega)) (by rw [Int.mul_comm]; omega) x2 x3 (Int.ediv_nonneg (by omega) (by omega))
    (word_rst _ _ _ _ _ H1 (by omega))
    rfl (by rw [Int.mul_comm]; omega) (Int.mul_nonneg (Int.ediv_nonneg r1 (by omega)) (by omega)) (by rw [Int.mul_comm]; omega) y2 y3 (Int.ediv_nonneg r1 (by omega))
    r1 r2 q1 q2 q3 q4 (word_rst _ _ _ _ _ H2 (by omega)) r3 r4 H1 H2 rfl rfl
  rw [hR, TD.1, TD.2] at c
  unfold quoN remN
  rw [Int.toNat_natCast, Int.natCast_ediv, Int.natCast_emod]
  exact c

end Go.Proofs.YtafjmpaefikdcaaGreatDoor.L12
