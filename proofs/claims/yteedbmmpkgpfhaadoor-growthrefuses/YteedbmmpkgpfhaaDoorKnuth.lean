
/- The division of two words by one, digit by digit, in plain numbers: no program is spoken of here. -/
import Derived.Test.YteedbmmpkgpfhaaDoorNum
import Derived.Lib.BitFns
namespace Go.Proofs.YteedbmmpkgpfhaaDoor

/-- The digit: (u * 2^32 + t) by v. -/
def dig (u t v : Int) : Int := (u * 4294967296 + t) / v
def rst (u t v : Int) : Int := (u * 4294967296 + t) % v

/-- A divisor whose upper bit is set, in two halves; a rest below it; the next half of the number. -/
structure Digit (u t v v1 v0 : Int) : Prop where
  parts : v = v1 * 4294967296 + v0
  lo0 : 0 ≤ v0
  lo1 : v0 < 4294967296
  hi0 : 2147483648 ≤ v1
  hi1 : v1 < 4294967296
  u0 : 0 ≤ u
  u1 : u < v
  t0 : 0 ≤ t
  t1 : t < 4294967296

theorem Digit.pos {u t v v1 v0 : Int} (h : Digit u t v v1 v0) : 0 < v := by
  obtain ⟨h1, h2, h3, h4, h5, h6, h7, h8, h9⟩ := h; omega

theorem Digit.mul {u t v v1 v0 : Int} (h : Digit u t v v1 v0) (q : Int) : q * v = q * v1 * 4294967296 + q * v0 := by
  rw [h.parts, Int.mul_add, Int.mul_assoc]

theorem dig_parts {u t v v1 v0 : Int} (h : Digit u t v v1 v0) : u * 4294967296 + t = dig u t v * v + rst u t v ∧ 0 ≤ rst u t v ∧ rst u t v < v ∧ 0 ≤ dig u t v ∧ dig u t v < 4294967296 := by
  have hv := h.pos
  obtain ⟨e, r0, r1⟩ := div_rest (u * 4294967296 + t) v hv
  have hu := h.u1; have h0 := h.u0; have ht := h.t1; have ht0 := h.t0
  refine ⟨by unfold dig rst; rw [Int.mul_comm (_ / v) v]; omega, r0, r1, Int.ediv_nonneg (by omega) (by omega), ?_⟩
  unfold dig
  rw [Int.ediv_lt_iff_lt_mul hv, Int.mul_comm 4294967296 v]
  omega

theorem dig_start {u t v v1 v0 : Int} (h : Digit u t v v1 v0) (q r : Int) (e : q * v1 + r = u) (r1 : r < v1) : dig u t v ≤ q := by
  obtain ⟨e1, a, b, c, d⟩ := dig_parts h
  have m := h.mul (dig u t v)
  have hi := h.hi0; have ht := h.t1; have l0 := h.lo0
  rcases Int.lt_or_le q (dig u t v) with hl | hl
  · have k : (q + 1) * v1 ≤ dig u t v * v1 := Int.mul_le_mul_of_nonneg_right (by omega) (by omega)
    rw [Int.add_mul, Int.one_mul] at k
    have k0 : 0 ≤ dig u t v * v0 := Int.mul_nonneg c l0
    omega
  · exact hl

theorem dig_start_le {u t v v1 v0 : Int} (h : Digit u t v v1 v0) (q r : Int) (e : q * v1 + r = u) (r0 : 0 ≤ r) : q ≤ 4294967297 := by
  have p := h.parts; have hi := h.hi0; have l1 := h.lo1; have hu := h.u1
  rcases Int.lt_or_le 4294967297 q with hl | hl
  · have k : 4294967298 * v1 ≤ q * v1 := Int.mul_le_mul_of_nonneg_right (by omega) (by omega)
    omega
  · exact hl

theorem dig_less {u t v v1 v0 : Int} (h : Digit u t v v1 v0) (q r : Int) (e : q * v1 + r = u) (k : 4294967296 * r + t < q * v0) : dig u t v ≤ q - 1 := by
  have m := h.mul q
  have : dig u t v < q := by
    unfold dig
    rw [Int.ediv_lt_iff_lt_mul h.pos]
    omega
  omega

theorem dig_big {u t v v1 v0 : Int} (h : Digit u t v v1 v0) (q : Int) (k : 4294967296 ≤ q) : dig u t v ≤ q - 1 := by
  obtain ⟨e1, a, b, c, d⟩ := dig_parts h
  omega

theorem dig_done {u t v v1 v0 : Int} (h : Digit u t v v1 v0) (q r : Int) (e : q * v1 + r = u) (l : dig u t v ≤ q) (k : q * v0 ≤ 4294967296 * r + t) : q = dig u t v := by
  have m := h.mul q
  have : q ≤ dig u t v := by
    unfold dig
    rw [Int.le_ediv_iff_mul_le h.pos]
    omega
  omega

theorem dig_break {u t v v1 v0 : Int} (h : Digit u t v v1 v0) (q r : Int) (e : q * v1 + r = u) (l : dig u t v ≤ q) (q1 : q ≤ 4294967296) (k : 4294967296 ≤ r) : q = dig u t v := by
  have l0 := h.lo0; have l1 := h.lo1; have ht := h.t0
  have k0 : q * v0 ≤ 4294967296 * v0 := Int.mul_le_mul_of_nonneg_right q1 l0
  exact dig_done h q r e l (by omega)

theorem dig_step {v1 u q r : Int} (e : q * v1 + r = u) : (q - 1) * v1 + (r + v1) = u := by
  rw [Int.sub_mul, Int.one_mul]; omega

/-- What goes round: the rest of a digit, reckoned in words. -/
theorem rst_word {u t v v1 v0 : Int} (h : Digit u t v v1 v0) (hv : v < 18446744073709551616) :
    (u * 4294967296 + t - dig u t v * v) % 18446744073709551616 = rst u t v := by
  obtain ⟨e1, a, b, c, d⟩ := dig_parts h
  omega

/-- The number, shifted, and its two digits: what comes out. -/
theorem two_digits (N d S u t1 t0 v v1 v0 : Int) (hS : 0 < S) (hv : v = d * S) (hN : N * S = (u * 4294967296 + t1) * 4294967296 + t0) (h : Digit u t1 v v1 v0)
    (h2 : Digit (rst u t1 v) t0 v v1 v0) :
    dig u t1 v * 4294967296 + dig (rst u t1 v) t0 v = N / d ∧ rst (rst u t1 v) t0 v / S = N % d := by
  obtain ⟨e1, a1, b1, c1, d1⟩ := dig_parts h
  obtain ⟨e2, a2, b2, c2, d2⟩ := dig_parts h2
  have key : N * S = (dig u t1 v * 4294967296 + dig (rst u t1 v) t0 v) * v + rst (rst u t1 v) t0 v := by
    rw [hN, e1, Int.add_mul, Int.add_mul (dig u t1 v * 4294967296), Int.add_assoc, e2, Int.mul_right_comm]
    omega
  generalize dig u t1 v * 4294967296 + dig (rst u t1 v) t0 v = Q at *
  generalize rst (rst u t1 v) t0 v = R at *
  have hvp : 0 < v := h.pos
  have u1 := (Int.ediv_emod_unique hvp (a := N * S) (r := R) (q := Q)).2 ⟨by rw [key, Int.mul_comm v Q]; omega, a2, b2⟩
  rw [hv] at u1
  rw [Int.mul_comm N S, Int.mul_comm d S, Int.mul_ediv_mul_of_pos N d hS, Int.mul_emod_mul_of_pos N d hS] at u1
  refine ⟨u1.1.symm, ?_⟩
  rw [← u1.2, Int.mul_ediv_cancel_left _ (by omega)]

end Go.Proofs.YteedbmmpkgpfhaaDoor
