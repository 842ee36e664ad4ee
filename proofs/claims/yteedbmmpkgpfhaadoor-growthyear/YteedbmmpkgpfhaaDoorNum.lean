
/- The plain numbers beneath fixnum: rounding by floors, and the facts on words of 64 bits: no program is spoken of here. -/
import Derived.Lib.Mul64
import Derived.Laws.Bits64b
namespace Go.Proofs.YteedbmmpkgpfhaaDoor

namespace U
/-- The lower half of a word. -/
theorem low (a : Nat) (ha : a < 18446744073709551616) : bits .and .u64 (a : Int) 4294967295 = ((a % 4294967296 : Nat) : Int) := by
  rw [show (4294967295 : Int) = ((4294967295 : Nat) : Int) from rfl, bits_and_u64_nat a 4294967295 ha (by omega), show (4294967295 : Nat) = 2 ^ 32 - 1 from rfl, Nat.and_two_pow_sub_one_eq_mod a 32]
theorem high (a : Nat) : (a : Int) / 4294967296 = ((a / 4294967296 : Nat) : Int) := by omega
theorem mul (a b : Nat) : (a : Int) * (b : Int) = ((a * b : Nat) : Int) := (Int.natCast_mul a b).symm
theorem add (a b : Nat) : (a : Int) + (b : Int) = ((a + b : Nat) : Int) := (Int.natCast_add a b).symm
theorem wrapMod (a : Nat) : IntKind.u64.wrap (a : Int) = ((a % 18446744073709551616 : Nat) : Int) := by rw [IntKind.wrap_u64]; omega
theorem wrapLt (a : Nat) (ha : a < 18446744073709551616) : IntKind.u64.wrap (a : Int) = (a : Int) := by rw [IntKind.wrap_u64]; omega
end U

/-- A number without its sign. -/
def mag (a : Int) : Nat := a.natAbs
/-- Do the signs make a product negative? -/
def sgn (a b : Int) : Bool := decide (a < 0) != decide (b < 0)
/-- The upper word, the lower word; a quotient, a rest. -/
def hiW (n : Nat) : Nat := n / 18446744073709551616
def loW (n : Nat) : Nat := n % 18446744073709551616
def quoN (n d : Nat) : Nat := n / d
def remN (n d : Nat) : Nat := n % d

/-- Is 'floor, and rest by d' rounded up? -/
def upB (m f r d : Int) : Bool :=
  if m = 1 then decide (d - r ≤ r) else if m = 2 then decide (d - r < r) || (decide (r = d - r) && decide (f % 2 ≠ 0)) else false

/-- n by d, rounded by m. -/
def rnd (m n d : Int) : Int := n / d + if upB m (n / d) (n % d) d then 1 else 0

/-- Does it fit? -/
def Fit (v : Int) : Prop := -1000000000000000 ≤ v ∧ v ≤ 1000000000000000

/-- The same, as a Bool. -/
def fitB (v : Int) : Bool := decide (-1000000000000000 ≤ v) && decide (v ≤ 1000000000000000)
theorem fitB_iff (v : Int) : fitB v = true ↔ Fit v := by simp [fitB, Fit]

theorem mag_nn (a : Int) (h : 0 ≤ a) : ((mag a : Nat) : Int) = a := by unfold mag; omega
theorem mag_neg (a : Int) (h : a < 0) : ((mag a : Nat) : Int) = -a := by unfold mag; omega

/-- The product out of its parts. -/
theorem prod_mag (a b : Int) : a * b = if sgn a b then -((mag a * mag b : Nat) : Int) else ((mag a * mag b : Nat) : Int) := by
  rw [Int.natCast_mul]
  rcases Int.lt_or_le a 0 with ha | ha <;> rcases Int.lt_or_le b 0 with hb | hb
  · have e : sgn a b = false := by simp [sgn, ha, hb]
    rw [e, mag_neg a ha, mag_neg b hb]; simp [Int.neg_mul_neg]
  · have e : sgn a b = true := by simp [sgn, ha]; omega
    rw [e, mag_neg a ha, mag_nn b hb]; simp [Int.neg_mul]
  · have e : sgn a b = true := by simp [sgn, hb]; omega
    rw [e, mag_nn a ha, mag_neg b hb]; simp [Int.mul_neg]
  · have e : sgn a b = false := by simp [sgn]; omega
    rw [e, mag_nn a ha, mag_nn b hb]; simp

/-- The floor and the rest of a negative number, out of its size's. -/
theorem neg_div_rest (N d : Nat) (hd : 0 < d) (h : 0 < N % d) : (-(N : Int)) / (d : Int) = -((N / d : Nat) : Int) - 1 ∧ (-(N : Int)) % (d : Int) = (d : Int) - ((N % d : Nat) : Int) := by
  have hlt := Nat.mod_lt N hd
  have e := Nat.div_add_mod N d
  have hq : (-(N : Int)) = (d : Int) * (-((N / d : Nat) : Int) - 1) + ((d : Int) - ((N % d : Nat) : Int)) := by
    have e' : (N : Int) = (d : Int) * ((N / d : Nat) : Int) + ((N % d : Nat) : Int) := by exact_mod_cast e.symm
    rw [Int.mul_sub, Int.mul_neg, Int.mul_one]
    omega
  have hdi : (0 : Int) < (d : Int) := by omega
  constructor
  · have := Int.ediv_emod_unique hdi (a := -(N : Int)) (r := (d : Int) - ((N % d : Nat) : Int)) (q := -((N / d : Nat) : Int) - 1)
    exact (this.2 ⟨by rw [hq, Int.add_comm], by omega, by omega⟩).1
  · have := Int.ediv_emod_unique hdi (a := -(N : Int)) (r := (d : Int) - ((N % d : Nat) : Int)) (q := -((N / d : Nat) : Int) - 1)
    exact (this.2 ⟨by rw [hq, Int.add_comm], by omega, by omega⟩).2

theorem neg_div_none (N d : Nat) (hd : 0 < d) (h : N % d = 0) : (-(N : Int)) / (d : Int) = -((N / d : Nat) : Int) ∧ (-(N : Int)) % (d : Int) = 0 := by
  have e := Nat.div_add_mod N d
  have hq : (-(N : Int)) = (d : Int) * (-((N / d : Nat) : Int)) + 0 := by
    have e' : (N : Int) = (d : Int) * ((N / d : Nat) : Int) + ((N % d : Nat) : Int) := by exact_mod_cast e.symm
    rw [Int.mul_neg]
    omega
  have hdi : (0 : Int) < (d : Int) := by omega
  have := Int.ediv_emod_unique hdi (a := -(N : Int)) (r := 0) (q := -((N / d : Nat) : Int))
  exact this.2 ⟨by omega, by omega, by omega⟩

theorem div_rest (n d : Int) (hd : 0 < d) : d * (n / d) + n % d = n ∧ 0 ≤ n % d ∧ n % d < d :=
  ⟨Int.mul_ediv_add_emod n d, Int.emod_nonneg n (by omega), Int.emod_lt_of_pos n hd⟩

end Go.Proofs.YteedbmmpkgpfhaaDoor
