
/- bits.Div64 of Go's own library, as it was turned, at every number of two words whose upper word is below the divisor: the quotient and the rest: no statement of the seat is proved here. -/
import Derived.Test.YteedbmmpkgpfhaaDoorDiv
import Derived.Test.YteedbmmpkgpfhaaDoorLen
namespace Go.Proofs.YteedbmmpkgpfhaaDoor
open Go.RowKit
set_option linter.unusedVariables false

theorem divAt_small (n : Nat) (d : Int) (hn : n < 18446744073709551616) (hd : 0 < d) (hd2 : d ≤ 9223372036854775807) : DivAt n d := by
  intro w
  have e1 : hiW n = 0 := by unfold hiW; omega
  have e2 : loW n = n := by unfold loW; omega
  obtain ⟨D, rfl⟩ := Int.eq_ofNat_of_zero_le (Int.le_of_lt hd)
  rw [e1, e2, Int.toNat_natCast]
  unfold quoN remN
  rw [Int.natCast_ediv, Int.natCast_emod]
  exact div64_small n D w (by omega) (by omega) hd hd2


theorem or_add (a b k : Nat) (hb : b < 2 ^ k) : a * 2 ^ k ||| b = a * 2 ^ k + b := by
  rw [Nat.mul_comm, ← Nat.two_pow_add_eq_or_of_lt hb]

/-- The numbers of a division, in plain words. -/
theorem div_numbers (n D l : Nat) (hD : 0 < D) (l1 : 1 ≤ l) (l2 : l ≤ 63) (hl1 : 2 ^ (l - 1) ≤ D) (hl2 : D < 2 ^ l) (hn : hiW n < D) :
    9223372036854775808 ≤ D * 2 ^ (64 - l) ∧ D * 2 ^ (64 - l) < 18446744073709551616 ∧
    hiW n * 2 ^ (64 - l) + loW n / 2 ^ l < D * 2 ^ (64 - l) ∧ loW n / 2 ^ l < 2 ^ (64 - l) ∧
    n * 2 ^ (64 - l) = (hiW n * 2 ^ (64 - l) + loW n / 2 ^ l) * 18446744073709551616 + loW n * 2 ^ (64 - l) % 18446744073709551616 := by
  have p1 : 2 ^ (l - 1) * 2 ^ (64 - l) = 9223372036854775808 := by rw [← Nat.pow_add, show l - 1 + (64 - l) = 63 by omega]
  have p2 : 2 ^ l * 2 ^ (64 - l) = 18446744073709551616 := by rw [← Nat.pow_add, show l + (64 - l) = 64 by omega]
  have hS : 0 < 2 ^ (64 - l) := Nat.two_pow_pos _
  have hL : 0 < 2 ^ l := Nat.two_pow_pos _
  have q1 : 2 ^ (l - 1) * 2 ^ (64 - l) ≤ D * 2 ^ (64 - l) := Nat.mul_le_mul_right _ hl1
  have q2 : (D + 1) * 2 ^ (64 - l) ≤ 2 ^ l * 2 ^ (64 - l) := Nat.mul_le_mul_right _ hl2
  have hlo : loW n < 18446744073709551616 := Nat.mod_lt _ (by omega)
  have lt : loW n / 2 ^ l < 2 ^ (64 - l) := by rw [Nat.div_lt_iff_lt_mul hL, Nat.mul_comm, p2]; exact hlo
  have q3 : (hiW n + 1) * 2 ^ (64 - l) ≤ D * 2 ^ (64 - l) := Nat.mul_le_mul_right _ hn
  rw [Nat.add_mul, Nat.one_mul] at q2 q3
  refine ⟨by omega, by omega, by omega, lt, ?_⟩
  have en : n = hiW n * 18446744073709551616 + loW n := by unfold hiW loW; omega
  have d1 : loW n * 2 ^ (64 - l) / 18446744073709551616 = loW n / 2 ^ l := by rw [← p2, Nat.mul_div_mul_right _ _ hS]
  have d2 := Nat.div_add_mod (loW n * 2 ^ (64 - l)) 18446744073709551616
  rw [d1] at d2
  generalize hiW n = H at *
  generalize loW n = Lo at *
  subst en
  rw [Nat.add_mul, Nat.add_mul, Nat.mul_right_comm]
  omega

theorem word_rst (u t v v1 v0 : Int) (h : Digit u t v v1 v0) (hv : v < 18446744073709551616) :
    IntKind.u64.wrap (IntKind.u64.wrap (IntKind.u64.wrap (u * 4294967296) + t) - IntKind.u64.wrap (dig u t v * v)) = rst u t v := by
  have k := rst_word h hv
  simp only [IntKind.wrap_u64]
  omega

theorem divAt_full (n : Nat) (d : Int) (hd : 0 < d) (hd2 : d ≤ 9223372036854775807) (hh : hiW n < d.toNat) : DivAt n d := by
  by_cases h0 : hiW n = 0
  · exact divAt_small n d (by unfold hiW at h0; omega) hd hd2
  obtain ⟨D, rfl⟩ := Int.eq_ofNat_of_zero_le (Int.le_of_lt hd)
  rw [Int.toNat_natCast] at hh
  obtain ⟨l, ⟨l1, l2, l3, l4⟩, l63, cz⟩ := zeros_any (D : Int) hd hd2
  rw [Int.toNat_natCast] at l3 l4
  obtain ⟨b1, b2, b3, b4, b5⟩ := div_numbers n D l (by omega) l1 l63 l3 l4 hh
  have hlo : loW n < 18446744073709551616 := Nat.mod_lt _ (by omega)
  have hS : 0 < 2 ^ (64 - l) := Nat.two_pow_pos _
  have hsN : (64 - (l : Int)).toNat = 64 - l := by omega
  have hsN2 : (64 - (64 - (l : Int))).toNat = l := by omega
  have t2 : loW n * 2 ^ (64 - l) % 18446744073709551616 < 18446744073709551616 := Nat.mod_lt _ (by omega)
  have hhS : hiW n * 2 ^ (64 - l) < 18446744073709551616 := Nat.lt_of_le_of_lt (Nat.le_add_right _ _) (Nat.lt_trans b3 b2)
  -- the words, as the walk writes them
  have E1 : IntKind.u64.wrap ((D : Int) * 2 ^ (64 - (l : Int)).toNat) = ((D * 2 ^ (64 - l) : Nat) : Int) := by
    rw [hsN, show (2 : Int) ^ (64 - l) = ((2 ^ (64 - l) : Nat) : Int) from by simp, U.mul, U.wrapLt _ b2]
  have E4 : bits .or .u64 (IntKind.u64.wrap ((hiW n : Int) * 2 ^ (64 - (l : Int)).toNat)) ((loW n : Int) / 2 ^ (64 - (64 - (l : Int))).toNat) = ((hiW n * 2 ^ (64 - l) + loW n / 2 ^ l : Nat) : Int) := by
    rw [hsN, hsN2, show (2 : Int) ^ (64 - l) = ((2 ^ (64 - l) : Nat) : Int) from by simp, U.mul, U.wrapLt _ hhS, show (2 : Int) ^ l = ((2 ^ l : Nat) : Int) from by simp, ← Int.natCast_ediv,
      bits_or_u64_nat _ _ hhS (by omega), or_add _ _ _ b4]
  have E5 : IntKind.u64.wrap ((loW n : Int) * 2 ^ (64 - (l : Int)).toNat) = ((loW n * 2 ^ (64 - l) % 18446744073709551616 : Nat) : Int) := by
    rw [hsN, show (2 : Int) ^ (64 - l) = ((2 ^ (64 - l) : Nat) : Int) from by simp, U.mul, U.wrapMod]
  have hR : (2 : Int) ^ (64 - (l : Int)).toNat = ((2 ^ (64 - l) : Nat) : Int) := by rw [hsN]; simp
  generalize hvv : D * 2 ^ (64 - l) = V at *
  generalize huu : hiW n * 2 ^ (64 - l) + loW n / 2 ^ l = W at *
  generalize htt : loW n * 2 ^ (64 - l) % 18446744073709551616 = T at *
  have H1 : Digit (W : Int) ((T / 4294967296 : Nat) : Int) (V : Int) ((V / 4294967296 : Nat) : Int) ((V % 4294967296 : Nat) : Int) :=
    ⟨by omega, by omega, by omega, by omega, by omega, by omega, by omega, by omega, by omega⟩
  obtain ⟨e1, r1, r2, q1, q2⟩ := dig_parts H1
  have H2 : Digit (rst (W : Int) ((T / 4294967296 : Nat) : Int) (V : Int)) ((T % 4294967296 : Nat) : Int) (V : Int) ((V / 4294967296 : Nat) : Int) ((V % 4294967296 : Nat) : Int) :=
    ⟨by omega, by omega, by omega, by omega, by omega, r1, r2, by omega, by omega⟩
  obtain ⟨e2, r3, r4, q3, q4⟩ := dig_parts H2
  have v1p : (0 : Int) < ((V / 4294967296 : Nat) : Int) := by omega
  obtain ⟨x1, x2, x3⟩ := div_rest (W : Int) ((V / 4294967296 : Nat) : Int) v1p
  obtain ⟨y1, y2, y3⟩ := div_rest (rst (W : Int) ((T / 4294967296 : Nat) : Int) (V : Int)) ((V / 4294967296 : Nat) : Int) v1p
  have TD := two_digits (n : Int) (D : Int) ((2 ^ (64 - l) : Nat) : Int) (W : Int) ((T / 4294967296 : Nat) : Int) ((T % 4294967296 : Nat) : Int) (V : Int) _ _ (by omega) (by rw [← hvv]; simp) (by
    rw [U.mul, b5]; omega) H1 H2
  intro w
  have c := div64_core (hiW n : Int) (loW n : Int) (D : Int) (64 - (l : Int)) (V : Int) ((V / 4294967296 : Nat) : Int) ((V % 4294967296 : Nat) : Int) (W : Int) (T : Int) ((T / 4294967296 : Nat) : Int) ((T % 4294967296 : Nat) : Int)
    ((W : Int) / ((V / 4294967296 : Nat) : Int)) ((W : Int) % ((V / 4294967296 : Nat) : Int)) (dig (W : Int) ((T / 4294967296 : Nat) : Int) (V : Int)) (rst (W : Int) ((T / 4294967296 : Nat) : Int) (V : Int))
    (rst (W : Int) ((T / 4294967296 : Nat) : Int) (V : Int) / ((V / 4294967296 : Nat) : Int)) (rst (W : Int) ((T / 4294967296 : Nat) : Int) (V : Int) % ((V / 4294967296 : Nat) : Int))
    (dig (rst (W : Int) ((T / 4294967296 : Nat) : Int) (V : Int)) ((T % 4294967296 : Nat) : Int) (V : Int)) (rst (rst (W : Int) ((T / 4294967296 : Nat) : Int) (V : Int)) ((T % 4294967296 : Nat) : Int) (V : Int)) w
    (by omega) (by omega) hd2 (by omega) (by omega) (by omega) (by omega) cz E1 (U.high V) (U.low V b2) E4 E5 (U.high T) (U.low T t2)
    (by omega) (by omega) (by omega) (by omega) (by omega) (by omega) (by omega) (by omega) (by omega) (by omega) (by omega) (by omega)
    rfl (by rw [Int.mul_comm]; omega) (Int.mul_nonneg (Int.ediv_nonneg (by omega) (by omega)) (by omega)) (by rw [Int.mul_comm]; omega) x2 x3 (Int.ediv_nonneg (by omega) (by omega))
    (word_rst _ _ _ _ _ H1 (by omega))
    rfl (by rw [Int.mul_comm]; omega) (Int.mul_nonneg (Int.ediv_nonneg r1 (by omega)) (by omega)) (by rw [Int.mul_comm]; omega) y2 y3 (Int.ediv_nonneg r1 (by omega))
    r1 r2 q1 q2 q3 q4 (word_rst _ _ _ _ _ H2 (by omega)) r3 r4 H1 H2 rfl rfl
  rw [hR, TD.1, TD.2] at c
  unfold quoN remN
  rw [Int.toNat_natCast, Int.natCast_ediv, Int.natCast_emod]
  exact c

end Go.Proofs.YteedbmmpkgpfhaaDoor
