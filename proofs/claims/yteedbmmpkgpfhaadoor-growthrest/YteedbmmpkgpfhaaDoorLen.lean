
/- What bits.Len64 and bits.LeadingZeros64 of Go's own library, as they were turned, answer for a number above 0: no statement of the seat is proved here. -/
import Derived.Test.YteedbmmpkgpfhaaDoorQuo2
import Derived.Lib.BitFns
namespace Go.Proofs.YteedbmmpkgpfhaaDoor
open Go.RowKit
set_option linter.unusedVariables false

theorem len8_spec : ∀ n : Fin 256, 1 ≤ n.val → ∃ l : Nat, Lib.len8 (n.val : Int) = (l : Int) ∧ 1 ≤ l ∧ l ≤ 8 ∧ 2 ^ (l - 1) ≤ n.val ∧ n.val < 2 ^ l := by
  intro n hn
  refine ⟨Lib.bitLen n.val, Lib.len8_eq n, ?_⟩
  have key : ∀ n : Fin 256, 1 ≤ n.val → 1 ≤ Lib.bitLen n.val ∧ Lib.bitLen n.val ≤ 8 ∧ 2 ^ (Lib.bitLen n.val - 1) ≤ n.val ∧ n.val < 2 ^ Lib.bitLen n.val := by decide +kernel
  exact key n hn

theorem len_close (x k i l : Nat) (h : x / 2 ^ k = i) (h1 : 2 ^ (l - 1) ≤ i) (h2 : i < 2 ^ l) (hl : 1 ≤ l) : 2 ^ (k + l - 1) ≤ x ∧ x < 2 ^ (k + l) := by
  have hk : 0 < 2 ^ k := Nat.two_pow_pos k
  have e1 : 2 ^ (k + l - 1) = 2 ^ k * 2 ^ (l - 1) := by rw [← Nat.pow_add]; congr 1; omega
  have e2 : 2 ^ (k + l) = 2 ^ k * 2 ^ l := Nat.pow_add 2 k l
  have d := Nat.div_add_mod x (2 ^ k)
  have m := Nat.mod_lt x hk
  rw [h] at d
  have k1 : 2 ^ k * 2 ^ (l - 1) ≤ 2 ^ k * i := Nat.mul_le_mul_left _ h1
  have k2 : 2 ^ k * (i + 1) ≤ 2 ^ k * 2 ^ l := Nat.mul_le_mul_left _ h2
  rw [Nat.mul_add, Nat.mul_one] at k2
  omega

/-- What a length is. -/
def IsLen (x : Int) (l : Nat) : Prop := 1 ≤ l ∧ l ≤ 64 ∧ 2 ^ (l - 1) ≤ x.toNat ∧ x.toNat < 2 ^ l

theorem isLen_of (x i : Int) (k K : Nat) (hK : 2 ^ k = K) (hk : k ≤ 56) (hx : 0 < x) (hi : i = x / (K : Int)) (h1 : 1 ≤ i) (h2 : i ≤ 255) : ∃ l : Nat, (k : Int) + Lib.len8 i = (l : Int) ∧ IsLen x l := by
  obtain ⟨l, e, l1, l2, l3, l4⟩ := len8_spec ⟨i.toNat, by omega⟩ (by show 1 ≤ i.toNat; omega)
  have e' : Lib.len8 i = (l : Int) := by rw [← e]; congr 1; show i = ((i.toNat : Nat) : Int); omega
  have hd : x.toNat / 2 ^ k = i.toNat := by
    rw [hK, hi]
    obtain ⟨X, rfl⟩ := Int.eq_ofNat_of_zero_le (Int.le_of_lt hx)
    rw [← Int.natCast_ediv, Int.toNat_natCast, Int.toNat_natCast]
  have c := len_close x.toNat k i.toNat l hd l3 l4 l1
  exact ⟨k + l, by rw [e']; omega, by omega, by omega, c.1, c.2⟩

set_option maxRecDepth 100000 in
set_option maxHeartbeats 1000000 in
theorem len64_000 (x : Int) (w : World) (h0 : 0 < x) (h1 : x ≤ 9223372036854775807) (hA : x < 4294967296) (hB : x < 65536) (hC : x < 256) (i0 : 0 ≤ x) (i1 : x ≤ 255) (j0 : 0 ≤ Lib.len8 (x)) (j1 : Lib.len8 (x) ≤ 8) :
    Calls Tryd.prog 64 #[.int .u64 x] w fun e w' => e = .returned (.int .i64 (Lib.len8 (x))) ∧ w' = w := by
  go_enter Tryd.func64, Tryd.ntmps64
  go_wp2
  go_ret
  exact ⟨rfl, rfl⟩

set_option maxRecDepth 100000 in
set_option maxHeartbeats 1000000 in
theorem len64_001 (x : Int) (w : World) (h0 : 0 < x) (h1 : x ≤ 9223372036854775807) (hA : x < 4294967296) (hB : x < 65536) (hC : 256 ≤ x) (i0 : 0 ≤ x / 256) (i1 : x / 256 ≤ 255) (j0 : 0 ≤ Lib.len8 (x / 256)) (j1 : Lib.len8 (x / 256) ≤ 8) :
    Calls Tryd.prog 64 #[.int .u64 x] w fun e w' => e = .returned (.int .i64 (8 + Lib.len8 (x / 256))) ∧ w' = w := by
  go_enter Tryd.func64, Tryd.ntmps64
  go_wp2
  go_ret
  exact ⟨rfl, rfl⟩

set_option maxRecDepth 100000 in
set_option maxHeartbeats 1000000 in
theorem len64_010 (x : Int) (w : World) (h0 : 0 < x) (h1 : x ≤ 9223372036854775807) (hA : x < 4294967296) (hB : 65536 ≤ x) (hC : x / 65536 < 256) (i0 : 0 ≤ x / 65536) (i1 : x / 65536 ≤ 255) (j0 : 0 ≤ Lib.len8 (x / 65536)) (j1 : Lib.len8 (x / 65536) ≤ 8) :
    Calls Tryd.prog 64 #[.int .u64 x] w fun e w' => e = .returned (.int .i64 (16 + Lib.len8 (x / 65536))) ∧ w' = w := by
  go_enter Tryd.func64, Tryd.ntmps64
  go_wp2
  go_ret
  exact ⟨rfl, rfl⟩

set_option maxRecDepth 100000 in
set_option maxHeartbeats 1000000 in
theorem len64_011 (x : Int) (w : World) (h0 : 0 < x) (h1 : x ≤ 9223372036854775807) (hA : x < 4294967296) (hB : 65536 ≤ x) (hC : 256 ≤ x / 65536) (i0 : 0 ≤ x / 65536 / 256) (i1 : x / 65536 / 256 ≤ 255) (j0 : 0 ≤ Lib.len8 (x / 65536 / 256)) (j1 : Lib.len8 (x / 65536 / 256) ≤ 8) :
    Calls Tryd.prog 64 #[.int .u64 x] w fun e w' => e = .returned (.int .i64 (24 + Lib.len8 (x / 65536 / 256))) ∧ w' = w := by
  go_enter Tryd.func64, Tryd.ntmps64
  go_wp2
  go_ret
  exact ⟨rfl, rfl⟩

set_option maxRecDepth 100000 in
set_option maxHeartbeats 1000000 in
theorem len64_100 (x : Int) (w : World) (h0 : 0 < x) (h1 : x ≤ 9223372036854775807) (hA : 4294967296 ≤ x) (hB : x / 4294967296 < 65536) (hC : x / 4294967296 < 256) (i0 : 0 ≤ x / 4294967296) (i1 : x / 4294967296 ≤ 255) (j0 : 0 ≤ Lib.len8 (x / 4294967296)) (j1 : Lib.len8 (x / 4294967296) ≤ 8) :
    Calls Tryd.prog 64 #[.int .u64 x] w fun e w' => e = .returned (.int .i64 (32 + Lib.len8 (x / 4294967296))) ∧ w' = w := by
  go_enter Tryd.func64, Tryd.ntmps64
  go_wp2
  go_ret
  exact ⟨rfl, rfl⟩

set_option maxRecDepth 100000 in
set_option maxHeartbeats 1000000 in
theorem len64_101 (x : Int) (w : World) (h0 : 0 < x) (h1 : x ≤ 9223372036854775807) (hA : 4294967296 ≤ x) (hB : x / 4294967296 < 65536) (hC : 256 ≤ x / 4294967296) (i0 : 0 ≤ x / 4294967296 / 256) (i1 : x / 4294967296 / 256 ≤ 255) (j0 : 0 ≤ Lib.len8 (x / 4294967296 / 256)) (j1 : Lib.len8 (x / 4294967296 / 256) ≤ 8) :
    Calls Tryd.prog 64 #[.int .u64 x] w fun e w' => e = .returned (.int .i64 (40 + Lib.len8 (x / 4294967296 / 256))) ∧ w' = w := by
  go_enter Tryd.func64, Tryd.ntmps64
  go_wp2
  go_ret
  exact ⟨rfl, rfl⟩

set_option maxRecDepth 100000 in
set_option maxHeartbeats 1000000 in
theorem len64_110 (x : Int) (w : World) (h0 : 0 < x) (h1 : x ≤ 9223372036854775807) (hA : 4294967296 ≤ x) (hB : 65536 ≤ x / 4294967296) (hC : x / 4294967296 / 65536 < 256) (i0 : 0 ≤ x / 4294967296 / 65536) (i1 : x / 4294967296 / 65536 ≤ 255) (j0 : 0 ≤ Lib.len8 (x / 4294967296 / 65536)) (j1 : Lib.len8 (x / 4294967296 / 65536) ≤ 8) :
    Calls Tryd.prog 64 #[.int .u64 x] w fun e w' => e = .returned (.int .i64 (48 + Lib.len8 (x / 4294967296 / 65536))) ∧ w' = w := by
  go_enter Tryd.func64, Tryd.ntmps64
  go_wp2
  go_ret
  exact ⟨rfl, rfl⟩

set_option maxRecDepth 100000 in
set_option maxHeartbeats 1000000 in
theorem len64_111 (x : Int) (w : World) (h0 : 0 < x) (h1 : x ≤ 9223372036854775807) (hA : 4294967296 ≤ x) (hB : 65536 ≤ x / 4294967296) (hC : 256 ≤ x / 4294967296 / 65536) (i0 : 0 ≤ x / 4294967296 / 65536 / 256) (i1 : x / 4294967296 / 65536 / 256 ≤ 255) (j0 : 0 ≤ Lib.len8 (x / 4294967296 / 65536 / 256)) (j1 : Lib.len8 (x / 4294967296 / 65536 / 256) ≤ 8) :
    Calls Tryd.prog 64 #[.int .u64 x] w fun e w' => e = .returned (.int .i64 (56 + Lib.len8 (x / 4294967296 / 65536 / 256))) ∧ w' = w := by
  go_enter Tryd.func64, Tryd.ntmps64
  go_wp2
  go_ret
  exact ⟨rfl, rfl⟩

theorem len8_le (i : Int) (h0 : 0 ≤ i) (h1 : i ≤ 255) : 0 ≤ Lib.len8 i ∧ Lib.len8 i ≤ 8 := by
  have := Lib.bitLen_le8' i h0 h1
  rw [Lib.len8_of i h0 h1]
  omega

theorem len64_any (x : Int) (w : World) (h0 : 0 < x) (h1 : x ≤ 9223372036854775807) :
    ∃ l : Nat, IsLen x l ∧ ∀ w, Calls Tryd.prog 64 #[.int .u64 x] w fun e w' => e = .returned (.int .i64 l) ∧ w' = w := by
  rcases Int.lt_or_le x 4294967296 with hA | hA
  · rcases Int.lt_or_le (x) 65536 with hB | hB
    · rcases Int.lt_or_le (x) 256 with hC | hC
      · obtain ⟨l, e, h⟩ := isLen_of x (x) 0 1 (by decide) (by omega) h0 (by omega) (by omega) (by omega)
        have j := len8_le (x) (by omega) (by omega)
        have e' : Lib.len8 (x) = (l : Int) := by rw [← e]; omega
        refine ⟨l, h, fun w => ?_⟩
        rw [← e']
        exact len64_000 x w h0 h1 hA hB hC (by omega) (by omega) j.1 j.2
      · obtain ⟨l, e, h⟩ := isLen_of x (x / 256) 8 256 (by decide) (by omega) h0 (by omega) (by omega) (by omega)
        have j := len8_le (x / 256) (by omega) (by omega)
        have e' : 8 + Lib.len8 (x / 256) = (l : Int) := by rw [← e]; omega
        refine ⟨l, h, fun w => ?_⟩
        rw [← e']
        exact len64_001 x w h0 h1 hA hB hC (by omega) (by omega) j.1 j.2
    · rcases Int.lt_or_le (x / 65536) 256 with hC | hC
      · obtain ⟨l, e, h⟩ := isLen_of x (x / 65536) 16 65536 (by decide) (by omega) h0 (by omega) (by omega) (by omega)
        have j := len8_le (x / 65536) (by omega) (by omega)
        have e' : 16 + Lib.len8 (x / 65536) = (l : Int) := by rw [← e]; omega
        refine ⟨l, h, fun w => ?_⟩
        rw [← e']
        exact len64_010 x w h0 h1 hA hB hC (by omega) (by omega) j.1 j.2
      · obtain ⟨l, e, h⟩ := isLen_of x (x / 65536 / 256) 24 16777216 (by decide) (by omega) h0 (by omega) (by omega) (by omega)
        have j := len8_le (x / 65536 / 256) (by omega) (by omega)
        have e' : 24 + Lib.len8 (x / 65536 / 256) = (l : Int) := by rw [← e]; omega
        refine ⟨l, h, fun w => ?_⟩
        rw [← e']
        exact len64_011 x w h0 h1 hA hB hC (by omega) (by omega) j.1 j.2
  · rcases Int.lt_or_le (x / 4294967296) 65536 with hB | hB
    · rcases Int.lt_or_le (x / 4294967296) 256 with hC | hC
      · obtain ⟨l, e, h⟩ := isLen_of x (x / 4294967296) 32 4294967296 (by decide) (by omega) h0 (by omega) (by omega) (by omega)
        have j := len8_le (x / 4294967296) (by omega) (by omega)
        have e' : 32 + Lib.len8 (x / 4294967296) = (l : Int) := by rw [← e]; omega
        refine ⟨l, h, fun w => ?_⟩
        rw [← e']
        exact len64_100 x w h0 h1 hA hB hC (by omega) (by omega) j.1 j.2
      · obtain ⟨l, e, h⟩ := isLen_of x (x / 4294967296 / 256) 40 1099511627776 (by decide) (by omega) h0 (by omega) (by omega) (by omega)
        have j := len8_le (x / 4294967296 / 256) (by omega) (by omega)
        have e' : 40 + Lib.len8 (x / 4294967296 / 256) = (l : Int) := by rw [← e]; omega
        refine ⟨l, h, fun w => ?_⟩
        rw [← e']
        exact len64_101 x w h0 h1 hA hB hC (by omega) (by omega) j.1 j.2
    · rcases Int.lt_or_le (x / 4294967296 / 65536) 256 with hC | hC
      · obtain ⟨l, e, h⟩ := isLen_of x (x / 4294967296 / 65536) 48 281474976710656 (by decide) (by omega) h0 (by omega) (by omega) (by omega)
        have j := len8_le (x / 4294967296 / 65536) (by omega) (by omega)
        have e' : 48 + Lib.len8 (x / 4294967296 / 65536) = (l : Int) := by rw [← e]; omega
        refine ⟨l, h, fun w => ?_⟩
        rw [← e']
        exact len64_110 x w h0 h1 hA hB hC (by omega) (by omega) j.1 j.2
      · obtain ⟨l, e, h⟩ := isLen_of x (x / 4294967296 / 65536 / 256) 56 72057594037927936 (by decide) (by omega) h0 (by omega) (by omega) (by omega)
        have j := len8_le (x / 4294967296 / 65536 / 256) (by omega) (by omega)
        have e' : 56 + Lib.len8 (x / 4294967296 / 65536 / 256) = (l : Int) := by rw [← e]; omega
        refine ⟨l, h, fun w => ?_⟩
        rw [← e']
        exact len64_111 x w h0 h1 hA hB hC (by omega) (by omega) j.1 j.2

theorem zeros_any (x : Int) (h0 : 0 < x) (h1 : x ≤ 9223372036854775807) :
    ∃ l : Nat, IsLen x l ∧ l ≤ 63 ∧ ∀ w, Calls Tryd.prog 54 #[.int .u64 x] w fun e w' => e = .returned (.int .i64 (64 - (l : Int))) ∧ w' = w := by
  obtain ⟨l, h, c⟩ := len64_any x default h0 h1
  have l63 : l ≤ 63 := by
    rcases Nat.lt_or_ge 63 l with k | k
    · have e : l = 64 := by have := h.2.1; omega
      have := h.2.2.1
      rw [e] at this
      omega
    · exact k
  refine ⟨l, h, l63, fun w => ?_⟩
  have HC : Hid (∀ w, Calls Tryd.prog 64 #[.int .u64 x] w fun e w' => e = .returned (.int .i64 l) ∧ w' = w) := c
  clear c
  go_enter Tryd.func54, Tryd.ntmps54
  go_wp2_with fail
  refine (HC.out _).mono ?_
  rintro e w1 ⟨rfl, rfl⟩
  go_wp2_with fail
  go_ret
  exact ⟨rfl, rfl⟩

end Go.Proofs.YteedbmmpkgpfhaaDoor
