/- What multiply and signed of the program do, as contracts: no statement of the seat is proved here. -/
import Derived.Test.YtpmgbagnaaahoabDoorFace
import Derived.Test.YtpmgbagnaaahoabDoorNum
namespace Go.Proofs.YtpmgbagnaaahoabDoor
open Go.RowKit
set_option linter.unusedVariables false

theorem magnitude_neg (a : Int) (w : World) (h1 : -9223372036854775808 ≤ a) (h2 : a < 0) :
    Calls Tryd.prog 78 #[.int .i64 a] w fun e w' => e = .returned (.int .u64 (-a)) ∧ w' = w := by
  have HE : Hid (-(a + 1) + 1 = -a) := by unfold Hid; omega
  go_enter Tryd.func78, Tryd.ntmps78
  go_wp2
  rw [HE.out]
  go_ret
  exact ⟨rfl, rfl⟩

theorem magnitude_nn (a : Int) (w : World) (h1 : 0 ≤ a) (h2 : a ≤ 9223372036854775807) :
    Calls Tryd.prog 78 #[.int .i64 a] w fun e w' => e = .returned (.int .u64 a) ∧ w' = w := by
  go_enter Tryd.func78, Tryd.ntmps78
  go_wp2
  go_ret
  exact ⟨rfl, rfl⟩

/-- An int64. -/
def I64 (a : Int) : Prop := -9223372036854775808 ≤ a ∧ a ≤ 9223372036854775807

theorem magnitude_any (a : Int) (w : World) (h : I64 a) :
    Calls Tryd.prog 78 #[.int .i64 a] w fun e w' => e = .returned (.int .u64 (mag a : Nat)) ∧ w' = w := by
  obtain ⟨h1, h2⟩ := h
  rcases Int.lt_or_le a 0 with ha | ha
  · rw [mag_neg a ha]; exact magnitude_neg a w h1 ha
  · rw [mag_nn a ha]; exact magnitude_nn a w ha h2

theorem mag_lt (a : Int) (h : I64 a) : mag a ≤ 9223372036854775808 := by
  obtain ⟨h1, h2⟩ := h
  unfold mag; omega

set_option maxHeartbeats 1000000 in
theorem mul64_any (x y : Nat) (hx : x < 18446744073709551616) (hy : y < 18446744073709551616) (w : World) :
    Calls Tryd.prog 77 #[.int .u64 x, .int .u64 y] w fun e w' => e = .returned (.tuple #[.int .u64 (hiW (x * y) : Nat), .int .u64 (loW (x * y) : Nat)]) ∧ w' = w := by
  unfold hiW loW
  obtain ⟨bd, bt, bw, hhi⟩ := Lib.mul64_hi x y hx hy
  have ba := Lib.half_mul_le (a := x / 4294967296) (b := y / 4294967296) (by omega) (by omega)
  have bb := Lib.half_mul_le (a := x / 4294967296) (b := y % 4294967296) (by omega) (by omega)
  have bc := Lib.half_mul_le (a := x % 4294967296) (b := y / 4294967296) (by omega) (by omega)
  have ba' : x / 4294967296 * (y / 4294967296) < 18446744073709551616 := by omega
  have bb' : x / 4294967296 * (y % 4294967296) < 18446744073709551616 := by omega
  have bc' : x % 4294967296 * (y / 4294967296) < 18446744073709551616 := by omega
  have bh1 : x / 4294967296 * (y / 4294967296) + (x / 4294967296 * (y % 4294967296) + x % 4294967296 * (y % 4294967296) / 4294967296) / 4294967296 < 18446744073709551616 := by omega
  have bh : x / 4294967296 * (y / 4294967296) + (x / 4294967296 * (y % 4294967296) + x % 4294967296 * (y % 4294967296) / 4294967296) / 4294967296 + ((x / 4294967296 * (y % 4294967296) + x % 4294967296 * (y % 4294967296) / 4294967296) % 4294967296 + x % 4294967296 * (y / 4294967296)) / 4294967296 < 18446744073709551616 := by omega
  go_enter Tryd.func77, Tryd.ntmps77
  go_wp2
  simp only [U.low x hx, U.low y hy, U.high, U.mul, U.add, U.wrapLt _ bd, U.wrapLt _ bb', U.wrapLt _ bt, U.low _ bt, U.wrapLt _ bc', U.wrapLt _ bw, U.wrapLt _ ba', U.wrapLt _ bh1, U.wrapLt _ bh, U.wrapMod (x * y)]
  rw [hhi]
  go_ret2
  exact ⟨rfl, rfl⟩

theorem multiply_any (a b : Int) (w : World) (ha : I64 a) (hb : I64 b) :
    Calls Tryd.prog 57 #[.int .i64 a, .int .i64 b] w fun e w' => e = .returned (.tuple #[.int .u64 (hiW (mag a * mag b) : Nat), .int .u64 (loW (mag a * mag b) : Nat), .bool (sgn a b)]) ∧ w' = w := by
  have h1 := mag_lt a ha
  have h2 := mag_lt b hb
  have HS : Hid ((!(decide (a < 0) == decide (b < 0))) = sgn a b) := rfl
  go_enter Tryd.func57, Tryd.ntmps57
  go_wp2_with fail
  refine (magnitude_any a _ ha).mono ?_
  rintro e w1 ⟨rfl, rfl⟩
  go_wp2_with fail
  refine (magnitude_any b _ hb).mono ?_
  rintro e w1 ⟨rfl, rfl⟩
  go_wp2_with fail
  refine (mul64_any (mag a) (mag b) (by omega) (by omega) _).mono ?_
  rintro e w1 ⟨rfl, rfl⟩
  go_wp2_with fail
  rw [HS.out]
  go_ret3
  exact ⟨rfl, rfl⟩

theorem signed_any (n : Int) (s : Bool) (w : World) (h : I64 n) (h0 : 0 ≤ n) :
    Calls Tryd.prog 59 #[.int .i64 n, .bool s] w fun e w' => e = .returned (.int .i64 (if s then -n else n)) ∧ w' = w := by
  obtain ⟨h1, h2⟩ := h
  cases s
  · go_enter Tryd.func59, Tryd.ntmps59
    go_wp2
    go_ret
    exact ⟨rfl, rfl⟩
  · go_enter Tryd.func59, Tryd.ntmps59
    go_wp2
    go_ret
    exact ⟨rfl, rfl⟩

theorem signed_false (n : Int) (w : World) (h0 : 0 ≤ n) (h1 : n ≤ 1000000000000000) :
    Calls Tryd.prog 59 #[.int .i64 n, .bool false] w fun e w' => e = .returned (.int .i64 n) ∧ w' = w := signed_any n false w ⟨by omega, by omega⟩ h0
theorem signed_true (n : Int) (w : World) (h0 : 0 ≤ n) (h1 : n ≤ 1000000000000000) :
    Calls Tryd.prog 59 #[.int .i64 n, .bool true] w fun e w' => e = .returned (.int .i64 (-n)) ∧ w' = w := signed_any n true w ⟨by omega, by omega⟩ h0

theorem multiply_hid (a b : Int) (ha : I64 a) (hb : I64 b) (s : Bool) (hs : sgn a b = s) :
    Hid (∀ w, Calls Tryd.prog 57 #[.int .i64 a, .int .i64 b] w fun e w' => e = .returned (.tuple #[.int .u64 (hiW (mag a * mag b) : Nat), .int .u64 (loW (mag a * mag b) : Nat), .bool s]) ∧ w' = w) := by
  subst hs
  exact fun w => multiply_any a b w ha hb

end Go.Proofs.YtpmgbagnaaahoabDoor
