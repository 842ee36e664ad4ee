
/- What multiply, signed, goesUp and quotient of the program do, as contracts: no statement of the seat is proved here. -/
import Derived.Test.YteedbmmpkgpfhaaDoorFace
import Derived.Test.YteedbmmpkgpfhaaDoorNum
namespace Go.Proofs.YteedbmmpkgpfhaaDoor
open Go.RowKit
set_option linter.unusedVariables false

theorem magnitude_neg (a : Int) (w : World) (h1 : -9223372036854775808 ≤ a) (h2 : a < 0) :
    Calls Tryd.prog 65 #[.int .i64 a] w fun e w' => e = .returned (.int .u64 (-a)) ∧ w' = w := by
  have HE : Hid (-(a + 1) + 1 = -a) := by unfold Hid; omega
  go_enter Tryd.func65, Tryd.ntmps65
  go_wp2
  rw [HE.out]
  go_ret
  exact ⟨rfl, rfl⟩

theorem magnitude_nn (a : Int) (w : World) (h1 : 0 ≤ a) (h2 : a ≤ 9223372036854775807) :
    Calls Tryd.prog 65 #[.int .i64 a] w fun e w' => e = .returned (.int .u64 a) ∧ w' = w := by
  go_enter Tryd.func65, Tryd.ntmps65
  go_wp2
  go_ret
  exact ⟨rfl, rfl⟩

/-- An int64. -/
def I64 (a : Int) : Prop := -9223372036854775808 ≤ a ∧ a ≤ 9223372036854775807

theorem magnitude_any (a : Int) (w : World) (h : I64 a) :
    Calls Tryd.prog 65 #[.int .i64 a] w fun e w' => e = .returned (.int .u64 (mag a : Nat)) ∧ w' = w := by
  obtain ⟨h1, h2⟩ := h
  rcases Int.lt_or_le a 0 with ha | ha
  · rw [mag_neg a ha]; exact magnitude_neg a w h1 ha
  · rw [mag_nn a ha]; exact magnitude_nn a w ha h2

theorem mag_lt (a : Int) (h : I64 a) : mag a ≤ 9223372036854775808 := by
  obtain ⟨h1, h2⟩ := h
  unfold mag; omega

set_option maxHeartbeats 1000000 in
theorem mul64_any (x y : Nat) (hx : x < 18446744073709551616) (hy : y < 18446744073709551616) (w : World) :
    Calls Tryd.prog 45 #[.int .u64 x, .int .u64 y] w fun e w' => e = .returned (.tuple #[.int .u64 (hiW (x * y) : Nat), .int .u64 (loW (x * y) : Nat)]) ∧ w' = w := by
  unfold hiW loW
  obtain ⟨bd, bt, bw, hhi⟩ := Lib.mul64_hi x y hx hy
  have ba := Lib.half_mul_le (a := x / 4294967296) (b := y / 4294967296) (by omega) (by omega)
  have bb := Lib.half_mul_le (a := x / 4294967296) (b := y % 4294967296) (by omega) (by omega)
  have bc := Lib.half_mul_le (a := x % 4294967296) (b := y / 4294967296) (by omega) (by omega)
  have ba' : x / 4294967296 * (y / 4294967296) < 18446744073709551616 := by omega
  have bb' : x / 4294967296 * (y % 4294967296) < 18446744073709551616 := by omega
  have bc' : x % 4294967296 * (y / 4294967296) < 18446744073709551616 := by omega
  have bh1 : x / 4294967296 * (y / 4294967296) + (x / 4294967296 * (y % 4294967296) + x % 4294967296 * (y % 4294967296) / 4294967296) / 4294967296 < 18446744073709551616 := by omega
  have bh : x / 4294967296 * (y / 4294967296) + (x / 4294967296 * (y % 4294967296) + x % 4294967296 * (y % 4294967296) / 4294967296) / 4294967296 + ((x / 4294967296 * (y % 4294967296) + x % 4294967296 * (y % 4294967296) / 4294967296) % 4294967296 + x % 4294967296 * (y / 4294967296)) / 4294967296 < 18446744073709551616 := by omega
  go_enter Tryd.func45, Tryd.ntmps45
  go_wp2
  simp only [U.low x hx, U.low y hy, U.high, U.mul, U.add, U.wrapLt _ bd, U.wrapLt _ bb', U.wrapLt _ bt, U.low _ bt, U.wrapLt _ bc', U.wrapLt _ bw, U.wrapLt _ ba', U.wrapLt _ bh1, U.wrapLt _ bh, U.wrapMod (x * y)]
  rw [hhi]
  go_ret2
  exact ⟨rfl, rfl⟩

theorem multiply_any (a b : Int) (w : World) (ha : I64 a) (hb : I64 b) :
    Calls Tryd.prog 55 #[.int .i64 a, .int .i64 b] w fun e w' => e = .returned (.tuple #[.int .u64 (hiW (mag a * mag b) : Nat), .int .u64 (loW (mag a * mag b) : Nat), .bool (sgn a b)]) ∧ w' = w := by
  have h1 := mag_lt a ha
  have h2 := mag_lt b hb
  have HS : Hid ((!(decide (a < 0) == decide (b < 0))) = sgn a b) := rfl
  go_enter Tryd.func55, Tryd.ntmps55
  go_wp2_with fail
  refine (magnitude_any a _ ha).mono ?_
  rintro e w1 ⟨rfl, rfl⟩
  go_wp2_with fail
  refine (magnitude_any b _ hb).mono ?_
  rintro e w1 ⟨rfl, rfl⟩
  go_wp2_with fail
  refine (mul64_any (mag a) (mag b) (by omega) (by omega) _).mono ?_
  rintro e w1 ⟨rfl, rfl⟩
  go_wp2_with fail
  rw [HS.out]
  go_ret3
  exact ⟨rfl, rfl⟩

theorem signed_any (n : Int) (s : Bool) (w : World) (h : I64 n) (h0 : 0 ≤ n) :
    Calls Tryd.prog 56 #[.int .i64 n, .bool s] w fun e w' => e = .returned (.int .i64 (if s then -n else n)) ∧ w' = w := by
  obtain ⟨h1, h2⟩ := h
  cases s
  · go_enter Tryd.func56, Tryd.ntmps56
    go_wp2
    go_ret
    exact ⟨rfl, rfl⟩
  · go_enter Tryd.func56, Tryd.ntmps56
    go_wp2
    go_ret
    exact ⟨rfl, rfl⟩

theorem tmod2 (f : Int) : (f.tmod 2 != 0) = decide (f % 2 ≠ 0) := by
  have h : f.tmod 2 = 0 ↔ f % 2 = 0 := by rw [← Int.dvd_iff_emod_eq_zero, ← Int.dvd_iff_tmod_eq_zero]
  rw [Bool.eq_iff_iff]; simp [h]

theorem goesUp_1 (f r d : Int) (w : World) (hr : 0 ≤ r) (hrd : r ≤ d) (hd : d ≤ 9223372036854775807) :
    Calls Tryd.prog 57 #[.agg #[.int .i64 1], .int .i64 f, .int .i64 r, .int .i64 d] w fun e w' => e = .returned (.bool (upB 1 f r d)) ∧ Ext w w' := by
  have HF : Hid (upB 1 f r d = decide (d - r ≤ r)) := by unfold Hid; simp [upB]
  go_enter Tryd.func57, Tryd.ntmps57
  go_wp2
  go_ret
  exact ⟨by rw [HF.out]; rfl, (Ext.refl _).alloc _ _⟩

theorem goesUp_3 (f r d : Int) (w : World) (hr : 0 ≤ r) (hrd : r ≤ d) (hd : d ≤ 9223372036854775807) :
    Calls Tryd.prog 57 #[.agg #[.int .i64 3], .int .i64 f, .int .i64 r, .int .i64 d] w fun e w' => e = .returned (.bool (upB 3 f r d)) ∧ Ext w w' := by
  have HF : Hid (upB 3 f r d = false) := by unfold Hid; simp [upB]
  go_enter Tryd.func57, Tryd.ntmps57
  go_wp2
  go_ret
  exact ⟨by rw [HF.out]; rfl, (Ext.refl _).alloc _ _⟩

theorem goesUp_2a (f r d : Int) (w : World) (hr : 0 ≤ r) (hrd : r ≤ d) (hd : d ≤ 9223372036854775807) (h1 : d - r < r) :
    Calls Tryd.prog 57 #[.agg #[.int .i64 2], .int .i64 f, .int .i64 r, .int .i64 d] w fun e w' => e = .returned (.bool (upB 2 f r d)) ∧ Ext w w' := by
  have HF : Hid (upB 2 f r d = true) := by unfold Hid; simp [upB, h1]
  go_enter Tryd.func57, Tryd.ntmps57
  go_wp2
  go_ret
  exact ⟨by rw [HF.out]; rfl, (Ext.refl _).alloc _ _⟩

theorem goesUp_2b (f r d : Int) (w : World) (hr : 0 ≤ r) (hrd : r ≤ d) (hd : d ≤ 9223372036854775807) (h1 : ¬ d - r < r) (hb : (r == d - r) = false) :
    Calls Tryd.prog 57 #[.agg #[.int .i64 2], .int .i64 f, .int .i64 r, .int .i64 d] w fun e w' => e = .returned (.bool (upB 2 f r d)) ∧ Ext w w' := by
  have HF : Hid (upB 2 f r d = false) := by unfold Hid; have hb2 : ¬ r = d - r := (by simpa using hb); simp [upB, hb2]; omega
  go_enter Tryd.func57, Tryd.ntmps57
  go_wp2
  go_ret
  exact ⟨by rw [HF.out]; rfl, (Ext.refl _).alloc _ _⟩

theorem goesUp_2c (f r d : Int) (w : World) (hr : 0 ≤ r) (hrd : r ≤ d) (hd : d ≤ 9223372036854775807) (h1 : ¬ d - r < r) (hb : (r == d - r) = true) :
    Calls Tryd.prog 57 #[.agg #[.int .i64 2], .int .i64 f, .int .i64 r, .int .i64 d] w fun e w' => e = .returned (.bool (upB 2 f r d)) ∧ Ext w w' := by
  have HF : Hid (upB 2 f r d = (f.tmod 2 != 0)) := by unfold Hid; have hb2 : r = d - r := (by simpa using hb); have h3 : decide (d - r < r) = false := (by simpa using h1); have h4 : decide (r = d - r) = true := (by simpa using hb2); rw [tmod2]; simp only [upB, h3, h4]; simp
  go_enter Tryd.func57, Tryd.ntmps57
  go_wp2
  go_ret
  exact ⟨by rw [HF.out]; rfl, (Ext.refl _).alloc _ _⟩

theorem goesUp_any (m f r d : Int) (w : World) (hm : m = 1 ∨ m = 2 ∨ m = 3) (hr : 0 ≤ r) (hrd : r ≤ d) (hd : d ≤ 9223372036854775807) :
    Calls Tryd.prog 57 #[.agg #[.int .i64 m], .int .i64 f, .int .i64 r, .int .i64 d] w fun e w' => e = .returned (.bool (upB m f r d)) ∧ Ext w w' := by
  rcases hm with rfl | rfl | rfl
  · exact goesUp_1 f r d w hr hrd hd
  · by_cases h1 : d - r < r
    · exact goesUp_2a f r d w hr hrd hd h1
    · cases hb : (r == d - r)
      · exact goesUp_2b f r d w hr hrd hd h1 hb
      · exact goesUp_2c f r d w hr hrd hd h1 hb
  · exact goesUp_3 f r d w hr hrd hd

end Go.Proofs.YteedbmmpkgpfhaaDoor
