/- What size and limbs of the document's answers for layer 1 do: a number without its sign; a product in four parts of 32 bits: no statement of the seat is proved here. -/
import Derived.Test.YtpmgbagnaaahoaaQuo2
import Derived.LoopN
import Derived.Deep.QuietTactic
import Derived.BigQuiet
namespace Go.Proofs.Ytpmgbagnaaahoaa
open Go.RowKit
set_option linter.unusedVariables false

@[go_sem] theorem setCell_drewN (w : World) (n : Nat) (a : Addr) (v : Value) : (w.drewN n).setCell a v = (w.setCell a v).drewN n := rfl
@[go_sem] theorem alloc_drewN (w : World) (n : Nat) (o : Obj) : (w.drewN n).alloc o = (w.alloc o).drewN n := rfl
theorem Ext.drewN {w w' : World} (h : Ext w w') (n : Nat) : Ext w (w'.drewN n) := ⟨⟨h.below.os, h.below.tape, h.below.output, h.below.size, h.below.block⟩, h.froz⟩

set_option maxRecDepth 100000 in
set_option maxHeartbeats 4000000 in
theorem limbs_core (a b x0 x1 y0 y1 l0 c0 l1 c1 m1 c2 m2 c3 : Int) (w : World)
    (X0 : bits .and .u64 a 4294967295 = x0) (X1 : a / 4294967296 = x1) (Y0 : bits .and .u64 b 4294967295 = y0) (Y1 : b / 4294967296 = y1)
    (P1 : bits .and .u64 (x0 * y0) 4294967295 = l0) (P2 : x0 * y0 / 4294967296 = c0)
    (P3 : bits .and .u64 (x0 * y1 + c0) 4294967295 = l1) (P4 : (x0 * y1 + c0) / 4294967296 = c1)
    (P5 : bits .and .u64 (l1 + x1 * y0) 4294967295 = m1) (P6 : (l1 + x1 * y0) / 4294967296 = c2)
    (P7 : bits .and .u64 (c1 + x1 * y1 + c2) 4294967295 = m2) (P8 : (c1 + x1 * y1 + c2) / 4294967296 = c3)
    (a0 : 0 ≤ a) (a1 : a ≤ 18446744073709551615) (b0 : 0 ≤ b) (b1 : b ≤ 18446744073709551615)
    (z1 : 0 ≤ x0 * y0) (z2 : x0 * y0 ≤ 18446744065119617025) (z3 : 0 ≤ x0 * y1) (z4 : x0 * y1 ≤ 18446744065119617025) (z5 : 0 ≤ x1 * y0) (z6 : x1 * y0 ≤ 18446744065119617025) (z7 : 0 ≤ x1 * y1) (z8 : x1 * y1 ≤ 18446744065119617025)
    (k0 : 0 ≤ c0) (k1 : c0 ≤ 4294967295) (k2 : 0 ≤ c1) (k3 : c1 ≤ 4294967295) (k4 : 0 ≤ c2) (k5 : c2 ≤ 4294967295) (k6 : 0 ≤ l1) (k7 : l1 ≤ 4294967295) :
    Calls Try.prog 33 #[.int .u64 a, .int .u64 b] w fun e w' => e = .returned (.agg #[.int .u64 l0, .int .u64 m1, .int .u64 m2, .int .u64 c3]) ∧ Ext w w' := by
  go_enter Try.func33, Try.ntmps33
  go_wp2
  refine wp_loop_rounds 3 ?_
  rw [rounds_succ]
  go_wp2
  refine wp_loop_rounds 3 ?_
  rw [rounds_succ]
  go_wp2
  go_quiet (fail)
  go_wp2
  rw [rounds_succ]
  go_wp2
  go_quiet (fail)
  go_wp2
  rw [rounds_succ]
  go_wp2
  rw [rounds_succ]
  go_wp2
  refine wp_loop_rounds 3 ?_
  rw [rounds_succ]
  go_wp2
  go_quiet (fail)
  go_wp2
  rw [rounds_succ]
  go_wp2
  go_quiet (fail)
  go_wp2
  rw [rounds_succ]
  go_wp2
  rw [rounds_succ]
  go_wp2
  exact bodyPost_ret (v := .agg #[.int .u64 l0, .int .u64 m1, .int .u64 m2, .int .u64 c3]) (by simp [results, Try.results33, go_sem]) rfl ⟨rfl, Ext.drewN (by repeat (first | exact Ext.refl _ | apply Ext.alloc)) _⟩

/-- The j-th part of 32 bits, the lowest first. -/
def limb (n j : Nat) : Nat := n / 2 ^ (32 * j) % 4294967296

theorem limb_parts (n l0 m1 m2 c3 : Nat) (h0 : l0 < 4294967296) (h1 : m1 < 4294967296) (h2 : m2 < 4294967296) (h3 : c3 < 4294967296)
    (h : n = l0 + m1 * 4294967296 + m2 * 18446744073709551616 + c3 * 79228162514264337593543950336) : limb n 0 = l0 ∧ limb n 1 = m1 ∧ limb n 2 = m2 ∧ limb n 3 = c3 := by
  have e0 : limb n 0 = n % 4294967296 := by simp [limb]
  have e1 : limb n 1 = n / 4294967296 % 4294967296 := by simp [limb]
  have e2 : limb n 2 = n / 18446744073709551616 % 4294967296 := by simp [limb]
  have e3 : limb n 3 = n / 79228162514264337593543950336 % 4294967296 := by simp [limb]
  rw [e0, e1, e2, e3]
  omega

theorem limbs_any (a b : Nat) (w : World) (ha : a < 18446744073709551616) (hb : b < 18446744073709551616) :
    Calls Try.prog 33 #[.int .u64 a, .int .u64 b] w fun e w' => e = .returned (.agg #[.int .u64 (limb (a * b) 0 : Nat), .int .u64 (limb (a * b) 1 : Nat), .int .u64 (limb (a * b) 2 : Nat), .int .u64 (limb (a * b) 3 : Nat)]) ∧ Ext w w' := by
  have e : a * b = (a / 4294967296) * (b / 4294967296) * (4294967296 * 4294967296) + ((a / 4294967296) * (b % 4294967296) + (a % 4294967296) * (b / 4294967296)) * 4294967296 + (a % 4294967296) * (b % 4294967296) := by
    rw [← Lib.split_mul, Nat.div_add_mod' a 4294967296, Nat.div_add_mod' b 4294967296]
  have hA := Lib.half_mul_le (a := a % 4294967296) (b := b % 4294967296) (by omega) (by omega)
  have hB := Lib.half_mul_le (a := a % 4294967296) (b := b / 4294967296) (by omega) (by omega)
  have hC := Lib.half_mul_le (a := a / 4294967296) (b := b % 4294967296) (by omega) (by omega)
  have hD := Lib.half_mul_le (a := a / 4294967296) (b := b / 4294967296) (by omega) (by omega)
  have hN : a * b < 18446744073709551616 * 18446744073709551616 := Nat.mul_lt_mul'' ha hb
  have c := limbs_core (a : Int) (b : Int) ((a % 4294967296 : Nat) : Int) ((a / 4294967296 : Nat) : Int) ((b % 4294967296 : Nat) : Int) ((b / 4294967296 : Nat) : Int)
    (((a % 4294967296) * (b % 4294967296) % 4294967296 : Nat) : Int) (((a % 4294967296) * (b % 4294967296) / 4294967296 : Nat) : Int)
    ((((a % 4294967296) * (b / 4294967296) + (a % 4294967296) * (b % 4294967296) / 4294967296) % 4294967296 : Nat) : Int) ((((a % 4294967296) * (b / 4294967296) + (a % 4294967296) * (b % 4294967296) / 4294967296) / 4294967296 : Nat) : Int)
    (((((a % 4294967296) * (b / 4294967296) + (a % 4294967296) * (b % 4294967296) / 4294967296) % 4294967296 + (a / 4294967296) * (b % 4294967296)) % 4294967296 : Nat) : Int)
    (((((a % 4294967296) * (b / 4294967296) + (a % 4294967296) * (b % 4294967296) / 4294967296) % 4294967296 + (a / 4294967296) * (b % 4294967296)) / 4294967296 : Nat) : Int)
    (((((a % 4294967296) * (b / 4294967296) + (a % 4294967296) * (b % 4294967296) / 4294967296) / 4294967296 + (a / 4294967296) * (b / 4294967296) + (((a % 4294967296) * (b / 4294967296) + (a % 4294967296) * (b % 4294967296) / 4294967296) % 4294967296 + (a / 4294967296) * (b % 4294967296)) / 4294967296) % 4294967296 : Nat) : Int)
    (((((a % 4294967296) * (b / 4294967296) + (a % 4294967296) * (b % 4294967296) / 4294967296) / 4294967296 + (a / 4294967296) * (b / 4294967296) + (((a % 4294967296) * (b / 4294967296) + (a % 4294967296) * (b % 4294967296) / 4294967296) % 4294967296 + (a / 4294967296) * (b % 4294967296)) / 4294967296) / 4294967296 : Nat) : Int) w
    (U.low a ha) (U.high a) (U.low b hb) (U.high b)
    (by rw [U.mul]; exact U.low _ (by omega)) (by rw [U.mul]; exact U.high _)
    (by rw [U.mul, U.add]; exact U.low _ (by omega)) (by rw [U.mul, U.add]; exact U.high _)
    (by rw [U.mul, U.add]; exact U.low _ (by omega)) (by rw [U.mul, U.add]; exact U.high _)
    (by rw [U.mul, U.add, U.add]; exact U.low _ (by omega)) (by rw [U.mul, U.add, U.add]; exact U.high _)
    (by omega) (by omega) (by omega) (by omega)
    (by rw [U.mul]; omega) (by rw [U.mul]; omega) (by rw [U.mul]; omega) (by rw [U.mul]; omega) (by rw [U.mul]; omega) (by rw [U.mul]; omega) (by rw [U.mul]; omega) (by rw [U.mul]; omega)
    (by omega) (by omega) (by omega) (by omega) (by omega) (by omega) (by omega) (by omega)
  generalize (a / 4294967296) * (b / 4294967296) = pd at *
  generalize (a / 4294967296) * (b % 4294967296) = pc at *
  generalize (a % 4294967296) * (b / 4294967296) = pb at *
  generalize (a % 4294967296) * (b % 4294967296) = pa at *
  obtain ⟨q0, q1, q2, q3⟩ := limb_parts (a * b) (pa % 4294967296) (((pb + pa / 4294967296) % 4294967296 + pc) % 4294967296)
    (((pb + pa / 4294967296) / 4294967296 + pd + ((pb + pa / 4294967296) % 4294967296 + pc) / 4294967296) % 4294967296) (((pb + pa / 4294967296) / 4294967296 + pd + ((pb + pa / 4294967296) % 4294967296 + pc) / 4294967296) / 4294967296)
    (by omega) (by omega) (by omega) (by omega) (by omega)
  rw [q0, q1, q2, q3]
  exact c

end Go.Proofs.Ytpmgbagnaaahoaa
