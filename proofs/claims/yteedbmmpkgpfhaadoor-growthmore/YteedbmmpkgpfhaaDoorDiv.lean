
/- What bits.Div64 of Go's own library, as it was turned, answers: the quotient and the rest of two words by one: no statement of the seat is proved here. -/
import Derived.Test.YteedbmmpkgpfhaaDoorQuo2
import Derived.Test.YteedbmmpkgpfhaaDoorKnuth
namespace Go.Proofs.YteedbmmpkgpfhaaDoor
open Go.RowKit
set_option linter.unusedVariables false

theorem one_le_of_mul {a b c : Int} (h : 0 ≤ a) (k : c < a * b) (k0 : 0 ≤ c) : 1 ≤ a := by
  rcases Int.lt_or_le 0 a with h1 | h1
  · omega
  · have : a = 0 := by omega
    subst this
    rw [Int.zero_mul] at k
    omega

set_option maxRecDepth 100000 in
set_option maxHeartbeats 16000000 in
theorem div64_core (hi lo y s v v1 v0 u t t1 t0 qa ra Q1 U2 qb rb Q0 R : Int) (w : World) (a1 : 0 < hi) (a2 : hi < y) (a3 : y ≤ 9223372036854775807) (l0 : 0 ≤ lo) (l1 : lo ≤ 18446744073709551615) (s1 : 1 ≤ s) (s2 : s ≤ 63)
    (HL : Hid (∀ w, Calls Tryd.prog 54 #[.int .u64 y] w fun e w' => e = .returned (.int .i64 s) ∧ w' = w))
    (E1 : IntKind.u64.wrap (y * 2 ^ s.toNat) = v) (E2 : v / 4294967296 = v1) (E3 : bits .and .u64 v 4294967295 = v0)
    (E4 : bits .or .u64 (IntKind.u64.wrap (hi * 2 ^ s.toNat)) (lo / 2 ^ (64 - s).toNat) = u)
    (E5 : IntKind.u64.wrap (lo * 2 ^ s.toNat) = t) (E6 : t / 4294967296 = t1) (E7 : bits .and .u64 t 4294967295 = t0)
    (v11 : 2147483648 ≤ v1) (v12 : v1 < 4294967296) (v01 : 0 ≤ v0) (v02 : v0 < 4294967296) (vv1 : 9223372036854775808 ≤ v) (vv2 : v ≤ 18446744073709551615)
    (u1 : 0 ≤ u) (u2 : u < v) (t11 : 0 ≤ t1) (t12 : t1 < 4294967296) (t01 : 0 ≤ t0) (t02 : t0 < 4294967296)
    (E8 : u / v1 = qa) (E9 : u - qa * v1 = ra) (p1 : 0 ≤ qa * v1) (p2 : qa * v1 ≤ u) (ra1 : 0 ≤ ra) (ra2 : ra < v1) (qa1 : 0 ≤ qa)
    (F1 : IntKind.u64.wrap (IntKind.u64.wrap (IntKind.u64.wrap (u * 4294967296) + t1) - IntKind.u64.wrap (Q1 * v)) = U2)
    (F2 : U2 / v1 = qb) (F3 : U2 - qb * v1 = rb) (p3 : 0 ≤ qb * v1) (p4 : qb * v1 ≤ U2) (rb1 : 0 ≤ rb) (rb2 : rb < v1) (qb1 : 0 ≤ qb)
    (U21 : 0 ≤ U2) (U22 : U2 < v) (Q11 : 0 ≤ Q1) (Q12 : Q1 < 4294967296) (Q01 : 0 ≤ Q0) (Q02 : Q0 < 4294967296)
    (G1 : IntKind.u64.wrap (IntKind.u64.wrap (IntKind.u64.wrap (U2 * 4294967296) + t0) - IntKind.u64.wrap (Q0 * v)) = R) (R1 : 0 ≤ R) (R2 : R < v)
    (H1 : Digit u t1 v v1 v0) (H2 : Digit U2 t0 v v1 v0) (HQ1 : Hid (dig u t1 v = Q1)) (HQ0 : Hid (dig U2 t0 v = Q0)) :
    Calls Tryd.prog 46 #[.int .u64 hi, .int .u64 lo, .int .u64 y] w fun e w' => e = .returned (.tuple #[.int .u64 (Q1 * 4294967296 + Q0), .int .u64 (R / 2 ^ s.toNat)]) ∧ Ext w w' := by
  have HR : Hid (qa * v1 + ra = u) := by unfold Hid; omega
  have HR2 : Hid (qb * v1 + rb = U2) := by unfold Hid; omega
  go_enter Tryd.func46, Tryd.ntmps46
  go_wp2_with fail
  refine (HL.out _).mono ?_
  rintro e w1 ⟨rfl, rfl⟩
  go_wp2_with fail
  go_loop [15, 16] (fun q r => ∃ a b : Int, q = .int .u64 a ∧ r = .int .u64 b ∧ 0 ≤ a ∧ a ≤ 4294967297 ∧ a * v1 + b = u ∧ dig u t1 v ≤ a ∧ 0 ≤ b ∧ b < 4294967296) (fun _ r => (4294967296 - intOf r).toNat)
  case atStart => exact ⟨qa, ra, by first | rfl | rw [E8], rfl, qa1, dig_start_le H1 qa ra HR.out ra1, HR.out, dig_start H1 qa ra HR.out ra2, ra1, by omega⟩
  case round =>
    obtain ⟨a, b, rfl, rfl, g1, g2, g3, g4, g5, g6⟩ := hrel
    have G3 : Hid (a * v1 + b = u) := g3
    have G4 : Hid (dig u t1 v ≤ a) := g4
    clear g3 g4
    by_cases c1 : 4294967296 ≤ a
    · by_cases c2 : b + v1 < 4294967296
      · go_wp2
        go_round
        case rel => exact ⟨a - 1, b + v1, rfl, rfl, by omega, by omega, dig_step G3.out, dig_big H1 a c1, by omega, c2⟩
        case measure => simp [intOf]; omega
      · have eQ : a - 1 = Q1 := by rw [← HQ1.out]; exact dig_break H1 (a - 1) (b + v1) (dig_step G3.out) (dig_big H1 a c1) (by omega) (by omega)
        clear G3 G4
        go_wp2_with fail
        go_loop [18, 16] (fun q r => ∃ a b : Int, q = .int .u64 a ∧ r = .int .u64 b ∧ 0 ≤ a ∧ a ≤ 4294967297 ∧ a * v1 + b = U2 ∧ dig U2 t0 v ≤ a ∧ 0 ≤ b ∧ b < 4294967296) (fun _ r => (4294967296 - intOf r).toNat)
        case atStart => exact ⟨qb, rb, by first | rfl | rw [F2], rfl, qb1, dig_start_le H2 qb rb HR2.out rb1, HR2.out, dig_start H2 qb rb HR2.out rb2, rb1, by omega⟩
        case round =>
          obtain ⟨a, b, rfl, rfl, g1, g2, g3, g4, g5, g6⟩ := hrel
          have G3 : Hid (a * v1 + b = U2) := g3
          have G4 : Hid (dig U2 t0 v ≤ a) := g4
          clear g3 g4
          by_cases c1 : 4294967296 ≤ a
          · by_cases c2 : b + v1 < 4294967296
            · go_wp2
              go_round
              case rel => exact ⟨a - 1, b + v1, rfl, rfl, by omega, by omega, dig_step G3.out, dig_big H2 a c1, by omega, c2⟩
              case measure => simp [intOf]; omega
            · have eQ : a - 1 = Q0 := by rw [← HQ0.out]; exact dig_break H2 (a - 1) (b + v1) (dig_step G3.out) (dig_big H2 a c1) (by omega) (by omega)
              clear G3 G4
              go_wp2_with fail
              go_ret2
              exact ⟨rfl, Ext.refl _⟩
          · have m0 : 0 ≤ a * v0 := Int.mul_nonneg g1 v01
            have m1 : a * v0 ≤ 4294967295 * v0 := Int.mul_le_mul_of_nonneg_right (by omega) v01
            by_cases c3 : 4294967296 * b + t0 < a * v0
            · have g7 : 1 ≤ a := one_le_of_mul g1 c3 (by omega)
              by_cases c2 : b + v1 < 4294967296
              · go_wp2
                go_round
                case rel => exact ⟨a - 1, b + v1, rfl, rfl, by omega, by omega, dig_step G3.out, dig_less H2 a b G3.out c3, by omega, c2⟩
                case measure => simp [intOf]; omega
              · have eQ : a - 1 = Q0 := by rw [← HQ0.out]; exact dig_break H2 (a - 1) (b + v1) (dig_step G3.out) (dig_less H2 a b G3.out c3) (by omega) (by omega)
                clear G3 G4
                go_wp2_with fail
                go_ret2
                exact ⟨rfl, Ext.refl _⟩
            · have eQ : a = Q0 := by rw [← HQ0.out]; exact dig_done H2 a b G3.out G4.out (by omega)
              clear G3 G4
              subst eQ
              go_wp2_with fail
              go_ret2
              exact ⟨rfl, Ext.refl _⟩
    · have m0 : 0 ≤ a * v0 := Int.mul_nonneg g1 v01
      have m1 : a * v0 ≤ 4294967295 * v0 := Int.mul_le_mul_of_nonneg_right (by omega) v01
      by_cases c3 : 4294967296 * b + t1 < a * v0
      · have g7 : 1 ≤ a := one_le_of_mul g1 c3 (by omega)
        by_cases c2 : b + v1 < 4294967296
        · go_wp2
          go_round
          case rel => exact ⟨a - 1, b + v1, rfl, rfl, by omega, by omega, dig_step G3.out, dig_less H1 a b G3.out c3, by omega, c2⟩
          case measure => simp [intOf]; omega
        · have eQ : a - 1 = Q1 := by rw [← HQ1.out]; exact dig_break H1 (a - 1) (b + v1) (dig_step G3.out) (dig_less H1 a b G3.out c3) (by omega) (by omega)
          clear G3 G4
          go_wp2_with fail
          go_loop [18, 16] (fun q r => ∃ a b : Int, q = .int .u64 a ∧ r = .int .u64 b ∧ 0 ≤ a ∧ a ≤ 4294967297 ∧ a * v1 + b = U2 ∧ dig U2 t0 v ≤ a ∧ 0 ≤ b ∧ b < 4294967296) (fun _ r => (4294967296 - intOf r).toNat)
          case atStart => exact ⟨qb, rb, by first | rfl | rw [F2], rfl, qb1, dig_start_le H2 qb rb HR2.out rb1, HR2.out, dig_start H2 qb rb HR2.out rb2, rb1, by omega⟩
          case round =>
            obtain ⟨a, b, rfl, rfl, g1, g2, g3, g4, g5, g6⟩ := hrel
            have G3 : Hid (a * v1 + b = U2) := g3
            have G4 : Hid (dig U2 t0 v ≤ a) := g4
            clear g3 g4
            by_cases c1 : 4294967296 ≤ a
            · by_cases c2 : b + v1 < 4294967296
              · go_wp2
                go_round
                case rel => exact ⟨a - 1, b + v1, rfl, rfl, by omega, by omega, dig_step G3.out, dig_big H2 a c1, by omega, c2⟩
                case measure => simp [intOf]; omega
              · have eQ : a - 1 = Q0 := by rw [← HQ0.out]; exact dig_break H2 (a - 1) (b + v1) (dig_step G3.out) (dig_big H2 a c1) (by omega) (by omega)
                clear G3 G4
                go_wp2_with fail
                go_ret2
                exact ⟨rfl, Ext.refl _⟩
            · have m0 : 0 ≤ a * v0 := Int.mul_nonneg g1 v01
              have m1 : a * v0 ≤ 4294967295 * v0 := Int.mul_le_mul_of_nonneg_right (by omega) v01
              by_cases c3 : 4294967296 * b + t0 < a * v0
              · have g7 : 1 ≤ a := one_le_of_mul g1 c3 (by omega)
                by_cases c2 : b + v1 < 4294967296
                · go_wp2
                  go_round
                  case rel => exact ⟨a - 1, b + v1, rfl, rfl, by omega, by omega, dig_step G3.out, dig_less H2 a b G3.out c3, by omega, c2⟩
                  case measure => simp [intOf]; omega
                · have eQ : a - 1 = Q0 := by rw [← HQ0.out]; exact dig_break H2 (a - 1) (b + v1) (dig_step G3.out) (dig_less H2 a b G3.out c3) (by omega) (by omega)
                  clear G3 G4
                  go_wp2_with fail
                  go_ret2
                  exact ⟨rfl, Ext.refl _⟩
              · have eQ : a = Q0 := by rw [← HQ0.out]; exact dig_done H2 a b G3.out G4.out (by omega)
                clear G3 G4
                subst eQ
                go_wp2_with fail
                go_ret2
                exact ⟨rfl, Ext.refl _⟩
      · have eQ : a = Q1 := by rw [← HQ1.out]; exact dig_done H1 a b G3.out G4.out (by omega)
        clear G3 G4
        subst eQ
        go_wp2_with fail
        go_loop [18, 16] (fun q r => ∃ a b : Int, q = .int .u64 a ∧ r = .int .u64 b ∧ 0 ≤ a ∧ a ≤ 4294967297 ∧ a * v1 + b = U2 ∧ dig U2 t0 v ≤ a ∧ 0 ≤ b ∧ b < 4294967296) (fun _ r => (4294967296 - intOf r).toNat)
        case atStart => exact ⟨qb, rb, by first | rfl | rw [F2], rfl, qb1, dig_start_le H2 qb rb HR2.out rb1, HR2.out, dig_start H2 qb rb HR2.out rb2, rb1, by omega⟩
        case round =>
          obtain ⟨a, b, rfl, rfl, g1, g2, g3, g4, g5, g6⟩ := hrel
          have G3 : Hid (a * v1 + b = U2) := g3
          have G4 : Hid (dig U2 t0 v ≤ a) := g4
          clear g3 g4
          by_cases c1 : 4294967296 ≤ a
          · by_cases c2 : b + v1 < 4294967296
            · go_wp2
              go_round
              case rel => exact ⟨a - 1, b + v1, rfl, rfl, by omega, by omega, dig_step G3.out, dig_big H2 a c1, by omega, c2⟩
              case measure => simp [intOf]; omega
            · have eQ : a - 1 = Q0 := by rw [← HQ0.out]; exact dig_break H2 (a - 1) (b + v1) (dig_step G3.out) (dig_big H2 a c1) (by omega) (by omega)
              clear G3 G4
              go_wp2_with fail
              go_ret2
              exact ⟨rfl, Ext.refl _⟩
          · have m0 : 0 ≤ a * v0 := Int.mul_nonneg g1 v01
            have m1 : a * v0 ≤ 4294967295 * v0 := Int.mul_le_mul_of_nonneg_right (by omega) v01
            by_cases c3 : 4294967296 * b + t0 < a * v0
            · have g7 : 1 ≤ a := one_le_of_mul g1 c3 (by omega)
              by_cases c2 : b + v1 < 4294967296
              · go_wp2
                go_round
                case rel => exact ⟨a - 1, b + v1, rfl, rfl, by omega, by omega, dig_step G3.out, dig_less H2 a b G3.out c3, by omega, c2⟩
                case measure => simp [intOf]; omega
              · have eQ : a - 1 = Q0 := by rw [← HQ0.out]; exact dig_break H2 (a - 1) (b + v1) (dig_step G3.out) (dig_less H2 a b G3.out c3) (by omega) (by omega)
                clear G3 G4
                go_wp2_with fail
                go_ret2
                exact ⟨rfl, Ext.refl _⟩
            · have eQ : a = Q0 := by rw [← HQ0.out]; exact dig_done H2 a b G3.out G4.out (by omega)
              clear G3 G4
              subst eQ
              go_wp2_with fail
              go_ret2
              exact ⟨rfl, Ext.refl _⟩

end Go.Proofs.YteedbmmpkgpfhaaDoor
