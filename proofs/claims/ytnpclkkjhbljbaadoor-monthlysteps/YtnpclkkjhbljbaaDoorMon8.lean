/- Two rows of numbers held against each other (Same, Plain), as contracts: no statement of the seat is proved here. -/
import Derived.Test.YtnpclkkjhbljbaaDoorMon7
namespace Go.Proofs.YtnpclkkjhbljbaaDoor
open Go.RowKit
set_option linter.unusedVariables false

theorem one_c (x y : Int) (w : World) :
    Calls Tryd.prog 20 #[.int .i64 x, .int .i64 y] w fun e w' => e = .returned (.bool (decide (x = y))) ∧ w' = w := by
  go_enter Tryd.func20, Tryd.ntmps20
  go_wp2
  go_ret
  exact ⟨rfl, rfl⟩
theorem one_t (x : Int) (w : World) :
    Calls Tryd.prog 20 #[.int .i64 x, .int .i64 x] w fun e w' => e = .returned (.bool true) ∧ w' = w := by
  have := one_c x x w
  rwa [decide_eq_true rfl] at this
theorem Same_nil (w : World) :
    Calls Tryd.prog 19 #[.slice none 0 0, .slice none 0 0, .func (.func 20) #[] #[]] w fun e w' => e = .returned (.bool true) ∧ w' = w := by
  go_enter Tryd.func19, Tryd.ntmps19
  go_wp2_with fail
  refine wp_loop_rounds 1 ?_
  rw [rounds_succ]
  go_wp2
  go_ret
  exact ⟨rfl, rfl⟩
theorem Same_t (g h T c d : Nat) (f : Nat → Int) (w : World) (hT : T ≤ 1000000) (a : Arr w g T f) (b : Arr w h T f) :
    Calls Tryd.prog 19 #[.slice (some ⟨g, 0, none⟩) T c, .slice (some ⟨h, 0, none⟩) T d, .func (.func 20) #[] #[]] w fun e w' => e = .returned (.bool true) ∧ Ext w w' := by
  replace a := show Hid _ from a
  replace b := show Hid _ from b
  go_enter Tryd.func19, Tryd.ntmps19
  go_wp2_with fail
  go_loopw [7] (fun i wr => ∃ k : Nat, k ≤ T ∧ i = .int .i64 k ∧ Hid (Ext w wr)) (fun i _ => T - (intOf i).toNat)
  case atStart => exact ⟨0, Nat.zero_le _, rfl, Ext.refl w⟩
  case round =>
    obtain ⟨k, hk, rfl, hx⟩ := hrel
    by_cases hlt : k < T
    · have k0 := hx.out.cell_of (a.out.cell k hlt)
      have k1 := hx.out.cell_of (b.out.cell k hlt)
      generalize f k = V at *
      have hlt' : (k : Int) < (T : Int) := by omega
      have j0 := Late.cell k0; have j1 := Late.cell k1
      have hNe1 : Nonempty (Late wr) := ⟨⟨_, Ext.refl _⟩⟩
      go_wp2_with fail
      refine wp_region_late (by kernel_rfl) (by kernel_rfl) ?_
      repeat (go_big_quiet_step ((first
        | (go_at_call 20; exact late_same (one_t _ _)))))
      refine wpQuiet_nil ?_
      intro W1 hw'
      replace hx : Hid (Ext w W1) := hx.out.trans (late_ext hw')
      clear hw' j0 j1 k0 k1
      go_wp2
      go_roundw
      case rel => exact ⟨k + 1, by omega, by go_num, hx⟩
      case measure => simp [intOf]; omega
    · obtain rfl : k = T := by omega
      go_wp2
      go_ret
      exact ⟨rfl, hx.out⟩
theorem Plain_nil (w : World) :
    Calls Tryd.prog 12 #[.slice none 0 0, .slice none 0 0] w fun e w' => e = .returned (.bool true) ∧ w' = w := by
  go_enter Tryd.func12, Tryd.ntmps12
  go_wp2_with (go_at_call 19; refine (Same_nil _).mono ?_; rintro e w' ⟨rfl, rfl⟩)
  go_ret
  exact ⟨rfl, rfl⟩
theorem Plain_t (g h T c d : Nat) (f : Nat → Int) (w : World) (hT : T ≤ 1000000) (a : Arr w g T f) (b : Arr w h T f) :
    Calls Tryd.prog 12 #[.slice (some ⟨g, 0, none⟩) T c, .slice (some ⟨h, 0, none⟩) T d] w fun e w' => e = .returned (.bool true) ∧ Ext w w' := by
  replace a := show Hid _ from a
  replace b := show Hid _ from b
  go_enter Tryd.func12, Tryd.ntmps12
  go_wp2_with fail
  refine (Same_t g h T c d f _ hT a.out b.out).mono ?_
  rintro e w1 ⟨rfl, hx⟩
  replace hx := show Hid _ from hx
  go_wp2
  go_ret
  exact ⟨rfl, hx.out⟩
end Go.Proofs.YtnpclkkjhbljbaaDoor
