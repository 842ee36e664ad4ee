/- What awake of the statements' package answers (true), and the division of numbers of one word: no statement of the seat is proved here. -/
import Derived.Test.YtpmgbagnaaahoabQuo2
namespace Go.Proofs.Ytpmgbagnaaahoab
open Go.RowKit
set_option linter.unusedVariables false

theorem divAt_small (n : Nat) (d : Int) (hn : n < 18446744073709551616) (hd : 0 < d) (hd2 : d ≤ 9223372036854775807) : DivAt n d := by
  intro w
  have e1 : hiW n = 0 := by unfold hiW; omega
  have e2 : loW n = n := by unfold loW; omega
  obtain ⟨D, rfl⟩ := Int.eq_ofNat_of_zero_le (Int.le_of_lt hd)
  rw [e1, e2, Int.toNat_natCast]
  unfold quoN remN
  rw [Int.natCast_ediv, Int.natCast_emod]
  exact div64_small n D w (by omega) (by omega) hd hd2

theorem i64_of_wf {x : Int} (h : (Lit.int .i64 x).wf = true) : I64 x := by
  simp [Lit.wf, IntKind.min, IntKind.max, IntKind.signed, IntKind.bits] at h
  exact ⟨by omega, by omega⟩

theorem awake_any (w : World) :
    Calls Try.prog 9 #[] w fun e w' => e = .returned (.bool true) ∧ Ext w w' := by
  have hr : rnd 2 3 2 = 2 := by decide
  have Hdiv : Hid (∀ w, Calls Try.prog 7 #[.agg #[.int .i64 2], .int .i64 3, .int .i64 2] w fun e w' => e = .returned (.tuple #[.int .i64 2, .int .i64 0]) ∧ Ext w w') := by
    intro w
    have h := divide_ok 2 3 2 w (by decide) ⟨by omega, by omega⟩ (by omega) (by omega) (fun _ => divAt_small _ _ (by decide) (by omega) (by omega)) (by rw [hr]; exact ⟨by omega, by omega⟩)
    rw [hr] at h
    exact h
  clear hr
  go_enter Try.func9, Try.ntmps9
  go_wp2_with fail
  refine (of_2 _).mono ?_
  rintro e w1 ⟨rfl, hx⟩
  go_wp2_with fail
  refine (Hdiv.out _).mono ?_
  rintro e w2 ⟨rfl, hy⟩
  have hy0 : Ext w w2 := Ext.trans (by repeat (first | exact hx | apply Ext.alloc)) hy
  clear hx hy Hdiv
  go_wp2_with fail
  refine (fits_any _ _).mono ?_
  rintro e w3 ⟨rfl, rfl⟩
  go_wp2_with fail
  refine (fits_any _ _).mono ?_
  rintro e w3 ⟨rfl, rfl⟩
  go_wp2_with fail
  go_ret
  exact ⟨rfl, hy0⟩

end Go.Proofs.Ytpmgbagnaaahoab
