
/- Date of package civil, as a contract: no statement of the seat is proved here. -/
import Derived.Test.YtmlkccmkdgfalaaGreatDoorL3Civ3
namespace Go.Proofs.YtmlkccmkdgfalaaGreatDoor.L3
open Go.RowKit
set_option linter.unusedVariables false

theorem Date_no (n : Int) (w : World) (h : n < -25567 ∨ 84370 < n) :
    Calls Tryz.prog 62 #[.int .i64 n] w fun e w' => e = .returned (.tuple #[.agg #[.int .i64 0, .int .i64 0, .int .i64 0], .int .i64 5]) ∧ Ext w w' := by
  rcases h with h | h
  · go_enter Tryz.func62, Tryz.ntmps62
    go_wp2
    exact bodyPost_ret (v := .tuple #[.agg #[.int .i64 0, .int .i64 0, .int .i64 0], .int .i64 5]) (by simp [results, Tryz.results62, go_sem]) rfl ⟨rfl, (Ext.refl _).alloc _ _⟩
  · have h' : ¬ n < -25567 := by omega
    go_enter Tryz.func62, Tryz.ntmps62
    go_wp2
    exact bodyPost_ret (v := .tuple #[.agg #[.int .i64 0, .int .i64 0, .int .i64 0], .int .i64 5]) (by simp [results, Tryz.results62, go_sem]) rfl ⟨rfl, (Ext.refl _).alloc _ _⟩
set_option maxHeartbeats 1000000 in
theorem Date_ok (n : Int) (w : World) (h1 : -25567 ≤ n) (h2 : n ≤ 84370) (he : Hid (Env w)) :
    Calls Tryz.prog 62 #[.int .i64 n] w fun e w' => (∃ y m d : Int, e = .returned (.tuple #[.agg #[.int .i64 y, .int .i64 m, .int .i64 d], .int .i64 0]) ∧ Vld y m d ∧ num y m d = n) ∧ Ext w w' := by
  have a1 : ¬ n < -25567 := by omega
  have a2 : ¬ 84370 < n := by omega
  go_enter Tryz.func62, Tryz.ntmps62
  go_wp2_with fail
  refine (yearOf_c _ _ h1 h2).mono ?_
  rintro e w1 ⟨⟨y, y1, y2, y3, y4, rfl⟩, rfl⟩
  have sb := st_bd y y1 (by omega)
  obtain ⟨s1, s2⟩ := sb
  go_wp2_with fail
  refine (start_c _ _ y1 (by omega)).mono ?_
  rintro e w1 ⟨rfl, rfl⟩
  go_wp2_with fail
  refine (monthOf_c _ _ _ (by omega) (by omega) (he.out.ext ((Ext.refl _).alloc _ _))).mono ?_
  rintro e w1 ⟨⟨m, m1, m2, m3, m4, rfl⟩, rfl⟩
  have cb := cum_bd y m m1 (by omega)
  obtain ⟨c1, c2⟩ := cb
  have db := dim_bd y m m1 m2
  obtain ⟨d1, d2⟩ := db
  have hv : Hid (Vld y m (n - st y - cum y m + 1)) := ⟨y1, y2, by omega, by omega⟩
  have hn : Hid (num y m (n - st y - cum y m + 1) = n) := by show num y m _ = n; unfold num; omega
  go_wp2
  exact bodyPost_ret (v := .tuple #[.agg #[.int .i64 y, .int .i64 m, .int .i64 (n - st y - cum y m + 1)], .int .i64 0]) (by simp [results, Tryz.results62, go_sem]) rfl ⟨⟨y, m, _, rfl, hv.out, hn.out⟩, (Ext.refl _).alloc _ _⟩
end Go.Proofs.YtmlkccmkdgfalaaGreatDoor.L3