
/- What quotient of the program does, out of what its product and its division of two words come to: no statement of the seat is proved here. -/
import Derived.Test.YteedbmmpkgpfhaaDoorArith
namespace Go.Proofs.YteedbmmpkgpfhaaDoor
open Go.RowKit
set_option linter.unusedVariables false

theorem signed_false (n : Int) (w : World) (h0 : 0 ≤ n) (h1 : n ≤ 1000000000000000) :
    Calls Tryd.prog 56 #[.int .i64 n, .bool false] w fun e w' => e = .returned (.int .i64 n) ∧ w' = w := signed_any n false w ⟨by omega, by omega⟩ h0
theorem signed_true (n : Int) (w : World) (h0 : 0 ≤ n) (h1 : n ≤ 1000000000000000) :
    Calls Tryd.prog 56 #[.int .i64 n, .bool true] w fun e w' => e = .returned (.int .i64 (-n)) ∧ w' = w := signed_any n true w ⟨by omega, by omega⟩ h0

set_option maxHeartbeats 800000 in
theorem quot_Ad (m a b d hi lo q r : Int) (w : World)
    (Hmul : Hid (∀ w, Calls Tryd.prog 55 #[.int .i64 a, .int .i64 b] w fun e w' => e = .returned (.tuple #[.int .u64 hi, .int .u64 lo, .bool false]) ∧ w' = w))
    (Hdiv : Hid (∀ w, Calls Tryd.prog 46 #[.int .u64 hi, .int .u64 lo, .int .u64 d] w fun e w' => e = .returned (.tuple #[.int .u64 q, .int .u64 r]) ∧ Ext w w'))
    (hm : m = 1 ∨ m = 2 ∨ m = 3) (hd : 0 < d) (hd2 : d ≤ 9223372036854775807) (hhi : hi < d) (q0 : 0 ≤ q) (q1 : q ≤ 1000000000000000) (r0 : 0 ≤ r) (r1 : r < d)
    (hu : upB m q r d = false) (k1 : -1000000000000000 ≤ q) (k2 : q ≤ 1000000000000000) :
    Calls Tryd.prog 48 #[.agg #[.int .i64 m], .int .i64 a, .int .i64 b, .int .i64 d] w fun e w' => e = .returned (.int .i64 (q)) ∧ Ext w w' := by
  go_enter Tryd.func48, Tryd.ntmps48
  go_wp2_with fail
  refine (need_ok _ _).mono ?_
  rintro e w1 ⟨rfl, rfl⟩
  go_wp2_with fail
  refine (need_ok _ _).mono ?_
  rintro e w1 ⟨rfl, rfl⟩
  go_wp2_with fail
  refine (Hmul.out _).mono ?_
  rintro e w1 ⟨rfl, rfl⟩
  go_wp2_with fail
  refine (need_ok _ _).mono ?_
  rintro e w1 ⟨rfl, rfl⟩
  go_wp2_with fail
  refine (Hdiv.out _).mono ?_
  rintro e w4 ⟨rfl, hy⟩
  have gc : w4.cell? ⟨w.heap.size, 0, none⟩ = some (.int .i64 m) := by rw [hy.cell _ _ (by simp)]; simp [go_sem]
  have hy0 : Ext w w4 := Ext.trans ((Ext.refl _).alloc _ _) hy
  clear hy
  go_wp2_with fail
  refine (need_ok _ _).mono ?_
  rintro e w1 ⟨rfl, rfl⟩
  go_wp2_with fail
  refine (signed_false q _ q0 (by omega)).mono ?_
  rintro e w1 ⟨rfl, rfl⟩
  go_wp2_with fail
  refine (goesUp_any m q r d _ hm (by omega) (by omega) hd2).mono ?_
  rintro e w2 ⟨rfl, hx⟩
  have hx0 : Ext w w2 := Ext.trans hy0 hx
  clear hx
  go_wp2_with fail
  refine (fitting_ok _ _ (by omega) (by omega)).mono ?_
  rintro e w3 ⟨rfl, rfl⟩
  go_wp2_with fail
  go_ret
  exact ⟨rfl, hx0⟩

set_option maxHeartbeats 800000 in
theorem quot_Au (m a b d hi lo q r : Int) (w : World)
    (Hmul : Hid (∀ w, Calls Tryd.prog 55 #[.int .i64 a, .int .i64 b] w fun e w' => e = .returned (.tuple #[.int .u64 hi, .int .u64 lo, .bool false]) ∧ w' = w))
    (Hdiv : Hid (∀ w, Calls Tryd.prog 46 #[.int .u64 hi, .int .u64 lo, .int .u64 d] w fun e w' => e = .returned (.tuple #[.int .u64 q, .int .u64 r]) ∧ Ext w w'))
    (hm : m = 1 ∨ m = 2 ∨ m = 3) (hd : 0 < d) (hd2 : d ≤ 9223372036854775807) (hhi : hi < d) (q0 : 0 ≤ q) (q1 : q ≤ 1000000000000000) (r0 : 0 ≤ r) (r1 : r < d)
    (hu : upB m q r d = true) (k1 : -1000000000000000 ≤ q + 1) (k2 : q + 1 ≤ 1000000000000000) :
    Calls Tryd.prog 48 #[.agg #[.int .i64 m], .int .i64 a, .int .i64 b, .int .i64 d] w fun e w' => e = .returned (.int .i64 (q + 1)) ∧ Ext w w' := by
  go_enter Tryd.func48, Tryd.ntmps48
  go_wp2_with fail
  refine (need_ok _ _).mono ?_
  rintro e w1 ⟨rfl, rfl⟩
  go_wp2_with fail
  refine (need_ok _ _).mono ?_
  rintro e w1 ⟨rfl, rfl⟩
  go_wp2_with fail
  refine (Hmul.out _).mono ?_
  rintro e w1 ⟨rfl, rfl⟩
  go_wp2_with fail
  refine (need_ok _ _).mono ?_
  rintro e w1 ⟨rfl, rfl⟩
  go_wp2_with fail
  refine (Hdiv.out _).mono ?_
  rintro e w4 ⟨rfl, hy⟩
  have gc : w4.cell? ⟨w.heap.size, 0, none⟩ = some (.int .i64 m) := by rw [hy.cell _ _ (by simp)]; simp [go_sem]
  have hy0 : Ext w w4 := Ext.trans ((Ext.refl _).alloc _ _) hy
  clear hy
  go_wp2_with fail
  refine (need_ok _ _).mono ?_
  rintro e w1 ⟨rfl, rfl⟩
  go_wp2_with fail
  refine (signed_false q _ q0 (by omega)).mono ?_
  rintro e w1 ⟨rfl, rfl⟩
  go_wp2_with fail
  refine (goesUp_any m q r d _ hm (by omega) (by omega) hd2).mono ?_
  rintro e w2 ⟨rfl, hx⟩
  have hx0 : Ext w w2 := Ext.trans hy0 hx
  clear hx
  go_wp2_with fail
  refine (fitting_ok _ _ (by omega) (by omega)).mono ?_
  rintro e w3 ⟨rfl, rfl⟩
  go_wp2_with fail
  go_ret
  exact ⟨rfl, hx0⟩

set_option maxHeartbeats 800000 in
theorem quot_Aux (m a b d hi lo q r : Int) (w : World)
    (Hmul : Hid (∀ w, Calls Tryd.prog 55 #[.int .i64 a, .int .i64 b] w fun e w' => e = .returned (.tuple #[.int .u64 hi, .int .u64 lo, .bool false]) ∧ w' = w))
    (Hdiv : Hid (∀ w, Calls Tryd.prog 46 #[.int .u64 hi, .int .u64 lo, .int .u64 d] w fun e w' => e = .returned (.tuple #[.int .u64 q, .int .u64 r]) ∧ Ext w w'))
    (hm : m = 1 ∨ m = 2 ∨ m = 3) (hd : 0 < d) (hd2 : d ≤ 9223372036854775807) (hhi : hi < d) (q0 : 0 ≤ q) (q1 : q ≤ 1000000000000000) (r0 : 0 ≤ r) (r1 : r < d)
    (hu : upB m q r d = true) (k : ¬ (-1000000000000000 ≤ q + 1 ∧ q + 1 ≤ 1000000000000000)) :
    Calls Tryd.prog 48 #[.agg #[.int .i64 m], .int .i64 a, .int .i64 b, .int .i64 d] w fun e w' => e = .panicked [{ v := .iface 24 (.int .i64 3), recovered := false }] ∧ Ext w w' := by
  go_enter Tryd.func48, Tryd.ntmps48
  go_wp2_with fail
  refine (need_ok _ _).mono ?_
  rintro e w1 ⟨rfl, rfl⟩
  go_wp2_with fail
  refine (need_ok _ _).mono ?_
  rintro e w1 ⟨rfl, rfl⟩
  go_wp2_with fail
  refine (Hmul.out _).mono ?_
  rintro e w1 ⟨rfl, rfl⟩
  go_wp2_with fail
  refine (need_ok _ _).mono ?_
  rintro e w1 ⟨rfl, rfl⟩
  go_wp2_with fail
  refine (Hdiv.out _).mono ?_
  rintro e w4 ⟨rfl, hy⟩
  have gc : w4.cell? ⟨w.heap.size, 0, none⟩ = some (.int .i64 m) := by rw [hy.cell _ _ (by simp)]; simp [go_sem]
  have hy0 : Ext w w4 := Ext.trans ((Ext.refl _).alloc _ _) hy
  clear hy
  go_wp2_with fail
  refine (need_ok _ _).mono ?_
  rintro e w1 ⟨rfl, rfl⟩
  go_wp2_with fail
  refine (signed_false q _ q0 (by omega)).mono ?_
  rintro e w1 ⟨rfl, rfl⟩
  go_wp2_with fail
  refine (goesUp_any m q r d _ hm (by omega) (by omega) hd2).mono ?_
  rintro e w2 ⟨rfl, hx⟩
  have hx0 : Ext w w2 := Ext.trans hy0 hx
  clear hx
  go_wp2_with fail
  refine (fitting_no _ _ (by omega)).mono ?_
  rintro e w3 ⟨rfl, rfl⟩
  go_wp2_with fail
  exact ⟨rfl, rfl, hx0⟩

set_option maxHeartbeats 800000 in
theorem quot_Bd (m a b d hi lo q : Int) (w : World)
    (Hmul : Hid (∀ w, Calls Tryd.prog 55 #[.int .i64 a, .int .i64 b] w fun e w' => e = .returned (.tuple #[.int .u64 hi, .int .u64 lo, .bool true]) ∧ w' = w))
    (Hdiv : Hid (∀ w, Calls Tryd.prog 46 #[.int .u64 hi, .int .u64 lo, .int .u64 d] w fun e w' => e = .returned (.tuple #[.int .u64 q, .int .u64 0]) ∧ Ext w w'))
    (hm : m = 1 ∨ m = 2 ∨ m = 3) (hd : 0 < d) (hd2 : d ≤ 9223372036854775807) (hhi : hi < d) (q0 : 0 ≤ q) (q1 : q ≤ 1000000000000000) 
    (hu : upB m (-q) 0 d = false) (k1 : -1000000000000000 ≤ -q) (k2 : -q ≤ 1000000000000000) :
    Calls Tryd.prog 48 #[.agg #[.int .i64 m], .int .i64 a, .int .i64 b, .int .i64 d] w fun e w' => e = .returned (.int .i64 (-q)) ∧ Ext w w' := by
  go_enter Tryd.func48, Tryd.ntmps48
  go_wp2_with fail
  refine (need_ok _ _).mono ?_
  rintro e w1 ⟨rfl, rfl⟩
  go_wp2_with fail
  refine (need_ok _ _).mono ?_
  rintro e w1 ⟨rfl, rfl⟩
  go_wp2_with fail
  refine (Hmul.out _).mono ?_
  rintro e w1 ⟨rfl, rfl⟩
  go_wp2_with fail
  refine (need_ok _ _).mono ?_
  rintro e w1 ⟨rfl, rfl⟩
  go_wp2_with fail
  refine (Hdiv.out _).mono ?_
  rintro e w4 ⟨rfl, hy⟩
  have gc : w4.cell? ⟨w.heap.size, 0, none⟩ = some (.int .i64 m) := by rw [hy.cell _ _ (by simp)]; simp [go_sem]
  have hy0 : Ext w w4 := Ext.trans ((Ext.refl _).alloc _ _) hy
  clear hy
  go_wp2_with fail
  refine (need_ok _ _).mono ?_
  rintro e w1 ⟨rfl, rfl⟩
  go_wp2_with fail
  refine (signed_true q _ q0 (by omega)).mono ?_
  rintro e w1 ⟨rfl, rfl⟩
  go_wp2_with fail
  refine (goesUp_any m (-q) 0 d _ hm (by omega) (by omega) hd2).mono ?_
  rintro e w2 ⟨rfl, hx⟩
  have hx0 : Ext w w2 := Ext.trans hy0 hx
  clear hx
  go_wp2_with fail
  refine (fitting_ok _ _ (by omega) (by omega)).mono ?_
  rintro e w3 ⟨rfl, rfl⟩
  go_wp2_with fail
  go_ret
  exact ⟨rfl, hx0⟩

set_option maxHeartbeats 800000 in
theorem quot_Bu (m a b d hi lo q : Int) (w : World)
    (Hmul : Hid (∀ w, Calls Tryd.prog 55 #[.int .i64 a, .int .i64 b] w fun e w' => e = .returned (.tuple #[.int .u64 hi, .int .u64 lo, .bool true]) ∧ w' = w))
    (Hdiv : Hid (∀ w, Calls Tryd.prog 46 #[.int .u64 hi, .int .u64 lo, .int .u64 d] w fun e w' => e = .returned (.tuple #[.int .u64 q, .int .u64 0]) ∧ Ext w w'))
    (hm : m = 1 ∨ m = 2 ∨ m = 3) (hd : 0 < d) (hd2 : d ≤ 9223372036854775807) (hhi : hi < d) (q0 : 0 ≤ q) (q1 : q ≤ 1000000000000000) 
    (hu : upB m (-q) 0 d = true) (k1 : -1000000000000000 ≤ -q + 1) (k2 : -q + 1 ≤ 1000000000000000) :
    Calls Tryd.prog 48 #[.agg #[.int .i64 m], .int .i64 a, .int .i64 b, .int .i64 d] w fun e w' => e = .returned (.int .i64 (-q + 1)) ∧ Ext w w' := by
  go_enter Tryd.func48, Tryd.ntmps48
  go_wp2_with fail
  refine (need_ok _ _).mono ?_
  rintro e w1 ⟨rfl, rfl⟩
  go_wp2_with fail
  refine (need_ok _ _).mono ?_
  rintro e w1 ⟨rfl, rfl⟩
  go_wp2_with fail
  refine (Hmul.out _).mono ?_
  rintro e w1 ⟨rfl, rfl⟩
  go_wp2_with fail
  refine (need_ok _ _).mono ?_
  rintro e w1 ⟨rfl, rfl⟩
  go_wp2_with fail
  refine (Hdiv.out _).mono ?_
  rintro e w4 ⟨rfl, hy⟩
  have gc : w4.cell? ⟨w.heap.size, 0, none⟩ = some (.int .i64 m) := by rw [hy.cell _ _ (by simp)]; simp [go_sem]
  have hy0 : Ext w w4 := Ext.trans ((Ext.refl _).alloc _ _) hy
  clear hy
  go_wp2_with fail
  refine (need_ok _ _).mono ?_
  rintro e w1 ⟨rfl, rfl⟩
  go_wp2_with fail
  refine (signed_true q _ q0 (by omega)).mono ?_
  rintro e w1 ⟨rfl, rfl⟩
  go_wp2_with fail
  refine (goesUp_any m (-q) 0 d _ hm (by omega) (by omega) hd2).mono ?_
  rintro e w2 ⟨rfl, hx⟩
  have hx0 : Ext w w2 := Ext.trans hy0 hx
  clear hx
  go_wp2_with fail
  refine (fitting_ok _ _ (by omega) (by omega)).mono ?_
  rintro e w3 ⟨rfl, rfl⟩
  go_wp2_with fail
  go_ret
  exact ⟨rfl, hx0⟩

set_option maxHeartbeats 800000 in
theorem quot_Cd (m a b d hi lo q r : Int) (w : World)
    (Hmul : Hid (∀ w, Calls Tryd.prog 55 #[.int .i64 a, .int .i64 b] w fun e w' => e = .returned (.tuple #[.int .u64 hi, .int .u64 lo, .bool true]) ∧ w' = w))
    (Hdiv : Hid (∀ w, Calls Tryd.prog 46 #[.int .u64 hi, .int .u64 lo, .int .u64 d] w fun e w' => e = .returned (.tuple #[.int .u64 q, .int .u64 r]) ∧ Ext w w'))
    (hm : m = 1 ∨ m = 2 ∨ m = 3) (hd : 0 < d) (hd2 : d ≤ 9223372036854775807) (hhi : hi < d) (q0 : 0 ≤ q) (q1 : q ≤ 1000000000000000) (r0 : 0 < r) (r1 : r < d)
    (hu : upB m (-q - 1) (d - r) d = false) (k1 : -1000000000000000 ≤ -q - 1) (k2 : -q - 1 ≤ 1000000000000000) :
    Calls Tryd.prog 48 #[.agg #[.int .i64 m], .int .i64 a, .int .i64 b, .int .i64 d] w fun e w' => e = .returned (.int .i64 (-q - 1)) ∧ Ext w w' := by
  go_enter Tryd.func48, Tryd.ntmps48
  go_wp2_with fail
  refine (need_ok _ _).mono ?_
  rintro e w1 ⟨rfl, rfl⟩
  go_wp2_with fail
  refine (need_ok _ _).mono ?_
  rintro e w1 ⟨rfl, rfl⟩
  go_wp2_with fail
  refine (Hmul.out _).mono ?_
  rintro e w1 ⟨rfl, rfl⟩
  go_wp2_with fail
  refine (need_ok _ _).mono ?_
  rintro e w1 ⟨rfl, rfl⟩
  go_wp2_with fail
  refine (Hdiv.out _).mono ?_
  rintro e w4 ⟨rfl, hy⟩
  have gc : w4.cell? ⟨w.heap.size, 0, none⟩ = some (.int .i64 m) := by rw [hy.cell _ _ (by simp)]; simp [go_sem]
  have hy0 : Ext w w4 := Ext.trans ((Ext.refl _).alloc _ _) hy
  clear hy
  go_wp2_with fail
  refine (need_ok _ _).mono ?_
  rintro e w1 ⟨rfl, rfl⟩
  go_wp2_with fail
  refine (signed_true q _ q0 (by omega)).mono ?_
  rintro e w1 ⟨rfl, rfl⟩
  go_wp2_with fail
  refine (goesUp_any m (-q - 1) (d - r) d _ hm (by omega) (by omega) hd2).mono ?_
  rintro e w2 ⟨rfl, hx⟩
  have hx0 : Ext w w2 := Ext.trans hy0 hx
  clear hx
  go_wp2_with fail
  refine (fitting_ok _ _ (by omega) (by omega)).mono ?_
  rintro e w3 ⟨rfl, rfl⟩
  go_wp2_with fail
  go_ret
  exact ⟨rfl, hx0⟩

set_option maxHeartbeats 800000 in
theorem quot_Cdx (m a b d hi lo q r : Int) (w : World)
    (Hmul : Hid (∀ w, Calls Tryd.prog 55 #[.int .i64 a, .int .i64 b] w fun e w' => e = .returned (.tuple #[.int .u64 hi, .int .u64 lo, .bool true]) ∧ w' = w))
    (Hdiv : Hid (∀ w, Calls Tryd.prog 46 #[.int .u64 hi, .int .u64 lo, .int .u64 d] w fun e w' => e = .returned (.tuple #[.int .u64 q, .int .u64 r]) ∧ Ext w w'))
    (hm : m = 1 ∨ m = 2 ∨ m = 3) (hd : 0 < d) (hd2 : d ≤ 9223372036854775807) (hhi : hi < d) (q0 : 0 ≤ q) (q1 : q ≤ 1000000000000000) (r0 : 0 < r) (r1 : r < d)
    (hu : upB m (-q - 1) (d - r) d = false) (k : ¬ (-1000000000000000 ≤ -q - 1 ∧ -q - 1 ≤ 1000000000000000)) :
    Calls Tryd.prog 48 #[.agg #[.int .i64 m], .int .i64 a, .int .i64 b, .int .i64 d] w fun e w' => e = .panicked [{ v := .iface 24 (.int .i64 3), recovered := false }] ∧ Ext w w' := by
  go_enter Tryd.func48, Tryd.ntmps48
  go_wp2_with fail
  refine (need_ok _ _).mono ?_
  rintro e w1 ⟨rfl, rfl⟩
  go_wp2_with fail
  refine (need_ok _ _).mono ?_
  rintro e w1 ⟨rfl, rfl⟩
  go_wp2_with fail
  refine (Hmul.out _).mono ?_
  rintro e w1 ⟨rfl, rfl⟩
  go_wp2_with fail
  refine (need_ok _ _).mono ?_
  rintro e w1 ⟨rfl, rfl⟩
  go_wp2_with fail
  refine (Hdiv.out _).mono ?_
  rintro e w4 ⟨rfl, hy⟩
  have gc : w4.cell? ⟨w.heap.size, 0, none⟩ = some (.int .i64 m) := by rw [hy.cell _ _ (by simp)]; simp [go_sem]
  have hy0 : Ext w w4 := Ext.trans ((Ext.refl _).alloc _ _) hy
  clear hy
  go_wp2_with fail
  refine (need_ok _ _).mono ?_
  rintro e w1 ⟨rfl, rfl⟩
  go_wp2_with fail
  refine (signed_true q _ q0 (by omega)).mono ?_
  rintro e w1 ⟨rfl, rfl⟩
  go_wp2_with fail
  refine (goesUp_any m (-q - 1) (d - r) d _ hm (by omega) (by omega) hd2).mono ?_
  rintro e w2 ⟨rfl, hx⟩
  have hx0 : Ext w w2 := Ext.trans hy0 hx
  clear hx
  go_wp2_with fail
  refine (fitting_no _ _ (by omega)).mono ?_
  rintro e w3 ⟨rfl, rfl⟩
  go_wp2_with fail
  exact ⟨rfl, rfl, hx0⟩

set_option maxHeartbeats 800000 in
theorem quot_Cu (m a b d hi lo q r : Int) (w : World)
    (Hmul : Hid (∀ w, Calls Tryd.prog 55 #[.int .i64 a, .int .i64 b] w fun e w' => e = .returned (.tuple #[.int .u64 hi, .int .u64 lo, .bool true]) ∧ w' = w))
    (Hdiv : Hid (∀ w, Calls Tryd.prog 46 #[.int .u64 hi, .int .u64 lo, .int .u64 d] w fun e w' => e = .returned (.tuple #[.int .u64 q, .int .u64 r]) ∧ Ext w w'))
    (hm : m = 1 ∨ m = 2 ∨ m = 3) (hd : 0 < d) (hd2 : d ≤ 9223372036854775807) (hhi : hi < d) (q0 : 0 ≤ q) (q1 : q ≤ 1000000000000000) (r0 : 0 < r) (r1 : r < d)
    (hu : upB m (-q - 1) (d - r) d = true) (k1 : -1000000000000000 ≤ -q) (k2 : -q ≤ 1000000000000000) :
    Calls Tryd.prog 48 #[.agg #[.int .i64 m], .int .i64 a, .int .i64 b, .int .i64 d] w fun e w' => e = .returned (.int .i64 (-q)) ∧ Ext w w' := by
  go_enter Tryd.func48, Tryd.ntmps48
  go_wp2_with fail
  refine (need_ok _ _).mono ?_
  rintro e w1 ⟨rfl, rfl⟩
  go_wp2_with fail
  refine (need_ok _ _).mono ?_
  rintro e w1 ⟨rfl, rfl⟩
  go_wp2_with fail
  refine (Hmul.out _).mono ?_
  rintro e w1 ⟨rfl, rfl⟩
  go_wp2_with fail
  refine (need_ok _ _).mono ?_
  rintro e w1 ⟨rfl, rfl⟩
  go_wp2_with fail
  refine (Hdiv.out _).mono ?_
  rintro e w4 ⟨rfl, hy⟩
  have gc : w4.cell? ⟨w.heap.size, 0, none⟩ = some (.int .i64 m) := by rw [hy.cell _ _ (by simp)]; simp [go_sem]
  have hy0 : Ext w w4 := Ext.trans ((Ext.refl _).alloc _ _) hy
  clear hy
  go_wp2_with fail
  refine (need_ok _ _).mono ?_
  rintro e w1 ⟨rfl, rfl⟩
  go_wp2_with fail
  refine (signed_true q _ q0 (by omega)).mono ?_
  rintro e w1 ⟨rfl, rfl⟩
  go_wp2_with fail
  refine (goesUp_any m (-q - 1) (d - r) d _ hm (by omega) (by omega) hd2).mono ?_
  rintro e w2 ⟨rfl, hx⟩
  have hx0 : Ext w w2 := Ext.trans hy0 hx
  clear hx
  go_wp2_with fail
  refine (fitting_ok _ _ (by omega) (by omega)).mono ?_
  rintro e w3 ⟨rfl, rfl⟩
  go_wp2_with fail
  go_ret
  exact ⟨rfl, hx0⟩

theorem quot_zero (a b d : Int) (w : World) :
    Calls Tryd.prog 48 #[.agg #[.int .i64 0], .int .i64 a, .int .i64 b, .int .i64 d] w fun e w' => e = .panicked [{ v := .iface 24 (.int .i64 1), recovered := false }] ∧ Ext w w' := by
  go_enter Tryd.func48, Tryd.ntmps48
  go_wp2_with fail
  refine (need_no _ _).mono ?_
  rintro e w1 ⟨rfl, rfl⟩
  go_wp2_with fail
  first | exact ⟨rfl, rfl, hy0⟩ | exact ⟨rfl, rfl, (Ext.refl _).alloc _ _⟩

theorem quot_below (m a b d : Int) (w : World) (hm : m = 1 ∨ m = 2 ∨ m = 3) (hd : decide (0 < d) = false) :
    Calls Tryd.prog 48 #[.agg #[.int .i64 m], .int .i64 a, .int .i64 b, .int .i64 d] w fun e w' => e = .panicked [{ v := .iface 24 (.int .i64 1), recovered := false }] ∧ Ext w w' := by
  go_enter Tryd.func48, Tryd.ntmps48
  go_wp2_with fail
  refine (need_ok _ _).mono ?_
  rintro e w1 ⟨rfl, rfl⟩
  go_wp2_with fail
  refine (need_no _ _).mono ?_
  rintro e w1 ⟨rfl, rfl⟩
  go_wp2_with fail
  first | exact ⟨rfl, rfl, hy0⟩ | exact ⟨rfl, rfl, (Ext.refl _).alloc _ _⟩

theorem quot_hi (m a b d hi lo : Int) (s : Bool) (w : World)
    (Hmul : Hid (∀ w, Calls Tryd.prog 55 #[.int .i64 a, .int .i64 b] w fun e w' => e = .returned (.tuple #[.int .u64 hi, .int .u64 lo, .bool s]) ∧ w' = w))
    (hm : m = 1 ∨ m = 2 ∨ m = 3) (hd : 0 < d) (hd2 : d ≤ 9223372036854775807) (hhi : decide (hi < d) = false) :
    Calls Tryd.prog 48 #[.agg #[.int .i64 m], .int .i64 a, .int .i64 b, .int .i64 d] w fun e w' => e = .panicked [{ v := .iface 24 (.int .i64 3), recovered := false }] ∧ Ext w w' := by
  go_enter Tryd.func48, Tryd.ntmps48
  go_wp2_with fail
  refine (need_ok _ _).mono ?_
  rintro e w1 ⟨rfl, rfl⟩
  go_wp2_with fail
  refine (need_ok _ _).mono ?_
  rintro e w1 ⟨rfl, rfl⟩
  go_wp2_with fail
  refine (Hmul.out _).mono ?_
  rintro e w1 ⟨rfl, rfl⟩
  go_wp2_with fail
  refine (need_no _ _).mono ?_
  rintro e w1 ⟨rfl, rfl⟩
  go_wp2_with fail
  first | exact ⟨rfl, rfl, hy0⟩ | exact ⟨rfl, rfl, (Ext.refl _).alloc _ _⟩

theorem quot_big (m a b d hi lo q r : Int) (s : Bool) (w : World)
    (Hmul : Hid (∀ w, Calls Tryd.prog 55 #[.int .i64 a, .int .i64 b] w fun e w' => e = .returned (.tuple #[.int .u64 hi, .int .u64 lo, .bool s]) ∧ w' = w))
    (Hdiv : Hid (∀ w, Calls Tryd.prog 46 #[.int .u64 hi, .int .u64 lo, .int .u64 d] w fun e w' => e = .returned (.tuple #[.int .u64 q, .int .u64 r]) ∧ Ext w w'))
    (hm : m = 1 ∨ m = 2 ∨ m = 3) (hd : 0 < d) (hd2 : d ≤ 9223372036854775807) (hhi : hi < d) (hq : decide (q ≤ 1000000000000000) = false) :
    Calls Tryd.prog 48 #[.agg #[.int .i64 m], .int .i64 a, .int .i64 b, .int .i64 d] w fun e w' => e = .panicked [{ v := .iface 24 (.int .i64 3), recovered := false }] ∧ Ext w w' := by
  go_enter Tryd.func48, Tryd.ntmps48
  go_wp2_with fail
  refine (need_ok _ _).mono ?_
  rintro e w1 ⟨rfl, rfl⟩
  go_wp2_with fail
  refine (need_ok _ _).mono ?_
  rintro e w1 ⟨rfl, rfl⟩
  go_wp2_with fail
  refine (Hmul.out _).mono ?_
  rintro e w1 ⟨rfl, rfl⟩
  go_wp2_with fail
  refine (need_ok _ _).mono ?_
  rintro e w1 ⟨rfl, rfl⟩
  go_wp2_with fail
  refine (Hdiv.out _).mono ?_
  rintro e w4 ⟨rfl, hy⟩
  have gc : w4.cell? ⟨w.heap.size, 0, none⟩ = some (.int .i64 m) := by rw [hy.cell _ _ (by simp)]; simp [go_sem]
  have hy0 : Ext w w4 := Ext.trans ((Ext.refl _).alloc _ _) hy
  clear hy
  go_wp2_with fail
  refine (need_no _ _).mono ?_
  rintro e w1 ⟨rfl, rfl⟩
  go_wp2_with fail
  first | exact ⟨rfl, rfl, hy0⟩ | exact ⟨rfl, rfl, (Ext.refl _).alloc _ _⟩

end Go.Proofs.YteedbmmpkgpfhaaDoor
