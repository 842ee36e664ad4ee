/- Proved: for every n and d, quittancelaw01.FixnumTurned returns true (of halves that go to the even one what is below 0 is rounded as what is above; of others not, but where nothing is left); no condition on n or d. -/
import Derived.Test.YtpmgbagnaaahoaaRows
import Derived.WalkKit
import Derived.ProofKit
import Derived.OpenShut
import Derived.ShutString
import Derived.Test.YtpmgbagnaaahoaaSmall
namespace Go.Proofs.Ytpmgbagnaaahoaa.fixnumTurned
open Go.ChangeShapes Go.WideShapes Go.ChangeAt Go.RowKit
open Go.ChangeMaps (open_string shut_string)
set_option linter.unusedVariables false      -- a walk need not use every 'w<i>' (that an integer argument fits its kind)

theorem own : ownKnob Try.prog.godebug = none := by kernel_rfl

open Go.Proofs.Ytpmgbagnaaahoaa

theorem rest_turned (N D : Int) (hD : 0 < D) (h : 0 < N % D) : (-N) / D = -(N / D) - 1 ∧ (-N) % D = D - N % D := by
  obtain ⟨e, h1, h2⟩ := div_rest N D hD
  refine (Int.ediv_emod_unique hD (a := -N) (r := D - N % D) (q := -(N / D) - 1)).2 ⟨?_, by omega, by omega⟩
  rw [Int.mul_sub, Int.mul_neg, Int.mul_one]
  omega
theorem none_turned (N D : Int) (hD : 0 < D) (h : N % D = 0) : (-N) / D = -(N / D) ∧ (-N) % D = 0 := by
  obtain ⟨e, h1, h2⟩ := div_rest N D hD
  refine (Int.ediv_emod_unique hD (a := -N) (r := 0) (q := -(N / D))).2 ⟨?_, by omega, by omega⟩
  rw [Int.mul_neg]
  omega
theorem tmod_parts (N D : Int) (hD : 0 < D) : N.tmod D = N % D ∨ (0 < N % D ∧ N.tmod D = N % D - D) := by
  rcases Int.lt_or_le N 0 with h | h
  · have e : N.tmod D = -((-N) % D) := by
      rw [← Int.tmod_eq_emod_of_nonneg (by omega : 0 ≤ -N), Int.neg_tmod, Int.neg_neg]
    obtain ⟨_, h1, h2⟩ := div_rest N D hD
    by_cases h0 : N % D = 0
    · rw [(none_turned N D hD h0).2] at e; left; omega
    · rw [(rest_turned N D hD (by omega)).2] at e; right; omega
  · left; exact Int.tmod_eq_emod_of_nonneg h

set_option maxRecDepth 100000 in
set_option maxHeartbeats 2000000 in
theorem turned_1 (a0 a1 N D A B U V X Y : Int) (w : World) (HN : Hid (a0.tmod 1000000000 = N)) (HD : Hid (wrap64 (1 + bits .and .i64 a1 65535) = D))
    (n1 : -1000000000 < N) (n2 : N < 1000000000) (d1 : 1 ≤ D) (d2 : D ≤ 65536)
    (X1 : Hid (∀ w, Calls Try.prog 17 #[.agg #[.int .i64 2], .int .i64 N, .int .i64 D] w fun e w' => e = .returned (.tuple #[.int .i64 A, .int .i64 0]) ∧ Ext w w'))
    (X2 : Hid (∀ w, Calls Try.prog 17 #[.agg #[.int .i64 2], .int .i64 (-N), .int .i64 D] w fun e w' => e = .returned (.tuple #[.int .i64 B, .int .i64 0]) ∧ Ext w w'))
    (X3 : Hid (∀ w, Calls Try.prog 17 #[.agg #[.int .i64 1], .int .i64 N, .int .i64 D] w fun e w' => e = .returned (.tuple #[.int .i64 U, .int .i64 0]) ∧ Ext w w'))
    (X4 : Hid (∀ w, Calls Try.prog 17 #[.agg #[.int .i64 1], .int .i64 (-N), .int .i64 D] w fun e w' => e = .returned (.tuple #[.int .i64 V, .int .i64 0]) ∧ Ext w w'))
    (X5 : Hid (∀ w, Calls Try.prog 17 #[.agg #[.int .i64 3], .int .i64 N, .int .i64 D] w fun e w' => e = .returned (.tuple #[.int .i64 X, .int .i64 0]) ∧ Ext w w'))
    (X6 : Hid (∀ w, Calls Try.prog 17 #[.agg #[.int .i64 3], .int .i64 (-N), .int .i64 D] w fun e w' => e = .returned (.tuple #[.int .i64 Y, .int .i64 0]) ∧ Ext w w'))
    (b1 : -10000000000 ≤ A ∧ A ≤ 10000000000) (b2 : -10000000000 ≤ B ∧ B ≤ 10000000000) (b3 : -10000000000 ≤ U ∧ U ≤ 10000000000) (b4 : -10000000000 ≤ V ∧ V ≤ 10000000000) (b5 : -10000000000 ≤ X ∧ X ≤ 10000000000) (b6 : -10000000000 ≤ Y ∧ Y ≤ 10000000000)
    (t1 : -65536 < N.tmod D) (t2 : N.tmod D < 65536)
    (f1 : (A == -B) = true) (f2 : (U + V == 1) = false) (f3 : (2 * N.tmod D == D) = false) (f4 : (2 * N.tmod D == -D) = false) (f5 : (U == -V) = true) (f6 : (X == -Y) = true) (f7 : (N.tmod D == 0) = true) :
    Calls Try.prog 8 #[.int .i64 a0, .int .i64 a1] w fun e w' => e = .returned (.bool true) ∧ Ext w w' := by
  obtain ⟨b1a, b1b⟩ := b1; obtain ⟨b2a, b2b⟩ := b2; obtain ⟨b3a, b3b⟩ := b3; obtain ⟨b4a, b4b⟩ := b4; obtain ⟨b5a, b5b⟩ := b5; obtain ⟨b6a, b6b⟩ := b6
  go_enter Try.func8, Try.ntmps8
  go_wp2_with fail
  simp only [HN.out, HD.out]
  refine (of_2 _).mono ?_
  rintro e w1 ⟨rfl, x1⟩
  go_wp2_with fail
  refine (of_1 _).mono ?_
  rintro e w2 ⟨rfl, hx⟩
  have w2cw1 : w2.cell? ⟨w1.heap.size, 0, none⟩ = some (.int .i64 2) := by rw [hx.cell _ _ (by simp)]; simp [go_sem]
  have s2 := lt_of_cell w2cw1
  have x2 : Ext w w2 := Ext.trans (by repeat (first | exact x1 | apply Ext.alloc)) hx
  clear hx x1
  go_wp2_with fail
  refine (of_3 _).mono ?_
  rintro e w3 ⟨rfl, hx⟩
  have w3cw1 : w3.cell? ⟨w1.heap.size, 0, none⟩ = some (.int .i64 2) := by rw [hx.cell _ _ (by simp; omega), World.cell?_alloc_past _ _ _ s2]; exact w2cw1
  have w3cw2 : w3.cell? ⟨w2.heap.size, 0, none⟩ = some (.int .i64 1) := by rw [hx.cell _ _ (by simp)]; simp [go_sem]
  have s3 := lt_of_cell w3cw1
  have s3' := lt_of_cell w3cw2
  have x3 : Ext w w3 := Ext.trans (by repeat (first | exact x2 | apply Ext.alloc)) hx
  clear hx x2 w2cw1 s2
  go_wp2_with fail
  refine (X1.out _).mono ?_
  rintro e w4 ⟨rfl, hx⟩
  have w4cw1 : w4.cell? ⟨w1.heap.size, 0, none⟩ = some (.int .i64 2) := by rw [hx.cell _ _ (by simp; omega), World.cell?_alloc_past _ _ _ s3]; exact w3cw1
  have w4cw2 : w4.cell? ⟨w2.heap.size, 0, none⟩ = some (.int .i64 1) := by rw [hx.cell _ _ (by simp; omega), World.cell?_alloc_past _ _ _ s3']; exact w3cw2
  have w4cw3 : w4.cell? ⟨w3.heap.size, 0, none⟩ = some (.int .i64 3) := by rw [hx.cell _ _ (by simp)]; simp [go_sem]
  have w4x : Ext w w4 := Ext.trans (by repeat (first | exact x3 | apply Ext.alloc)) hx
  clear hx x3 w3cw1 w3cw2 s3 s3'
  go_wp2_with fail
  refine (X2.out _).mono ?_
  rintro e w5 ⟨rfl, hx⟩
  have w5cw2 : w5.cell? ⟨w2.heap.size, 0, none⟩ = some (.int .i64 1) := by rw [hx.cell _ _ (lt_of_cell w4cw2)]; exact w4cw2
  have w5cw3 : w5.cell? ⟨w3.heap.size, 0, none⟩ = some (.int .i64 3) := by rw [hx.cell _ _ (lt_of_cell w4cw3)]; exact w4cw3
  have w5x : Ext w w5 := w4x.trans hx
  clear hx w4x w4cw1 w4cw2 w4cw3
  go_wp2_with fail
  refine (X3.out _).mono ?_
  rintro e w6 ⟨rfl, hx⟩
  have w6cw2 : w6.cell? ⟨w2.heap.size, 0, none⟩ = some (.int .i64 1) := by rw [hx.cell _ _ (lt_of_cell w5cw2)]; exact w5cw2
  have w6cw3 : w6.cell? ⟨w3.heap.size, 0, none⟩ = some (.int .i64 3) := by rw [hx.cell _ _ (lt_of_cell w5cw3)]; exact w5cw3
  have w6x : Ext w w6 := w5x.trans hx
  clear hx w5x w5cw2 w5cw3
  go_wp2_with fail
  refine (X4.out _).mono ?_
  rintro e w7 ⟨rfl, hx⟩
  have w7cw3 : w7.cell? ⟨w3.heap.size, 0, none⟩ = some (.int .i64 3) := by rw [hx.cell _ _ (lt_of_cell w6cw3)]; exact w6cw3
  have w7x : Ext w w7 := w6x.trans hx
  clear hx w6x w6cw2 w6cw3
  go_wp2_with fail
  refine (X5.out _).mono ?_
  rintro e w8 ⟨rfl, hx⟩
  have w8cw3 : w8.cell? ⟨w3.heap.size, 0, none⟩ = some (.int .i64 3) := by rw [hx.cell _ _ (lt_of_cell w7cw3)]; exact w7cw3
  have w8x : Ext w w8 := w7x.trans hx
  clear hx w7x w7cw3
  go_wp2_with fail
  refine (X6.out _).mono ?_
  rintro e w9 ⟨rfl, hx⟩
  have w9x : Ext w w9 := w8x.trans hx
  clear hx w8x w8cw3
  go_wp2_with fail
  refine (awake_any _).mono ?_
  rintro e w10 ⟨rfl, hx⟩
  have x10 := w9x.trans hx
  clear hx w9x
  go_wp2_with fail
  go_ret
  exact ⟨rfl, x10⟩

set_option maxRecDepth 100000 in
set_option maxHeartbeats 2000000 in
theorem turned_2 (a0 a1 N D A B U V X Y : Int) (w : World) (HN : Hid (a0.tmod 1000000000 = N)) (HD : Hid (wrap64 (1 + bits .and .i64 a1 65535) = D))
    (n1 : -1000000000 < N) (n2 : N < 1000000000) (d1 : 1 ≤ D) (d2 : D ≤ 65536)
    (X1 : Hid (∀ w, Calls Try.prog 17 #[.agg #[.int .i64 2], .int .i64 N, .int .i64 D] w fun e w' => e = .returned (.tuple #[.int .i64 A, .int .i64 0]) ∧ Ext w w'))
    (X2 : Hid (∀ w, Calls Try.prog 17 #[.agg #[.int .i64 2], .int .i64 (-N), .int .i64 D] w fun e w' => e = .returned (.tuple #[.int .i64 B, .int .i64 0]) ∧ Ext w w'))
    (X3 : Hid (∀ w, Calls Try.prog 17 #[.agg #[.int .i64 1], .int .i64 N, .int .i64 D] w fun e w' => e = .returned (.tuple #[.int .i64 U, .int .i64 0]) ∧ Ext w w'))
    (X4 : Hid (∀ w, Calls Try.prog 17 #[.agg #[.int .i64 1], .int .i64 (-N), .int .i64 D] w fun e w' => e = .returned (.tuple #[.int .i64 V, .int .i64 0]) ∧ Ext w w'))
    (X5 : Hid (∀ w, Calls Try.prog 17 #[.agg #[.int .i64 3], .int .i64 N, .int .i64 D] w fun e w' => e = .returned (.tuple #[.int .i64 X, .int .i64 0]) ∧ Ext w w'))
    (X6 : Hid (∀ w, Calls Try.prog 17 #[.agg #[.int .i64 3], .int .i64 (-N), .int .i64 D] w fun e w' => e = .returned (.tuple #[.int .i64 Y, .int .i64 0]) ∧ Ext w w'))
    (b1 : -10000000000 ≤ A ∧ A ≤ 10000000000) (b2 : -10000000000 ≤ B ∧ B ≤ 10000000000) (b3 : -10000000000 ≤ U ∧ U ≤ 10000000000) (b4 : -10000000000 ≤ V ∧ V ≤ 10000000000) (b5 : -10000000000 ≤ X ∧ X ≤ 10000000000) (b6 : -10000000000 ≤ Y ∧ Y ≤ 10000000000)
    (t1 : -65536 < N.tmod D) (t2 : N.tmod D < 65536)
    (f1 : (A == -B) = true) (f2 : (U + V == 1) = false) (f3 : (2 * N.tmod D == D) = false) (f4 : (2 * N.tmod D == -D) = false) (f5 : (U == -V) = true) (f6 : (X == -Y) = false) (f7 : (N.tmod D == 0) = false) (f8 : (X + Y == -1) = true) :
    Calls Try.prog 8 #[.int .i64 a0, .int .i64 a1] w fun e w' => e = .returned (.bool true) ∧ Ext w w' := by
  obtain ⟨b1a, b1b⟩ := b1; obtain ⟨b2a, b2b⟩ := b2; obtain ⟨b3a, b3b⟩ := b3; obtain ⟨b4a, b4b⟩ := b4; obtain ⟨b5a, b5b⟩ := b5; obtain ⟨b6a, b6b⟩ := b6
  go_enter Try.func8, Try.ntmps8
  go_wp2_with fail
  simp only [HN.out, HD.out]
  refine (of_2 _).mono ?_
  rintro e w1 ⟨rfl, x1⟩
  go_wp2_with fail
  refine (of_1 _).mono ?_
  rintro e w2 ⟨rfl, hx⟩
  have w2cw1 : w2.cell? ⟨w1.heap.size, 0, none⟩ = some (.int .i64 2) := by rw [hx.cell _ _ (by simp)]; simp [go_sem]
  have s2 := lt_of_cell w2cw1
  have x2 : Ext w w2 := Ext.trans (by repeat (first | exact x1 | apply Ext.alloc)) hx
  clear hx x1
  go_wp2_with fail
  refine (of_3 _).mono ?_
  rintro e w3 ⟨rfl, hx⟩
  have w3cw1 : w3.cell? ⟨w1.heap.size, 0, none⟩ = some (.int .i64 2) := by rw [hx.cell _ _ (by simp; omega), World.cell?_alloc_past _ _ _ s2]; exact w2cw1
  have w3cw2 : w3.cell? ⟨w2.heap.size, 0, none⟩ = some (.int .i64 1) := by rw [hx.cell _ _ (by simp)]; simp [go_sem]
  have s3 := lt_of_cell w3cw1
  have s3' := lt_of_cell w3cw2
  have x3 : Ext w w3 := Ext.trans (by repeat (first | exact x2 | apply Ext.alloc)) hx
  clear hx x2 w2cw1 s2
  go_wp2_with fail
  refine (X1.out _).mono ?_
  rintro e w4 ⟨rfl, hx⟩
  have w4cw1 : w4.cell? ⟨w1.heap.size, 0, none⟩ = some (.int .i64 2) := by rw [hx.cell _ _ (by simp; omega), World.cell?_alloc_past _ _ _ s3]; exact w3cw1
  have w4cw2 : w4.cell? ⟨w2.heap.size, 0, none⟩ = some (.int .i64 1) := by rw [hx.cell _ _ (by simp; omega), World.cell?_alloc_past _ _ _ s3']; exact w3cw2
  have w4cw3 : w4.cell? ⟨w3.heap.size, 0, none⟩ = some (.int .i64 3) := by rw [hx.cell _ _ (by simp)]; simp [go_sem]
  have w4x : Ext w w4 := Ext.trans (by repeat (first | exact x3 | apply Ext.alloc)) hx
  clear hx x3 w3cw1 w3cw2 s3 s3'
  go_wp2_with fail
  refine (X2.out _).mono ?_
  rintro e w5 ⟨rfl, hx⟩
  have w5cw2 : w5.cell? ⟨w2.heap.size, 0, none⟩ = some (.int .i64 1) := by rw [hx.cell _ _ (lt_of_cell w4cw2)]; exact w4cw2
  have w5cw3 : w5.cell? ⟨w3.heap.size, 0, none⟩ = some (.int .i64 3) := by rw [hx.cell _ _ (lt_of_cell w4cw3)]; exact w4cw3
  have w5x : Ext w w5 := w4x.trans hx
  clear hx w4x w4cw1 w4cw2 w4cw3
  go_wp2_with fail
  refine (X3.out _).mono ?_
  rintro e w6 ⟨rfl, hx⟩
  have w6cw2 : w6.cell? ⟨w2.heap.size, 0, none⟩ = some (.int .i64 1) := by rw [hx.cell _ _ (lt_of_cell w5cw2)]; exact w5cw2
  have w6cw3 : w6.cell? ⟨w3.heap.size, 0, none⟩ = some (.int .i64 3) := by rw [hx.cell _ _ (lt_of_cell w5cw3)]; exact w5cw3
  have w6x : Ext w w6 := w5x.trans hx
  clear hx w5x w5cw2 w5cw3
  go_wp2_with fail
  refine (X4.out _).mono ?_
  rintro e w7 ⟨rfl, hx⟩
  have w7cw3 : w7.cell? ⟨w3.heap.size, 0, none⟩ = some (.int .i64 3) := by rw [hx.cell _ _ (lt_of_cell w6cw3)]; exact w6cw3
  have w7x : Ext w w7 := w6x.trans hx
  clear hx w6x w6cw2 w6cw3
  go_wp2_with fail
  refine (X5.out _).mono ?_
  rintro e w8 ⟨rfl, hx⟩
  have w8cw3 : w8.cell? ⟨w3.heap.size, 0, none⟩ = some (.int .i64 3) := by rw [hx.cell _ _ (lt_of_cell w7cw3)]; exact w7cw3
  have w8x : Ext w w8 := w7x.trans hx
  clear hx w7x w7cw3
  go_wp2_with fail
  refine (X6.out _).mono ?_
  rintro e w9 ⟨rfl, hx⟩
  have w9x : Ext w w9 := w8x.trans hx
  clear hx w8x w8cw3
  go_wp2_with fail
  refine (awake_any _).mono ?_
  rintro e w10 ⟨rfl, hx⟩
  have x10 := w9x.trans hx
  clear hx w9x
  go_wp2_with fail
  go_ret
  exact ⟨rfl, x10⟩

set_option maxRecDepth 100000 in
set_option maxHeartbeats 2000000 in
theorem turned_3 (a0 a1 N D A B U V X Y : Int) (w : World) (HN : Hid (a0.tmod 1000000000 = N)) (HD : Hid (wrap64 (1 + bits .and .i64 a1 65535) = D))
    (n1 : -1000000000 < N) (n2 : N < 1000000000) (d1 : 1 ≤ D) (d2 : D ≤ 65536)
    (X1 : Hid (∀ w, Calls Try.prog 17 #[.agg #[.int .i64 2], .int .i64 N, .int .i64 D] w fun e w' => e = .returned (.tuple #[.int .i64 A, .int .i64 0]) ∧ Ext w w'))
    (X2 : Hid (∀ w, Calls Try.prog 17 #[.agg #[.int .i64 2], .int .i64 (-N), .int .i64 D] w fun e w' => e = .returned (.tuple #[.int .i64 B, .int .i64 0]) ∧ Ext w w'))
    (X3 : Hid (∀ w, Calls Try.prog 17 #[.agg #[.int .i64 1], .int .i64 N, .int .i64 D] w fun e w' => e = .returned (.tuple #[.int .i64 U, .int .i64 0]) ∧ Ext w w'))
    (X4 : Hid (∀ w, Calls Try.prog 17 #[.agg #[.int .i64 1], .int .i64 (-N), .int .i64 D] w fun e w' => e = .returned (.tuple #[.int .i64 V, .int .i64 0]) ∧ Ext w w'))
    (X5 : Hid (∀ w, Calls Try.prog 17 #[.agg #[.int .i64 3], .int .i64 N, .int .i64 D] w fun e w' => e = .returned (.tuple #[.int .i64 X, .int .i64 0]) ∧ Ext w w'))
    (X6 : Hid (∀ w, Calls Try.prog 17 #[.agg #[.int .i64 3], .int .i64 (-N), .int .i64 D] w fun e w' => e = .returned (.tuple #[.int .i64 Y, .int .i64 0]) ∧ Ext w w'))
    (b1 : -10000000000 ≤ A ∧ A ≤ 10000000000) (b2 : -10000000000 ≤ B ∧ B ≤ 10000000000) (b3 : -10000000000 ≤ U ∧ U ≤ 10000000000) (b4 : -10000000000 ≤ V ∧ V ≤ 10000000000) (b5 : -10000000000 ≤ X ∧ X ≤ 10000000000) (b6 : -10000000000 ≤ Y ∧ Y ≤ 10000000000)
    (t1 : -65536 < N.tmod D) (t2 : N.tmod D < 65536)
    (f1 : (A == -B) = true) (f2 : (U + V == 1) = true) (f3 : (2 * N.tmod D == D) = true) (f6 : (X == -Y) = false) (f7 : (N.tmod D == 0) = false) (f8 : (X + Y == -1) = true) :
    Calls Try.prog 8 #[.int .i64 a0, .int .i64 a1] w fun e w' => e = .returned (.bool true) ∧ Ext w w' := by
  obtain ⟨b1a, b1b⟩ := b1; obtain ⟨b2a, b2b⟩ := b2; obtain ⟨b3a, b3b⟩ := b3; obtain ⟨b4a, b4b⟩ := b4; obtain ⟨b5a, b5b⟩ := b5; obtain ⟨b6a, b6b⟩ := b6
  go_enter Try.func8, Try.ntmps8
  go_wp2_with fail
  simp only [HN.out, HD.out]
  refine (of_2 _).mono ?_
  rintro e w1 ⟨rfl, x1⟩
  go_wp2_with fail
  refine (of_1 _).mono ?_
  rintro e w2 ⟨rfl, hx⟩
  have w2cw1 : w2.cell? ⟨w1.heap.size, 0, none⟩ = some (.int .i64 2) := by rw [hx.cell _ _ (by simp)]; simp [go_sem]
  have s2 := lt_of_cell w2cw1
  have x2 : Ext w w2 := Ext.trans (by repeat (first | exact x1 | apply Ext.alloc)) hx
  clear hx x1
  go_wp2_with fail
  refine (of_3 _).mono ?_
  rintro e w3 ⟨rfl, hx⟩
  have w3cw1 : w3.cell? ⟨w1.heap.size, 0, none⟩ = some (.int .i64 2) := by rw [hx.cell _ _ (by simp; omega), World.cell?_alloc_past _ _ _ s2]; exact w2cw1
  have w3cw2 : w3.cell? ⟨w2.heap.size, 0, none⟩ = some (.int .i64 1) := by rw [hx.cell _ _ (by simp)]; simp [go_sem]
  have s3 := lt_of_cell w3cw1
  have s3' := lt_of_cell w3cw2
  have x3 : Ext w w3 := Ext.trans (by repeat (first | exact x2 | apply Ext.alloc)) hx
  clear hx x2 w2cw1 s2
  go_wp2_with fail
  refine (X1.out _).mono ?_
  rintro e w4 ⟨rfl, hx⟩
  have w4cw1 : w4.cell? ⟨w1.heap.size, 0, none⟩ = some (.int .i64 2) := by rw [hx.cell _ _ (by simp; omega), World.cell?_alloc_past _ _ _ s3]; exact w3cw1
  have w4cw2 : w4.cell? ⟨w2.heap.size, 0, none⟩ = some (.int .i64 1) := by rw [hx.cell _ _ (by simp; omega), World.cell?_alloc_past _ _ _ s3']; exact w3cw2
  have w4cw3 : w4.cell? ⟨w3.heap.size, 0, none⟩ = some (.int .i64 3) := by rw [hx.cell _ _ (by simp)]; simp [go_sem]
  have w4x : Ext w w4 := Ext.trans (by repeat (first | exact x3 | apply Ext.alloc)) hx
  clear hx x3 w3cw1 w3cw2 s3 s3'
  go_wp2_with fail
  refine (X2.out _).mono ?_
  rintro e w5 ⟨rfl, hx⟩
  have w5cw2 : w5.cell? ⟨w2.heap.size, 0, none⟩ = some (.int .i64 1) := by rw [hx.cell _ _ (lt_of_cell w4cw2)]; exact w4cw2
  have w5cw3 : w5.cell? ⟨w3.heap.size, 0, none⟩ = some (.int .i64 3) := by rw [hx.cell _ _ (lt_of_cell w4cw3)]; exact w4cw3
  have w5x : Ext w w5 := w4x.trans hx
  clear hx w4x w4cw1 w4cw2 w4cw3
  go_wp2_with fail
  refine (X3.out _).mono ?_
  rintro e w6 ⟨rfl, hx⟩
  have w6cw2 : w6.cell? ⟨w2.heap.size, 0, none⟩ = some (.int .i64 1) := by rw [hx.cell _ _ (lt_of_cell w5cw2)]; exact w5cw2
  have w6cw3 : w6.cell? ⟨w3.heap.size, 0, none⟩ = some (.int .i64 3) := by rw [hx.cell _ _ (lt_of_cell w5cw3)]; exact w5cw3
  have w6x : Ext w w6 := w5x.trans hx
  clear hx w5x w5cw2 w5cw3
  go_wp2_with fail
  refine (X4.out _).mono ?_
  rintro e w7 ⟨rfl, hx⟩
  have w7cw3 : w7.cell? ⟨w3.heap.size, 0, none⟩ = some (.int .i64 3) := by rw [hx.cell _ _ (lt_of_cell w6cw3)]; exact w6cw3
  have w7x : Ext w w7 := w6x.trans hx
  clear hx w6x w6cw2 w6cw3
  go_wp2_with fail
  refine (X5.out _).mono ?_
  rintro e w8 ⟨rfl, hx⟩
  have w8cw3 : w8.cell? ⟨w3.heap.size, 0, none⟩ = some (.int .i64 3) := by rw [hx.cell _ _ (lt_of_cell w7cw3)]; exact w7cw3
  have w8x : Ext w w8 := w7x.trans hx
  clear hx w7x w7cw3
  go_wp2_with fail
  refine (X6.out _).mono ?_
  rintro e w9 ⟨rfl, hx⟩
  have w9x : Ext w w9 := w8x.trans hx
  clear hx w8x w8cw3
  go_wp2_with fail
  refine (awake_any _).mono ?_
  rintro e w10 ⟨rfl, hx⟩
  have x10 := w9x.trans hx
  clear hx w9x
  go_wp2_with fail
  go_ret
  exact ⟨rfl, x10⟩

set_option maxRecDepth 100000 in
set_option maxHeartbeats 2000000 in
theorem turned_4 (a0 a1 N D A B U V X Y : Int) (w : World) (HN : Hid (a0.tmod 1000000000 = N)) (HD : Hid (wrap64 (1 + bits .and .i64 a1 65535) = D))
    (n1 : -1000000000 < N) (n2 : N < 1000000000) (d1 : 1 ≤ D) (d2 : D ≤ 65536)
    (X1 : Hid (∀ w, Calls Try.prog 17 #[.agg #[.int .i64 2], .int .i64 N, .int .i64 D] w fun e w' => e = .returned (.tuple #[.int .i64 A, .int .i64 0]) ∧ Ext w w'))
    (X2 : Hid (∀ w, Calls Try.prog 17 #[.agg #[.int .i64 2], .int .i64 (-N), .int .i64 D] w fun e w' => e = .returned (.tuple #[.int .i64 B, .int .i64 0]) ∧ Ext w w'))
    (X3 : Hid (∀ w, Calls Try.prog 17 #[.agg #[.int .i64 1], .int .i64 N, .int .i64 D] w fun e w' => e = .returned (.tuple #[.int .i64 U, .int .i64 0]) ∧ Ext w w'))
    (X4 : Hid (∀ w, Calls Try.prog 17 #[.agg #[.int .i64 1], .int .i64 (-N), .int .i64 D] w fun e w' => e = .returned (.tuple #[.int .i64 V, .int .i64 0]) ∧ Ext w w'))
    (X5 : Hid (∀ w, Calls Try.prog 17 #[.agg #[.int .i64 3], .int .i64 N, .int .i64 D] w fun e w' => e = .returned (.tuple #[.int .i64 X, .int .i64 0]) ∧ Ext w w'))
    (X6 : Hid (∀ w, Calls Try.prog 17 #[.agg #[.int .i64 3], .int .i64 (-N), .int .i64 D] w fun e w' => e = .returned (.tuple #[.int .i64 Y, .int .i64 0]) ∧ Ext w w'))
    (b1 : -10000000000 ≤ A ∧ A ≤ 10000000000) (b2 : -10000000000 ≤ B ∧ B ≤ 10000000000) (b3 : -10000000000 ≤ U ∧ U ≤ 10000000000) (b4 : -10000000000 ≤ V ∧ V ≤ 10000000000) (b5 : -10000000000 ≤ X ∧ X ≤ 10000000000) (b6 : -10000000000 ≤ Y ∧ Y ≤ 10000000000)
    (t1 : -65536 < N.tmod D) (t2 : N.tmod D < 65536)
    (f1 : (A == -B) = true) (f2 : (U + V == 1) = true) (f3 : (2 * N.tmod D == D) = false) (f4 : (2 * N.tmod D == -D) = true) (f6 : (X == -Y) = false) (f7 : (N.tmod D == 0) = false) (f8 : (X + Y == -1) = true) :
    Calls Try.prog 8 #[.int .i64 a0, .int .i64 a1] w fun e w' => e = .returned (.bool true) ∧ Ext w w' := by
  obtain ⟨b1a, b1b⟩ := b1; obtain ⟨b2a, b2b⟩ := b2; obtain ⟨b3a, b3b⟩ := b3; obtain ⟨b4a, b4b⟩ := b4; obtain ⟨b5a, b5b⟩ := b5; obtain ⟨b6a, b6b⟩ := b6
  go_enter Try.func8, Try.ntmps8
  go_wp2_with fail
  simp only [HN.out, HD.out]
  refine (of_2 _).mono ?_
  rintro e w1 ⟨rfl, x1⟩
  go_wp2_with fail
  refine (of_1 _).mono ?_
  rintro e w2 ⟨rfl, hx⟩
  have w2cw1 : w2.cell? ⟨w1.heap.size, 0, none⟩ = some (.int .i64 2) := by rw [hx.cell _ _ (by simp)]; simp [go_sem]
  have s2 := lt_of_cell w2cw1
  have x2 : Ext w w2 := Ext.trans (by repeat (first | exact x1 | apply Ext.alloc)) hx
  clear hx x1
  go_wp2_with fail
  refine (of_3 _).mono ?_
  rintro e w3 ⟨rfl, hx⟩
  have w3cw1 : w3.cell? ⟨w1.heap.size, 0, none⟩ = some (.int .i64 2) := by rw [hx.cell _ _ (by simp; omega), World.cell?_alloc_past _ _ _ s2]; exact w2cw1
  have w3cw2 : w3.cell? ⟨w2.heap.size, 0, none⟩ = some (.int .i64 1) := by rw [hx.cell _ _ (by simp)]; simp [go_sem]
  have s3 := lt_of_cell w3cw1
  have s3' := lt_of_cell w3cw2
  have x3 : Ext w w3 := Ext.trans (by repeat (first | exact x2 | apply Ext.alloc)) hx
  clear hx x2 w2cw1 s2
  go_wp2_with fail
  refine (X1.out _).mono ?_
  rintro e w4 ⟨rfl, hx⟩
  have w4cw1 : w4.cell? ⟨w1.heap.size, 0, none⟩ = some (.int .i64 2) := by rw [hx.cell _ _ (by simp; omega), World.cell?_alloc_past _ _ _ s3]; exact w3cw1
  have w4cw2 : w4.cell? ⟨w2.heap.size, 0, none⟩ = some (.int .i64 1) := by rw [hx.cell _ _ (by simp; omega), World.cell?_alloc_past _ _ _ s3']; exact w3cw2
  have w4cw3 : w4.cell? ⟨w3.heap.size, 0, none⟩ = some (.int .i64 3) := by rw [hx.cell _ _ (by simp)]; simp [go_sem]
  have w4x : Ext w w4 := Ext.trans (by repeat (first | exact x3 | apply Ext.alloc)) hx
  clear hx x3 w3cw1 w3cw2 s3 s3'
  go_wp2_with fail
  refine (X2.out _).mono ?_
  rintro e w5 ⟨rfl, hx⟩
  have w5cw2 : w5.cell? ⟨w2.heap.size, 0, none⟩ = some (.int .i64 1) := by rw [hx.cell _ _ (lt_of_cell w4cw2)]; exact w4cw2
  have w5cw3 : w5.cell? ⟨w3.heap.size, 0, none⟩ = some (.int .i64 3) := by rw [hx.cell _ _ (lt_of_cell w4cw3)]; exact w4cw3
  have w5x : Ext w w5 := w4x.trans hx
  clear hx w4x w4cw1 w4cw2 w4cw3
  go_wp2_with fail
  refine (X3.out _).mono ?_
  rintro e w6 ⟨rfl, hx⟩
  have w6cw2 : w6.cell? ⟨w2.heap.size, 0, none⟩ = some (.int .i64 1) := by rw [hx.cell _ _ (lt_of_cell w5cw2)]; exact w5cw2
  have w6cw3 : w6.cell? ⟨w3.heap.size, 0, none⟩ = some (.int .i64 3) := by rw [hx.cell _ _ (lt_of_cell w5cw3)]; exact w5cw3
  have w6x : Ext w w6 := w5x.trans hx
  clear hx w5x w5cw2 w5cw3
  go_wp2_with fail
  refine (X4.out _).mono ?_
  rintro e w7 ⟨rfl, hx⟩
  have w7cw3 : w7.cell? ⟨w3.heap.size, 0, none⟩ = some (.int .i64 3) := by rw [hx.cell _ _ (lt_of_cell w6cw3)]; exact w6cw3
  have w7x : Ext w w7 := w6x.trans hx
  clear hx w6x w6cw2 w6cw3
  go_wp2_with fail
  refine (X5.out _).mono ?_
  rintro e w8 ⟨rfl, hx⟩
  have w8cw3 : w8.cell? ⟨w3.heap.size, 0, none⟩ = some (.int .i64 3) := by rw [hx.cell _ _ (lt_of_cell w7cw3)]; exact w7cw3
  have w8x : Ext w w8 := w7x.trans hx
  clear hx w7x w7cw3
  go_wp2_with fail
  refine (X6.out _).mono ?_
  rintro e w9 ⟨rfl, hx⟩
  have w9x : Ext w w9 := w8x.trans hx
  clear hx w8x w8cw3
  go_wp2_with fail
  refine (awake_any _).mono ?_
  rintro e w10 ⟨rfl, hx⟩
  have x10 := w9x.trans hx
  clear hx w9x
  go_wp2_with fail
  go_ret
  exact ⟨rfl, x10⟩

theorem walk (a0 : Int) (a1 : Int) (w0 : (Lit.int .i64 a0).wf = true) (w1 : (Lit.int .i64 a1).wf = true) (w : World) :
    Calls Try.prog 8 #[.int .i64 a0, .int .i64 a1] w fun e w' => e = .returned (.bool true) ∧ Grown w w' := by
  clear w0 w1
  obtain ⟨N, HN, n1, n2⟩ := n_of_tmod a0 1000000000 (by omega)
  obtain ⟨D, HD, d1, d2⟩ := d_of_mask16 a1
  have hD : 0 < D := by omega
  have X : ∀ m n, (m = 1 ∨ m = 2 ∨ m = 3) → -1000000000 < n → n < 1000000000 → Hid (∀ w, Calls Try.prog 17 #[.agg #[.int .i64 m], .int .i64 n, .int .i64 D] w fun e w' => e = .returned (.tuple #[.int .i64 (rnd m n D), .int .i64 0]) ∧ Ext w w') :=
    fun m n hm h1 h2 w => divide_small m n D w hm (by omega) (by omega) d1 (by omega)
  have B : ∀ m n, (m = 1 ∨ m = 2 ∨ m = 3) → -1000000000 < n → n < 1000000000 → -10000000000 ≤ rnd m n D ∧ rnd m n D ≤ 10000000000 := fun m n hm h1 h2 => by
    have := rnd_bound m n D 1000000000 hm d1 (by omega) (by omega)
    omega
  have tb := tmod_bound N D hD
  obtain ⟨e, r1, r2⟩ := div_rest N D hD
  have tp := tmod_parts N D hD
  by_cases h0 : N % D = 0
  · obtain ⟨e1, e2⟩ := none_turned N D hD h0
    have v : ∀ m, rnd m N D = N / D ∧ rnd m (-N) D = -(N / D) := fun m => by
      unfold rnd
      rw [e1, e2, h0, up_zero _ _ _ hD, up_zero _ _ _ hD]
      simp
    have b2 := X 2 N (by decide) n1 n2; have b2' := X 2 (-N) (by decide) (by omega) (by omega)
    have b1 := X 1 N (by decide) n1 n2; have b1' := X 1 (-N) (by decide) (by omega) (by omega)
    have b3 := X 3 N (by decide) n1 n2; have b3' := X 3 (-N) (by decide) (by omega) (by omega)
    have q := B 2 N (by decide) n1 n2; have q' := B 2 (-N) (by decide) (by omega) (by omega)
    rw [(v _).1] at b1 b2 b3 q
    rw [(v _).2] at b1' b2' b3' q'
    exact (turned_1 a0 a1 N D _ _ _ _ _ _ w HN HD n1 n2 d1 d2 b2 b2' b1 b1' b3 b3' q q' q q' q q' (by omega) (by omega) (by simp) (by simp; omega) (by simp; omega) (by simp; omega) (by simp) (by simp) (by simp; omega)).mono fun e w' h => ⟨h.1, h.2.grown⟩
  · obtain ⟨e1, e2⟩ := rest_turned N D hD (by omega)
    have b2 := X 2 N (by decide) n1 n2; have b2' := X 2 (-N) (by decide) (by omega) (by omega)
    have b1 := X 1 N (by decide) n1 n2; have b1' := X 1 (-N) (by decide) (by omega) (by omega)
    have b3 := X 3 N (by decide) n1 n2; have b3' := X 3 (-N) (by decide) (by omega) (by omega)
    have q2 := B 2 N (by decide) n1 n2; have q2' := B 2 (-N) (by decide) (by omega) (by omega)
    have q1 := B 1 N (by decide) n1 n2; have q1' := B 1 (-N) (by decide) (by omega) (by omega)
    have q3 := B 3 N (by decide) n1 n2; have q3' := B 3 (-N) (by decide) (by omega) (by omega)
    have d3 : rnd 3 N D = N / D ∧ rnd 3 (-N) D = -(N / D) - 1 := by unfold rnd; rw [e1]; simp [upB]
    have ev : rnd 2 N D = -rnd 2 (-N) D := by
      unfold rnd
      rw [e1, e2]
      by_cases hl : D - N % D < N % D
      · have u1 : upB 2 (N / D) (N % D) D = true := by simp [upB, hl]
        have u2 : upB 2 (-(N / D) - 1) (D - N % D) D = false := by simp [upB]; omega
        rw [u1, u2]; simp; omega
      · by_cases hg : N % D < D - N % D
        · have u1 : upB 2 (N / D) (N % D) D = false := by simp [upB]; omega
          have u2 : upB 2 (-(N / D) - 1) (D - N % D) D = true := by simp [upB]; omega
          rw [u1, u2]; simp
        · by_cases hp : N / D % 2 = 0
          · have u1 : upB 2 (N / D) (N % D) D = false := by simp [upB, hp]; omega
            have u2 : upB 2 (-(N / D) - 1) (D - N % D) D = true := by simp [upB]; omega
            rw [u1, u2]; simp
          · have u1 : upB 2 (N / D) (N % D) D = true := by simp [upB, hp]; omega
            have u2 : upB 2 (-(N / D) - 1) (D - N % D) D = false := by simp [upB]; omega
            rw [u1, u2]; simp; omega
    have uu : (N % D = D - N % D → rnd 1 N D + rnd 1 (-N) D = 1) ∧ (¬ N % D = D - N % D → rnd 1 N D = -rnd 1 (-N) D) := by
      unfold rnd
      rw [e1, e2]
      by_cases hl : D - N % D ≤ N % D
      · have u1 : upB 1 (N / D) (N % D) D = true := by simp [upB, hl]
        rw [u1]
        by_cases hk : D - (D - N % D) ≤ D - N % D
        · have u2 : upB 1 (-(N / D) - 1) (D - N % D) D = true := by simp [upB]; omega
          rw [u2]; simp; omega
        · have u2 : upB 1 (-(N / D) - 1) (D - N % D) D = false := by simp [upB]; omega
          rw [u2]; simp; omega
      · have u1 : upB 1 (N / D) (N % D) D = false := by simp [upB, hl]
        have u2 : upB 1 (-(N / D) - 1) (D - N % D) D = true := by simp [upB]; omega
        rw [u1, u2]; simp; omega
    rw [d3.1] at b3 q3
    rw [d3.2] at b3' q3'
    obtain ⟨uu1, uu2⟩ := uu
    clear X B d3
    generalize rnd 2 N D = A2 at *
    generalize rnd 2 (-N) D = B2 at *
    generalize rnd 1 N D = A1 at *
    generalize rnd 1 (-N) D = B1 at *
    by_cases hh : N % D = D - N % D
    · have k1 := uu1 hh
      by_cases ht : 2 * N.tmod D = D
      · exact (turned_3 a0 a1 N D _ _ _ _ _ _ w HN HD n1 n2 d1 d2 b2 b2' b1 b1' b3 b3' q2 q2' q1 q1' q3 q3' (by omega) (by omega) (by simpa using ev) (by simpa using k1) (by simpa using ht) (by simp; omega) (by simp; omega) (by simp; omega)).mono fun e w' h => ⟨h.1, h.2.grown⟩
      · exact (turned_4 a0 a1 N D _ _ _ _ _ _ w HN HD n1 n2 d1 d2 b2 b2' b1 b1' b3 b3' q2 q2' q1 q1' q3 q3' (by omega) (by omega) (by simpa using ev) (by simpa using k1) (by simpa using ht) (by simp; omega) (by simp; omega) (by simp; omega) (by simp; omega)).mono fun e w' h => ⟨h.1, h.2.grown⟩
    · have k2 := uu2 hh
      exact (turned_2 a0 a1 N D _ _ _ _ _ _ w HN HD n1 n2 d1 d2 b2 b2' b1 b1' b3 b3' q2 q2' q1 q1' q3 q3' (by omega) (by omega) (by simpa using ev) (by simp; omega) (by simp; omega) (by simp; omega) (by simpa using k2) (by simp; omega) (by simp; omega) (by simp; omega)).mono fun e w' h => ⟨h.1, h.2.grown⟩

set_option maxRecDepth 100000 in
theorem lifted (os : Os) (started : os.Started) (H : Type) (enc : TypeId × Value → H) :
    ReturnsInHanded {} Try.checked os 8 .any (Rows.fixnumTurnedSpec.pre6 enc Try.prog Try.f8 Rows.fixnumTurnedRow.domain false) (Rows.fixnumTurnedSpec.post enc Try.prog Try.f8 false true false false) := by
  refine returnsInHanded_of_change (C := Try.checked) own started (by kernel_rfl) Try.func8
    (ChangeSpec.witness6 (enc := enc) (C := Try.checked) false ⟨#[], #[.int .i64 0, .int .i64 0], []⟩ 8 (by kernel_rfl) (by kernel_rfl) (by kernel_rfl) (by kernel_rfl)) ?_
  intro W base args ds gs before hval0 hW hcnd _
  have hval : ∀ (j : Nat) t v, Try.f8.params[j]? = some t → args[j]? = some v → Value.okWide Try.prog W .any base t v := hval0
  have hW' := hW
  obtain ⟨p, q, hA0, hV, rfl, hfz, hnd⟩ := hW
  have hA : DataW.TrodAll enc Try.prog W 0 (fun _ => true) true Try.f8.params.toList args.toList ds p := hA0
  rw [Try.params8] at hA hval
  obtain ⟨v0, vs0, d0, ds0, p0, q0, hargs, rfl, rfl, h0, r0⟩ := trodAll_cons hA
  obtain ⟨v1, vs1, d1, ds1, p1, q1, rfl, rfl, rfl, h1, r1⟩ := trodAll_cons r0
  obtain ⟨rfl, rfl, rfl⟩ := trodAll_nil r1
  obtain rfl : args = #[v0, v1] := by cases args; simp_all
  obtain ⟨rfl, rfl⟩ := trodVars_none hV
  obtain ⟨a0, rfl, rfl, rfl, w0⟩ := open_int Try.underlying2 (hval 0 2 v0 rfl rfl) h0
  obtain ⟨a1, rfl, rfl, rfl, w1⟩ := open_int Try.underlying2 (hval 1 2 v1 rfl rfl) h1
  clear hA0 hval0
  simp only [List.append_nil] at hW'
  refine (walk a0 a1 w0 w1 W).mono fun e W' ⟨he, hg⟩ => ?_
  subst he
  exact ⟨_, rfl, post_of_same (pa := []) (pv := []) hW' (fun _ _ _ => (trodAll_cons_mk (shut_bool Try.underlying4 _) trodAll_mk0)) (fun sp _ => (trodAll_cons_mk (shut_int Try.underlying2 w0) (trodAll_cons_mk (shut_int Try.underlying2 w1) trodAll_mk0))) (fun _ _ => rfl) rfl
    (hg.frame _) hg.2.1 (ok_one (by kernel_rfl) rfl (okWide_bool_mk Try.underlying4 _))⟩

theorem over : Rows.fixnumTurnedRow.holds Try.pinned (OpenSpec.ofChange Rows.fixnumTurnedSpec) :=
  OpenClaim.holds_of_wide 8 Try.f8 rfl rfl rfl rfl rfl rfl rfl ⟨rfl, rfl, rfl, rfl, rfl⟩ rfl rfl rfl rfl rfl (by kernel_rfl) Try.func8 (by kernel_rfl)
    (of_decide_eq_true (by kernel_rfl)) (by unfold Func.isWrapper; first | (rw [if_pos (by decide +kernel)]; kernel_rfl) | (rw [if_neg (by decide +kernel)]; exact ⟨rfl, rfl⟩))
    (fun os started H enc _ => lifted os started H enc)

theorem proved : Rows.FixnumTurnedSaid :=
  over
end Go.Proofs.Ytpmgbagnaaahoaa.fixnumTurned
namespace Go.Proofs.Ytpmgbagnaaahoaa
theorem fixnumTurned_holds : Rows.FixnumTurnedSaid := fixnumTurned.proved
#print axioms fixnumTurned_holds
end Go.Proofs.Ytpmgbagnaaahoaa
