/- What the faces Plus of the program answer, from what their insides return or throw: no statement of the seat is proved here. -/
import Derived.Test.YtpmgbagnaaahoabDoorLeaf
namespace Go.Proofs.YtpmgbagnaaahoabDoor
open Go.RowKit

theorem make_func (fn : Fn) (first cap : Array Value) (w : World) : (Instr.makeFunc fn first cap).run Tryd.prog w = .ok (.func fn first cap) w := rfl

theorem plus_ok (a b : Int) (w : World) (a1 : -1000000000000000 ≤ a) (a2 : a ≤ 1000000000000000) (b1 : -1000000000000000 ≤ b) (b2 : b ≤ 1000000000000000) (s1 : -1000000000000000 ≤ a + b) (s2 : a + b ≤ 1000000000000000) :
    Calls Tryd.prog 42 #[.int .i64 a, .int .i64 b] w fun e w' => e = .returned (.tuple #[.int .i64 (a + b), .int .i64 0]) ∧ Ext w w' := by
  have hmf := make_func
  go_enter_defers Tryd.func42, Tryd.ntmps42
  go_wp2_with (go_at_call 58; refine (fitting_ok _ _ (by omega) (by omega)).mono ?_; rintro e w' ⟨rfl, rfl⟩)
  refine leaves_cons (f := 60) (args := #[.pointer (some ⟨w.heap.size, 0, none⟩), .pointer (some ⟨w.heap.size + 1, 0, none⟩)]) (by simp) (by simp [go_sem]) ?_
  refine (plus_idle w.heap.size (a + b) 0 _ ?_ ?_ ?_ ?_).mono ?_
  · simp [go_sem]
  · simp [go_sem]
  · simp [go_sem]
  · simp [go_sem]
  rintro e u' w'' ⟨rfl, rfl, w2, hy, rfl⟩
  have hp2 : (w2.cell? ⟨w.heap.size, 0, none⟩).isSome = true := by rw [hy.cell _ _ (by simp; omega)]; simp [go_sem]
  have hq2 : (w2.cell? ⟨w.heap.size + 1, 0, none⟩).isSome = true := by rw [hy.cell _ _ (by simp)]; simp [go_sem]
  obtain ⟨vp, hp2⟩ := Option.isSome_iff_exists.1 hp2
  obtain ⟨vq, hq2⟩ := Option.isSome_iff_exists.1 hq2
  have hx0 : Ext w w2 := Ext.trans (by repeat (first | exact Ext.refl _ | apply Ext.alloc)) hy
  simp [Leaves, settle, results, Tryd.results42, go_sem, hp2, hq2]
  exact (hx0.setCell (Nat.le_refl _) _).setCell (by show w.heap.size ≤ w.heap.size + 1; omega) _

theorem plus_noA (a b : Int) (w : World) (h : ¬ (-1000000000000000 ≤ a ∧ a ≤ 1000000000000000)) :
    Calls Tryd.prog 42 #[.int .i64 a, .int .i64 b] w fun e w' => e = .returned (.tuple #[.int .i64 0, .int .i64 3]) ∧ Ext w w' := by
  have hmf := make_func
  go_enter_defers Tryd.func42, Tryd.ntmps42
  go_wp2_with fail
  refine (fitting_no _ _ (by omega)).mono ?_
  rintro e w1 ⟨rfl, rfl⟩
  go_wp2_with fail
  refine leaves_cons (f := 60) (args := #[.pointer (some ⟨w.heap.size, 0, none⟩), .pointer (some ⟨w.heap.size + 1, 0, none⟩)]) (by simp) (by simp [go_sem]) ?_
  refine (plus_catch w.heap.size 3 0 0 [] _ ?_ ?_ ?_ ?_).mono ?_
  · simp [go_sem]
  · simp [go_sem]
  · simp [go_sem]
  · simp [go_sem]
  rintro e u' w'' ⟨rfl, rfl, w2, hy, rfl⟩
  have hp2 : (w2.cell? ⟨w.heap.size, 0, none⟩).isSome = true := by rw [hy.cell _ _ (by simp; omega)]; simp [go_sem]
  have hq2 : (w2.cell? ⟨w.heap.size + 1, 0, none⟩).isSome = true := by rw [hy.cell _ _ (by simp)]; simp [go_sem]
  obtain ⟨vp, hp2⟩ := Option.isSome_iff_exists.1 hp2
  obtain ⟨vq, hq2⟩ := Option.isSome_iff_exists.1 hq2
  have hx0 : Ext w w2 := Ext.trans (by repeat (first | exact Ext.refl _ | apply Ext.alloc)) hy
  simp [Leaves, settle, results, Tryd.results42, go_sem, hp2, hq2]
  exact (hx0.setCell (Nat.le_refl _) _).setCell (by show w.heap.size ≤ w.heap.size + 1; omega) _

theorem plus_noB (a b : Int) (w : World) (a1 : -1000000000000000 ≤ a) (a2 : a ≤ 1000000000000000) (h : ¬ (-1000000000000000 ≤ b ∧ b ≤ 1000000000000000)) :
    Calls Tryd.prog 42 #[.int .i64 a, .int .i64 b] w fun e w' => e = .returned (.tuple #[.int .i64 0, .int .i64 3]) ∧ Ext w w' := by
  have hmf := make_func
  go_enter_defers Tryd.func42, Tryd.ntmps42
  go_wp2_with fail
  refine (fitting_ok _ _ (by omega) (by omega)).mono ?_
  rintro e w1 ⟨rfl, rfl⟩
  go_wp2_with fail
  refine (fitting_no _ _ (by omega)).mono ?_
  rintro e w1 ⟨rfl, rfl⟩
  go_wp2_with fail
  refine leaves_cons (f := 60) (args := #[.pointer (some ⟨w.heap.size, 0, none⟩), .pointer (some ⟨w.heap.size + 1, 0, none⟩)]) (by simp) (by simp [go_sem]) ?_
  refine (plus_catch w.heap.size 3 0 0 [] _ ?_ ?_ ?_ ?_).mono ?_
  · simp [go_sem]
  · simp [go_sem]
  · simp [go_sem]
  · simp [go_sem]
  rintro e u' w'' ⟨rfl, rfl, w2, hy, rfl⟩
  have hp2 : (w2.cell? ⟨w.heap.size, 0, none⟩).isSome = true := by rw [hy.cell _ _ (by simp; omega)]; simp [go_sem]
  have hq2 : (w2.cell? ⟨w.heap.size + 1, 0, none⟩).isSome = true := by rw [hy.cell _ _ (by simp)]; simp [go_sem]
  obtain ⟨vp, hp2⟩ := Option.isSome_iff_exists.1 hp2
  obtain ⟨vq, hq2⟩ := Option.isSome_iff_exists.1 hq2
  have hx0 : Ext w w2 := Ext.trans (by repeat (first | exact Ext.refl _ | apply Ext.alloc)) hy
  simp [Leaves, settle, results, Tryd.results42, go_sem, hp2, hq2]
  exact (hx0.setCell (Nat.le_refl _) _).setCell (by show w.heap.size ≤ w.heap.size + 1; omega) _

theorem plus_noS (a b : Int) (w : World) (a1 : -1000000000000000 ≤ a) (a2 : a ≤ 1000000000000000) (b1 : -1000000000000000 ≤ b) (b2 : b ≤ 1000000000000000) (h : ¬ (-1000000000000000 ≤ a + b ∧ a + b ≤ 1000000000000000)) :
    Calls Tryd.prog 42 #[.int .i64 a, .int .i64 b] w fun e w' => e = .returned (.tuple #[.int .i64 0, .int .i64 3]) ∧ Ext w w' := by
  have hmf := make_func
  go_enter_defers Tryd.func42, Tryd.ntmps42
  go_wp2_with fail
  refine (fitting_ok _ _ (by omega) (by omega)).mono ?_
  rintro e w1 ⟨rfl, rfl⟩
  go_wp2_with fail
  refine (fitting_ok _ _ (by omega) (by omega)).mono ?_
  rintro e w1 ⟨rfl, rfl⟩
  go_wp2_with fail
  refine (fitting_no _ _ (by omega)).mono ?_
  rintro e w1 ⟨rfl, rfl⟩
  go_wp2_with fail
  refine leaves_cons (f := 60) (args := #[.pointer (some ⟨w.heap.size, 0, none⟩), .pointer (some ⟨w.heap.size + 1, 0, none⟩)]) (by simp) (by simp [go_sem]) ?_
  refine (plus_catch w.heap.size 3 0 0 [] _ ?_ ?_ ?_ ?_).mono ?_
  · simp [go_sem]
  · simp [go_sem]
  · simp [go_sem]
  · simp [go_sem]
  rintro e u' w'' ⟨rfl, rfl, w2, hy, rfl⟩
  have hp2 : (w2.cell? ⟨w.heap.size, 0, none⟩).isSome = true := by rw [hy.cell _ _ (by simp; omega)]; simp [go_sem]
  have hq2 : (w2.cell? ⟨w.heap.size + 1, 0, none⟩).isSome = true := by rw [hy.cell _ _ (by simp)]; simp [go_sem]
  obtain ⟨vp, hp2⟩ := Option.isSome_iff_exists.1 hp2
  obtain ⟨vq, hq2⟩ := Option.isSome_iff_exists.1 hq2
  have hx0 : Ext w w2 := Ext.trans (by repeat (first | exact Ext.refl _ | apply Ext.alloc)) hy
  simp [Leaves, settle, results, Tryd.results42, go_sem, hp2, hq2]
  exact (hx0.setCell (Nat.le_refl _) _).setCell (by show w.heap.size ≤ w.heap.size + 1; omega) _

end Go.Proofs.YtpmgbagnaaahoabDoor
