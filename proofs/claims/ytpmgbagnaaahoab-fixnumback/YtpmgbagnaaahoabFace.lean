/- What the faces Of, Divide, Ratio of the program answer, from what their insides return or throw: no statement of the seat is proved here. -/
import Derived.Test.YtpmgbagnaaahoabLeaf
namespace Go.Proofs.Ytpmgbagnaaahoab
open Go.RowKit

theorem make_func (fn : Fn) (first cap : Array Value) (w : World) : (Instr.makeFunc fn first cap).run Try.prog w = .ok (.func fn first cap) w := rfl

theorem div_of_ok (m n d v : Int) (hq : Hid (∀ w, Calls Try.prog 15 #[.agg #[.int .i64 m], .int .i64 n, .int .i64 1, .int .i64 d] w fun e w' => e = .returned (.int .i64 v) ∧ Ext w w')) (w : World) :
    Calls Try.prog 7 #[.agg #[.int .i64 m], .int .i64 n, .int .i64 d] w fun e w' => e = .returned (.tuple #[.int .i64 v, .int .i64 0]) ∧ Ext w w' := by
  have hmf := make_func
  go_enter_defers Try.func7, Try.ntmps7
  go_wp2_with fail
  refine (hq.out _).mono ?_
  rintro e w1 ⟨rfl, hx⟩
  have gp : w1.cell? ⟨w.heap.size + 1, 0, none⟩ = some (.int .i64 0) := by rw [hx.cell _ _ (by simp)]; simp [go_sem]
  have gq : w1.cell? ⟨w.heap.size + 1 + 1, 0, none⟩ = some (.int .i64 0) := by rw [hx.cell _ _ (by simp)]; simp [go_sem]
  have gpz : w1.frozen? ⟨w.heap.size + 1, 0, none⟩ = false := by rw [hx.froz]; simp [go_sem]
  have gqz : w1.frozen? ⟨w.heap.size + 1 + 1, 0, none⟩ = false := by rw [hx.froz]; simp [go_sem]
  have hx0 : Ext w w1 := Ext.trans (by repeat (first | exact Ext.refl _ | apply Ext.alloc)) hx
  clear hx hq
  go_wp2
  refine leaves_cons (f := 20) (args := #[.pointer (some ⟨w.heap.size + 1, 0, none⟩), .pointer (some ⟨w.heap.size + 1 + 1, 0, none⟩)]) (by simp) (by simp [go_sem]) ?_
  refine (div_idle (w.heap.size + 1) v 0 _ ?_ ?_ ?_ ?_).mono ?_
  · simp [go_sem, gp]
  · simp [go_sem, gq]
  · simp [go_sem, gpz]
  · simp [go_sem, gqz]
  rintro e u' w'' ⟨rfl, rfl, w2, hy, rfl⟩
  have hs : w.heap.size + 1 + 1 < w1.heap.size := lt_of_cell gq
  have hp2 : (w2.cell? ⟨w.heap.size + 1, 0, none⟩).isSome = true := by rw [hy.cell _ _ (by simpa [World.setCell] using (by omega))]; simp [go_sem, gp]
  have hq2 : (w2.cell? ⟨w.heap.size + 1 + 1, 0, none⟩).isSome = true := by rw [hy.cell _ _ (by simpa [World.setCell] using (by omega))]; simp [go_sem, gq]
  obtain ⟨vp, hp2⟩ := Option.isSome_iff_exists.1 hp2
  obtain ⟨vq, hq2⟩ := Option.isSome_iff_exists.1 hq2
  simp [Leaves, settle, results, Try.results7, go_sem, hp2, hq2]
  refine ((Ext.trans ?_ hy).setCell (by show w.heap.size ≤ w.heap.size + 1; omega) _).setCell (by show w.heap.size ≤ w.heap.size + 1 + 1; omega) _
  exact (hx0.setCell (by show w.heap.size ≤ w.heap.size + 1; omega) _).setCell (by show w.heap.size ≤ w.heap.size + 1 + 1; omega) _

theorem div_of_no (m n d c : Int) (hq : Hid (∀ w, Calls Try.prog 15 #[.agg #[.int .i64 m], .int .i64 n, .int .i64 1, .int .i64 d] w fun e w' => e = .panicked [{ v := .iface 26 (.int .i64 c), recovered := false }] ∧ Ext w w')) (w : World) :
    Calls Try.prog 7 #[.agg #[.int .i64 m], .int .i64 n, .int .i64 d] w fun e w' => e = .returned (.tuple #[.int .i64 0, .int .i64 c]) ∧ Ext w w' := by
  have hmf := make_func
  go_enter_defers Try.func7, Try.ntmps7
  go_wp2_with fail
  refine (hq.out _).mono ?_
  rintro e w1 ⟨rfl, hx⟩
  have gp : w1.cell? ⟨w.heap.size + 1, 0, none⟩ = some (.int .i64 0) := by rw [hx.cell _ _ (by simp)]; simp [go_sem]
  have gq : w1.cell? ⟨w.heap.size + 1 + 1, 0, none⟩ = some (.int .i64 0) := by rw [hx.cell _ _ (by simp)]; simp [go_sem]
  have gpz : w1.frozen? ⟨w.heap.size + 1, 0, none⟩ = false := by rw [hx.froz]; simp [go_sem]
  have gqz : w1.frozen? ⟨w.heap.size + 1 + 1, 0, none⟩ = false := by rw [hx.froz]; simp [go_sem]
  have hx0 : Ext w w1 := Ext.trans (by repeat (first | exact Ext.refl _ | apply Ext.alloc)) hx
  clear hx hq
  go_wp2
  refine leaves_cons (f := 20) (args := #[.pointer (some ⟨w.heap.size + 1, 0, none⟩), .pointer (some ⟨w.heap.size + 1 + 1, 0, none⟩)]) (by simp) (by simp [go_sem]) ?_
  refine (div_catch (w.heap.size + 1) c 0 0 [] _ ?_ ?_ ?_ ?_).mono ?_
  · simp [go_sem, gp]
  · simp [go_sem, gq]
  · simp [go_sem, gpz]
  · simp [go_sem, gqz]
  rintro e u' w'' ⟨rfl, rfl, w2, hy, rfl⟩
  have hs : w.heap.size + 1 + 1 < w1.heap.size := lt_of_cell gq
  have hp2 : (w2.cell? ⟨w.heap.size + 1, 0, none⟩).isSome = true := by rw [hy.cell _ _ (by simpa [World.setCell] using (by omega))]; simp [go_sem, gp]
  have hq2 : (w2.cell? ⟨w.heap.size + 1 + 1, 0, none⟩).isSome = true := by rw [hy.cell _ _ (by simpa [World.setCell] using (by omega))]; simp [go_sem, gq]
  obtain ⟨vp, hp2⟩ := Option.isSome_iff_exists.1 hp2
  obtain ⟨vq, hq2⟩ := Option.isSome_iff_exists.1 hq2
  simp [Leaves, settle, results, Try.results7, go_sem, hp2, hq2]
  refine ((Ext.trans ?_ hy).setCell (by show w.heap.size ≤ w.heap.size + 1; omega) _).setCell (by show w.heap.size ≤ w.heap.size + 1 + 1; omega) _
  exact hx0

theorem rat_of_ok (m a b d v : Int) (hq : Hid (∀ w, Calls Try.prog 15 #[.agg #[.int .i64 m], .int .i64 a, .int .i64 b, .int .i64 d] w fun e w' => e = .returned (.int .i64 v) ∧ Ext w w')) (w : World) :
    Calls Try.prog 5 #[.agg #[.int .i64 m], .int .i64 a, .int .i64 b, .int .i64 d] w fun e w' => e = .returned (.tuple #[.int .i64 v, .int .i64 0]) ∧ Ext w w' := by
  have hmf := make_func
  go_enter_defers Try.func5, Try.ntmps5
  go_wp2_with fail
  refine (hq.out _).mono ?_
  rintro e w1 ⟨rfl, hx⟩
  have gp : w1.cell? ⟨w.heap.size + 1, 0, none⟩ = some (.int .i64 0) := by rw [hx.cell _ _ (by simp)]; simp [go_sem]
  have gq : w1.cell? ⟨w.heap.size + 1 + 1, 0, none⟩ = some (.int .i64 0) := by rw [hx.cell _ _ (by simp)]; simp [go_sem]
  have gpz : w1.frozen? ⟨w.heap.size + 1, 0, none⟩ = false := by rw [hx.froz]; simp [go_sem]
  have gqz : w1.frozen? ⟨w.heap.size + 1 + 1, 0, none⟩ = false := by rw [hx.froz]; simp [go_sem]
  have hx0 : Ext w w1 := Ext.trans (by repeat (first | exact Ext.refl _ | apply Ext.alloc)) hx
  clear hx hq
  go_wp2
  refine leaves_cons (f := 13) (args := #[.pointer (some ⟨w.heap.size + 1, 0, none⟩), .pointer (some ⟨w.heap.size + 1 + 1, 0, none⟩)]) (by simp) (by simp [go_sem]) ?_
  refine (rat_idle (w.heap.size + 1) v 0 _ ?_ ?_ ?_ ?_).mono ?_
  · simp [go_sem, gp]
  · simp [go_sem, gq]
  · simp [go_sem, gpz]
  · simp [go_sem, gqz]
  rintro e u' w'' ⟨rfl, rfl, w2, hy, rfl⟩
  have hs : w.heap.size + 1 + 1 < w1.heap.size := lt_of_cell gq
  have hp2 : (w2.cell? ⟨w.heap.size + 1, 0, none⟩).isSome = true := by rw [hy.cell _ _ (by simpa [World.setCell] using (by omega))]; simp [go_sem, gp]
  have hq2 : (w2.cell? ⟨w.heap.size + 1 + 1, 0, none⟩).isSome = true := by rw [hy.cell _ _ (by simpa [World.setCell] using (by omega))]; simp [go_sem, gq]
  obtain ⟨vp, hp2⟩ := Option.isSome_iff_exists.1 hp2
  obtain ⟨vq, hq2⟩ := Option.isSome_iff_exists.1 hq2
  simp [Leaves, settle, results, Try.results5, go_sem, hp2, hq2]
  refine ((Ext.trans ?_ hy).setCell (by show w.heap.size ≤ w.heap.size + 1; omega) _).setCell (by show w.heap.size ≤ w.heap.size + 1 + 1; omega) _
  exact (hx0.setCell (by show w.heap.size ≤ w.heap.size + 1; omega) _).setCell (by show w.heap.size ≤ w.heap.size + 1 + 1; omega) _

theorem rat_of_no (m a b d c : Int) (hq : Hid (∀ w, Calls Try.prog 15 #[.agg #[.int .i64 m], .int .i64 a, .int .i64 b, .int .i64 d] w fun e w' => e = .panicked [{ v := .iface 26 (.int .i64 c), recovered := false }] ∧ Ext w w')) (w : World) :
    Calls Try.prog 5 #[.agg #[.int .i64 m], .int .i64 a, .int .i64 b, .int .i64 d] w fun e w' => e = .returned (.tuple #[.int .i64 0, .int .i64 c]) ∧ Ext w w' := by
  have hmf := make_func
  go_enter_defers Try.func5, Try.ntmps5
  go_wp2_with fail
  refine (hq.out _).mono ?_
  rintro e w1 ⟨rfl, hx⟩
  have gp : w1.cell? ⟨w.heap.size + 1, 0, none⟩ = some (.int .i64 0) := by rw [hx.cell _ _ (by simp)]; simp [go_sem]
  have gq : w1.cell? ⟨w.heap.size + 1 + 1, 0, none⟩ = some (.int .i64 0) := by rw [hx.cell _ _ (by simp)]; simp [go_sem]
  have gpz : w1.frozen? ⟨w.heap.size + 1, 0, none⟩ = false := by rw [hx.froz]; simp [go_sem]
  have gqz : w1.frozen? ⟨w.heap.size + 1 + 1, 0, none⟩ = false := by rw [hx.froz]; simp [go_sem]
  have hx0 : Ext w w1 := Ext.trans (by repeat (first | exact Ext.refl _ | apply Ext.alloc)) hx
  clear hx hq
  go_wp2
  refine leaves_cons (f := 13) (args := #[.pointer (some ⟨w.heap.size + 1, 0, none⟩), .pointer (some ⟨w.heap.size + 1 + 1, 0, none⟩)]) (by simp) (by simp [go_sem]) ?_
  refine (rat_catch (w.heap.size + 1) c 0 0 [] _ ?_ ?_ ?_ ?_).mono ?_
  · simp [go_sem, gp]
  · simp [go_sem, gq]
  · simp [go_sem, gpz]
  · simp [go_sem, gqz]
  rintro e u' w'' ⟨rfl, rfl, w2, hy, rfl⟩
  have hs : w.heap.size + 1 + 1 < w1.heap.size := lt_of_cell gq
  have hp2 : (w2.cell? ⟨w.heap.size + 1, 0, none⟩).isSome = true := by rw [hy.cell _ _ (by simpa [World.setCell] using (by omega))]; simp [go_sem, gp]
  have hq2 : (w2.cell? ⟨w.heap.size + 1 + 1, 0, none⟩).isSome = true := by rw [hy.cell _ _ (by simpa [World.setCell] using (by omega))]; simp [go_sem, gq]
  obtain ⟨vp, hp2⟩ := Option.isSome_iff_exists.1 hp2
  obtain ⟨vq, hq2⟩ := Option.isSome_iff_exists.1 hq2
  simp [Leaves, settle, results, Try.results5, go_sem, hp2, hq2]
  refine ((Ext.trans ?_ hy).setCell (by show w.heap.size ≤ w.heap.size + 1; omega) _).setCell (by show w.heap.size ≤ w.heap.size + 1 + 1; omega) _
  exact hx0

theorem of_1 (w : World) :
    Calls Try.prog 4 #[.int .i64 1] w fun e w' => e = .returned (.tuple #[.agg #[.int .i64 1], .int .i64 0]) ∧ Ext w w' := by
  have hmf := make_func
  go_enter_defers Try.func4, Try.ntmps4
  go_wp2_with (go_at_call 12; refine (need_ok _ _).mono ?_; rintro e w' ⟨rfl, rfl⟩)
  refine leaves_cons (f := 10) (args := #[.pointer (some ⟨w.heap.size, 0, none⟩), .pointer (some ⟨w.heap.size + 1, 0, none⟩)]) (by simp) (by simp [go_sem]) ?_
  refine (of_idle w.heap.size 1 0 _ ?_ ?_ ?_ ?_).mono ?_
  · simp [go_sem]
  · simp [go_sem]
  · simp [go_sem]
  · simp [go_sem]
  rintro e u' w'' ⟨rfl, rfl, w2, hy, rfl⟩
  have hp2 : (w2.cell? ⟨w.heap.size, 0, none⟩).isSome = true := by rw [hy.cell _ _ (by simp; omega)]; simp [go_sem]
  have hq2 : (w2.cell? ⟨w.heap.size + 1, 0, none⟩).isSome = true := by rw [hy.cell _ _ (by simp)]; simp [go_sem]
  obtain ⟨vp, hp2⟩ := Option.isSome_iff_exists.1 hp2
  obtain ⟨vq, hq2⟩ := Option.isSome_iff_exists.1 hq2
  have hx0 : Ext w w2 := Ext.trans (by repeat (first | exact Ext.refl _ | apply Ext.alloc)) hy
  simp [Leaves, settle, results, Try.results4, go_sem, hp2, hq2]
  exact (hx0.setCell (Nat.le_refl _) _).setCell (by show w.heap.size ≤ w.heap.size + 1; omega) _

theorem of_2 (w : World) :
    Calls Try.prog 4 #[.int .i64 2] w fun e w' => e = .returned (.tuple #[.agg #[.int .i64 2], .int .i64 0]) ∧ Ext w w' := by
  have hmf := make_func
  go_enter_defers Try.func4, Try.ntmps4
  go_wp2_with (go_at_call 12; refine (need_ok _ _).mono ?_; rintro e w' ⟨rfl, rfl⟩)
  refine leaves_cons (f := 10) (args := #[.pointer (some ⟨w.heap.size, 0, none⟩), .pointer (some ⟨w.heap.size + 1, 0, none⟩)]) (by simp) (by simp [go_sem]) ?_
  refine (of_idle w.heap.size 2 0 _ ?_ ?_ ?_ ?_).mono ?_
  · simp [go_sem]
  · simp [go_sem]
  · simp [go_sem]
  · simp [go_sem]
  rintro e u' w'' ⟨rfl, rfl, w2, hy, rfl⟩
  have hp2 : (w2.cell? ⟨w.heap.size, 0, none⟩).isSome = true := by rw [hy.cell _ _ (by simp; omega)]; simp [go_sem]
  have hq2 : (w2.cell? ⟨w.heap.size + 1, 0, none⟩).isSome = true := by rw [hy.cell _ _ (by simp)]; simp [go_sem]
  obtain ⟨vp, hp2⟩ := Option.isSome_iff_exists.1 hp2
  obtain ⟨vq, hq2⟩ := Option.isSome_iff_exists.1 hq2
  have hx0 : Ext w w2 := Ext.trans (by repeat (first | exact Ext.refl _ | apply Ext.alloc)) hy
  simp [Leaves, settle, results, Try.results4, go_sem, hp2, hq2]
  exact (hx0.setCell (Nat.le_refl _) _).setCell (by show w.heap.size ≤ w.heap.size + 1; omega) _

theorem of_3 (w : World) :
    Calls Try.prog 4 #[.int .i64 3] w fun e w' => e = .returned (.tuple #[.agg #[.int .i64 3], .int .i64 0]) ∧ Ext w w' := by
  have hmf := make_func
  go_enter_defers Try.func4, Try.ntmps4
  go_wp2_with (go_at_call 12; refine (need_ok _ _).mono ?_; rintro e w' ⟨rfl, rfl⟩)
  refine leaves_cons (f := 10) (args := #[.pointer (some ⟨w.heap.size, 0, none⟩), .pointer (some ⟨w.heap.size + 1, 0, none⟩)]) (by simp) (by simp [go_sem]) ?_
  refine (of_idle w.heap.size 3 0 _ ?_ ?_ ?_ ?_).mono ?_
  · simp [go_sem]
  · simp [go_sem]
  · simp [go_sem]
  · simp [go_sem]
  rintro e u' w'' ⟨rfl, rfl, w2, hy, rfl⟩
  have hp2 : (w2.cell? ⟨w.heap.size, 0, none⟩).isSome = true := by rw [hy.cell _ _ (by simp; omega)]; simp [go_sem]
  have hq2 : (w2.cell? ⟨w.heap.size + 1, 0, none⟩).isSome = true := by rw [hy.cell _ _ (by simp)]; simp [go_sem]
  obtain ⟨vp, hp2⟩ := Option.isSome_iff_exists.1 hp2
  obtain ⟨vq, hq2⟩ := Option.isSome_iff_exists.1 hq2
  have hx0 : Ext w w2 := Ext.trans (by repeat (first | exact Ext.refl _ | apply Ext.alloc)) hy
  simp [Leaves, settle, results, Try.results4, go_sem, hp2, hq2]
  exact (hx0.setCell (Nat.le_refl _) _).setCell (by show w.heap.size ≤ w.heap.size + 1; omega) _

theorem of_none (m : Int) (w : World) (h1 : (m == 1) = false) (h2 : (m == 2) = false) (h3 : (m == 3) = false) :
    Calls Try.prog 4 #[.int .i64 m] w fun e w' => e = .returned (.tuple #[.agg #[.int .i64 0], .int .i64 1]) ∧ Ext w w' := by
  have hmf := make_func
  go_enter_defers Try.func4, Try.ntmps4
  go_wp2_with (go_at_call 12; refine (need_no _ _).mono ?_; rintro e w' ⟨rfl, rfl⟩)
  refine leaves_cons (f := 10) (args := #[.pointer (some ⟨w.heap.size, 0, none⟩), .pointer (some ⟨w.heap.size + 1, 0, none⟩)]) (by simp) (by simp [go_sem]) ?_
  refine (of_catch w.heap.size 1 0 0 [] _ ?_ ?_ ?_ ?_).mono ?_
  · simp [go_sem]
  · simp [go_sem]
  · simp [go_sem]
  · simp [go_sem]
  rintro e u' w'' ⟨rfl, rfl, w2, hy, rfl⟩
  have hp2 : (w2.cell? ⟨w.heap.size, 0, none⟩).isSome = true := by rw [hy.cell _ _ (by simp; omega)]; simp [go_sem]
  have hq2 : (w2.cell? ⟨w.heap.size + 1, 0, none⟩).isSome = true := by rw [hy.cell _ _ (by simp)]; simp [go_sem]
  obtain ⟨vp, hp2⟩ := Option.isSome_iff_exists.1 hp2
  obtain ⟨vq, hq2⟩ := Option.isSome_iff_exists.1 hq2
  have hx0 : Ext w w2 := Ext.trans (by repeat (first | exact Ext.refl _ | apply Ext.alloc)) hy
  simp [Leaves, settle, results, Try.results4, go_sem, hp2, hq2]
  exact (hx0.setCell (Nat.le_refl _) _).setCell (by show w.heap.size ≤ w.heap.size + 1; omega) _

theorem plus_ok (a b : Int) (w : World) (a1 : -1000000000000000 ≤ a) (a2 : a ≤ 1000000000000000) (b1 : -1000000000000000 ≤ b) (b2 : b ≤ 1000000000000000) (s1 : -1000000000000000 ≤ a + b) (s2 : a + b ≤ 1000000000000000) :
    Calls Try.prog 8 #[.int .i64 a, .int .i64 b] w fun e w' => e = .returned (.tuple #[.int .i64 (a + b), .int .i64 0]) ∧ Ext w w' := by
  have hmf := make_func
  go_enter_defers Try.func8, Try.ntmps8
  go_wp2_with (go_at_call 18; refine (fitting_ok _ _ (by omega) (by omega)).mono ?_; rintro e w' ⟨rfl, rfl⟩)
  refine leaves_cons (f := 21) (args := #[.pointer (some ⟨w.heap.size, 0, none⟩), .pointer (some ⟨w.heap.size + 1, 0, none⟩)]) (by simp) (by simp [go_sem]) ?_
  refine (plus_idle w.heap.size (a + b) 0 _ ?_ ?_ ?_ ?_).mono ?_
  · simp [go_sem]
  · simp [go_sem]
  · simp [go_sem]
  · simp [go_sem]
  rintro e u' w'' ⟨rfl, rfl, w2, hy, rfl⟩
  have hp2 : (w2.cell? ⟨w.heap.size, 0, none⟩).isSome = true := by rw [hy.cell _ _ (by simp; omega)]; simp [go_sem]
  have hq2 : (w2.cell? ⟨w.heap.size + 1, 0, none⟩).isSome = true := by rw [hy.cell _ _ (by simp)]; simp [go_sem]
  obtain ⟨vp, hp2⟩ := Option.isSome_iff_exists.1 hp2
  obtain ⟨vq, hq2⟩ := Option.isSome_iff_exists.1 hq2
  have hx0 : Ext w w2 := Ext.trans (by repeat (first | exact Ext.refl _ | apply Ext.alloc)) hy
  simp [Leaves, settle, results, Try.results8, go_sem, hp2, hq2]
  exact (hx0.setCell (Nat.le_refl _) _).setCell (by show w.heap.size ≤ w.heap.size + 1; omega) _

theorem plus_noA (a b : Int) (w : World) (h : ¬ (-1000000000000000 ≤ a ∧ a ≤ 1000000000000000)) :
    Calls Try.prog 8 #[.int .i64 a, .int .i64 b] w fun e w' => e = .returned (.tuple #[.int .i64 0, .int .i64 3]) ∧ Ext w w' := by
  have hmf := make_func
  go_enter_defers Try.func8, Try.ntmps8
  go_wp2_with fail
  refine (fitting_no _ _ (by omega)).mono ?_
  rintro e w1 ⟨rfl, rfl⟩
  go_wp2_with fail
  refine leaves_cons (f := 21) (args := #[.pointer (some ⟨w.heap.size, 0, none⟩), .pointer (some ⟨w.heap.size + 1, 0, none⟩)]) (by simp) (by simp [go_sem]) ?_
  refine (plus_catch w.heap.size 3 0 0 [] _ ?_ ?_ ?_ ?_).mono ?_
  · simp [go_sem]
  · simp [go_sem]
  · simp [go_sem]
  · simp [go_sem]
  rintro e u' w'' ⟨rfl, rfl, w2, hy, rfl⟩
  have hp2 : (w2.cell? ⟨w.heap.size, 0, none⟩).isSome = true := by rw [hy.cell _ _ (by simp; omega)]; simp [go_sem]
  have hq2 : (w2.cell? ⟨w.heap.size + 1, 0, none⟩).isSome = true := by rw [hy.cell _ _ (by simp)]; simp [go_sem]
  obtain ⟨vp, hp2⟩ := Option.isSome_iff_exists.1 hp2
  obtain ⟨vq, hq2⟩ := Option.isSome_iff_exists.1 hq2
  have hx0 : Ext w w2 := Ext.trans (by repeat (first | exact Ext.refl _ | apply Ext.alloc)) hy
  simp [Leaves, settle, results, Try.results8, go_sem, hp2, hq2]
  exact (hx0.setCell (Nat.le_refl _) _).setCell (by show w.heap.size ≤ w.heap.size + 1; omega) _

theorem plus_noB (a b : Int) (w : World) (a1 : -1000000000000000 ≤ a) (a2 : a ≤ 1000000000000000) (h : ¬ (-1000000000000000 ≤ b ∧ b ≤ 1000000000000000)) :
    Calls Try.prog 8 #[.int .i64 a, .int .i64 b] w fun e w' => e = .returned (.tuple #[.int .i64 0, .int .i64 3]) ∧ Ext w w' := by
  have hmf := make_func
  go_enter_defers Try.func8, Try.ntmps8
  go_wp2_with fail
  refine (fitting_ok _ _ (by omega) (by omega)).mono ?_
  rintro e w1 ⟨rfl, rfl⟩
  go_wp2_with fail
  refine (fitting_no _ _ (by omega)).mono ?_
  rintro e w1 ⟨rfl, rfl⟩
  go_wp2_with fail
  refine leaves_cons (f := 21) (args := #[.pointer (some ⟨w.heap.size, 0, none⟩), .pointer (some ⟨w.heap.size + 1, 0, none⟩)]) (by simp) (by simp [go_sem]) ?_
  refine (plus_catch w.heap.size 3 0 0 [] _ ?_ ?_ ?_ ?_).mono ?_
  · simp [go_sem]
  · simp [go_sem]
  · simp [go_sem]
  · simp [go_sem]
  rintro e u' w'' ⟨rfl, rfl, w2, hy, rfl⟩
  have hp2 : (w2.cell? ⟨w.heap.size, 0, none⟩).isSome = true := by rw [hy.cell _ _ (by simp; omega)]; simp [go_sem]
  have hq2 : (w2.cell? ⟨w.heap.size + 1, 0, none⟩).isSome = true := by rw [hy.cell _ _ (by simp)]; simp [go_sem]
  obtain ⟨vp, hp2⟩ := Option.isSome_iff_exists.1 hp2
  obtain ⟨vq, hq2⟩ := Option.isSome_iff_exists.1 hq2
  have hx0 : Ext w w2 := Ext.trans (by repeat (first | exact Ext.refl _ | apply Ext.alloc)) hy
  simp [Leaves, settle, results, Try.results8, go_sem, hp2, hq2]
  exact (hx0.setCell (Nat.le_refl _) _).setCell (by show w.heap.size ≤ w.heap.size + 1; omega) _

theorem plus_noS (a b : Int) (w : World) (a1 : -1000000000000000 ≤ a) (a2 : a ≤ 1000000000000000) (b1 : -1000000000000000 ≤ b) (b2 : b ≤ 1000000000000000) (h : ¬ (-1000000000000000 ≤ a + b ∧ a + b ≤ 1000000000000000)) :
    Calls Try.prog 8 #[.int .i64 a, .int .i64 b] w fun e w' => e = .returned (.tuple #[.int .i64 0, .int .i64 3]) ∧ Ext w w' := by
  have hmf := make_func
  go_enter_defers Try.func8, Try.ntmps8
  go_wp2_with fail
  refine (fitting_ok _ _ (by omega) (by omega)).mono ?_
  rintro e w1 ⟨rfl, rfl⟩
  go_wp2_with fail
  refine (fitting_ok _ _ (by omega) (by omega)).mono ?_
  rintro e w1 ⟨rfl, rfl⟩
  go_wp2_with fail
  refine (fitting_no _ _ (by omega)).mono ?_
  rintro e w1 ⟨rfl, rfl⟩
  go_wp2_with fail
  refine leaves_cons (f := 21) (args := #[.pointer (some ⟨w.heap.size, 0, none⟩), .pointer (some ⟨w.heap.size + 1, 0, none⟩)]) (by simp) (by simp [go_sem]) ?_
  refine (plus_catch w.heap.size 3 0 0 [] _ ?_ ?_ ?_ ?_).mono ?_
  · simp [go_sem]
  · simp [go_sem]
  · simp [go_sem]
  · simp [go_sem]
  rintro e u' w'' ⟨rfl, rfl, w2, hy, rfl⟩
  have hp2 : (w2.cell? ⟨w.heap.size, 0, none⟩).isSome = true := by rw [hy.cell _ _ (by simp; omega)]; simp [go_sem]
  have hq2 : (w2.cell? ⟨w.heap.size + 1, 0, none⟩).isSome = true := by rw [hy.cell _ _ (by simp)]; simp [go_sem]
  obtain ⟨vp, hp2⟩ := Option.isSome_iff_exists.1 hp2
  obtain ⟨vq, hq2⟩ := Option.isSome_iff_exists.1 hq2
  have hx0 : Ext w w2 := Ext.trans (by repeat (first | exact Ext.refl _ | apply Ext.alloc)) hy
  simp [Leaves, settle, results, Try.results8, go_sem, hp2, hq2]
  exact (hx0.setCell (Nat.le_refl _) _).setCell (by show w.heap.size ≤ w.heap.size + 1; omega) _

end Go.Proofs.Ytpmgbagnaaahoab
