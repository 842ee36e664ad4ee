/- What Times and Plus of the program answer, in plain numbers: no statement of the seat is proved here. -/
import Derived.Test.YtpmgbagnaaahoabDoorArith
namespace Go.Proofs.YtpmgbagnaaahoabDoor
open Go.RowKit
set_option linter.unusedVariables false

theorem times_false (v n N : Int) (w : World)
    (Hmul : Hid (∀ w, Calls Tryd.prog 57 #[.int .i64 v, .int .i64 n] w fun e w' => e = .returned (.tuple #[.int .u64 0, .int .u64 N, .bool false]) ∧ w' = w))
    (v1 : -1000000000000000 ≤ v) (v2 : v ≤ 1000000000000000) (n1 : 0 ≤ N) (n2 : N ≤ 1000000000000000) :
    Calls Tryd.prog 41 #[.int .i64 v, .int .i64 n] w fun e w' => e = .returned (.tuple #[.int .i64 (N), .int .i64 0]) ∧ Ext w w' := by
  have hmf := make_func
  go_enter_defers Tryd.func41, Tryd.ntmps41
  go_wp2_with fail
  refine (fitting_ok _ _ v1 v2).mono ?_
  rintro e w1 ⟨rfl, rfl⟩
  go_wp2_with fail
  refine (Hmul.out _).mono ?_
  rintro e w1 ⟨rfl, rfl⟩
  go_wp2_with fail
  refine (need_ok _ _).mono ?_
  rintro e w1 ⟨rfl, rfl⟩
  go_wp2_with fail
  refine (signed_false N _ n1 n2).mono ?_
  rintro e w1 ⟨rfl, rfl⟩
  go_wp2_with fail
  refine leaves_cons (f := 56) (args := #[.pointer (some ⟨w.heap.size, 0, none⟩), .pointer (some ⟨w.heap.size + 1, 0, none⟩)]) (by simp) (by simp [go_sem]) ?_
  refine (times_idle w.heap.size (N) 0 _ ?_ ?_ ?_ ?_).mono ?_
  · simp [go_sem]
  · simp [go_sem]
  · simp [go_sem]
  · simp [go_sem]
  rintro e u' w'' ⟨rfl, rfl, w2, hy, rfl⟩
  have hp2 : (w2.cell? ⟨w.heap.size, 0, none⟩).isSome = true := by rw [hy.cell _ _ (by simp; omega)]; simp [go_sem]
  have hq2 : (w2.cell? ⟨w.heap.size + 1, 0, none⟩).isSome = true := by rw [hy.cell _ _ (by simp)]; simp [go_sem]
  obtain ⟨vp, hp2⟩ := Option.isSome_iff_exists.1 hp2
  obtain ⟨vq, hq2⟩ := Option.isSome_iff_exists.1 hq2
  have hx0 : Ext w w2 := Ext.trans (by repeat (first | exact Ext.refl _ | apply Ext.alloc)) hy
  simp [Leaves, settle, results, Tryd.results41, go_sem, hp2, hq2]
  exact (hx0.setCell (Nat.le_refl _) _).setCell (by show w.heap.size ≤ w.heap.size + 1; omega) _

theorem times_true (v n N : Int) (w : World)
    (Hmul : Hid (∀ w, Calls Tryd.prog 57 #[.int .i64 v, .int .i64 n] w fun e w' => e = .returned (.tuple #[.int .u64 0, .int .u64 N, .bool true]) ∧ w' = w))
    (v1 : -1000000000000000 ≤ v) (v2 : v ≤ 1000000000000000) (n1 : 0 ≤ N) (n2 : N ≤ 1000000000000000) :
    Calls Tryd.prog 41 #[.int .i64 v, .int .i64 n] w fun e w' => e = .returned (.tuple #[.int .i64 (-N), .int .i64 0]) ∧ Ext w w' := by
  have hmf := make_func
  go_enter_defers Tryd.func41, Tryd.ntmps41
  go_wp2_with fail
  refine (fitting_ok _ _ v1 v2).mono ?_
  rintro e w1 ⟨rfl, rfl⟩
  go_wp2_with fail
  refine (Hmul.out _).mono ?_
  rintro e w1 ⟨rfl, rfl⟩
  go_wp2_with fail
  refine (need_ok _ _).mono ?_
  rintro e w1 ⟨rfl, rfl⟩
  go_wp2_with fail
  refine (signed_true N _ n1 n2).mono ?_
  rintro e w1 ⟨rfl, rfl⟩
  go_wp2_with fail
  refine leaves_cons (f := 56) (args := #[.pointer (some ⟨w.heap.size, 0, none⟩), .pointer (some ⟨w.heap.size + 1, 0, none⟩)]) (by simp) (by simp [go_sem]) ?_
  refine (times_idle w.heap.size (-N) 0 _ ?_ ?_ ?_ ?_).mono ?_
  · simp [go_sem]
  · simp [go_sem]
  · simp [go_sem]
  · simp [go_sem]
  rintro e u' w'' ⟨rfl, rfl, w2, hy, rfl⟩
  have hp2 : (w2.cell? ⟨w.heap.size, 0, none⟩).isSome = true := by rw [hy.cell _ _ (by simp; omega)]; simp [go_sem]
  have hq2 : (w2.cell? ⟨w.heap.size + 1, 0, none⟩).isSome = true := by rw [hy.cell _ _ (by simp)]; simp [go_sem]
  obtain ⟨vp, hp2⟩ := Option.isSome_iff_exists.1 hp2
  obtain ⟨vq, hq2⟩ := Option.isSome_iff_exists.1 hq2
  have hx0 : Ext w w2 := Ext.trans (by repeat (first | exact Ext.refl _ | apply Ext.alloc)) hy
  simp [Leaves, settle, results, Tryd.results41, go_sem, hp2, hq2]
  exact (hx0.setCell (Nat.le_refl _) _).setCell (by show w.heap.size ≤ w.heap.size + 1; omega) _

theorem times_hi (v n hi lo : Int) (s : Bool) (w : World)
    (Hmul : Hid (∀ w, Calls Tryd.prog 57 #[.int .i64 v, .int .i64 n] w fun e w' => e = .returned (.tuple #[.int .u64 hi, .int .u64 lo, .bool s]) ∧ w' = w))
    (v1 : -1000000000000000 ≤ v) (v2 : v ≤ 1000000000000000) (hh : (hi == 0) = false) :
    Calls Tryd.prog 41 #[.int .i64 v, .int .i64 n] w fun e w' => e = .returned (.tuple #[.int .i64 0, .int .i64 3]) ∧ Ext w w' := by
  have hmf := make_func
  go_enter_defers Tryd.func41, Tryd.ntmps41
  go_wp2_with fail
  refine (fitting_ok _ _ v1 v2).mono ?_
  rintro e w1 ⟨rfl, rfl⟩
  go_wp2_with fail
  refine (Hmul.out _).mono ?_
  rintro e w1 ⟨rfl, rfl⟩
  go_wp2_with fail
  refine (need_no _ _).mono ?_
  rintro e w1 ⟨rfl, rfl⟩
  go_wp2_with fail
  refine leaves_cons (f := 56) (args := #[.pointer (some ⟨w.heap.size, 0, none⟩), .pointer (some ⟨w.heap.size + 1, 0, none⟩)]) (by simp) (by simp [go_sem]) ?_
  refine (times_catch w.heap.size 3 0 0 [] _ ?_ ?_ ?_ ?_).mono ?_
  · simp [go_sem]
  · simp [go_sem]
  · simp [go_sem]
  · simp [go_sem]
  rintro e u' w'' ⟨rfl, rfl, w2, hy, rfl⟩
  have hp2 : (w2.cell? ⟨w.heap.size, 0, none⟩).isSome = true := by rw [hy.cell _ _ (by simp; omega)]; simp [go_sem]
  have hq2 : (w2.cell? ⟨w.heap.size + 1, 0, none⟩).isSome = true := by rw [hy.cell _ _ (by simp)]; simp [go_sem]
  obtain ⟨vp, hp2⟩ := Option.isSome_iff_exists.1 hp2
  obtain ⟨vq, hq2⟩ := Option.isSome_iff_exists.1 hq2
  have hx0 : Ext w w2 := Ext.trans (by repeat (first | exact Ext.refl _ | apply Ext.alloc)) hy
  simp [Leaves, settle, results, Tryd.results41, go_sem, hp2, hq2]
  exact (hx0.setCell (Nat.le_refl _) _).setCell (by show w.heap.size ≤ w.heap.size + 1; omega) _

theorem times_lo (v n lo : Int) (s : Bool) (w : World)
    (Hmul : Hid (∀ w, Calls Tryd.prog 57 #[.int .i64 v, .int .i64 n] w fun e w' => e = .returned (.tuple #[.int .u64 0, .int .u64 lo, .bool s]) ∧ w' = w))
    (v1 : -1000000000000000 ≤ v) (v2 : v ≤ 1000000000000000) (hh : decide (lo ≤ 1000000000000000) = false) :
    Calls Tryd.prog 41 #[.int .i64 v, .int .i64 n] w fun e w' => e = .returned (.tuple #[.int .i64 0, .int .i64 3]) ∧ Ext w w' := by
  have hmf := make_func
  go_enter_defers Tryd.func41, Tryd.ntmps41
  go_wp2_with fail
  refine (fitting_ok _ _ v1 v2).mono ?_
  rintro e w1 ⟨rfl, rfl⟩
  go_wp2_with fail
  refine (Hmul.out _).mono ?_
  rintro e w1 ⟨rfl, rfl⟩
  go_wp2_with fail
  refine (need_no _ _).mono ?_
  rintro e w1 ⟨rfl, rfl⟩
  go_wp2_with fail
  refine leaves_cons (f := 56) (args := #[.pointer (some ⟨w.heap.size, 0, none⟩), .pointer (some ⟨w.heap.size + 1, 0, none⟩)]) (by simp) (by simp [go_sem]) ?_
  refine (times_catch w.heap.size 3 0 0 [] _ ?_ ?_ ?_ ?_).mono ?_
  · simp [go_sem]
  · simp [go_sem]
  · simp [go_sem]
  · simp [go_sem]
  rintro e u' w'' ⟨rfl, rfl, w2, hy, rfl⟩
  have hp2 : (w2.cell? ⟨w.heap.size, 0, none⟩).isSome = true := by rw [hy.cell _ _ (by simp; omega)]; simp [go_sem]
  have hq2 : (w2.cell? ⟨w.heap.size + 1, 0, none⟩).isSome = true := by rw [hy.cell _ _ (by simp)]; simp [go_sem]
  obtain ⟨vp, hp2⟩ := Option.isSome_iff_exists.1 hp2
  obtain ⟨vq, hq2⟩ := Option.isSome_iff_exists.1 hq2
  have hx0 : Ext w w2 := Ext.trans (by repeat (first | exact Ext.refl _ | apply Ext.alloc)) hy
  simp [Leaves, settle, results, Tryd.results41, go_sem, hp2, hq2]
  exact (hx0.setCell (Nat.le_refl _) _).setCell (by show w.heap.size ≤ w.heap.size + 1; omega) _

theorem times_out (v n : Int) (w : World) (h : ¬ (-1000000000000000 ≤ v ∧ v ≤ 1000000000000000)) :
    Calls Tryd.prog 41 #[.int .i64 v, .int .i64 n] w fun e w' => e = .returned (.tuple #[.int .i64 0, .int .i64 3]) ∧ Ext w w' := by
  have hmf := make_func
  go_enter_defers Tryd.func41, Tryd.ntmps41
  go_wp2_with fail
  refine (fitting_no _ _ h).mono ?_
  rintro e w1 ⟨rfl, rfl⟩
  go_wp2_with fail
  refine leaves_cons (f := 56) (args := #[.pointer (some ⟨w.heap.size, 0, none⟩), .pointer (some ⟨w.heap.size + 1, 0, none⟩)]) (by simp) (by simp [go_sem]) ?_
  refine (times_catch w.heap.size 3 0 0 [] _ ?_ ?_ ?_ ?_).mono ?_
  · simp [go_sem]
  · simp [go_sem]
  · simp [go_sem]
  · simp [go_sem]
  rintro e u' w'' ⟨rfl, rfl, w2, hy, rfl⟩
  have hp2 : (w2.cell? ⟨w.heap.size, 0, none⟩).isSome = true := by rw [hy.cell _ _ (by simp; omega)]; simp [go_sem]
  have hq2 : (w2.cell? ⟨w.heap.size + 1, 0, none⟩).isSome = true := by rw [hy.cell _ _ (by simp)]; simp [go_sem]
  obtain ⟨vp, hp2⟩ := Option.isSome_iff_exists.1 hp2
  obtain ⟨vq, hq2⟩ := Option.isSome_iff_exists.1 hq2
  have hx0 : Ext w w2 := Ext.trans (by repeat (first | exact Ext.refl _ | apply Ext.alloc)) hy
  simp [Leaves, settle, results, Tryd.results41, go_sem, hp2, hq2]
  exact (hx0.setCell (Nat.le_refl _) _).setCell (by show w.heap.size ≤ w.heap.size + 1; omega) _

theorem times_ok (v n : Int) (w : World) (hv : Fit v) (hn : I64 n) (hN : mag v * mag n ≤ 1000000000000000) :
    Calls Tryd.prog 41 #[.int .i64 v, .int .i64 n] w fun e w' => e = .returned (.tuple #[.int .i64 (v * n), .int .i64 0]) ∧ Ext w w' := by
  obtain ⟨v1, v2⟩ := hv
  have hp := prod_mag v n
  cases hs : sgn v n
  all_goals
    have HM := multiply_hid v n ⟨by omega, by omega⟩ hn _ hs
    rw [hs] at hp
    rw [hp]
    clear hp
    generalize mag v * mag n = N at *
    have e1 : hiW N = 0 := by unfold hiW; omega
    have e2 : loW N = N := by unfold loW; omega
    rw [e1, e2] at HM
  · exact times_false v n N w HM v1 v2 (by omega) (by omega)
  · exact times_true v n N w HM v1 v2 (by omega) (by omega)

theorem times_no (v n : Int) (w : World) (hv : Fit v) (hn : I64 n) (hN : 1000000000000000 < mag v * mag n) :
    Calls Tryd.prog 41 #[.int .i64 v, .int .i64 n] w fun e w' => e = .returned (.tuple #[.int .i64 0, .int .i64 3]) ∧ Ext w w' := by
  obtain ⟨v1, v2⟩ := hv
  have HM := multiply_hid v n ⟨by omega, by omega⟩ hn _ rfl
  generalize mag v * mag n = N at *
  by_cases h0 : hiW N = 0
  · have e2 : loW N = N := by unfold hiW at h0; unfold loW; omega
    rw [h0, e2] at HM
    exact times_lo v n N _ w HM v1 v2 (by simp; omega)
  · exact times_hi v n _ _ _ w HM v1 v2 (by simp; omega)

/-- What a sum, a product answers: its number, its reason. -/
def plusV (a b : Int) : Int := if fitB a && (fitB b && fitB (a + b)) then a + b else 0
def plusE (a b : Int) : Int := if fitB a && (fitB b && fitB (a + b)) then 0 else 3
def timesV (v n : Int) : Int := if fitB v && decide (mag v * mag n ≤ 1000000000000000) then v * n else 0
def timesE (v n : Int) : Int := if fitB v && decide (mag v * mag n ≤ 1000000000000000) then 0 else 3

theorem plus_any (a b : Int) (w : World) :
    Calls Tryd.prog 42 #[.int .i64 a, .int .i64 b] w fun e w' => e = .returned (.tuple #[.int .i64 (plusV a b), .int .i64 (plusE a b)]) ∧ Ext w w' := by
  unfold plusV plusE
  by_cases h : (fitB a && (fitB b && fitB (a + b))) = true
  · rw [if_pos h, if_pos h]
    simp only [Bool.and_eq_true, fitB_iff] at h
    obtain ⟨⟨a1, a2⟩, ⟨b1, b2⟩, s1, s2⟩ := h
    exact plus_ok a b w a1 a2 b1 b2 s1 s2
  · rw [if_neg h, if_neg h]
    simp only [Bool.and_eq_true, fitB_iff] at h
    unfold Fit at h
    by_cases ha : -1000000000000000 ≤ a ∧ a ≤ 1000000000000000
    · by_cases hb : -1000000000000000 ≤ b ∧ b ≤ 1000000000000000
      · exact plus_noS a b w ha.1 ha.2 hb.1 hb.2 (fun k => h ⟨ha, hb, k⟩)
      · exact plus_noB a b w ha.1 ha.2 hb
    · exact plus_noA a b w ha

theorem times_any (v n : Int) (w : World) (hn : I64 n) :
    Calls Tryd.prog 41 #[.int .i64 v, .int .i64 n] w fun e w' => e = .returned (.tuple #[.int .i64 (timesV v n), .int .i64 (timesE v n)]) ∧ Ext w w' := by
  unfold timesV timesE
  by_cases h : (fitB v && decide (mag v * mag n ≤ 1000000000000000)) = true
  · rw [if_pos h, if_pos h]
    simp only [Bool.and_eq_true, fitB_iff, decide_eq_true_eq] at h
    exact times_ok v n w h.1 hn h.2
  · rw [if_neg h, if_neg h]
    simp only [Bool.and_eq_true, fitB_iff, decide_eq_true_eq] at h
    by_cases hv : Fit v
    · exact times_no v n w hv hn (by have : ¬ mag v * mag n ≤ 1000000000000000 := fun k => h ⟨hv, k⟩; omega)
    · exact times_out v n w hv

end Go.Proofs.YtpmgbagnaaahoabDoor
