
/- The program's Bear, New, Rest and Fork of package growth, as contracts: no statement of the seat is proved here. -/
import Derived.Test.YtafjmpaefikdcaaGreatDoorL12Gr1
namespace Go.Proofs.YtafjmpaefikdcaaGreatDoor.L12
open Go.RowKit
set_option linter.unusedVariables false

theorem ask_bd {b rt p : Int} (h : Ask b rt p) : 0 ≤ rt * p ∧ rt * p ≤ 100000000000000000 := by
  obtain ⟨_, ⟨t0, t1⟩, ⟨p0, p1⟩⟩ := h
  have := mul_le2 t0 p0 t1 p1
  exact ⟨Int.mul_nonneg t0 p0, by omega⟩
theorem divide_k (m n W : Int) (w : World) (hm : m = 1 ∨ m = 2 ∨ m = 3) (n1 : -400000000000000 ≤ n) (n2 : n ≤ 400000000000000) (hW : 0 < W) (hW2 : W ≤ 200000000000000) (hk : rnd m n W = 0 ∨ rnd m n W = 1) :
    Calls Tryz.prog 92 #[.agg #[.int .i64 m], .int .i64 n, .int .i64 W] w fun e w' => e = .returned (.tuple #[.int .i64 (rnd m n W), .int .i64 0]) ∧ Ext w w' :=
  divide_ok m n W w hm ⟨by omega, by omega⟩ hW (by omega) (fun h => divAt_full _ _ hW (by omega) h) (by unfold Fit; omega)
theorem bear_ok (B : Nat) (m W r b rt p : Int) (w : World) (hB : Brr w B m W r) (hr : Rst m W r) (hW : 0 < W) (hW2 : W ≤ 200000000000000) (ha : Ask b rt p) (hq : bq m W r (b * (rt * p)) ≤ 1000000000000000) :
    Calls Tryz.prog 63 #[.pointer (some ⟨B, 0, none⟩), .int .i64 b, .int .i64 rt, .int .i64 p] w fun e w' => e = .returned (.int .i64 (bq m W r (b * (rt * p)))) ∧ Ext (w.setCell ⟨B, 2, none⟩ (.int .i64 (br m W r (b * (rt * p))))) w' := by
  have hbd := ask_bd ha
  obtain ⟨rp, hrp⟩ : ∃ rp, rt * p = rp := ⟨_, rfl⟩
  rw [hrp] at hbd hq ⊢
  obtain ⟨⟨b0, b1⟩, ⟨t0, t1⟩, ⟨p0, p1⟩⟩ := ha
  have hE : 0 ≤ b * rp := Int.mul_nonneg b0 hbd.1
  have hn := bq_near (E := b * rp) hr hW
  have o0 := Int.emod_nonneg (b * rp) (show W ≠ 0 by omega)
  have o1 := Int.emod_lt_of_pos (b * rp) hW
  have hm := (more_one hr hW o0 o1).1
  have hrb := hr.bd hW
  have hqp := bq_parts (E := b * rp) hr hW
  have hq0 := Int.ediv_nonneg hE (Int.le_of_lt hW)
  rw [br_parts hr hW, hqp]
  rw [hqp] at hq hn
  have hk0 : 0 ≤ rnd m (b * rp % W + r) W * W ∧ rnd m (b * rp % W + r) W * W ≤ 200000000000000 := by rcases hm with e | e <;> rw [e] <;> omega
  rw [Int.mul_comm W]
  exact bear_A B m W r b rt p rp (b * rp / W) (b * rp % W) _ _ w hB hW hW2 b0 b1 t0 t1 p0 p1 hrp hbd.1 hbd.2 (by omega) (by omega) o0 (by omega)
    (fun w => gdiv_ok b rp W w b0 b1 hbd.1 hbd.2 hW hW2 (by omega)) (fun w => divide_k m _ W w hr.ways (by omega) (by omega) hW hW2 hm)
    (fun w => plus_ok _ _ w (by omega) (by omega) (by omega) (by omega) (by omega) (by omega)) rfl hk0.1 hk0.2
theorem bear_no (B : Nat) (m W r b rt p : Int) (w : World) (hB : Brr w B m W r) (hr : Rst m W r) (hW : 0 < W) (hW2 : W ≤ 200000000000000) (ha : Ask b rt p) (hq : ¬ bq m W r (b * (rt * p)) ≤ 1000000000000000) :
    Calls Tryz.prog 63 #[.pointer (some ⟨B, 0, none⟩), .int .i64 b, .int .i64 rt, .int .i64 p] w fun e w' => e = .panicked [{ v := .iface 33 (.int .i64 3), recovered := false }] ∧ Ext w w' := by
  have hbd := ask_bd ha
  obtain ⟨rp, hrp⟩ : ∃ rp, rt * p = rp := ⟨_, rfl⟩
  rw [hrp] at hbd hq
  obtain ⟨⟨b0, b1⟩, ⟨t0, t1⟩, ⟨p0, p1⟩⟩ := ha
  have hE : 0 ≤ b * rp := Int.mul_nonneg b0 hbd.1
  have o0 := Int.emod_nonneg (b * rp) (show W ≠ 0 by omega)
  have o1 := Int.emod_lt_of_pos (b * rp) hW
  have hm := (more_one hr hW o0 o1).1
  have hrb := hr.bd hW
  rw [bq_parts (E := b * rp) hr hW] at hq
  have hq0 := Int.ediv_nonneg hE (Int.le_of_lt hW)
  by_cases hs : b * rp / W ≤ 1000000000000000
  · exact bear_B B m W r b rt p rp (b * rp / W) (b * rp % W) _ w hB hW hW2 b0 b1 t0 t1 p0 p1 hrp hbd.1 hbd.2 (by omega) (by omega) o0 (by omega)
      (fun w => gdiv_ok b rp W w b0 b1 hbd.1 hbd.2 hW hW2 (by omega)) (fun w => divide_k m _ W w hr.ways (by omega) (by omega) hW hW2 hm)
      (fun w => plus_no _ _ w (by omega) (by omega) (by omega) (by omega) (by omega))
  · exact bear_over B m W r b rt p rp w hB hW hW2 b0 b1 t0 t1 p0 p1 hrp hbd.1 hbd.2 (fun w => gdiv_no b rp W w b0 b1 hbd.1 hbd.2 hW hW2 hs)

theorem Bear_of_ok (B : Nat) (b rt p v x : Int) (w : World) (hB : B < w.heap.size)
    (hq : Hid (∀ W, Ext w W → Calls Tryz.prog 63 #[.pointer (some ⟨B, 0, none⟩), .int .i64 b, .int .i64 rt, .int .i64 p] W fun e w' => e = .returned (.int .i64 v) ∧ Ext (W.setCell ⟨B, 2, none⟩ (.int .i64 x)) w')) :
    Calls Tryz.prog 41 #[.pointer (some ⟨B, 0, none⟩), .int .i64 b, .int .i64 rt, .int .i64 p] w fun e w' => e = .returned (.tuple #[.int .i64 v, .int .i64 0]) ∧ Ext (w.setCell ⟨B, 2, none⟩ (.int .i64 x)) w' := by
  have hmf := make_func
  go_enter_defers Tryz.func41, Tryz.ntmps41
  go_wp2_with fail
  refine (need_ok _ _).mono ?_
  rintro e w1 ⟨rfl, rfl⟩
  go_wp2_with fail
  refine (hq.out _ ?_).mono ?_
  · exact ((Ext.refl w).alloc _ _).alloc _ _
  rintro e w1 ⟨rfl, hx⟩
  have hsz : (w.setCell ⟨B, 2, none⟩ (.int .i64 x)).heap.size = w.heap.size := by simp [World.setCell]
  have hf : Fac (w.setCell ⟨B, 2, none⟩ (.int .i64 x)) w.heap.size w1 (.int .i64 0) 0 := by
    have h0 : Fac (w.setCell ⟨B, 2, none⟩ (.int .i64 x)) w.heap.size (((w.alloc (.cells #[.int .i64 0] 2)).alloc (.cells #[.int .i64 0] 33)).setCell ⟨B, 2, none⟩ (.int .i64 x)) (.int .i64 0) 0 := by
      refine ⟨?_, ?_, ?_, ?_, by omega, (((Ext.refl w).alloc _ _).alloc _ _).put _⟩
      · rw [other _ (Or.inl (by omega))]; simp [go_sem]
      · rw [other _ (Or.inl (by omega))]; simp [go_sem]
      · simp [go_sem]
      · simp [go_sem]
    exact h0.on hx
  have gp := hf.p; have gq := hf.q; have gpz := hf.pz; have gqz := hf.qz
  replace hf := show Hid _ from hf
  clear hx hq hsz
  go_wp2
  refine bear_leave_idle (w.setCell ⟨B, 2, none⟩ (.int .i64 x)) _ w.heap.size _ _ _ _ (by rfl) (by rfl) ((hf.out.set1 _).set2 _) ?_
  exact fun w2 hy => ⟨rfl, ((hf.out.set1 _).set2 _).fin hy⟩
theorem Bear_of_no (B : Nat) (b rt p c : Int) (w : World)
    (hq : Hid (∀ W, Ext w W → Calls Tryz.prog 63 #[.pointer (some ⟨B, 0, none⟩), .int .i64 b, .int .i64 rt, .int .i64 p] W fun e w' => e = .panicked [{ v := .iface 33 (.int .i64 c), recovered := false }] ∧ Ext W w')) :
    Calls Tryz.prog 41 #[.pointer (some ⟨B, 0, none⟩), .int .i64 b, .int .i64 rt, .int .i64 p] w fun e w' => e = .returned (.tuple #[.int .i64 0, .int .i64 c]) ∧ Ext w w' := by
  have hmf := make_func
  go_enter_defers Tryz.func41, Tryz.ntmps41
  go_wp2_with fail
  refine (need_ok _ _).mono ?_
  rintro e w1 ⟨rfl, rfl⟩
  go_wp2_with fail
  refine (hq.out _ ?_).mono ?_
  · exact ((Ext.refl w).alloc _ _).alloc _ _
  rintro e w1 ⟨rfl, hx⟩
  have hf : Fac w w.heap.size w1 (.int .i64 0) 0 := (Fac.begin w w (.int .i64 0) _ _ (Ext.refl w)).on hx
  replace hf := show Hid _ from hf
  clear hx hq
  go_wp2
  refine bear_leave_catch w _ w.heap.size _ _ _ _ _ (by rfl) (by rfl) hf.out ?_
  exact fun w2 hy => ⟨rfl, hf.out.fin hy⟩
end Go.Proofs.YtafjmpaefikdcaaGreatDoor.L12