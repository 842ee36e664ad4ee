
/- The faces Divide, Of, Plus of fixnum and Parts of fraction, and the document's Parts, as contracts: no statement of the seat is proved here. -/
import Derived.Test.YtafjmpaefikdcaaGreatDoorL12Leaf
namespace Go.Proofs.YtafjmpaefikdcaaGreatDoor.L12
open Go.RowKit
set_option linter.unusedVariables false

theorem make_func (fn : Fn) (first cap : Array Value) (w : World) : (Instr.makeFunc fn first cap).run Tryz.prog w = .ok (.func fn first cap) w := rfl
theorem Fac.cast {w W : World} {Z Z' : Nat} {v : Value} {z : Int} (h : Fac w Z W v z) (e : Z = Z') : Fac w Z' W v z := e ▸ h
theorem Fac.fin {w W W' : World} {Z : Nat} {v x : Value} {z y : Int} (h : Fac w Z W v z) (hy : Ext W W') : Ext w ((W'.setCell ⟨Z, 0, none⟩ x).setCell ⟨Z + 1, 0, none⟩ (.int .i64 y)) :=
  (((h.on hy).set1 x).set2 y).ext
theorem div_of_ok (m n d v : Int) (hq : Hid (∀ w, Calls Tryz.prog 112 #[.agg #[.int .i64 m], .int .i64 n, .int .i64 1, .int .i64 d] w fun e w' => e = .returned (.int .i64 v) ∧ Ext w w')) (w : World) :
    Calls Tryz.prog 92 #[.agg #[.int .i64 m], .int .i64 n, .int .i64 d] w fun e w' => e = .returned (.tuple #[.int .i64 v, .int .i64 0]) ∧ Ext w w' := by
  have hmf := make_func
  go_enter_defers Tryz.func92, Tryz.ntmps92
  go_wp2_with fail
  refine (hq.out _).mono ?_
  rintro e w1 ⟨rfl, hx⟩
  have hf : Fac w (w.heap.size + 1) w1 (.int .i64 0) 0 := ((Fac.begin w _ (.int .i64 0) _ _ (by repeat (first | exact Ext.refl _ | apply Ext.alloc))).on hx).cast (by simp [go_sem])
  have gp := hf.p; have gq := hf.q; have gpz := hf.pz; have gqz := hf.qz
  replace hf := show Hid _ from hf
  clear hx
  clear hq
  go_wp2
  refine div_leave_idle w _ (w.heap.size + 1) _ _ _ _ (by rfl) (by rfl) ((hf.out.set1 _).set2 _) ?_
  exact fun w2 hy => ⟨rfl, ((hf.out.set1 _).set2 _).fin hy⟩
theorem div_of_no (m n d c : Int) (hq : Hid (∀ w, Calls Tryz.prog 112 #[.agg #[.int .i64 m], .int .i64 n, .int .i64 1, .int .i64 d] w fun e w' => e = .panicked [{ v := .iface 33 (.int .i64 c), recovered := false }] ∧ Ext w w')) (w : World) :
    Calls Tryz.prog 92 #[.agg #[.int .i64 m], .int .i64 n, .int .i64 d] w fun e w' => e = .returned (.tuple #[.int .i64 0, .int .i64 c]) ∧ Ext w w' := by
  have hmf := make_func
  go_enter_defers Tryz.func92, Tryz.ntmps92
  go_wp2_with fail
  refine (hq.out _).mono ?_
  rintro e w1 ⟨rfl, hx⟩
  have hf : Fac w (w.heap.size + 1) w1 (.int .i64 0) 0 := ((Fac.begin w _ (.int .i64 0) _ _ (by repeat (first | exact Ext.refl _ | apply Ext.alloc))).on hx).cast (by simp [go_sem])
  have gp := hf.p; have gq := hf.q; have gpz := hf.pz; have gqz := hf.qz
  replace hf := show Hid _ from hf
  clear hx
  clear hq
  go_wp2
  refine div_leave_catch w _ (w.heap.size + 1) _ _ _ _ _ (by rfl) (by rfl) hf.out ?_
  exact fun w2 hy => ⟨rfl, hf.out.fin hy⟩
theorem of_1 (w : World) :
    Calls Tryz.prog 61 #[.int .i64 1] w fun e w' => e = .returned (.tuple #[.agg #[.int .i64 1], .int .i64 0]) ∧ Ext w w' := by
  have hmf := make_func
  go_enter_defers Tryz.func61, Tryz.ntmps61
  go_wp2_with (go_at_call 20; refine (need_ok _ _).mono ?_; rintro e w' ⟨rfl, rfl⟩)
  have hf : Hid (Fac w w.heap.size ((w.alloc (.cells #[.int .i64 1] 102)).alloc (.cells #[.int .i64 0] 33)) (.int .i64 1) 0) := Fac.begin w w _ _ _ (Ext.refl w)
  refine of_leave_idle w _ w.heap.size _ _ _ _ (by rfl) (by rfl) hf.out ?_
  exact fun w2 hy => ⟨rfl, hf.out.fin hy⟩
theorem of_2 (w : World) :
    Calls Tryz.prog 61 #[.int .i64 2] w fun e w' => e = .returned (.tuple #[.agg #[.int .i64 2], .int .i64 0]) ∧ Ext w w' := by
  have hmf := make_func
  go_enter_defers Tryz.func61, Tryz.ntmps61
  go_wp2_with (go_at_call 20; refine (need_ok _ _).mono ?_; rintro e w' ⟨rfl, rfl⟩)
  have hf : Hid (Fac w w.heap.size ((w.alloc (.cells #[.int .i64 2] 102)).alloc (.cells #[.int .i64 0] 33)) (.int .i64 2) 0) := Fac.begin w w _ _ _ (Ext.refl w)
  refine of_leave_idle w _ w.heap.size _ _ _ _ (by rfl) (by rfl) hf.out ?_
  exact fun w2 hy => ⟨rfl, hf.out.fin hy⟩
theorem of_3 (w : World) :
    Calls Tryz.prog 61 #[.int .i64 3] w fun e w' => e = .returned (.tuple #[.agg #[.int .i64 3], .int .i64 0]) ∧ Ext w w' := by
  have hmf := make_func
  go_enter_defers Tryz.func61, Tryz.ntmps61
  go_wp2_with (go_at_call 20; refine (need_ok _ _).mono ?_; rintro e w' ⟨rfl, rfl⟩)
  have hf : Hid (Fac w w.heap.size ((w.alloc (.cells #[.int .i64 3] 102)).alloc (.cells #[.int .i64 0] 33)) (.int .i64 3) 0) := Fac.begin w w _ _ _ (Ext.refl w)
  refine of_leave_idle w _ w.heap.size _ _ _ _ (by rfl) (by rfl) hf.out ?_
  exact fun w2 hy => ⟨rfl, hf.out.fin hy⟩
theorem plus_ok (a b : Int) (w : World) (a1 : -1000000000000000 ≤ a) (a2 : a ≤ 1000000000000000) (b1 : -1000000000000000 ≤ b) (b2 : b ≤ 1000000000000000) (s1 : -1000000000000000 ≤ a + b) (s2 : a + b ≤ 1000000000000000) :
    Calls Tryz.prog 93 #[.int .i64 a, .int .i64 b] w fun e w' => e = .returned (.tuple #[.int .i64 (a + b), .int .i64 0]) ∧ Ext w w' := by
  have hmf := make_func
  have hf : Hid (Fac w w.heap.size ((w.alloc (.cells #[.int .i64 (a + b)] 2)).alloc (.cells #[.int .i64 0] 33)) (.int .i64 (a + b)) 0) := Fac.begin w w _ _ _ (Ext.refl w)
  go_enter_defers Tryz.func93, Tryz.ntmps93
  go_wp2_with (go_at_call 114; refine (fitting_ok _ _ (by omega) (by omega)).mono ?_; rintro e w' ⟨rfl, rfl⟩)
  refine plus_leave_idle w _ w.heap.size _ _ _ _ (by rfl) (by rfl) hf.out ?_
  exact fun w2 hy => ⟨rfl, hf.out.fin hy⟩
theorem plus_no (a b : Int) (w : World) (a1 : -1000000000000000 ≤ a) (a2 : a ≤ 1000000000000000) (b1 : -1000000000000000 ≤ b) (b2 : b ≤ 1000000000000000) (h : ¬ (-1000000000000000 ≤ a + b ∧ a + b ≤ 1000000000000000)) :
    Calls Tryz.prog 93 #[.int .i64 a, .int .i64 b] w fun e w' => e = .returned (.tuple #[.int .i64 0, .int .i64 3]) ∧ Ext w w' := by
  have hmf := make_func
  have hf : Hid (Fac w w.heap.size ((w.alloc (.cells #[.int .i64 0] 2)).alloc (.cells #[.int .i64 0] 33)) (.int .i64 0) 0) := Fac.begin w w _ _ _ (Ext.refl w)
  go_enter_defers Tryz.func93, Tryz.ntmps93
  go_wp2_with fail
  refine (fitting_ok _ _ (by omega) (by omega)).mono ?_
  rintro e w1 ⟨rfl, rfl⟩
  go_wp2_with fail
  refine (fitting_ok _ _ (by omega) (by omega)).mono ?_
  rintro e w1 ⟨rfl, rfl⟩
  go_wp2_with fail
  refine (fitting_no _ _ (by omega)).mono ?_
  rintro e w1 ⟨rfl, rfl⟩
  go_wp2_with fail
  refine plus_leave_catch w _ w.heap.size _ _ _ _ _ (by rfl) (by rfl) hf.out ?_
  exact fun w2 hy => ⟨rfl, hf.out.fin hy⟩
end Go.Proofs.YtafjmpaefikdcaaGreatDoor.L12