/- A day's place where there is no such day; Parts and Between, as contracts: no statement of the seat is proved here. -/
import Derived.Test.YtkjdhefmhooplaaDoorFra3
namespace Go.Proofs.YtkjdhefmhooplaaDoor
open Go.RowKit
set_option linter.unusedVariables false

set_option maxHeartbeats 1000000 in
theorem at_no (g : FuncId) (p n : Int) (w : World) (h : n < -25567 ∨ 84370 < n) :
    Calls Tryd.prog 22 #[.agg #[.int .i64 p, .func (.func g) #[] #[]], .int .i64 n] w fun e w' => e = .panicked [{ v := .iface 23 (.int .i64 5), recovered := false }] ∧ Ext w w' := by
  replace h := show Hid _ from h
  go_enter Tryd.func22, Tryd.ntmps22
  go_upto_region 1 with fail
  obtain ⟨W0, b, hW0, hb, hx0, k0, k1, z0, z1⟩ := box2f w (.int .i64 p) (.func (.func g) #[] #[]) 41
  rw [hW0, hb]
  clear hW0 hb z0 z1
  replace hx0 := show Hid _ from hx0
  go_wp2
  refine wp_region_thrown (fun W => W.cell? ⟨b, 1, none⟩ = some (.func (.func g) #[] #[]) ∧ Ext W0 W) (fun a => a.defers = []) [] (fun _ => none) (fun c W => c = [{ v := .iface 23 (.int .i64 5), recovered := false }] ∧ Ext W0 W) (by kernel_rfl) ?_ (held_in k1) (fun hHeld => ?_)
  · rintro c a W hd - ⟨rfl, hx⟩
    exact ⟨hd, rfl, hx0.out.trans hx⟩
  refine takeT 0 (oi := { dst := some 5, op := Op.fieldAddr 41 (Operand.tmp 2) 1, type := 0, pos := "year.go:41", after := #[], guard := none }) (v := .pointer (some ⟨b, 1, none⟩)) rfl (by kernel_rfl) (by kernel_rfl) (by kernel_rfl) (by decide) (Or.inl ⟨by rfl, fun W hW => ?_⟩) hHeld ?_
  · dsimp only at hW
    go_simp
  simp only [Act.put, List.setIfInBounds_toArray, List.set_cons_zero, List.set_cons_succ]
  refine takeT 1 (oi := { dst := some 6, op := Op.load 39 (Operand.tmp 5), type := 39, pos := "year.go:41", after := #[{ on := 0, ground := Ground.data }], guard := none }) (v := .func (.func g) #[] #[]) rfl (by kernel_rfl) (by kernel_rfl) (by kernel_rfl) (by decide) (Or.inl ⟨by rfl, fun W hW => ?_⟩) hHeld ?_
  · dsimp only at hW
    go_simp
  simp only [Act.put, List.setIfInBounds_toArray, List.set_cons_zero, List.set_cons_succ]
  refine takeT 2 (oi := { dst := some 7, op := Op.move (Operand.tmp 1), type := 3, pos := "year.go:41", after := #[], guard := none }) (v := .int .i64 n) rfl (by kernel_rfl) (by kernel_rfl) (by kernel_rfl) (by decide) (Or.inl ⟨by rfl, fun W hW => ?_⟩) hHeld ?_
  · dsimp only at hW
    go_simp
  simp only [Act.put, List.setIfInBounds_toArray, List.set_cons_zero, List.set_cons_succ]
  refine takeT 3 (oi := { dst := some 8, op := Op.move (Operand.tmp 1), type := 3, pos := "year.go:41", after := #[], guard := none }) (v := .int .i64 n) rfl (by kernel_rfl) (by kernel_rfl) (by kernel_rfl) (by decide) (Or.inl ⟨by rfl, fun W hW => ?_⟩) hHeld ?_
  · dsimp only at hW
    go_simp
  simp only [Act.put, List.setIfInBounds_toArray, List.set_cons_zero, List.set_cons_succ]
  refine wpAnyH_ready (rs := [4]) (by kernel_rfl) (by simp) ?_
  refine AllReadyH.cons (o := { dst := some 9, op := Op.call { callee := Callee.value (Operand.func 36), args := #[Operand.tmp 8], argTypes := #[3] }, type := 45, pos := "year.go:41", after := #[{ on := 3, ground := Ground.data }], guard := none }) rfl (fun K hK => ?_) AllReadyH.nil
  go_simp
  refine (Date_no _ _ h.out).mono ?_
  rintro e W1 ⟨rfl, hx⟩
  try dsimp only
  refine hK.out _ _ (held_on hx hHeld) ?_
  clear hK K hHeld
  intro hHeld
  clear hx
  try simp only [Act.put, List.setIfInBounds_toArray, List.set_cons_zero, List.set_cons_succ]
  refine takeT 5 (oi := { dst := some 10, op := Op.extract (Operand.tmp 9) 0, type := 37, pos := "year.go:41", after := #[{ on := 4, ground := Ground.data }], guard := none }) (v := .agg #[.int .i64 0, .int .i64 0, .int .i64 0]) rfl (by kernel_rfl) (by kernel_rfl) (by kernel_rfl) (by decide) (Or.inl ⟨by rfl, fun W hW => ?_⟩) hHeld ?_
  · dsimp only at hW
    go_simp
  simp only [Act.put, List.setIfInBounds_toArray, List.set_cons_zero, List.set_cons_succ]
  refine takeT 6 (oi := { dst := some 11, op := Op.extract (Operand.tmp 9) 1, type := 23, pos := "year.go:41", after := #[{ on := 4, ground := Ground.data }], guard := none }) (v := .int .i64 5) rfl (by kernel_rfl) (by kernel_rfl) (by kernel_rfl) (by decide) (Or.inl ⟨by rfl, fun W hW => ?_⟩) hHeld ?_
  · dsimp only at hW
    go_simp
  simp only [Act.put, List.setIfInBounds_toArray, List.set_cons_zero, List.set_cons_succ]
  refine wpAnyH_ready (rs := [7]) (by kernel_rfl) (by simp) ?_
  refine AllReadyH.cons (o := { dst := some 12, op := Op.call { callee := Callee.value (Operand.func 35), args := #[Operand.tmp 10, Operand.tmp 11], argTypes := #[37, 23] }, type := 37, pos := "year.go:41", after := #[{ on := 5, ground := Ground.data }, { on := 6, ground := Ground.data }, { on := 4, ground := Ground.chain }], guard := none }) rfl (fun K hK => ?_) AllReadyH.nil
  go_simp
  refine (sureD_no _ _ _ _).mono ?_
  rintro e W2 ⟨rfl, hx⟩
  exact ⟨rfl, (fun t ht => (by cases ht)), rfl, hHeld.2.trans hx⟩

theorem make_func (fn : Fn) (first cap : Array Value) (w : World) : (Instr.makeFunc fn first cap).run Tryd.prog w = .ok (.func fn first cap) w := rfl
/-- What a face of package fraction has deferred. -/
def dfr (f : FuncId) (Z : Nat) : List Deferred := [{ target := .fn (.func f) #[.pointer (some ⟨Z, 0, none⟩), .pointer (some ⟨Z + 1, 0, none⟩)], args := #[] }]
/-- The world of a face at its end: the two results' blocks, and all that was there. -/
structure Fac (w W : World) (v z : Int) : Prop where
  p : W.cell? ⟨w.heap.size, 0, none⟩ = some (.int .i64 v)
  q : W.cell? ⟨w.heap.size + 1, 0, none⟩ = some (.int .i64 z)
  pz : W.frozen? ⟨w.heap.size, 0, none⟩ = false
  qz : W.frozen? ⟨w.heap.size + 1, 0, none⟩ = false
  ext : Ext w W
theorem Fac.begin (w : World) (t s : TypeId) : Fac w ((w.alloc (.cells #[.int .i64 0] t)).alloc (.cells #[.int .i64 0] s)) 0 0 :=
  ⟨by simp [go_sem], by simp [go_sem], by simp [go_sem], by simp [go_sem], ((Ext.refl w).alloc _ _).alloc _ _⟩
theorem Fac.on {w W W' : World} {v z : Int} (h : Fac w W v z) (hx : Ext W W') : Fac w W' v z :=
  ⟨hx.cell_of h.p, hx.cell_of h.q, by rw [hx.froz _ _ (lt_of_cell h.p)]; exact h.pz, by rw [hx.froz _ _ (lt_of_cell h.q)]; exact h.qz, h.ext.trans hx⟩
theorem Fac.set1 {w W : World} {v z : Int} (h : Fac w W v z) (x : Int) : Fac w (W.setCell ⟨w.heap.size, 0, none⟩ (.int .i64 x)) x z :=
  ⟨same h.p, by rw [other _ (Or.inl (by omega))]; exact h.q, by simp [go_sem, h.pz], by simp [go_sem, h.qz], h.ext.setCell (Nat.le_refl _) _⟩
theorem Fac.set2 {w W : World} {v z : Int} (h : Fac w W v z) (x : Int) : Fac w (W.setCell ⟨w.heap.size + 1, 0, none⟩ (.int .i64 x)) v x :=
  ⟨by rw [other _ (Or.inl (by omega))]; exact h.p, same h.q, by simp [go_sem, h.pz], by simp [go_sem, h.qz], h.ext.setCell (by show w.heap.size ≤ w.heap.size + 1; omega) _⟩
theorem parts_leave_catch (w W : World) (tm : Array Value) (c v z : Int) (h1 : tm[2]? = some (.pointer (some ⟨w.heap.size, 0, none⟩))) (h2 : tm[3]? = some (.pointer (some ⟨w.heap.size + 1, 0, none⟩))) (hf : Fac w W v z) :
    Leaves Tryd.prog Tryd.f8 tm (fun e w' => e = .returned (.tuple #[.int .i64 0, .int .i64 c]) ∧ Ext w w') (dfr 18 w.heap.size) (.panicking [{ v := .iface 23 (.int .i64 c), recovered := false }]) W := by
  refine leaves_cons (f := 18) (args := #[.pointer (some ⟨w.heap.size, 0, none⟩), .pointer (some ⟨w.heap.size + 1, 0, none⟩)]) (by simp) (by simp [go_sem]) ?_
  refine (parts_catch w.heap.size c v z [] _ hf.p hf.q hf.pz hf.qz).mono ?_
  rintro e u' w'' ⟨rfl, rfl, w2, hy, rfl⟩
  have hg := hf.on hy
  simp [Leaves, settle, results, Tryd.results8, go_sem, h1, h2, hg.p, hg.q]
  exact ((hg.set1 _).set2 _).ext
theorem parts_leave_idle (w W : World) (tm : Array Value) (v z : Int) (h1 : tm[2]? = some (.pointer (some ⟨w.heap.size, 0, none⟩))) (h2 : tm[3]? = some (.pointer (some ⟨w.heap.size + 1, 0, none⟩))) (hf : Fac w W v z) :
    Leaves Tryd.prog Tryd.f8 tm (fun e w' => e = .returned (.tuple #[.int .i64 v, .int .i64 0]) ∧ Ext w w') (dfr 18 w.heap.size) .returning W := by
  refine leaves_cons (f := 18) (args := #[.pointer (some ⟨w.heap.size, 0, none⟩), .pointer (some ⟨w.heap.size + 1, 0, none⟩)]) (by simp) (by simp [go_sem]) ?_
  refine (parts_idle w.heap.size v z _ hf.p hf.q hf.pz hf.qz).mono ?_
  rintro e u' w'' ⟨rfl, rfl, w2, hy, rfl⟩
  have hg := hf.on hy
  simp [Leaves, settle, results, Tryd.results8, go_sem, h1, h2, hg.p, hg.q]
  exact ((hg.set1 _).set2 _).ext
theorem btw_leave_catch (w W : World) (tm : Array Value) (c v z : Int) (h1 : tm[6]? = some (.pointer (some ⟨w.heap.size, 0, none⟩))) (h2 : tm[7]? = some (.pointer (some ⟨w.heap.size + 1, 0, none⟩))) (hf : Fac w W v z) :
    Leaves Tryd.prog Tryd.f10 tm (fun e w' => e = .returned (.tuple #[.int .i64 0, .int .i64 c]) ∧ Ext w w') (dfr 21 w.heap.size) (.panicking [{ v := .iface 23 (.int .i64 c), recovered := false }]) W := by
  refine leaves_cons (f := 21) (args := #[.pointer (some ⟨w.heap.size, 0, none⟩), .pointer (some ⟨w.heap.size + 1, 0, none⟩)]) (by simp) (by simp [go_sem]) ?_
  refine (btw_catch w.heap.size c v z [] _ hf.p hf.q hf.pz hf.qz).mono ?_
  rintro e u' w'' ⟨rfl, rfl, w2, hy, rfl⟩
  have hg := hf.on hy
  simp [Leaves, settle, results, Tryd.results10, go_sem, h1, h2, hg.p, hg.q]
  exact ((hg.set1 _).set2 _).ext
theorem btw_leave_idle (w W : World) (tm : Array Value) (v z : Int) (h1 : tm[6]? = some (.pointer (some ⟨w.heap.size, 0, none⟩))) (h2 : tm[7]? = some (.pointer (some ⟨w.heap.size + 1, 0, none⟩))) (hf : Fac w W v z) :
    Leaves Tryd.prog Tryd.f10 tm (fun e w' => e = .returned (.tuple #[.int .i64 v, .int .i64 0]) ∧ Ext w w') (dfr 21 w.heap.size) .returning W := by
  refine leaves_cons (f := 21) (args := #[.pointer (some ⟨w.heap.size, 0, none⟩), .pointer (some ⟨w.heap.size + 1, 0, none⟩)]) (by simp) (by simp [go_sem]) ?_
  refine (btw_idle w.heap.size v z _ hf.p hf.q hf.pz hf.qz).mono ?_
  rintro e u' w'' ⟨rfl, rfl, w2, hy, rfl⟩
  have hg := hf.on hy
  simp [Leaves, settle, results, Tryd.results10, go_sem, h1, h2, hg.p, hg.q]
  exact ((hg.set1 _).set2 _).ext
end Go.Proofs.YtkjdhefmhooplaaDoor
