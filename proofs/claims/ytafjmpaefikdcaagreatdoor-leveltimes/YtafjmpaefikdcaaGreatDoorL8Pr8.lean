
/- What rules and Check of package product answer, as contracts: no statement of the seat is proved here. -/
import Derived.Test.YtafjmpaefikdcaaGreatDoorM8
namespace Go.Proofs.YtafjmpaefikdcaaGreatDoor.L8
open Go.RowKit
set_option linter.unusedVariables false

/-- May the product be? -/
def chkB (nm : List UInt8) (cn rd kd ev tm gr rt : Int) (rs : List (Int × Int)) (pn o0 o1 o2 o3 ov : Int) (lt : List (Int × Int)) (cp rl : Int) (hd : List Int) : Bool := nmb nm && (r1B cn rd kd ov rl && (r2B ev && (lz tm 1 600 && (r4B kd tm gr && (r5B rt pn && (r6B tm rs && (r7B o0 o1 o2 o3 && (r8B lt && (r9B lt.length cp && (r10B rl hd))))))))))
/-- A product in a block, with its lists. -/
structure Bx (w : World) (b : Nat) (nm : List UInt8) (cn rd kd ev tm gr rt : Int) (vr : Value) (rs : List (Int × Int)) (pn o0 o1 o2 o3 ov : Int) (vl : Value) (lt : List (Int × Int)) (cp rl : Int) (vh : Value) (hd : List Int) : Prop where
  c0 : w.cell? ⟨b, 0, none⟩ = some (.string ⟨nm.toArray⟩)
  c1 : w.cell? ⟨b, 1, none⟩ = some (.int .i64 cn)
  c2 : w.cell? ⟨b, 2, none⟩ = some (.int .i64 rd)
  c3 : w.cell? ⟨b, 3, none⟩ = some (.int .i64 kd)
  c4 : w.cell? ⟨b, 4, none⟩ = some (.int .i64 ev)
  c5 : w.cell? ⟨b, 5, none⟩ = some (.int .i64 tm)
  c6 : w.cell? ⟨b, 6, none⟩ = some (.int .i64 gr)
  c7 : w.cell? ⟨b, 7, none⟩ = some (.int .i64 rt)
  c8 : w.cell? ⟨b, 8, none⟩ = some (vr)
  c9 : w.cell? ⟨b, 9, none⟩ = some (.int .i64 pn)
  c10 : w.cell? ⟨b, 10, none⟩ = some (.int .i64 o0)
  c11 : w.cell? ⟨b, 11, none⟩ = some (.int .i64 o1)
  c12 : w.cell? ⟨b, 12, none⟩ = some (.int .i64 o2)
  c13 : w.cell? ⟨b, 13, none⟩ = some (.int .i64 o3)
  c14 : w.cell? ⟨b, 14, none⟩ = some (.int .i64 ov)
  c15 : w.cell? ⟨b, 15, none⟩ = some (vl)
  c16 : w.cell? ⟨b, 16, none⟩ = some (.int .i64 cp)
  c17 : w.cell? ⟨b, 17, none⟩ = some (.int .i64 rl)
  c18 : w.cell? ⟨b, 18, none⟩ = some (vh)
  sr : Slp w vr rs
  sl : Slp w vl lt
  sh : Slc w vh hd
theorem Bx.ext {w w' : World} {b : Nat} {nm : List UInt8} {cn rd kd ev tm gr rt : Int} {vr : Value} {rs : List (Int × Int)} {pn o0 o1 o2 o3 ov : Int} {vl : Value} {lt : List (Int × Int)} {cp rl : Int} {vh : Value} {hd : List Int}
    (h : Bx w b nm cn rd kd ev tm gr rt vr rs pn o0 o1 o2 o3 ov vl lt cp rl vh hd) (hx : Ext w w') : Bx w' b nm cn rd kd ev tm gr rt vr rs pn o0 o1 o2 o3 ov vl lt cp rl vh hd :=
  ⟨hx.cell_of h.c0, hx.cell_of h.c1, hx.cell_of h.c2, hx.cell_of h.c3, hx.cell_of h.c4, hx.cell_of h.c5, hx.cell_of h.c6, hx.cell_of h.c7, hx.cell_of h.c8, hx.cell_of h.c9, hx.cell_of h.c10, hx.cell_of h.c11, hx.cell_of h.c12, hx.cell_of h.c13, hx.cell_of h.c14, hx.cell_of h.c15, hx.cell_of h.c16, hx.cell_of h.c17, hx.cell_of h.c18, h.sr.ext hx, h.sl.ext hx, h.sh.ext hx⟩
theorem Bx.new (w : World) (nm : List UInt8) (cn rd kd ev tm gr rt : Int) (vr : Value) (rs : List (Int × Int)) (pn o0 o1 o2 o3 ov : Int) (vl : Value) (lt : List (Int × Int)) (cp rl : Int) (vh : Value) (hd : List Int) (sr : Slp w vr rs) (sl : Slp w vl lt) (sh : Slc w vh hd) (t : TypeId) : Bx (w.alloc (.cells #[.string ⟨nm.toArray⟩, .int .i64 cn, .int .i64 rd, .int .i64 kd, .int .i64 ev, .int .i64 tm, .int .i64 gr, .int .i64 rt, vr, .int .i64 pn, .int .i64 o0, .int .i64 o1, .int .i64 o2, .int .i64 o3, .int .i64 ov, vl, .int .i64 cp, .int .i64 rl, vh] t)) w.heap.size nm cn rd kd ev tm gr rt vr rs pn o0 o1 o2 o3 ov vl lt cp rl vh hd :=
  ⟨by simp [go_sem], by simp [go_sem], by simp [go_sem], by simp [go_sem], by simp [go_sem], by simp [go_sem], by simp [go_sem], by simp [go_sem], by simp [go_sem], by simp [go_sem], by simp [go_sem], by simp [go_sem], by simp [go_sem], by simp [go_sem], by simp [go_sem], by simp [go_sem], by simp [go_sem], by simp [go_sem], by simp [go_sem], sr.ext ((Ext.refl w).alloc _ _), sl.ext ((Ext.refl w).alloc _ _), sh.ext ((Ext.refl w).alloc _ _)⟩
theorem make_func (fn : Fn) (first cap : Array Value) (w : World) : (Instr.makeFunc fn first cap).run Tryz.prog w = .ok (.func fn first cap) w := rfl
/-- The row of rules. -/
structure Rls (w : World) (g b : Nat) : Prop where
  c0 : w.cell? ⟨g, 0, none⟩ = some (.func (.func 74) #[.pointer (some ⟨b, 0, none⟩)] #[])
  c1 : w.cell? ⟨g, 1, none⟩ = some (.func (.func 75) #[.pointer (some ⟨b, 0, none⟩)] #[])
  c2 : w.cell? ⟨g, 2, none⟩ = some (.func (.func 76) #[.pointer (some ⟨b, 0, none⟩)] #[])
  c3 : w.cell? ⟨g, 3, none⟩ = some (.func (.func 77) #[.pointer (some ⟨b, 0, none⟩)] #[])
  c4 : w.cell? ⟨g, 4, none⟩ = some (.func (.func 78) #[.pointer (some ⟨b, 0, none⟩)] #[])
  c5 : w.cell? ⟨g, 5, none⟩ = some (.func (.func 79) #[.pointer (some ⟨b, 0, none⟩)] #[])
  c6 : w.cell? ⟨g, 6, none⟩ = some (.func (.func 80) #[.pointer (some ⟨b, 0, none⟩)] #[])
  c7 : w.cell? ⟨g, 7, none⟩ = some (.func (.func 81) #[.pointer (some ⟨b, 0, none⟩)] #[])
  c8 : w.cell? ⟨g, 8, none⟩ = some (.func (.func 82) #[.pointer (some ⟨b, 0, none⟩)] #[])
  c9 : w.cell? ⟨g, 9, none⟩ = some (.func (.func 83) #[.pointer (some ⟨b, 0, none⟩)] #[])
  c10 : w.cell? ⟨g, 10, none⟩ = some (.func (.func 84) #[.pointer (some ⟨b, 0, none⟩)] #[])
theorem Rls.ext {w w' : World} {g b : Nat} (h : Rls w g b) (hx : Ext w w') : Rls w' g b :=
  ⟨hx.cell_of h.c0, hx.cell_of h.c1, hx.cell_of h.c2, hx.cell_of h.c3, hx.cell_of h.c4, hx.cell_of h.c5, hx.cell_of h.c6, hx.cell_of h.c7, hx.cell_of h.c8, hx.cell_of h.c9, hx.cell_of h.c10⟩
theorem Rls.new (w : World) (b : Nat) (t : TypeId) : Rls (w.alloc (.cells #[.func (.func 74) #[.pointer (some ⟨b, 0, none⟩)] #[], .func (.func 75) #[.pointer (some ⟨b, 0, none⟩)] #[], .func (.func 76) #[.pointer (some ⟨b, 0, none⟩)] #[], .func (.func 77) #[.pointer (some ⟨b, 0, none⟩)] #[], .func (.func 78) #[.pointer (some ⟨b, 0, none⟩)] #[], .func (.func 79) #[.pointer (some ⟨b, 0, none⟩)] #[], .func (.func 80) #[.pointer (some ⟨b, 0, none⟩)] #[], .func (.func 81) #[.pointer (some ⟨b, 0, none⟩)] #[], .func (.func 82) #[.pointer (some ⟨b, 0, none⟩)] #[], .func (.func 83) #[.pointer (some ⟨b, 0, none⟩)] #[], .func (.func 84) #[.pointer (some ⟨b, 0, none⟩)] #[]] t)) w.heap.size b :=
  ⟨by simp [go_sem], by simp [go_sem], by simp [go_sem], by simp [go_sem], by simp [go_sem], by simp [go_sem], by simp [go_sem], by simp [go_sem], by simp [go_sem], by simp [go_sem], by simp [go_sem]⟩
theorem rules_c (b : Nat) (w : World) :
    Calls Tryz.prog 55 #[.pointer (some ⟨b, 0, none⟩)] w fun e w' => (∃ g, e = .returned (.slice (some ⟨g, 0, none⟩) 11 11) ∧ Rls w' g b) ∧ Ext w w' := by
  have hmf := make_func
  have hR := Rls.new w b 29
  replace hR := show Hid _ from hR
  go_enter Tryz.func55, Tryz.ntmps55
  go_wp2
  go_ret
  exact ⟨⟨_, rfl, hR.out⟩, (Ext.refl _).alloc _ _⟩
/-- What Check has deferred. -/
def dfr (Z : Nat) : List Deferred := [{ target := .fn (.func 53) #[.pointer (some ⟨Z + 1, 0, none⟩)], args := #[] }]
/-- The world of the face at its end: the result's block, and all that was there. -/
structure Fac (w W : World) (Z : Nat) (z : Int) : Prop where
  p : W.cell? ⟨Z + 1, 0, none⟩ = some (.int .i64 z)
  pz : W.frozen? ⟨Z + 1, 0, none⟩ = false
  lo : w.heap.size ≤ Z
  ext : Ext w W
theorem Fac.begin (w : World) (c : Array Value) (t s : TypeId) : Fac w ((w.alloc (.cells c t)).alloc (.cells #[.int .i64 0] s)) w.heap.size 0 :=
  ⟨by simp [go_sem], by simp [go_sem], Nat.le_refl _, ((Ext.refl w).alloc _ _).alloc _ _⟩
theorem Fac.on {w W W' : World} {Z : Nat} {z : Int} (h : Fac w W Z z) (hx : Ext W W') : Fac w W' Z z := ⟨hx.cell_of h.p, hx.froz_of h.p h.pz, h.lo, h.ext.trans hx⟩
theorem Fac.set {w W : World} {Z : Nat} {z : Int} (h : Fac w W Z z) (x : Int) : Fac w (W.setCell ⟨Z + 1, 0, none⟩ (.int .i64 x)) Z x :=
  ⟨same h.p, by simp [go_sem, h.pz], h.lo, h.ext.setCell (by show w.heap.size ≤ Z + 1; have := h.lo; omega) _⟩
theorem leave_idle (w W : World) (Z : Nat) (tm : Array Value) (z E : Int) (hE : E = 0) (h1 : tm[2]? = some (.pointer (some ⟨Z + 1, 0, none⟩))) (hf : Fac w W Z z) :
    Leaves Tryz.prog Tryz.f38 tm (fun e w' => e = .returned (.int .i64 E) ∧ Ext w w') (dfr Z) .returning W := by
  subst hE
  refine leaves_cons (f := 53) (args := #[.pointer (some ⟨Z + 1, 0, none⟩)]) (by simp) (by simp [go_sem]) ?_
  refine (chk_idle _ z _ hf.p hf.pz).mono ?_
  rintro e u' w'' ⟨rfl, rfl, w2, hy, rfl⟩
  have hg := (hf.on hy).set 0
  generalize w2.setCell ⟨Z + 1, 0, none⟩ (.int .i64 0) = Wf at *
  simp [Leaves, settle, results, Tryz.results38, go_sem, h1, hg.p]
  exact hg.ext
theorem leave_errno (w W : World) (Z : Nat) (tm : Array Value) (c z E : Int) (hE : E = c) (h1 : tm[2]? = some (.pointer (some ⟨Z + 1, 0, none⟩))) (hf : Fac w W Z z) :
    Leaves Tryz.prog Tryz.f38 tm (fun e w' => e = .returned (.int .i64 E) ∧ Ext w w') (dfr Z) (.panicking [{ v := .iface 33 (.int .i64 c), recovered := false }]) W := by
  subst hE
  refine leaves_cons (f := 53) (args := #[.pointer (some ⟨Z + 1, 0, none⟩)]) (by simp) (by simp [go_sem]) ?_
  refine (chk_errno _ E [] z _ hf.p hf.pz).mono ?_
  rintro e u' w'' ⟨rfl, rfl, w2, hy, rfl⟩
  have hg := (hf.on hy).set E
  generalize w2.setCell ⟨Z + 1, 0, none⟩ (.int .i64 E) = Wf at *
  simp [Leaves, settle, results, Tryz.results38, go_sem, h1, hg.p]
  exact hg.ext
/-- What a rule answers, whenever it is asked behind the world W. -/
def Rul (W : World) (b : Nat) (f : FuncId) (B : Bool) : Prop := ∀ w' : World, Ext W w' → Calls Tryz.prog f #[.pointer (some ⟨b, 0, none⟩)] w' fun e w'' => e = .returned (.bool B) ∧ Ext w' w''
set_option maxHeartbeats 4000000 in
set_option maxRecDepth 100000 in
theorem Check_of (cn rd kd ev tm gr rt pn o0 o1 o2 o3 ov cp rl : Int) (nm : List UInt8) (vr vl vh : Value) (b0 b1 b2 b3 b4 b5 b6 b7 b8 b9 b10 : Bool) (E : Int) (w : World)
    (q0 : ∀ t : TypeId, Rul (w.alloc (.cells #[.string ⟨nm.toArray⟩, .int .i64 cn, .int .i64 rd, .int .i64 kd, .int .i64 ev, .int .i64 tm, .int .i64 gr, .int .i64 rt, vr, .int .i64 pn, .int .i64 o0, .int .i64 o1, .int .i64 o2, .int .i64 o3, .int .i64 ov, vl, .int .i64 cp, .int .i64 rl, vh] t)) w.heap.size 74 b0)
    (q1 : ∀ t : TypeId, Rul (w.alloc (.cells #[.string ⟨nm.toArray⟩, .int .i64 cn, .int .i64 rd, .int .i64 kd, .int .i64 ev, .int .i64 tm, .int .i64 gr, .int .i64 rt, vr, .int .i64 pn, .int .i64 o0, .int .i64 o1, .int .i64 o2, .int .i64 o3, .int .i64 ov, vl, .int .i64 cp, .int .i64 rl, vh] t)) w.heap.size 75 b1)
    (q2 : ∀ t : TypeId, Rul (w.alloc (.cells #[.string ⟨nm.toArray⟩, .int .i64 cn, .int .i64 rd, .int .i64 kd, .int .i64 ev, .int .i64 tm, .int .i64 gr, .int .i64 rt, vr, .int .i64 pn, .int .i64 o0, .int .i64 o1, .int .i64 o2, .int .i64 o3, .int .i64 ov, vl, .int .i64 cp, .int .i64 rl, vh] t)) w.heap.size 76 b2)
    (q3 : ∀ t : TypeId, Rul (w.alloc (.cells #[.string ⟨nm.toArray⟩, .int .i64 cn, .int .i64 rd, .int .i64 kd, .int .i64 ev, .int .i64 tm, .int .i64 gr, .int .i64 rt, vr, .int .i64 pn, .int .i64 o0, .int .i64 o1, .int .i64 o2, .int .i64 o3, .int .i64 ov, vl, .int .i64 cp, .int .i64 rl, vh] t)) w.heap.size 77 b3)
    (q4 : ∀ t : TypeId, Rul (w.alloc (.cells #[.string ⟨nm.toArray⟩, .int .i64 cn, .int .i64 rd, .int .i64 kd, .int .i64 ev, .int .i64 tm, .int .i64 gr, .int .i64 rt, vr, .int .i64 pn, .int .i64 o0, .int .i64 o1, .int .i64 o2, .int .i64 o3, .int .i64 ov, vl, .int .i64 cp, .int .i64 rl, vh] t)) w.heap.size 78 b4)
    (q5 : ∀ t : TypeId, Rul (w.alloc (.cells #[.string ⟨nm.toArray⟩, .int .i64 cn, .int .i64 rd, .int .i64 kd, .int .i64 ev, .int .i64 tm, .int .i64 gr, .int .i64 rt, vr, .int .i64 pn, .int .i64 o0, .int .i64 o1, .int .i64 o2, .int .i64 o3, .int .i64 ov, vl, .int .i64 cp, .int .i64 rl, vh] t)) w.heap.size 79 b5)
    (q6 : ∀ t : TypeId, Rul (w.alloc (.cells #[.string ⟨nm.toArray⟩, .int .i64 cn, .int .i64 rd, .int .i64 kd, .int .i64 ev, .int .i64 tm, .int .i64 gr, .int .i64 rt, vr, .int .i64 pn, .int .i64 o0, .int .i64 o1, .int .i64 o2, .int .i64 o3, .int .i64 ov, vl, .int .i64 cp, .int .i64 rl, vh] t)) w.heap.size 80 b6)
    (q7 : ∀ t : TypeId, Rul (w.alloc (.cells #[.string ⟨nm.toArray⟩, .int .i64 cn, .int .i64 rd, .int .i64 kd, .int .i64 ev, .int .i64 tm, .int .i64 gr, .int .i64 rt, vr, .int .i64 pn, .int .i64 o0, .int .i64 o1, .int .i64 o2, .int .i64 o3, .int .i64 ov, vl, .int .i64 cp, .int .i64 rl, vh] t)) w.heap.size 81 b7)
    (q8 : ∀ t : TypeId, Rul (w.alloc (.cells #[.string ⟨nm.toArray⟩, .int .i64 cn, .int .i64 rd, .int .i64 kd, .int .i64 ev, .int .i64 tm, .int .i64 gr, .int .i64 rt, vr, .int .i64 pn, .int .i64 o0, .int .i64 o1, .int .i64 o2, .int .i64 o3, .int .i64 ov, vl, .int .i64 cp, .int .i64 rl, vh] t)) w.heap.size 82 b8)
    (q9 : ∀ t : TypeId, Rul (w.alloc (.cells #[.string ⟨nm.toArray⟩, .int .i64 cn, .int .i64 rd, .int .i64 kd, .int .i64 ev, .int .i64 tm, .int .i64 gr, .int .i64 rt, vr, .int .i64 pn, .int .i64 o0, .int .i64 o1, .int .i64 o2, .int .i64 o3, .int .i64 ov, vl, .int .i64 cp, .int .i64 rl, vh] t)) w.heap.size 83 b9)
    (q10 : ∀ t : TypeId, Rul (w.alloc (.cells #[.string ⟨nm.toArray⟩, .int .i64 cn, .int .i64 rd, .int .i64 kd, .int .i64 ev, .int .i64 tm, .int .i64 gr, .int .i64 rt, vr, .int .i64 pn, .int .i64 o0, .int .i64 o1, .int .i64 o2, .int .i64 o3, .int .i64 ov, vl, .int .i64 cp, .int .i64 rl, vh] t)) w.heap.size 84 b10)
    (hE : E = if [b0, b1, b2, b3, b4, b5, b6, b7, b8, b9, b10].all id then 0 else 9) : Calls Tryz.prog 38 #[.agg #[.string ⟨nm.toArray⟩, .int .i64 cn, .int .i64 rd, .int .i64 kd, .int .i64 ev, .int .i64 tm, .int .i64 gr, .int .i64 rt, vr, .int .i64 pn, .int .i64 o0, .int .i64 o1, .int .i64 o2, .int .i64 o3, .int .i64 ov, vl, .int .i64 cp, .int .i64 rl, vh]] w fun e w' => e = .returned (.int .i64 E) ∧ Ext w w' := by
  have hmf := make_func
  obtain ⟨RB, hRB⟩ : ∃ l, [b0, b1, b2, b3, b4, b5, b6, b7, b8, b9, b10] = l := ⟨_, rfl⟩
  rw [hRB] at hE
  replace hRB := show Hid _ from hRB
  replace hE := show Hid _ from hE
  obtain ⟨W0, P, hW0, hP, hx0⟩ : ∃ W P, w.alloc (.cells #[.string ⟨nm.toArray⟩, .int .i64 cn, .int .i64 rd, .int .i64 kd, .int .i64 ev, .int .i64 tm, .int .i64 gr, .int .i64 rt, vr, .int .i64 pn, .int .i64 o0, .int .i64 o1, .int .i64 o2, .int .i64 o3, .int .i64 ov, vl, .int .i64 cp, .int .i64 rl, vh] 27) = W ∧ w.heap.size = P ∧ Ext w W := ⟨_, _, rfl, rfl, (Ext.refl w).alloc _ _⟩
  have p0 := q0 27
  rw [hW0, hP] at p0
  replace p0 := show Hid (Rul W0 P _ b0) from p0
  clear q0
  have p1 := q1 27
  rw [hW0, hP] at p1
  replace p1 := show Hid (Rul W0 P _ b1) from p1
  clear q1
  have p2 := q2 27
  rw [hW0, hP] at p2
  replace p2 := show Hid (Rul W0 P _ b2) from p2
  clear q2
  have p3 := q3 27
  rw [hW0, hP] at p3
  replace p3 := show Hid (Rul W0 P _ b3) from p3
  clear q3
  have p4 := q4 27
  rw [hW0, hP] at p4
  replace p4 := show Hid (Rul W0 P _ b4) from p4
  clear q4
  have p5 := q5 27
  rw [hW0, hP] at p5
  replace p5 := show Hid (Rul W0 P _ b5) from p5
  clear q5
  have p6 := q6 27
  rw [hW0, hP] at p6
  replace p6 := show Hid (Rul W0 P _ b6) from p6
  clear q6
  have p7 := q7 27
  rw [hW0, hP] at p7
  replace p7 := show Hid (Rul W0 P _ b7) from p7
  clear q7
  have p8 := q8 27
  rw [hW0, hP] at p8
  replace p8 := show Hid (Rul W0 P _ b8) from p8
  clear q8
  have p9 := q9 27
  rw [hW0, hP] at p9
  replace p9 := show Hid (Rul W0 P _ b9) from p9
  clear q9
  have p10 := q10 27
  rw [hW0, hP] at p10
  replace p10 := show Hid (Rul W0 P _ b10) from p10
  clear q10
  have hf := Fac.begin w #[.string ⟨nm.toArray⟩, .int .i64 cn, .int .i64 rd, .int .i64 kd, .int .i64 ev, .int .i64 tm, .int .i64 gr, .int .i64 rt, vr, .int .i64 pn, .int .i64 o0, .int .i64 o1, .int .i64 o2, .int .i64 o3, .int .i64 ov, vl, .int .i64 cp, .int .i64 rl, vh] 27 33
  rw [hW0, hP] at hf
  obtain ⟨W1, hW1⟩ : ∃ W, W0.alloc (.cells #[.int .i64 0] 33) = W := ⟨_, rfl⟩
  rw [hW1] at hf
  have hx1 : Ext W0 W1 := hW1 ▸ (Ext.refl W0).alloc _ _
  have hS0 : W0.heap.size = P + 1 := by rw [← hW0, ← hP]; simp
  replace hf := show Hid (Fac w W1 P 0) from hf
  replace hx1 := show Hid _ from hx1
  replace hx0 := show Hid _ from hx0
  go_enter_defers Tryz.func38, Tryz.ntmps38
  go_wp2_with fail
  refine (rules_c _ _).mono ?_
  rintro e w2 ⟨⟨g, rfl, hR⟩, hx⟩
  replace hR := show Hid _ from hR
  replace hf := show Hid (Fac w w2 P 0) from hf.out.on hx
  replace hx := show Hid (Ext W0 w2) from hx1.out.trans hx
  clear hW0 hW1 hx0 hx1
  go_wp2_with fail
  go_loopw [8] (fun i wr => ∃ k : Nat, k ≤ 11 ∧ i = .int .i64 k ∧ Hid (RB.all id = (RB.drop k).all id) ∧ Hid (Rls wr g P) ∧ Hid (Ext W0 wr) ∧ Hid (Fac w wr P 0)) (fun i _ => 11 - (RowKit.intOf i).toNat)
  case atStart => exact ⟨0, Nat.zero_le _, rfl, rfl, hR, hx, hf⟩
  case round =>
    clear hR hx hf
    obtain ⟨k, hk, rfl, hA, hR, hx, hf⟩ := hrel
    rcases (show k = 0 ∨ k = 1 ∨ k = 2 ∨ k = 3 ∨ k = 4 ∨ k = 5 ∨ k = 6 ∨ k = 7 ∨ k = 8 ∨ k = 9 ∨ k = 10 ∨ k = 11 by omega) with rfl | rfl | rfl | rfl | rfl | rfl | rfl | rfl | rfl | rfl | rfl | rfl
    · have hc := hR.out.c0
      cases b0
      · have hF : Hid (E = 9) := by show _ = _; rw [hE.out, hA.out, ← hRB.out]; rfl
        clear hA
        go_wp2_with fail
        refine (p0.out _ hx.out).mono ?_
        rintro e w3 ⟨rfl, hx3⟩
        replace hf := show Hid (Fac w w3 P 0) from hf.out.on hx3
        clear hx3 hc
        go_wp2_with fail
        refine (need_no _ _).mono ?_
        rintro e w4 ⟨rfl, rfl⟩
        go_wp2
        exact leave_errno w _ P _ _ _ _ hF.out rfl hf.out
      · have hF : Hid (RB.all id = (RB.drop 1).all id) := by show _ = _; rw [hA.out, ← hRB.out]; rfl
        clear hA
        go_wp2_with fail
        refine (p0.out _ hx.out).mono ?_
        rintro e w3 ⟨rfl, hx3⟩
        replace hf := show Hid (Fac w w3 P 0) from hf.out.on hx3
        replace hx := show Hid (Ext W0 w3) from hx.out.trans hx3
        replace hR := show Hid (Rls w3 g P) from hR.out.ext hx3
        clear hx3 hc
        go_wp2_with fail
        refine (need_ok _ _).mono ?_
        rintro e w4 ⟨rfl, rfl⟩
        go_wp2
        go_roundw
        case rel => exact ⟨1, by omega, rfl, hF, hR, hx, hf⟩
        case measure => simp [RowKit.intOf]
    · have hc := hR.out.c1
      cases b1
      · have hF : Hid (E = 9) := by show _ = _; rw [hE.out, hA.out, ← hRB.out]; rfl
        clear hA
        go_wp2_with fail
        refine (p1.out _ hx.out).mono ?_
        rintro e w3 ⟨rfl, hx3⟩
        replace hf := show Hid (Fac w w3 P 0) from hf.out.on hx3
        clear hx3 hc
        go_wp2_with fail
        refine (need_no _ _).mono ?_
        rintro e w4 ⟨rfl, rfl⟩
        go_wp2
        exact leave_errno w _ P _ _ _ _ hF.out rfl hf.out
      · have hF : Hid (RB.all id = (RB.drop 2).all id) := by show _ = _; rw [hA.out, ← hRB.out]; rfl
        clear hA
        go_wp2_with fail
        refine (p1.out _ hx.out).mono ?_
        rintro e w3 ⟨rfl, hx3⟩
        replace hf := show Hid (Fac w w3 P 0) from hf.out.on hx3
        replace hx := show Hid (Ext W0 w3) from hx.out.trans hx3
        replace hR := show Hid (Rls w3 g P) from hR.out.ext hx3
        clear hx3 hc
        go_wp2_with fail
        refine (need_ok _ _).mono ?_
        rintro e w4 ⟨rfl, rfl⟩
        go_wp2
        go_roundw
        case rel => exact ⟨2, by omega, rfl, hF, hR, hx, hf⟩
        case measure => simp [RowKit.intOf]
    · have hc := hR.out.c2
      cases b2
      · have hF : Hid (E = 9) := by show _ = _; rw [hE.out, hA.out, ← hRB.out]; rfl
        clear hA
        go_wp2_with fail
        refine (p2.out _ hx.out).mono ?_
        rintro e w3 ⟨rfl, hx3⟩
        replace hf := show Hid (Fac w w3 P 0) from hf.out.on hx3
        clear hx3 hc
        go_wp2_with fail
        refine (need_no _ _).mono ?_
        rintro e w4 ⟨rfl, rfl⟩
        go_wp2
        exact leave_errno w _ P _ _ _ _ hF.out rfl hf.out
      · have hF : Hid (RB.all id = (RB.drop 3).all id) := by show _ = _; rw [hA.out, ← hRB.out]; rfl
        clear hA
        go_wp2_with fail
        refine (p2.out _ hx.out).mono ?_
        rintro e w3 ⟨rfl, hx3⟩
        replace hf := show Hid (Fac w w3 P 0) from hf.out.on hx3
        replace hx := show Hid (Ext W0 w3) from hx.out.trans hx3
        replace hR := show Hid (Rls w3 g P) from hR.out.ext hx3
        clear hx3 hc
        go_wp2_with fail
        refine (need_ok _ _).mono ?_
        rintro e w4 ⟨rfl, rfl⟩
        go_wp2
        go_roundw
        case rel => exact ⟨3, by omega, rfl, hF, hR, hx, hf⟩
        case measure => simp [RowKit.intOf]
    · have hc := hR.out.c3
      cases b3
      · have hF : Hid (E = 9) := by show _ = _; rw [hE.out, hA.out, ← hRB.out]; rfl
        clear hA
        go_wp2_with fail
        refine (p3.out _ hx.out).mono ?_
        rintro e w3 ⟨rfl, hx3⟩
        replace hf := show Hid (Fac w w3 P 0) from hf.out.on hx3
        clear hx3 hc
        go_wp2_with fail
        refine (need_no _ _).mono ?_
        rintro e w4 ⟨rfl, rfl⟩
        go_wp2
        exact leave_errno w _ P _ _ _ _ hF.out rfl hf.out
      · have hF : Hid (RB.all id = (RB.drop 4).all id) := by show _ = _; rw [hA.out, ← hRB.out]; rfl
        clear hA
        go_wp2_with fail
        refine (p3.out _ hx.out).mono ?_
        rintro e w3 ⟨rfl, hx3⟩
        replace hf := show Hid (Fac w w3 P 0) from hf.out.on hx3
        replace hx := show Hid (Ext W0 w3) from hx.out.trans hx3
        replace hR := show Hid (Rls w3 g P) from hR.out.ext hx3
        clear hx3 hc
        go_wp2_with fail
        refine (need_ok _ _).mono ?_
        rintro e w4 ⟨rfl, rfl⟩
        go_wp2
        go_roundw
        case rel => exact ⟨4, by omega, rfl, hF, hR, hx, hf⟩
        case measure => simp [RowKit.intOf]
    · have hc := hR.out.c4
      cases b4
      · have hF : Hid (E = 9) := by show _ = _; rw [hE.out, hA.out, ← hRB.out]; rfl
        clear hA
        go_wp2_with fail
        refine (p4.out _ hx.out).mono ?_
        rintro e w3 ⟨rfl, hx3⟩
        replace hf := show Hid (Fac w w3 P 0) from hf.out.on hx3
        clear hx3 hc
        go_wp2_with fail
        refine (need_no _ _).mono ?_
        rintro e w4 ⟨rfl, rfl⟩
        go_wp2
        exact leave_errno w _ P _ _ _ _ hF.out rfl hf.out
      · have hF : Hid (RB.all id = (RB.drop 5).all id) := by show _ = _; rw [hA.out, ← hRB.out]; rfl
        clear hA
        go_wp2_with fail
        refine (p4.out _ hx.out).mono ?_
        rintro e w3 ⟨rfl, hx3⟩
        replace hf := show Hid (Fac w w3 P 0) from hf.out.on hx3
        replace hx := show Hid (Ext W0 w3) from hx.out.trans hx3
        replace hR := show Hid (Rls w3 g P) from hR.out.ext hx3
        clear hx3 hc
        go_wp2_with fail
        refine (need_ok _ _).mono ?_
        rintro e w4 ⟨rfl, rfl⟩
        go_wp2
        go_roundw
        case rel => exact ⟨5, by omega, rfl, hF, hR, hx, hf⟩
        case measure => simp [RowKit.intOf]
    · have hc := hR.out.c5
      cases b5
      · have hF : Hid (E = 9) := by show _ = _; rw [hE.out, hA.out, ← hRB.out]; rfl
        clear hA
        go_wp2_with fail
        refine (p5.out _ hx.out).mono ?_
        rintro e w3 ⟨rfl, hx3⟩
        replace hf := show Hid (Fac w w3 P 0) from hf.out.on hx3
        clear hx3 hc
        go_wp2_with fail
        refine (need_no _ _).mono ?_
        rintro e w4 ⟨rfl, rfl⟩
        go_wp2
        exact leave_errno w _ P _ _ _ _ hF.out rfl hf.out
      · have hF : Hid (RB.all id = (RB.drop 6).all id) := by show _ = _; rw [hA.out, ← hRB.out]; rfl
        clear hA
        go_wp2_with fail
        refine (p5.out _ hx.out).mono ?_
        rintro e w3 ⟨rfl, hx3⟩
        replace hf := show Hid (Fac w w3 P 0) from hf.out.on hx3
        replace hx := show Hid (Ext W0 w3) from hx.out.trans hx3
        replace hR := show Hid (Rls w3 g P) from hR.out.ext hx3
        clear hx3 hc
        go_wp2_with fail
        refine (need_ok _ _).mono ?_
        rintro e w4 ⟨rfl, rfl⟩
        go_wp2
        go_roundw
        case rel => exact ⟨6, by omega, rfl, hF, hR, hx, hf⟩
        case measure => simp [RowKit.intOf]
    · have hc := hR.out.c6
      cases b6
      · have hF : Hid (E = 9) := by show _ = _; rw [hE.out, hA.out, ← hRB.out]; rfl
        clear hA
        go_wp2_with fail
        refine (p6.out _ hx.out).mono ?_
        rintro e w3 ⟨rfl, hx3⟩
        replace hf := show Hid (Fac w w3 P 0) from hf.out.on hx3
        clear hx3 hc
        go_wp2_with fail
        refine (need_no _ _).mono ?_
        rintro e w4 ⟨rfl, rfl⟩
        go_wp2
        exact leave_errno w _ P _ _ _ _ hF.out rfl hf.out
      · have hF : Hid (RB.all id = (RB.drop 7).all id) := by show _ = _; rw [hA.out, ← hRB.out]; rfl
        clear hA
        go_wp2_with fail
        refine (p6.out _ hx.out).mono ?_
        rintro e w3 ⟨rfl, hx3⟩
        replace hf := show Hid (Fac w w3 P 0) from hf.out.on hx3
        replace hx := show Hid (Ext W0 w3) from hx.out.trans hx3
        replace hR := show Hid (Rls w3 g P) from hR.out.ext hx3
        clear hx3 hc
        go_wp2_with fail
        refine (need_ok _ _).mono ?_
        rintro e w4 ⟨rfl, rfl⟩
        go_wp2
        go_roundw
        case rel => exact ⟨7, by omega, rfl, hF, hR, hx, hf⟩
        case measure => simp [RowKit.intOf]
    · have hc := hR.out.c7
      cases b7
      · have hF : Hid (E = 9) := by show _ = _; rw [hE.out, hA.out, ← hRB.out]; rfl
        clear hA
        go_wp2_with fail
        refine (p7.out _ hx.out).mono ?_
        rintro e w3 ⟨rfl, hx3⟩
        replace hf := show Hid (Fac w w3 P 0) from hf.out.on hx3
        clear hx3 hc
        go_wp2_with fail
        refine (need_no _ _).mono ?_
        rintro e w4 ⟨rfl, rfl⟩
        go_wp2
        exact leave_errno w _ P _ _ _ _ hF.out rfl hf.out
      · have hF : Hid (RB.all id = (RB.drop 8).all id) := by show _ = _; rw [hA.out, ← hRB.out]; rfl
        clear hA
        go_wp2_with fail
        refine (p7.out _ hx.out).mono ?_
        rintro e w3 ⟨rfl, hx3⟩
        replace hf := show Hid (Fac w w3 P 0) from hf.out.on hx3
        replace hx := show Hid (Ext W0 w3) from hx.out.trans hx3
        replace hR := show Hid (Rls w3 g P) from hR.out.ext hx3
        clear hx3 hc
        go_wp2_with fail
        refine (need_ok _ _).mono ?_
        rintro e w4 ⟨rfl, rfl⟩
        go_wp2
        go_roundw
        case rel => exact ⟨8, by omega, rfl, hF, hR, hx, hf⟩
        case measure => simp [RowKit.intOf]
    · have hc := hR.out.c8
      cases b8
      · have hF : Hid (E = 9) := by show _ = _; rw [hE.out, hA.out, ← hRB.out]; rfl
        clear hA
        go_wp2_with fail
        refine (p8.out _ hx.out).mono ?_
        rintro e w3 ⟨rfl, hx3⟩
        replace hf := show Hid (Fac w w3 P 0) from hf.out.on hx3
        clear hx3 hc
        go_wp2_with fail
        refine (need_no _ _).mono ?_
        rintro e w4 ⟨rfl, rfl⟩
        go_wp2
        exact leave_errno w _ P _ _ _ _ hF.out rfl hf.out
      · have hF : Hid (RB.all id = (RB.drop 9).all id) := by show _ = _; rw [hA.out, ← hRB.out]; rfl
        clear hA
        go_wp2_with fail
        refine (p8.out _ hx.out).mono ?_
        rintro e w3 ⟨rfl, hx3⟩
        replace hf := show Hid (Fac w w3 P 0) from hf.out.on hx3
        replace hx := show Hid (Ext W0 w3) from hx.out.trans hx3
        replace hR := show Hid (Rls w3 g P) from hR.out.ext hx3
        clear hx3 hc
        go_wp2_with fail
        refine (need_ok _ _).mono ?_
        rintro e w4 ⟨rfl, rfl⟩
        go_wp2
        go_roundw
        case rel => exact ⟨9, by omega, rfl, hF, hR, hx, hf⟩
        case measure => simp [RowKit.intOf]
    · have hc := hR.out.c9
      cases b9
      · have hF : Hid (E = 9) := by show _ = _; rw [hE.out, hA.out, ← hRB.out]; rfl
        clear hA
        go_wp2_with fail
        refine (p9.out _ hx.out).mono ?_
        rintro e w3 ⟨rfl, hx3⟩
        replace hf := show Hid (Fac w w3 P 0) from hf.out.on hx3
        clear hx3 hc
        go_wp2_with fail
        refine (need_no _ _).mono ?_
        rintro e w4 ⟨rfl, rfl⟩
        go_wp2
        exact leave_errno w _ P _ _ _ _ hF.out rfl hf.out
      · have hF : Hid (RB.all id = (RB.drop 10).all id) := by show _ = _; rw [hA.out, ← hRB.out]; rfl
        clear hA
        go_wp2_with fail
        refine (p9.out _ hx.out).mono ?_
        rintro e w3 ⟨rfl, hx3⟩
        replace hf := show Hid (Fac w w3 P 0) from hf.out.on hx3
        replace hx := show Hid (Ext W0 w3) from hx.out.trans hx3
        replace hR := show Hid (Rls w3 g P) from hR.out.ext hx3
        clear hx3 hc
        go_wp2_with fail
        refine (need_ok _ _).mono ?_
        rintro e w4 ⟨rfl, rfl⟩
        go_wp2
        go_roundw
        case rel => exact ⟨10, by omega, rfl, hF, hR, hx, hf⟩
        case measure => simp [RowKit.intOf]
    · have hc := hR.out.c10
      cases b10
      · have hF : Hid (E = 9) := by show _ = _; rw [hE.out, hA.out, ← hRB.out]; rfl
        clear hA
        go_wp2_with fail
        refine (p10.out _ hx.out).mono ?_
        rintro e w3 ⟨rfl, hx3⟩
        replace hf := show Hid (Fac w w3 P 0) from hf.out.on hx3
        clear hx3 hc
        go_wp2_with fail
        refine (need_no _ _).mono ?_
        rintro e w4 ⟨rfl, rfl⟩
        go_wp2
        exact leave_errno w _ P _ _ _ _ hF.out rfl hf.out
      · have hF : Hid (RB.all id = (RB.drop 11).all id) := by show _ = _; rw [hA.out, ← hRB.out]; rfl
        clear hA
        go_wp2_with fail
        refine (p10.out _ hx.out).mono ?_
        rintro e w3 ⟨rfl, hx3⟩
        replace hf := show Hid (Fac w w3 P 0) from hf.out.on hx3
        replace hx := show Hid (Ext W0 w3) from hx.out.trans hx3
        replace hR := show Hid (Rls w3 g P) from hR.out.ext hx3
        clear hx3 hc
        go_wp2_with fail
        refine (need_ok _ _).mono ?_
        rintro e w4 ⟨rfl, rfl⟩
        go_wp2
        go_roundw
        case rel => exact ⟨11, by omega, rfl, hF, hR, hx, hf⟩
        case measure => simp [RowKit.intOf]
    · have hF : Hid (E = 0) := by show _ = _; rw [hE.out, hA.out, ← hRB.out]; rfl
      clear hA
      have gp := hf.out.p; have gpz := hf.out.pz
      go_wp2
      exact leave_idle w _ P _ _ _ hF.out rfl (hf.out.set 0)
end Go.Proofs.YtafjmpaefikdcaaGreatDoor.L8