/- What All of package lexer answers, as a contract: no statement of the seat is proved here. -/
import Derived.Test.YtocdkgmmnkmlpaaDoorLex4
namespace Go.Proofs.YtocdkgmmnkmlpaaDoor
open Go.RowKit Go.Lib
set_option linter.unusedVariables false

theorem make_func (fn : Fn) (first cap : Array Value) (w : World) : (Instr.makeFunc fn first cap).run Tryd.prog w = .ok (.func fn first cap) w := rfl
/-- What All has deferred. -/
def dfr (Z : Nat) : List Deferred := [{ target := .fn (.func 12) #[.pointer (some ⟨Z, 0, none⟩), .pointer (some ⟨Z + 1, 0, none⟩), .pointer (some ⟨Z + 2, 0, none⟩)], args := #[] }]
/-- The world of a face at its end: the three results' blocks, and all that was there. -/
structure Fac (w W : World) (V : Value) (y z : Int) : Prop where
  p : W.cell? ⟨w.heap.size, 0, none⟩ = some V
  q : W.cell? ⟨w.heap.size + 1, 0, none⟩ = some (.int .i64 y)
  r : W.cell? ⟨w.heap.size + 2, 0, none⟩ = some (.int .i64 z)
  pz : W.frozen? ⟨w.heap.size, 0, none⟩ = false
  qz : W.frozen? ⟨w.heap.size + 1, 0, none⟩ = false
  rz : W.frozen? ⟨w.heap.size + 2, 0, none⟩ = false
  ext : Ext w W
theorem Fac.begin (w : World) (t s r : TypeId) : Fac w (((w.alloc (.cells #[.slice none 0 0] t)).alloc (.cells #[.int .i64 0] s)).alloc (.cells #[.int .i64 0] r)) (.slice none 0 0) 0 0 :=
  ⟨by simp [go_sem], by simp [go_sem], by simp [go_sem], by simp [go_sem], by simp [go_sem], by simp [go_sem], (((Ext.refl w).alloc _ _).alloc _ _).alloc _ _⟩
theorem Fac.on {w W W' : World} {V : Value} {y z : Int} (h : Fac w W V y z) (hx : Ext W W') : Fac w W' V y z :=
  ⟨hx.cell_of h.p, hx.cell_of h.q, hx.cell_of h.r, by rw [hx.froz _ _ (lt_of_cell h.p)]; exact h.pz, by rw [hx.froz _ _ (lt_of_cell h.q)]; exact h.qz, by rw [hx.froz _ _ (lt_of_cell h.r)]; exact h.rz, h.ext.trans hx⟩
theorem Fac.set1 {w W : World} {V : Value} {y z : Int} (h : Fac w W V y z) (x : Value) : Fac w (W.setCell ⟨w.heap.size, 0, none⟩ x) x y z :=
  ⟨same h.p, by rw [other _ (Or.inl (by omega))]; exact h.q, by rw [other _ (Or.inl (by omega))]; exact h.r, by simp [go_sem, h.pz], by simp [go_sem, h.qz], by simp [go_sem, h.rz], h.ext.setCell (Nat.le_refl _) _⟩
theorem Fac.set2 {w W : World} {V : Value} {y z : Int} (h : Fac w W V y z) (x : Int) : Fac w (W.setCell ⟨w.heap.size + 1, 0, none⟩ (.int .i64 x)) V x z :=
  ⟨by rw [other _ (Or.inl (by omega))]; exact h.p, same h.q, by rw [other _ (Or.inl (by omega))]; exact h.r, by simp [go_sem, h.pz], by simp [go_sem, h.qz], by simp [go_sem, h.rz], h.ext.setCell (by show w.heap.size ≤ w.heap.size + 1; omega) _⟩
theorem Fac.set3 {w W : World} {V : Value} {y z : Int} (h : Fac w W V y z) (x : Int) : Fac w (W.setCell ⟨w.heap.size + 2, 0, none⟩ (.int .i64 x)) V y x :=
  ⟨by rw [other _ (Or.inl (by omega))]; exact h.p, by rw [other _ (Or.inl (by omega))]; exact h.q, same h.r, by simp [go_sem, h.pz], by simp [go_sem, h.qz], by simp [go_sem, h.rz], h.ext.setCell (by show w.heap.size ≤ w.heap.size + 2; omega) _⟩
theorem Own.set {B : Nat} {w : World} {v : Value} {ts : List Tok} (h : Own B w v ts) {b : Nat} (hb : b < B) (x : Value) : Own B (w.setCell ⟨b, 0, none⟩ x) v ts :=
  ⟨ownsRow_setCell_below h.row (a := ⟨b, 0, none⟩) hb x⟩
theorem Own.mono {A B : Nat} {w : World} {v : Value} {ts : List Tok} (h : Own B w v ts) (hb : A ≤ B) : Own A w v ts := by
  refine ⟨h.row.1, ?_⟩
  rcases h.row.2 with h0 | ⟨g, c, cur, h1, h2, h3⟩
  · exact Or.inl h0
  · exact Or.inr ⟨g, c, cur, h1, Nat.le_trans hb h2, h3⟩
theorem Own.slc {B : Nat} {w : World} {v : Value} {ts : List Tok} (h : Own B w v ts) : Slc1 v := by
  rcases h.row.2 with ⟨rfl, _⟩ | ⟨g, c, cur, rfl, _⟩
  · exact ⟨_, _, _, rfl⟩
  · exact ⟨_, _, _, rfl⟩
theorem all_leave_idle (w W : World) (tm : Array Value) (V : Value) (y z : Int) (B : Nat) (ts : List Tok) (h1 : tm[2]? = some (.pointer (some ⟨w.heap.size, 0, none⟩))) (h2 : tm[3]? = some (.pointer (some ⟨w.heap.size + 1, 0, none⟩))) (h3 : tm[4]? = some (.pointer (some ⟨w.heap.size + 2, 0, none⟩))) (hf : Fac w W V y z) (ho : Own B W V ts) (hB : w.heap.size + 2 < B) :
    Leaves Tryd.prog Tryd.f9 tm (fun e w' => (∃ v, e = .returned (.tuple #[v, .int .i64 0, .int .i64 0]) ∧ Own w.heap.size w' v ts) ∧ Ext w w') (dfr w.heap.size) .returning W := by
  refine leaves_cons (f := 12) (args := #[.pointer (some ⟨w.heap.size, 0, none⟩), .pointer (some ⟨w.heap.size + 1, 0, none⟩), .pointer (some ⟨w.heap.size + 2, 0, none⟩)]) (by simp) (by simp [go_sem]) ?_
  refine (all_idle w.heap.size V y z _ hf.p ho.slc hf.q hf.r hf.pz hf.qz hf.rz).mono ?_
  rintro e u' w'' ⟨rfl, rfl, w2, hy, rfl⟩
  have hg := (((hf.on hy).set1 V).set2 0).set3 0
  have ho2 : Own B (((w2.setCell ⟨w.heap.size, 0, none⟩ V).setCell ⟨w.heap.size + 1, 0, none⟩ (.int .i64 0)).setCell ⟨w.heap.size + 2, 0, none⟩ (.int .i64 0)) V ts := (((ho.ext hy).set (by omega) _).set (by omega) _).set hB _
  generalize ((w2.setCell ⟨w.heap.size, 0, none⟩ V).setCell ⟨w.heap.size + 1, 0, none⟩ (.int .i64 0)).setCell ⟨w.heap.size + 2, 0, none⟩ (.int .i64 0) = Wf at *
  obtain ⟨ao, n, c, rfl⟩ := ho.slc
  simp [Leaves, settle, results, Tryd.results9, go_sem, h1, h2, h3, hg.p, hg.q, hg.r]
  exact ⟨ho2.mono (by omega), hg.ext⟩
theorem all_leave_placed (w W : World) (tm : Array Value) (V : Value) (c k : Int) (y z : Int) (hs : Slc1 V) (h1 : tm[2]? = some (.pointer (some ⟨w.heap.size, 0, none⟩))) (h2 : tm[3]? = some (.pointer (some ⟨w.heap.size + 1, 0, none⟩))) (h3 : tm[4]? = some (.pointer (some ⟨w.heap.size + 2, 0, none⟩))) (hf : Fac w W V y z) :
    Leaves Tryd.prog Tryd.f9 tm (fun e w' => (∃ v, e = .returned (.tuple #[v, .int .i64 k, .int .i64 c]) ∧ Own w.heap.size w' v []) ∧ Ext w w') (dfr w.heap.size) (.panicking [{ v := .iface 42 (.agg #[.int .i64 c, .int .i64 k]), recovered := false }]) W := by
  refine leaves_cons (f := 12) (args := #[.pointer (some ⟨w.heap.size, 0, none⟩), .pointer (some ⟨w.heap.size + 1, 0, none⟩), .pointer (some ⟨w.heap.size + 2, 0, none⟩)]) (by simp) (by simp [go_sem]) ?_
  refine (all_placed w.heap.size V c k [] y z _ hf.p hs hf.q hf.r hf.pz hf.qz hf.rz).mono ?_
  rintro e u' w'' ⟨rfl, rfl, w2, hy, rfl⟩
  have hg := (((hf.on hy).set1 (.slice none 0 0)).set2 k).set3 c
  generalize ((w2.setCell ⟨w.heap.size, 0, none⟩ (.slice none 0 0)).setCell ⟨w.heap.size + 1, 0, none⟩ (.int .i64 k)).setCell ⟨w.heap.size + 2, 0, none⟩ (.int .i64 c) = Wf at *
  simp [Leaves, settle, results, Tryd.results9, go_sem, h1, h2, h3, hg.p, hg.q, hg.r]
  exact ⟨Own.nil _ _, hg.ext⟩
theorem all_leave_errno (w W : World) (tm : Array Value) (V : Value) (c : Int) (y z : Int) (hs : Slc1 V) (h1 : tm[2]? = some (.pointer (some ⟨w.heap.size, 0, none⟩))) (h2 : tm[3]? = some (.pointer (some ⟨w.heap.size + 1, 0, none⟩))) (h3 : tm[4]? = some (.pointer (some ⟨w.heap.size + 2, 0, none⟩))) (hf : Fac w W V y z) :
    Leaves Tryd.prog Tryd.f9 tm (fun e w' => (∃ v, e = .returned (.tuple #[v, .int .i64 0, .int .i64 c]) ∧ Own w.heap.size w' v []) ∧ Ext w w') (dfr w.heap.size) (.panicking [{ v := .iface 24 (.int .i64 c), recovered := false }]) W := by
  refine leaves_cons (f := 12) (args := #[.pointer (some ⟨w.heap.size, 0, none⟩), .pointer (some ⟨w.heap.size + 1, 0, none⟩), .pointer (some ⟨w.heap.size + 2, 0, none⟩)]) (by simp) (by simp [go_sem]) ?_
  refine (all_errno w.heap.size V c [] y z _ hf.p hs hf.q hf.r hf.pz hf.qz hf.rz).mono ?_
  rintro e u' w'' ⟨rfl, rfl, w2, hy, rfl⟩
  have hg := (((hf.on hy).set1 (.slice none 0 0)).set2 0).set3 c
  generalize ((w2.setCell ⟨w.heap.size, 0, none⟩ (.slice none 0 0)).setCell ⟨w.heap.size + 1, 0, none⟩ (.int .i64 0)).setCell ⟨w.heap.size + 2, 0, none⟩ (.int .i64 c) = Wf at *
  simp [Leaves, settle, results, Tryd.results9, go_sem, h1, h2, h3, hg.p, hg.q, hg.r]
  exact ⟨Own.nil _ _, hg.ext⟩
theorem All_long (l : List UInt8) (w : World) (hl : 20000 < l.length) (hm : l.length ≤ 9223372036854775807) :
    Calls Tryd.prog 9 #[.string ⟨l.toArray⟩] w fun e w' => (∃ v, e = .returned (.tuple #[v, .int .i64 0, .int .i64 3]) ∧ Own w.heap.size w' v []) ∧ Ext w w' := by
  have hmf := make_func
  have hd : decide ((l.length : Int) ≤ 20000) = false := decide_eq_false (by omega)
  go_enter_defers Tryd.func9, Tryd.ntmps9
  go_wp2_with fail
  refine (need_no _ _).mono ?_
  rintro e w1 ⟨rfl, hw1⟩
  have hf := Fac.begin w 23 3 24
  rw [← hw1] at hf
  clear hw1
  replace hf := show Hid _ from hf
  go_wp2
  refine all_leave_errno w _ _ _ _ _ _ ⟨_, _, _, rfl⟩ ?_ ?_ ?_ hf.out
  · rfl
  · rfl
  · rfl
theorem All_ok (l : List UInt8) (ts : List Tok) (w : World) (hl : l.length ≤ 20000) (hlex : lex 0 l = (ts, none)) (he : Hid (Env w)) :
    Calls Tryd.prog 9 #[.string ⟨l.toArray⟩] w fun e w' => (∃ v, e = .returned (.tuple #[v, .int .i64 0, .int .i64 0]) ∧ Own w.heap.size w' v (ts ++ [⟨0, l.length, []⟩])) ∧ Ext w w' := by
  have hmf := make_func
  have hd : decide ((l.length : Int) ≤ 20000) = true := decide_eq_true (by omega)
  replace hlex := show Hid _ from hlex
  go_enter_defers Tryd.func9, Tryd.ntmps9
  go_wp2_with fail
  refine (need_ok _ _).mono ?_
  rintro e w1 ⟨rfl, hw1⟩
  have hf := Fac.begin w 23 3 24
  rw [← hw1] at hf
  clear hw1
  have he1 : Hid (Env w1) := he.out.ext hf.ext
  have hB : Hid (w.heap.size + 2 < w1.heap.size) := lt_of_cell hf.r
  replace hf := show Hid _ from hf
  go_wp2_with fail
  refine (scan_ok l ts _ hl hlex.out he1).mono ?_
  rintro e w2 ⟨⟨V, rfl, ho⟩, hx⟩
  obtain ⟨ao, n, c, rfl⟩ := ho.slc
  replace hf := hf.out.on hx
  have gp := hf.p; have gq := hf.q; have gr := hf.r; have gpz := hf.pz; have gqz := hf.qz; have grz := hf.rz
  replace hf := show Hid _ from hf
  replace ho := show Hid _ from ho
  clear hx he1
  go_wp2
  refine all_leave_idle w _ _ _ _ _ _ _ ?_ ?_ ?_ (((hf.out.set1 _).set2 _).set3 _) (((ho.out.set (by have := hB.out; omega) _).set (by have := hB.out; omega) _).set hB.out _) hB.out
  · rfl
  · rfl
  · rfl
theorem All_no (l : List UInt8) (ts : List Tok) (P : Nat) (w : World) (hl : l.length ≤ 20000) (hlex : lex 0 l = (ts, some P)) (he : Hid (Env w)) :
    Calls Tryd.prog 9 #[.string ⟨l.toArray⟩] w fun e w' => (∃ v, e = .returned (.tuple #[v, .int .i64 P, .int .i64 6]) ∧ Own w.heap.size w' v []) ∧ Ext w w' := by
  have hmf := make_func
  have hd : decide ((l.length : Int) ≤ 20000) = true := decide_eq_true (by omega)
  replace hlex := show Hid _ from hlex
  go_enter_defers Tryd.func9, Tryd.ntmps9
  go_wp2_with fail
  refine (need_ok _ _).mono ?_
  rintro e w1 ⟨rfl, hw1⟩
  have hf := Fac.begin w 23 3 24
  rw [← hw1] at hf
  clear hw1
  have he1 : Hid (Env w1) := he.out.ext hf.ext
  replace hf := show Hid _ from hf
  go_wp2_with fail
  refine (scan_no l ts P _ hl hlex.out he1).mono ?_
  rintro e w2 ⟨rfl, hx⟩
  replace hf := hf.out.on hx
  replace hf := show Hid _ from hf
  clear hx he1
  go_wp2
  refine all_leave_placed w _ _ _ _ _ _ _ ⟨_, _, _, rfl⟩ ?_ ?_ ?_ hf.out
  · rfl
  · rfl
  · rfl
theorem All_c (l : List UInt8) (w : World) (hm : l.length ≤ 9223372036854775807) (he : Hid (Env w)) :
    Calls Tryd.prog 9 #[.string ⟨l.toArray⟩] w fun e w' => (∃ v, e = .returned (.tuple #[v, .int .i64 (aP l), .int .i64 (aE l)]) ∧ Own w.heap.size w' v (aT l)) ∧ Ext w w' := by
  unfold aP aE aT
  by_cases hl : 20000 < l.length
  · rw [if_pos hl, if_pos hl, if_pos hl]; exact All_long l w hl hm
  · rw [if_neg hl, if_neg hl, if_neg hl]
    cases hlex : lex 0 l with
    | mk ts o =>
      cases o with
      | none => exact All_ok l ts w (by omega) hlex he
      | some P => exact All_no l ts P w (by omega) hlex he
end Go.Proofs.YtocdkgmmnkmlpaaDoor
