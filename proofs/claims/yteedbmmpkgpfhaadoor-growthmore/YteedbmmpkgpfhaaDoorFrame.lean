/- From a tied row of the seat to its walk, and what comes in: spans, lists: no statement of the seat is proved here. -/
import Derived.Test.YteedbmmpkgpfhaaDoorLeaf
import Derived.Deep.Slices
import Derived.ChangeSlices
import Derived.ChangeSame
import Derived.Carry
import Derived.Test.YteedbmmpkgpfhaaDoorTie
import Derived.Test.YteedbmmpkgpfhaaDoorCards
import Derived.ProofKit
import Derived.OpenShut
import Derived.LaidLaws
import Derived.Lay
import Derived.Lib.LaidU8
import Derived.SevenTiedAt
namespace Go.Proofs.YteedbmmpkgpfhaaDoor
open Go.RowKit Go.ChangeShapes Go.WideShapes Go.ChangeAt
set_option linter.unusedVariables false
set_option maxRecDepth 100000

theorem own : ownKnob Tryd.prog.godebug = none := by kernel_rfl
/-- The listed variables. -/
def laid : List (String × DataW Unit) := Rows.growthBearsRow.laid
theorem carried (w w' : World) (hh : w.heap = w'.heap) (h : laidMetH Tryd.prog laid w) : laidMetH Tryd.prog laid w' := h.of_heap hh
set_option maxRecDepth 100000 in
/-- The wrap: what the listed variables read as, and the world's shape, are handed to the walk. -/
theorem wrap {H : Type} {enc : TypeId × Value → H} {os : Os} {f : FuncId} {fn : Func} {s : ChangeSpec} {fresh handsOn again : Bool}
    (started : os.Started) (noInit : Tryd.checked.prog.inits.idxOf? f = none) (hfn : Tryd.checked.prog.funcs[f]? = some fn)
    (witness : ∃ (w : World) (tape : Tape) (i : Input), w.os = os ∧ (w.forCall tape i).Shaped Tryd.checked.prog ∧ i.vars = [] ∧ Input.okWide Tryd.checked.prog (w.forCall tape i) .any w.heap.size f i ∧
      ((s.pre enc Tryd.checked.prog fn [] false (w.forCall tape i).memory i.args ∧ laidMetH Tryd.checked.prog laid (w.forCall tape i).memory) ∧ sizedMet enc Tryd.checked.prog fn (OpenSpec.ofChange s) false (w.forCall tape i).memory i.args) ∧ ({} : Assume).holds Tryd.checked.prog (lone (Frame.enter Tryd.checked.prog f i.args .normal) [] (w.forCall tape i)))
    (contract : ∀ (W : World) (base : Nat) (args : Array Value) (ds gs : List (DataW H)) (before : List MemPlace),
      (∀ (j : Nat) t v, fn.params[j]? = some t → args[j]? = some v → Value.okWide Tryd.checked.prog W .any base t v) →
      DataW.Whole enc Tryd.checked.prog fn.params.toList s.vars false W args.toList ds gs before → True →
      Calls Tryd.checked.prog f args W fun e W' => ∃ v, e = .returned v ∧ s.post enc Tryd.checked.prog fn false fresh handsOn again W args v W') :
    ReturnsInHanded {} Tryd.checked os f .any (fun w args => (s.pre enc Tryd.checked.prog fn [] false w args ∧ laidMetH Tryd.checked.prog laid w) ∧ sizedMet enc Tryd.checked.prog fn (OpenSpec.ofChange s) false w args) (s.post enc Tryd.checked.prog fn false fresh handsOn again) := by
  refine returnsInHanded_of_calls own started noInit witness ?_
  intro w tape i _ hsh _ hok hpre _
  obtain ⟨_, _, _, fn', hfn', _, _, _, _, hval⟩ := hok
  obtain rfl : fn' = fn := Option.some.inj (hfn'.symm.trans hfn)
  obtain ⟨⟨⟨ds, gs, before, hw, _⟩, hL⟩, _⟩ := hpre
  refine (contract (w.forCall tape i) w.heap.size i.args ds gs before hval (DataW.Whole.of_heap (w' := w.forCall tape i) (by rfl) hw) trivial).mono fun e W' ⟨v, he, hp⟩ => ?_
  subst he
  exact ChangeSpec.post_blind hp
theorem open_span {H : Type} {enc : TypeId × Value → H} {W : World} {r : Reach} {base b0 : Nat} {sp : Nat → Bool} {held : Bool} {v : Value} {d : DataW H} {ps : List MemPlace}
    (hval : Value.okWide Tryd.prog W r b0 34 v) (hd : DataW.Trod enc Tryd.prog W base sp held 34 v d ps) :
    ∃ x y z : Int, v = .agg #[.int .i64 x, .int .i64 y, .int .i64 z] ∧ d = .agg [.lit (.int .i64 x), .lit (.int .i64 y), .lit (.int .i64 z)] ∧ ps = [] ∧
      (Lit.int .i64 x).wf = true ∧ (Lit.int .i64 y).wf = true ∧ (Lit.int .i64 z).wf = true := by
  have hc : Tryd.prog.cellsOf 34 = 3 := by kernel_rfl
  have h1 : Tryd.prog.cellsOf 2 = 1 := by kernel_rfl
  obtain ⟨cs, rfl, hsz⟩ := okWide_struct Tryd.underlying34 hval
  rw [hc] at hsz
  obtain ⟨l⟩ := cs
  match l, hsz with
  | [c0, c1, c2], _ =>
    obtain ⟨fuel, hf⟩ := hd
    obtain ⟨xs, n, _, hx, _, hl, hy⟩ := DataW.trod_struct Tryd.underlying34 hf
    match xs, hl with
    | [y0, y1, y2], _ =>
      have g0 := hy 0 _ rfl; have g1 := hy 1 _ rfl; have g2 := hy 2 _ rfl
      simp only [Value.cells, List.getElem?_cons_zero, List.getElem?_cons_succ] at g0 g1 g2
      obtain ⟨a, e0, rfl, wa⟩ := DataW.trod_int Tryd.underlying2 g0
      obtain ⟨b, e1, rfl, wb⟩ := DataW.trod_int Tryd.underlying2 g1
      obtain ⟨c, e2, rfl, wc⟩ := DataW.trod_int Tryd.underlying2 g2
      simp [h1] at e0 e1 e2
      subst e0 e1 e2
      simp at hx
      exact ⟨a, b, c, rfl, hx.1, hx.2, wa, wb, wc⟩
theorem shut_span {H : Type} {enc : TypeId × Value → H} {W : World} {base : Nat} {sp : Nat → Bool} {held : Bool} {x y z : Int}
    (wx : (Lit.int .i64 x).wf = true) (wy : (Lit.int .i64 y).wf = true) (wz : (Lit.int .i64 z).wf = true) :
    DataW.Trod enc Tryd.prog W base sp held 34 (.agg #[.int .i64 x, .int .i64 y, .int .i64 z]) (.agg [.lit (.int .i64 x), .lit (.int .i64 y), .lit (.int .i64 z)]) [] := by
  have hc : Tryd.prog.cellsOf 34 = 3 := by kernel_rfl
  have h1 : Tryd.prog.cellsOf 2 = 1 := by kernel_rfl
  refine ⟨2, ?_⟩
  have f0 := trod_int_mk (enc := enc) (w := W) (base := base) (spare := sp) (held := held) 0 Tryd.underlying2 wx
  have f1 := trod_int_mk (enc := enc) (w := W) (base := base) (spare := sp) (held := held) 0 Tryd.underlying2 wy
  have f2 := trod_int_mk (enc := enc) (w := W) (base := base) (spare := sp) (held := held) 0 Tryd.underlying2 wz
  have := trod_struct_mk (enc := enc) (w := W) (base := base) (spare := sp) (held := held) (n := 1) (cs := [.int .i64 x, .int .i64 y, .int .i64 z]) (xs := [(.lit (.int .i64 x), []), (.lit (.int .i64 y), []), (.lit (.int .i64 z), [])])
    Tryd.underlying34 (by simp [hc]) (by simp [h1, f0, f1, f2])
  simpa [Value.cells] using this
/-- An int64. -/
def J64 (a : Int) : Prop := -9223372036854775808 ≤ a ∧ a ≤ 9223372036854775807
/-- A slice of numbers that came in. -/
def Slc (w : World) (v : Value) (l : List Int) : Prop :=
  (∃ a c, v = .slice a 0 c ∧ (a = none → c = 0) ∧ l = []) ∨ ∃ b off c, v = .slice (some ⟨b, off, none⟩) l.length c ∧ ∀ (k : Nat) (x : Int), l[k]? = some x → w.cell? ⟨b, off + k, none⟩ = some (.int .i64 x)
theorem Slc.ext {w w' : World} {v : Value} {l : List Int} (h : Slc w v l) (hx : Ext w w') : Slc w' v l := by
  rcases h with h | ⟨b, off, c, e, hc⟩
  · exact Or.inl h
  · exact Or.inr ⟨b, off, c, e, fun k v hk => hx.cell_of (hc k v hk)⟩
theorem cells_i64 : Tryd.prog.cellsOf 2 = 1 := by kernel_rfl
/-- A slice of ints among the arguments: its numbers; and it reads the same behind a call that only makes new memory. -/
theorem open_slc {H : Type} {enc : TypeId × Value → H} {W : World} {base : Nat} {v : Value} {d : DataW H} {ps : List MemPlace} (hval : Value.okWide Tryd.prog W .any base 40 v) (h : DataW.Trod enc Tryd.prog W 0 (fun _ => true) true 40 v d ps) :
    ∃ l : List Int, Slc W v l ∧ l.length ≤ maxLen ∧ (∀ x ∈ l, J64 x) ∧ ∀ W' : World, Ext W W' → DataW.Trod enc Tryd.prog W' 0 (fun b => decide (b < W.heap.size)) true 40 v d ps := by
  obtain ⟨a0, len, cap, rfl⟩ := okWide_slice Tryd.underlying40 hval
  obtain ⟨fuel, hf⟩ := h
  rcases open_ints Tryd.underlying40 Tryd.underlying2 cells_i64 hf with ⟨hcs, hx⟩ | ⟨a, len', cap', zs, hcs, _, hl, hm, hz, hx, hcell, hwz⟩
  · simp [Value.cells] at hcs
    obtain ⟨rfl, rfl, rfl⟩ := hcs
    simp only [Prod.mk.injEq] at hx
    obtain ⟨rfl, rfl⟩ := hx
    exact ⟨[], Or.inl ⟨none, 0, rfl, (fun _ => rfl), rfl⟩, Nat.zero_le _, (fun x hx => by cases hx), fun W' _ => shut_slice_nil Tryd.underlying40⟩
  · simp [Value.cells] at hcs
    obtain ⟨rfl, rfl, rfl⟩ := hcs
    simp only [Prod.mk.injEq] at hx
    obtain ⟨rfl, rfl⟩ := hx
    simp only [if_true] at hz
    have hwz' := hwz
    refine ⟨zs.take len, ?_, by simp; omega, fun x hx => bounds_i64 (hwz x (List.mem_of_mem_take hx)), fun W' hX => ?_⟩
    · by_cases hl0 : len = 0
      · subst hl0
        exact Or.inl ⟨some a, cap, rfl, (fun h => by cases h), by simp⟩
      · obtain ⟨b, off, spot⟩ := a
        have hspot : spot = none := by simpa [Addr.add] using World.cell?_spot (hcell 0 (by omega))
        subst hspot
        refine Or.inr ⟨b, off, cap, by rw [List.length_take, Nat.min_eq_left (by omega)], fun k x hk => ?_⟩
        have hk' : k < len := by
          have := (List.getElem?_eq_some_iff.1 hk).1
          simp at this; omega
        have := hcell k (by omega)
        rw [List.getElem?_take_of_lt hk'] at hk
        rw [add_plain] at this
        simpa [List.getD, hk] using this
    · by_cases hz0 : zs.length = 0
      · have hc0 : cap = 0 := by omega
        have hl0 : len = 0 := by omega
        subst hc0; subst hl0
        have t0 := shut_ints (enc := enc) (P := Tryd.prog) (w := W') (base := 0) (spare := fun b => decide (b < W.heap.size)) (held := true) (a := a) (len := 0) (cap := 0) (zs := zs) 0 Tryd.underlying40 Tryd.underlying2 cells_i64 (Nat.zero_le _) (Nat.le_refl _) hm (by simp [hz0]) (fun i hi => by omega) hwz
        exact ⟨2, by simpa [Value.cells] using t0⟩
      · obtain ⟨b, off, spot⟩ := a
        have hspot : spot = none := by simpa [Addr.add] using World.cell?_spot (hcell 0 (by omega))
        subst hspot
        have hb : b < W.heap.size := by have := hcell 0 (by omega); rw [add_plain] at this; exact lt_of_cell this
        have t0 := shut_ints (enc := enc) (P := Tryd.prog) (w := W') (base := 0) (spare := fun b => decide (b < W.heap.size)) (held := true) (a := ⟨b, off, none⟩) (len := len) (cap := cap) (zs := zs) 0 Tryd.underlying40 Tryd.underlying2 cells_i64 (Nat.zero_le _) hl hm (by simp [hb, hz]) (fun i hi => by
          have := hcell i hi
          rw [add_plain] at this ⊢
          exact hX.cell_of this) hwz
        exact ⟨2, by simpa [Value.cells] using t0⟩
/-- A slice of spans that came in. -/
def Slt (w : World) (v : Value) (l : List (Int × Int × Int)) : Prop :=
  (∃ a c, v = .slice a 0 c ∧ l = []) ∨ ∃ b off c, v = .slice (some ⟨b, off, none⟩) l.length c ∧
    ∀ (k : Nat) (x y z : Int), l[k]? = some (x, y, z) → w.cell? ⟨b, off + k * 3, none⟩ = some (.int .i64 x) ∧ w.cell? ⟨b, off + k * 3 + 1, none⟩ = some (.int .i64 y) ∧ w.cell? ⟨b, off + k * 3 + 2, none⟩ = some (.int .i64 z)
theorem Slt.ext {w w' : World} {v : Value} {l : List (Int × Int × Int)} (h : Slt w v l) (hx : Ext w w') : Slt w' v l := by
  rcases h with h | ⟨b, off, c, e, hc⟩
  · exact Or.inl h
  · exact Or.inr ⟨b, off, c, e, fun k x y z hk => ⟨hx.cell_of (hc k x y z hk).1, hx.cell_of (hc k x y z hk).2.1, hx.cell_of (hc k x y z hk).2.2⟩⟩
theorem laidOut : laidOutB Tryd.prog = true := by kernel_rfl
/-- A slice of spans among the arguments: its spans; and it reads the same behind a call that only makes new memory. -/
theorem open_slt {H : Type} {enc : TypeId × Value → H} {W : World} {base : Nat} {v : Value} {d : DataW H} {ps : List MemPlace} (hval : Value.okWide Tryd.prog W .any base 22 v) (h : DataW.Trod enc Tryd.prog W 0 (fun _ => true) true 22 v d ps) :
    ∃ l : List (Int × Int × Int), Slt W v l ∧ l.length ≤ maxLen ∧ (∀ x ∈ l, J64 x.1 ∧ J64 x.2.1 ∧ J64 x.2.2) ∧ ∀ W' : World, Ext W W' → DataW.Trod enc Tryd.prog W' 0 (fun b => decide (b < W.heap.size)) true 22 v d ps := by
  have hshut : ∀ W' : World, Ext W W' → DataW.Trod enc Tryd.prog W' 0 (fun b => decide (b < W.heap.size)) true 22 v d ps := fun W' hX =>
    Below.trod laidOut (by kernel_rfl) (of_decide_eq_true (by kernel_rfl)) h hX.below (by
      obtain ⟨fuel, hf⟩ := h
      exact DataW.trod_lt fuel _ _ _ hf)
  obtain ⟨a0, len, cap, rfl⟩ := okWide_slice Tryd.underlying22 hval
  obtain ⟨fuel, hf⟩ := h
  have hc : Tryd.prog.cellsOf 34 = 3 := by kernel_rfl
  have h1 : Tryd.prog.cellsOf 2 = 1 := by kernel_rfl
  rcases Go.Deep.open_slice Tryd.underlying22 hf with ⟨hcs, _⟩ | ⟨a, len', cap', m, n, D, Pl, hcs, _, hl, hm, hmm, _, hx⟩
  · simp [Value.cells] at hcs
    obtain ⟨rfl, rfl, rfl⟩ := hcs
    exact ⟨[], Or.inl ⟨none, 0, rfl, rfl⟩, Nat.zero_le _, (fun x hx => by cases hx), hshut⟩
  · simp [Value.cells] at hcs
    obtain ⟨rfl, rfl, rfl⟩ := hcs
    simp only [if_true] at hmm
    subst hmm
    have each : ∀ i, i < len → ∃ q : Int × Int × Int, (W.cell? (a.add (i * 3)) = some (.int .i64 q.1) ∧ W.cell? (a.add (i * 3 + 1)) = some (.int .i64 q.2.1) ∧ W.cell? (a.add (i * 3 + 2)) = some (.int .i64 q.2.2)) ∧ J64 q.1 ∧ J64 q.2.1 ∧ J64 q.2.2 := by
      intro i hi
      obtain ⟨cs', g1, g2⟩ := hx i (by omega)
      rw [hc] at g1
      obtain ⟨_, hlen, hcell⟩ := World.cells?_some g1
      obtain ⟨xs, k, _, _, _, hxl, hy⟩ := DataW.trod_struct Tryd.underlying34 g2
      match xs, hxl, cs', hlen with
      | [y0, y1, y2], _, [v0, v1, v2], _ =>
        have k0 := hy 0 _ rfl; have k1 := hy 1 _ rfl; have k2 := hy 2 _ rfl
        simp only [List.getElem?_cons_zero, List.getElem?_cons_succ] at k0 k1 k2
        obtain ⟨x, e0, _, wx⟩ := DataW.trod_int Tryd.underlying2 k0
        obtain ⟨y, e1, _, wy⟩ := DataW.trod_int Tryd.underlying2 k1
        obtain ⟨z, e2, _, wz⟩ := DataW.trod_int Tryd.underlying2 k2
        simp [h1] at e0 e1 e2
        subst e0 e1 e2
        have q0 := hcell 0 (by omega); have q1 := hcell 1 (by omega); have q2 := hcell 2 (by omega)
        rw [Go.Deep.add_add] at q0 q1 q2
        exact ⟨(x, y, z), ⟨by simpa using q0, by simpa using q1, by simpa using q2⟩, bounds_i64 wx, bounds_i64 wy, bounds_i64 wz⟩
    obtain ⟨q, hq⟩ := Go.Deep.choose_lt each
    by_cases hl0 : len = 0
    · subst hl0
      exact ⟨[], Or.inl ⟨some a, m, rfl, rfl⟩, Nat.zero_le _, (fun x hx => by cases hx), hshut⟩
    · obtain ⟨b, off, spot⟩ := a
      have hspot : spot = none := by simpa [Addr.add] using World.cell?_spot (hq 0 (by omega)).1.1
      subst hspot
      refine ⟨(List.range len).map q, Or.inr ⟨b, off, m, by simp, fun k x y z hk => ?_⟩, by simp; omega, fun x hx => ?_, hshut⟩
      · have hk' : k < len := by
          have := (List.getElem?_eq_some_iff.1 hk).1
          simpa using this
        have e : q k = (x, y, z) := by simpa [hk'] using hk
        have := (hq k hk').1
        rw [e, add_plain, add_plain, add_plain] at this
        exact ⟨this.1, by simpa [Nat.add_assoc] using this.2.1, by simpa [Nat.add_assoc] using this.2.2⟩
      · simp at hx
        obtain ⟨k, hk, rfl⟩ := hx
        exact (hq k hk).2
end Go.Proofs.YteedbmmpkgpfhaaDoor
