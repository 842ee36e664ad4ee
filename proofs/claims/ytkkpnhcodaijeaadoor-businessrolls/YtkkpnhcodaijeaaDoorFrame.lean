/- From a tied row of the seat to its walk: what the listed variables give, and the wrap: no statement of the seat is proved here. -/
import Derived.Test.YtkkpnhcodaijeaaDoorBiz7
import Derived.ChangeSlices
import Derived.ChangeSame
import Derived.Test.YtkkpnhcodaijeaaDoorTie
import Derived.Test.YtkkpnhcodaijeaaDoorCards
import Derived.ProofKit
import Derived.OpenShut
import Derived.LaidLaws
import Derived.Lay
import Derived.Lib.LaidU8
import Derived.SevenTiedAt
namespace Go.Proofs.YtkkpnhcodaijeaaDoor
open Go.RowKit Go.ChangeShapes Go.WideShapes Go.ChangeAt

theorem own : ownKnob Tryd.prog.godebug = none := by kernel_rfl
/-- The listed variables. -/
def laid : List (String × DataW Unit) := Rows.businessTellsRow.laid
theorem env_of (W : World) (hL : laidMetH Tryd.prog laid W) : Env W := by
  rw [MakeChecks.laidMetH_plain _ _ _ (by kernel_rfl)] at hL
  refine ⟨?_⟩
  obtain ⟨g, t, cs, fuel, p, h1, h2, h3, h4⟩ : Lib.VarReads Tryd.prog W "quittance/civil.monthDays" (Lib.tabData .i64 mtab) := Lib.laidMet.reads hL (.head _)
  obtain rfl : g = 0 := Option.some.inj (h1.symm.trans (show Tryd.prog.globalNamed "quittance/civil.monthDays" = some 0 by kernel_rfl))
  obtain rfl : t = 57 := Option.some.inj (h2.symm.trans (show (Tryd.prog.globals[0]?).map (·.type) = some 57 by kernel_rfl))
  have hcs := Lib.cells_of_tab Tryd.underlying57 Tryd.underlying3 (by kernel_rfl) (by kernel_rfl) h4
  intro i v hv
  have := World.var?_cell h1 h3 i
  rw [this, ← Array.getElem?_toList, hcs]
  simp [hv]

theorem carried (w w' : World) (hh : w.heap = w'.heap) (h : laidMetH Tryd.prog laid w) : laidMetH Tryd.prog laid w' := h.of_heap hh
set_option maxRecDepth 100000 in
/-- The wrap: what the listed variables read as, and the world's shape, are handed to the walk. -/
theorem wrap {H : Type} {enc : TypeId × Value → H} {os : Os} {f : FuncId} {fn : Func} {s : ChangeSpec} {fresh handsOn again : Bool}
    (started : os.Started) (noInit : Tryd.checked.prog.inits.idxOf? f = none) (hfn : Tryd.checked.prog.funcs[f]? = some fn)
    (witness : ∃ (w : World) (tape : Tape) (i : Input), w.os = os ∧ (w.forCall tape i).Shaped Tryd.checked.prog ∧ i.vars = [] ∧ Input.okWide Tryd.checked.prog (w.forCall tape i) .any w.heap.size f i ∧
      ((s.pre enc Tryd.checked.prog fn [] false (w.forCall tape i).memory i.args ∧ laidMetH Tryd.checked.prog laid (w.forCall tape i).memory) ∧ sizedMet enc Tryd.checked.prog fn (OpenSpec.ofChange s) false (w.forCall tape i).memory i.args) ∧ ({} : Assume).holds Tryd.checked.prog (lone (Frame.enter Tryd.checked.prog f i.args .normal) [] (w.forCall tape i)))
    (contract : ∀ (W : World) (base : Nat) (args : Array Value) (ds gs : List (DataW H)) (before : List MemPlace),
      (∀ (j : Nat) t v, fn.params[j]? = some t → args[j]? = some v → Value.okWide Tryd.checked.prog W .any base t v) →
      DataW.Whole enc Tryd.checked.prog fn.params.toList s.vars false W args.toList ds gs before → Env W →
      Calls Tryd.checked.prog f args W fun e W' => ∃ v, e = .returned v ∧ s.post enc Tryd.checked.prog fn false fresh handsOn again W args v W') :
    ReturnsInHanded {} Tryd.checked os f .any (fun w args => (s.pre enc Tryd.checked.prog fn [] false w args ∧ laidMetH Tryd.checked.prog laid w) ∧ sizedMet enc Tryd.checked.prog fn (OpenSpec.ofChange s) false w args) (s.post enc Tryd.checked.prog fn false fresh handsOn again) := by
  refine returnsInHanded_of_calls own started noInit witness ?_
  intro w tape i _ hsh _ hok hpre _
  obtain ⟨_, _, _, fn', hfn', _, _, _, _, hval⟩ := hok
  obtain rfl : fn' = fn := Option.some.inj (hfn'.symm.trans hfn)
  obtain ⟨⟨⟨ds, gs, before, hw, _⟩, hL⟩, _⟩ := hpre
  have hh : (w.forCall tape i).memory.heap = (w.forCall tape i).heap := rfl
  have hE : Env (w.forCall tape i) := env_of (w.forCall tape i) (carried (w.forCall tape i).memory (w.forCall tape i) hh hL)
  refine (contract (w.forCall tape i) w.heap.size i.args ds gs before hval (DataW.Whole.of_heap (w' := w.forCall tape i) (by rfl) hw) hE).mono fun e W' ⟨v, he, hp⟩ => ?_
  subst he
  exact ChangeSpec.post_blind hp
theorem cells_int : Tryd.prog.cellsOf 3 = 1 := by kernel_rfl
/-- A slice of ints among the arguments: its numbers; and it reads the same behind a call that only makes new memory. -/
theorem open_slc {H : Type} {enc : TypeId × Value → H} {W : World} {base : Nat} {v : Value} {d : DataW H} {ps : List MemPlace} (hval : Value.okWide Tryd.prog W .any base 22 v) (h : DataW.Trod enc Tryd.prog W 0 (fun _ => true) true 22 v d ps) :
    ∃ l : List Int, Slc W v l ∧ l.length ≤ maxLen ∧ (∀ x ∈ l, I64 x) ∧ ∀ W' : World, Ext W W' → DataW.Trod enc Tryd.prog W' 0 (fun b => decide (b < W.heap.size)) true 22 v d ps := by
  obtain ⟨a0, len, cap, rfl⟩ := okWide_slice Tryd.underlying22 hval
  obtain ⟨fuel, hf⟩ := h
  rcases open_ints Tryd.underlying22 Tryd.underlying3 cells_int hf with ⟨hcs, hx⟩ | ⟨a, len', cap', zs, hcs, _, hl, hm, hz, hx, hcell, hwz⟩
  · simp [Value.cells] at hcs
    obtain ⟨rfl, rfl, rfl⟩ := hcs
    simp only [Prod.mk.injEq] at hx
    obtain ⟨rfl, rfl⟩ := hx
    exact ⟨[], Or.inl ⟨none, 0, rfl, (fun _ => rfl), rfl⟩, Nat.zero_le _, (fun x hx => by cases hx), fun W' _ => shut_slice_nil Tryd.underlying22⟩
  · simp [Value.cells] at hcs
    obtain ⟨rfl, rfl, rfl⟩ := hcs
    simp only [Prod.mk.injEq] at hx
    obtain ⟨rfl, rfl⟩ := hx
    simp only [if_true] at hz
    have hwz' := hwz
    refine ⟨zs.take len, ?_, by simp; omega, fun x hx => bounds_i64 (hwz x (List.mem_of_mem_take hx)), fun W' hX => ?_⟩
    · by_cases hl0 : len = 0
      · subst hl0
        exact Or.inl ⟨some a, cap, rfl, (fun h => by cases h), by simp⟩
      · obtain ⟨b, off, spot⟩ := a
        have hspot : spot = none := by simpa [Addr.add] using World.cell?_spot (hcell 0 (by omega))
        subst hspot
        refine Or.inr ⟨b, off, cap, by rw [List.length_take, Nat.min_eq_left (by omega)], fun k x hk => ?_⟩
        have hk' : k < len := by
          have := (List.getElem?_eq_some_iff.1 hk).1
          simp at this; omega
        have := hcell k (by omega)
        rw [List.getElem?_take_of_lt hk'] at hk
        rw [add_plain] at this
        simpa [List.getD, hk] using this
    · by_cases hz0 : zs.length = 0
      · have hc0 : cap = 0 := by omega
        have hl0 : len = 0 := by omega
        subst hc0; subst hl0
        have t0 := shut_ints (enc := enc) (P := Tryd.prog) (w := W') (base := 0) (spare := fun b => decide (b < W.heap.size)) (held := true) (a := a) (len := 0) (cap := 0) (zs := zs) 0 Tryd.underlying22 Tryd.underlying3 cells_int (Nat.zero_le _) (Nat.le_refl _) hm (by simp [hz0]) (fun i hi => by omega) hwz
        exact ⟨2, by simpa [Value.cells] using t0⟩
      · obtain ⟨b, off, spot⟩ := a
        have hspot : spot = none := by simpa [Addr.add] using World.cell?_spot (hcell 0 (by omega))
        subst hspot
        have hb : b < W.heap.size := by have := hcell 0 (by omega); rw [add_plain] at this; exact lt_of_cell this
        have t0 := shut_ints (enc := enc) (P := Tryd.prog) (w := W') (base := 0) (spare := fun b => decide (b < W.heap.size)) (held := true) (a := ⟨b, off, none⟩) (len := len) (cap := cap) (zs := zs) 0 Tryd.underlying22 Tryd.underlying3 cells_int (Nat.zero_le _) hl hm (by simp [hb, hz]) (fun i hi => by
          have := hcell i hi
          rw [add_plain] at this ⊢
          exact hX.cell_of this) hwz
        exact ⟨2, by simpa [Value.cells] using t0⟩
end Go.Proofs.YtkkpnhcodaijeaaDoor
