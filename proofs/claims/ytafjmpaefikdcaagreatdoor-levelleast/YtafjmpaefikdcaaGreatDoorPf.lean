/- From a tied row of the seat to its walk: what the listed variables give, and the wrap: no statement of the seat is proved here. -/
import Derived.Test.YtafjmpaefikdcaaGreatDoorM3
import Derived.Test.YtafjmpaefikdcaaGreatDoorL8Frame2
import Derived.Test.YtafjmpaefikdcaaGreatDoorTie
import Derived.Test.YtafjmpaefikdcaaGreatDoorCards
import Derived.ProofKit
import Derived.OpenShut
import Derived.LaidLaws
import Derived.Lay
import Derived.Lib.LaidU8
import Derived.SevenTiedAt
namespace Go.Proofs.YtafjmpaefikdcaaGreatDoor
open Go.RowKit Go.ChangeShapes Go.WideShapes Go.ChangeAt

theorem own : ownKnob Tryz.prog.godebug = none := by kernel_rfl
/-- The listed variables. -/
def laid : List (String × DataW Unit) := Rows.levelTellsRow.laid
theorem env_of (W : World) (hL : laidMetH Tryz.prog laid W) : L3.Env W := by
  rw [MakeChecks.laidMetH_plain _ _ _ (by kernel_rfl)] at hL
  refine ⟨?_⟩
  obtain ⟨g, t, cs, fuel, p, h1, h2, h3, h4⟩ : Lib.VarReads Tryz.prog W "quittance/civil.monthDays" (Lib.tabData .i64 L3.mtab) := Lib.laidMet.reads hL (.head _)
  obtain rfl : g = 2 := Option.some.inj (h1.symm.trans (show Tryz.prog.globalNamed "quittance/civil.monthDays" = some 2 by kernel_rfl))
  obtain rfl : t = 148 := Option.some.inj (h2.symm.trans (show (Tryz.prog.globals[2]?).map (·.type) = some 148 by kernel_rfl))
  have hcs := Lib.cells_of_tab Tryz.underlying148 Tryz.underlying3 (by kernel_rfl) (by kernel_rfl) h4
  intro i v hv
  have := World.var?_cell h1 h3 i
  rw [this, ← Array.getElem?_toList, hcs]
  simp [hv]

/-- What is read of the listed variables, all of it. -/
structure Evn (W : World) : Prop where
  env : L3.Env W
theorem carried (w w' : World) (hh : w.heap = w'.heap) (h : laidMetH Tryz.prog laid w) : laidMetH Tryz.prog laid w' := h.of_heap hh
set_option maxRecDepth 100000 in
/-- The wrap: what the listed variables read as, and the world's shape, are handed to the walk. -/
theorem wrap {H : Type} {enc : TypeId × Value → H} {os : Os} {f : FuncId} {fn : Func} {s : ChangeSpec} {fresh handsOn again : Bool}
    (started : os.Started) (noInit : Tryz.checked.prog.inits.idxOf? f = none) (hfn : Tryz.checked.prog.funcs[f]? = some fn)
    (witness : ∃ (w : World) (tape : Tape) (i : Input), w.os = os ∧ (w.forCall tape i).Shaped Tryz.checked.prog ∧ i.vars = [] ∧ Input.okWide Tryz.checked.prog (w.forCall tape i) .any w.heap.size f i ∧
      ((s.pre enc Tryz.checked.prog fn [] false (w.forCall tape i).memory i.args ∧ laidMetH Tryz.checked.prog laid (w.forCall tape i).memory) ∧ sizedMet enc Tryz.checked.prog fn (OpenSpec.ofChange s) false (w.forCall tape i).memory i.args) ∧ ({} : Assume).holds Tryz.checked.prog (lone (Frame.enter Tryz.checked.prog f i.args .normal) [] (w.forCall tape i)))
    (contract : ∀ (W : World) (base : Nat) (args : Array Value) (ds gs : List (DataW H)) (before : List MemPlace),
      (∀ (j : Nat) t v, fn.params[j]? = some t → args[j]? = some v → Value.okWide Tryz.checked.prog W .any base t v) →
      DataW.Whole enc Tryz.checked.prog fn.params.toList s.vars false W args.toList ds gs before → Evn W →
      Calls Tryz.checked.prog f args W fun e W' => ∃ v, e = .returned v ∧ s.post enc Tryz.checked.prog fn false fresh handsOn again W args v W') :
    ReturnsInHanded {} Tryz.checked os f .any (fun w args => (s.pre enc Tryz.checked.prog fn [] false w args ∧ laidMetH Tryz.checked.prog laid w) ∧ sizedMet enc Tryz.checked.prog fn (OpenSpec.ofChange s) false w args) (s.post enc Tryz.checked.prog fn false fresh handsOn again) := by
  refine returnsInHanded_of_calls own started noInit witness ?_
  intro w tape i _ hsh _ hok hpre _
  obtain ⟨_, _, _, fn', hfn', _, _, _, _, hval⟩ := hok
  obtain rfl : fn' = fn := Option.some.inj (hfn'.symm.trans hfn)
  obtain ⟨⟨⟨ds, gs, before, hw, _⟩, hL⟩, _⟩ := hpre
  have hh : (w.forCall tape i).memory.heap = (w.forCall tape i).heap := rfl
  have hE : Evn (w.forCall tape i) := ⟨env_of (w.forCall tape i) (carried (w.forCall tape i).memory (w.forCall tape i) hh hL)⟩
  refine (contract (w.forCall tape i) w.heap.size i.args ds gs before hval (DataW.Whole.of_heap (w' := w.forCall tape i) (by rfl) hw) hE).mono fun e W' ⟨v, he, hp⟩ => ?_
  subst he
  exact ChangeSpec.post_blind hp
end Go.Proofs.YtafjmpaefikdcaaGreatDoor
