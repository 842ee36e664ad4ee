/- A date that is handed in by value, opened and shut: no statement of the seat is proved here. -/
import Derived.Test.YtbdninnopfdnbaaDoorProg
import Derived.ProofKit
import Derived.OpenShut
namespace Go.Proofs.YtbdninnopfdnbaaDoor
open Go.RowKit Go.ChangeShapes Go.WideShapes

theorem open_date {H : Type} {enc : TypeId × Value → H} {W : World} {r : Reach} {base b0 : Nat} {sp : Nat → Bool} {held : Bool} {v : Value} {d : DataW H} {ps : List MemPlace}
    (hval : Value.okWide Tryd.prog W r b0 23 v) (hd : DataW.Trod enc Tryd.prog W base sp held 23 v d ps) :
    ∃ x y z : Int, v = .agg #[.int .i64 x, .int .i64 y, .int .i64 z] ∧ d = .agg [.lit (.int .i64 x), .lit (.int .i64 y), .lit (.int .i64 z)] ∧ ps = [] ∧
      (Lit.int .i64 x).wf = true ∧ (Lit.int .i64 y).wf = true ∧ (Lit.int .i64 z).wf = true := by
  have hc : Tryd.prog.cellsOf 23 = 3 := by kernel_rfl
  have h1 : Tryd.prog.cellsOf 3 = 1 := by kernel_rfl
  obtain ⟨cs, rfl, hsz⟩ := okWide_struct Tryd.underlying23 hval
  rw [hc] at hsz
  obtain ⟨l⟩ := cs
  match l, hsz with
  | [c0, c1, c2], _ =>
    obtain ⟨fuel, hf⟩ := hd
    obtain ⟨xs, n, _, hx, _, hl, hy⟩ := DataW.trod_struct Tryd.underlying23 hf
    match xs, hl with
    | [y0, y1, y2], _ =>
      have g0 := hy 0 _ rfl; have g1 := hy 1 _ rfl; have g2 := hy 2 _ rfl
      simp only [Value.cells, List.getElem?_cons_zero, List.getElem?_cons_succ] at g0 g1 g2
      obtain ⟨a, e0, rfl, wa⟩ := DataW.trod_int Tryd.underlying3 g0
      obtain ⟨b, e1, rfl, wb⟩ := DataW.trod_int Tryd.underlying3 g1
      obtain ⟨c, e2, rfl, wc⟩ := DataW.trod_int Tryd.underlying3 g2
      simp [h1] at e0 e1 e2
      subst e0 e1 e2
      simp at hx
      exact ⟨a, b, c, rfl, hx.1, hx.2, wa, wb, wc⟩
theorem shut_date {H : Type} {enc : TypeId × Value → H} {W : World} {base : Nat} {sp : Nat → Bool} {held : Bool} {x y z : Int}
    (wx : (Lit.int .i64 x).wf = true) (wy : (Lit.int .i64 y).wf = true) (wz : (Lit.int .i64 z).wf = true) :
    DataW.Trod enc Tryd.prog W base sp held 23 (.agg #[.int .i64 x, .int .i64 y, .int .i64 z]) (.agg [.lit (.int .i64 x), .lit (.int .i64 y), .lit (.int .i64 z)]) [] := by
  have hc : Tryd.prog.cellsOf 23 = 3 := by kernel_rfl
  have h1 : Tryd.prog.cellsOf 3 = 1 := by kernel_rfl
  refine ⟨2, ?_⟩
  have f0 := trod_int_mk (enc := enc) (w := W) (base := base) (spare := sp) (held := held) 0 Tryd.underlying3 wx
  have f1 := trod_int_mk (enc := enc) (w := W) (base := base) (spare := sp) (held := held) 0 Tryd.underlying3 wy
  have f2 := trod_int_mk (enc := enc) (w := W) (base := base) (spare := sp) (held := held) 0 Tryd.underlying3 wz
  have := trod_struct_mk (enc := enc) (w := W) (base := base) (spare := sp) (held := held) (n := 1) (cs := [.int .i64 x, .int .i64 y, .int .i64 z]) (xs := [(.lit (.int .i64 x), []), (.lit (.int .i64 y), []), (.lit (.int .i64 z), [])])
    Tryd.underlying23 (by simp [hc]) (by simp [h1, f0, f1, f2])
  simpa [Value.cells] using this
end Go.Proofs.YtbdninnopfdnbaaDoor
