/- Add of package monthly, and the document's own, as contracts: no statement of the seat is proved here. -/
import Derived.Test.YtnpclkkjhbljbaaDoorCiv5
import Derived.Test.YtnpclkkjhbljbaaDoorMon0
import Derived.StillTailTactics
namespace Go.Proofs.YtnpclkkjhbljbaaDoor
open Go.RowKit
set_option linter.unusedVariables false

/-- A struct of three numbers, laid in a new block that may be written. -/
theorem box3f (w : World) (x y z : Value) (t : TypeId) : ∃ W b, w.alloc (.cells #[x, y, z] t) = W ∧ w.heap.size = b ∧ Ext w W ∧ W.cell? ⟨b, 0, none⟩ = some x ∧ W.cell? ⟨b, 1, none⟩ = some y ∧ W.cell? ⟨b, 2, none⟩ = some z ∧
    W.frozen? ⟨b, 0, none⟩ = false ∧ W.frozen? ⟨b, 1, none⟩ = false ∧ W.frozen? ⟨b, 2, none⟩ = false :=
  ⟨_, _, rfl, rfl, (Ext.refl w).alloc _ _, by simp [go_sem], by simp [go_sem], by simp [go_sem], by simp [go_sem], by simp [go_sem], by simp [go_sem]⟩
theorem Ext.froz_of {w w' : World} {b o : Nat} {v : Value} (hx : Ext w w') (h : w.cell? ⟨b, o, none⟩ = some v) (k : w.frozen? ⟨b, o, none⟩ = false) : w'.frozen? ⟨b, o, none⟩ = false := by
  rw [hx.froz b o (lt_of_cell h)]; exact k
/-- A region that draws its order, whose first n operations leave the world as it is, and whose others come in their order behind them. -/
theorem wp_region_tail {P : Program} {id : Nat} {Q : Exit → Act → World → Prop} {a : Act} {w : World} {l : List Oper} (n : Nat) (hm : P.follows .mixedOrders = true) (hB : Region.lexTailB .any l.toArray n = true)
    (h : ∀ W, Ext w W → wpStill P l.toArray W (fun a' => wpList P l.toArray Q (l.drop n) a' W) (l.take n) a) : (Code.region id l.toArray true).wp P Q a w :=
  wp_region_still_tail n hm hB (h _ ((Ext.refl w).drew))
theorem Date_f (n : Int) (w : World) (h1 : -25567 ≤ n) (h2 : n ≤ 84370) (he : Hid (Env w)) :
    Calls Tryd.prog 15 #[.int .i64 n] w fun e w' => e = .returned (.tuple #[.agg #[.int .i64 (yOf n), .int .i64 (mOf n), .int .i64 (dOf n)], .int .i64 0]) ∧ Ext w w' :=
  (Date_ok n w h1 h2 he).mono fun e w' ⟨⟨y, m, d, he, hv, hn⟩, hx⟩ => by
    obtain ⟨rfl, rfl, rfl⟩ := ofDay_of hv hn
    exact ⟨he, hx⟩
theorem rDate_f (n : Int) (w : World) (h1 : -25567 ≤ n) (h2 : n ≤ 84370) :
    Calls Tryd.prog 13 #[.int .i64 n] w fun e w' => e = .returned (.tuple #[.agg #[.int .i64 (yOf n), .int .i64 (mOf n), .int .i64 (dOf n)], .int .i64 0]) ∧ Ext w w' :=
  (rDate_ok n w h1 h2).mono fun e w' ⟨⟨y, m, d, he, hv, hn⟩, hx⟩ => by
    obtain ⟨rfl, rfl, rfl⟩ := ofDay_of hv hn
    exact ⟨he, hx⟩

theorem dmonth_c (y m d : Int) (w : World) (y1 : 1900 ≤ y) (y2 : y ≤ 2200) (m1 : 1 ≤ m) (m2 : m ≤ 12) :
    Calls Tryd.prog 28 #[.agg #[.int .i64 y, .int .i64 m, .int .i64 d]] w fun e w' => e = .returned (.int .i64 (mi y m)) ∧ Ext w w' := by
  unfold mi
  go_enter Tryd.func28, Tryd.ntmps28
  go_wp2
  go_ret
  exact ⟨rfl, (Ext.refl _).alloc _ _⟩
end Go.Proofs.YtnpclkkjhbljbaaDoor
