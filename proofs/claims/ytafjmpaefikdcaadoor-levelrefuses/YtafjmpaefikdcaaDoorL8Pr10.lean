
/- What the statements' Plain and awake, and the document's Order, answer, as contracts: no statement of the seat is proved here. -/
import Derived.Test.YtafjmpaefikdcaaDoorL8Pr9
import Derived.Deep.WholeRow
import Derived.Deep.Cut
namespace Go.Proofs.YtafjmpaefikdcaaDoor.L8
open Go.RowKit
set_option linter.unusedVariables false

/-- The plain product. -/
def plainA : Array Value := #[.string ⟨[104, 111, 109, 101].toArray⟩, .int .i64 2, .int .i64 1, .int .i64 1, .int .i64 1, .int .i64 12, .int .i64 0, .int .i64 60000000, .slice none 0 0, .int .i64 100000000, .int .i64 1, .int .i64 2, .int .i64 3, .int .i64 4, .int .i64 1, .slice none 0 0, .int .i64 0, .int .i64 1, .slice none 0 0]
theorem zero27 : (Tryd.prog.info? 27).map (fun i => (i.zero, i.size)) = some (some (.agg #[.string ⟨#[]⟩, .int .i64 0, .int .i64 0, .int .i64 0, .int .i64 0, .int .i64 0, .int .i64 0, .int .i64 0, .slice none 0 0, .int .i64 0, .int .i64 0, .int .i64 0, .int .i64 0, .int .i64 0, .int .i64 0, .slice none 0 0, .int .i64 0, .int .i64 0, .slice none 0 0]), 19) := by kernel_rfl
theorem Plain_c (w : World) :
    Calls Tryd.prog 5 #[] w fun e w' => e = .returned (.agg plainA) ∧ Ext w w' := by
  go_enter Tryd.func5, Tryd.ntmps5
  go_upto_region 1 with fail
  refine wp_region_lit ?_
  refine wpList_build rfl _ _ rfl (by kernel_rfl) ?_
  refine wpList_build rfl _ _ rfl (by kernel_rfl) ?_
  refine wpList_store_row rfl _ _ _ rfl w.heap.size plainA rfl (by kernel_rfl) _ _ (heap_alloc_last w _) (by kernel_rfl) rfl (by kernel_rfl) ?_
  rw [World.setRow_alloc_new]
  refine (?_ : ∀ x y : Value, wpList Tryd.prog _ _ [] (((({ tmps := #[.pointer (some ⟨w.heap.size, 0, none⟩), undef, undef], defers := [] } : Act).put (some 1) x).put (some 2) y).put none undef) (w.alloc (.cells plainA 27))) _ _
  intro x y
  go_wp2
  exact bodyPost_ret (v := .agg plainA) (results_cell_row (p := 0) rfl _ _ w.heap.size _ plainA (0, 0) _ rfl (heap_alloc_last w _) Tryd.underlying27 rfl (by kernel_rfl)) rfl ⟨rfl, (Ext.refl w).alloc _ _⟩
theorem nilr (w : World) : Slp w (.slice none 0 0) [] := Or.inl ⟨none, 0, rfl, fun _ => rfl, rfl⟩
theorem nilh (w : World) : Slc w (.slice none 0 0) [] := Or.inl ⟨none, 0, rfl, fun _ => rfl, rfl⟩
theorem check_plain (w : World) :
    Calls Tryd.prog 18 #[.agg plainA] w fun e w' => e = .returned (.int .i64 0) ∧ Ext w w' :=
  Check_x [104, 111, 109, 101] 2 1 1 1 12 0 60000000 (.slice none 0 0) [] 100000000 1 2 3 4 1 (.slice none 0 0) [] 0 1 (.slice none 0 0) [] 0 (by decide +kernel) w (by decide) (by decide) (by decide) (by decide) (nilr w) (nilr w) (nilh w)
theorem check_zero (w : World) :
    Calls Tryd.prog 18 #[.agg #[.string ⟨#[]⟩, .int .i64 0, .int .i64 0, .int .i64 0, .int .i64 0, .int .i64 0, .int .i64 0, .int .i64 0, .slice none 0 0, .int .i64 0, .int .i64 0, .int .i64 0, .int .i64 0, .int .i64 0, .int .i64 0, .slice none 0 0, .int .i64 0, .int .i64 0, .slice none 0 0]] w fun e w' => e = .returned (.int .i64 9) ∧ Ext w w' :=
  Check_x [] 0 0 0 0 0 0 0 (.slice none 0 0) [] 0 0 0 0 0 0 (.slice none 0 0) [] 0 0 (.slice none 0 0) [] 9 (by decide +kernel) w (by decide) (by decide) (by decide) (by decide) (nilr w) (nilr w) (nilh w)
/-- A product's block, with all of its cells. -/
def Blk (w : World) (b : Nat) (c : Array Value) : Prop := w.heap[b]? = some (.cells c 27 (0, 0))
theorem Blk.ext {w w' : World} {b : Nat} {c : Array Value} (h : Blk w b c) (hx : Ext w w') : Blk w' b c := by
  unfold Blk at *
  rw [hx.below.block b (Array.getElem?_eq_some_iff.1 h).1]; exact h
theorem Blk.set {w : World} {b : Nat} {c : Array Value} (h : Blk w b c) (i : Nat) (v : Value) : Blk (w.setCell ⟨b, i, none⟩ v) b (c.setIfInBounds i v) := heap_setCell_same w b i c _ v h
theorem Blk.other {w : World} {b b' : Nat} {c : Array Value} (h : Blk w b c) (i : Nat) (v : Value) (hb : b ≠ b') : Blk (w.setCell ⟨b', i, none⟩ v) b c := by
  unfold Blk; rw [heap_setCell_other _ _ _ _ hb]; exact h
theorem Bx.of_blk {w : World} {b : Nat} {nm : List UInt8} {cn rd kd ev tm gr rt : Int} {vr : Value} {rs : List (Int × Int)} {pn o0 o1 o2 o3 ov : Int} {vl : Value} {lt : List (Int × Int)} {cp rl : Int} {vh : Value} {hd : List Int}
    (h : Blk w b #[.string ⟨nm.toArray⟩, .int .i64 cn, .int .i64 rd, .int .i64 kd, .int .i64 ev, .int .i64 tm, .int .i64 gr, .int .i64 rt, vr, .int .i64 pn, .int .i64 o0, .int .i64 o1, .int .i64 o2, .int .i64 o3, .int .i64 ov, vl, .int .i64 cp, .int .i64 rl, vh]) (sr : Slp w vr rs) (sl : Slp w vl lt) (sh : Slc w vh hd) : Bx w b nm cn rd kd ev tm gr rt vr rs pn o0 o1 o2 o3 ov vl lt cp rl vh hd :=
  ⟨(cell_of_row w b 0 _ _ _ h).trans rfl, (cell_of_row w b 1 _ _ _ h).trans rfl, (cell_of_row w b 2 _ _ _ h).trans rfl, (cell_of_row w b 3 _ _ _ h).trans rfl, (cell_of_row w b 4 _ _ _ h).trans rfl, (cell_of_row w b 5 _ _ _ h).trans rfl, (cell_of_row w b 6 _ _ _ h).trans rfl, (cell_of_row w b 7 _ _ _ h).trans rfl, (cell_of_row w b 8 _ _ _ h).trans rfl, (cell_of_row w b 9 _ _ _ h).trans rfl, (cell_of_row w b 10 _ _ _ h).trans rfl, (cell_of_row w b 11 _ _ _ h).trans rfl, (cell_of_row w b 12 _ _ _ h).trans rfl, (cell_of_row w b 13 _ _ _ h).trans rfl, (cell_of_row w b 14 _ _ _ h).trans rfl, (cell_of_row w b 15 _ _ _ h).trans rfl, (cell_of_row w b 16 _ _ _ h).trans rfl, (cell_of_row w b 17 _ _ _ h).trans rfl, (cell_of_row w b 18 _ _ _ h).trans rfl, sr, sl, sh⟩
end Go.Proofs.YtafjmpaefikdcaaDoor.L8