
/- What the statements' Plain and awake, and the document's Order, answer, as contracts: no statement of the seat is proved here. -/
import Derived.Test.YtafjmpaefikdcaaGreatDoorL8Pr9
import Derived.Deep.WholeRow
import Derived.Deep.Cut
namespace Go.Proofs.YtafjmpaefikdcaaGreatDoor.L8
open Go.RowKit
set_option linter.unusedVariables false

/-- The plain product. -/
def plainA : Array Value := #[.string ⟨[104, 111, 109, 101].toArray⟩, .int .i64 2, .int .i64 1, .int .i64 1, .int .i64 1, .int .i64 12, .int .i64 0, .int .i64 60000000, .slice none 0 0, .int .i64 100000000, .int .i64 1, .int .i64 2, .int .i64 3, .int .i64 4, .int .i64 1, .slice none 0 0, .int .i64 0, .int .i64 1, .slice none 0 0]
theorem zero27 : (Tryz.prog.info? 27).map (fun i => (i.zero, i.size)) = some (some (.agg #[.string ⟨#[]⟩, .int .i64 0, .int .i64 0, .int .i64 0, .int .i64 0, .int .i64 0, .int .i64 0, .int .i64 0, .slice none 0 0, .int .i64 0, .int .i64 0, .int .i64 0, .int .i64 0, .int .i64 0, .int .i64 0, .slice none 0 0, .int .i64 0, .int .i64 0, .slice none 0 0]), 19) := by kernel_rfl
theorem Plain_c (w : World) :
    Calls Tryz.prog 15 #[] w fun e w' => e = .returned (.agg plainA) ∧ Ext w w' := by
  go_enter Tryz.func15, Tryz.ntmps15
  go_upto_region 1 with fail
  refine wp_region_lit ?_
  refine wpList_build rfl _ _ rfl (by kernel_rfl) ?_
  refine wpList_build rfl _ _ rfl (by kernel_rfl) ?_
  refine wpList_store_row rfl _ _ _ rfl w.heap.size plainA rfl (by kernel_rfl) _ _ (heap_alloc_last w _) (by kernel_rfl) rfl (by kernel_rfl) ?_
  rw [World.setRow_alloc_new]
  refine (?_ : ∀ x y : Value, wpList Tryz.prog _ _ [] (((({ tmps := #[.pointer (some ⟨w.heap.size, 0, none⟩), undef, undef], defers := [] } : Act).put (some 1) x).put (some 2) y).put none undef) (w.alloc (.cells plainA 27))) _ _
  intro x y
  go_wp2
  exact bodyPost_ret (v := .agg plainA) (results_cell_row (p := 0) rfl _ _ w.heap.size _ plainA (0, 0) _ rfl (heap_alloc_last w _) Tryz.underlying27 rfl (by kernel_rfl)) rfl ⟨rfl, (Ext.refl w).alloc _ _⟩
theorem nilr (w : World) : Slp w (.slice none 0 0) [] := Or.inl ⟨none, 0, rfl, fun _ => rfl, rfl⟩
theorem nilh (w : World) : Slc w (.slice none 0 0) [] := Or.inl ⟨none, 0, rfl, fun _ => rfl, rfl⟩
theorem check_plain (w : World) :
    Calls Tryz.prog 38 #[.agg plainA] w fun e w' => e = .returned (.int .i64 0) ∧ Ext w w' :=
  Check_x [104, 111, 109, 101] 2 1 1 1 12 0 60000000 (.slice none 0 0) [] 100000000 1 2 3 4 1 (.slice none 0 0) [] 0 1 (.slice none 0 0) [] 0 (by decide +kernel) w (by decide) (by decide) (by decide) (by decide) (nilr w) (nilr w) (nilh w)
theorem check_zero (w : World) :
    Calls Tryz.prog 38 #[.agg #[.string ⟨#[]⟩, .int .i64 0, .int .i64 0, .int .i64 0, .int .i64 0, .int .i64 0, .int .i64 0, .int .i64 0, .slice none 0 0, .int .i64 0, .int .i64 0, .int .i64 0, .int .i64 0, .int .i64 0, .int .i64 0, .slice none 0 0, .int .i64 0, .int .i64 0, .slice none 0 0]] w fun e w' => e = .returned (.int .i64 9) ∧ Ext w w' :=
  Check_x [] 0 0 0 0 0 0 0 (.slice none 0 0) [] 0 0 0 0 0 0 (.slice none 0 0) [] 0 0 (.slice none 0 0) [] 9 (by decide +kernel) w (by decide) (by decide) (by decide) (by decide) (nilr w) (nilr w) (nilh w)
/-- A product's block, with all of its cells. -/
def Blk (w : World) (b : Nat) (c : Array Value) : Prop := w.heap[b]? = some (.cells c 27 (0, 0))
theorem Blk.ext {w w' : World} {b : Nat} {c : Array Value} (h : Blk w b c) (hx : Ext w w') : Blk w' b c := by
  unfold Blk at *
  rw [hx.below.block b (Array.getElem?_eq_some_iff.1 h).1]; exact h
theorem Blk.set {w : World} {b : Nat} {c : Array Value} (h : Blk w b c) (i : Nat) (v : Value) : Blk (w.setCell ⟨b, i, none⟩ v) b (c.setIfInBounds i v) := heap_setCell_same w b i c _ v h
theorem Blk.other {w : World} {b b' : Nat} {c : Array Value} (h : Blk w b c) (i : Nat) (v : Value) (hb : b ≠ b') : Blk (w.setCell ⟨b', i, none⟩ v) b c := by
  unfold Blk; rw [heap_setCell_other _ _ _ _ hb]; exact h
theorem Bx.of_blk {w : World} {b : Nat} {nm : List UInt8} {cn rd kd ev tm gr rt : Int} {vr : Value} {rs : List (Int × Int)} {pn o0 o1 o2 o3 ov : Int} {vl : Value} {lt : List (Int × Int)} {cp rl : Int} {vh : Value} {hd : List Int}
    (h : Blk w b #[.string ⟨nm.toArray⟩, .int .i64 cn, .int .i64 rd, .int .i64 kd, .int .i64 ev, .int .i64 tm, .int .i64 gr, .int .i64 rt, vr, .int .i64 pn, .int .i64 o0, .int .i64 o1, .int .i64 o2, .int .i64 o3, .int .i64 ov, vl, .int .i64 cp, .int .i64 rl, vh]) (sr : Slp w vr rs) (sl : Slp w vl lt) (sh : Slc w vh hd) : Bx w b nm cn rd kd ev tm gr rt vr rs pn o0 o1 o2 o3 ov vl lt cp rl vh hd :=
  ⟨(cell_of_row w b 0 _ _ _ h).trans rfl, (cell_of_row w b 1 _ _ _ h).trans rfl, (cell_of_row w b 2 _ _ _ h).trans rfl, (cell_of_row w b 3 _ _ _ h).trans rfl, (cell_of_row w b 4 _ _ _ h).trans rfl, (cell_of_row w b 5 _ _ _ h).trans rfl, (cell_of_row w b 6 _ _ _ h).trans rfl, (cell_of_row w b 7 _ _ _ h).trans rfl, (cell_of_row w b 8 _ _ _ h).trans rfl, (cell_of_row w b 9 _ _ _ h).trans rfl, (cell_of_row w b 10 _ _ _ h).trans rfl, (cell_of_row w b 11 _ _ _ h).trans rfl, (cell_of_row w b 12 _ _ _ h).trans rfl, (cell_of_row w b 13 _ _ _ h).trans rfl, (cell_of_row w b 14 _ _ _ h).trans rfl, (cell_of_row w b 15 _ _ _ h).trans rfl, (cell_of_row w b 16 _ _ _ h).trans rfl, (cell_of_row w b 17 _ _ _ h).trans rfl, (cell_of_row w b 18 _ _ _ h).trans rfl, sr, sl, sh⟩
theorem Order_c (a b c d : Int) (w : World) :
    Calls Tryz.prog 34 #[.agg #[.int .i64 a, .int .i64 b, .int .i64 c, .int .i64 d]] w fun e w' => e = .returned (.bool (r7B a b c d)) ∧ Ext w w' := by
  obtain ⟨W0, P, hW0, hP, hx0, k0, k1, k2, k3⟩ : ∃ W P, w.alloc (.cells #[.int .i64 a, .int .i64 b, .int .i64 c, .int .i64 d] 23) = W ∧ w.heap.size = P ∧ Ext w W ∧ W.cell? ⟨P, 0, none⟩ = some (.int .i64 a) ∧ W.cell? ⟨P, 1, none⟩ = some (.int .i64 b) ∧ W.cell? ⟨P, 2, none⟩ = some (.int .i64 c) ∧ W.cell? ⟨P, 3, none⟩ = some (.int .i64 d) :=
    ⟨_, _, rfl, rfl, (Ext.refl w).alloc _ _, by simp [go_sem], by simp [go_sem], by simp [go_sem], by simp [go_sem]⟩
  have hC : Hid (∀ (x : Int) (B : Bool), decide (x ∈ [a, b, c, d]) = B → Calls Tryz.prog 32 #[.slice (some ⟨P, 0, none⟩) 4 4, .int .i64 x] W0 fun e w' => e = .returned (.bool B) ∧ w' = W0) := fun x B h =>
    In_y (.slice (some ⟨P, 0, none⟩) 4 4) [a, b, c, d] x B h W0 (by simp) (Or.inr ⟨P, 0, 4, rfl, fun k v hk => by
      match k, hk with
      | 0, hk => simp at hk; subst hk; exact k0
      | 1, hk => simp at hk; subst hk; exact k1
      | 2, hk => simp at hk; subst hk; exact k2
      | 3, hk => simp at hk; subst hk; exact k3
      | k + 4, hk => simp at hk⟩)
  unfold r7B
  obtain ⟨B1, h1⟩ : ∃ B, decide (1 ∈ [a, b, c, d]) = B := ⟨_, rfl⟩
  obtain ⟨B2, h2⟩ : ∃ B, decide (2 ∈ [a, b, c, d]) = B := ⟨_, rfl⟩
  obtain ⟨B3, h3⟩ : ∃ B, decide (3 ∈ [a, b, c, d]) = B := ⟨_, rfl⟩
  obtain ⟨B4, h4⟩ : ∃ B, decide (4 ∈ [a, b, c, d]) = B := ⟨_, rfl⟩
  rw [h1, h2, h3, h4]
  replace h1 := show Hid _ from hC.out 1 B1 h1
  replace h2 := show Hid _ from hC.out 2 B2 h2
  replace h3 := show Hid _ from hC.out 3 B3 h3
  replace h4 := show Hid _ from hC.out 4 B4 h4
  clear hC
  cases B1
  · go_enter Tryz.func34, Tryz.ntmps34
    go_wp2_with fail
    refine wp_loop_rounds 5 ?_
    rw [rounds_succ]
    go_wp2_with fail
    refine Calls.mono h1.out ?_
    rintro e w1 ⟨rfl, rfl⟩
    go_wp2
    go_ret
    exact ⟨rfl, hx0⟩
  cases B2
  · go_enter Tryz.func34, Tryz.ntmps34
    go_wp2_with fail
    refine wp_loop_rounds 5 ?_
    rw [rounds_succ]
    go_wp2_with fail
    refine Calls.mono h1.out ?_
    rintro e w1 ⟨rfl, rfl⟩
    go_wp2
    rw [rounds_succ]
    go_wp2_with fail
    refine Calls.mono h2.out ?_
    rintro e w1 ⟨rfl, rfl⟩
    go_wp2
    go_ret
    exact ⟨rfl, hx0⟩
  cases B3
  · go_enter Tryz.func34, Tryz.ntmps34
    go_wp2_with fail
    refine wp_loop_rounds 5 ?_
    rw [rounds_succ]
    go_wp2_with fail
    refine Calls.mono h1.out ?_
    rintro e w1 ⟨rfl, rfl⟩
    go_wp2
    rw [rounds_succ]
    go_wp2_with fail
    refine Calls.mono h2.out ?_
    rintro e w1 ⟨rfl, rfl⟩
    go_wp2
    rw [rounds_succ]
    go_wp2_with fail
    refine Calls.mono h3.out ?_
    rintro e w1 ⟨rfl, rfl⟩
    go_wp2
    go_ret
    exact ⟨rfl, hx0⟩
  cases B4
  · go_enter Tryz.func34, Tryz.ntmps34
    go_wp2_with fail
    refine wp_loop_rounds 5 ?_
    rw [rounds_succ]
    go_wp2_with fail
    refine Calls.mono h1.out ?_
    rintro e w1 ⟨rfl, rfl⟩
    go_wp2
    rw [rounds_succ]
    go_wp2_with fail
    refine Calls.mono h2.out ?_
    rintro e w1 ⟨rfl, rfl⟩
    go_wp2
    rw [rounds_succ]
    go_wp2_with fail
    refine Calls.mono h3.out ?_
    rintro e w1 ⟨rfl, rfl⟩
    go_wp2
    rw [rounds_succ]
    go_wp2_with fail
    refine Calls.mono h4.out ?_
    rintro e w1 ⟨rfl, rfl⟩
    go_wp2
    go_ret
    exact ⟨rfl, hx0⟩
  go_enter Tryz.func34, Tryz.ntmps34
  go_wp2_with fail
  refine wp_loop_rounds 5 ?_
  rw [rounds_succ]
  go_wp2_with fail
  refine Calls.mono h1.out ?_
  rintro e w1 ⟨rfl, rfl⟩
  go_wp2
  rw [rounds_succ]
  go_wp2_with fail
  refine Calls.mono h2.out ?_
  rintro e w1 ⟨rfl, rfl⟩
  go_wp2
  rw [rounds_succ]
  go_wp2_with fail
  refine Calls.mono h3.out ?_
  rintro e w1 ⟨rfl, rfl⟩
  go_wp2
  rw [rounds_succ]
  go_wp2_with fail
  refine Calls.mono h4.out ?_
  rintro e w1 ⟨rfl, rfl⟩
  go_wp2
  rw [rounds_succ]
  go_wp2
  go_ret
  exact ⟨rfl, hx0⟩
end Go.Proofs.YtafjmpaefikdcaaGreatDoor.L8