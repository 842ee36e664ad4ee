/- A row of numbers in new memory; series and Dates of package monthly, as contracts: no statement of the seat is proved here. -/
import Derived.Test.YtnpclkkjhbljbaaDoorMon3
namespace Go.Proofs.YtnpclkkjhbljbaaDoor
open Go.RowKit
set_option linter.unusedVariables false

/-- A block's first T cells are the numbers f 0, f 1 .. -/
structure Arr (w : World) (g T : Nat) (f : Nat → Int) : Prop where
  cell : ∀ j, j < T → w.cell? ⟨g, j, none⟩ = some (.int .i64 (f j))
  free : ∀ j, j < T → w.frozen? ⟨g, j, none⟩ = false
theorem Arr.ext {w w' : World} {g T : Nat} {f : Nat → Int} (h : Arr w g T f) (hx : Ext w w') : Arr w' g T f :=
  ⟨fun j hj => hx.cell_of (h.cell j hj), fun j hj => hx.froz_of (h.cell j hj) (h.free j hj)⟩
/-- The first k are f's, the others 0. -/
def upTo (f : Nat → Int) (k : Nat) : Nat → Int := fun j => if j < k then f j else 0
theorem Arr.store {w : World} {g T : Nat} {f : Nat → Int} {k : Nat} (h : Arr w g T (upTo f k)) (v : Int) (hv : f k = v) : Arr (w.setCell ⟨g, k, none⟩ (.int .i64 v)) g T (upTo f (k + 1)) := by
  refine ⟨fun j hj => ?_, fun j hj => by simpa using h.free j hj⟩
  by_cases hjk : j = k
  · subst hjk
    rw [same (h.cell j hj)]
    simp [upTo, hv]
  · rw [other _ (Or.inr (fun e => hjk e.symm)), h.cell j hj]
    unfold upTo
    by_cases c : j < k
    · rw [if_pos c, if_pos (by omega)]
    · rw [if_neg c, if_neg (by omega)]
theorem Arr.full {w : World} {g T : Nat} {f : Nat → Int} (h : Arr w g T (upTo f T)) : Arr w g T f :=
  ⟨fun j hj => by rw [h.cell j hj]; unfold upTo; rw [if_pos hj], h.free⟩
theorem Arr.made {w' : World} {B g T : Nat} {e : TypeId} {f : Nat → Int} (h : w'.ownsRow B e 1 (.slice (some ⟨g, 0, none⟩) T T) T (madeCells #[Value.int .i64 0] T).toList) : Arr w' g T (upTo f 0) := by
  refine ⟨fun j hj => ?_, fun j _ => h.frozenAt j⟩
  rw [h.cellAt j (by omega)]
  have : (madeCells #[Value.int .i64 0] T).toList = List.replicate T (.int .i64 0) := toList_madeCells_one _ _
  rw [this]
  simp [upTo, hj]
theorem Ext.grown {w w' : World} (hg : w.grownBy w' none) : Ext w w' := ⟨(Below.refl _ _).grown hg (Nat.le_refl _) (fun k h => by cases h)⟩
theorem info_int : (Tryd.prog.info? 3).map (fun i => (i.zero, i.size, i.bytes)) = some (some (.int .i64 0), 1, 8) := by kernel_rfl
theorem mul_bd (ev : Int) (k : Nat) (e1 : 1 ≤ ev) (e2 : ev ≤ 12) (hk : k < 600) : 1 ≤ ev * ((k : Int) + 1) ∧ ev * ((k : Int) + 1) ≤ 7200 := by
  have h1 : ev * 1 ≤ ev * ((k : Int) + 1) := Int.mul_le_mul_of_nonneg_left (by omega) (by omega)
  have h2 : ev * ((k : Int) + 1) ≤ 12 * ((k : Int) + 1) := Int.mul_le_mul_of_nonneg_right e2 (by omega)
  omega
/-- The k-th day of the series, from 0 on. -/
def serA (n ev : Int) (k : Nat) : Int := nA n (ev * ((k : Int) + 1))
def serE (n ev : Int) (k : Nat) : Int := nE n (ev * ((k : Int) + 1))

theorem series_ok (n ev : Int) (T : Nat) (w : World) (n1 : -25567 ≤ n) (n2 : n ≤ 84370) (e1 : 1 ≤ ev) (e2 : ev ≤ 12) (t1 : 1 ≤ T) (t2 : T ≤ 600) (hall : ∀ j, j < T → serE n ev j = 0) (he : Hid (Env w)) :
    Calls Tryd.prog 18 #[.func (.func 16) #[.agg #[.int .i64 (yOf n), .int .i64 (mOf n), .int .i64 (dOf n)]] #[], .int .i64 ev, .int .i64 T] w
      fun e w' => (∃ g, e = .returned (.tuple #[.slice (some ⟨g, 0, none⟩) T T, .int .i64 0]) ∧ Arr w' g T (serA n ev)) ∧ Ext w w' := by
  have hA : Hid (∀ (k : Nat), k < T → ∀ w : World, Hid (Env w) → Calls Tryd.prog 16 #[.agg #[.int .i64 (yOf n), .int .i64 (mOf n), .int .i64 (dOf n)], .int .i64 (ev * ((k : Int) + 1))] w fun e w' => e = .returned (.tuple #[.int .i64 (serA n ev k), .int .i64 0]) ∧ Ext w w') := fun k hk w he => by
    have b := mul_bd ev k e1 e2 (by omega)
    have := dadd_c n (ev * ((k : Int) + 1)) w n1 n2 (by unfold I64; omega) he
    rwa [show nE n (ev * ((k : Int) + 1)) = 0 from hall k hk] at this
  clear hall
  obtain ⟨i0, hi, hz0, hz1, hz2⟩ := info_parts info_int
  generalize yOf n = y at *
  generalize mOf n = m at *
  generalize dOf n = d at *
  generalize serA n ev = F at *
  go_enter Tryd.func18, Tryd.ntmps18
  go_wp2_with (at_make; refine wpList_make_full w rfl (.tmp 12) (.tmp 12) 25 rfl w.heap.size 3 i0 (.int .i64 0) 1 Tryd.underlying25 hi hz0 hz1 .i64 .i64 T T T rfl rfl rfl rfl (by rw [hz2]; omega) (by unfold maxLen; omega) (Nat.le_refl _) ?_)
  intro w1 hown hg
  have hx := show Hid (Ext w w1) from Ext.grown hg
  have hr := show Hid (Arr w1 w.heap.size T (upTo F 0)) from Arr.made hown
  obtain ⟨g, hgg⟩ : ∃ g, w.heap.size = g := ⟨_, rfl⟩
  have lo : w.heap.size ≤ g := by omega
  rw [hgg] at hr ⊢
  clear hown hg hi hz0 hz1 hz2 hgg
  go_wp2_with fail
  go_loopw [16] (fun i wr => ∃ k : Nat, k ≤ T ∧ i = .int .i64 k ∧ Hid (Arr wr g T (upTo F k)) ∧ Hid (Ext w wr)) (fun i _ => T - (intOf i).toNat)
  case atStart => exact ⟨0, Nat.zero_le _, rfl, hr, hx⟩
  case round =>
    clear hr hx
    obtain ⟨k, hk, rfl, hr, hx⟩ := hrel
    by_cases hlt : k < T
    · obtain ⟨X, hX⟩ : ∃ X, ev * ((k : Int) + 1) = X := ⟨_, rfl⟩
      have hA1 := hA.out k hlt
      have b := mul_bd ev k e1 e2 (by omega)
      rw [hX] at hA1 b
      obtain ⟨x1, x2⟩ := b
      replace hA1 := show Hid _ from hA1
      obtain ⟨V, hV⟩ : ∃ V, F k = V := ⟨_, rfl⟩
      rw [hV] at hA1
      replace hV := show Hid _ from hV
      have he1 : Hid (Env wr) := he.out.ext hx.out
      go_wp2_with fail
      refine (hA1.out _ he1).mono ?_
      rintro e w2 ⟨rfl, hx1⟩
      replace hr : Hid (Arr w2 g T (upTo F k)) := hr.out.ext hx1
      replace hx : Hid (Ext w w2) := hx.out.trans hx1
      clear hx1 he1 hA1
      have c1 := hr.out.cell k hlt
      have c2 := hr.out.free k hlt
      go_wp2
      go_roundw
      case rel => exact ⟨k + 1, by omega, by go_num, hr.out.store V hV.out, hx.out.setCell lo _⟩
      case measure => simp [intOf]; omega
    · obtain rfl : k = T := by omega
      go_wp2
      go_ret2
      exact ⟨⟨g, rfl, hr.out.full⟩, hx.out⟩
theorem series_no (n ev : Int) (T J : Nat) (w : World) (n1 : -25567 ≤ n) (n2 : n ≤ 84370) (e1 : 1 ≤ ev) (e2 : ev ≤ 12) (t1 : 1 ≤ T) (t2 : T ≤ 600) (hJ : J < T) (hall : ∀ j, j < J → serE n ev j = 0) (hno : serE n ev J = 5) (he : Hid (Env w)) :
    Calls Tryd.prog 18 #[.func (.func 16) #[.agg #[.int .i64 (yOf n), .int .i64 (mOf n), .int .i64 (dOf n)]] #[], .int .i64 ev, .int .i64 T] w
      fun e w' => e = .returned (.tuple #[.slice none 0 0, .int .i64 5]) ∧ Ext w w' := by
  have hA : Hid (∀ (k : Nat), k < J → ∀ w : World, Hid (Env w) → Calls Tryd.prog 16 #[.agg #[.int .i64 (yOf n), .int .i64 (mOf n), .int .i64 (dOf n)], .int .i64 (ev * ((k : Int) + 1))] w fun e w' => e = .returned (.tuple #[.int .i64 (serA n ev k), .int .i64 0]) ∧ Ext w w') := fun k hk w he => by
    have b := mul_bd ev k e1 e2 (by omega)
    have := dadd_c n (ev * ((k : Int) + 1)) w n1 n2 (by unfold I64; omega) he
    rwa [show nE n (ev * ((k : Int) + 1)) = 0 from hall k hk] at this
  have hB : Hid (∀ w : World, Hid (Env w) → Calls Tryd.prog 16 #[.agg #[.int .i64 (yOf n), .int .i64 (mOf n), .int .i64 (dOf n)], .int .i64 (ev * ((J : Int) + 1))] w fun e w' => e = .returned (.tuple #[.int .i64 (serA n ev J), .int .i64 5]) ∧ Ext w w') := fun w he => by
    have b := mul_bd ev J e1 e2 (by omega)
    have := dadd_c n (ev * ((J : Int) + 1)) w n1 n2 (by unfold I64; omega) he
    rwa [show nE n (ev * ((J : Int) + 1)) = 5 from hno] at this
  clear hall hno
  obtain ⟨i0, hi, hz0, hz1, hz2⟩ := info_parts info_int
  generalize yOf n = y at *
  generalize mOf n = m at *
  generalize dOf n = d at *
  generalize serA n ev = F at *
  go_enter Tryd.func18, Tryd.ntmps18
  go_wp2_with (at_make; refine wpList_make_full w rfl (.tmp 12) (.tmp 12) 25 rfl w.heap.size 3 i0 (.int .i64 0) 1 Tryd.underlying25 hi hz0 hz1 .i64 .i64 T T T rfl rfl rfl rfl (by rw [hz2]; omega) (by unfold maxLen; omega) (Nat.le_refl _) ?_)
  intro w1 hown hg
  have hx := show Hid (Ext w w1) from Ext.grown hg
  have hr := show Hid (Arr w1 w.heap.size T (upTo F 0)) from Arr.made hown
  obtain ⟨g, hgg⟩ : ∃ g, w.heap.size = g := ⟨_, rfl⟩
  have lo : w.heap.size ≤ g := by omega
  rw [hgg] at hr ⊢
  clear hown hg hi hz0 hz1 hz2 hgg
  go_wp2_with fail
  go_loopw [16] (fun i wr => ∃ k : Nat, k ≤ J ∧ i = .int .i64 k ∧ Hid (Arr wr g T (upTo F k)) ∧ Hid (Ext w wr)) (fun i _ => T - (intOf i).toNat)
  case atStart => exact ⟨0, Nat.zero_le _, rfl, hr, hx⟩
  case round =>
    clear hr hx
    obtain ⟨k, hk, rfl, hr, hx⟩ := hrel
    have hkT : k < T := by omega
    obtain ⟨X, hX⟩ : ∃ X, ev * ((k : Int) + 1) = X := ⟨_, rfl⟩
    have b := mul_bd ev k e1 e2 (by omega)
    rw [hX] at b
    obtain ⟨x1, x2⟩ := b
    have he1 : Hid (Env wr) := he.out.ext hx.out
    by_cases hlt : k < J
    · have hA1 := hA.out k hlt
      rw [hX] at hA1
      replace hA1 := show Hid _ from hA1
      obtain ⟨V, hV⟩ : ∃ V, F k = V := ⟨_, rfl⟩
      rw [hV] at hA1
      replace hV := show Hid _ from hV
      go_wp2_with fail
      refine (hA1.out _ he1).mono ?_
      rintro e w2 ⟨rfl, hx1⟩
      replace hr : Hid (Arr w2 g T (upTo F k)) := hr.out.ext hx1
      replace hx : Hid (Ext w w2) := hx.out.trans hx1
      clear hx1 he1 hA1
      have c1 := hr.out.cell k hkT
      have c2 := hr.out.free k hkT
      go_wp2
      go_roundw
      case rel => exact ⟨k + 1, by omega, by go_num, hr.out.store V hV.out, hx.out.setCell lo _⟩
      case measure => simp [intOf]; omega
    · obtain rfl : k = J := by omega
      have hB1 := hB.out
      rw [hX] at hB1
      replace hB1 := show Hid _ from hB1
      go_wp2_with fail
      refine (hB1.out _ he1).mono ?_
      rintro e w2 ⟨rfl, hx1⟩
      replace hx : Hid (Ext w w2) := hx.out.trans hx1
      clear hx1 he1 hB1 hB hA
      go_wp2
      go_ret2
      exact ⟨rfl, hx.out⟩
end Go.Proofs.YtnpclkkjhbljbaaDoor
