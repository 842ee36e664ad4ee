/- What moved, rising and between of package dues do, as contracts: no statement of the seat is proved here. -/
import Derived.Test.YtmlkccmkdgfalaaGreatDoorDu0
import Derived.Test.YtmlkccmkdgfalaaGreatDoorDu1
namespace Go.Proofs.YtmlkccmkdgfalaaGreatDoor
open Go.RowKit
open L3 (Env)
open L4 (Arr upTo info_int)
open L5 (Cld)
set_option linter.unusedVariables false

set_option maxHeartbeats 1000000 in
theorem moved_ok (g0 c0 q T : Nat) (f : Nat → Int) (how : Int) (l : List Int) (w : World) (t1 : 1 ≤ T) (t2 : T ≤ 600) (ha : Hid (Arr w g0 T f)) (hc : Hid (Cld w q l)) (he : Hid (Env w)) (hall : ∀ j, j < T → L5.rlE l (f j) how = 0) :
    Calls Tryz.prog 47 #[.slice (some ⟨g0, 0, none⟩) T c0, .int .i64 how, .func (.func 48) #[.pointer (some ⟨q, 0, none⟩)] #[]] w
      fun e w' => (∃ g, e = .returned (.slice (some ⟨g, 0, none⟩) T T) ∧ w.heap.size ≤ g ∧ Arr w' g T (fun j => L5.rlA l (f j) how)) ∧ Ext w w' := by
  have hA : Hid (∀ (k : Nat), k < T → ∀ w : World, Hid (Cld w q l) → Hid (Env w) → Calls Tryz.prog 48 #[.pointer (some ⟨q, 0, none⟩), .int .i64 (f k), .int .i64 how] w fun e w' => e = .returned (.tuple #[.int .i64 (L5.rlA l (f k) how), .int .i64 0]) ∧ Ext w w') := fun k hk w hc he => by
    have := L5.Roll_c q l (f k) how w hc he
    rwa [hall k hk] at this
  clear hall
  obtain ⟨i0, hi, hz0, hz1, hz2⟩ := info_parts info_int
  obtain ⟨F, hF⟩ : ∃ F : Nat → Int, (fun j => L5.rlA l (f j) how) = F := ⟨_, rfl⟩
  rw [hF]
  replace hF : Hid (∀ j, L5.rlA l (f j) how = F j) := fun j => congrFun hF j
  go_enter Tryz.func47, Tryz.ntmps47
  go_wp2_with (at_make; refine wpList_make_full w rfl (.tmp 11) (.tmp 11) 25 rfl w.heap.size 3 i0 (.int .i64 0) 1 Tryz.underlying25 hi hz0 hz1 .i64 .i64 T T T rfl rfl rfl rfl (by rw [hz2]; omega) (by unfold maxLen; omega) (Nat.le_refl _) ?_)
  intro w1 hown hg
  have hx := show Hid (Ext w w1) from Ext.grown hg
  have hr := show Hid (Arr w1 w.heap.size T (upTo F 0)) from Arr.made hown
  obtain ⟨g, hgg⟩ : ∃ g, w.heap.size = g := ⟨_, rfl⟩
  have lo : w.heap.size ≤ g := by omega
  rw [hgg] at hr ⊢
  clear hown hg hi hz0 hz1 hz2 hgg
  go_wp2_with fail
  go_loopw [15] (fun i wr => ∃ k : Nat, k ≤ T ∧ i = .int .i64 k ∧ Hid (Arr wr g T (upTo F k)) ∧ Hid (Ext w wr)) (fun i _ => T - (intOf i).toNat)
  case atStart => exact ⟨0, Nat.zero_le _, rfl, hr, hx⟩
  case round =>
    clear hr hx
    obtain ⟨k, hk, rfl, hr, hx⟩ := hrel
    by_cases hlt : k < T
    · have hA1 := hA.out k hlt
      have hd := hx.out.cell_of (ha.out.cell k hlt)
      obtain ⟨X, hX⟩ : ∃ X, f k = X := ⟨_, rfl⟩
      obtain ⟨V, hV⟩ : ∃ V, L5.rlA l (f k) how = V := ⟨_, rfl⟩
      rw [hV, hX] at hA1
      rw [hX] at hd
      replace hV : Hid (F k = V) := by show _ = _; rw [← hF.out k]; exact hV
      replace hA1 := show Hid _ from hA1
      have he1 : Hid (Env wr) := he.out.ext hx.out
      have hc1 : Hid (Cld wr q l) := hc.out.ext hx.out
      clear hX
      go_wp2_with fail
      refine (hA1.out _ hc1 he1).mono ?_
      rintro e w2 ⟨rfl, hx1⟩
      replace hr : Hid (Arr w2 g T (upTo F k)) := hr.out.ext hx1
      replace hx : Hid (Ext w w2) := hx.out.trans hx1
      clear hx1 he1 hc1 hA1 hd
      have c1 := hr.out.cell k hlt
      have c2 := hr.out.free k hlt
      go_wp2_with fail
      refine (sureI_ok _ _).mono ?_
      rintro e w3 ⟨rfl, rfl⟩
      go_wp2
      go_roundw
      case rel => exact ⟨k + 1, by omega, by go_num, hr.out.store V hV.out, hx.out.setCell lo _⟩
      case measure => simp [intOf]; omega
    · obtain rfl : k = T := by omega
      go_wp2
      go_ret
      exact ⟨⟨g, rfl, lo, hr.out.full⟩, hx.out⟩
set_option maxHeartbeats 1000000 in
theorem moved_no (g0 c0 q T J : Nat) (f : Nat → Int) (how : Int) (l : List Int) (w : World) (t1 : 1 ≤ T) (t2 : T ≤ 600) (ha : Hid (Arr w g0 T f)) (hc : Hid (Cld w q l)) (he : Hid (Env w)) (hJ : J < T) (hall : ∀ j, j < J → L5.rlE l (f j) how = 0) (hno : L5.rlE l (f J) how = 5) :
    Calls Tryz.prog 47 #[.slice (some ⟨g0, 0, none⟩) T c0, .int .i64 how, .func (.func 48) #[.pointer (some ⟨q, 0, none⟩)] #[]] w
      fun e w' => e = .panicked [{ v := .iface 32 (.int .i64 5), recovered := false }] ∧ Ext w w' := by
  have hA : Hid (∀ (k : Nat), k < J → ∀ w : World, Hid (Cld w q l) → Hid (Env w) → Calls Tryz.prog 48 #[.pointer (some ⟨q, 0, none⟩), .int .i64 (f k), .int .i64 how] w fun e w' => e = .returned (.tuple #[.int .i64 (L5.rlA l (f k) how), .int .i64 0]) ∧ Ext w w') := fun k hk w hc he => by
    have := L5.Roll_c q l (f k) how w hc he
    rwa [hall k hk] at this
  have hB : Hid (∀ w : World, Hid (Cld w q l) → Hid (Env w) → Calls Tryz.prog 48 #[.pointer (some ⟨q, 0, none⟩), .int .i64 (f J), .int .i64 how] w fun e w' => e = .returned (.tuple #[.int .i64 (L5.rlA l (f J) how), .int .i64 5]) ∧ Ext w w') := fun w hc he => by
    have := L5.Roll_c q l (f J) how w hc he
    rwa [hno] at this
  clear hall hno
  obtain ⟨i0, hi, hz0, hz1, hz2⟩ := info_parts info_int
  obtain ⟨F, hF⟩ : ∃ F : Nat → Int, (fun j => L5.rlA l (f j) how) = F := ⟨_, rfl⟩
  replace hF : Hid (∀ j, L5.rlA l (f j) how = F j) := fun j => congrFun hF j
  go_enter Tryz.func47, Tryz.ntmps47
  go_wp2_with (at_make; refine wpList_make_full w rfl (.tmp 11) (.tmp 11) 25 rfl w.heap.size 3 i0 (.int .i64 0) 1 Tryz.underlying25 hi hz0 hz1 .i64 .i64 T T T rfl rfl rfl rfl (by rw [hz2]; omega) (by unfold maxLen; omega) (Nat.le_refl _) ?_)
  intro w1 hown hg
  have hx := show Hid (Ext w w1) from Ext.grown hg
  have hr := show Hid (Arr w1 w.heap.size T (upTo F 0)) from Arr.made hown
  obtain ⟨g, hgg⟩ : ∃ g, w.heap.size = g := ⟨_, rfl⟩
  have lo : w.heap.size ≤ g := by omega
  rw [hgg] at hr ⊢
  clear hown hg hi hz0 hz1 hz2 hgg
  go_wp2_with fail
  go_loopw [15] (fun i wr => ∃ k : Nat, k ≤ J ∧ i = .int .i64 k ∧ Hid (Arr wr g T (upTo F k)) ∧ Hid (Ext w wr)) (fun i _ => T - (intOf i).toNat)
  case atStart => exact ⟨0, Nat.zero_le _, rfl, hr, hx⟩
  case round =>
    clear hr hx
    obtain ⟨k, hk, rfl, hr, hx⟩ := hrel
    have hkT : k < T := by omega
    have hd := hx.out.cell_of (ha.out.cell k hkT)
    by_cases hlt : k < J
    · have hA1 := hA.out k hlt
      obtain ⟨X, hX⟩ : ∃ X, f k = X := ⟨_, rfl⟩
      obtain ⟨V, hV⟩ : ∃ V, L5.rlA l (f k) how = V := ⟨_, rfl⟩
      rw [hV, hX] at hA1
      rw [hX] at hd
      replace hV : Hid (F k = V) := by show _ = _; rw [← hF.out k]; exact hV
      replace hA1 := show Hid _ from hA1
      have he1 : Hid (Env wr) := he.out.ext hx.out
      have hc1 : Hid (Cld wr q l) := hc.out.ext hx.out
      clear hX
      go_wp2_with fail
      refine (hA1.out _ hc1 he1).mono ?_
      rintro e w2 ⟨rfl, hx1⟩
      replace hr : Hid (Arr w2 g T (upTo F k)) := hr.out.ext hx1
      replace hx : Hid (Ext w w2) := hx.out.trans hx1
      clear hx1 he1 hc1 hA1 hd
      have c1 := hr.out.cell k hkT
      have c2 := hr.out.free k hkT
      go_wp2_with fail
      refine (sureI_ok _ _).mono ?_
      rintro e w3 ⟨rfl, rfl⟩
      go_wp2
      go_roundw
      case rel => exact ⟨k + 1, by omega, by go_num, hr.out.store V hV.out, hx.out.setCell lo _⟩
      case measure => simp [intOf]; omega
    · obtain rfl : k = J := by omega
      have hB1 := hB.out
      obtain ⟨X, hX⟩ : ∃ X, f k = X := ⟨_, rfl⟩
      rw [hX] at hB1 hd
      obtain ⟨V, hV⟩ : ∃ V, L5.rlA l X how = V := ⟨_, rfl⟩
      rw [hV] at hB1
      replace hB1 := show Hid _ from hB1
      have he1 : Hid (Env wr) := he.out.ext hx.out
      have hc1 : Hid (Cld wr q l) := hc.out.ext hx.out
      clear hX hV hF hB hA
      go_wp2_with fail
      refine (hB1.out _ hc1 he1).mono ?_
      rintro e w2 ⟨rfl, hx1⟩
      replace hx : Hid (Ext w w2) := hx.out.trans hx1
      clear hx1 he1 hc1 hB1 hd
      go_wp2_with fail
      refine (sureI_no _ _ rfl _).mono ?_
      rintro e w3 ⟨rfl, rfl⟩
      go_wp2
      exact ⟨rfl, rfl, hx.out⟩
theorem rising_ok (s : Int) (g0 c0 T : Nat) (f : Nat → Int) (w : World) (ha : Hid (Arr w g0 T f)) (t2 : T ≤ 600) (hall : ∀ j, j < T → pv s f j < f j) :
    Calls Tryz.prog 49 #[.int .i64 s, .slice (some ⟨g0, 0, none⟩) T c0] w fun e w' => e = .returned (.bool true) ∧ w' = w := by
  replace hall := show Hid _ from hall
  go_enter Tryz.func49, Tryz.ntmps49
  go_wp2_with fail
  go_loop [5, 11] (fun u i => ∃ k : Nat, k ≤ T ∧ i = .int .i64 k ∧ u = .int .i64 (pv s f k)) (fun _ i => T - (RowKit.intOf i).toNat)
  case atStart => exact ⟨0, Nat.zero_le _, rfl, rfl⟩
  case round =>
    obtain ⟨k, hk, rfl, rfl⟩ := hrel
    by_cases hlt : k < T
    · have hd := ha.out.cell k hlt
      have hl := hall.out k hlt
      obtain ⟨X, hX⟩ : ∃ X, f k = X := ⟨_, rfl⟩
      obtain ⟨Y, hY⟩ : ∃ Y, pv s f k = Y := ⟨_, rfl⟩
      rw [hX] at hd hl
      rw [hY] at hl ⊢
      have hX' : Hid (pv s f (k + 1) = X) := hX
      clear hX hY
      go_wp2
      go_round
      case rel => exact ⟨k + 1, by omega, by go_num, by rw [hX'.out]⟩
      case measure => simp [RowKit.intOf]; omega
    · obtain rfl : k = T := by omega
      go_wp2
      go_ret
      exact ⟨rfl, rfl⟩
theorem rising_no (s : Int) (g0 c0 T J : Nat) (f : Nat → Int) (w : World) (ha : Hid (Arr w g0 T f)) (t2 : T ≤ 600) (hJ : J < T) (hall : ∀ j, j < J → pv s f j < f j) (hno : ¬ pv s f J < f J) :
    Calls Tryz.prog 49 #[.int .i64 s, .slice (some ⟨g0, 0, none⟩) T c0] w fun e w' => e = .returned (.bool false) ∧ w' = w := by
  replace hall := show Hid _ from hall
  replace hno := show Hid _ from hno
  go_enter Tryz.func49, Tryz.ntmps49
  go_wp2_with fail
  go_loop [5, 11] (fun u i => ∃ k : Nat, k ≤ J ∧ i = .int .i64 k ∧ u = .int .i64 (pv s f k)) (fun _ i => T - (RowKit.intOf i).toNat)
  case atStart => exact ⟨0, Nat.zero_le _, rfl, rfl⟩
  case round =>
    obtain ⟨k, hk, rfl, rfl⟩ := hrel
    have hkT : k < T := by omega
    have hd := ha.out.cell k hkT
    by_cases hlt : k < J
    · have hl := hall.out k hlt
      obtain ⟨X, hX⟩ : ∃ X, f k = X := ⟨_, rfl⟩
      obtain ⟨Y, hY⟩ : ∃ Y, pv s f k = Y := ⟨_, rfl⟩
      rw [hX] at hd hl
      rw [hY] at hl ⊢
      have hX' : Hid (pv s f (k + 1) = X) := hX
      clear hX hY
      go_wp2
      go_round
      case rel => exact ⟨k + 1, by omega, by go_num, by rw [hX'.out]⟩
      case measure => simp [RowKit.intOf]; omega
    · obtain rfl : k = J := by omega
      have hl := hno.out
      obtain ⟨X, hX⟩ : ∃ X, f k = X := ⟨_, rfl⟩
      obtain ⟨Y, hY⟩ : ∃ Y, pv s f k = Y := ⟨_, rfl⟩
      rw [hX] at hd hl
      rw [hY] at hl ⊢
      clear hX hY
      go_wp2
      go_ret
      exact ⟨rfl, rfl⟩
theorem info_i64 : (Tryz.prog.info? 2).map (fun i => (i.zero, i.size, i.bytes)) = some (some (.int .i64 0), 1, 8) := by kernel_rfl
set_option maxHeartbeats 1000000 in
theorem between_ok (c s : Int) (g0 c0 T : Nat) (f : Nat → Int) (w : World) (t1 : 1 ≤ T) (t2 : T ≤ 600) (k1 : 1 ≤ c) (k2 : c ≤ 3) (hs : -25567 ≤ s ∧ s ≤ 84370) (hf : ∀ j, j < T → -25567 ≤ f j ∧ f j ≤ 84370) (ha : Hid (Arr w g0 T f)) (he : Hid (Env w)) :
    Calls Tryz.prog 26 #[.int .i64 c, .int .i64 s, .slice (some ⟨g0, 0, none⟩) T c0] w
      fun e w' => (∃ g, e = .returned (.slice (some ⟨g, 0, none⟩) T T) ∧ w.heap.size ≤ g ∧ Arr w' g T (paF c s f)) ∧ Ext w w' := by
  have hA : Hid (∀ (k : Nat), k < T → ∀ w : World, Hid (Env w) → Calls Tryz.prog 55 #[.int .i64 c, .int .i64 (pv s f k), .int .i64 (f k)] w fun e w' => e = .returned (.tuple #[.int .i64 (paF c s f k), .int .i64 0]) ∧ Ext w w') := fun k hk w he => by
    have hp : -25567 ≤ pv s f k ∧ pv s f k ≤ 84370 := by
      cases k with
      | zero => exact hs
      | succ k => exact hf k (by omega)
    exact L6.Between_ok c _ _ w k1 k2 hp (hf k hk) he
  clear hs hf
  obtain ⟨i0, hi, hz0, hz1, hz2⟩ := info_parts info_i64
  obtain ⟨F, hF⟩ : ∃ F : Nat → Int, paF c s f = F := ⟨_, rfl⟩
  rw [hF] at hA ⊢
  clear hF
  go_enter Tryz.func26, Tryz.ntmps26
  go_wp2_with (at_make; refine wpList_make_full w rfl (.tmp 12) (.tmp 12) 35 rfl w.heap.size 2 i0 (.int .i64 0) 1 Tryz.underlying35 hi hz0 hz1 .i64 .i64 T T T rfl rfl rfl rfl (by rw [hz2]; omega) (by unfold maxLen; omega) (Nat.le_refl _) ?_)
  intro w1 hown hg
  have hx := show Hid (Ext w w1) from Ext.grown hg
  have hr := show Hid (Arr w1 w.heap.size T (upTo F 0)) from Arr.made hown
  obtain ⟨g, hgg⟩ : ∃ g, w.heap.size = g := ⟨_, rfl⟩
  have lo : w.heap.size ≤ g := by omega
  rw [hgg] at hr ⊢
  clear hown hg hi hz0 hz1 hz2 hgg
  go_wp2_with fail
  go_loopw [8, 17] (fun u i wr => ∃ k : Nat, k ≤ T ∧ i = .int .i64 k ∧ u = .int .i64 (pv s f k) ∧ Hid (Arr wr g T (upTo F k)) ∧ Hid (Ext w wr)) (fun _ i _ => T - (intOf i).toNat)
  case atStart => exact ⟨0, Nat.zero_le _, rfl, rfl, hr, hx⟩
  case round =>
    clear hr hx
    obtain ⟨k, hk, rfl, rfl, hr, hx⟩ := hrel
    by_cases hlt : k < T
    · have hA1 := hA.out k hlt
      have hd := hx.out.cell_of (ha.out.cell k hlt)
      obtain ⟨X, hX⟩ : ∃ X, f k = X := ⟨_, rfl⟩
      obtain ⟨Y, hY⟩ : ∃ Y, pv s f k = Y := ⟨_, rfl⟩
      obtain ⟨V, hV⟩ : ∃ V, F k = V := ⟨_, rfl⟩
      rw [hV, hX, hY] at hA1
      rw [hX] at hd
      rw [hY]
      have hX' : Hid (pv s f (k + 1) = X) := hX
      replace hV := show Hid _ from hV
      replace hA1 := show Hid _ from hA1
      have he1 : Hid (Env wr) := he.out.ext hx.out
      clear hX hY
      go_wp2_with fail
      refine (hA1.out _ he1).mono ?_
      rintro e w2 ⟨rfl, hx1⟩
      replace hr : Hid (Arr w2 g T (upTo F k)) := hr.out.ext hx1
      replace hx : Hid (Ext w w2) := hx.out.trans hx1
      clear hx1 he1 hA1 hd
      have c1 := hr.out.cell k hlt
      have c2 := hr.out.free k hlt
      go_wp2_with fail
      refine (sureP_ok _ _).mono ?_
      rintro e w3 ⟨rfl, rfl⟩
      go_wp2
      go_roundw
      case rel => exact ⟨k + 1, by omega, by go_num, by rw [hX'.out], hr.out.store V hV.out, hx.out.setCell lo _⟩
      case measure => simp [intOf]; omega
    · obtain rfl : k = T := by omega
      go_wp2
      go_ret
      exact ⟨⟨g, rfl, lo, hr.out.full⟩, hx.out⟩
end Go.Proofs.YtmlkccmkdgfalaaGreatDoor
