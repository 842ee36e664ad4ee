/- Contracts that the proof of this law leans on: no statement of the seat is proved here. -/
import Derived.Test.YtaafagggjnemgaaGreatDoorQ9

namespace Go.Proofs.YtaafagggjnemgaaGreatDoor
open Go.RowKit Go.Lib
set_option linter.unusedVariables false
open L8 (Slc Slp)
theorem eql4_no (a b c d a' b' c' d' : Int) (h : ¬ (a = a' ∧ b = b' ∧ c = c' ∧ d = d')) (w : World) : (binOp .eql 23 (.agg #[.int .i64 a, .int .i64 b, .int .i64 c, .int .i64 d]) (.agg #[.int .i64 a', .int .i64 b', .int .i64 c', .int .i64 d'])).run Tryz.prog w = .ok (.bool false) w := by
  have h0 : ∀ (e : Nat) (x y : Int), (Op.equalIn (e + 1) 3 (.int .i64 x) (.int .i64 y)).run Tryz.prog w = .ok (decide (x = y)) w := fun e x y => by
    simp [Op.equalIn, run_underlying Tryz.underlying3]
    first | rfl | (by_cases hxy : x = y <;> simp [hxy])
  have h1 : ∀ (x y : Int), (Op.equalIn 9999 3 (.int .i64 x) (.int .i64 y)).run Tryz.prog w = .ok (decide (x = y)) w := fun x y => h0 9998 x y
  have h2 : Tryz.prog.underlying 23 = some (.array 4 3) := Tryz.underlying23
  have h3 : (sizeOf 3).run Tryz.prog w = .ok 1 w := by kernel_rfl
  have p0 : ∀ a b c d : Int, (part 3 #[.int .i64 a, .int .i64 b, .int .i64 c, .int .i64 d] 0).run Tryz.prog w = .ok (.int .i64 a) w := fun _ _ _ _ => by kernel_rfl
  have p1 : ∀ a b c d : Int, (part 3 #[.int .i64 a, .int .i64 b, .int .i64 c, .int .i64 d] 1).run Tryz.prog w = .ok (.int .i64 b) w := fun _ _ _ _ => by kernel_rfl
  have p2 : ∀ a b c d : Int, (part 3 #[.int .i64 a, .int .i64 b, .int .i64 c, .int .i64 d] 2).run Tryz.prog w = .ok (.int .i64 c) w := fun _ _ _ _ => by kernel_rfl
  have p3 : ∀ a b c d : Int, (part 3 #[.int .i64 a, .int .i64 b, .int .i64 c, .int .i64 d] 3).run Tryz.prog w = .ok (.int .i64 d) w := fun _ _ _ _ => by kernel_rfl
  simp only [binOp]
  have h4 : (Op.equalIn (9999 + 1) 23 (.agg #[.int .i64 a, .int .i64 b, .int .i64 c, .int .i64 d]) (.agg #[.int .i64 a', .int .i64 b', .int .i64 c', .int .i64 d'])).run Tryz.prog w = .ok false w := by
    rw [Op.equalIn]
    by_cases e0 : a = a'
    · by_cases e1 : b = b'
      · by_cases e2 : c = c'
        · have e3 : ¬ d = d' := fun e3 => h ⟨e0, e1, e2, e3⟩
          simp [run_underlying h2, h3, List.range', p0, p1, p2, p3, h1, e0, e1, e2, e3]
        · simp [run_underlying h2, h3, List.range', p0, p1, p2, h1, e0, e1, e2]
      · simp [run_underlying h2, h3, List.range', p0, p1, h1, e0, e1]
    · simp [run_underlying h2, h3, List.range', p0, h1, e0]
  simp [Op.equal, Op.maxDepth, h4]
theorem oneI_n (x y : Int) (h : ¬ x = y) (w : World) :
    Calls Tryz.prog 54 #[.int .i64 x, .int .i64 y] w fun e w' => e = .returned (.bool false) ∧ w' = w := by
  go_enter Tryz.func54, Tryz.ntmps54
  go_wp2
  go_ret
  exact ⟨L8.ret_bool (by simp [h]), rfl⟩
theorem first_diff {α : Type} {l m : List α} (hn : l.length = m.length) (h : l ≠ m) : ¬ ∀ k : Nat, k < l.length → l[k]? = m[k]? := fun hk => h (by
  apply List.ext_getElem?
  intro k
  by_cases hlt : k < l.length
  · exact hk k hlt
  · rw [List.getElem?_eq_none (by omega), List.getElem?_eq_none (by omega)])
theorem oneR_n (x y x' y' : Int) (h : ¬ (x = x' ∧ y = y')) (w : World) :
    Calls Tryz.prog 50 #[.agg #[.int .i64 x, .int .i64 y], .agg #[.int .i64 x', .int .i64 y']] w fun e w' => e = .returned (.bool false) ∧ Ext w w' := by
  by_cases hx : x = x'
  · have hy : ¬ y = y' := fun e => h ⟨hx, e⟩
    subst hx
    clear h
    go_enter Tryz.func50, Tryz.ntmps50
    go_wp2
    go_ret
    exact ⟨L8.ret_bool (by simp), ((Ext.refl w).alloc _ _).alloc _ _⟩
  · clear h
    go_enter Tryz.func50, Tryz.ntmps50
    go_wp2
    go_ret
    exact ⟨L8.ret_bool (by simp), ((Ext.refl w).alloc _ _).alloc _ _⟩
theorem oneT_n (x y x' y' : Int) (h : ¬ (x = x' ∧ y = y')) (w : World) :
    Calls Tryz.prog 52 #[.agg #[.int .i64 x, .int .i64 y], .agg #[.int .i64 x', .int .i64 y']] w fun e w' => e = .returned (.bool false) ∧ Ext w w' := by
  by_cases hx : x = x'
  · have hy : ¬ y = y' := fun e => h ⟨hx, e⟩
    subst hx
    clear h
    go_enter Tryz.func52, Tryz.ntmps52
    go_wp2
    go_ret
    exact ⟨L8.ret_bool (by simp), ((Ext.refl w).alloc _ _).alloc _ _⟩
  · clear h
    go_enter Tryz.func52, Tryz.ntmps52
    go_wp2
    go_ret
    exact ⟨L8.ret_bool (by simp), ((Ext.refl w).alloc _ _).alloc _ _⟩
theorem SameI_len (a : Option Addr) (n m c d : Nat) (x : Option Addr) (hn : ¬ n = m) (w : World) :
    Calls Tryz.prog 53 #[.slice x n d, .slice a m c, .func (.func 54) #[] #[]] w fun e w' => e = .returned (.bool false) ∧ w' = w := by
  have hni : ¬ (n : Int) = (m : Int) := by omega
  go_enter Tryz.func53, Tryz.ntmps53
  go_wp2
  go_ret
  exact ⟨rfl, rfl⟩
theorem SameI_ne (g o b off c d : Nat) (l m : List (Int)) (w : World) (hl : l.length ≤ 30000) (hlm : l.length = m.length) (hne : l ≠ m) (hg : ∀ (k : Nat) (x : Int), l[k]? = some x → w.cell? ⟨g, o + k, none⟩ = some (.int .i64 x)) (hc : ∀ (k : Nat) (x : Int), m[k]? = some x → w.cell? ⟨b, off + k, none⟩ = some (.int .i64 x)) :
    Calls Tryz.prog 53 #[.slice (some ⟨g, o, none⟩) l.length d, .slice (some ⟨b, off, none⟩) m.length c, .func (.func 54) #[] #[]] w fun e w' => e = .returned (.bool false) ∧ Ext w w' := by
  replace hg := show Hid _ from hg
  replace hc := show Hid _ from hc
  have hdf := show Hid _ from first_diff hlm hne
  clear hne
  rw [← hlm]
  obtain ⟨T, hT⟩ : ∃ n, l.length = n := ⟨_, rfl⟩
  have hM : Hid (m.length = T) := hlm.symm.trans hT
  clear hlm
  rw [hT] at hl ⊢
  replace hT := show Hid _ from hT
  go_enter Tryz.func53, Tryz.ntmps53
  go_wp2_with fail
  go_loopw [7] (fun i wr => ∃ k : Nat, k ≤ T ∧ i = .int .i64 k ∧ Hid (Ext w wr) ∧ Hid (∀ j : Nat, j < k → l[j]? = m[j]?)) (fun i _ => T - (RowKit.intOf i).toNat)
  case atStart => exact ⟨0, Nat.zero_le _, rfl, Ext.refl w, fun j hj => absurd hj (by omega)⟩
  case round =>
    obtain ⟨k, hk, rfl, hx, hal⟩ := hrel
    by_cases hlt : k < T
    · obtain ⟨x, hV⟩ : ∃ V, l[k]? = some V := ⟨_, List.getElem?_eq_getElem (by have := hT.out; omega)⟩
      obtain ⟨x2, hV2⟩ : ∃ V, m[k]? = some V := ⟨_, List.getElem?_eq_getElem (by have := hM.out; omega)⟩
      have k0 := hx.out.cell_of (hg.out k x hV)
      have k1 := hx.out.cell_of (hc.out k x2 hV2)
      have hlt' : (k : Int) < (T : Int) := by omega
      have j0 := Late.cell k0; have j1 := Late.cell k1
      have hNe1 : Nonempty (Late wr) := ⟨⟨_, Ext.refl _⟩⟩
      by_cases hxy : x = x2
      · subst hxy
        have hnx : Hid (∀ j : Nat, j < k + 1 → l[j]? = m[j]?) := fun j hj => by
          rcases (show j < k ∨ j = k by omega) with h | rfl
          · exact hal.out j h
          · rw [hV, hV2]
        clear hV hV2 hal
        go_wp2_with fail
        refine wp_region_late (by kernel_rfl) (by kernel_rfl) ?_
        repeat (go_big_quiet_step ((first
          | (go_at_call 54; exact late_same (L8.oneI_t _ _)))))
        refine wpQuiet_nil ?_
        intro W1 hw'
        replace hx : Hid (Ext w W1) := hx.out.trans (late_ext hw')
        clear hw' j0 j1 k0 k1
        go_wp2
        go_roundw
        case rel => exact ⟨k + 1, by omega, by go_num, hx, hnx⟩
        case measure => simp [RowKit.intOf]; omega
      · clear hV hV2 hal
        go_wp2_with fail
        refine wp_region_late (by kernel_rfl) (by kernel_rfl) ?_
        repeat (go_big_quiet_step ((first
          | (go_at_call 54; exact late_same (oneI_n _ _ hxy _)))))
        refine wpQuiet_nil ?_
        intro W1 hw'
        replace hx : Hid (Ext w W1) := hx.out.trans (late_ext hw')
        clear hw' j0 j1 k0 k1 hxy
        go_wp2
        go_ret
        exact ⟨rfl, hx.out⟩
    · obtain rfl : k = T := by omega
      exact absurd (fun j hj => hal.out j (by have := hT.out; omega)) hdf.out
theorem PlainI_n (u v : Value) (l m : List (Int)) (w : World) (hl : l.length ≤ 30000) (hne : l ≠ m) (hu : Slc w u l) (hv : Slc w v m) :
    Calls Tryz.prog 30 #[u, v] w fun e w' => e = .returned (.bool false) ∧ Ext w w' := by
  have hS : Hid (Calls Tryz.prog 53 #[u, v, .func (.func 54) #[] #[]] w fun e w' => e = .returned (.bool false) ∧ Ext w w') := by
    by_cases hlm : l.length = m.length
    · rcases hu with ⟨a, c, rfl, _, rfl⟩ | ⟨b, off, c, rfl, hc⟩
      · exact absurd (List.eq_nil_of_length_eq_zero hlm.symm).symm hne
      · rcases hv with ⟨a2, c2, rfl, _, rfl⟩ | ⟨b2, off2, c2, rfl, hc2⟩
        · exact absurd (List.eq_nil_of_length_eq_zero hlm) hne
        · exact SameI_ne b off b2 off2 c2 c l m w hl hlm hne hc hc2
    · obtain ⟨a1, c1, rfl⟩ := hu.len
      obtain ⟨a2, c2, rfl⟩ := hv.len
      exact (SameI_len _ _ _ _ _ _ hlm w).mono fun e w' h => ⟨h.1, by rw [h.2]; exact Ext.refl _⟩
  obtain ⟨a1, c1, rfl⟩ := hu.len
  obtain ⟨a2, c2, rfl⟩ := hv.len
  clear hu hv hl hne
  generalize l.length = n at *
  generalize m.length = n2 at *
  go_enter Tryz.func30, Tryz.ntmps30
  go_wp2_with fail
  refine Calls.mono hS.out ?_
  rintro e w1 ⟨rfl, hx⟩
  replace hx := show Hid _ from hx
  go_wp2
  go_ret
  exact ⟨rfl, hx.out⟩
theorem SameR_len (a : Option Addr) (n m c d : Nat) (x : Option Addr) (hn : ¬ n = m) (w : World) :
    Calls Tryz.prog 49 #[.slice x n d, .slice a m c, .func (.func 50) #[] #[]] w fun e w' => e = .returned (.bool false) ∧ w' = w := by
  have hni : ¬ (n : Int) = (m : Int) := by omega
  go_enter Tryz.func49, Tryz.ntmps49
  go_wp2
  go_ret
  exact ⟨rfl, rfl⟩
theorem SameR_ne (g o b off c d : Nat) (l m : List (Int × Int)) (w : World) (hl : l.length ≤ 30000) (hlm : l.length = m.length) (hne : l ≠ m) (hg : ∀ (k : Nat) (x y : Int), l[k]? = some (x, y) → w.cell? ⟨g, o + k * 2, none⟩ = some (.int .i64 x) ∧ w.cell? ⟨g, o + k * 2 + 1, none⟩ = some (.int .i64 y)) (hc : ∀ (k : Nat) (x y : Int), m[k]? = some (x, y) → w.cell? ⟨b, off + k * 2, none⟩ = some (.int .i64 x) ∧ w.cell? ⟨b, off + k * 2 + 1, none⟩ = some (.int .i64 y)) :
    Calls Tryz.prog 49 #[.slice (some ⟨g, o, none⟩) l.length d, .slice (some ⟨b, off, none⟩) m.length c, .func (.func 50) #[] #[]] w fun e w' => e = .returned (.bool false) ∧ Ext w w' := by
  replace hg := show Hid _ from hg
  replace hc := show Hid _ from hc
  have hdf := show Hid _ from first_diff hlm hne
  clear hne
  rw [← hlm]
  obtain ⟨T, hT⟩ : ∃ n, l.length = n := ⟨_, rfl⟩
  have hM : Hid (m.length = T) := hlm.symm.trans hT
  clear hlm
  rw [hT] at hl ⊢
  replace hT := show Hid _ from hT
  go_enter Tryz.func49, Tryz.ntmps49
  go_wp2_with fail
  go_loopw [7] (fun i wr => ∃ k : Nat, k ≤ T ∧ i = .int .i64 k ∧ Hid (Ext w wr) ∧ Hid (∀ j : Nat, j < k → l[j]? = m[j]?)) (fun i _ => T - (RowKit.intOf i).toNat)
  case atStart => exact ⟨0, Nat.zero_le _, rfl, Ext.refl w, fun j hj => absurd hj (by omega)⟩
  case round =>
    obtain ⟨k, hk, rfl, hx, hal⟩ := hrel
    by_cases hlt : k < T
    · obtain ⟨⟨x, y⟩, hV⟩ : ∃ V, l[k]? = some V := ⟨_, List.getElem?_eq_getElem (by have := hT.out; omega)⟩
      obtain ⟨⟨x2, y2⟩, hV2⟩ : ∃ V, m[k]? = some V := ⟨_, List.getElem?_eq_getElem (by have := hM.out; omega)⟩
      have k0 := hx.out.cell_of (hg.out k x y hV).1
      have k1 := hx.out.cell_of (hg.out k x y hV).2
      have k2 := hx.out.cell_of (hc.out k x2 y2 hV2).1
      have k3 := hx.out.cell_of (hc.out k x2 y2 hV2).2
      have hlt' : (k : Int) < (T : Int) := by omega
      have j0 := Late.cell k0; have j1 := Late.cell k1; have j2 := Late.cell k2; have j3 := Late.cell k3
      have hNe1 : Nonempty (Late wr) := ⟨⟨_, Ext.refl _⟩⟩
      by_cases hxy : x = x2 ∧ y = y2
      · obtain ⟨rfl, rfl⟩ := hxy
        have hnx : Hid (∀ j : Nat, j < k + 1 → l[j]? = m[j]?) := fun j hj => by
          rcases (show j < k ∨ j = k by omega) with h | rfl
          · exact hal.out j h
          · rw [hV, hV2]
        clear hV hV2 hal
        go_wp2_with fail
        refine wp_region_late (by kernel_rfl) (by kernel_rfl) ?_
        repeat (go_big_quiet_step ((first
          | (go_at_call 50; exact late_of (L8.oneR_t _ _ _)))))
        refine wpQuiet_nil ?_
        intro W1 hw'
        replace hx : Hid (Ext w W1) := hx.out.trans (late_ext hw')
        clear hw' j0 j1 j2 j3 k0 k1 k2 k3
        go_wp2
        go_roundw
        case rel => exact ⟨k + 1, by omega, by go_num, hx, hnx⟩
        case measure => simp [RowKit.intOf]; omega
      · clear hV hV2 hal
        go_wp2_with fail
        refine wp_region_late (by kernel_rfl) (by kernel_rfl) ?_
        repeat (go_big_quiet_step ((first
          | (go_at_call 50; exact late_of (oneR_n _ _ _ _ hxy _)))))
        refine wpQuiet_nil ?_
        intro W1 hw'
        replace hx : Hid (Ext w W1) := hx.out.trans (late_ext hw')
        clear hw' j0 j1 j2 j3 k0 k1 k2 k3 hxy
        go_wp2
        go_ret
        exact ⟨rfl, hx.out⟩
    · obtain rfl : k = T := by omega
      exact absurd (fun j hj => hal.out j (by have := hT.out; omega)) hdf.out
theorem PlainR_n (u v : Value) (l m : List (Int × Int)) (w : World) (hl : l.length ≤ 30000) (hne : l ≠ m) (hu : Slp w u l) (hv : Slp w v m) :
    Calls Tryz.prog 28 #[u, v] w fun e w' => e = .returned (.bool false) ∧ Ext w w' := by
  have hS : Hid (Calls Tryz.prog 49 #[u, v, .func (.func 50) #[] #[]] w fun e w' => e = .returned (.bool false) ∧ Ext w w') := by
    by_cases hlm : l.length = m.length
    · rcases hu with ⟨a, c, rfl, _, rfl⟩ | ⟨b, off, c, rfl, hc⟩
      · exact absurd (List.eq_nil_of_length_eq_zero hlm.symm).symm hne
      · rcases hv with ⟨a2, c2, rfl, _, rfl⟩ | ⟨b2, off2, c2, rfl, hc2⟩
        · exact absurd (List.eq_nil_of_length_eq_zero hlm) hne
        · exact SameR_ne b off b2 off2 c2 c l m w hl hlm hne hc hc2
    · obtain ⟨a1, c1, rfl⟩ := hu.len
      obtain ⟨a2, c2, rfl⟩ := hv.len
      exact (SameR_len _ _ _ _ _ _ hlm w).mono fun e w' h => ⟨h.1, by rw [h.2]; exact Ext.refl _⟩
  obtain ⟨a1, c1, rfl⟩ := hu.len
  obtain ⟨a2, c2, rfl⟩ := hv.len
  clear hu hv hl hne
  generalize l.length = n at *
  generalize m.length = n2 at *
  go_enter Tryz.func28, Tryz.ntmps28
  go_wp2_with fail
  refine Calls.mono hS.out ?_
  rintro e w1 ⟨rfl, hx⟩
  replace hx := show Hid _ from hx
  go_wp2
  go_ret
  exact ⟨rfl, hx.out⟩
theorem SameT_len (a : Option Addr) (n m c d : Nat) (x : Option Addr) (hn : ¬ n = m) (w : World) :
    Calls Tryz.prog 51 #[.slice x n d, .slice a m c, .func (.func 52) #[] #[]] w fun e w' => e = .returned (.bool false) ∧ w' = w := by
  have hni : ¬ (n : Int) = (m : Int) := by omega
  go_enter Tryz.func51, Tryz.ntmps51
  go_wp2
  go_ret
  exact ⟨rfl, rfl⟩
theorem SameT_ne (g o b off c d : Nat) (l m : List (Int × Int)) (w : World) (hl : l.length ≤ 30000) (hlm : l.length = m.length) (hne : l ≠ m) (hg : ∀ (k : Nat) (x y : Int), l[k]? = some (x, y) → w.cell? ⟨g, o + k * 2, none⟩ = some (.int .i64 x) ∧ w.cell? ⟨g, o + k * 2 + 1, none⟩ = some (.int .i64 y)) (hc : ∀ (k : Nat) (x y : Int), m[k]? = some (x, y) → w.cell? ⟨b, off + k * 2, none⟩ = some (.int .i64 x) ∧ w.cell? ⟨b, off + k * 2 + 1, none⟩ = some (.int .i64 y)) :
    Calls Tryz.prog 51 #[.slice (some ⟨g, o, none⟩) l.length d, .slice (some ⟨b, off, none⟩) m.length c, .func (.func 52) #[] #[]] w fun e w' => e = .returned (.bool false) ∧ Ext w w' := by
  replace hg := show Hid _ from hg
  replace hc := show Hid _ from hc
  have hdf := show Hid _ from first_diff hlm hne
  clear hne
  rw [← hlm]
  obtain ⟨T, hT⟩ : ∃ n, l.length = n := ⟨_, rfl⟩
  have hM : Hid (m.length = T) := hlm.symm.trans hT
  clear hlm
  rw [hT] at hl ⊢
  replace hT := show Hid _ from hT
  go_enter Tryz.func51, Tryz.ntmps51
  go_wp2_with fail
  go_loopw [7] (fun i wr => ∃ k : Nat, k ≤ T ∧ i = .int .i64 k ∧ Hid (Ext w wr) ∧ Hid (∀ j : Nat, j < k → l[j]? = m[j]?)) (fun i _ => T - (RowKit.intOf i).toNat)
  case atStart => exact ⟨0, Nat.zero_le _, rfl, Ext.refl w, fun j hj => absurd hj (by omega)⟩
  case round =>
    obtain ⟨k, hk, rfl, hx, hal⟩ := hrel
    by_cases hlt : k < T
    · obtain ⟨⟨x, y⟩, hV⟩ : ∃ V, l[k]? = some V := ⟨_, List.getElem?_eq_getElem (by have := hT.out; omega)⟩
      obtain ⟨⟨x2, y2⟩, hV2⟩ : ∃ V, m[k]? = some V := ⟨_, List.getElem?_eq_getElem (by have := hM.out; omega)⟩
      have k0 := hx.out.cell_of (hg.out k x y hV).1
      have k1 := hx.out.cell_of (hg.out k x y hV).2
      have k2 := hx.out.cell_of (hc.out k x2 y2 hV2).1
      have k3 := hx.out.cell_of (hc.out k x2 y2 hV2).2
      have hlt' : (k : Int) < (T : Int) := by omega
      have j0 := Late.cell k0; have j1 := Late.cell k1; have j2 := Late.cell k2; have j3 := Late.cell k3
      have hNe1 : Nonempty (Late wr) := ⟨⟨_, Ext.refl _⟩⟩
      by_cases hxy : x = x2 ∧ y = y2
      · obtain ⟨rfl, rfl⟩ := hxy
        have hnx : Hid (∀ j : Nat, j < k + 1 → l[j]? = m[j]?) := fun j hj => by
          rcases (show j < k ∨ j = k by omega) with h | rfl
          · exact hal.out j h
          · rw [hV, hV2]
        clear hV hV2 hal
        go_wp2_with fail
        refine wp_region_late (by kernel_rfl) (by kernel_rfl) ?_
        repeat (go_big_quiet_step ((first
          | (go_at_call 52; exact late_of (L8.oneT_t _ _ _)))))
        refine wpQuiet_nil ?_
        intro W1 hw'
        replace hx : Hid (Ext w W1) := hx.out.trans (late_ext hw')
        clear hw' j0 j1 j2 j3 k0 k1 k2 k3
        go_wp2
        go_roundw
        case rel => exact ⟨k + 1, by omega, by go_num, hx, hnx⟩
        case measure => simp [RowKit.intOf]; omega
      · clear hV hV2 hal
        go_wp2_with fail
        refine wp_region_late (by kernel_rfl) (by kernel_rfl) ?_
        repeat (go_big_quiet_step ((first
          | (go_at_call 52; exact late_of (oneT_n _ _ _ _ hxy _)))))
        refine wpQuiet_nil ?_
        intro W1 hw'
        replace hx : Hid (Ext w W1) := hx.out.trans (late_ext hw')
        clear hw' j0 j1 j2 j3 k0 k1 k2 k3 hxy
        go_wp2
        go_ret
        exact ⟨rfl, hx.out⟩
    · obtain rfl : k = T := by omega
      exact absurd (fun j hj => hal.out j (by have := hT.out; omega)) hdf.out
theorem PlainT_n (u v : Value) (l m : List (Int × Int)) (w : World) (hl : l.length ≤ 30000) (hne : l ≠ m) (hu : Slp w u l) (hv : Slp w v m) :
    Calls Tryz.prog 29 #[u, v] w fun e w' => e = .returned (.bool false) ∧ Ext w w' := by
  have hS : Hid (Calls Tryz.prog 51 #[u, v, .func (.func 52) #[] #[]] w fun e w' => e = .returned (.bool false) ∧ Ext w w') := by
    by_cases hlm : l.length = m.length
    · rcases hu with ⟨a, c, rfl, _, rfl⟩ | ⟨b, off, c, rfl, hc⟩
      · exact absurd (List.eq_nil_of_length_eq_zero hlm.symm).symm hne
      · rcases hv with ⟨a2, c2, rfl, _, rfl⟩ | ⟨b2, off2, c2, rfl, hc2⟩
        · exact absurd (List.eq_nil_of_length_eq_zero hlm) hne
        · exact SameT_ne b off b2 off2 c2 c l m w hl hlm hne hc hc2
    · obtain ⟨a1, c1, rfl⟩ := hu.len
      obtain ⟨a2, c2, rfl⟩ := hv.len
      exact (SameT_len _ _ _ _ _ _ hlm w).mono fun e w' h => ⟨h.1, by rw [h.2]; exact Ext.refl _⟩
  obtain ⟨a1, c1, rfl⟩ := hu.len
  obtain ⟨a2, c2, rfl⟩ := hv.len
  clear hu hv hl hne
  generalize l.length = n at *
  generalize m.length = n2 at *
  go_enter Tryz.func29, Tryz.ntmps29
  go_wp2_with fail
  refine Calls.mono hS.out ?_
  rintro e w1 ⟨rfl, hx⟩
  replace hx := show Hid _ from hx
  go_wp2
  go_ret
  exact ⟨rfl, hx.out⟩
end Go.Proofs.YtaafagggjnemgaaGreatDoor
