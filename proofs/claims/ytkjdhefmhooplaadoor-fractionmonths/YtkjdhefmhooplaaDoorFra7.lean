/- The document's own Between of layer 6, as a contract: no statement of the seat is proved here. -/
import Derived.Test.YtkjdhefmhooplaaDoorFra6
namespace Go.Proofs.YtkjdhefmhooplaaDoor
open Go.RowKit
set_option linter.unusedVariables false

theorem rBetween_no (c f t : Int) (w : World) (h : ¬ (1 ≤ c ∧ c ≤ 3)) :
    Calls Tryd.prog 11 #[.int .i64 c, .int .i64 f, .int .i64 t] w fun e w' => e = .returned (.tuple #[.int .i64 0, .int .i64 1]) ∧ Ext w w' := by
  by_cases h1 : c < 1
  · go_enter Tryd.func11, Tryd.ntmps11
    go_wp2
    go_ret2
    exact ⟨rfl, Ext.refl _⟩
  · have h3 : 3 < c := by omega
    clear h
    go_enter Tryd.func11, Tryd.ntmps11
    go_wp2
    go_ret2
    exact ⟨rfl, Ext.refl _⟩
theorem rBetween_day (c f t : Int) (w : World) (k1 : 1 ≤ c) (k2 : c ≤ 3) (h : ¬ ((-25567 ≤ f ∧ f ≤ 84370) ∧ (-25567 ≤ t ∧ t ≤ 84370))) :
    Calls Tryd.prog 11 #[.int .i64 c, .int .i64 f, .int .i64 t] w fun e w' => e = .returned (.tuple #[.int .i64 0, .int .i64 5]) ∧ Ext w w' := by
  have c1 : ¬ c < 1 := by omega
  have c3 : ¬ 3 < c := by omega
  by_cases hf : -25567 ≤ f ∧ f ≤ 84370
  · have ht : Hid (t < -25567 ∨ 84370 < t) := by show t < -25567 ∨ 84370 < t; omega
    replace hf := show Hid _ from hf
    clear h
    go_enter Tryd.func11, Tryd.ntmps11
    go_wp2_with fail
    refine (Is_t _ _ hf.out.1 hf.out.2).mono ?_
    rintro e w1 ⟨rfl, rfl⟩
    go_wp2_with fail
    refine (Is_f _ _ ht.out).mono ?_
    rintro e w1 ⟨rfl, rfl⟩
    go_wp2
    go_ret2
    exact ⟨rfl, Ext.refl _⟩
  · have hf : Hid (f < -25567 ∨ 84370 < f) := by show f < -25567 ∨ 84370 < f; omega
    clear h
    go_enter Tryd.func11, Tryd.ntmps11
    go_wp2_with fail
    refine (Is_f _ _ hf.out).mono ?_
    rintro e w1 ⟨rfl, rfl⟩
    go_wp2
    go_ret2
    exact ⟨rfl, Ext.refl _⟩
theorem rBetween_1 (f t : Int) (w : World) (f1 : -25567 ≤ f) (f2 : f ≤ 84370) (t1 : -25567 ≤ t) (t2 : t ≤ 84370) :
    Calls Tryd.prog 11 #[.int .i64 1, .int .i64 f, .int .i64 t] w fun e w' => e = .returned (.tuple #[.int .i64 (plT t - plT f), .int .i64 0]) ∧ Ext w w' := by
  have hf := show Hid (-25567 ≤ f ∧ f ≤ 84370) from ⟨f1, f2⟩
  have ht := show Hid (-25567 ≤ t ∧ t ≤ 84370) from ⟨t1, t2⟩
  have pf := plT_bd f1 f2
  have pt := plT_bd t1 t2
  obtain ⟨x, hX⟩ : ∃ x, plT t = x := ⟨_, rfl⟩
  obtain ⟨y, hY⟩ : ∃ y, plT f = y := ⟨_, rfl⟩
  rw [hX, hY]
  rw [hY] at pf
  rw [hX] at pt
  obtain ⟨pf1, pf2⟩ := pf
  obtain ⟨pt1, pt2⟩ := pt
  replace hX := show Hid _ from hX
  replace hY := show Hid _ from hY
  go_enter Tryd.func11, Tryd.ntmps11
  go_wp2_with fail
  refine (Is_t _ _ hf.out.1 hf.out.2).mono ?_
  rintro e w1 ⟨rfl, rfl⟩
  go_wp2_with fail
  refine (Is_t _ _ ht.out.1 ht.out.2).mono ?_
  rintro e w1 ⟨rfl, rfl⟩
  go_wp2_with fail
  refine (rthirty_c _ _ ht.out.1 ht.out.2).mono ?_
  rw [hX.out]
  rintro e w2 ⟨rfl, hx⟩
  replace hx := show Hid _ from hx
  go_wp2_with fail
  refine (rthirty_c _ _ hf.out.1 hf.out.2).mono ?_
  rw [hY.out]
  rintro e w3 ⟨rfl, hx2⟩
  replace hx := show Hid _ from hx.out.trans hx2
  clear hx2
  go_wp2
  go_ret2
  exact ⟨rfl, hx.out⟩
set_option maxHeartbeats 1000000 in
theorem rBetween_up (c f t : Int) (w : World) (k1 : 2 ≤ c) (k2 : c ≤ 3) (f1 : -25567 ≤ f) (f2 : f ≤ 84370) (t1 : -25567 ≤ t) (t2 : t ≤ 84370) (hle : f < t) :
    Calls Tryd.prog 11 #[.int .i64 c, .int .i64 f, .int .i64 t] w fun e w' => e = .returned (.tuple #[.int .i64 (plc c t - plc c f), .int .i64 0]) ∧ Ext w w' := by
  have c0 : (c == 1) = false := by simp; omega
  have c1 : ¬ c < 1 := by omega
  have c3 : ¬ 3 < c := by omega
  have hf := show Hid (-25567 ≤ f ∧ f ≤ 84370) from ⟨f1, f2⟩
  have ht := show Hid (-25567 ≤ t ∧ t ≤ 84370) from ⟨t1, t2⟩
  go_enter Tryd.func11, Tryd.ntmps11
  go_wp2_with fail
  refine (Is_t _ _ hf.out.1 hf.out.2).mono ?_
  rintro e w1 ⟨rfl, rfl⟩
  go_wp2_with fail
  refine (Is_t _ _ ht.out.1 ht.out.2).mono ?_
  rintro e w1 ⟨rfl, rfl⟩
  go_wp2_with fail
  go_loopw [8, 9] (fun s i wr => ∃ D S : Int, f ≤ D ∧ D ≤ t ∧ i = .int .i64 D ∧ s = .int .i64 S ∧ -800000000 ≤ S ∧ S ≤ 800000000 ∧ Hid (S = plc c D - plc c f) ∧ Hid (Ext w1 wr)) (fun _ i _ => (t - RowKit.intOf i).toNat)
  case atStart => exact ⟨f, 0, by omega, by omega, rfl, rfl, by omega, by omega, (by show (0 : Int) = _; omega), Ext.refl _⟩
  case round =>
    obtain ⟨D, S, d1, d2, rfl, rfl, s1, s2, hS, hx⟩ := hrel
    by_cases hlt : D < t
    · have ob := oneP_bd c D (by omega) k2 (by omega) (by omega)
      have hn := plc_next c D (by omega) k2 (by omega) (by omega)
      have pb := plc_bd c (by omega : -25567 ≤ D + 1) (by omega)
      have pl := plc_bd c f1 f2
      have hS' := hS.out
      obtain ⟨o, ho⟩ : ∃ o, oneP c D = o := ⟨_, rfl⟩
      rw [ho] at ob hn
      obtain ⟨o1, o2⟩ := ob
      have hS2 : Hid (S + o = plc c (D + 1) - plc c f) := by show S + o = _; omega
      have r1 : -800000000 ≤ S + o := by omega
      have r2 : S + o ≤ 800000000 := by omega
      clear hn pb pl hS'
      replace ho := show Hid _ from ho
      go_wp2_with fail
      refine (One_c _ _ _ (by omega) k2 (by omega) (by omega)).mono ?_
      rw [ho.out]
      rintro e w3 ⟨rfl, hx2⟩
      replace hx := show Hid _ from hx.out.trans hx2
      clear hx2
      go_wp2
      go_roundw
      case rel => exact ⟨D + 1, S + o, by omega, by omega, rfl, rfl, r1, r2, hS2, hx⟩
      case measure => simp [RowKit.intOf]; omega
    · obtain rfl : D = t := by omega
      go_wp2
      go_ret2
      exact ⟨ret_two (by have := hS.out; omega) rfl, hx.out⟩
set_option maxHeartbeats 1000000 in
theorem rBetween_dn (c f t : Int) (w : World) (k1 : 2 ≤ c) (k2 : c ≤ 3) (f1 : -25567 ≤ f) (f2 : f ≤ 84370) (t1 : -25567 ≤ t) (t2 : t ≤ 84370) (hle : t < f) :
    Calls Tryd.prog 11 #[.int .i64 c, .int .i64 f, .int .i64 t] w fun e w' => e = .returned (.tuple #[.int .i64 (-(plc c f - plc c t)), .int .i64 0]) ∧ Ext w w' := by
  have c0 : (c == 1) = false := by simp; omega
  have c1 : ¬ c < 1 := by omega
  have c3 : ¬ 3 < c := by omega
  have hf := show Hid (-25567 ≤ f ∧ f ≤ 84370) from ⟨f1, f2⟩
  have ht := show Hid (-25567 ≤ t ∧ t ≤ 84370) from ⟨t1, t2⟩
  go_enter Tryd.func11, Tryd.ntmps11
  go_wp2_with fail
  refine (Is_t _ _ hf.out.1 hf.out.2).mono ?_
  rintro e w1 ⟨rfl, rfl⟩
  go_wp2_with fail
  refine (Is_t _ _ ht.out.1 ht.out.2).mono ?_
  rintro e w1 ⟨rfl, rfl⟩
  go_wp2_with fail
  go_loopw [8, 9] (fun s i wr => ∃ D S : Int, t ≤ D ∧ D ≤ f ∧ i = .int .i64 D ∧ s = .int .i64 S ∧ -800000000 ≤ S ∧ S ≤ 800000000 ∧ Hid (S = plc c D - plc c t) ∧ Hid (Ext w1 wr)) (fun _ i _ => (f - RowKit.intOf i).toNat)
  case atStart => exact ⟨t, 0, by omega, by omega, rfl, rfl, by omega, by omega, (by show (0 : Int) = _; omega), Ext.refl _⟩
  case round =>
    obtain ⟨D, S, d1, d2, rfl, rfl, s1, s2, hS, hx⟩ := hrel
    by_cases hlt : D < f
    · have ob := oneP_bd c D (by omega) k2 (by omega) (by omega)
      have hn := plc_next c D (by omega) k2 (by omega) (by omega)
      have pb := plc_bd c (by omega : -25567 ≤ D + 1) (by omega)
      have pl := plc_bd c t1 t2
      have hS' := hS.out
      obtain ⟨o, ho⟩ : ∃ o, oneP c D = o := ⟨_, rfl⟩
      rw [ho] at ob hn
      obtain ⟨o1, o2⟩ := ob
      have hS2 : Hid (S + o = plc c (D + 1) - plc c t) := by show S + o = _; omega
      have r1 : -800000000 ≤ S + o := by omega
      have r2 : S + o ≤ 800000000 := by omega
      clear hn pb pl hS'
      replace ho := show Hid _ from ho
      go_wp2_with fail
      refine (One_c _ _ _ (by omega) k2 (by omega) (by omega)).mono ?_
      rw [ho.out]
      rintro e w3 ⟨rfl, hx2⟩
      replace hx := show Hid _ from hx.out.trans hx2
      clear hx2
      go_wp2
      go_roundw
      case rel => exact ⟨D + 1, S + o, by omega, by omega, rfl, rfl, r1, r2, hS2, hx⟩
      case measure => simp [RowKit.intOf]; omega
    · obtain rfl : D = f := by omega
      go_wp2
      go_ret2
      exact ⟨ret_two (by have := hS.out; omega) rfl, hx.out⟩
set_option maxHeartbeats 1000000 in
theorem rBetween_eq (c f : Int) (w : World) (k1 : 2 ≤ c) (k2 : c ≤ 3) (f1 : -25567 ≤ f) (f2 : f ≤ 84370)   :
    Calls Tryd.prog 11 #[.int .i64 c, .int .i64 f, .int .i64 f] w fun e w' => e = .returned (.tuple #[.int .i64 (plc c f - plc c f), .int .i64 0]) ∧ Ext w w' := by
  have c0 : (c == 1) = false := by simp; omega
  have c1 : ¬ c < 1 := by omega
  have c3 : ¬ 3 < c := by omega
  have hf := show Hid (-25567 ≤ f ∧ f ≤ 84370) from ⟨f1, f2⟩
  have ht := show Hid (-25567 ≤ f ∧ f ≤ 84370) from ⟨f1, f2⟩
  go_enter Tryd.func11, Tryd.ntmps11
  go_wp2_with fail
  refine (Is_t _ _ hf.out.1 hf.out.2).mono ?_
  rintro e w1 ⟨rfl, rfl⟩
  go_wp2_with fail
  refine (Is_t _ _ ht.out.1 ht.out.2).mono ?_
  rintro e w1 ⟨rfl, rfl⟩
  go_wp2_with fail
  go_loopw [8, 9] (fun s i wr => ∃ D S : Int, f ≤ D ∧ D ≤ f ∧ i = .int .i64 D ∧ s = .int .i64 S ∧ -800000000 ≤ S ∧ S ≤ 800000000 ∧ Hid (S = plc c D - plc c f) ∧ Hid (Ext w1 wr)) (fun _ i _ => (f - RowKit.intOf i).toNat)
  case atStart => exact ⟨f, 0, by omega, by omega, rfl, rfl, by omega, by omega, (by show (0 : Int) = _; omega), Ext.refl _⟩
  case round =>
    obtain ⟨D, S, d1, d2, rfl, rfl, s1, s2, hS, hx⟩ := hrel
    by_cases hlt : D < f
    · have ob := oneP_bd c D (by omega) k2 (by omega) (by omega)
      have hn := plc_next c D (by omega) k2 (by omega) (by omega)
      have pb := plc_bd c (by omega : -25567 ≤ D + 1) (by omega)
      have pl := plc_bd c f1 f2
      have hS' := hS.out
      obtain ⟨o, ho⟩ : ∃ o, oneP c D = o := ⟨_, rfl⟩
      rw [ho] at ob hn
      obtain ⟨o1, o2⟩ := ob
      have hS2 : Hid (S + o = plc c (D + 1) - plc c f) := by show S + o = _; omega
      have r1 : -800000000 ≤ S + o := by omega
      have r2 : S + o ≤ 800000000 := by omega
      clear hn pb pl hS'
      replace ho := show Hid _ from ho
      go_wp2_with fail
      refine (One_c _ _ _ (by omega) k2 (by omega) (by omega)).mono ?_
      rw [ho.out]
      rintro e w3 ⟨rfl, hx2⟩
      replace hx := show Hid _ from hx.out.trans hx2
      clear hx2
      go_wp2
      go_roundw
      case rel => exact ⟨D + 1, S + o, by omega, by omega, rfl, rfl, r1, r2, hS2, hx⟩
      case measure => simp [RowKit.intOf]; omega
    · obtain rfl : D = f := by omega
      go_wp2
      go_ret2
      exact ⟨ret_two (by have := hS.out; omega) rfl, hx.out⟩
theorem rBetween_c (c f t : Int) (w : World) :
    Calls Tryd.prog 11 #[.int .i64 c, .int .i64 f, .int .i64 t] w fun e w' => e = .returned (.tuple #[.int .i64 (btA c f t), .int .i64 (btE c f t)]) ∧ Ext w w' := by
  by_cases h : 1 ≤ c ∧ c ≤ 3
  · by_cases hd : (-25567 ≤ f ∧ f ≤ 84370) ∧ (-25567 ≤ t ∧ t ≤ 84370)
    · have e := bt_ok h.1 h.2 (inD_t hd.1.1 hd.1.2) (inD_t hd.2.1 hd.2.2)
      rw [e.1, e.2]
      by_cases h1 : c = 1
      · subst h1; exact rBetween_1 f t w hd.1.1 hd.1.2 hd.2.1 hd.2.2
      · by_cases hle : f ≤ t
        · by_cases heq : f = t
          · subst heq; exact rBetween_eq c f w (by omega) h.2 hd.1.1 hd.1.2
          · exact rBetween_up c f t w (by omega) h.2 hd.1.1 hd.1.2 hd.2.1 hd.2.2 (by omega)
        · have := rBetween_dn c f t w (by omega) h.2 hd.1.1 hd.1.2 hd.2.1 hd.2.2 (by omega)
          rwa [show -(plc c f - plc c t) = plc c t - plc c f by omega] at this
    · have e := bt_day (f := f) (t := t) h.1 h.2 (fun k => hd ⟨(inD_iff f).1 k.1, (inD_iff t).1 k.2⟩)
      rw [e.1, e.2]; exact rBetween_day c f t w h.1 h.2 hd
  · have e := bt_no (f := f) (t := t) h
    rw [e.1, e.2]; exact rBetween_no c f t w h
end Go.Proofs.YtkjdhefmhooplaaDoor
