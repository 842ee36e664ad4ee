/- For every int64 v and every int what, of the project's tree at the commit that COMMIT names, DecimalForms returns true and leaves its arguments as they were, with the library's variables laid as the program's text lays them. -/
import Derived.Test.YtpmgbagnaaahoabDoorFrame
import Derived.Test.YtpmgbagnaaahoabDoorForms
namespace Go.Proofs.YtpmgbagnaaahoabDoor.decimalForms
open Go.ChangeShapes Go.WideShapes Go.ChangeAt Go.RowKit Go.Lib
set_option linter.unusedVariables false

theorem money_len' (v : Int) (h : I64 v) : (moneyL v).length ≤ 900 := by
  obtain ⟨h1, h2⟩ := dec_len v h 100
  unfold moneyL
  rw [List.length_append, List.length_append, List.length_cons, fix_length]
  omega
theorem rate_len' (v : Int) (h : I64 v) : (rateL v).length ≤ 900 := by
  obtain ⟨h1, h2⟩ := dec_len v h 10000000
  have h3 := tail_len v.natAbs
  unfold rateL
  rw [List.length_append, List.length_append, List.length_append, List.length_singleton]
  have : (dotL (tailL v.natAbs)).length ≤ 8 := by
    unfold dotL
    split
    · simp
    · simp; omega
  omega
set_option maxHeartbeats 4000000 in
theorem at0 (a0 a1 : Int) (i0 : I64 a0) (w : World) (he : Hid (Env w)) (hK : wrap64 ((IntKind.u64.wrap a1).tmod 13) = 0) :
    Calls Tryd.prog 5 #[.int .i64 a0, .int .i64 a1] w fun e w' => e = .returned (.bool true) ∧ Ext w w' := by
  obtain ⟨i1, i2⟩ := i0
  by_cases hs : a0 < 0
  · obtain ⟨V, hV⟩ : ∃ V : Int, (wrap64 (-wrap64 (a0 + 1))).tmod 100000 = V := ⟨_, rfl⟩
    obtain ⟨v0, v1⟩ : 0 ≤ V ∧ V < 100000 := by
      rw [← hV]
      have e : 0 ≤ wrap64 (-wrap64 (a0 + 1)) := by unfold wrap64; omega
      exact ⟨Int.tmod_nonneg 100000 e, Int.tmod_lt_of_pos _ (by omega)⟩
    obtain ⟨R, hR⟩ : ∃ R : Int, V * 1000000 = R := ⟨_, rfl⟩
    have hw : wrap64 (V * 1000000) = R := by unfold wrap64; omega
    have iV : I64 V := ⟨by omega, by omega⟩
    have iR : I64 R := ⟨by omega, by omega⟩
    have b1 := badM_none V v0 0
    have b2 := badR_none R (by omega) 0
    have l1 := (money_len' V iV)
    have l2 := (rate_len' R iR)
    generalize gM : moneyL V = M at *
    generalize gR : rateL R = T at *
    have b3 := badM_len M l1 0
    have b4 := badR_len T l2 0
    have f1 : ¬ 9223372036854775807 < 1 + M.length := by omega
    have f2 : ¬ 9223372036854775807 < M.length + 1 := by omega
    have f3 : ¬ 9223372036854775807 < 2 + M.length := by omega
    have f4 : ¬ 9223372036854775807 < 1 + T.length := by omega
    have f5 : ¬ 9223372036854775807 < T.length + 1 := by omega
    have f6 : ¬ 9223372036854775807 < 2 + T.length := by omega
    replace gM := show Hid _ from gM
    replace gR := show Hid _ from gR
    replace b1 := show Hid _ from b1
    replace b2 := show Hid _ from b2
    replace b3 : Hid _ := show Hid _ from b3
    replace b4 : Hid _ := show Hid _ from b4
    clear hw i1 i2
    go_enter Tryd.func5, Tryd.ntmps5
    go_wp2_with fail
    refine (money_x V M gM.out _ iV he.out).mono ?_
    rintro e w1 ⟨rfl, hx1⟩
    have hx : Hid (Ext w w1) := hx1
    clear hx1
    go_wp2_with fail
    refine (rate_x R T gR.out _ iR (Env.ext he.out hx.out)).mono ?_
    rintro e w1 ⟨rfl, hx1⟩
    replace hx : Hid (Ext w w1) := hx.out.trans hx1
    clear hx1
    go_wp2_with fail
    refine (takeMoney_x (badM M 0) _ _ b1.out _ b3.out (Env.ext he.out (Ext.alloc (Ext.alloc hx.out _ _) _ _))).mono ?_
    rintro e w2 ⟨rfl, hx1⟩
    replace hx : Hid (Ext w w2) := (Ext.alloc (Ext.alloc hx.out _ _) _ _).trans hx1
    clear hx1
    go_wp2_with fail
    refine (takeRate_x (badR T 0) _ _ b2.out _ b4.out (Env.ext he.out hx.out)).mono ?_
    rintro e w3 ⟨rfl, hx1⟩
    replace hx : Hid (Ext w w3) := hx.out.trans hx1
    clear hx1
    go_wp2_with fail
    refine (awake_c _ (Env.ext he.out hx.out)).mono ?_
    rintro e w3 ⟨rfl, hx1⟩
    replace hx : Hid (Ext w w3) := hx.out.trans hx1
    clear hx1
    go_wp2
    go_ret
    exact ⟨rfl, hx.out⟩
  · obtain ⟨V, hV⟩ : ∃ V : Int, a0 % 100000 = V := ⟨_, rfl⟩
    obtain ⟨v0, v1⟩ : 0 ≤ V ∧ V < 100000 := by omega
    obtain ⟨R, hR⟩ : ∃ R : Int, V * 1000000 = R := ⟨_, rfl⟩
    have hw : wrap64 (V * 1000000) = R := by unfold wrap64; omega
    have iV : I64 V := ⟨by omega, by omega⟩
    have iR : I64 R := ⟨by omega, by omega⟩
    have b1 := badM_none V v0 0
    have b2 := badR_none R (by omega) 0
    have l1 := (money_len' V iV)
    have l2 := (rate_len' R iR)
    generalize gM : moneyL V = M at *
    generalize gR : rateL R = T at *
    have b3 := badM_len M l1 0
    have b4 := badR_len T l2 0
    have f1 : ¬ 9223372036854775807 < 1 + M.length := by omega
    have f2 : ¬ 9223372036854775807 < M.length + 1 := by omega
    have f3 : ¬ 9223372036854775807 < 2 + M.length := by omega
    have f4 : ¬ 9223372036854775807 < 1 + T.length := by omega
    have f5 : ¬ 9223372036854775807 < T.length + 1 := by omega
    have f6 : ¬ 9223372036854775807 < 2 + T.length := by omega
    replace gM := show Hid _ from gM
    replace gR := show Hid _ from gR
    replace b1 := show Hid _ from b1
    replace b2 := show Hid _ from b2
    replace b3 : Hid _ := show Hid _ from b3
    replace b4 : Hid _ := show Hid _ from b4
    clear hw i1 i2
    go_enter Tryd.func5, Tryd.ntmps5
    go_wp2_with fail
    refine (money_x V M gM.out _ iV he.out).mono ?_
    rintro e w1 ⟨rfl, hx1⟩
    have hx : Hid (Ext w w1) := hx1
    clear hx1
    go_wp2_with fail
    refine (rate_x R T gR.out _ iR (Env.ext he.out hx.out)).mono ?_
    rintro e w1 ⟨rfl, hx1⟩
    replace hx : Hid (Ext w w1) := hx.out.trans hx1
    clear hx1
    go_wp2_with fail
    refine (takeMoney_x (badM M 0) _ _ b1.out _ b3.out (Env.ext he.out (Ext.alloc (Ext.alloc hx.out _ _) _ _))).mono ?_
    rintro e w2 ⟨rfl, hx1⟩
    replace hx : Hid (Ext w w2) := (Ext.alloc (Ext.alloc hx.out _ _) _ _).trans hx1
    clear hx1
    go_wp2_with fail
    refine (takeRate_x (badR T 0) _ _ b2.out _ b4.out (Env.ext he.out hx.out)).mono ?_
    rintro e w3 ⟨rfl, hx1⟩
    replace hx : Hid (Ext w w3) := hx.out.trans hx1
    clear hx1
    go_wp2_with fail
    refine (awake_c _ (Env.ext he.out hx.out)).mono ?_
    rintro e w3 ⟨rfl, hx1⟩
    replace hx : Hid (Ext w w3) := hx.out.trans hx1
    clear hx1
    go_wp2
    go_ret
    exact ⟨rfl, hx.out⟩
set_option maxHeartbeats 4000000 in
theorem at1 (a0 a1 : Int) (i0 : I64 a0) (w : World) (he : Hid (Env w)) (hK : wrap64 ((IntKind.u64.wrap a1).tmod 13) = 1) :
    Calls Tryd.prog 5 #[.int .i64 a0, .int .i64 a1] w fun e w' => e = .returned (.bool true) ∧ Ext w w' := by
  obtain ⟨i1, i2⟩ := i0
  by_cases hs : a0 < 0
  · obtain ⟨V, hV⟩ : ∃ V : Int, (wrap64 (-wrap64 (a0 + 1))).tmod 100000 = V := ⟨_, rfl⟩
    obtain ⟨v0, v1⟩ : 0 ≤ V ∧ V < 100000 := by
      rw [← hV]
      have e : 0 ≤ wrap64 (-wrap64 (a0 + 1)) := by unfold wrap64; omega
      exact ⟨Int.tmod_nonneg 100000 e, Int.tmod_lt_of_pos _ (by omega)⟩
    obtain ⟨R, hR⟩ : ∃ R : Int, V * 1000000 = R := ⟨_, rfl⟩
    have hw : wrap64 (V * 1000000) = R := by unfold wrap64; omega
    have iV : I64 V := ⟨by omega, by omega⟩
    have iR : I64 R := ⟨by omega, by omega⟩
    have b1 := badM_none V v0 1
    have b2 := badR_none R (by omega) 1
    have l1 := (money_len' V iV)
    have l2 := (rate_len' R iR)
    generalize gM : moneyL V = M at *
    generalize gR : rateL R = T at *
    have b3 := badM_len M l1 1
    have b4 := badR_len T l2 1
    have f1 : ¬ 9223372036854775807 < 1 + M.length := by omega
    have f2 : ¬ 9223372036854775807 < M.length + 1 := by omega
    have f3 : ¬ 9223372036854775807 < 2 + M.length := by omega
    have f4 : ¬ 9223372036854775807 < 1 + T.length := by omega
    have f5 : ¬ 9223372036854775807 < T.length + 1 := by omega
    have f6 : ¬ 9223372036854775807 < 2 + T.length := by omega
    replace gM := show Hid _ from gM
    replace gR := show Hid _ from gR
    replace b1 := show Hid _ from b1
    replace b2 := show Hid _ from b2
    replace b3 : Hid _ := show Hid _ from b3
    replace b4 : Hid _ := show Hid _ from b4
    clear hw i1 i2
    go_enter Tryd.func5, Tryd.ntmps5
    go_wp2_with fail
    refine (money_x V M gM.out _ iV he.out).mono ?_
    rintro e w1 ⟨rfl, hx1⟩
    have hx : Hid (Ext w w1) := hx1
    clear hx1
    go_wp2_with fail
    refine (rate_x R T gR.out _ iR (Env.ext he.out hx.out)).mono ?_
    rintro e w1 ⟨rfl, hx1⟩
    replace hx : Hid (Ext w w1) := hx.out.trans hx1
    clear hx1
    go_wp2_with fail
    refine (takeMoney_x (badM M 1) _ _ b1.out _ b3.out (Env.ext he.out (Ext.alloc (Ext.alloc hx.out _ _) _ _))).mono ?_
    rintro e w2 ⟨rfl, hx1⟩
    replace hx : Hid (Ext w w2) := (Ext.alloc (Ext.alloc hx.out _ _) _ _).trans hx1
    clear hx1
    go_wp2_with fail
    refine (takeRate_x (badR T 1) _ _ b2.out _ b4.out (Env.ext he.out hx.out)).mono ?_
    rintro e w3 ⟨rfl, hx1⟩
    replace hx : Hid (Ext w w3) := hx.out.trans hx1
    clear hx1
    go_wp2_with fail
    refine (awake_c _ (Env.ext he.out hx.out)).mono ?_
    rintro e w3 ⟨rfl, hx1⟩
    replace hx : Hid (Ext w w3) := hx.out.trans hx1
    clear hx1
    go_wp2
    go_ret
    exact ⟨rfl, hx.out⟩
  · obtain ⟨V, hV⟩ : ∃ V : Int, a0 % 100000 = V := ⟨_, rfl⟩
    obtain ⟨v0, v1⟩ : 0 ≤ V ∧ V < 100000 := by omega
    obtain ⟨R, hR⟩ : ∃ R : Int, V * 1000000 = R := ⟨_, rfl⟩
    have hw : wrap64 (V * 1000000) = R := by unfold wrap64; omega
    have iV : I64 V := ⟨by omega, by omega⟩
    have iR : I64 R := ⟨by omega, by omega⟩
    have b1 := badM_none V v0 1
    have b2 := badR_none R (by omega) 1
    have l1 := (money_len' V iV)
    have l2 := (rate_len' R iR)
    generalize gM : moneyL V = M at *
    generalize gR : rateL R = T at *
    have b3 := badM_len M l1 1
    have b4 := badR_len T l2 1
    have f1 : ¬ 9223372036854775807 < 1 + M.length := by omega
    have f2 : ¬ 9223372036854775807 < M.length + 1 := by omega
    have f3 : ¬ 9223372036854775807 < 2 + M.length := by omega
    have f4 : ¬ 9223372036854775807 < 1 + T.length := by omega
    have f5 : ¬ 9223372036854775807 < T.length + 1 := by omega
    have f6 : ¬ 9223372036854775807 < 2 + T.length := by omega
    replace gM := show Hid _ from gM
    replace gR := show Hid _ from gR
    replace b1 := show Hid _ from b1
    replace b2 := show Hid _ from b2
    replace b3 : Hid _ := show Hid _ from b3
    replace b4 : Hid _ := show Hid _ from b4
    clear hw i1 i2
    go_enter Tryd.func5, Tryd.ntmps5
    go_wp2_with fail
    refine (money_x V M gM.out _ iV he.out).mono ?_
    rintro e w1 ⟨rfl, hx1⟩
    have hx : Hid (Ext w w1) := hx1
    clear hx1
    go_wp2_with fail
    refine (rate_x R T gR.out _ iR (Env.ext he.out hx.out)).mono ?_
    rintro e w1 ⟨rfl, hx1⟩
    replace hx : Hid (Ext w w1) := hx.out.trans hx1
    clear hx1
    go_wp2_with fail
    refine (takeMoney_x (badM M 1) _ _ b1.out _ b3.out (Env.ext he.out (Ext.alloc (Ext.alloc hx.out _ _) _ _))).mono ?_
    rintro e w2 ⟨rfl, hx1⟩
    replace hx : Hid (Ext w w2) := (Ext.alloc (Ext.alloc hx.out _ _) _ _).trans hx1
    clear hx1
    go_wp2_with fail
    refine (takeRate_x (badR T 1) _ _ b2.out _ b4.out (Env.ext he.out hx.out)).mono ?_
    rintro e w3 ⟨rfl, hx1⟩
    replace hx : Hid (Ext w w3) := hx.out.trans hx1
    clear hx1
    go_wp2_with fail
    refine (awake_c _ (Env.ext he.out hx.out)).mono ?_
    rintro e w3 ⟨rfl, hx1⟩
    replace hx : Hid (Ext w w3) := hx.out.trans hx1
    clear hx1
    go_wp2
    go_ret
    exact ⟨rfl, hx.out⟩
set_option maxHeartbeats 4000000 in
theorem at2 (a0 a1 : Int) (i0 : I64 a0) (w : World) (he : Hid (Env w)) (hK : wrap64 ((IntKind.u64.wrap a1).tmod 13) = 2) :
    Calls Tryd.prog 5 #[.int .i64 a0, .int .i64 a1] w fun e w' => e = .returned (.bool true) ∧ Ext w w' := by
  obtain ⟨i1, i2⟩ := i0
  by_cases hs : a0 < 0
  · obtain ⟨V, hV⟩ : ∃ V : Int, (wrap64 (-wrap64 (a0 + 1))).tmod 100000 = V := ⟨_, rfl⟩
    obtain ⟨v0, v1⟩ : 0 ≤ V ∧ V < 100000 := by
      rw [← hV]
      have e : 0 ≤ wrap64 (-wrap64 (a0 + 1)) := by unfold wrap64; omega
      exact ⟨Int.tmod_nonneg 100000 e, Int.tmod_lt_of_pos _ (by omega)⟩
    obtain ⟨R, hR⟩ : ∃ R : Int, V * 1000000 = R := ⟨_, rfl⟩
    have hw : wrap64 (V * 1000000) = R := by unfold wrap64; omega
    have iV : I64 V := ⟨by omega, by omega⟩
    have iR : I64 R := ⟨by omega, by omega⟩
    have b1 := badM_none V v0 2
    have b2 := badR_none R (by omega) 2
    have l1 := (money_len' V iV)
    have l2 := (rate_len' R iR)
    generalize gM : moneyL V = M at *
    generalize gR : rateL R = T at *
    have b3 := badM_len M l1 2
    have b4 := badR_len T l2 2
    have f1 : ¬ 9223372036854775807 < 1 + M.length := by omega
    have f2 : ¬ 9223372036854775807 < M.length + 1 := by omega
    have f3 : ¬ 9223372036854775807 < 2 + M.length := by omega
    have f4 : ¬ 9223372036854775807 < 1 + T.length := by omega
    have f5 : ¬ 9223372036854775807 < T.length + 1 := by omega
    have f6 : ¬ 9223372036854775807 < 2 + T.length := by omega
    replace gM := show Hid _ from gM
    replace gR := show Hid _ from gR
    replace b1 := show Hid _ from b1
    replace b2 := show Hid _ from b2
    replace b3 : Hid _ := show Hid _ from b3
    replace b4 : Hid _ := show Hid _ from b4
    clear hw i1 i2
    go_enter Tryd.func5, Tryd.ntmps5
    go_wp2_with fail
    refine (money_x V M gM.out _ iV he.out).mono ?_
    rintro e w1 ⟨rfl, hx1⟩
    have hx : Hid (Ext w w1) := hx1
    clear hx1
    go_wp2_with fail
    refine (rate_x R T gR.out _ iR (Env.ext he.out hx.out)).mono ?_
    rintro e w1 ⟨rfl, hx1⟩
    replace hx : Hid (Ext w w1) := hx.out.trans hx1
    clear hx1
    go_wp2_with fail
    refine (takeMoney_x (badM M 2) _ _ b1.out _ b3.out (Env.ext he.out (Ext.alloc (Ext.alloc hx.out _ _) _ _))).mono ?_
    rintro e w2 ⟨rfl, hx1⟩
    replace hx : Hid (Ext w w2) := (Ext.alloc (Ext.alloc hx.out _ _) _ _).trans hx1
    clear hx1
    go_wp2_with fail
    refine (takeRate_x (badR T 2) _ _ b2.out _ b4.out (Env.ext he.out hx.out)).mono ?_
    rintro e w3 ⟨rfl, hx1⟩
    replace hx : Hid (Ext w w3) := hx.out.trans hx1
    clear hx1
    go_wp2_with fail
    refine (awake_c _ (Env.ext he.out hx.out)).mono ?_
    rintro e w3 ⟨rfl, hx1⟩
    replace hx : Hid (Ext w w3) := hx.out.trans hx1
    clear hx1
    go_wp2
    go_ret
    exact ⟨rfl, hx.out⟩
  · obtain ⟨V, hV⟩ : ∃ V : Int, a0 % 100000 = V := ⟨_, rfl⟩
    obtain ⟨v0, v1⟩ : 0 ≤ V ∧ V < 100000 := by omega
    obtain ⟨R, hR⟩ : ∃ R : Int, V * 1000000 = R := ⟨_, rfl⟩
    have hw : wrap64 (V * 1000000) = R := by unfold wrap64; omega
    have iV : I64 V := ⟨by omega, by omega⟩
    have iR : I64 R := ⟨by omega, by omega⟩
    have b1 := badM_none V v0 2
    have b2 := badR_none R (by omega) 2
    have l1 := (money_len' V iV)
    have l2 := (rate_len' R iR)
    generalize gM : moneyL V = M at *
    generalize gR : rateL R = T at *
    have b3 := badM_len M l1 2
    have b4 := badR_len T l2 2
    have f1 : ¬ 9223372036854775807 < 1 + M.length := by omega
    have f2 : ¬ 9223372036854775807 < M.length + 1 := by omega
    have f3 : ¬ 9223372036854775807 < 2 + M.length := by omega
    have f4 : ¬ 9223372036854775807 < 1 + T.length := by omega
    have f5 : ¬ 9223372036854775807 < T.length + 1 := by omega
    have f6 : ¬ 9223372036854775807 < 2 + T.length := by omega
    replace gM := show Hid _ from gM
    replace gR := show Hid _ from gR
    replace b1 := show Hid _ from b1
    replace b2 := show Hid _ from b2
    replace b3 : Hid _ := show Hid _ from b3
    replace b4 : Hid _ := show Hid _ from b4
    clear hw i1 i2
    go_enter Tryd.func5, Tryd.ntmps5
    go_wp2_with fail
    refine (money_x V M gM.out _ iV he.out).mono ?_
    rintro e w1 ⟨rfl, hx1⟩
    have hx : Hid (Ext w w1) := hx1
    clear hx1
    go_wp2_with fail
    refine (rate_x R T gR.out _ iR (Env.ext he.out hx.out)).mono ?_
    rintro e w1 ⟨rfl, hx1⟩
    replace hx : Hid (Ext w w1) := hx.out.trans hx1
    clear hx1
    go_wp2_with fail
    refine (takeMoney_x (badM M 2) _ _ b1.out _ b3.out (Env.ext he.out (Ext.alloc (Ext.alloc hx.out _ _) _ _))).mono ?_
    rintro e w2 ⟨rfl, hx1⟩
    replace hx : Hid (Ext w w2) := (Ext.alloc (Ext.alloc hx.out _ _) _ _).trans hx1
    clear hx1
    go_wp2_with fail
    refine (takeRate_x (badR T 2) _ _ b2.out _ b4.out (Env.ext he.out hx.out)).mono ?_
    rintro e w3 ⟨rfl, hx1⟩
    replace hx : Hid (Ext w w3) := hx.out.trans hx1
    clear hx1
    go_wp2_with fail
    refine (awake_c _ (Env.ext he.out hx.out)).mono ?_
    rintro e w3 ⟨rfl, hx1⟩
    replace hx : Hid (Ext w w3) := hx.out.trans hx1
    clear hx1
    go_wp2
    go_ret
    exact ⟨rfl, hx.out⟩
set_option maxHeartbeats 4000000 in
theorem at3 (a0 a1 : Int) (i0 : I64 a0) (w : World) (he : Hid (Env w)) (hK : wrap64 ((IntKind.u64.wrap a1).tmod 13) = 3) :
    Calls Tryd.prog 5 #[.int .i64 a0, .int .i64 a1] w fun e w' => e = .returned (.bool true) ∧ Ext w w' := by
  obtain ⟨i1, i2⟩ := i0
  by_cases hs : a0 < 0
  · obtain ⟨V, hV⟩ : ∃ V : Int, (wrap64 (-wrap64 (a0 + 1))).tmod 100000 = V := ⟨_, rfl⟩
    obtain ⟨v0, v1⟩ : 0 ≤ V ∧ V < 100000 := by
      rw [← hV]
      have e : 0 ≤ wrap64 (-wrap64 (a0 + 1)) := by unfold wrap64; omega
      exact ⟨Int.tmod_nonneg 100000 e, Int.tmod_lt_of_pos _ (by omega)⟩
    obtain ⟨R, hR⟩ : ∃ R : Int, V * 1000000 = R := ⟨_, rfl⟩
    have hw : wrap64 (V * 1000000) = R := by unfold wrap64; omega
    have iV : I64 V := ⟨by omega, by omega⟩
    have iR : I64 R := ⟨by omega, by omega⟩
    have b1 := badM_none V v0 3
    have b2 := badR_none R (by omega) 3
    have l1 := (money_len' V iV)
    have l2 := (rate_len' R iR)
    generalize gM : moneyL V = M at *
    generalize gR : rateL R = T at *
    have b3 := badM_len M l1 3
    have b4 := badR_len T l2 3
    have f1 : ¬ 9223372036854775807 < 1 + M.length := by omega
    have f2 : ¬ 9223372036854775807 < M.length + 1 := by omega
    have f3 : ¬ 9223372036854775807 < 2 + M.length := by omega
    have f4 : ¬ 9223372036854775807 < 1 + T.length := by omega
    have f5 : ¬ 9223372036854775807 < T.length + 1 := by omega
    have f6 : ¬ 9223372036854775807 < 2 + T.length := by omega
    replace gM := show Hid _ from gM
    replace gR := show Hid _ from gR
    replace b1 := show Hid _ from b1
    replace b2 := show Hid _ from b2
    replace b3 : Hid _ := show Hid _ from b3
    replace b4 : Hid _ := show Hid _ from b4
    clear hw i1 i2
    go_enter Tryd.func5, Tryd.ntmps5
    go_wp2_with fail
    refine (money_x V M gM.out _ iV he.out).mono ?_
    rintro e w1 ⟨rfl, hx1⟩
    have hx : Hid (Ext w w1) := hx1
    clear hx1
    go_wp2_with fail
    refine (rate_x R T gR.out _ iR (Env.ext he.out hx.out)).mono ?_
    rintro e w1 ⟨rfl, hx1⟩
    replace hx : Hid (Ext w w1) := hx.out.trans hx1
    clear hx1
    go_wp2_with fail
    refine (takeMoney_x (badM M 3) _ _ b1.out _ b3.out (Env.ext he.out (Ext.alloc (Ext.alloc hx.out _ _) _ _))).mono ?_
    rintro e w2 ⟨rfl, hx1⟩
    replace hx : Hid (Ext w w2) := (Ext.alloc (Ext.alloc hx.out _ _) _ _).trans hx1
    clear hx1
    go_wp2_with fail
    refine (takeRate_x (badR T 3) _ _ b2.out _ b4.out (Env.ext he.out hx.out)).mono ?_
    rintro e w3 ⟨rfl, hx1⟩
    replace hx : Hid (Ext w w3) := hx.out.trans hx1
    clear hx1
    go_wp2_with fail
    refine (awake_c _ (Env.ext he.out hx.out)).mono ?_
    rintro e w3 ⟨rfl, hx1⟩
    replace hx : Hid (Ext w w3) := hx.out.trans hx1
    clear hx1
    go_wp2
    go_ret
    exact ⟨rfl, hx.out⟩
  · obtain ⟨V, hV⟩ : ∃ V : Int, a0 % 100000 = V := ⟨_, rfl⟩
    obtain ⟨v0, v1⟩ : 0 ≤ V ∧ V < 100000 := by omega
    obtain ⟨R, hR⟩ : ∃ R : Int, V * 1000000 = R := ⟨_, rfl⟩
    have hw : wrap64 (V * 1000000) = R := by unfold wrap64; omega
    have iV : I64 V := ⟨by omega, by omega⟩
    have iR : I64 R := ⟨by omega, by omega⟩
    have b1 := badM_none V v0 3
    have b2 := badR_none R (by omega) 3
    have l1 := (money_len' V iV)
    have l2 := (rate_len' R iR)
    generalize gM : moneyL V = M at *
    generalize gR : rateL R = T at *
    have b3 := badM_len M l1 3
    have b4 := badR_len T l2 3
    have f1 : ¬ 9223372036854775807 < 1 + M.length := by omega
    have f2 : ¬ 9223372036854775807 < M.length + 1 := by omega
    have f3 : ¬ 9223372036854775807 < 2 + M.length := by omega
    have f4 : ¬ 9223372036854775807 < 1 + T.length := by omega
    have f5 : ¬ 9223372036854775807 < T.length + 1 := by omega
    have f6 : ¬ 9223372036854775807 < 2 + T.length := by omega
    replace gM := show Hid _ from gM
    replace gR := show Hid _ from gR
    replace b1 := show Hid _ from b1
    replace b2 := show Hid _ from b2
    replace b3 : Hid _ := show Hid _ from b3
    replace b4 : Hid _ := show Hid _ from b4
    clear hw i1 i2
    go_enter Tryd.func5, Tryd.ntmps5
    go_wp2_with fail
    refine (money_x V M gM.out _ iV he.out).mono ?_
    rintro e w1 ⟨rfl, hx1⟩
    have hx : Hid (Ext w w1) := hx1
    clear hx1
    go_wp2_with fail
    refine (rate_x R T gR.out _ iR (Env.ext he.out hx.out)).mono ?_
    rintro e w1 ⟨rfl, hx1⟩
    replace hx : Hid (Ext w w1) := hx.out.trans hx1
    clear hx1
    go_wp2_with fail
    refine (takeMoney_x (badM M 3) _ _ b1.out _ b3.out (Env.ext he.out (Ext.alloc (Ext.alloc hx.out _ _) _ _))).mono ?_
    rintro e w2 ⟨rfl, hx1⟩
    replace hx : Hid (Ext w w2) := (Ext.alloc (Ext.alloc hx.out _ _) _ _).trans hx1
    clear hx1
    go_wp2_with fail
    refine (takeRate_x (badR T 3) _ _ b2.out _ b4.out (Env.ext he.out hx.out)).mono ?_
    rintro e w3 ⟨rfl, hx1⟩
    replace hx : Hid (Ext w w3) := hx.out.trans hx1
    clear hx1
    go_wp2_with fail
    refine (awake_c _ (Env.ext he.out hx.out)).mono ?_
    rintro e w3 ⟨rfl, hx1⟩
    replace hx : Hid (Ext w w3) := hx.out.trans hx1
    clear hx1
    go_wp2
    go_ret
    exact ⟨rfl, hx.out⟩
set_option maxHeartbeats 4000000 in
theorem at4 (a0 a1 : Int) (i0 : I64 a0) (w : World) (he : Hid (Env w)) (hK : wrap64 ((IntKind.u64.wrap a1).tmod 13) = 4) :
    Calls Tryd.prog 5 #[.int .i64 a0, .int .i64 a1] w fun e w' => e = .returned (.bool true) ∧ Ext w w' := by
  obtain ⟨i1, i2⟩ := i0
  by_cases hs : a0 < 0
  · obtain ⟨V, hV⟩ : ∃ V : Int, (wrap64 (-wrap64 (a0 + 1))).tmod 100000 = V := ⟨_, rfl⟩
    obtain ⟨v0, v1⟩ : 0 ≤ V ∧ V < 100000 := by
      rw [← hV]
      have e : 0 ≤ wrap64 (-wrap64 (a0 + 1)) := by unfold wrap64; omega
      exact ⟨Int.tmod_nonneg 100000 e, Int.tmod_lt_of_pos _ (by omega)⟩
    obtain ⟨R, hR⟩ : ∃ R : Int, V * 1000000 = R := ⟨_, rfl⟩
    have hw : wrap64 (V * 1000000) = R := by unfold wrap64; omega
    have iV : I64 V := ⟨by omega, by omega⟩
    have iR : I64 R := ⟨by omega, by omega⟩
    have b1 := badM_none V v0 4
    have b2 := badR_none R (by omega) 4
    have l1 := (money_len' V iV)
    have l2 := (rate_len' R iR)
    generalize gM : moneyL V = M at *
    generalize gR : rateL R = T at *
    have b3 := badM_len M l1 4
    have b4 := badR_len T l2 4
    have f1 : ¬ 9223372036854775807 < 1 + M.length := by omega
    have f2 : ¬ 9223372036854775807 < M.length + 1 := by omega
    have f3 : ¬ 9223372036854775807 < 2 + M.length := by omega
    have f4 : ¬ 9223372036854775807 < 1 + T.length := by omega
    have f5 : ¬ 9223372036854775807 < T.length + 1 := by omega
    have f6 : ¬ 9223372036854775807 < 2 + T.length := by omega
    replace gM := show Hid _ from gM
    replace gR := show Hid _ from gR
    replace b1 := show Hid _ from b1
    replace b2 := show Hid _ from b2
    replace b3 : Hid _ := show Hid _ from b3
    replace b4 : Hid _ := show Hid _ from b4
    clear hw i1 i2
    go_enter Tryd.func5, Tryd.ntmps5
    go_wp2_with fail
    refine (money_x V M gM.out _ iV he.out).mono ?_
    rintro e w1 ⟨rfl, hx1⟩
    have hx : Hid (Ext w w1) := hx1
    clear hx1
    go_wp2_with fail
    refine (rate_x R T gR.out _ iR (Env.ext he.out hx.out)).mono ?_
    rintro e w1 ⟨rfl, hx1⟩
    replace hx : Hid (Ext w w1) := hx.out.trans hx1
    clear hx1
    go_wp2_with fail
    refine (takeMoney_x (badM M 4) _ _ b1.out _ b3.out (Env.ext he.out (Ext.alloc (Ext.alloc hx.out _ _) _ _))).mono ?_
    rintro e w2 ⟨rfl, hx1⟩
    replace hx : Hid (Ext w w2) := (Ext.alloc (Ext.alloc hx.out _ _) _ _).trans hx1
    clear hx1
    go_wp2_with fail
    refine (takeRate_x (badR T 4) _ _ b2.out _ b4.out (Env.ext he.out hx.out)).mono ?_
    rintro e w3 ⟨rfl, hx1⟩
    replace hx : Hid (Ext w w3) := hx.out.trans hx1
    clear hx1
    go_wp2_with fail
    refine (awake_c _ (Env.ext he.out hx.out)).mono ?_
    rintro e w3 ⟨rfl, hx1⟩
    replace hx : Hid (Ext w w3) := hx.out.trans hx1
    clear hx1
    go_wp2
    go_ret
    exact ⟨rfl, hx.out⟩
  · obtain ⟨V, hV⟩ : ∃ V : Int, a0 % 100000 = V := ⟨_, rfl⟩
    obtain ⟨v0, v1⟩ : 0 ≤ V ∧ V < 100000 := by omega
    obtain ⟨R, hR⟩ : ∃ R : Int, V * 1000000 = R := ⟨_, rfl⟩
    have hw : wrap64 (V * 1000000) = R := by unfold wrap64; omega
    have iV : I64 V := ⟨by omega, by omega⟩
    have iR : I64 R := ⟨by omega, by omega⟩
    have b1 := badM_none V v0 4
    have b2 := badR_none R (by omega) 4
    have l1 := (money_len' V iV)
    have l2 := (rate_len' R iR)
    generalize gM : moneyL V = M at *
    generalize gR : rateL R = T at *
    have b3 := badM_len M l1 4
    have b4 := badR_len T l2 4
    have f1 : ¬ 9223372036854775807 < 1 + M.length := by omega
    have f2 : ¬ 9223372036854775807 < M.length + 1 := by omega
    have f3 : ¬ 9223372036854775807 < 2 + M.length := by omega
    have f4 : ¬ 9223372036854775807 < 1 + T.length := by omega
    have f5 : ¬ 9223372036854775807 < T.length + 1 := by omega
    have f6 : ¬ 9223372036854775807 < 2 + T.length := by omega
    replace gM := show Hid _ from gM
    replace gR := show Hid _ from gR
    replace b1 := show Hid _ from b1
    replace b2 := show Hid _ from b2
    replace b3 : Hid _ := show Hid _ from b3
    replace b4 : Hid _ := show Hid _ from b4
    clear hw i1 i2
    go_enter Tryd.func5, Tryd.ntmps5
    go_wp2_with fail
    refine (money_x V M gM.out _ iV he.out).mono ?_
    rintro e w1 ⟨rfl, hx1⟩
    have hx : Hid (Ext w w1) := hx1
    clear hx1
    go_wp2_with fail
    refine (rate_x R T gR.out _ iR (Env.ext he.out hx.out)).mono ?_
    rintro e w1 ⟨rfl, hx1⟩
    replace hx : Hid (Ext w w1) := hx.out.trans hx1
    clear hx1
    go_wp2_with fail
    refine (takeMoney_x (badM M 4) _ _ b1.out _ b3.out (Env.ext he.out (Ext.alloc (Ext.alloc hx.out _ _) _ _))).mono ?_
    rintro e w2 ⟨rfl, hx1⟩
    replace hx : Hid (Ext w w2) := (Ext.alloc (Ext.alloc hx.out _ _) _ _).trans hx1
    clear hx1
    go_wp2_with fail
    refine (takeRate_x (badR T 4) _ _ b2.out _ b4.out (Env.ext he.out hx.out)).mono ?_
    rintro e w3 ⟨rfl, hx1⟩
    replace hx : Hid (Ext w w3) := hx.out.trans hx1
    clear hx1
    go_wp2_with fail
    refine (awake_c _ (Env.ext he.out hx.out)).mono ?_
    rintro e w3 ⟨rfl, hx1⟩
    replace hx : Hid (Ext w w3) := hx.out.trans hx1
    clear hx1
    go_wp2
    go_ret
    exact ⟨rfl, hx.out⟩
set_option maxHeartbeats 4000000 in
theorem at5 (a0 a1 : Int) (i0 : I64 a0) (w : World) (he : Hid (Env w)) (hK : wrap64 ((IntKind.u64.wrap a1).tmod 13) = 5) :
    Calls Tryd.prog 5 #[.int .i64 a0, .int .i64 a1] w fun e w' => e = .returned (.bool true) ∧ Ext w w' := by
  obtain ⟨i1, i2⟩ := i0
  by_cases hs : a0 < 0
  · obtain ⟨V, hV⟩ : ∃ V : Int, (wrap64 (-wrap64 (a0 + 1))).tmod 100000 = V := ⟨_, rfl⟩
    obtain ⟨v0, v1⟩ : 0 ≤ V ∧ V < 100000 := by
      rw [← hV]
      have e : 0 ≤ wrap64 (-wrap64 (a0 + 1)) := by unfold wrap64; omega
      exact ⟨Int.tmod_nonneg 100000 e, Int.tmod_lt_of_pos _ (by omega)⟩
    obtain ⟨R, hR⟩ : ∃ R : Int, V * 1000000 = R := ⟨_, rfl⟩
    have hw : wrap64 (V * 1000000) = R := by unfold wrap64; omega
    have iV : I64 V := ⟨by omega, by omega⟩
    have iR : I64 R := ⟨by omega, by omega⟩
    have b1 := badM_none V v0 5
    have b2 := badR_none R (by omega) 5
    have l1 := (money_len' V iV)
    have l2 := (rate_len' R iR)
    generalize gM : moneyL V = M at *
    generalize gR : rateL R = T at *
    have b3 := badM_len M l1 5
    have b4 := badR_len T l2 5
    have f1 : ¬ 9223372036854775807 < 1 + M.length := by omega
    have f2 : ¬ 9223372036854775807 < M.length + 1 := by omega
    have f3 : ¬ 9223372036854775807 < 2 + M.length := by omega
    have f4 : ¬ 9223372036854775807 < 1 + T.length := by omega
    have f5 : ¬ 9223372036854775807 < T.length + 1 := by omega
    have f6 : ¬ 9223372036854775807 < 2 + T.length := by omega
    replace gM := show Hid _ from gM
    replace gR := show Hid _ from gR
    replace b1 := show Hid _ from b1
    replace b2 := show Hid _ from b2
    replace b3 : Hid _ := show Hid _ from b3
    replace b4 : Hid _ := show Hid _ from b4
    clear hw i1 i2
    go_enter Tryd.func5, Tryd.ntmps5
    go_wp2_with fail
    refine (money_x V M gM.out _ iV he.out).mono ?_
    rintro e w1 ⟨rfl, hx1⟩
    have hx : Hid (Ext w w1) := hx1
    clear hx1
    go_wp2_with fail
    refine (rate_x R T gR.out _ iR (Env.ext he.out hx.out)).mono ?_
    rintro e w1 ⟨rfl, hx1⟩
    replace hx : Hid (Ext w w1) := hx.out.trans hx1
    clear hx1
    go_wp2_with fail
    refine (takeMoney_x (badM M 5) _ _ b1.out _ b3.out (Env.ext he.out (Ext.alloc (Ext.alloc hx.out _ _) _ _))).mono ?_
    rintro e w2 ⟨rfl, hx1⟩
    replace hx : Hid (Ext w w2) := (Ext.alloc (Ext.alloc hx.out _ _) _ _).trans hx1
    clear hx1
    go_wp2_with fail
    refine (takeRate_x (badR T 5) _ _ b2.out _ b4.out (Env.ext he.out hx.out)).mono ?_
    rintro e w3 ⟨rfl, hx1⟩
    replace hx : Hid (Ext w w3) := hx.out.trans hx1
    clear hx1
    go_wp2_with fail
    refine (awake_c _ (Env.ext he.out hx.out)).mono ?_
    rintro e w3 ⟨rfl, hx1⟩
    replace hx : Hid (Ext w w3) := hx.out.trans hx1
    clear hx1
    go_wp2
    go_ret
    exact ⟨rfl, hx.out⟩
  · obtain ⟨V, hV⟩ : ∃ V : Int, a0 % 100000 = V := ⟨_, rfl⟩
    obtain ⟨v0, v1⟩ : 0 ≤ V ∧ V < 100000 := by omega
    obtain ⟨R, hR⟩ : ∃ R : Int, V * 1000000 = R := ⟨_, rfl⟩
    have hw : wrap64 (V * 1000000) = R := by unfold wrap64; omega
    have iV : I64 V := ⟨by omega, by omega⟩
    have iR : I64 R := ⟨by omega, by omega⟩
    have b1 := badM_none V v0 5
    have b2 := badR_none R (by omega) 5
    have l1 := (money_len' V iV)
    have l2 := (rate_len' R iR)
    generalize gM : moneyL V = M at *
    generalize gR : rateL R = T at *
    have b3 := badM_len M l1 5
    have b4 := badR_len T l2 5
    have f1 : ¬ 9223372036854775807 < 1 + M.length := by omega
    have f2 : ¬ 9223372036854775807 < M.length + 1 := by omega
    have f3 : ¬ 9223372036854775807 < 2 + M.length := by omega
    have f4 : ¬ 9223372036854775807 < 1 + T.length := by omega
    have f5 : ¬ 9223372036854775807 < T.length + 1 := by omega
    have f6 : ¬ 9223372036854775807 < 2 + T.length := by omega
    replace gM := show Hid _ from gM
    replace gR := show Hid _ from gR
    replace b1 := show Hid _ from b1
    replace b2 := show Hid _ from b2
    replace b3 : Hid _ := show Hid _ from b3
    replace b4 : Hid _ := show Hid _ from b4
    clear hw i1 i2
    go_enter Tryd.func5, Tryd.ntmps5
    go_wp2_with fail
    refine (money_x V M gM.out _ iV he.out).mono ?_
    rintro e w1 ⟨rfl, hx1⟩
    have hx : Hid (Ext w w1) := hx1
    clear hx1
    go_wp2_with fail
    refine (rate_x R T gR.out _ iR (Env.ext he.out hx.out)).mono ?_
    rintro e w1 ⟨rfl, hx1⟩
    replace hx : Hid (Ext w w1) := hx.out.trans hx1
    clear hx1
    go_wp2_with fail
    refine (takeMoney_x (badM M 5) _ _ b1.out _ b3.out (Env.ext he.out (Ext.alloc (Ext.alloc hx.out _ _) _ _))).mono ?_
    rintro e w2 ⟨rfl, hx1⟩
    replace hx : Hid (Ext w w2) := (Ext.alloc (Ext.alloc hx.out _ _) _ _).trans hx1
    clear hx1
    go_wp2_with fail
    refine (takeRate_x (badR T 5) _ _ b2.out _ b4.out (Env.ext he.out hx.out)).mono ?_
    rintro e w3 ⟨rfl, hx1⟩
    replace hx : Hid (Ext w w3) := hx.out.trans hx1
    clear hx1
    go_wp2_with fail
    refine (awake_c _ (Env.ext he.out hx.out)).mono ?_
    rintro e w3 ⟨rfl, hx1⟩
    replace hx : Hid (Ext w w3) := hx.out.trans hx1
    clear hx1
    go_wp2
    go_ret
    exact ⟨rfl, hx.out⟩
set_option maxHeartbeats 4000000 in
theorem at6 (a0 a1 : Int) (i0 : I64 a0) (w : World) (he : Hid (Env w)) (hK : wrap64 ((IntKind.u64.wrap a1).tmod 13) = 6) :
    Calls Tryd.prog 5 #[.int .i64 a0, .int .i64 a1] w fun e w' => e = .returned (.bool true) ∧ Ext w w' := by
  obtain ⟨i1, i2⟩ := i0
  by_cases hs : a0 < 0
  · obtain ⟨V, hV⟩ : ∃ V : Int, (wrap64 (-wrap64 (a0 + 1))).tmod 100000 = V := ⟨_, rfl⟩
    obtain ⟨v0, v1⟩ : 0 ≤ V ∧ V < 100000 := by
      rw [← hV]
      have e : 0 ≤ wrap64 (-wrap64 (a0 + 1)) := by unfold wrap64; omega
      exact ⟨Int.tmod_nonneg 100000 e, Int.tmod_lt_of_pos _ (by omega)⟩
    obtain ⟨R, hR⟩ : ∃ R : Int, V * 1000000 = R := ⟨_, rfl⟩
    have hw : wrap64 (V * 1000000) = R := by unfold wrap64; omega
    have iV : I64 V := ⟨by omega, by omega⟩
    have iR : I64 R := ⟨by omega, by omega⟩
    have b1 := badM_none V v0 6
    have b2 := badR_none R (by omega) 6
    have l1 := (money_len' V iV)
    have l2 := (rate_len' R iR)
    generalize gM : moneyL V = M at *
    generalize gR : rateL R = T at *
    have b3 := badM_len M l1 6
    have b4 := badR_len T l2 6
    have f1 : ¬ 9223372036854775807 < 1 + M.length := by omega
    have f2 : ¬ 9223372036854775807 < M.length + 1 := by omega
    have f3 : ¬ 9223372036854775807 < 2 + M.length := by omega
    have f4 : ¬ 9223372036854775807 < 1 + T.length := by omega
    have f5 : ¬ 9223372036854775807 < T.length + 1 := by omega
    have f6 : ¬ 9223372036854775807 < 2 + T.length := by omega
    replace gM := show Hid _ from gM
    replace gR := show Hid _ from gR
    replace b1 := show Hid _ from b1
    replace b2 := show Hid _ from b2
    replace b3 : Hid _ := show Hid _ from b3
    replace b4 : Hid _ := show Hid _ from b4
    clear hw i1 i2
    go_enter Tryd.func5, Tryd.ntmps5
    go_wp2_with fail
    refine (money_x V M gM.out _ iV he.out).mono ?_
    rintro e w1 ⟨rfl, hx1⟩
    have hx : Hid (Ext w w1) := hx1
    clear hx1
    go_wp2_with fail
    refine (rate_x R T gR.out _ iR (Env.ext he.out hx.out)).mono ?_
    rintro e w1 ⟨rfl, hx1⟩
    replace hx : Hid (Ext w w1) := hx.out.trans hx1
    clear hx1
    go_wp2_with fail
    refine (takeMoney_x (badM M 6) _ _ b1.out _ b3.out (Env.ext he.out (Ext.alloc (Ext.alloc hx.out _ _) _ _))).mono ?_
    rintro e w2 ⟨rfl, hx1⟩
    replace hx : Hid (Ext w w2) := (Ext.alloc (Ext.alloc hx.out _ _) _ _).trans hx1
    clear hx1
    go_wp2_with fail
    refine (takeRate_x (badR T 6) _ _ b2.out _ b4.out (Env.ext he.out hx.out)).mono ?_
    rintro e w3 ⟨rfl, hx1⟩
    replace hx : Hid (Ext w w3) := hx.out.trans hx1
    clear hx1
    go_wp2_with fail
    refine (awake_c _ (Env.ext he.out hx.out)).mono ?_
    rintro e w3 ⟨rfl, hx1⟩
    replace hx : Hid (Ext w w3) := hx.out.trans hx1
    clear hx1
    go_wp2
    go_ret
    exact ⟨rfl, hx.out⟩
  · obtain ⟨V, hV⟩ : ∃ V : Int, a0 % 100000 = V := ⟨_, rfl⟩
    obtain ⟨v0, v1⟩ : 0 ≤ V ∧ V < 100000 := by omega
    obtain ⟨R, hR⟩ : ∃ R : Int, V * 1000000 = R := ⟨_, rfl⟩
    have hw : wrap64 (V * 1000000) = R := by unfold wrap64; omega
    have iV : I64 V := ⟨by omega, by omega⟩
    have iR : I64 R := ⟨by omega, by omega⟩
    have b1 := badM_none V v0 6
    have b2 := badR_none R (by omega) 6
    have l1 := (money_len' V iV)
    have l2 := (rate_len' R iR)
    generalize gM : moneyL V = M at *
    generalize gR : rateL R = T at *
    have b3 := badM_len M l1 6
    have b4 := badR_len T l2 6
    have f1 : ¬ 9223372036854775807 < 1 + M.length := by omega
    have f2 : ¬ 9223372036854775807 < M.length + 1 := by omega
    have f3 : ¬ 9223372036854775807 < 2 + M.length := by omega
    have f4 : ¬ 9223372036854775807 < 1 + T.length := by omega
    have f5 : ¬ 9223372036854775807 < T.length + 1 := by omega
    have f6 : ¬ 9223372036854775807 < 2 + T.length := by omega
    replace gM := show Hid _ from gM
    replace gR := show Hid _ from gR
    replace b1 := show Hid _ from b1
    replace b2 := show Hid _ from b2
    replace b3 : Hid _ := show Hid _ from b3
    replace b4 : Hid _ := show Hid _ from b4
    clear hw i1 i2
    go_enter Tryd.func5, Tryd.ntmps5
    go_wp2_with fail
    refine (money_x V M gM.out _ iV he.out).mono ?_
    rintro e w1 ⟨rfl, hx1⟩
    have hx : Hid (Ext w w1) := hx1
    clear hx1
    go_wp2_with fail
    refine (rate_x R T gR.out _ iR (Env.ext he.out hx.out)).mono ?_
    rintro e w1 ⟨rfl, hx1⟩
    replace hx : Hid (Ext w w1) := hx.out.trans hx1
    clear hx1
    go_wp2_with fail
    refine (takeMoney_x (badM M 6) _ _ b1.out _ b3.out (Env.ext he.out (Ext.alloc (Ext.alloc hx.out _ _) _ _))).mono ?_
    rintro e w2 ⟨rfl, hx1⟩
    replace hx : Hid (Ext w w2) := (Ext.alloc (Ext.alloc hx.out _ _) _ _).trans hx1
    clear hx1
    go_wp2_with fail
    refine (takeRate_x (badR T 6) _ _ b2.out _ b4.out (Env.ext he.out hx.out)).mono ?_
    rintro e w3 ⟨rfl, hx1⟩
    replace hx : Hid (Ext w w3) := hx.out.trans hx1
    clear hx1
    go_wp2_with fail
    refine (awake_c _ (Env.ext he.out hx.out)).mono ?_
    rintro e w3 ⟨rfl, hx1⟩
    replace hx : Hid (Ext w w3) := hx.out.trans hx1
    clear hx1
    go_wp2
    go_ret
    exact ⟨rfl, hx.out⟩
set_option maxHeartbeats 4000000 in
theorem at7 (a0 a1 : Int) (i0 : I64 a0) (w : World) (he : Hid (Env w)) (hK : wrap64 ((IntKind.u64.wrap a1).tmod 13) = 7) :
    Calls Tryd.prog 5 #[.int .i64 a0, .int .i64 a1] w fun e w' => e = .returned (.bool true) ∧ Ext w w' := by
  obtain ⟨i1, i2⟩ := i0
  by_cases hs : a0 < 0
  · obtain ⟨V, hV⟩ : ∃ V : Int, (wrap64 (-wrap64 (a0 + 1))).tmod 100000 = V := ⟨_, rfl⟩
    obtain ⟨v0, v1⟩ : 0 ≤ V ∧ V < 100000 := by
      rw [← hV]
      have e : 0 ≤ wrap64 (-wrap64 (a0 + 1)) := by unfold wrap64; omega
      exact ⟨Int.tmod_nonneg 100000 e, Int.tmod_lt_of_pos _ (by omega)⟩
    obtain ⟨R, hR⟩ : ∃ R : Int, V * 1000000 = R := ⟨_, rfl⟩
    have hw : wrap64 (V * 1000000) = R := by unfold wrap64; omega
    have iV : I64 V := ⟨by omega, by omega⟩
    have iR : I64 R := ⟨by omega, by omega⟩
    have b1 := badM_none V v0 7
    have b2 := badR_none R (by omega) 7
    have l1 := (money_len' V iV)
    have l2 := (rate_len' R iR)
    generalize gM : moneyL V = M at *
    generalize gR : rateL R = T at *
    have b3 := badM_len M l1 7
    have b4 := badR_len T l2 7
    have f1 : ¬ 9223372036854775807 < 1 + M.length := by omega
    have f2 : ¬ 9223372036854775807 < M.length + 1 := by omega
    have f3 : ¬ 9223372036854775807 < 2 + M.length := by omega
    have f4 : ¬ 9223372036854775807 < 1 + T.length := by omega
    have f5 : ¬ 9223372036854775807 < T.length + 1 := by omega
    have f6 : ¬ 9223372036854775807 < 2 + T.length := by omega
    replace gM := show Hid _ from gM
    replace gR := show Hid _ from gR
    replace b1 := show Hid _ from b1
    replace b2 := show Hid _ from b2
    replace b3 : Hid _ := show Hid _ from b3
    replace b4 : Hid _ := show Hid _ from b4
    clear hw i1 i2
    go_enter Tryd.func5, Tryd.ntmps5
    go_wp2_with fail
    refine (money_x V M gM.out _ iV he.out).mono ?_
    rintro e w1 ⟨rfl, hx1⟩
    have hx : Hid (Ext w w1) := hx1
    clear hx1
    go_wp2_with fail
    refine (rate_x R T gR.out _ iR (Env.ext he.out hx.out)).mono ?_
    rintro e w1 ⟨rfl, hx1⟩
    replace hx : Hid (Ext w w1) := hx.out.trans hx1
    clear hx1
    go_wp2_with fail
    refine (takeMoney_x (badM M 7) _ _ b1.out _ b3.out (Env.ext he.out (Ext.alloc (Ext.alloc hx.out _ _) _ _))).mono ?_
    rintro e w2 ⟨rfl, hx1⟩
    replace hx : Hid (Ext w w2) := (Ext.alloc (Ext.alloc hx.out _ _) _ _).trans hx1
    clear hx1
    go_wp2_with fail
    refine (takeRate_x (badR T 7) _ _ b2.out _ b4.out (Env.ext he.out hx.out)).mono ?_
    rintro e w3 ⟨rfl, hx1⟩
    replace hx : Hid (Ext w w3) := hx.out.trans hx1
    clear hx1
    go_wp2_with fail
    refine (awake_c _ (Env.ext he.out hx.out)).mono ?_
    rintro e w3 ⟨rfl, hx1⟩
    replace hx : Hid (Ext w w3) := hx.out.trans hx1
    clear hx1
    go_wp2
    go_ret
    exact ⟨rfl, hx.out⟩
  · obtain ⟨V, hV⟩ : ∃ V : Int, a0 % 100000 = V := ⟨_, rfl⟩
    obtain ⟨v0, v1⟩ : 0 ≤ V ∧ V < 100000 := by omega
    obtain ⟨R, hR⟩ : ∃ R : Int, V * 1000000 = R := ⟨_, rfl⟩
    have hw : wrap64 (V * 1000000) = R := by unfold wrap64; omega
    have iV : I64 V := ⟨by omega, by omega⟩
    have iR : I64 R := ⟨by omega, by omega⟩
    have b1 := badM_none V v0 7
    have b2 := badR_none R (by omega) 7
    have l1 := (money_len' V iV)
    have l2 := (rate_len' R iR)
    generalize gM : moneyL V = M at *
    generalize gR : rateL R = T at *
    have b3 := badM_len M l1 7
    have b4 := badR_len T l2 7
    have f1 : ¬ 9223372036854775807 < 1 + M.length := by omega
    have f2 : ¬ 9223372036854775807 < M.length + 1 := by omega
    have f3 : ¬ 9223372036854775807 < 2 + M.length := by omega
    have f4 : ¬ 9223372036854775807 < 1 + T.length := by omega
    have f5 : ¬ 9223372036854775807 < T.length + 1 := by omega
    have f6 : ¬ 9223372036854775807 < 2 + T.length := by omega
    replace gM := show Hid _ from gM
    replace gR := show Hid _ from gR
    replace b1 := show Hid _ from b1
    replace b2 := show Hid _ from b2
    replace b3 : Hid _ := show Hid _ from b3
    replace b4 : Hid _ := show Hid _ from b4
    clear hw i1 i2
    go_enter Tryd.func5, Tryd.ntmps5
    go_wp2_with fail
    refine (money_x V M gM.out _ iV he.out).mono ?_
    rintro e w1 ⟨rfl, hx1⟩
    have hx : Hid (Ext w w1) := hx1
    clear hx1
    go_wp2_with fail
    refine (rate_x R T gR.out _ iR (Env.ext he.out hx.out)).mono ?_
    rintro e w1 ⟨rfl, hx1⟩
    replace hx : Hid (Ext w w1) := hx.out.trans hx1
    clear hx1
    go_wp2_with fail
    refine (takeMoney_x (badM M 7) _ _ b1.out _ b3.out (Env.ext he.out (Ext.alloc (Ext.alloc hx.out _ _) _ _))).mono ?_
    rintro e w2 ⟨rfl, hx1⟩
    replace hx : Hid (Ext w w2) := (Ext.alloc (Ext.alloc hx.out _ _) _ _).trans hx1
    clear hx1
    go_wp2_with fail
    refine (takeRate_x (badR T 7) _ _ b2.out _ b4.out (Env.ext he.out hx.out)).mono ?_
    rintro e w3 ⟨rfl, hx1⟩
    replace hx : Hid (Ext w w3) := hx.out.trans hx1
    clear hx1
    go_wp2_with fail
    refine (awake_c _ (Env.ext he.out hx.out)).mono ?_
    rintro e w3 ⟨rfl, hx1⟩
    replace hx : Hid (Ext w w3) := hx.out.trans hx1
    clear hx1
    go_wp2
    go_ret
    exact ⟨rfl, hx.out⟩
set_option maxHeartbeats 4000000 in
theorem at8 (a0 a1 : Int) (i0 : I64 a0) (w : World) (he : Hid (Env w)) (hK : wrap64 ((IntKind.u64.wrap a1).tmod 13) = 8) :
    Calls Tryd.prog 5 #[.int .i64 a0, .int .i64 a1] w fun e w' => e = .returned (.bool true) ∧ Ext w w' := by
  obtain ⟨i1, i2⟩ := i0
  by_cases hs : a0 < 0
  · obtain ⟨V, hV⟩ : ∃ V : Int, (wrap64 (-wrap64 (a0 + 1))).tmod 100000 = V := ⟨_, rfl⟩
    obtain ⟨v0, v1⟩ : 0 ≤ V ∧ V < 100000 := by
      rw [← hV]
      have e : 0 ≤ wrap64 (-wrap64 (a0 + 1)) := by unfold wrap64; omega
      exact ⟨Int.tmod_nonneg 100000 e, Int.tmod_lt_of_pos _ (by omega)⟩
    obtain ⟨R, hR⟩ : ∃ R : Int, V * 1000000 = R := ⟨_, rfl⟩
    have hw : wrap64 (V * 1000000) = R := by unfold wrap64; omega
    have iV : I64 V := ⟨by omega, by omega⟩
    have iR : I64 R := ⟨by omega, by omega⟩
    have b1 := badM_none V v0 8
    have b2 := badR_none R (by omega) 8
    have l1 := (money_len' V iV)
    have l2 := (rate_len' R iR)
    generalize gM : moneyL V = M at *
    generalize gR : rateL R = T at *
    have b3 := badM_len M l1 8
    have b4 := badR_len T l2 8
    have f1 : ¬ 9223372036854775807 < 1 + M.length := by omega
    have f2 : ¬ 9223372036854775807 < M.length + 1 := by omega
    have f3 : ¬ 9223372036854775807 < 2 + M.length := by omega
    have f4 : ¬ 9223372036854775807 < 1 + T.length := by omega
    have f5 : ¬ 9223372036854775807 < T.length + 1 := by omega
    have f6 : ¬ 9223372036854775807 < 2 + T.length := by omega
    replace gM := show Hid _ from gM
    replace gR := show Hid _ from gR
    replace b1 := show Hid _ from b1
    replace b2 := show Hid _ from b2
    replace b3 : Hid _ := show Hid _ from b3
    replace b4 : Hid _ := show Hid _ from b4
    clear hw i1 i2
    go_enter Tryd.func5, Tryd.ntmps5
    go_wp2_with fail
    refine (money_x V M gM.out _ iV he.out).mono ?_
    rintro e w1 ⟨rfl, hx1⟩
    have hx : Hid (Ext w w1) := hx1
    clear hx1
    go_wp2_with fail
    refine (rate_x R T gR.out _ iR (Env.ext he.out hx.out)).mono ?_
    rintro e w1 ⟨rfl, hx1⟩
    replace hx : Hid (Ext w w1) := hx.out.trans hx1
    clear hx1
    go_wp2_with fail
    refine (takeMoney_x (badM M 8) _ _ b1.out _ b3.out (Env.ext he.out (Ext.alloc (Ext.alloc hx.out _ _) _ _))).mono ?_
    rintro e w2 ⟨rfl, hx1⟩
    replace hx : Hid (Ext w w2) := (Ext.alloc (Ext.alloc hx.out _ _) _ _).trans hx1
    clear hx1
    go_wp2_with fail
    refine (takeRate_x (badR T 8) _ _ b2.out _ b4.out (Env.ext he.out hx.out)).mono ?_
    rintro e w3 ⟨rfl, hx1⟩
    replace hx : Hid (Ext w w3) := hx.out.trans hx1
    clear hx1
    go_wp2_with fail
    refine (awake_c _ (Env.ext he.out hx.out)).mono ?_
    rintro e w3 ⟨rfl, hx1⟩
    replace hx : Hid (Ext w w3) := hx.out.trans hx1
    clear hx1
    go_wp2
    go_ret
    exact ⟨rfl, hx.out⟩
  · obtain ⟨V, hV⟩ : ∃ V : Int, a0 % 100000 = V := ⟨_, rfl⟩
    obtain ⟨v0, v1⟩ : 0 ≤ V ∧ V < 100000 := by omega
    obtain ⟨R, hR⟩ : ∃ R : Int, V * 1000000 = R := ⟨_, rfl⟩
    have hw : wrap64 (V * 1000000) = R := by unfold wrap64; omega
    have iV : I64 V := ⟨by omega, by omega⟩
    have iR : I64 R := ⟨by omega, by omega⟩
    have b1 := badM_none V v0 8
    have b2 := badR_none R (by omega) 8
    have l1 := (money_len' V iV)
    have l2 := (rate_len' R iR)
    generalize gM : moneyL V = M at *
    generalize gR : rateL R = T at *
    have b3 := badM_len M l1 8
    have b4 := badR_len T l2 8
    have f1 : ¬ 9223372036854775807 < 1 + M.length := by omega
    have f2 : ¬ 9223372036854775807 < M.length + 1 := by omega
    have f3 : ¬ 9223372036854775807 < 2 + M.length := by omega
    have f4 : ¬ 9223372036854775807 < 1 + T.length := by omega
    have f5 : ¬ 9223372036854775807 < T.length + 1 := by omega
    have f6 : ¬ 9223372036854775807 < 2 + T.length := by omega
    replace gM := show Hid _ from gM
    replace gR := show Hid _ from gR
    replace b1 := show Hid _ from b1
    replace b2 := show Hid _ from b2
    replace b3 : Hid _ := show Hid _ from b3
    replace b4 : Hid _ := show Hid _ from b4
    clear hw i1 i2
    go_enter Tryd.func5, Tryd.ntmps5
    go_wp2_with fail
    refine (money_x V M gM.out _ iV he.out).mono ?_
    rintro e w1 ⟨rfl, hx1⟩
    have hx : Hid (Ext w w1) := hx1
    clear hx1
    go_wp2_with fail
    refine (rate_x R T gR.out _ iR (Env.ext he.out hx.out)).mono ?_
    rintro e w1 ⟨rfl, hx1⟩
    replace hx : Hid (Ext w w1) := hx.out.trans hx1
    clear hx1
    go_wp2_with fail
    refine (takeMoney_x (badM M 8) _ _ b1.out _ b3.out (Env.ext he.out (Ext.alloc (Ext.alloc hx.out _ _) _ _))).mono ?_
    rintro e w2 ⟨rfl, hx1⟩
    replace hx : Hid (Ext w w2) := (Ext.alloc (Ext.alloc hx.out _ _) _ _).trans hx1
    clear hx1
    go_wp2_with fail
    refine (takeRate_x (badR T 8) _ _ b2.out _ b4.out (Env.ext he.out hx.out)).mono ?_
    rintro e w3 ⟨rfl, hx1⟩
    replace hx : Hid (Ext w w3) := hx.out.trans hx1
    clear hx1
    go_wp2_with fail
    refine (awake_c _ (Env.ext he.out hx.out)).mono ?_
    rintro e w3 ⟨rfl, hx1⟩
    replace hx : Hid (Ext w w3) := hx.out.trans hx1
    clear hx1
    go_wp2
    go_ret
    exact ⟨rfl, hx.out⟩
set_option maxHeartbeats 4000000 in
theorem at9 (a0 a1 : Int) (i0 : I64 a0) (w : World) (he : Hid (Env w)) (hK : wrap64 ((IntKind.u64.wrap a1).tmod 13) = 9) :
    Calls Tryd.prog 5 #[.int .i64 a0, .int .i64 a1] w fun e w' => e = .returned (.bool true) ∧ Ext w w' := by
  obtain ⟨i1, i2⟩ := i0
  by_cases hs : a0 < 0
  · obtain ⟨V, hV⟩ : ∃ V : Int, (wrap64 (-wrap64 (a0 + 1))).tmod 100000 = V := ⟨_, rfl⟩
    obtain ⟨v0, v1⟩ : 0 ≤ V ∧ V < 100000 := by
      rw [← hV]
      have e : 0 ≤ wrap64 (-wrap64 (a0 + 1)) := by unfold wrap64; omega
      exact ⟨Int.tmod_nonneg 100000 e, Int.tmod_lt_of_pos _ (by omega)⟩
    obtain ⟨R, hR⟩ : ∃ R : Int, V * 1000000 = R := ⟨_, rfl⟩
    have hw : wrap64 (V * 1000000) = R := by unfold wrap64; omega
    have iV : I64 V := ⟨by omega, by omega⟩
    have iR : I64 R := ⟨by omega, by omega⟩
    have b1 := badM_none V v0 9
    have b2 := badR_none R (by omega) 9
    have l1 := (money_len' V iV)
    have l2 := (rate_len' R iR)
    generalize gM : moneyL V = M at *
    generalize gR : rateL R = T at *
    have b3 := badM_len M l1 9
    have b4 := badR_len T l2 9
    have f1 : ¬ 9223372036854775807 < 1 + M.length := by omega
    have f2 : ¬ 9223372036854775807 < M.length + 1 := by omega
    have f3 : ¬ 9223372036854775807 < 2 + M.length := by omega
    have f4 : ¬ 9223372036854775807 < 1 + T.length := by omega
    have f5 : ¬ 9223372036854775807 < T.length + 1 := by omega
    have f6 : ¬ 9223372036854775807 < 2 + T.length := by omega
    replace gM := show Hid _ from gM
    replace gR := show Hid _ from gR
    replace b1 := show Hid _ from b1
    replace b2 := show Hid _ from b2
    replace b3 : Hid _ := show Hid _ from b3
    replace b4 : Hid _ := show Hid _ from b4
    clear hw i1 i2
    go_enter Tryd.func5, Tryd.ntmps5
    go_wp2_with fail
    refine (money_x V M gM.out _ iV he.out).mono ?_
    rintro e w1 ⟨rfl, hx1⟩
    have hx : Hid (Ext w w1) := hx1
    clear hx1
    go_wp2_with fail
    refine (rate_x R T gR.out _ iR (Env.ext he.out hx.out)).mono ?_
    rintro e w1 ⟨rfl, hx1⟩
    replace hx : Hid (Ext w w1) := hx.out.trans hx1
    clear hx1
    go_wp2_with fail
    refine (takeMoney_x (badM M 9) _ _ b1.out _ b3.out (Env.ext he.out (Ext.alloc (Ext.alloc hx.out _ _) _ _))).mono ?_
    rintro e w2 ⟨rfl, hx1⟩
    replace hx : Hid (Ext w w2) := (Ext.alloc (Ext.alloc hx.out _ _) _ _).trans hx1
    clear hx1
    go_wp2_with fail
    refine (takeRate_x (badR T 9) _ _ b2.out _ b4.out (Env.ext he.out hx.out)).mono ?_
    rintro e w3 ⟨rfl, hx1⟩
    replace hx : Hid (Ext w w3) := hx.out.trans hx1
    clear hx1
    go_wp2_with fail
    refine (awake_c _ (Env.ext he.out hx.out)).mono ?_
    rintro e w3 ⟨rfl, hx1⟩
    replace hx : Hid (Ext w w3) := hx.out.trans hx1
    clear hx1
    go_wp2
    go_ret
    exact ⟨rfl, hx.out⟩
  · obtain ⟨V, hV⟩ : ∃ V : Int, a0 % 100000 = V := ⟨_, rfl⟩
    obtain ⟨v0, v1⟩ : 0 ≤ V ∧ V < 100000 := by omega
    obtain ⟨R, hR⟩ : ∃ R : Int, V * 1000000 = R := ⟨_, rfl⟩
    have hw : wrap64 (V * 1000000) = R := by unfold wrap64; omega
    have iV : I64 V := ⟨by omega, by omega⟩
    have iR : I64 R := ⟨by omega, by omega⟩
    have b1 := badM_none V v0 9
    have b2 := badR_none R (by omega) 9
    have l1 := (money_len' V iV)
    have l2 := (rate_len' R iR)
    generalize gM : moneyL V = M at *
    generalize gR : rateL R = T at *
    have b3 := badM_len M l1 9
    have b4 := badR_len T l2 9
    have f1 : ¬ 9223372036854775807 < 1 + M.length := by omega
    have f2 : ¬ 9223372036854775807 < M.length + 1 := by omega
    have f3 : ¬ 9223372036854775807 < 2 + M.length := by omega
    have f4 : ¬ 9223372036854775807 < 1 + T.length := by omega
    have f5 : ¬ 9223372036854775807 < T.length + 1 := by omega
    have f6 : ¬ 9223372036854775807 < 2 + T.length := by omega
    replace gM := show Hid _ from gM
    replace gR := show Hid _ from gR
    replace b1 := show Hid _ from b1
    replace b2 := show Hid _ from b2
    replace b3 : Hid _ := show Hid _ from b3
    replace b4 : Hid _ := show Hid _ from b4
    clear hw i1 i2
    go_enter Tryd.func5, Tryd.ntmps5
    go_wp2_with fail
    refine (money_x V M gM.out _ iV he.out).mono ?_
    rintro e w1 ⟨rfl, hx1⟩
    have hx : Hid (Ext w w1) := hx1
    clear hx1
    go_wp2_with fail
    refine (rate_x R T gR.out _ iR (Env.ext he.out hx.out)).mono ?_
    rintro e w1 ⟨rfl, hx1⟩
    replace hx : Hid (Ext w w1) := hx.out.trans hx1
    clear hx1
    go_wp2_with fail
    refine (takeMoney_x (badM M 9) _ _ b1.out _ b3.out (Env.ext he.out (Ext.alloc (Ext.alloc hx.out _ _) _ _))).mono ?_
    rintro e w2 ⟨rfl, hx1⟩
    replace hx : Hid (Ext w w2) := (Ext.alloc (Ext.alloc hx.out _ _) _ _).trans hx1
    clear hx1
    go_wp2_with fail
    refine (takeRate_x (badR T 9) _ _ b2.out _ b4.out (Env.ext he.out hx.out)).mono ?_
    rintro e w3 ⟨rfl, hx1⟩
    replace hx : Hid (Ext w w3) := hx.out.trans hx1
    clear hx1
    go_wp2_with fail
    refine (awake_c _ (Env.ext he.out hx.out)).mono ?_
    rintro e w3 ⟨rfl, hx1⟩
    replace hx : Hid (Ext w w3) := hx.out.trans hx1
    clear hx1
    go_wp2
    go_ret
    exact ⟨rfl, hx.out⟩
set_option maxHeartbeats 4000000 in
theorem at10 (a0 a1 : Int) (i0 : I64 a0) (w : World) (he : Hid (Env w)) (hK : wrap64 ((IntKind.u64.wrap a1).tmod 13) = 10) :
    Calls Tryd.prog 5 #[.int .i64 a0, .int .i64 a1] w fun e w' => e = .returned (.bool true) ∧ Ext w w' := by
  obtain ⟨i1, i2⟩ := i0
  by_cases hs : a0 < 0
  · obtain ⟨V, hV⟩ : ∃ V : Int, (wrap64 (-wrap64 (a0 + 1))).tmod 100000 = V := ⟨_, rfl⟩
    obtain ⟨v0, v1⟩ : 0 ≤ V ∧ V < 100000 := by
      rw [← hV]
      have e : 0 ≤ wrap64 (-wrap64 (a0 + 1)) := by unfold wrap64; omega
      exact ⟨Int.tmod_nonneg 100000 e, Int.tmod_lt_of_pos _ (by omega)⟩
    obtain ⟨R, hR⟩ : ∃ R : Int, V * 1000000 = R := ⟨_, rfl⟩
    have hw : wrap64 (V * 1000000) = R := by unfold wrap64; omega
    have iV : I64 V := ⟨by omega, by omega⟩
    have iR : I64 R := ⟨by omega, by omega⟩
    have b1 := badM_none V v0 10
    have b2 := badR_none R (by omega) 10
    have l1 := (money_len' V iV)
    have l2 := (rate_len' R iR)
    generalize gM : moneyL V = M at *
    generalize gR : rateL R = T at *
    have b3 := badM_len M l1 10
    have b4 := badR_len T l2 10
    have f1 : ¬ 9223372036854775807 < 1 + M.length := by omega
    have f2 : ¬ 9223372036854775807 < M.length + 1 := by omega
    have f3 : ¬ 9223372036854775807 < 2 + M.length := by omega
    have f4 : ¬ 9223372036854775807 < 1 + T.length := by omega
    have f5 : ¬ 9223372036854775807 < T.length + 1 := by omega
    have f6 : ¬ 9223372036854775807 < 2 + T.length := by omega
    replace gM := show Hid _ from gM
    replace gR := show Hid _ from gR
    replace b1 := show Hid _ from b1
    replace b2 := show Hid _ from b2
    replace b3 : Hid _ := show Hid _ from b3
    replace b4 : Hid _ := show Hid _ from b4
    clear hw i1 i2
    go_enter Tryd.func5, Tryd.ntmps5
    go_wp2_with fail
    refine (money_x V M gM.out _ iV he.out).mono ?_
    rintro e w1 ⟨rfl, hx1⟩
    have hx : Hid (Ext w w1) := hx1
    clear hx1
    go_wp2_with fail
    refine (rate_x R T gR.out _ iR (Env.ext he.out hx.out)).mono ?_
    rintro e w1 ⟨rfl, hx1⟩
    replace hx : Hid (Ext w w1) := hx.out.trans hx1
    clear hx1
    go_wp2_with fail
    refine (takeMoney_x (badM M 10) _ _ b1.out _ b3.out (Env.ext he.out (Ext.alloc (Ext.alloc hx.out _ _) _ _))).mono ?_
    rintro e w2 ⟨rfl, hx1⟩
    replace hx : Hid (Ext w w2) := (Ext.alloc (Ext.alloc hx.out _ _) _ _).trans hx1
    clear hx1
    go_wp2_with fail
    refine (takeRate_x (badR T 10) _ _ b2.out _ b4.out (Env.ext he.out hx.out)).mono ?_
    rintro e w3 ⟨rfl, hx1⟩
    replace hx : Hid (Ext w w3) := hx.out.trans hx1
    clear hx1
    go_wp2_with fail
    refine (awake_c _ (Env.ext he.out hx.out)).mono ?_
    rintro e w3 ⟨rfl, hx1⟩
    replace hx : Hid (Ext w w3) := hx.out.trans hx1
    clear hx1
    go_wp2
    go_ret
    exact ⟨rfl, hx.out⟩
  · obtain ⟨V, hV⟩ : ∃ V : Int, a0 % 100000 = V := ⟨_, rfl⟩
    obtain ⟨v0, v1⟩ : 0 ≤ V ∧ V < 100000 := by omega
    obtain ⟨R, hR⟩ : ∃ R : Int, V * 1000000 = R := ⟨_, rfl⟩
    have hw : wrap64 (V * 1000000) = R := by unfold wrap64; omega
    have iV : I64 V := ⟨by omega, by omega⟩
    have iR : I64 R := ⟨by omega, by omega⟩
    have b1 := badM_none V v0 10
    have b2 := badR_none R (by omega) 10
    have l1 := (money_len' V iV)
    have l2 := (rate_len' R iR)
    generalize gM : moneyL V = M at *
    generalize gR : rateL R = T at *
    have b3 := badM_len M l1 10
    have b4 := badR_len T l2 10
    have f1 : ¬ 9223372036854775807 < 1 + M.length := by omega
    have f2 : ¬ 9223372036854775807 < M.length + 1 := by omega
    have f3 : ¬ 9223372036854775807 < 2 + M.length := by omega
    have f4 : ¬ 9223372036854775807 < 1 + T.length := by omega
    have f5 : ¬ 9223372036854775807 < T.length + 1 := by omega
    have f6 : ¬ 9223372036854775807 < 2 + T.length := by omega
    replace gM := show Hid _ from gM
    replace gR := show Hid _ from gR
    replace b1 := show Hid _ from b1
    replace b2 := show Hid _ from b2
    replace b3 : Hid _ := show Hid _ from b3
    replace b4 : Hid _ := show Hid _ from b4
    clear hw i1 i2
    go_enter Tryd.func5, Tryd.ntmps5
    go_wp2_with fail
    refine (money_x V M gM.out _ iV he.out).mono ?_
    rintro e w1 ⟨rfl, hx1⟩
    have hx : Hid (Ext w w1) := hx1
    clear hx1
    go_wp2_with fail
    refine (rate_x R T gR.out _ iR (Env.ext he.out hx.out)).mono ?_
    rintro e w1 ⟨rfl, hx1⟩
    replace hx : Hid (Ext w w1) := hx.out.trans hx1
    clear hx1
    go_wp2_with fail
    refine (takeMoney_x (badM M 10) _ _ b1.out _ b3.out (Env.ext he.out (Ext.alloc (Ext.alloc hx.out _ _) _ _))).mono ?_
    rintro e w2 ⟨rfl, hx1⟩
    replace hx : Hid (Ext w w2) := (Ext.alloc (Ext.alloc hx.out _ _) _ _).trans hx1
    clear hx1
    go_wp2_with fail
    refine (takeRate_x (badR T 10) _ _ b2.out _ b4.out (Env.ext he.out hx.out)).mono ?_
    rintro e w3 ⟨rfl, hx1⟩
    replace hx : Hid (Ext w w3) := hx.out.trans hx1
    clear hx1
    go_wp2_with fail
    refine (awake_c _ (Env.ext he.out hx.out)).mono ?_
    rintro e w3 ⟨rfl, hx1⟩
    replace hx : Hid (Ext w w3) := hx.out.trans hx1
    clear hx1
    go_wp2
    go_ret
    exact ⟨rfl, hx.out⟩
set_option maxHeartbeats 4000000 in
theorem at11 (a0 a1 : Int) (i0 : I64 a0) (w : World) (he : Hid (Env w)) (hK : wrap64 ((IntKind.u64.wrap a1).tmod 13) = 11) :
    Calls Tryd.prog 5 #[.int .i64 a0, .int .i64 a1] w fun e w' => e = .returned (.bool true) ∧ Ext w w' := by
  obtain ⟨i1, i2⟩ := i0
  by_cases hs : a0 < 0
  · obtain ⟨V, hV⟩ : ∃ V : Int, (wrap64 (-wrap64 (a0 + 1))).tmod 100000 = V := ⟨_, rfl⟩
    obtain ⟨v0, v1⟩ : 0 ≤ V ∧ V < 100000 := by
      rw [← hV]
      have e : 0 ≤ wrap64 (-wrap64 (a0 + 1)) := by unfold wrap64; omega
      exact ⟨Int.tmod_nonneg 100000 e, Int.tmod_lt_of_pos _ (by omega)⟩
    obtain ⟨R, hR⟩ : ∃ R : Int, V * 1000000 = R := ⟨_, rfl⟩
    have hw : wrap64 (V * 1000000) = R := by unfold wrap64; omega
    have iV : I64 V := ⟨by omega, by omega⟩
    have iR : I64 R := ⟨by omega, by omega⟩
    have b1 := badM_none V v0 11
    have b2 := badR_none R (by omega) 11
    have l1 := (money_len' V iV)
    have l2 := (rate_len' R iR)
    generalize gM : moneyL V = M at *
    generalize gR : rateL R = T at *
    have b3 := badM_len M l1 11
    have b4 := badR_len T l2 11
    have f1 : ¬ 9223372036854775807 < 1 + M.length := by omega
    have f2 : ¬ 9223372036854775807 < M.length + 1 := by omega
    have f3 : ¬ 9223372036854775807 < 2 + M.length := by omega
    have f4 : ¬ 9223372036854775807 < 1 + T.length := by omega
    have f5 : ¬ 9223372036854775807 < T.length + 1 := by omega
    have f6 : ¬ 9223372036854775807 < 2 + T.length := by omega
    replace gM := show Hid _ from gM
    replace gR := show Hid _ from gR
    replace b1 := show Hid _ from b1
    replace b2 := show Hid _ from b2
    replace b3 : Hid _ := show Hid _ from b3
    replace b4 : Hid _ := show Hid _ from b4
    clear hw i1 i2
    go_enter Tryd.func5, Tryd.ntmps5
    go_wp2_with fail
    refine (money_x V M gM.out _ iV he.out).mono ?_
    rintro e w1 ⟨rfl, hx1⟩
    have hx : Hid (Ext w w1) := hx1
    clear hx1
    go_wp2_with fail
    refine (rate_x R T gR.out _ iR (Env.ext he.out hx.out)).mono ?_
    rintro e w1 ⟨rfl, hx1⟩
    replace hx : Hid (Ext w w1) := hx.out.trans hx1
    clear hx1
    go_wp2_with fail
    refine (takeMoney_x (badM M 11) _ _ b1.out _ b3.out (Env.ext he.out (Ext.alloc (Ext.alloc hx.out _ _) _ _))).mono ?_
    rintro e w2 ⟨rfl, hx1⟩
    replace hx : Hid (Ext w w2) := (Ext.alloc (Ext.alloc hx.out _ _) _ _).trans hx1
    clear hx1
    go_wp2_with fail
    refine (takeRate_x (badR T 11) _ _ b2.out _ b4.out (Env.ext he.out hx.out)).mono ?_
    rintro e w3 ⟨rfl, hx1⟩
    replace hx : Hid (Ext w w3) := hx.out.trans hx1
    clear hx1
    go_wp2_with fail
    refine (awake_c _ (Env.ext he.out hx.out)).mono ?_
    rintro e w3 ⟨rfl, hx1⟩
    replace hx : Hid (Ext w w3) := hx.out.trans hx1
    clear hx1
    go_wp2
    go_ret
    exact ⟨rfl, hx.out⟩
  · obtain ⟨V, hV⟩ : ∃ V : Int, a0 % 100000 = V := ⟨_, rfl⟩
    obtain ⟨v0, v1⟩ : 0 ≤ V ∧ V < 100000 := by omega
    obtain ⟨R, hR⟩ : ∃ R : Int, V * 1000000 = R := ⟨_, rfl⟩
    have hw : wrap64 (V * 1000000) = R := by unfold wrap64; omega
    have iV : I64 V := ⟨by omega, by omega⟩
    have iR : I64 R := ⟨by omega, by omega⟩
    have b1 := badM_none V v0 11
    have b2 := badR_none R (by omega) 11
    have l1 := (money_len' V iV)
    have l2 := (rate_len' R iR)
    generalize gM : moneyL V = M at *
    generalize gR : rateL R = T at *
    have b3 := badM_len M l1 11
    have b4 := badR_len T l2 11
    have f1 : ¬ 9223372036854775807 < 1 + M.length := by omega
    have f2 : ¬ 9223372036854775807 < M.length + 1 := by omega
    have f3 : ¬ 9223372036854775807 < 2 + M.length := by omega
    have f4 : ¬ 9223372036854775807 < 1 + T.length := by omega
    have f5 : ¬ 9223372036854775807 < T.length + 1 := by omega
    have f6 : ¬ 9223372036854775807 < 2 + T.length := by omega
    replace gM := show Hid _ from gM
    replace gR := show Hid _ from gR
    replace b1 := show Hid _ from b1
    replace b2 := show Hid _ from b2
    replace b3 : Hid _ := show Hid _ from b3
    replace b4 : Hid _ := show Hid _ from b4
    clear hw i1 i2
    go_enter Tryd.func5, Tryd.ntmps5
    go_wp2_with fail
    refine (money_x V M gM.out _ iV he.out).mono ?_
    rintro e w1 ⟨rfl, hx1⟩
    have hx : Hid (Ext w w1) := hx1
    clear hx1
    go_wp2_with fail
    refine (rate_x R T gR.out _ iR (Env.ext he.out hx.out)).mono ?_
    rintro e w1 ⟨rfl, hx1⟩
    replace hx : Hid (Ext w w1) := hx.out.trans hx1
    clear hx1
    go_wp2_with fail
    refine (takeMoney_x (badM M 11) _ _ b1.out _ b3.out (Env.ext he.out (Ext.alloc (Ext.alloc hx.out _ _) _ _))).mono ?_
    rintro e w2 ⟨rfl, hx1⟩
    replace hx : Hid (Ext w w2) := (Ext.alloc (Ext.alloc hx.out _ _) _ _).trans hx1
    clear hx1
    go_wp2_with fail
    refine (takeRate_x (badR T 11) _ _ b2.out _ b4.out (Env.ext he.out hx.out)).mono ?_
    rintro e w3 ⟨rfl, hx1⟩
    replace hx : Hid (Ext w w3) := hx.out.trans hx1
    clear hx1
    go_wp2_with fail
    refine (awake_c _ (Env.ext he.out hx.out)).mono ?_
    rintro e w3 ⟨rfl, hx1⟩
    replace hx : Hid (Ext w w3) := hx.out.trans hx1
    clear hx1
    go_wp2
    go_ret
    exact ⟨rfl, hx.out⟩
set_option maxHeartbeats 4000000 in
theorem at12 (a0 a1 : Int) (i0 : I64 a0) (w : World) (he : Hid (Env w)) (hK : wrap64 ((IntKind.u64.wrap a1).tmod 13) = 12) :
    Calls Tryd.prog 5 #[.int .i64 a0, .int .i64 a1] w fun e w' => e = .returned (.bool true) ∧ Ext w w' := by
  obtain ⟨i1, i2⟩ := i0
  by_cases hs : a0 < 0
  · obtain ⟨V, hV⟩ : ∃ V : Int, (wrap64 (-wrap64 (a0 + 1))).tmod 100000 = V := ⟨_, rfl⟩
    obtain ⟨v0, v1⟩ : 0 ≤ V ∧ V < 100000 := by
      rw [← hV]
      have e : 0 ≤ wrap64 (-wrap64 (a0 + 1)) := by unfold wrap64; omega
      exact ⟨Int.tmod_nonneg 100000 e, Int.tmod_lt_of_pos _ (by omega)⟩
    obtain ⟨R, hR⟩ : ∃ R : Int, V * 1000000 = R := ⟨_, rfl⟩
    have hw : wrap64 (V * 1000000) = R := by unfold wrap64; omega
    have iV : I64 V := ⟨by omega, by omega⟩
    have iR : I64 R := ⟨by omega, by omega⟩
    have b1 := badM_none V v0 12
    have b2 := badR_none R (by omega) 12
    have l1 := (money_len' V iV)
    have l2 := (rate_len' R iR)
    generalize gM : moneyL V = M at *
    generalize gR : rateL R = T at *
    have b3 := badM_len M l1 12
    have b4 := badR_len T l2 12
    have f1 : ¬ 9223372036854775807 < 1 + M.length := by omega
    have f2 : ¬ 9223372036854775807 < M.length + 1 := by omega
    have f3 : ¬ 9223372036854775807 < 2 + M.length := by omega
    have f4 : ¬ 9223372036854775807 < 1 + T.length := by omega
    have f5 : ¬ 9223372036854775807 < T.length + 1 := by omega
    have f6 : ¬ 9223372036854775807 < 2 + T.length := by omega
    replace gM := show Hid _ from gM
    replace gR := show Hid _ from gR
    replace b1 := show Hid _ from b1
    replace b2 := show Hid _ from b2
    replace b3 : Hid _ := show Hid _ from b3
    replace b4 : Hid _ := show Hid _ from b4
    clear hw i1 i2
    go_enter Tryd.func5, Tryd.ntmps5
    go_wp2_with fail
    refine (money_x V M gM.out _ iV he.out).mono ?_
    rintro e w1 ⟨rfl, hx1⟩
    have hx : Hid (Ext w w1) := hx1
    clear hx1
    go_wp2_with fail
    refine (rate_x R T gR.out _ iR (Env.ext he.out hx.out)).mono ?_
    rintro e w1 ⟨rfl, hx1⟩
    replace hx : Hid (Ext w w1) := hx.out.trans hx1
    clear hx1
    go_wp2_with fail
    refine (takeMoney_x (badM M 12) _ _ b1.out _ b3.out (Env.ext he.out (Ext.alloc (Ext.alloc hx.out _ _) _ _))).mono ?_
    rintro e w2 ⟨rfl, hx1⟩
    replace hx : Hid (Ext w w2) := (Ext.alloc (Ext.alloc hx.out _ _) _ _).trans hx1
    clear hx1
    go_wp2_with fail
    refine (takeRate_x (badR T 12) _ _ b2.out _ b4.out (Env.ext he.out hx.out)).mono ?_
    rintro e w3 ⟨rfl, hx1⟩
    replace hx : Hid (Ext w w3) := hx.out.trans hx1
    clear hx1
    go_wp2_with fail
    refine (awake_c _ (Env.ext he.out hx.out)).mono ?_
    rintro e w3 ⟨rfl, hx1⟩
    replace hx : Hid (Ext w w3) := hx.out.trans hx1
    clear hx1
    go_wp2
    go_ret
    exact ⟨rfl, hx.out⟩
  · obtain ⟨V, hV⟩ : ∃ V : Int, a0 % 100000 = V := ⟨_, rfl⟩
    obtain ⟨v0, v1⟩ : 0 ≤ V ∧ V < 100000 := by omega
    obtain ⟨R, hR⟩ : ∃ R : Int, V * 1000000 = R := ⟨_, rfl⟩
    have hw : wrap64 (V * 1000000) = R := by unfold wrap64; omega
    have iV : I64 V := ⟨by omega, by omega⟩
    have iR : I64 R := ⟨by omega, by omega⟩
    have b1 := badM_none V v0 12
    have b2 := badR_none R (by omega) 12
    have l1 := (money_len' V iV)
    have l2 := (rate_len' R iR)
    generalize gM : moneyL V = M at *
    generalize gR : rateL R = T at *
    have b3 := badM_len M l1 12
    have b4 := badR_len T l2 12
    have f1 : ¬ 9223372036854775807 < 1 + M.length := by omega
    have f2 : ¬ 9223372036854775807 < M.length + 1 := by omega
    have f3 : ¬ 9223372036854775807 < 2 + M.length := by omega
    have f4 : ¬ 9223372036854775807 < 1 + T.length := by omega
    have f5 : ¬ 9223372036854775807 < T.length + 1 := by omega
    have f6 : ¬ 9223372036854775807 < 2 + T.length := by omega
    replace gM := show Hid _ from gM
    replace gR := show Hid _ from gR
    replace b1 := show Hid _ from b1
    replace b2 := show Hid _ from b2
    replace b3 : Hid _ := show Hid _ from b3
    replace b4 : Hid _ := show Hid _ from b4
    clear hw i1 i2
    go_enter Tryd.func5, Tryd.ntmps5
    go_wp2_with fail
    refine (money_x V M gM.out _ iV he.out).mono ?_
    rintro e w1 ⟨rfl, hx1⟩
    have hx : Hid (Ext w w1) := hx1
    clear hx1
    go_wp2_with fail
    refine (rate_x R T gR.out _ iR (Env.ext he.out hx.out)).mono ?_
    rintro e w1 ⟨rfl, hx1⟩
    replace hx : Hid (Ext w w1) := hx.out.trans hx1
    clear hx1
    go_wp2_with fail
    refine (takeMoney_x (badM M 12) _ _ b1.out _ b3.out (Env.ext he.out (Ext.alloc (Ext.alloc hx.out _ _) _ _))).mono ?_
    rintro e w2 ⟨rfl, hx1⟩
    replace hx : Hid (Ext w w2) := (Ext.alloc (Ext.alloc hx.out _ _) _ _).trans hx1
    clear hx1
    go_wp2_with fail
    refine (takeRate_x (badR T 12) _ _ b2.out _ b4.out (Env.ext he.out hx.out)).mono ?_
    rintro e w3 ⟨rfl, hx1⟩
    replace hx : Hid (Ext w w3) := hx.out.trans hx1
    clear hx1
    go_wp2_with fail
    refine (awake_c _ (Env.ext he.out hx.out)).mono ?_
    rintro e w3 ⟨rfl, hx1⟩
    replace hx : Hid (Ext w w3) := hx.out.trans hx1
    clear hx1
    go_wp2
    go_ret
    exact ⟨rfl, hx.out⟩

theorem walk (a0 : Int) (w0 : (Lit.int .i64 a0).wf = true) (a1 : Int) (w1 : (Lit.int .i64 a1).wf = true) (w : World) (he : Env w) :
    Calls Tryd.prog 5 #[.int .i64 a0, .int .i64 a1] w fun e w' => e = .returned (.bool true) ∧ Ext w w' := by
  have i0 : I64 a0 := by
    have : -9223372036854775808 ≤ a0 ∧ a0 ≤ 9223372036854775807 := by simpa [Lit.wf, IntKind.min, IntKind.max, IntKind.signed, IntKind.bits] using w0
    exact this
  have hK : 0 ≤ wrap64 ((IntKind.u64.wrap a1).tmod 13) ∧ wrap64 ((IntKind.u64.wrap a1).tmod 13) < 13 := by
    have h0 : 0 ≤ IntKind.u64.wrap a1 := by rw [IntKind.wrap_u64]; omega
    have h1 := Int.tmod_nonneg 13 h0
    have h2 := Int.tmod_lt_of_pos (IntKind.u64.wrap a1) (show (0 : Int) < 13 by omega)
    unfold wrap64; omega
  generalize hk : wrap64 ((IntKind.u64.wrap a1).tmod 13) = K at hK
  obtain ⟨k0, k1⟩ := hK
  have : K = 0 ∨ K = 1 ∨ K = 2 ∨ K = 3 ∨ K = 4 ∨ K = 5 ∨ K = 6 ∨ K = 7 ∨ K = 8 ∨ K = 9 ∨ K = 10 ∨ K = 11 ∨ K = 12 := by omega
  rcases this with rfl | rfl | rfl | rfl | rfl | rfl | rfl | rfl | rfl | rfl | rfl | rfl | rfl
  · exact at0 a0 a1 i0 w he hk
  · exact at1 a0 a1 i0 w he hk
  · exact at2 a0 a1 i0 w he hk
  · exact at3 a0 a1 i0 w he hk
  · exact at4 a0 a1 i0 w he hk
  · exact at5 a0 a1 i0 w he hk
  · exact at6 a0 a1 i0 w he hk
  · exact at7 a0 a1 i0 w he hk
  · exact at8 a0 a1 i0 w he hk
  · exact at9 a0 a1 i0 w he hk
  · exact at10 a0 a1 i0 w he hk
  · exact at11 a0 a1 i0 w he hk
  · exact at12 a0 a1 i0 w he hk

set_option maxRecDepth 100000 in
theorem lifted (os : Os) (started : os.Started) (H : Type) (enc : TypeId × Value → H) :
    ReturnsInHanded {} Tryd.checked os 5 .any (fun w args => (Rows.decimalFormsSpec.pre enc Tryd.prog Tryd.f5 [] false w args ∧ laidMetH Tryd.prog laid w) ∧ sizedMet enc Tryd.prog Tryd.f5 (OpenSpec.ofChange Rows.decimalFormsSpec) false w args)
      (Rows.decimalFormsSpec.post enc Tryd.prog Tryd.f5 false true false false) := by
  refine wrap started (by kernel_rfl) Tryd.func5
    (ChangeSpec.witness_shaped (enc := enc) (C := Tryd.checked) (os := os) (X := fun w _ => laidMetH Tryd.prog laid w) false (World.laidAll Tryd.prog os laid) #[.int .i64 0, .int .i64 0] 8 (World.laidAll_os _ _ _)
      (World.shaped_of_ZipB (by kernel_rfl) (by kernel_rfl)) (by kernel_rfl) (by kernel_rfl) (by kernel_rfl)
      (by rw [MakeChecks.laidMetH_plain _ _ _ (by kernel_rfl)]; exact laidMet_laidAll _ (by kernel_rfl) (by kernel_rfl))) ?_
  intro W base args ds gs before hval0 hW hE
  have hval : ∀ (j : Nat) t v, Tryd.f5.params[j]? = some t → args[j]? = some v → Value.okWide Tryd.prog W .any base t v := hval0
  have hW' := hW
  obtain ⟨p, q, hA0, hV, rfl, _, _⟩ := hW
  have hA : DataW.TrodAll enc Tryd.prog W 0 (fun _ => true) true Tryd.f5.params.toList args.toList ds p := hA0
  rw [Tryd.params5] at hA hval
  obtain ⟨v0, vs0, d0, ds0, p0, q0, hargs, rfl, rfl, h0, r0⟩ := trodAll_cons hA
  obtain ⟨v1, vs1, d1, ds1, p1, q1, rfl, rfl, rfl, h1, r1⟩ := trodAll_cons r0
  obtain ⟨rfl, rfl, rfl⟩ := trodAll_nil r1
  obtain rfl : args = #[v0, v1] := by cases args; simp_all
  obtain ⟨rfl, rfl⟩ := trodVars_none hV
  obtain ⟨a0, rfl, rfl, rfl, w0⟩ := open_int Tryd.underlying2 (hval 0 2 v0 rfl rfl) h0
  obtain ⟨a1, rfl, rfl, rfl, w1⟩ := open_int Tryd.underlying3 (hval 1 3 v1 rfl rfl) h1
  clear hA0 hval0
  simp only [List.append_nil] at hW'
  refine (walk a0 w0 a1 w1 W hE).mono fun e W' ⟨he, hb⟩ => ?_
  subst he
  exact ⟨_, rfl, _, _, _, [], [], [], hW', (trodAll_cons_mk (shut_bool Tryd.underlying4 _) trodAll_mk0), (trodAll_cons_mk (shut_int Tryd.underlying2 w0) (trodAll_cons_mk (shut_int Tryd.underlying3 w1) trodAll_mk0)), rfl, hb.below.frame _, fun h => by cases h⟩

theorem over : Rows.decimalFormsRow.holds Tryd.pinned (OpenSpec.ofChange Rows.decimalFormsSpec) :=
  OpenClaim.holds_of_wide 5 Tryd.f5 rfl rfl rfl rfl rfl rfl rfl ⟨rfl, rfl, rfl, rfl, rfl⟩ rfl rfl rfl rfl rfl (by kernel_rfl) Tryd.func5 (by kernel_rfl)
    (of_decide_eq_true (by kernel_rfl)) (by unfold Func.isWrapper; first | (rw [if_pos (by decide +kernel)]; kernel_rfl) | (rw [if_neg (by decide +kernel)]; exact ⟨rfl, rfl⟩))
    (fun os started H enc _ => lifted os started H enc)
end Go.Proofs.YtpmgbagnaaahoabDoor.decimalForms
namespace Go.Proofs.YtpmgbagnaaahoabDoor
theorem decimalForms_holds : Rows.DecimalFormsCardSaid :=
  Claim7.holds_tied_plain_at .later [] [.data, .data, .data, .data, .pinned] true (true, "6c72434a28853cd36528dcda40ea39cd8b8d9ad355b7b9cabfd0f0281fc62663") true decimalForms.over (fun _ h => by cases h) (by kernel_rfl) (fun _ h => by cases h) decimalForms_row_tie rfl ⟨rfl, rfl⟩ (by kernel_rfl) rfl
    (fun f fn hf hfn => by
      obtain rfl : f = 5 := Option.some.inj ((show Tryd.prog.funcNamed "quittance/quittancelaw02.DecimalForms" = some 5 by kernel_rfl).symm.trans hf) |>.symm
      obtain rfl : fn = Tryd.f5 := (Option.some.inj (Tryd.func5.symm.trans hfn)).symm
      exact ⟨by kernel_rfl, fun j t ht => by
        rw [Tryd.params5] at ht
        have hm : t ∈ [2, 3] := by simpa using Array.mem_of_getElem? ht
        have hall : ([2, 3].all fun u => !Tryd.prog.wantsStandIn u) = true := by kernel_rfl
        exact (show Tryd.prog.wantsStandIn t = false by simpa using List.all_eq_true.1 hall t hm)⟩)
    (by kernel_rfl)
#print axioms decimalForms_holds
end Go.Proofs.YtpmgbagnaaahoabDoor
