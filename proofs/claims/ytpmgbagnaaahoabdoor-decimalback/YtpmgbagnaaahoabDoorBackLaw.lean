/- For every int64 v and all strings s and t, of the project's tree at the commit that COMMIT names, DecimalBack returns true and leaves its arguments as they were, with the library's variables laid as the program's text lays them. -/
import Derived.Test.YtpmgbagnaaahoabDoorFrame
namespace Go.Proofs.YtpmgbagnaaahoabDoor.decimalBack
open Go.ChangeShapes Go.WideShapes Go.ChangeAt Go.RowKit Go.Lib
set_option linter.unusedVariables false

theorem takeM_fits (l : List UInt8) (c : Int) (h : takeM l = (c, 0)) : I64 c := by
  unfold takeM at h
  simp only at h
  split at h
  · split at h
    · rename_i hle
      obtain ⟨k1, _⟩ := sgnV_ok h
      exact ⟨by omega, by omega⟩
    · simp at h
  · simp at h
theorem long1 (a0 : Int) (l t : List UInt8) (w : World) (he : Hid (Env w)) (h : (100 : Int) < (l.length : Int)) :
    Calls Tryd.prog 4 #[.int .i64 a0, .string ⟨l.toArray⟩, .string ⟨t.toArray⟩] w fun e w' => e = .returned (.bool true) ∧ Ext w w' := by
  go_enter Tryd.func4, Tryd.ntmps4
  go_wp2_with fail
  refine (awake_c _ he.out).mono ?_
  rintro e w1 ⟨rfl, hx⟩
  go_wp2
  go_ret
  exact ⟨rfl, hx⟩
theorem long2 (a0 : Int) (l t : List UInt8) (w : World) (he : Hid (Env w)) (h1 : ¬ (100 : Int) < (l.length : Int)) (h : (100 : Int) < (t.length : Int)) :
    Calls Tryd.prog 4 #[.int .i64 a0, .string ⟨l.toArray⟩, .string ⟨t.toArray⟩] w fun e w' => e = .returned (.bool true) ∧ Ext w w' := by
  go_enter Tryd.func4, Tryd.ntmps4
  go_wp2_with fail
  refine (awake_c _ he.out).mono ?_
  rintro e w1 ⟨rfl, hx⟩
  go_wp2
  go_ret
  exact ⟨rfl, hx⟩
set_option maxHeartbeats 4000000 in
theorem go_fit_11 (a0 R : Int) (l t : List UInt8) (w : World) (he : Hid (Env w)) (iA : I64 a0) (hR : a0.tmod 10000000001 = R) (rR : R.natAbs ≤ 10000000000)
    (hl : l.length ≤ 100) (ht : t.length ≤ 100) (c : Int) (t1 : takeM l = (c, 0)) (d : Int) (t2 : takeR t = (d, 0)) (k1 : -1000000000000000 ≤ a0) (k2 : a0 ≤ 1000000000000000) :
    Calls Tryd.prog 4 #[.int .i64 a0, .string ⟨l.toArray⟩, .string ⟨t.toArray⟩] w fun e w' => e = .returned (.bool true) ∧ Ext w w' := by
  have b1 : takeM (moneyL a0) = (a0, 0) := by rw [take_money _ iA, if_pos (by omega)]
  have iR : I64 R := ⟨by omega, by omega⟩
  have b2 : takeR (rateL R) = (R, 0) := by rw [take_rate, if_pos rR]
  have l1 := money_len a0 iA
  have l2 := rate_len R iR
  have q1 := money_take l c t1
  have iC := takeM_fits l c t1
  have q2 := (rate_take t d t2).1
  have iD : I64 d := by have := (rate_take t d t2).2; exact ⟨by omega, by omega⟩
  generalize gM : moneyL a0 = M at *
  generalize gT : rateL R = T at *
  replace b1 := show Hid _ from b1
  replace b2 := show Hid _ from b2
  replace l1 := show Hid _ from l1
  replace l2 := show Hid _ from l2
  replace gM := show Hid _ from gM
  replace gT := show Hid _ from gT
  replace t1 := show Hid _ from t1
  replace t2 := show Hid _ from t2
  replace iA := show Hid _ from iA
  replace iR := show Hid _ from iR
  replace rR := show Hid _ from rR
  replace q1 := show Hid _ from q1
  replace iC := show Hid _ from iC
  replace q2 := show Hid _ from q2
  replace iD := show Hid _ from iD
  have hl' : ¬ (100 : Int) < (l.length : Int) := by omega
  have ht' : ¬ (100 : Int) < (t.length : Int) := by omega
  go_enter Tryd.func4, Tryd.ntmps4
  go_wp2_with fail
  refine (money_x a0 M gM.out _ iA.out he.out).mono ?_
  rintro e w1 ⟨rfl, hx1⟩
  have hx : Hid (Ext w w1) := hx1
  clear hx1
  go_wp2_with fail
  refine (takeMoney_x M _ _ b1.out _ l1.out (Env.ext he.out hx.out)).mono ?_
  rintro e w1 ⟨rfl, hx1⟩
  replace hx : Hid (Ext w w1) := hx.out.trans hx1
  clear hx1
  go_wp2_with fail
  refine (rate_x R T gT.out _ iR.out (Env.ext he.out hx.out)).mono ?_
  rintro e w1 ⟨rfl, hx1⟩
  replace hx : Hid (Ext w w1) := hx.out.trans hx1
  clear hx1
  go_wp2_with fail
  refine (takeRate_x T _ _ b2.out _ l2.out (Env.ext he.out hx.out)).mono ?_
  rintro e w1 ⟨rfl, hx1⟩
  replace hx : Hid (Ext w w1) := hx.out.trans hx1
  clear hx1
  go_wp2_with fail
  refine (takeMoney_x l _ _ t1.out _ (by omega) (Env.ext he.out hx.out)).mono ?_
  rintro e w1 ⟨rfl, hx1⟩
  replace hx : Hid (Ext w w1) := hx.out.trans hx1
  clear hx1
  go_wp2_with fail
  refine (takeRate_x t _ _ t2.out _ (by omega) (Env.ext he.out hx.out)).mono ?_
  rintro e w1 ⟨rfl, hx1⟩
  replace hx : Hid (Ext w w1) := hx.out.trans hx1
  clear hx1
  go_wp2_with fail
  refine (awake_c _ (Env.ext he.out hx.out)).mono ?_
  rintro e w1 ⟨rfl, hx1⟩
  replace hx : Hid (Ext w w1) := hx.out.trans hx1
  clear hx1
  go_wp2_with fail
  refine (money_x c l q1.out _ iC.out (Env.ext he.out hx.out)).mono ?_
  rintro e w1 ⟨rfl, hx1⟩
  replace hx : Hid (Ext w w1) := hx.out.trans hx1
  clear hx1
  go_wp2_with fail
  refine (rate_x d t q2.out _ iD.out (Env.ext he.out hx.out)).mono ?_
  rintro e w1 ⟨rfl, hx1⟩
  replace hx : Hid (Ext w w1) := hx.out.trans hx1
  clear hx1
  go_wp2
  go_ret
  exact ⟨rfl, hx.out⟩

set_option maxHeartbeats 4000000 in
theorem go_fit_10 (a0 R : Int) (l t : List UInt8) (w : World) (he : Hid (Env w)) (iA : I64 a0) (hR : a0.tmod 10000000001 = R) (rR : R.natAbs ≤ 10000000000)
    (hl : l.length ≤ 100) (ht : t.length ≤ 100) (c : Int) (t1 : takeM l = (c, 0)) (d h : Int) (t2 : takeR t = (d, h)) (hh : (h != 0) = true) (k1 : -1000000000000000 ≤ a0) (k2 : a0 ≤ 1000000000000000) :
    Calls Tryd.prog 4 #[.int .i64 a0, .string ⟨l.toArray⟩, .string ⟨t.toArray⟩] w fun e w' => e = .returned (.bool true) ∧ Ext w w' := by
  have b1 : takeM (moneyL a0) = (a0, 0) := by rw [take_money _ iA, if_pos (by omega)]
  have iR : I64 R := ⟨by omega, by omega⟩
  have b2 : takeR (rateL R) = (R, 0) := by rw [take_rate, if_pos rR]
  have l1 := money_len a0 iA
  have l2 := rate_len R iR
  have q1 := money_take l c t1
  have iC := takeM_fits l c t1
  generalize gM : moneyL a0 = M at *
  generalize gT : rateL R = T at *
  replace b1 := show Hid _ from b1
  replace b2 := show Hid _ from b2
  replace l1 := show Hid _ from l1
  replace l2 := show Hid _ from l2
  replace gM := show Hid _ from gM
  replace gT := show Hid _ from gT
  replace t1 := show Hid _ from t1
  replace t2 := show Hid _ from t2
  replace iA := show Hid _ from iA
  replace iR := show Hid _ from iR
  replace rR := show Hid _ from rR
  replace q1 := show Hid _ from q1
  replace iC := show Hid _ from iC
  have hl' : ¬ (100 : Int) < (l.length : Int) := by omega
  have ht' : ¬ (100 : Int) < (t.length : Int) := by omega
  go_enter Tryd.func4, Tryd.ntmps4
  go_wp2_with fail
  refine (money_x a0 M gM.out _ iA.out he.out).mono ?_
  rintro e w1 ⟨rfl, hx1⟩
  have hx : Hid (Ext w w1) := hx1
  clear hx1
  go_wp2_with fail
  refine (takeMoney_x M _ _ b1.out _ l1.out (Env.ext he.out hx.out)).mono ?_
  rintro e w1 ⟨rfl, hx1⟩
  replace hx : Hid (Ext w w1) := hx.out.trans hx1
  clear hx1
  go_wp2_with fail
  refine (rate_x R T gT.out _ iR.out (Env.ext he.out hx.out)).mono ?_
  rintro e w1 ⟨rfl, hx1⟩
  replace hx : Hid (Ext w w1) := hx.out.trans hx1
  clear hx1
  go_wp2_with fail
  refine (takeRate_x T _ _ b2.out _ l2.out (Env.ext he.out hx.out)).mono ?_
  rintro e w1 ⟨rfl, hx1⟩
  replace hx : Hid (Ext w w1) := hx.out.trans hx1
  clear hx1
  go_wp2_with fail
  refine (takeMoney_x l _ _ t1.out _ (by omega) (Env.ext he.out hx.out)).mono ?_
  rintro e w1 ⟨rfl, hx1⟩
  replace hx : Hid (Ext w w1) := hx.out.trans hx1
  clear hx1
  go_wp2_with fail
  refine (takeRate_x t _ _ t2.out _ (by omega) (Env.ext he.out hx.out)).mono ?_
  rintro e w1 ⟨rfl, hx1⟩
  replace hx : Hid (Ext w w1) := hx.out.trans hx1
  clear hx1
  go_wp2_with fail
  refine (awake_c _ (Env.ext he.out hx.out)).mono ?_
  rintro e w1 ⟨rfl, hx1⟩
  replace hx : Hid (Ext w w1) := hx.out.trans hx1
  clear hx1
  go_wp2_with fail
  refine (money_x c l q1.out _ iC.out (Env.ext he.out hx.out)).mono ?_
  rintro e w1 ⟨rfl, hx1⟩
  replace hx : Hid (Ext w w1) := hx.out.trans hx1
  clear hx1
  go_wp2
  go_ret
  exact ⟨rfl, hx.out⟩

set_option maxHeartbeats 4000000 in
theorem go_fit_01 (a0 R : Int) (l t : List UInt8) (w : World) (he : Hid (Env w)) (iA : I64 a0) (hR : a0.tmod 10000000001 = R) (rR : R.natAbs ≤ 10000000000)
    (hl : l.length ≤ 100) (ht : t.length ≤ 100) (c g : Int) (t1 : takeM l = (c, g)) (hg : (g != 0) = true) (d : Int) (t2 : takeR t = (d, 0)) (k1 : -1000000000000000 ≤ a0) (k2 : a0 ≤ 1000000000000000) :
    Calls Tryd.prog 4 #[.int .i64 a0, .string ⟨l.toArray⟩, .string ⟨t.toArray⟩] w fun e w' => e = .returned (.bool true) ∧ Ext w w' := by
  have b1 : takeM (moneyL a0) = (a0, 0) := by rw [take_money _ iA, if_pos (by omega)]
  have iR : I64 R := ⟨by omega, by omega⟩
  have b2 : takeR (rateL R) = (R, 0) := by rw [take_rate, if_pos rR]
  have l1 := money_len a0 iA
  have l2 := rate_len R iR
  have q2 := (rate_take t d t2).1
  have iD : I64 d := by have := (rate_take t d t2).2; exact ⟨by omega, by omega⟩
  generalize gM : moneyL a0 = M at *
  generalize gT : rateL R = T at *
  replace b1 := show Hid _ from b1
  replace b2 := show Hid _ from b2
  replace l1 := show Hid _ from l1
  replace l2 := show Hid _ from l2
  replace gM := show Hid _ from gM
  replace gT := show Hid _ from gT
  replace t1 := show Hid _ from t1
  replace t2 := show Hid _ from t2
  replace iA := show Hid _ from iA
  replace iR := show Hid _ from iR
  replace rR := show Hid _ from rR
  replace q2 := show Hid _ from q2
  replace iD := show Hid _ from iD
  have hl' : ¬ (100 : Int) < (l.length : Int) := by omega
  have ht' : ¬ (100 : Int) < (t.length : Int) := by omega
  go_enter Tryd.func4, Tryd.ntmps4
  go_wp2_with fail
  refine (money_x a0 M gM.out _ iA.out he.out).mono ?_
  rintro e w1 ⟨rfl, hx1⟩
  have hx : Hid (Ext w w1) := hx1
  clear hx1
  go_wp2_with fail
  refine (takeMoney_x M _ _ b1.out _ l1.out (Env.ext he.out hx.out)).mono ?_
  rintro e w1 ⟨rfl, hx1⟩
  replace hx : Hid (Ext w w1) := hx.out.trans hx1
  clear hx1
  go_wp2_with fail
  refine (rate_x R T gT.out _ iR.out (Env.ext he.out hx.out)).mono ?_
  rintro e w1 ⟨rfl, hx1⟩
  replace hx : Hid (Ext w w1) := hx.out.trans hx1
  clear hx1
  go_wp2_with fail
  refine (takeRate_x T _ _ b2.out _ l2.out (Env.ext he.out hx.out)).mono ?_
  rintro e w1 ⟨rfl, hx1⟩
  replace hx : Hid (Ext w w1) := hx.out.trans hx1
  clear hx1
  go_wp2_with fail
  refine (takeMoney_x l _ _ t1.out _ (by omega) (Env.ext he.out hx.out)).mono ?_
  rintro e w1 ⟨rfl, hx1⟩
  replace hx : Hid (Ext w w1) := hx.out.trans hx1
  clear hx1
  go_wp2_with fail
  refine (takeRate_x t _ _ t2.out _ (by omega) (Env.ext he.out hx.out)).mono ?_
  rintro e w1 ⟨rfl, hx1⟩
  replace hx : Hid (Ext w w1) := hx.out.trans hx1
  clear hx1
  go_wp2_with fail
  refine (awake_c _ (Env.ext he.out hx.out)).mono ?_
  rintro e w1 ⟨rfl, hx1⟩
  replace hx : Hid (Ext w w1) := hx.out.trans hx1
  clear hx1
  go_wp2_with fail
  refine (rate_x d t q2.out _ iD.out (Env.ext he.out hx.out)).mono ?_
  rintro e w1 ⟨rfl, hx1⟩
  replace hx : Hid (Ext w w1) := hx.out.trans hx1
  clear hx1
  go_wp2
  go_ret
  exact ⟨rfl, hx.out⟩

set_option maxHeartbeats 4000000 in
theorem go_fit_00 (a0 R : Int) (l t : List UInt8) (w : World) (he : Hid (Env w)) (iA : I64 a0) (hR : a0.tmod 10000000001 = R) (rR : R.natAbs ≤ 10000000000)
    (hl : l.length ≤ 100) (ht : t.length ≤ 100) (c g : Int) (t1 : takeM l = (c, g)) (hg : (g != 0) = true) (d h : Int) (t2 : takeR t = (d, h)) (hh : (h != 0) = true) (k1 : -1000000000000000 ≤ a0) (k2 : a0 ≤ 1000000000000000) :
    Calls Tryd.prog 4 #[.int .i64 a0, .string ⟨l.toArray⟩, .string ⟨t.toArray⟩] w fun e w' => e = .returned (.bool true) ∧ Ext w w' := by
  have b1 : takeM (moneyL a0) = (a0, 0) := by rw [take_money _ iA, if_pos (by omega)]
  have iR : I64 R := ⟨by omega, by omega⟩
  have b2 : takeR (rateL R) = (R, 0) := by rw [take_rate, if_pos rR]
  have l1 := money_len a0 iA
  have l2 := rate_len R iR
  generalize gM : moneyL a0 = M at *
  generalize gT : rateL R = T at *
  replace b1 := show Hid _ from b1
  replace b2 := show Hid _ from b2
  replace l1 := show Hid _ from l1
  replace l2 := show Hid _ from l2
  replace gM := show Hid _ from gM
  replace gT := show Hid _ from gT
  replace t1 := show Hid _ from t1
  replace t2 := show Hid _ from t2
  replace iA := show Hid _ from iA
  replace iR := show Hid _ from iR
  replace rR := show Hid _ from rR
  have hl' : ¬ (100 : Int) < (l.length : Int) := by omega
  have ht' : ¬ (100 : Int) < (t.length : Int) := by omega
  go_enter Tryd.func4, Tryd.ntmps4
  go_wp2_with fail
  refine (money_x a0 M gM.out _ iA.out he.out).mono ?_
  rintro e w1 ⟨rfl, hx1⟩
  have hx : Hid (Ext w w1) := hx1
  clear hx1
  go_wp2_with fail
  refine (takeMoney_x M _ _ b1.out _ l1.out (Env.ext he.out hx.out)).mono ?_
  rintro e w1 ⟨rfl, hx1⟩
  replace hx : Hid (Ext w w1) := hx.out.trans hx1
  clear hx1
  go_wp2_with fail
  refine (rate_x R T gT.out _ iR.out (Env.ext he.out hx.out)).mono ?_
  rintro e w1 ⟨rfl, hx1⟩
  replace hx : Hid (Ext w w1) := hx.out.trans hx1
  clear hx1
  go_wp2_with fail
  refine (takeRate_x T _ _ b2.out _ l2.out (Env.ext he.out hx.out)).mono ?_
  rintro e w1 ⟨rfl, hx1⟩
  replace hx : Hid (Ext w w1) := hx.out.trans hx1
  clear hx1
  go_wp2_with fail
  refine (takeMoney_x l _ _ t1.out _ (by omega) (Env.ext he.out hx.out)).mono ?_
  rintro e w1 ⟨rfl, hx1⟩
  replace hx : Hid (Ext w w1) := hx.out.trans hx1
  clear hx1
  go_wp2_with fail
  refine (takeRate_x t _ _ t2.out _ (by omega) (Env.ext he.out hx.out)).mono ?_
  rintro e w1 ⟨rfl, hx1⟩
  replace hx : Hid (Ext w w1) := hx.out.trans hx1
  clear hx1
  go_wp2_with fail
  refine (awake_c _ (Env.ext he.out hx.out)).mono ?_
  rintro e w1 ⟨rfl, hx1⟩
  replace hx : Hid (Ext w w1) := hx.out.trans hx1
  clear hx1
  go_wp2
  go_ret
  exact ⟨rfl, hx.out⟩

set_option maxHeartbeats 4000000 in
theorem go_low_11 (a0 R : Int) (l t : List UInt8) (w : World) (he : Hid (Env w)) (iA : I64 a0) (hR : a0.tmod 10000000001 = R) (rR : R.natAbs ≤ 10000000000)
    (hl : l.length ≤ 100) (ht : t.length ≤ 100) (c : Int) (t1 : takeM l = (c, 0)) (d : Int) (t2 : takeR t = (d, 0)) (k1 : ¬ -1000000000000000 ≤ a0) :
    Calls Tryd.prog 4 #[.int .i64 a0, .string ⟨l.toArray⟩, .string ⟨t.toArray⟩] w fun e w' => e = .returned (.bool true) ∧ Ext w w' := by
  have b1 : takeM (moneyL a0) = (0, 3) := by rw [take_money _ iA, if_neg (by omega)]
  have iR : I64 R := ⟨by omega, by omega⟩
  have b2 : takeR (rateL R) = (R, 0) := by rw [take_rate, if_pos rR]
  have l1 := money_len a0 iA
  have l2 := rate_len R iR
  have q1 := money_take l c t1
  have iC := takeM_fits l c t1
  have q2 := (rate_take t d t2).1
  have iD : I64 d := by have := (rate_take t d t2).2; exact ⟨by omega, by omega⟩
  generalize gM : moneyL a0 = M at *
  generalize gT : rateL R = T at *
  replace b1 := show Hid _ from b1
  replace b2 := show Hid _ from b2
  replace l1 := show Hid _ from l1
  replace l2 := show Hid _ from l2
  replace gM := show Hid _ from gM
  replace gT := show Hid _ from gT
  replace t1 := show Hid _ from t1
  replace t2 := show Hid _ from t2
  replace iA := show Hid _ from iA
  replace iR := show Hid _ from iR
  replace rR := show Hid _ from rR
  replace q1 := show Hid _ from q1
  replace iC := show Hid _ from iC
  replace q2 := show Hid _ from q2
  replace iD := show Hid _ from iD
  have hl' : ¬ (100 : Int) < (l.length : Int) := by omega
  have ht' : ¬ (100 : Int) < (t.length : Int) := by omega
  have kd : decide (-1000000000000000 ≤ a0) = false := decide_eq_false k1
  go_enter Tryd.func4, Tryd.ntmps4
  go_wp2_with fail
  refine (money_x a0 M gM.out _ iA.out he.out).mono ?_
  rintro e w1 ⟨rfl, hx1⟩
  have hx : Hid (Ext w w1) := hx1
  clear hx1
  go_wp2_with fail
  refine (takeMoney_x M _ _ b1.out _ l1.out (Env.ext he.out hx.out)).mono ?_
  rintro e w1 ⟨rfl, hx1⟩
  replace hx : Hid (Ext w w1) := hx.out.trans hx1
  clear hx1
  go_wp2_with fail
  refine (rate_x R T gT.out _ iR.out (Env.ext he.out hx.out)).mono ?_
  rintro e w1 ⟨rfl, hx1⟩
  replace hx : Hid (Ext w w1) := hx.out.trans hx1
  clear hx1
  go_wp2_with fail
  refine (takeRate_x T _ _ b2.out _ l2.out (Env.ext he.out hx.out)).mono ?_
  rintro e w1 ⟨rfl, hx1⟩
  replace hx : Hid (Ext w w1) := hx.out.trans hx1
  clear hx1
  go_wp2_with fail
  refine (takeMoney_x l _ _ t1.out _ (by omega) (Env.ext he.out hx.out)).mono ?_
  rintro e w1 ⟨rfl, hx1⟩
  replace hx : Hid (Ext w w1) := hx.out.trans hx1
  clear hx1
  go_wp2_with fail
  refine (takeRate_x t _ _ t2.out _ (by omega) (Env.ext he.out hx.out)).mono ?_
  rintro e w1 ⟨rfl, hx1⟩
  replace hx : Hid (Ext w w1) := hx.out.trans hx1
  clear hx1
  go_wp2_with fail
  refine (awake_c _ (Env.ext he.out hx.out)).mono ?_
  rintro e w1 ⟨rfl, hx1⟩
  replace hx : Hid (Ext w w1) := hx.out.trans hx1
  clear hx1
  go_wp2_with fail
  refine (money_x c l q1.out _ iC.out (Env.ext he.out hx.out)).mono ?_
  rintro e w1 ⟨rfl, hx1⟩
  replace hx : Hid (Ext w w1) := hx.out.trans hx1
  clear hx1
  go_wp2_with fail
  refine (rate_x d t q2.out _ iD.out (Env.ext he.out hx.out)).mono ?_
  rintro e w1 ⟨rfl, hx1⟩
  replace hx : Hid (Ext w w1) := hx.out.trans hx1
  clear hx1
  go_wp2
  go_ret
  exact ⟨rfl, hx.out⟩

set_option maxHeartbeats 4000000 in
theorem go_low_10 (a0 R : Int) (l t : List UInt8) (w : World) (he : Hid (Env w)) (iA : I64 a0) (hR : a0.tmod 10000000001 = R) (rR : R.natAbs ≤ 10000000000)
    (hl : l.length ≤ 100) (ht : t.length ≤ 100) (c : Int) (t1 : takeM l = (c, 0)) (d h : Int) (t2 : takeR t = (d, h)) (hh : (h != 0) = true) (k1 : ¬ -1000000000000000 ≤ a0) :
    Calls Tryd.prog 4 #[.int .i64 a0, .string ⟨l.toArray⟩, .string ⟨t.toArray⟩] w fun e w' => e = .returned (.bool true) ∧ Ext w w' := by
  have b1 : takeM (moneyL a0) = (0, 3) := by rw [take_money _ iA, if_neg (by omega)]
  have iR : I64 R := ⟨by omega, by omega⟩
  have b2 : takeR (rateL R) = (R, 0) := by rw [take_rate, if_pos rR]
  have l1 := money_len a0 iA
  have l2 := rate_len R iR
  have q1 := money_take l c t1
  have iC := takeM_fits l c t1
  generalize gM : moneyL a0 = M at *
  generalize gT : rateL R = T at *
  replace b1 := show Hid _ from b1
  replace b2 := show Hid _ from b2
  replace l1 := show Hid _ from l1
  replace l2 := show Hid _ from l2
  replace gM := show Hid _ from gM
  replace gT := show Hid _ from gT
  replace t1 := show Hid _ from t1
  replace t2 := show Hid _ from t2
  replace iA := show Hid _ from iA
  replace iR := show Hid _ from iR
  replace rR := show Hid _ from rR
  replace q1 := show Hid _ from q1
  replace iC := show Hid _ from iC
  have hl' : ¬ (100 : Int) < (l.length : Int) := by omega
  have ht' : ¬ (100 : Int) < (t.length : Int) := by omega
  have kd : decide (-1000000000000000 ≤ a0) = false := decide_eq_false k1
  go_enter Tryd.func4, Tryd.ntmps4
  go_wp2_with fail
  refine (money_x a0 M gM.out _ iA.out he.out).mono ?_
  rintro e w1 ⟨rfl, hx1⟩
  have hx : Hid (Ext w w1) := hx1
  clear hx1
  go_wp2_with fail
  refine (takeMoney_x M _ _ b1.out _ l1.out (Env.ext he.out hx.out)).mono ?_
  rintro e w1 ⟨rfl, hx1⟩
  replace hx : Hid (Ext w w1) := hx.out.trans hx1
  clear hx1
  go_wp2_with fail
  refine (rate_x R T gT.out _ iR.out (Env.ext he.out hx.out)).mono ?_
  rintro e w1 ⟨rfl, hx1⟩
  replace hx : Hid (Ext w w1) := hx.out.trans hx1
  clear hx1
  go_wp2_with fail
  refine (takeRate_x T _ _ b2.out _ l2.out (Env.ext he.out hx.out)).mono ?_
  rintro e w1 ⟨rfl, hx1⟩
  replace hx : Hid (Ext w w1) := hx.out.trans hx1
  clear hx1
  go_wp2_with fail
  refine (takeMoney_x l _ _ t1.out _ (by omega) (Env.ext he.out hx.out)).mono ?_
  rintro e w1 ⟨rfl, hx1⟩
  replace hx : Hid (Ext w w1) := hx.out.trans hx1
  clear hx1
  go_wp2_with fail
  refine (takeRate_x t _ _ t2.out _ (by omega) (Env.ext he.out hx.out)).mono ?_
  rintro e w1 ⟨rfl, hx1⟩
  replace hx : Hid (Ext w w1) := hx.out.trans hx1
  clear hx1
  go_wp2_with fail
  refine (awake_c _ (Env.ext he.out hx.out)).mono ?_
  rintro e w1 ⟨rfl, hx1⟩
  replace hx : Hid (Ext w w1) := hx.out.trans hx1
  clear hx1
  go_wp2_with fail
  refine (money_x c l q1.out _ iC.out (Env.ext he.out hx.out)).mono ?_
  rintro e w1 ⟨rfl, hx1⟩
  replace hx : Hid (Ext w w1) := hx.out.trans hx1
  clear hx1
  go_wp2
  go_ret
  exact ⟨rfl, hx.out⟩

set_option maxHeartbeats 4000000 in
theorem go_low_01 (a0 R : Int) (l t : List UInt8) (w : World) (he : Hid (Env w)) (iA : I64 a0) (hR : a0.tmod 10000000001 = R) (rR : R.natAbs ≤ 10000000000)
    (hl : l.length ≤ 100) (ht : t.length ≤ 100) (c g : Int) (t1 : takeM l = (c, g)) (hg : (g != 0) = true) (d : Int) (t2 : takeR t = (d, 0)) (k1 : ¬ -1000000000000000 ≤ a0) :
    Calls Tryd.prog 4 #[.int .i64 a0, .string ⟨l.toArray⟩, .string ⟨t.toArray⟩] w fun e w' => e = .returned (.bool true) ∧ Ext w w' := by
  have b1 : takeM (moneyL a0) = (0, 3) := by rw [take_money _ iA, if_neg (by omega)]
  have iR : I64 R := ⟨by omega, by omega⟩
  have b2 : takeR (rateL R) = (R, 0) := by rw [take_rate, if_pos rR]
  have l1 := money_len a0 iA
  have l2 := rate_len R iR
  have q2 := (rate_take t d t2).1
  have iD : I64 d := by have := (rate_take t d t2).2; exact ⟨by omega, by omega⟩
  generalize gM : moneyL a0 = M at *
  generalize gT : rateL R = T at *
  replace b1 := show Hid _ from b1
  replace b2 := show Hid _ from b2
  replace l1 := show Hid _ from l1
  replace l2 := show Hid _ from l2
  replace gM := show Hid _ from gM
  replace gT := show Hid _ from gT
  replace t1 := show Hid _ from t1
  replace t2 := show Hid _ from t2
  replace iA := show Hid _ from iA
  replace iR := show Hid _ from iR
  replace rR := show Hid _ from rR
  replace q2 := show Hid _ from q2
  replace iD := show Hid _ from iD
  have hl' : ¬ (100 : Int) < (l.length : Int) := by omega
  have ht' : ¬ (100 : Int) < (t.length : Int) := by omega
  have kd : decide (-1000000000000000 ≤ a0) = false := decide_eq_false k1
  go_enter Tryd.func4, Tryd.ntmps4
  go_wp2_with fail
  refine (money_x a0 M gM.out _ iA.out he.out).mono ?_
  rintro e w1 ⟨rfl, hx1⟩
  have hx : Hid (Ext w w1) := hx1
  clear hx1
  go_wp2_with fail
  refine (takeMoney_x M _ _ b1.out _ l1.out (Env.ext he.out hx.out)).mono ?_
  rintro e w1 ⟨rfl, hx1⟩
  replace hx : Hid (Ext w w1) := hx.out.trans hx1
  clear hx1
  go_wp2_with fail
  refine (rate_x R T gT.out _ iR.out (Env.ext he.out hx.out)).mono ?_
  rintro e w1 ⟨rfl, hx1⟩
  replace hx : Hid (Ext w w1) := hx.out.trans hx1
  clear hx1
  go_wp2_with fail
  refine (takeRate_x T _ _ b2.out _ l2.out (Env.ext he.out hx.out)).mono ?_
  rintro e w1 ⟨rfl, hx1⟩
  replace hx : Hid (Ext w w1) := hx.out.trans hx1
  clear hx1
  go_wp2_with fail
  refine (takeMoney_x l _ _ t1.out _ (by omega) (Env.ext he.out hx.out)).mono ?_
  rintro e w1 ⟨rfl, hx1⟩
  replace hx : Hid (Ext w w1) := hx.out.trans hx1
  clear hx1
  go_wp2_with fail
  refine (takeRate_x t _ _ t2.out _ (by omega) (Env.ext he.out hx.out)).mono ?_
  rintro e w1 ⟨rfl, hx1⟩
  replace hx : Hid (Ext w w1) := hx.out.trans hx1
  clear hx1
  go_wp2_with fail
  refine (awake_c _ (Env.ext he.out hx.out)).mono ?_
  rintro e w1 ⟨rfl, hx1⟩
  replace hx : Hid (Ext w w1) := hx.out.trans hx1
  clear hx1
  go_wp2_with fail
  refine (rate_x d t q2.out _ iD.out (Env.ext he.out hx.out)).mono ?_
  rintro e w1 ⟨rfl, hx1⟩
  replace hx : Hid (Ext w w1) := hx.out.trans hx1
  clear hx1
  go_wp2
  go_ret
  exact ⟨rfl, hx.out⟩

set_option maxHeartbeats 4000000 in
theorem go_low_00 (a0 R : Int) (l t : List UInt8) (w : World) (he : Hid (Env w)) (iA : I64 a0) (hR : a0.tmod 10000000001 = R) (rR : R.natAbs ≤ 10000000000)
    (hl : l.length ≤ 100) (ht : t.length ≤ 100) (c g : Int) (t1 : takeM l = (c, g)) (hg : (g != 0) = true) (d h : Int) (t2 : takeR t = (d, h)) (hh : (h != 0) = true) (k1 : ¬ -1000000000000000 ≤ a0) :
    Calls Tryd.prog 4 #[.int .i64 a0, .string ⟨l.toArray⟩, .string ⟨t.toArray⟩] w fun e w' => e = .returned (.bool true) ∧ Ext w w' := by
  have b1 : takeM (moneyL a0) = (0, 3) := by rw [take_money _ iA, if_neg (by omega)]
  have iR : I64 R := ⟨by omega, by omega⟩
  have b2 : takeR (rateL R) = (R, 0) := by rw [take_rate, if_pos rR]
  have l1 := money_len a0 iA
  have l2 := rate_len R iR
  generalize gM : moneyL a0 = M at *
  generalize gT : rateL R = T at *
  replace b1 := show Hid _ from b1
  replace b2 := show Hid _ from b2
  replace l1 := show Hid _ from l1
  replace l2 := show Hid _ from l2
  replace gM := show Hid _ from gM
  replace gT := show Hid _ from gT
  replace t1 := show Hid _ from t1
  replace t2 := show Hid _ from t2
  replace iA := show Hid _ from iA
  replace iR := show Hid _ from iR
  replace rR := show Hid _ from rR
  have hl' : ¬ (100 : Int) < (l.length : Int) := by omega
  have ht' : ¬ (100 : Int) < (t.length : Int) := by omega
  have kd : decide (-1000000000000000 ≤ a0) = false := decide_eq_false k1
  go_enter Tryd.func4, Tryd.ntmps4
  go_wp2_with fail
  refine (money_x a0 M gM.out _ iA.out he.out).mono ?_
  rintro e w1 ⟨rfl, hx1⟩
  have hx : Hid (Ext w w1) := hx1
  clear hx1
  go_wp2_with fail
  refine (takeMoney_x M _ _ b1.out _ l1.out (Env.ext he.out hx.out)).mono ?_
  rintro e w1 ⟨rfl, hx1⟩
  replace hx : Hid (Ext w w1) := hx.out.trans hx1
  clear hx1
  go_wp2_with fail
  refine (rate_x R T gT.out _ iR.out (Env.ext he.out hx.out)).mono ?_
  rintro e w1 ⟨rfl, hx1⟩
  replace hx : Hid (Ext w w1) := hx.out.trans hx1
  clear hx1
  go_wp2_with fail
  refine (takeRate_x T _ _ b2.out _ l2.out (Env.ext he.out hx.out)).mono ?_
  rintro e w1 ⟨rfl, hx1⟩
  replace hx : Hid (Ext w w1) := hx.out.trans hx1
  clear hx1
  go_wp2_with fail
  refine (takeMoney_x l _ _ t1.out _ (by omega) (Env.ext he.out hx.out)).mono ?_
  rintro e w1 ⟨rfl, hx1⟩
  replace hx : Hid (Ext w w1) := hx.out.trans hx1
  clear hx1
  go_wp2_with fail
  refine (takeRate_x t _ _ t2.out _ (by omega) (Env.ext he.out hx.out)).mono ?_
  rintro e w1 ⟨rfl, hx1⟩
  replace hx : Hid (Ext w w1) := hx.out.trans hx1
  clear hx1
  go_wp2_with fail
  refine (awake_c _ (Env.ext he.out hx.out)).mono ?_
  rintro e w1 ⟨rfl, hx1⟩
  replace hx : Hid (Ext w w1) := hx.out.trans hx1
  clear hx1
  go_wp2
  go_ret
  exact ⟨rfl, hx.out⟩

set_option maxHeartbeats 4000000 in
theorem go_high_11 (a0 R : Int) (l t : List UInt8) (w : World) (he : Hid (Env w)) (iA : I64 a0) (hR : a0.tmod 10000000001 = R) (rR : R.natAbs ≤ 10000000000)
    (hl : l.length ≤ 100) (ht : t.length ≤ 100) (c : Int) (t1 : takeM l = (c, 0)) (d : Int) (t2 : takeR t = (d, 0)) (k1 : -1000000000000000 ≤ a0) (k2 : ¬ a0 ≤ 1000000000000000) :
    Calls Tryd.prog 4 #[.int .i64 a0, .string ⟨l.toArray⟩, .string ⟨t.toArray⟩] w fun e w' => e = .returned (.bool true) ∧ Ext w w' := by
  have b1 : takeM (moneyL a0) = (0, 3) := by rw [take_money _ iA, if_neg (by omega)]
  have iR : I64 R := ⟨by omega, by omega⟩
  have b2 : takeR (rateL R) = (R, 0) := by rw [take_rate, if_pos rR]
  have l1 := money_len a0 iA
  have l2 := rate_len R iR
  have q1 := money_take l c t1
  have iC := takeM_fits l c t1
  have q2 := (rate_take t d t2).1
  have iD : I64 d := by have := (rate_take t d t2).2; exact ⟨by omega, by omega⟩
  generalize gM : moneyL a0 = M at *
  generalize gT : rateL R = T at *
  replace b1 := show Hid _ from b1
  replace b2 := show Hid _ from b2
  replace l1 := show Hid _ from l1
  replace l2 := show Hid _ from l2
  replace gM := show Hid _ from gM
  replace gT := show Hid _ from gT
  replace t1 := show Hid _ from t1
  replace t2 := show Hid _ from t2
  replace iA := show Hid _ from iA
  replace iR := show Hid _ from iR
  replace rR := show Hid _ from rR
  replace q1 := show Hid _ from q1
  replace iC := show Hid _ from iC
  replace q2 := show Hid _ from q2
  replace iD := show Hid _ from iD
  have hl' : ¬ (100 : Int) < (l.length : Int) := by omega
  have ht' : ¬ (100 : Int) < (t.length : Int) := by omega
  have kd : decide (a0 ≤ 1000000000000000) = false := decide_eq_false k2
  go_enter Tryd.func4, Tryd.ntmps4
  go_wp2_with fail
  refine (money_x a0 M gM.out _ iA.out he.out).mono ?_
  rintro e w1 ⟨rfl, hx1⟩
  have hx : Hid (Ext w w1) := hx1
  clear hx1
  go_wp2_with fail
  refine (takeMoney_x M _ _ b1.out _ l1.out (Env.ext he.out hx.out)).mono ?_
  rintro e w1 ⟨rfl, hx1⟩
  replace hx : Hid (Ext w w1) := hx.out.trans hx1
  clear hx1
  go_wp2_with fail
  refine (rate_x R T gT.out _ iR.out (Env.ext he.out hx.out)).mono ?_
  rintro e w1 ⟨rfl, hx1⟩
  replace hx : Hid (Ext w w1) := hx.out.trans hx1
  clear hx1
  go_wp2_with fail
  refine (takeRate_x T _ _ b2.out _ l2.out (Env.ext he.out hx.out)).mono ?_
  rintro e w1 ⟨rfl, hx1⟩
  replace hx : Hid (Ext w w1) := hx.out.trans hx1
  clear hx1
  go_wp2_with fail
  refine (takeMoney_x l _ _ t1.out _ (by omega) (Env.ext he.out hx.out)).mono ?_
  rintro e w1 ⟨rfl, hx1⟩
  replace hx : Hid (Ext w w1) := hx.out.trans hx1
  clear hx1
  go_wp2_with fail
  refine (takeRate_x t _ _ t2.out _ (by omega) (Env.ext he.out hx.out)).mono ?_
  rintro e w1 ⟨rfl, hx1⟩
  replace hx : Hid (Ext w w1) := hx.out.trans hx1
  clear hx1
  go_wp2_with fail
  refine (awake_c _ (Env.ext he.out hx.out)).mono ?_
  rintro e w1 ⟨rfl, hx1⟩
  replace hx : Hid (Ext w w1) := hx.out.trans hx1
  clear hx1
  go_wp2_with fail
  refine (money_x c l q1.out _ iC.out (Env.ext he.out hx.out)).mono ?_
  rintro e w1 ⟨rfl, hx1⟩
  replace hx : Hid (Ext w w1) := hx.out.trans hx1
  clear hx1
  go_wp2_with fail
  refine (rate_x d t q2.out _ iD.out (Env.ext he.out hx.out)).mono ?_
  rintro e w1 ⟨rfl, hx1⟩
  replace hx : Hid (Ext w w1) := hx.out.trans hx1
  clear hx1
  go_wp2
  go_ret
  exact ⟨rfl, hx.out⟩

set_option maxHeartbeats 4000000 in
theorem go_high_10 (a0 R : Int) (l t : List UInt8) (w : World) (he : Hid (Env w)) (iA : I64 a0) (hR : a0.tmod 10000000001 = R) (rR : R.natAbs ≤ 10000000000)
    (hl : l.length ≤ 100) (ht : t.length ≤ 100) (c : Int) (t1 : takeM l = (c, 0)) (d h : Int) (t2 : takeR t = (d, h)) (hh : (h != 0) = true) (k1 : -1000000000000000 ≤ a0) (k2 : ¬ a0 ≤ 1000000000000000) :
    Calls Tryd.prog 4 #[.int .i64 a0, .string ⟨l.toArray⟩, .string ⟨t.toArray⟩] w fun e w' => e = .returned (.bool true) ∧ Ext w w' := by
  have b1 : takeM (moneyL a0) = (0, 3) := by rw [take_money _ iA, if_neg (by omega)]
  have iR : I64 R := ⟨by omega, by omega⟩
  have b2 : takeR (rateL R) = (R, 0) := by rw [take_rate, if_pos rR]
  have l1 := money_len a0 iA
  have l2 := rate_len R iR
  have q1 := money_take l c t1
  have iC := takeM_fits l c t1
  generalize gM : moneyL a0 = M at *
  generalize gT : rateL R = T at *
  replace b1 := show Hid _ from b1
  replace b2 := show Hid _ from b2
  replace l1 := show Hid _ from l1
  replace l2 := show Hid _ from l2
  replace gM := show Hid _ from gM
  replace gT := show Hid _ from gT
  replace t1 := show Hid _ from t1
  replace t2 := show Hid _ from t2
  replace iA := show Hid _ from iA
  replace iR := show Hid _ from iR
  replace rR := show Hid _ from rR
  replace q1 := show Hid _ from q1
  replace iC := show Hid _ from iC
  have hl' : ¬ (100 : Int) < (l.length : Int) := by omega
  have ht' : ¬ (100 : Int) < (t.length : Int) := by omega
  have kd : decide (a0 ≤ 1000000000000000) = false := decide_eq_false k2
  go_enter Tryd.func4, Tryd.ntmps4
  go_wp2_with fail
  refine (money_x a0 M gM.out _ iA.out he.out).mono ?_
  rintro e w1 ⟨rfl, hx1⟩
  have hx : Hid (Ext w w1) := hx1
  clear hx1
  go_wp2_with fail
  refine (takeMoney_x M _ _ b1.out _ l1.out (Env.ext he.out hx.out)).mono ?_
  rintro e w1 ⟨rfl, hx1⟩
  replace hx : Hid (Ext w w1) := hx.out.trans hx1
  clear hx1
  go_wp2_with fail
  refine (rate_x R T gT.out _ iR.out (Env.ext he.out hx.out)).mono ?_
  rintro e w1 ⟨rfl, hx1⟩
  replace hx : Hid (Ext w w1) := hx.out.trans hx1
  clear hx1
  go_wp2_with fail
  refine (takeRate_x T _ _ b2.out _ l2.out (Env.ext he.out hx.out)).mono ?_
  rintro e w1 ⟨rfl, hx1⟩
  replace hx : Hid (Ext w w1) := hx.out.trans hx1
  clear hx1
  go_wp2_with fail
  refine (takeMoney_x l _ _ t1.out _ (by omega) (Env.ext he.out hx.out)).mono ?_
  rintro e w1 ⟨rfl, hx1⟩
  replace hx : Hid (Ext w w1) := hx.out.trans hx1
  clear hx1
  go_wp2_with fail
  refine (takeRate_x t _ _ t2.out _ (by omega) (Env.ext he.out hx.out)).mono ?_
  rintro e w1 ⟨rfl, hx1⟩
  replace hx : Hid (Ext w w1) := hx.out.trans hx1
  clear hx1
  go_wp2_with fail
  refine (awake_c _ (Env.ext he.out hx.out)).mono ?_
  rintro e w1 ⟨rfl, hx1⟩
  replace hx : Hid (Ext w w1) := hx.out.trans hx1
  clear hx1
  go_wp2_with fail
  refine (money_x c l q1.out _ iC.out (Env.ext he.out hx.out)).mono ?_
  rintro e w1 ⟨rfl, hx1⟩
  replace hx : Hid (Ext w w1) := hx.out.trans hx1
  clear hx1
  go_wp2
  go_ret
  exact ⟨rfl, hx.out⟩

set_option maxHeartbeats 4000000 in
theorem go_high_01 (a0 R : Int) (l t : List UInt8) (w : World) (he : Hid (Env w)) (iA : I64 a0) (hR : a0.tmod 10000000001 = R) (rR : R.natAbs ≤ 10000000000)
    (hl : l.length ≤ 100) (ht : t.length ≤ 100) (c g : Int) (t1 : takeM l = (c, g)) (hg : (g != 0) = true) (d : Int) (t2 : takeR t = (d, 0)) (k1 : -1000000000000000 ≤ a0) (k2 : ¬ a0 ≤ 1000000000000000) :
    Calls Tryd.prog 4 #[.int .i64 a0, .string ⟨l.toArray⟩, .string ⟨t.toArray⟩] w fun e w' => e = .returned (.bool true) ∧ Ext w w' := by
  have b1 : takeM (moneyL a0) = (0, 3) := by rw [take_money _ iA, if_neg (by omega)]
  have iR : I64 R := ⟨by omega, by omega⟩
  have b2 : takeR (rateL R) = (R, 0) := by rw [take_rate, if_pos rR]
  have l1 := money_len a0 iA
  have l2 := rate_len R iR
  have q2 := (rate_take t d t2).1
  have iD : I64 d := by have := (rate_take t d t2).2; exact ⟨by omega, by omega⟩
  generalize gM : moneyL a0 = M at *
  generalize gT : rateL R = T at *
  replace b1 := show Hid _ from b1
  replace b2 := show Hid _ from b2
  replace l1 := show Hid _ from l1
  replace l2 := show Hid _ from l2
  replace gM := show Hid _ from gM
  replace gT := show Hid _ from gT
  replace t1 := show Hid _ from t1
  replace t2 := show Hid _ from t2
  replace iA := show Hid _ from iA
  replace iR := show Hid _ from iR
  replace rR := show Hid _ from rR
  replace q2 := show Hid _ from q2
  replace iD := show Hid _ from iD
  have hl' : ¬ (100 : Int) < (l.length : Int) := by omega
  have ht' : ¬ (100 : Int) < (t.length : Int) := by omega
  have kd : decide (a0 ≤ 1000000000000000) = false := decide_eq_false k2
  go_enter Tryd.func4, Tryd.ntmps4
  go_wp2_with fail
  refine (money_x a0 M gM.out _ iA.out he.out).mono ?_
  rintro e w1 ⟨rfl, hx1⟩
  have hx : Hid (Ext w w1) := hx1
  clear hx1
  go_wp2_with fail
  refine (takeMoney_x M _ _ b1.out _ l1.out (Env.ext he.out hx.out)).mono ?_
  rintro e w1 ⟨rfl, hx1⟩
  replace hx : Hid (Ext w w1) := hx.out.trans hx1
  clear hx1
  go_wp2_with fail
  refine (rate_x R T gT.out _ iR.out (Env.ext he.out hx.out)).mono ?_
  rintro e w1 ⟨rfl, hx1⟩
  replace hx : Hid (Ext w w1) := hx.out.trans hx1
  clear hx1
  go_wp2_with fail
  refine (takeRate_x T _ _ b2.out _ l2.out (Env.ext he.out hx.out)).mono ?_
  rintro e w1 ⟨rfl, hx1⟩
  replace hx : Hid (Ext w w1) := hx.out.trans hx1
  clear hx1
  go_wp2_with fail
  refine (takeMoney_x l _ _ t1.out _ (by omega) (Env.ext he.out hx.out)).mono ?_
  rintro e w1 ⟨rfl, hx1⟩
  replace hx : Hid (Ext w w1) := hx.out.trans hx1
  clear hx1
  go_wp2_with fail
  refine (takeRate_x t _ _ t2.out _ (by omega) (Env.ext he.out hx.out)).mono ?_
  rintro e w1 ⟨rfl, hx1⟩
  replace hx : Hid (Ext w w1) := hx.out.trans hx1
  clear hx1
  go_wp2_with fail
  refine (awake_c _ (Env.ext he.out hx.out)).mono ?_
  rintro e w1 ⟨rfl, hx1⟩
  replace hx : Hid (Ext w w1) := hx.out.trans hx1
  clear hx1
  go_wp2_with fail
  refine (rate_x d t q2.out _ iD.out (Env.ext he.out hx.out)).mono ?_
  rintro e w1 ⟨rfl, hx1⟩
  replace hx : Hid (Ext w w1) := hx.out.trans hx1
  clear hx1
  go_wp2
  go_ret
  exact ⟨rfl, hx.out⟩

set_option maxHeartbeats 4000000 in
theorem go_high_00 (a0 R : Int) (l t : List UInt8) (w : World) (he : Hid (Env w)) (iA : I64 a0) (hR : a0.tmod 10000000001 = R) (rR : R.natAbs ≤ 10000000000)
    (hl : l.length ≤ 100) (ht : t.length ≤ 100) (c g : Int) (t1 : takeM l = (c, g)) (hg : (g != 0) = true) (d h : Int) (t2 : takeR t = (d, h)) (hh : (h != 0) = true) (k1 : -1000000000000000 ≤ a0) (k2 : ¬ a0 ≤ 1000000000000000) :
    Calls Tryd.prog 4 #[.int .i64 a0, .string ⟨l.toArray⟩, .string ⟨t.toArray⟩] w fun e w' => e = .returned (.bool true) ∧ Ext w w' := by
  have b1 : takeM (moneyL a0) = (0, 3) := by rw [take_money _ iA, if_neg (by omega)]
  have iR : I64 R := ⟨by omega, by omega⟩
  have b2 : takeR (rateL R) = (R, 0) := by rw [take_rate, if_pos rR]
  have l1 := money_len a0 iA
  have l2 := rate_len R iR
  generalize gM : moneyL a0 = M at *
  generalize gT : rateL R = T at *
  replace b1 := show Hid _ from b1
  replace b2 := show Hid _ from b2
  replace l1 := show Hid _ from l1
  replace l2 := show Hid _ from l2
  replace gM := show Hid _ from gM
  replace gT := show Hid _ from gT
  replace t1 := show Hid _ from t1
  replace t2 := show Hid _ from t2
  replace iA := show Hid _ from iA
  replace iR := show Hid _ from iR
  replace rR := show Hid _ from rR
  have hl' : ¬ (100 : Int) < (l.length : Int) := by omega
  have ht' : ¬ (100 : Int) < (t.length : Int) := by omega
  have kd : decide (a0 ≤ 1000000000000000) = false := decide_eq_false k2
  go_enter Tryd.func4, Tryd.ntmps4
  go_wp2_with fail
  refine (money_x a0 M gM.out _ iA.out he.out).mono ?_
  rintro e w1 ⟨rfl, hx1⟩
  have hx : Hid (Ext w w1) := hx1
  clear hx1
  go_wp2_with fail
  refine (takeMoney_x M _ _ b1.out _ l1.out (Env.ext he.out hx.out)).mono ?_
  rintro e w1 ⟨rfl, hx1⟩
  replace hx : Hid (Ext w w1) := hx.out.trans hx1
  clear hx1
  go_wp2_with fail
  refine (rate_x R T gT.out _ iR.out (Env.ext he.out hx.out)).mono ?_
  rintro e w1 ⟨rfl, hx1⟩
  replace hx : Hid (Ext w w1) := hx.out.trans hx1
  clear hx1
  go_wp2_with fail
  refine (takeRate_x T _ _ b2.out _ l2.out (Env.ext he.out hx.out)).mono ?_
  rintro e w1 ⟨rfl, hx1⟩
  replace hx : Hid (Ext w w1) := hx.out.trans hx1
  clear hx1
  go_wp2_with fail
  refine (takeMoney_x l _ _ t1.out _ (by omega) (Env.ext he.out hx.out)).mono ?_
  rintro e w1 ⟨rfl, hx1⟩
  replace hx : Hid (Ext w w1) := hx.out.trans hx1
  clear hx1
  go_wp2_with fail
  refine (takeRate_x t _ _ t2.out _ (by omega) (Env.ext he.out hx.out)).mono ?_
  rintro e w1 ⟨rfl, hx1⟩
  replace hx : Hid (Ext w w1) := hx.out.trans hx1
  clear hx1
  go_wp2_with fail
  refine (awake_c _ (Env.ext he.out hx.out)).mono ?_
  rintro e w1 ⟨rfl, hx1⟩
  replace hx : Hid (Ext w w1) := hx.out.trans hx1
  clear hx1
  go_wp2
  go_ret
  exact ⟨rfl, hx.out⟩


theorem walk (a0 : Int) (w0 : (Lit.int .i64 a0).wf = true) (a1 : ByteArray) (w1 : a1.size ≤ maxLen) (a2 : ByteArray) (w2 : a2.size ≤ maxLen) (w : World) (he : Env w) :
    Calls Tryd.prog 4 #[.int .i64 a0, .string a1, .string a2] w fun e w' => e = .returned (.bool true) ∧ Ext w w' := by
  obtain ⟨l, rfl⟩ : ∃ l : List UInt8, a1 = ⟨l.toArray⟩ := ⟨a1.data.toList, (Lib.mk_data a1).symm⟩
  obtain ⟨t, rfl⟩ : ∃ l : List UInt8, a2 = ⟨l.toArray⟩ := ⟨a2.data.toList, (Lib.mk_data a2).symm⟩
  have iA : I64 a0 := by
    have : -9223372036854775808 ≤ a0 ∧ a0 ≤ 9223372036854775807 := by simpa [Lit.wf, IntKind.min, IntKind.max, IntKind.signed, IntKind.bits] using w0
    exact this
  by_cases h1 : (100 : Int) < (l.length : Int)
  · exact long1 a0 l t w he h1
  by_cases h2 : (100 : Int) < (t.length : Int)
  · exact long2 a0 l t w he h1 h2
  have rR : (a0.tmod 10000000001).natAbs ≤ 10000000000 := by
    have e1 := Int.tmod_lt_of_pos a0 (show (0 : Int) < 10000000001 by omega)
    have e2 := Int.lt_tmod_of_pos a0 (show (0 : Int) < 10000000001 by omega)
    omega
  rcases t1 : takeM l with ⟨c, g⟩
  rcases t2 : takeR t with ⟨d, h⟩
  have l1 : l.length ≤ 100 := by omega
  have l2 : t.length ≤ 100 := by omega
  have ne0 : ∀ x : Int, ¬ x = 0 → (x != 0) = true := by intro x hx; simpa using hx
  by_cases k1 : -1000000000000000 ≤ a0
  · by_cases k2 : a0 ≤ 1000000000000000
    · by_cases hg : g = 0
      · subst hg
        by_cases hh : h = 0
        · subst hh
          exact go_fit_11 a0 _ l t w he iA rfl rR l1 l2 c t1 d t2 k1 k2
        · exact go_fit_10 a0 _ l t w he iA rfl rR l1 l2 c t1 d h t2 (ne0 h hh) k1 k2
      · by_cases hh : h = 0
        · subst hh
          exact go_fit_01 a0 _ l t w he iA rfl rR l1 l2 c g t1 (ne0 g hg) d t2 k1 k2
        · exact go_fit_00 a0 _ l t w he iA rfl rR l1 l2 c g t1 (ne0 g hg) d h t2 (ne0 h hh) k1 k2
    · by_cases hg : g = 0
      · subst hg
        by_cases hh : h = 0
        · subst hh
          exact go_high_11 a0 _ l t w he iA rfl rR l1 l2 c t1 d t2 k1 k2
        · exact go_high_10 a0 _ l t w he iA rfl rR l1 l2 c t1 d h t2 (ne0 h hh) k1 k2
      · by_cases hh : h = 0
        · subst hh
          exact go_high_01 a0 _ l t w he iA rfl rR l1 l2 c g t1 (ne0 g hg) d t2 k1 k2
        · exact go_high_00 a0 _ l t w he iA rfl rR l1 l2 c g t1 (ne0 g hg) d h t2 (ne0 h hh) k1 k2
  · by_cases hg : g = 0
    · subst hg
      by_cases hh : h = 0
      · subst hh
        exact go_low_11 a0 _ l t w he iA rfl rR l1 l2 c t1 d t2 k1
      · exact go_low_10 a0 _ l t w he iA rfl rR l1 l2 c t1 d h t2 (ne0 h hh) k1
    · by_cases hh : h = 0
      · subst hh
        exact go_low_01 a0 _ l t w he iA rfl rR l1 l2 c g t1 (ne0 g hg) d t2 k1
      · exact go_low_00 a0 _ l t w he iA rfl rR l1 l2 c g t1 (ne0 g hg) d h t2 (ne0 h hh) k1

set_option maxRecDepth 100000 in
theorem lifted (os : Os) (started : os.Started) (H : Type) (enc : TypeId × Value → H) :
    ReturnsInHanded {} Tryd.checked os 4 .any (fun w args => (Rows.decimalBackSpec.pre enc Tryd.prog Tryd.f4 [] false w args ∧ laidMetH Tryd.prog laid w) ∧ sizedMet enc Tryd.prog Tryd.f4 (OpenSpec.ofChange Rows.decimalBackSpec) false w args)
      (Rows.decimalBackSpec.post enc Tryd.prog Tryd.f4 false true false false) := by
  refine wrap started (by kernel_rfl) Tryd.func4
    (ChangeSpec.witness_shaped (enc := enc) (C := Tryd.checked) (os := os) (X := fun w _ => laidMetH Tryd.prog laid w) false (World.laidAll Tryd.prog os laid) #[.int .i64 0, .string ⟨#[]⟩, .string ⟨#[]⟩] 8 (World.laidAll_os _ _ _)
      (World.shaped_of_ZipB (by kernel_rfl) (by kernel_rfl)) (by kernel_rfl) (by kernel_rfl) (by kernel_rfl)
      (by rw [MakeChecks.laidMetH_plain _ _ _ (by kernel_rfl)]; exact laidMet_laidAll _ (by kernel_rfl) (by kernel_rfl))) ?_
  intro W base args ds gs before hval0 hW hE
  have hval : ∀ (j : Nat) t v, Tryd.f4.params[j]? = some t → args[j]? = some v → Value.okWide Tryd.prog W .any base t v := hval0
  have hW' := hW
  obtain ⟨p, q, hA0, hV, rfl, _, _⟩ := hW
  have hA : DataW.TrodAll enc Tryd.prog W 0 (fun _ => true) true Tryd.f4.params.toList args.toList ds p := hA0
  rw [Tryd.params4] at hA hval
  obtain ⟨v0, vs0, d0, ds0, p0, q0, hargs, rfl, rfl, h0, r0⟩ := trodAll_cons hA
  obtain ⟨v1, vs1, d1, ds1, p1, q1, rfl, rfl, rfl, h1, r1⟩ := trodAll_cons r0
  obtain ⟨v2, vs2, d2, ds2, p2, q2, rfl, rfl, rfl, h2, r2⟩ := trodAll_cons r1
  obtain ⟨rfl, rfl, rfl⟩ := trodAll_nil r2
  obtain rfl : args = #[v0, v1, v2] := by cases args; simp_all
  obtain ⟨rfl, rfl⟩ := trodVars_none hV
  obtain ⟨a0, rfl, rfl, rfl, w0⟩ := open_int Tryd.underlying2 (hval 0 2 v0 rfl rfl) h0
  obtain ⟨a1, rfl, rfl, rfl, w1⟩ := Go.ChangeMaps.open_string Tryd.underlying9 (hval 1 9 v1 rfl rfl) h1
  obtain ⟨a2, rfl, rfl, rfl, w2⟩ := Go.ChangeMaps.open_string Tryd.underlying9 (hval 2 9 v2 rfl rfl) h2
  clear hA0 hval0
  simp only [List.append_nil] at hW'
  refine (walk a0 w0 a1 w1 a2 w2 W hE).mono fun e W' ⟨he, hb⟩ => ?_
  subst he
  exact ⟨_, rfl, _, _, _, [], [], [], hW', (trodAll_cons_mk (shut_bool Tryd.underlying4 _) trodAll_mk0), (trodAll_cons_mk (shut_int Tryd.underlying2 w0) (trodAll_cons_mk (Go.ChangeMaps.shut_string Tryd.underlying9 w1) (trodAll_cons_mk (Go.ChangeMaps.shut_string Tryd.underlying9 w2) trodAll_mk0))), rfl, hb.below.frame _, fun h => by cases h⟩

theorem over : Rows.decimalBackRow.holds Tryd.pinned (OpenSpec.ofChange Rows.decimalBackSpec) :=
  OpenClaim.holds_of_wide 4 Tryd.f4 rfl rfl rfl rfl rfl rfl rfl ⟨rfl, rfl, rfl, rfl, rfl⟩ rfl rfl rfl rfl rfl (by kernel_rfl) Tryd.func4 (by kernel_rfl)
    (of_decide_eq_true (by kernel_rfl)) (by unfold Func.isWrapper; first | (rw [if_pos (by decide +kernel)]; kernel_rfl) | (rw [if_neg (by decide +kernel)]; exact ⟨rfl, rfl⟩))
    (fun os started H enc _ => lifted os started H enc)
end Go.Proofs.YtpmgbagnaaahoabDoor.decimalBack
namespace Go.Proofs.YtpmgbagnaaahoabDoor
theorem decimalBack_holds : Rows.DecimalBackCardSaid :=
  Claim7.holds_tied_plain_at .later [] [.data, .data, .data, .data, .pinned] true (true, "6c72434a28853cd36528dcda40ea39cd8b8d9ad355b7b9cabfd0f0281fc62663") true decimalBack.over (fun _ h => by cases h) (by kernel_rfl) (fun _ h => by cases h) decimalBack_row_tie rfl ⟨rfl, rfl⟩ (by kernel_rfl) rfl
    (fun f fn hf hfn => by
      obtain rfl : f = 4 := Option.some.inj ((show Tryd.prog.funcNamed "quittance/quittancelaw02.DecimalBack" = some 4 by kernel_rfl).symm.trans hf) |>.symm
      obtain rfl : fn = Tryd.f4 := (Option.some.inj (Tryd.func4.symm.trans hfn)).symm
      exact ⟨by kernel_rfl, fun j t ht => by
        rw [Tryd.params4] at ht
        have hm : t ∈ [2, 9, 9] := by simpa using Array.mem_of_getElem? ht
        have hall : ([2, 9, 9].all fun u => !Tryd.prog.wantsStandIn u) = true := by kernel_rfl
        exact (show Tryd.prog.wantsStandIn t = false by simpa using List.all_eq_true.1 hall t hm)⟩)
    (by kernel_rfl)
#print axioms decimalBack_holds
end Go.Proofs.YtpmgbagnaaahoabDoor
