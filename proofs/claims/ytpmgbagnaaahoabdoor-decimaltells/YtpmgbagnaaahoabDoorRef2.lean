/- The document's own Money and Rate of layer 2, as contracts: no statement of the seat is proved here. -/
import Derived.Test.YtpmgbagnaaahoabDoorRef1
namespace Go.Proofs.YtpmgbagnaaahoabDoor
open Go.RowKit Go.Lib
set_option linter.unusedVariables false

theorem fix_mod (k : Nat) : ∀ v, fix k (v % 10 ^ k) = fix k v := by
  induction k with
  | zero => intro v; rfl
  | succ k ih =>
    intro v
    rw [fix, fix]
    have e1 : dgt (v % 10 ^ (k + 1)) = dgt v := by
      unfold dgt
      rw [Nat.pow_succ, Nat.mod_mul_left_mod]
    have e2 : v % 10 ^ (k + 1) / 10 = v / 10 % 10 ^ k := by
      rw [Nat.pow_succ, Nat.mul_comm, Nat.mod_mul_right_div_self]
    rw [e1, e2, ih]
theorem rmoney_c (v : Int) (w : World) (h : I64 v) :
    Calls Tryd.prog 14 #[.int .i64 v] w fun e w' => e = .returned (.string ⟨(moneyL v).toArray⟩) ∧ Ext w w' := by
  have hs := show Hid _ from rsize_c v w h
  obtain ⟨hl0, hl1⟩ := dec_len v h 100
  have hn : v.natAbs < 18446744073709551616 := by have := h.1; have := h.2; omega
  unfold moneyL
  generalize v.natAbs = n at *
  generalize signL v = A at *
  have d1 := show Hid _ from fun w => rdigits_dec (n / 100) w (Nat.lt_of_le_of_lt (Nat.div_le_self _ _) hn)
  have d2 : Hid (∀ w, Calls Tryd.prog 33 #[.int .u64 ((n % 100 : Nat) : Int), .int .i64 2] w fun e w' => e = .returned (.string ⟨(fix 2 n).toArray⟩) ∧ Ext w w') := fun w => by
    have := rdigits_fix (n % 100) 2 w (by omega) (by omega)
    rw [show fix 2 (n % 100) = fix 2 n from fix_mod 2 n] at this
    exact this
  have hl2 := fix_length 2 n
  generalize fix 2 n = C at *
  generalize decDigits (n / 100) = B at *
  obtain ⟨Q, hQ⟩ : ∃ Q : Nat, Q = n / 100 := ⟨_, rfl⟩
  obtain ⟨R, hR⟩ : ∃ R : Nat, R = n % 100 := ⟨_, rfl⟩
  rw [← hQ] at d1
  rw [← hR] at d2
  have eQ : (n : Int) / 100 = (Q : Int) := by omega
  have eR : (n : Int) % 100 = (R : Int) := by omega
  clear hQ hR
  have f1 : ¬ 9223372036854775807 < A.length + B.length := by omega
  have f2 : ¬ 9223372036854775807 < A.length + B.length + 1 := by omega
  have f3 : ¬ 9223372036854775807 < A.length + (B.length + (1 + 2)) := by omega
  have f4 : ¬ 9223372036854775807 < A.length + (B.length + 1) := by omega
  go_enter Tryd.func14, Tryd.ntmps14
  go_wp2_with fail
  refine Calls.mono hs.out ?_
  rintro e w1 ⟨rfl, rfl⟩
  clear hs
  go_wp2_with fail
  refine (d1.out _).mono ?_
  rintro e w1 ⟨rfl, hx⟩
  go_wp2_with fail
  refine (d2.out _).mono ?_
  rintro e w2 ⟨rfl, hx2⟩
  go_wp2
  go_ret
  exact ⟨rfl, hx.trans hx2⟩
set_option maxHeartbeats 1000000 in
theorem rrate_c (v : Int) (w : World) (h : I64 v) :
    Calls Tryd.prog 16 #[.int .i64 v] w fun e w' => e = .returned (.string ⟨(rateL v).toArray⟩) ∧ Ext w w' := by
  have hs := show Hid _ from rsize_c v w h
  obtain ⟨hl0, hl1⟩ := dec_len v h 10000000
  have hn : v.natAbs < 18446744073709551616 := by have := h.1; have := h.2; omega
  unfold rateL tailL
  generalize v.natAbs = n at *
  generalize signL v = A at *
  have d1 := show Hid _ from fun w => rdigits_dec (n / 10000000) w (Nat.lt_of_le_of_lt (Nat.div_le_self _ _) hn)
  have d2 : Hid (∀ w, Calls Tryd.prog 33 #[.int .u64 ((n % 10000000 : Nat) : Int), .int .i64 7] w fun e w' => e = .returned (.string ⟨(fix 7 n).toArray⟩) ∧ Ext w w') := fun w => by
    have := rdigits_fix (n % 10000000) 7 w (by omega) (by omega)
    rw [show fix 7 (n % 10000000) = fix 7 n from fix_mod 7 n] at this
    exact this
  have hl2 := fix_length 7 n
  generalize fix 7 n = C at *
  generalize hT : trimRightB C 48 = T
  replace hT := show Hid _ from hT
  generalize decDigits (n / 10000000) = B at *
  obtain ⟨Q, hQ⟩ : ∃ Q : Nat, Q = n / 10000000 := ⟨_, rfl⟩
  obtain ⟨R, hR⟩ : ∃ R : Nat, R = n % 10000000 := ⟨_, rfl⟩
  rw [← hQ] at d1
  rw [← hR] at d2
  have eQ : (n : Int) / 10000000 = (Q : Int) := by omega
  have eR : (n : Int) % 10000000 = (R : Int) := by omega
  clear hQ hR
  have f1 : ¬ 9223372036854775807 < A.length + B.length := by omega
  go_enter Tryd.func16, Tryd.ntmps16
  go_wp2_with fail
  refine Calls.mono hs.out ?_
  rintro e w1 ⟨rfl, rfl⟩
  clear hs
  go_wp2_with fail
  refine (d1.out _).mono ?_
  rintro e w1 ⟨rfl, hx⟩
  go_wp2_with fail
  refine (d2.out _).mono ?_
  rintro e w2 ⟨rfl, hx2⟩
  replace hx : Hid (Ext _ w2) := hx.trans hx2
  clear hx2 eQ eR d1 d2
  go_wp2
  go_loop [6] (fun s => ∃ X : List UInt8, s = .string ⟨X.toArray⟩ ∧ X.length ≤ 7 ∧ Hid (trimRightB X 48 = T)) (fun s => strSize s)
  case atStart => exact ⟨C, rfl, by omega, hT⟩
  case round =>
    obtain ⟨X, rfl, hX, htr⟩ := hrel
    by_cases hX0 : X = []
    · subst hX0
      obtain rfl : T = [] := htr.out.symm
      have f2 : ¬ 9223372036854775807 < A.length + B.length + 1 := by omega
      have f3 : ¬ 9223372036854775807 < A.length + (B.length + 1) := by omega
      go_wp2
      go_ret
      exact ⟨rfl, hx.out⟩
    · obtain ⟨Y, x, hYx⟩ : ∃ Y x, X = Y ++ [x] := ⟨X.dropLast, X.getLast hX0, (List.dropLast_concat_getLast hX0).symm⟩
      have hXl : X.length = Y.length + 1 := by rw [hYx]; simp
      have hix : ∀ h, (⟨X.toArray⟩ : ByteArray)[Y.length]'h = x := by
        subst hYx
        intro h
        have : (Y ++ [x])[Y.length]? = some x := by simp
        have h2 := Lib.getElem_mk (Y ++ [x]) Y.length h
        rw [this] at h2
        exact (Option.some.inj h2).symm
      have hex : (⟨X.toArray⟩ : ByteArray).extract 0 Y.length = ⟨Y.toArray⟩ := by
        rw [Lib.extract_mk, hYx]; simp
      have hX1 : (X == []) = false := by simpa using hX0
      have hlI : (0 : Int) < (Y.length : Int) + 1 := by omega
      have hY7 : Y.length ≤ 6 := by omega
      by_cases hx48 : x = 48
      · have hb : ((x.toNat : Int) == 48) = true := by rw [hx48]; rfl
        have htr2 : trimRightB X 48 = trimRightB Y 48 := by rw [hYx, trimRightB_snoc, if_pos hx48]
        rw [htr2] at htr
        replace hYx := show Hid _ from hYx
        clear htr2 hX0 hX
        go_wp2
        go_round
        case rel => exact ⟨Y, rfl, by omega, htr⟩
        case measure => simp [strSize_string, Lib.size_mk, hXl]
      · have hb : ((x.toNat : Int) == 48) = false := by
          simp
          exact fun e => hx48 (UInt8.toNat_inj.mp (by show x.toNat = 48; omega))
        have htr2 : trimRightB X 48 = X := by rw [hYx, trimRightB_snoc, if_neg hx48]
        have hC : T = X := htr.out.symm.trans htr2
        have hdot : dotL T = 46 :: X := by rw [hC]; unfold dotL; rw [if_neg (by simpa using hX0)]
        replace hdot := show Hid _ from hdot
        clear htr2 htr hC hYx hT
        have f2 : ¬ 9223372036854775807 < A.length + B.length + 1 := by omega
        have f3 : ¬ 9223372036854775807 < A.length + (B.length + 1) := by omega
        have f4 : ¬ 9223372036854775807 < A.length + (B.length + 1) + (Y.length + 1) := by omega
        have f5 : ¬ 9223372036854775807 < A.length + (B.length + (Y.length + 1 + 1)) := by omega
        have f6 : ¬ 9223372036854775807 < A.length + (B.length + (Y.length + 1 + 1)) + 1 := by omega
        go_wp2
        go_ret
        exact ⟨by rw [hdot.out]; simp, hx.out⟩
end Go.Proofs.YtpmgbagnaaahoabDoor
