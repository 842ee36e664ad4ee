/- What the document's letter, digit, goes and kind answer, as contracts: no statement of the seat is proved here. -/
import Derived.Test.YtocdkgmmnkmlpaaDoorLex5
namespace Go.Proofs.YtocdkgmmnkmlpaaDoor
open Go.RowKit Go.Lib
set_option linter.unusedVariables false

theorem let_iff (c : UInt8) : letL.contains c = (decide (97 ≤ (c.toNat : Int)) && decide ((c.toNat : Int) ≤ 122) || decide (65 ≤ (c.toNat : Int)) && decide ((c.toNat : Int) ≤ 90)) := by
  have := byte_all (fun c => letL.contains c == (decide (97 ≤ (c.toNat : Int)) && decide ((c.toNat : Int) ≤ 122) || decide (65 ≤ (c.toNat : Int)) && decide ((c.toNat : Int) ≤ 90))) (by decide +kernel) c
  simpa using this
theorem dig_iff (c : UInt8) : digL.contains c = (decide (48 ≤ (c.toNat : Int)) && decide ((c.toNat : Int) ≤ 57)) := by
  have := byte_all (fun c => digL.contains c == (decide (48 ≤ (c.toNat : Int)) && decide ((c.toNat : Int) ≤ 57))) (by decide +kernel) c
  simpa using this
theorem letter_c (c : UInt8) (w : World) :
    Calls Tryd.prog 22 #[.int .u8 c.toNat] w fun e w' => e = .returned (.bool (letL.contains c)) ∧ w' = w := by
  rw [let_iff]
  generalize (c.toNat : Int) = n at *
  cases h1 : decide (97 ≤ n) <;> cases h2 : decide (n ≤ 122) <;> cases h3 : decide (65 ≤ n) <;> cases h4 : decide (n ≤ 90)
  all_goals
    go_enter Tryd.func22, Tryd.ntmps22
    go_wp2
    go_ret
    exact ⟨rfl, rfl⟩
theorem digit_c (c : UInt8) (w : World) :
    Calls Tryd.prog 23 #[.int .u8 c.toNat] w fun e w' => e = .returned (.bool (digL.contains c)) ∧ w' = w := by
  rw [dig_iff]
  generalize (c.toNat : Int) = n at *
  cases h1 : decide (48 ≤ n) <;> cases h2 : decide (n ≤ 57)
  all_goals
    go_enter Tryd.func23, Tryd.ntmps23
    go_wp2
    go_ret
    exact ⟨rfl, rfl⟩
theorem letter_x (c : UInt8) (b : Bool) (h : letL.contains c = b) (w : World) :
    Calls Tryd.prog 22 #[.int .u8 c.toNat] w fun e w' => e = .returned (.bool b) ∧ w' = w := h ▸ letter_c c w
theorem digit_x (c : UInt8) (b : Bool) (h : digL.contains c = b) (w : World) :
    Calls Tryd.prog 23 #[.int .u8 c.toNat] w fun e w' => e = .returned (.bool b) ∧ w' = w := h ▸ digit_c c w
theorem inW_iff (c : UInt8) : inWL.contains c = (letL.contains c || digL.contains c || ((c.toNat : Int) == 45)) := by
  have := byte_all (fun c => inWL.contains c == (letL.contains c || digL.contains c || ((c.toNat : Int) == 45))) (by decide +kernel) c
  simpa using this
theorem inN_iff (c : UInt8) : inNL.contains c = (digL.contains c || ((c.toNat : Int) == 46) || ((c.toNat : Int) == 45) || ((c.toNat : Int) == 47) || ((c.toNat : Int) == 37)) := by
  have := byte_all (fun c => inNL.contains c == (digL.contains c || ((c.toNat : Int) == 46) || ((c.toNat : Int) == 45) || ((c.toNat : Int) == 47) || ((c.toNat : Int) == 37))) (by decide +kernel) c
  simpa using this
theorem goesW_c (c : UInt8) (w : World) :
    Calls Tryd.prog 17 #[.int .i64 1, .int .u8 c.toNat] w fun e w' => e = .returned (.bool (inWL.contains c)) ∧ w' = w := by
  rw [inW_iff]
  cases h1 : letL.contains c
  · cases h2 : digL.contains c
    · replace h1 := show Hid _ from h1
      replace h2 := show Hid _ from h2
      go_enter Tryd.func17, Tryd.ntmps17
      go_wp2_with fail
      refine (letter_x c false h1.out _).mono ?_
      rintro e w1 ⟨rfl, rfl⟩
      go_wp2_with fail
      refine (digit_x c false h2.out _).mono ?_
      rintro e w2 ⟨rfl, rfl⟩
      go_wp2
      go_ret
      exact ⟨ret_bool rfl, rfl⟩
    · replace h1 := show Hid _ from h1
      replace h2 := show Hid _ from h2
      go_enter Tryd.func17, Tryd.ntmps17
      go_wp2_with fail
      refine (letter_x c false h1.out _).mono ?_
      rintro e w1 ⟨rfl, rfl⟩
      go_wp2_with fail
      refine (digit_x c true h2.out _).mono ?_
      rintro e w2 ⟨rfl, rfl⟩
      go_wp2
      go_ret
      exact ⟨rfl, rfl⟩
  · replace h1 := show Hid _ from h1
    go_enter Tryd.func17, Tryd.ntmps17
    go_wp2_with fail
    refine (letter_x c true h1.out _).mono ?_
    rintro e w1 ⟨rfl, rfl⟩
    go_wp2
    go_ret
    exact ⟨rfl, rfl⟩
theorem goesN_c (c : UInt8) (w : World) :
    Calls Tryd.prog 17 #[.int .i64 2, .int .u8 c.toNat] w fun e w' => e = .returned (.bool (inNL.contains c)) ∧ w' = w := by
  rw [inN_iff]
  cases h1 : digL.contains c
  · replace h1 := show Hid _ from h1
    cases h2 : ((c.toNat : Int) == 46) <;> cases h3 : ((c.toNat : Int) == 45) <;> cases h4 : ((c.toNat : Int) == 47)
    all_goals
      go_enter Tryd.func17, Tryd.ntmps17
      go_wp2_with fail
      refine (digit_x c false h1.out _).mono ?_
      rintro e w1 ⟨rfl, rfl⟩
      go_wp2
      go_ret
      exact ⟨ret_bool rfl, rfl⟩
  · replace h1 := show Hid _ from h1
    go_enter Tryd.func17, Tryd.ntmps17
    go_wp2_with fail
    refine (digit_x c true h1.out _).mono ?_
    rintro e w1 ⟨rfl, rfl⟩
    go_wp2
    go_ret
    exact ⟨rfl, rfl⟩
/-- What the document's kind answers: -1 where there is none. -/
def kdR (l : List UInt8) : Int := if kd l = 0 then -1 else kd l
theorem sgn_iff (c : UInt8) : sgnL.contains c = (((c.toNat : Int) == 123) || ((c.toNat : Int) == 125) || ((c.toNat : Int) == 59)) := by
  have := byte_all (fun c => sgnL.contains c == (((c.toNat : Int) == 123) || ((c.toNat : Int) == 125) || ((c.toNat : Int) == 59))) (by decide +kernel) c
  simpa using this
theorem hy_iff (c : UInt8) : (c == 45) = ((c.toNat : Int) == 45) := by
  have := byte_all (fun c => (c == 45) == ((c.toNat : Int) == 45)) (by decide +kernel) c
  simpa using this
theorem get_at {l m : List UInt8} {k : Nat} {c : UInt8} (h : l.drop k = c :: m) : ∀ g, (⟨l.toArray⟩ : ByteArray)[k]'g = c := by
  intro g
  have h1 : l[k]? = some c := by
    have := congrArg (fun x => x[0]?) h
    simpa using this
  have h2 : (⟨l.toArray⟩ : ByteArray)[k]'g = l[k]'(by rw [Lib.size_mk] at g; simpa using g) := rfl
  rw [h2]
  exact (List.getElem?_eq_some_iff.1 h1).2
theorem len_drop {l m : List UInt8} {k : Nat} (h : l.drop k = m) (hk : k ≤ l.length) : l.length = k + m.length := by
  have := congrArg List.length h
  rw [List.length_drop] at this
  omega
theorem drop_next {l m : List UInt8} {k : Nat} {c : UInt8} (h : l.drop k = c :: m) : l.drop (k + 1) = m := by
  rw [← List.drop_drop, h]; rfl
set_option maxHeartbeats 1000000 in
theorem kind_c (l m : List UInt8) (c : UInt8) (k : Nat) (w : World) (hm : l.drop k = c :: m) (hl : l.length ≤ 20000) (hk : k < l.length) :
    Calls Tryd.prog 16 #[.string ⟨l.toArray⟩, .int .i64 k] w fun e w' => e = .returned (.int .i64 (kdR (c :: m))) ∧ w' = w := by
  have g0 := get_at hm
  have hlen := len_drop hm (by omega)
  simp only [List.length_cons] at hlen
  have hnx := drop_next hm
  unfold kdR
  rw [kd_cons, hy_iff, sgn_iff]
  replace hm := show Hid _ from hm
  replace hnx := show Hid _ from hnx
  replace hlen := show Hid _ from hlen
  cases h1 : letL.contains c
  · replace h1 := show Hid _ from h1
    cases h2 : digL.contains c
    · replace h2 := show Hid _ from h2
      cases h3 : ((c.toNat : Int) == 45)
      · cases h4 : ((c.toNat : Int) == 123) <;> cases h5 : ((c.toNat : Int) == 125) <;> cases h6 : ((c.toNat : Int) == 59)
        all_goals
          go_enter Tryd.func16, Tryd.ntmps16
          go_wp2_with fail
          refine (letter_x c false h1.out _).mono ?_
          rintro e w1 ⟨rfl, rfl⟩
          go_wp2_with fail
          refine (digit_x c false h2.out _).mono ?_
          rintro e w2 ⟨rfl, rfl⟩
          go_wp2
          go_ret
          exact ⟨rfl, rfl⟩
      · have h45 : (c.toNat : Int) = 45 := by simpa using h3
        have h4 : ((c.toNat : Int) == 123) = false := by rw [h45]; rfl
        have h5 : ((c.toNat : Int) == 125) = false := by rw [h45]; rfl
        have h6 : ((c.toNat : Int) == 59) = false := by rw [h45]; rfl
        clear h45
        rw [h4, h5, h6]
        cases m with
        | nil =>
          have hd : decide ((k : Int) + 1 < (l.length : Int)) = false := decide_eq_false (by have := hlen.out; simp at this; omega)
          go_enter Tryd.func16, Tryd.ntmps16
          go_wp2_with fail
          refine (letter_x c false h1.out _).mono ?_
          rintro e w1 ⟨rfl, rfl⟩
          go_wp2_with fail
          refine (digit_x c false h2.out _).mono ?_
          rintro e w2 ⟨rfl, rfl⟩
          go_wp2
          go_ret
          exact ⟨rfl, rfl⟩
        | cons d m =>
          have hd : decide ((k : Int) + 1 < (l.length : Int)) = true := decide_eq_true (by have := hlen.out; simp at this; omega)
          have hd2 : k + 1 < l.length := by have := hlen.out; simp at this; omega
          have g1 := get_at hnx.out
          rw [beg_cons]
          cases h7 : digL.contains d
          all_goals
            replace h7 := show Hid _ from h7
            go_enter Tryd.func16, Tryd.ntmps16
            go_wp2_with fail
            refine (letter_x c false h1.out _).mono ?_
            rintro e w1 ⟨rfl, rfl⟩
            go_wp2_with fail
            refine (digit_x c false h2.out _).mono ?_
            rintro e w2 ⟨rfl, rfl⟩
            go_wp2_with fail
            refine (digit_x d _ h7.out _).mono ?_
            rintro e w3 ⟨rfl, rfl⟩
            go_wp2
            go_ret
            exact ⟨rfl, rfl⟩
    · replace h2 := show Hid _ from h2
      go_enter Tryd.func16, Tryd.ntmps16
      go_wp2_with fail
      refine (letter_x c false h1.out _).mono ?_
      rintro e w1 ⟨rfl, rfl⟩
      go_wp2_with fail
      refine (digit_x c true h2.out _).mono ?_
      rintro e w2 ⟨rfl, rfl⟩
      go_wp2
      go_ret
      exact ⟨rfl, rfl⟩
  · replace h1 := show Hid _ from h1
    go_enter Tryd.func16, Tryd.ntmps16
    go_wp2_with fail
    refine (letter_x c true h1.out _).mono ?_
    rintro e w1 ⟨rfl, rfl⟩
    go_wp2
    go_ret
    exact ⟨rfl, rfl⟩
end Go.Proofs.YtocdkgmmnkmlpaaDoor
