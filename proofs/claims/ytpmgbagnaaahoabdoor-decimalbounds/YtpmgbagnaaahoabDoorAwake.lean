/- What awake of the statements of layer 2 answers: no statement of the seat is proved here. -/
import Derived.Test.YtpmgbagnaaahoabDoorFaces
namespace Go.Proofs.YtpmgbagnaaahoabDoor
open Go.RowKit Go.Lib
set_option linter.unusedVariables false

theorem money_x (v : Int) (m : List UInt8) (hm : moneyL v = m) (w : World) (h : I64 v) (he : Env w) :
    Calls Tryd.prog 13 #[.int .i64 v] w fun e w' => e = .returned (.string ⟨m.toArray⟩) ∧ Ext w w' := hm ▸ money_c v w h he
theorem rate_x (v : Int) (m : List UInt8) (hm : rateL v = m) (w : World) (h : I64 v) (he : Env w) :
    Calls Tryd.prog 15 #[.int .i64 v] w fun e w' => e = .returned (.string ⟨m.toArray⟩) ∧ Ext w w' := hm ▸ rate_c v w h he
theorem takeMoney_x (l : List UInt8) (v c : Int) (hv : takeM l = (v, c)) (w : World) (hl : l.length ≤ 1000) (he : Env w) :
    Calls Tryd.prog 9 #[.string ⟨l.toArray⟩] w fun e w' => e = .returned (.tuple #[.int .i64 v, .int .i64 c]) ∧ Ext w w' := by
  have := takeMoney_c l w hl he
  rw [hv] at this
  exact this
theorem takeRate_x (l : List UInt8) (v c : Int) (hv : takeR l = (v, c)) (w : World) (hl : l.length ≤ 1000) (he : Env w) :
    Calls Tryd.prog 11 #[.string ⟨l.toArray⟩] w fun e w' => e = .returned (.tuple #[.int .i64 v, .int .i64 c]) ∧ Ext w w' := by
  have := takeRate_c l w hl he
  rw [hv] at this
  exact this

theorem money_len (v : Int) (h : I64 v) : (moneyL v).length ≤ 1000 := by
  obtain ⟨h1, h2⟩ := dec_len v h 100
  unfold moneyL
  rw [List.length_append, List.length_append, List.length_cons, fix_length]
  omega
theorem rate_len (v : Int) (h : I64 v) : (rateL v).length ≤ 1000 := by
  obtain ⟨h1, h2⟩ := dec_len v h 10000000
  have h3 := tail_len v.natAbs
  unfold rateL
  rw [List.length_append, List.length_append, List.length_append, List.length_singleton]
  have : (dotL (tailL v.natAbs)).length ≤ 8 := by
    unfold dotL
    split
    · simp
    · simp; omega
  omega
theorem m5 : moneyL (-5) = [45, 48, 46, 48, 53] := by
  unfold moneyL
  rw [show (-5 : Int).natAbs / 100 = 0 from rfl, decDigits_small (by omega)]
  rfl
theorem r5 : rateL 52500000 = [53, 46, 50, 53, 37] := by
  unfold rateL
  rw [show (52500000 : Int).natAbs / 10000000 = 5 from rfl, decDigits_small (by omega)]
  decide +kernel
theorem t5 : takeR [53, 46, 50, 53, 37] = (52500000, 0) := by decide +kernel

theorem awake_c (w : World) (he : Env w) :
    Calls Tryd.prog 8 #[] w fun e w' => e = .returned (.bool true) ∧ Ext w w' := by
  replace he : Hid (Env w) := he
  go_enter Tryd.func8, Tryd.ntmps8
  go_wp2_with fail
  refine (takeRate_x [53, 46, 50, 53, 37] _ _ t5 _ (by decide) he.out).mono ?_
  rintro e w1 ⟨rfl, hx⟩
  go_wp2_with fail
  refine (money_x (-5) _ m5 _ ⟨by decide, by decide⟩ (Env.ext he.out hx)).mono ?_
  rintro e w2 ⟨rfl, hx2⟩
  replace hx := hx.trans hx2
  clear hx2
  go_wp2_with fail
  refine (rate_x 52500000 _ r5 _ ⟨by decide, by decide⟩ (Env.ext he.out hx)).mono ?_
  rintro e w3 ⟨rfl, hx3⟩
  replace hx := hx.trans hx3
  clear hx3
  go_wp2
  go_ret
  exact ⟨rfl, hx⟩
end Go.Proofs.YtpmgbagnaaahoabDoor
