
/- What a program that does nothing doesn't answer (layer 11), and the four calls of the law, as contracts; no statement of the seat is proved here. -/
import Derived.Test.YtmlkccmkdgfalaaDoorDu6
import Derived.Test.YtmlkccmkdgfalaaDoorL8Pr10
namespace Go.Proofs.YtmlkccmkdgfalaaDoor
open Go.RowKit
open L3 (Env)
open L4 (Arr)
set_option linter.unusedVariables false

theorem due_0 : Due pl0 19723 0 := .ok okI_0.ok ⟨by decide, by decide, by decide +kernel⟩ (by decide +kernel) (by decide +kernel)
theorem duT_0 : duT pl0 = 12 := rfl
theorem duF_0 : duF pl0 19723 0 = 19754 := by decide +kernel
theorem inp_0 (w : World) : Inp w pl0 (.slice none 0 0) (.slice none 0 0) (.slice none 0 0) :=
  ⟨by decide, by decide, by decide, by decide, L8.nilr w, L8.nilr w, L8.nilh w⟩
theorem pln_cells : L8.plainA = pcells pl0 (.slice none 0 0) (.slice none 0 0) (.slice none 0 0) := rfl
theorem awake_w (w : World) (he : Hid (Env w)) : Calls Tryd.prog 7 #[] w fun e w' => e = .returned (.bool true) ∧ Ext w w' := by
  go_enter Tryd.func7, Tryd.ntmps7
  go_wp2_with fail
  refine (L8.Plain_c _).mono ?_
  rintro e w1 ⟨rfl, hx1⟩
  have hD := Days_yes pl0 (.slice none 0 0) (.slice none 0 0) (.slice none 0 0) 19723 0 w1 (inp_0 w1) (he.out.ext hx1) due_0 rfl
  rw [duT_0, ← pln_cells] at hD
  replace hD := show Hid _ from hD
  replace hx1 := show Hid _ from hx1
  go_wp2_with fail
  refine Calls.mono hD.out ?_
  rintro e w2 ⟨g, rfl, hr, hx2⟩
  have k0 := hr.cell 0 (by decide)
  rw [duF_0] at k0
  replace hx1 := show Hid _ from hx1.out.trans hx2
  clear hD hx2 hr
  go_wp2
  go_ret
  exact ⟨rfl, hx1.out⟩
theorem anL_len {q : Prd} {s E : Int} (hE : Due q s E) (f : Nat → Int) : (anL E (fst (duT q) f)).length ≤ 30000 := by
  by_cases h : E = 0
  · rw [show anL E (fst (duT q) f) = fst (duT q) f from if_pos h, fst_length]
    have : duT q ≤ 600 := by
      subst h
      cases hE with
      | ok h k1 k2 k3 => exact (tm_T h).2.2
    omega
  · rw [show anL E (fst (duT q) f) = [] from if_neg h]
    exact Nat.zero_le _
/-- The program's Days, whatever comes of it. -/
theorem Days_a (p : Prd) (vr vl vh : Value) (s E : Int) (w : World) (hi : Inp w p vr vl vh) (he : Hid (Env w)) (hE : Due p s E) :
    Calls Tryd.prog 5 #[.agg (pcells p vr vl vh), .int .i64 s] w fun e w' => ∃ a n c, e = .returned (.tuple #[.slice a n c, .int .i64 E]) ∧ L8.Slc w' (.slice a n c) (anL E (fst (duT p) (duF p s))) ∧ Ext w w' := by
  by_cases h : E = 0
  · refine (Days_yes p vr vl vh s E w hi he hE h).mono ?_
    rintro e w' ⟨g, rfl, hr, hx⟩
    exact ⟨_, _, _, by rw [h], by rw [show anL E (fst (duT p) (duF p s)) = fst (duT p) (duF p s) from if_pos h]; exact arr_slc hr, hx⟩
  · refine (Days_no p vr vl vh s E w hi he hE h).mono ?_
    rintro e w' ⟨rfl, hx⟩
    exact ⟨_, _, _, rfl, by rw [show anL E (fst (duT p) (duF p s)) = [] from if_neg h]; exact nil_slc _, hx⟩
theorem Parts_a (p : Prd) (vr vl vh : Value) (s E : Int) (w : World) (hi : Inp w p vr vl vh) (he : Hid (Env w)) (hE : Due p s E) :
    Calls Tryd.prog 6 #[.agg (pcells p vr vl vh), .int .i64 s] w fun e w' => ∃ a n c, e = .returned (.tuple #[.slice a n c, .int .i64 E]) ∧ L8.Slc w' (.slice a n c) (anL E (fst (duT p) (paF p.cn s (duF p s)))) ∧ Ext w w' := by
  by_cases h : E = 0
  · refine (Parts_yes p vr vl vh s E w hi he hE h).mono ?_
    rintro e w' ⟨g, rfl, hr, hx⟩
    exact ⟨_, _, _, by rw [h], by rw [show anL E (fst (duT p) (paF p.cn s (duF p s))) = fst (duT p) (paF p.cn s (duF p s)) from if_pos h]; exact arr_slc hr, hx⟩
  · refine (Parts_no p vr vl vh s E w hi he hE h).mono ?_
    rintro e w' ⟨rfl, hx⟩
    exact ⟨_, _, _, rfl, by rw [show anL E (fst (duT p) (paF p.cn s (duF p s))) = [] from if_neg h]; exact nil_slc _, hx⟩
theorem arr_slc' {w : World} {g T c : Nat} {f : Nat → Int} (h : Arr w g T f) : L8.Slc w (.slice (some ⟨g, 0, none⟩) T c) (fst T f) := by
  refine Or.inr ⟨g, 0, c, by rw [fst_length], fun k x hk => ?_⟩
  obtain ⟨h1, h2⟩ := fst_at hk
  rw [Nat.zero_add, h.cell k h1, h2]
end Go.Proofs.YtmlkccmkdgfalaaDoor
