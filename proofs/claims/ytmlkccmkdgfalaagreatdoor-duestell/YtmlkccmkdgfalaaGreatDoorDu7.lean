/- What a program that does nothing doesn't answer (layer 11), and the four calls of the law, as contracts; no statement of the seat is proved here. -/
import Derived.Test.YtmlkccmkdgfalaaGreatDoorDu6
import Derived.Test.YtmlkccmkdgfalaaGreatDoorL8Pr10
namespace Go.Proofs.YtmlkccmkdgfalaaGreatDoor
open Go.RowKit
open L3 (Env)
open L4 (Arr)
set_option linter.unusedVariables false

theorem due_0 : Due pl0 19723 0 := .ok okI_0.ok ⟨by decide, by decide, by decide +kernel⟩ (by decide +kernel) (by decide +kernel)
theorem duT_0 : duT pl0 = 12 := rfl
theorem duF_0 : duF pl0 19723 0 = 19754 := by decide +kernel
theorem inp_0 (w : World) : Inp w pl0 (.slice none 0 0) (.slice none 0 0) (.slice none 0 0) :=
  ⟨by decide, by decide, by decide, by decide, L8.nilr w, L8.nilr w, L8.nilh w⟩
theorem pln_cells : L8.plainA = pcells pl0 (.slice none 0 0) (.slice none 0 0) (.slice none 0 0) := rfl
theorem awake_w (w : World) (he : Hid (Env w)) : Calls Tryz.prog 5 #[] w fun e w' => e = .returned (.bool true) ∧ Ext w w' := by
  go_enter Tryz.func5, Tryz.ntmps5
  go_wp2_with fail
  refine (L8.Plain_c _).mono ?_
  rintro e w1 ⟨rfl, hx1⟩
  have hD := Days_yes pl0 (.slice none 0 0) (.slice none 0 0) (.slice none 0 0) 19723 0 w1 (inp_0 w1) (he.out.ext hx1) due_0 rfl
  rw [duT_0, ← pln_cells] at hD
  replace hD := show Hid _ from hD
  replace hx1 := show Hid _ from hx1
  go_wp2_with fail
  refine Calls.mono hD.out ?_
  rintro e w2 ⟨g, rfl, hr, hx2⟩
  have k0 := hr.cell 0 (by decide)
  rw [duF_0] at k0
  replace hx1 := show Hid _ from hx1.out.trans hx2
  clear hD hx2 hr
  go_wp2
  go_ret
  exact ⟨rfl, hx1.out⟩
theorem anL_len {q : Prd} {s E : Int} (hE : Due q s E) (f : Nat → Int) : (anL E (fst (duT q) f)).length ≤ 30000 := by
  by_cases h : E = 0
  · rw [show anL E (fst (duT q) f) = fst (duT q) f from if_pos h, fst_length]
    have : duT q ≤ 600 := by
      subst h
      cases hE with
      | ok h k1 k2 k3 => exact (tm_T h).2.2
    omega
  · rw [show anL E (fst (duT q) f) = [] from if_neg h]
    exact Nat.zero_le _
/-- The program's Days, whatever comes of it. -/
theorem Days_a (p : Prd) (vr vl vh : Value) (s E : Int) (w : World) (hi : Inp w p vr vl vh) (he : Hid (Env w)) (hE : Due p s E) :
    Calls Tryz.prog 8 #[.agg (pcells p vr vl vh), .int .i64 s] w fun e w' => ∃ a n c, e = .returned (.tuple #[.slice a n c, .int .i64 E]) ∧ L8.Slc w' (.slice a n c) (anL E (fst (duT p) (duF p s))) ∧ Ext w w' := by
  by_cases h : E = 0
  · refine (Days_yes p vr vl vh s E w hi he hE h).mono ?_
    rintro e w' ⟨g, rfl, hr, hx⟩
    exact ⟨_, _, _, by rw [h], by rw [show anL E (fst (duT p) (duF p s)) = fst (duT p) (duF p s) from if_pos h]; exact arr_slc hr, hx⟩
  · refine (Days_no p vr vl vh s E w hi he hE h).mono ?_
    rintro e w' ⟨rfl, hx⟩
    exact ⟨_, _, _, rfl, by rw [show anL E (fst (duT p) (duF p s)) = [] from if_neg h]; exact nil_slc _, hx⟩
theorem Parts_a (p : Prd) (vr vl vh : Value) (s E : Int) (w : World) (hi : Inp w p vr vl vh) (he : Hid (Env w)) (hE : Due p s E) :
    Calls Tryz.prog 10 #[.agg (pcells p vr vl vh), .int .i64 s] w fun e w' => ∃ a n c, e = .returned (.tuple #[.slice a n c, .int .i64 E]) ∧ L8.Slc w' (.slice a n c) (anL E (fst (duT p) (paF p.cn s (duF p s)))) ∧ Ext w w' := by
  by_cases h : E = 0
  · refine (Parts_yes p vr vl vh s E w hi he hE h).mono ?_
    rintro e w' ⟨g, rfl, hr, hx⟩
    exact ⟨_, _, _, by rw [h], by rw [show anL E (fst (duT p) (paF p.cn s (duF p s))) = fst (duT p) (paF p.cn s (duF p s)) from if_pos h]; exact arr_slc hr, hx⟩
  · refine (Parts_no p vr vl vh s E w hi he hE h).mono ?_
    rintro e w' ⟨rfl, hx⟩
    exact ⟨_, _, _, rfl, by rw [show anL E (fst (duT p) (paF p.cn s (duF p s))) = [] from if_neg h]; exact nil_slc _, hx⟩
theorem arr_slc' {w : World} {g T c : Nat} {f : Nat → Int} (h : Arr w g T f) : L8.Slc w (.slice (some ⟨g, 0, none⟩) T c) (fst T f) := by
  refine Or.inr ⟨g, 0, c, by rw [fst_length], fun k x hk => ?_⟩
  obtain ⟨h1, h2⟩ := fst_at hk
  rw [Nat.zero_add, h.cell k h1, h2]
theorem rDays_a (p : Prd) (vr vl vh : Value) (s E : Int) (w : World) (hi : Inp w p vr vl vh) (he : Hid (Env w)) (hE : Due p s E) :
    Calls Tryz.prog 9 #[.agg (pcells p vr vl vh), .int .i64 s] w fun e w' => ∃ a n c, e = .returned (.tuple #[.slice a n c, .int .i64 E]) ∧ L8.Slc w' (.slice a n c) (anL E (fst (duT p) (duF p s))) ∧ Ext w w' := by
  by_cases h : E = 0
  · subst h
    refine (rDays_yes p vr vl vh s w hi he hE).mono ?_
    rintro e w' ⟨⟨g, c, rfl, hr⟩, hx⟩
    exact ⟨_, _, _, rfl, arr_slc' hr, hx⟩
  · refine (rDays_no p vr vl vh s E w hi he hE h).mono ?_
    rintro e w' ⟨rfl, hx⟩
    exact ⟨_, _, _, rfl, by rw [show anL E (fst (duT p) (duF p s)) = [] from if_neg h]; exact nil_slc _, hx⟩
theorem rParts_a (p : Prd) (vr vl vh : Value) (s E : Int) (w : World) (hi : Inp w p vr vl vh) (he : Hid (Env w)) (hE : Due p s E) :
    Calls Tryz.prog 11 #[.agg (pcells p vr vl vh), .int .i64 s] w fun e w' => ∃ a n c, e = .returned (.tuple #[.slice a n c, .int .i64 E]) ∧ L8.Slc w' (.slice a n c) (anL E (fst (duT p) (paF p.cn s (duF p s)))) ∧ Ext w w' := by
  by_cases h : E = 0
  · refine (rParts_yes p vr vl vh s E w hi he hE h).mono ?_
    rintro e w' ⟨⟨g, c, rfl, hr⟩, hx⟩
    exact ⟨_, _, _, by rw [h], by rw [show anL E (fst (duT p) (paF p.cn s (duF p s))) = fst (duT p) (paF p.cn s (duF p s)) from if_pos h]; exact arr_slc' hr, hx⟩
  · refine (rParts_no p vr vl vh s E w hi he hE h).mono ?_
    rintro e w' ⟨rfl, hx⟩
    exact ⟨_, _, _, rfl, by rw [show anL E (fst (duT p) (paF p.cn s (duF p s))) = [] from if_neg h]; exact nil_slc _, hx⟩
theorem oneP_t (x : Int) (w : World) :
    Calls Tryz.prog 30 #[.int .i64 x, .int .i64 x] w fun e w' => e = .returned (.bool true) ∧ w' = w := by
  go_enter Tryz.func30, Tryz.ntmps30
  go_wp2
  go_ret
  exact ⟨L8.ret_bool (by simp), rfl⟩
theorem SameP_nil (a : Option Addr) (c d : Nat) (x : Option Addr) (w : World) :
    Calls Tryz.prog 29 #[.slice x 0 d, .slice a 0 c, .func (.func 30) #[] #[]] w fun e w' => e = .returned (.bool true) ∧ w' = w := by
  go_enter Tryz.func29, Tryz.ntmps29
  go_wp2_with fail
  refine wp_loop_rounds 1 ?_
  rw [rounds_succ]
  go_wp2
  go_ret
  exact ⟨rfl, rfl⟩
theorem SameP_y (g o b off c d : Nat) (l : List Int) (w : World) (hl : l.length ≤ 30000) (hg : ∀ (k : Nat) (x : Int), l[k]? = some x → w.cell? ⟨g, o + k, none⟩ = some (.int .i64 x)) (hc : ∀ (k : Nat) (x : Int), l[k]? = some x → w.cell? ⟨b, off + k, none⟩ = some (.int .i64 x)) :
    Calls Tryz.prog 29 #[.slice (some ⟨g, o, none⟩) l.length d, .slice (some ⟨b, off, none⟩) l.length c, .func (.func 30) #[] #[]] w fun e w' => e = .returned (.bool true) ∧ Ext w w' := by
  replace hg := show Hid _ from hg
  replace hc := show Hid _ from hc
  obtain ⟨T, hT⟩ : ∃ n, l.length = n := ⟨_, rfl⟩
  rw [hT] at hl ⊢
  replace hT := show Hid _ from hT
  go_enter Tryz.func29, Tryz.ntmps29
  go_wp2_with fail
  go_loopw [7] (fun i wr => ∃ k : Nat, k ≤ T ∧ i = .int .i64 k ∧ Hid (Ext w wr)) (fun i _ => T - (RowKit.intOf i).toNat)
  case atStart => exact ⟨0, Nat.zero_le _, rfl, Ext.refl w⟩
  case round =>
    obtain ⟨k, hk, rfl, hx⟩ := hrel
    by_cases hlt : k < T
    · obtain ⟨V, hV⟩ : ∃ V, l[k]? = some V := ⟨_, List.getElem?_eq_getElem (by have := hT.out; omega)⟩
      have k0 := hx.out.cell_of (hg.out k V hV)
      have k1 := hx.out.cell_of (hc.out k V hV)
      clear hV
      have hlt' : (k : Int) < (T : Int) := by omega
      have j0 := Late.cell k0; have j1 := Late.cell k1
      have hNe1 : Nonempty (Late wr) := ⟨⟨_, Ext.refl _⟩⟩
      go_wp2_with fail
      refine wp_region_late (by kernel_rfl) (by kernel_rfl) ?_
      repeat (go_big_quiet_step ((first
        | (go_at_call 30; exact late_same (oneP_t _ _)))))
      refine wpQuiet_nil ?_
      intro W1 hw'
      replace hx : Hid (Ext w W1) := hx.out.trans (late_ext hw')
      clear hw' j0 j1 k0 k1
      go_wp2
      go_roundw
      case rel => exact ⟨k + 1, by omega, by go_num, hx⟩
      case measure => simp [RowKit.intOf]; omega
    · obtain rfl : k = T := by omega
      go_wp2
      go_ret
      exact ⟨rfl, hx.out⟩
theorem PlainP_y (u v : Value) (l : List Int) (w : World) (hl : l.length ≤ 30000) (hu : L8.Slc w u l) (hv : L8.Slc w v l) :
    Calls Tryz.prog 13 #[u, v] w fun e w' => e = .returned (.bool true) ∧ Ext w w' := by
  have hS : Hid (Calls Tryz.prog 29 #[u, v, .func (.func 30) #[] #[]] w fun e w' => e = .returned (.bool true) ∧ Ext w w') := by
    rcases hu with ⟨a, c, rfl, _, rfl⟩ | ⟨b, off, c, rfl, hc⟩
    · rcases hv with ⟨a2, c2, rfl, _, _⟩ | ⟨b2, off2, c2, rfl, _⟩
      · exact (SameP_nil _ _ _ _ w).mono fun e w' h => ⟨h.1, by rw [h.2]; exact Ext.refl _⟩
      · exact (SameP_nil _ _ _ _ w).mono fun e w' h => ⟨h.1, by rw [h.2]; exact Ext.refl _⟩
    · rcases hv with ⟨a2, c2, rfl, _, rfl⟩ | ⟨b2, off2, c2, rfl, hc2⟩
      · exact (SameP_nil _ _ _ _ w).mono fun e w' h => ⟨h.1, by rw [h.2]; exact Ext.refl _⟩
      · exact SameP_y b off b2 off2 c2 c l w hl hc hc2
  obtain ⟨a1, c1, rfl⟩ := hu.len
  obtain ⟨a2, c2, rfl⟩ := hv.len
  clear hu hv hl
  generalize l.length = n at *
  go_enter Tryz.func13, Tryz.ntmps13
  go_wp2_with fail
  refine Calls.mono hS.out ?_
  rintro e w1 ⟨rfl, hx⟩
  replace hx := show Hid _ from hx
  go_wp2
  go_ret
  exact ⟨rfl, hx.out⟩
end Go.Proofs.YtmlkccmkdgfalaaGreatDoor
