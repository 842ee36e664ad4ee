/- For all ints what and v, of the project's tree at the commit that COMMIT names, GrowthRefuses returns true and leaves its arguments as they were. -/
import Derived.Test.YteedbmmpkgpfhaaDoorFrame
import Derived.Test.YteedbmmpkgpfhaaDoorGr7
namespace Go.Proofs.YteedbmmpkgpfhaaDoor.growthRefuses
open Go.ChangeShapes Go.WideShapes Go.ChangeAt Go.RowKit Go.Lib
set_option linter.unusedVariables false

theorem ref_range {W r : Int} (hr : Rst 1 W r) (hW : W = 133590000000000) : ¬ bq 1 W r (1000000000000000 * (1000000000 * 267180)) ≤ 1000000000000000 := by
  subst hW
  have := (bq_near (E := 1000000000000000 * (1000000000 * 267180)) hr (by decide)).1
  omega
theorem ref_small {x : Int} (x0 : 0 ≤ x) (x1 : x < 1000000000) : bq 1 133590000000000 0 (1000 * (x * 7)) ≤ 1000000000000000 := by
  have := (bq_near (m := 1) (W := 133590000000000) (r := 0) (E := 1000 * (x * 7)) (rst_zero (Or.inl rfl) (by decide)) (by decide)).2
  omega
set_option maxRecDepth 100000 in
set_option maxHeartbeats 8000000 in

theorem walk (a0 : Int) (w0 : (Lit.int .i64 a0).wf = true) (a1 : Int) (w1 : (Lit.int .i64 a1).wf = true) (w : World) :
    Calls Tryd.prog 8 #[.int .i64 a0, .int .i64 a1] w fun e w' => e = .returned (.bool true) ∧ Ext w w' := by
  clear w0 w1
  obtain ⟨u0, hu0⟩ : ∃ u, IntKind.u64.wrap a0 = u := ⟨_, rfl⟩
  have p0 : 0 ≤ u0 ∧ u0 < 18446744073709551616 := by rw [← hu0, IntKind.wrap_u64]; omega
  obtain ⟨r0, s0⟩ := p0
  obtain ⟨v0, hv0⟩ : ∃ v, u0 % 6 = v := ⟨_, rfl⟩
  have p0 : 0 ≤ v0 ∧ v0 < 6 := by omega
  obtain ⟨g0, l0⟩ := p0
  obtain ⟨u1, hu1⟩ : ∃ u, IntKind.u64.wrap a1 = u := ⟨_, rfl⟩
  have p1 : 0 ≤ u1 ∧ u1 < 18446744073709551616 := by rw [← hu1, IntKind.wrap_u64]; omega
  obtain ⟨r1, s1⟩ := p1
  obtain ⟨v1, hv1⟩ : ∃ v, u1 % 1000000000 = v := ⟨_, rfl⟩
  have p1 : 0 ≤ v1 ∧ v1 < 1000000000 := by omega
  obtain ⟨g1, l1⟩ := p1
  have hN : Hid (∀ w : World, Calls Tryd.prog 9 #[.int .i64 3, .int .i64 1] w fun e w' => ∃ B, e = .returned (.tuple #[.pointer (some ⟨B, 0, none⟩), .int .i64 0]) ∧ Born w w' B 1 133590000000000 0) := fun w => New_ok 3 1 w (by decide) (by decide) (Or.inl rfl)
  have hN4 : Hid (∀ w : World, Calls Tryd.prog 9 #[.int .i64 4, .int .i64 1] w fun e w' => e = .returned (.tuple #[.pointer none, .int .i64 1]) ∧ Ext w w') := fun w => New_no 4 1 w (by decide)
  have hN2 : Hid (∀ w : World, Calls Tryd.prog 9 #[.int .i64 2, .int .i64 2] w fun e w' => e = .returned (.tuple #[.pointer none, .int .i64 1]) ∧ Ext w w') := fun w => New_no 2 2 w (by decide)
  have hr0 := rst_zero (m := 1) (W := 133590000000000) (Or.inl rfl) (by decide)
  obtain ⟨U, hU⟩ : ∃ U, bq 1 133590000000000 0 (1000 * (v1 * 7)) = U := ⟨_, rfl⟩
  obtain ⟨r, hR⟩ : ∃ r, br 1 133590000000000 0 (1000 * (v1 * 7)) = r := ⟨_, rfl⟩
  have hr : Rst 1 133590000000000 r := by rw [← hR]; exact br_rst hr0 (by decide)
  have h1 : Hid (∀ (B : Nat) (w : World), Brr w B 1 133590000000000 0 → Calls Tryd.prog 12 #[.pointer (some ⟨B, 0, none⟩), .int .i64 1000, .int .i64 v1, .int .i64 7] w fun e w' => e = .returned (.tuple #[.int .i64 U, .int .i64 0]) ∧ Ext (w.setCell ⟨B, 2, none⟩ (.int .i64 r)) w') := fun B w hB =>
    Bear_v B 1 _ 0 1000 v1 7 _ _ hr0 (by decide) (by decide) ⟨by decide, by omega, by decide⟩ hU hR (by rw [← hU]; exact ref_small g1 l1) w hB
  have h3 : Hid (∀ (B : Nat) (w : World), Brr w B 1 133590000000000 r → Calls Tryd.prog 12 #[.pointer (some ⟨B, 0, none⟩), .int .i64 1000000000000000, .int .i64 1000000000, .int .i64 267180] w fun e w' => e = .returned (.tuple #[.int .i64 0, .int .i64 3]) ∧ Ext w w') := fun B w hB =>
    Bear_range B 1 _ r 1000000000000000 1000000000 267180 w hB hr (by decide) (by decide) ⟨by decide, by decide, by decide⟩ (ref_range hr rfl)
  have h2 : Hid (∀ (b rt p : Int), ¬ Ask b rt p → ∀ (B : Nat) (w : World), Brr w B 1 133590000000000 r → Calls Tryd.prog 12 #[.pointer (some ⟨B, 0, none⟩), .int .i64 b, .int .i64 rt, .int .i64 p] w fun e w' => e = .returned (.tuple #[.int .i64 0, .int .i64 1]) ∧ Ext w w') := fun b rt p ha B w hB =>
    Bear_arg B 1 _ r b rt p w hB (by decide) ha
  clear hU hR hr0 hr
  rcases (by omega : v0 = 0 ∨ v0 = 1 ∨ v0 = 2 ∨ v0 = 3 ∨ v0 = 4 ∨ v0 = 5) with h | h | h | h | h | h
  · subst h
    have h2' : Hid (∀ (B : Nat) (w : World), Brr w B 1 133590000000000 r → Calls Tryd.prog 12 #[.pointer (some ⟨B, 0, none⟩), .int .i64 (-1), .int .i64 (0), .int .i64 (0)] w fun e w' => e = .returned (.tuple #[.int .i64 0, .int .i64 1]) ∧ Ext w w') := h2.out (-1) (0) (0) (by unfold Ask; omega)
    clear h2
    go_enter Tryd.func8, Tryd.ntmps8
    go_wp2_with fail
    refine (hN.out _).mono ?_
    rintro e w1 ⟨B, rfl, hb⟩
    have hx : Hid (Ext w w1) := hb.ext
    have hlo := hb.lo
    have hB : Hid (Brr w1 B 1 133590000000000 0) := hb.brr
    clear hb
    go_wp2_with fail
    refine (awake_c _).mono ?_
    rintro e w3 ⟨rfl, hx1⟩
    replace hx : Hid (Ext w w3) := hx.out.trans hx1
    replace hB : Hid (Brr w3 B 1 133590000000000 0) := hB.out.ext hx1
    clear hx1
    go_wp2_with fail
    refine (h1.out _ _ hB.out).mono ?_
    rintro e w4 ⟨rfl, hx1⟩
    replace hx : Hid (Ext w w4) := hx.out.wrote hlo hx1
    replace hB : Hid (Brr w4 B 1 133590000000000 r) := hB.out.wrote hx1
    clear hx1
    go_wp2_with fail
    refine (Rest_c _ _ _ _ _ hB.out).mono ?_
    rintro e w5 ⟨rfl, rfl⟩
    go_wp2_with fail
    refine (h2'.out _ _ (hB.out.ext (by repeat (first | exact Ext.refl _ | apply Ext.alloc)))).mono ?_
    rintro e w6 ⟨rfl, hx1⟩
    replace hx : Hid (Ext w w6) := hx.out.trans (Ext.trans (by repeat (first | exact Ext.refl _ | apply Ext.alloc)) hx1)
    replace hB : Hid (Brr w6 B 1 133590000000000 r) := hB.out.ext (Ext.trans (by repeat (first | exact Ext.refl _ | apply Ext.alloc)) hx1)
    clear hx1
    go_wp2_with fail
    refine (h3.out _ _ hB.out).mono ?_
    rintro e w7 ⟨rfl, hx1⟩
    replace hx : Hid (Ext w w7) := hx.out.trans hx1
    replace hB : Hid (Brr w7 B 1 133590000000000 r) := hB.out.ext hx1
    clear hx1
    go_wp2_with fail
    refine (hN4.out _).mono ?_
    rintro e w8 ⟨rfl, hx1⟩
    replace hx : Hid (Ext w w8) := hx.out.trans hx1
    replace hB : Hid (Brr w8 B 1 133590000000000 r) := hB.out.ext hx1
    clear hx1
    go_wp2_with fail
    refine (hN2.out _).mono ?_
    rintro e w9 ⟨rfl, hx1⟩
    replace hx : Hid (Ext w w9) := hx.out.trans hx1
    have hB9 : Brr w9 B 1 133590000000000 r := hB.out.ext hx1
    clear hx1 hB
    go_wp2_with (go_at_call 14; refine (Rest_c _ _ _ _ _ hB9).mono ?_; rintro e w' ⟨rfl, rfl⟩)
    go_ret
    exact ⟨rfl, hx.out⟩
  · subst h
    have h2' : Hid (∀ (B : Nat) (w : World), Brr w B 1 133590000000000 r → Calls Tryd.prog 12 #[.pointer (some ⟨B, 0, none⟩), .int .i64 (1000000000000001), .int .i64 (0), .int .i64 (0)] w fun e w' => e = .returned (.tuple #[.int .i64 0, .int .i64 1]) ∧ Ext w w') := h2.out (1000000000000001) (0) (0) (by unfold Ask; omega)
    clear h2
    go_enter Tryd.func8, Tryd.ntmps8
    go_wp2_with fail
    refine (hN.out _).mono ?_
    rintro e w1 ⟨B, rfl, hb⟩
    have hx : Hid (Ext w w1) := hb.ext
    have hlo := hb.lo
    have hB : Hid (Brr w1 B 1 133590000000000 0) := hb.brr
    clear hb
    go_wp2_with fail
    refine (awake_c _).mono ?_
    rintro e w3 ⟨rfl, hx1⟩
    replace hx : Hid (Ext w w3) := hx.out.trans hx1
    replace hB : Hid (Brr w3 B 1 133590000000000 0) := hB.out.ext hx1
    clear hx1
    go_wp2_with fail
    refine (h1.out _ _ hB.out).mono ?_
    rintro e w4 ⟨rfl, hx1⟩
    replace hx : Hid (Ext w w4) := hx.out.wrote hlo hx1
    replace hB : Hid (Brr w4 B 1 133590000000000 r) := hB.out.wrote hx1
    clear hx1
    go_wp2_with fail
    refine (Rest_c _ _ _ _ _ hB.out).mono ?_
    rintro e w5 ⟨rfl, rfl⟩
    go_wp2_with fail
    refine (h2'.out _ _ (hB.out.ext (by repeat (first | exact Ext.refl _ | apply Ext.alloc)))).mono ?_
    rintro e w6 ⟨rfl, hx1⟩
    replace hx : Hid (Ext w w6) := hx.out.trans (Ext.trans (by repeat (first | exact Ext.refl _ | apply Ext.alloc)) hx1)
    replace hB : Hid (Brr w6 B 1 133590000000000 r) := hB.out.ext (Ext.trans (by repeat (first | exact Ext.refl _ | apply Ext.alloc)) hx1)
    clear hx1
    go_wp2_with fail
    refine (h3.out _ _ hB.out).mono ?_
    rintro e w7 ⟨rfl, hx1⟩
    replace hx : Hid (Ext w w7) := hx.out.trans hx1
    replace hB : Hid (Brr w7 B 1 133590000000000 r) := hB.out.ext hx1
    clear hx1
    go_wp2_with fail
    refine (hN4.out _).mono ?_
    rintro e w8 ⟨rfl, hx1⟩
    replace hx : Hid (Ext w w8) := hx.out.trans hx1
    replace hB : Hid (Brr w8 B 1 133590000000000 r) := hB.out.ext hx1
    clear hx1
    go_wp2_with fail
    refine (hN2.out _).mono ?_
    rintro e w9 ⟨rfl, hx1⟩
    replace hx : Hid (Ext w w9) := hx.out.trans hx1
    have hB9 : Brr w9 B 1 133590000000000 r := hB.out.ext hx1
    clear hx1 hB
    go_wp2_with (go_at_call 14; refine (Rest_c _ _ _ _ _ hB9).mono ?_; rintro e w' ⟨rfl, rfl⟩)
    go_ret
    exact ⟨rfl, hx.out⟩
  · subst h
    have h2' : Hid (∀ (B : Nat) (w : World), Brr w B 1 133590000000000 r → Calls Tryd.prog 12 #[.pointer (some ⟨B, 0, none⟩), .int .i64 (0), .int .i64 (-1), .int .i64 (0)] w fun e w' => e = .returned (.tuple #[.int .i64 0, .int .i64 1]) ∧ Ext w w') := h2.out (0) (-1) (0) (by unfold Ask; omega)
    clear h2
    go_enter Tryd.func8, Tryd.ntmps8
    go_wp2_with fail
    refine (hN.out _).mono ?_
    rintro e w1 ⟨B, rfl, hb⟩
    have hx : Hid (Ext w w1) := hb.ext
    have hlo := hb.lo
    have hB : Hid (Brr w1 B 1 133590000000000 0) := hb.brr
    clear hb
    go_wp2_with fail
    refine (awake_c _).mono ?_
    rintro e w3 ⟨rfl, hx1⟩
    replace hx : Hid (Ext w w3) := hx.out.trans hx1
    replace hB : Hid (Brr w3 B 1 133590000000000 0) := hB.out.ext hx1
    clear hx1
    go_wp2_with fail
    refine (h1.out _ _ hB.out).mono ?_
    rintro e w4 ⟨rfl, hx1⟩
    replace hx : Hid (Ext w w4) := hx.out.wrote hlo hx1
    replace hB : Hid (Brr w4 B 1 133590000000000 r) := hB.out.wrote hx1
    clear hx1
    go_wp2_with fail
    refine (Rest_c _ _ _ _ _ hB.out).mono ?_
    rintro e w5 ⟨rfl, rfl⟩
    go_wp2_with fail
    refine (h2'.out _ _ (hB.out.ext (by repeat (first | exact Ext.refl _ | apply Ext.alloc)))).mono ?_
    rintro e w6 ⟨rfl, hx1⟩
    replace hx : Hid (Ext w w6) := hx.out.trans (Ext.trans (by repeat (first | exact Ext.refl _ | apply Ext.alloc)) hx1)
    replace hB : Hid (Brr w6 B 1 133590000000000 r) := hB.out.ext (Ext.trans (by repeat (first | exact Ext.refl _ | apply Ext.alloc)) hx1)
    clear hx1
    go_wp2_with fail
    refine (h3.out _ _ hB.out).mono ?_
    rintro e w7 ⟨rfl, hx1⟩
    replace hx : Hid (Ext w w7) := hx.out.trans hx1
    replace hB : Hid (Brr w7 B 1 133590000000000 r) := hB.out.ext hx1
    clear hx1
    go_wp2_with fail
    refine (hN4.out _).mono ?_
    rintro e w8 ⟨rfl, hx1⟩
    replace hx : Hid (Ext w w8) := hx.out.trans hx1
    replace hB : Hid (Brr w8 B 1 133590000000000 r) := hB.out.ext hx1
    clear hx1
    go_wp2_with fail
    refine (hN2.out _).mono ?_
    rintro e w9 ⟨rfl, hx1⟩
    replace hx : Hid (Ext w w9) := hx.out.trans hx1
    have hB9 : Brr w9 B 1 133590000000000 r := hB.out.ext hx1
    clear hx1 hB
    go_wp2_with (go_at_call 14; refine (Rest_c _ _ _ _ _ hB9).mono ?_; rintro e w' ⟨rfl, rfl⟩)
    go_ret
    exact ⟨rfl, hx.out⟩
  · subst h
    have h2' : Hid (∀ (B : Nat) (w : World), Brr w B 1 133590000000000 r → Calls Tryd.prog 12 #[.pointer (some ⟨B, 0, none⟩), .int .i64 (0), .int .i64 (1000000001), .int .i64 (0)] w fun e w' => e = .returned (.tuple #[.int .i64 0, .int .i64 1]) ∧ Ext w w') := h2.out (0) (1000000001) (0) (by unfold Ask; omega)
    clear h2
    go_enter Tryd.func8, Tryd.ntmps8
    go_wp2_with fail
    refine (hN.out _).mono ?_
    rintro e w1 ⟨B, rfl, hb⟩
    have hx : Hid (Ext w w1) := hb.ext
    have hlo := hb.lo
    have hB : Hid (Brr w1 B 1 133590000000000 0) := hb.brr
    clear hb
    go_wp2_with fail
    refine (awake_c _).mono ?_
    rintro e w3 ⟨rfl, hx1⟩
    replace hx : Hid (Ext w w3) := hx.out.trans hx1
    replace hB : Hid (Brr w3 B 1 133590000000000 0) := hB.out.ext hx1
    clear hx1
    go_wp2_with fail
    refine (h1.out _ _ hB.out).mono ?_
    rintro e w4 ⟨rfl, hx1⟩
    replace hx : Hid (Ext w w4) := hx.out.wrote hlo hx1
    replace hB : Hid (Brr w4 B 1 133590000000000 r) := hB.out.wrote hx1
    clear hx1
    go_wp2_with fail
    refine (Rest_c _ _ _ _ _ hB.out).mono ?_
    rintro e w5 ⟨rfl, rfl⟩
    go_wp2_with fail
    refine (h2'.out _ _ (hB.out.ext (by repeat (first | exact Ext.refl _ | apply Ext.alloc)))).mono ?_
    rintro e w6 ⟨rfl, hx1⟩
    replace hx : Hid (Ext w w6) := hx.out.trans (Ext.trans (by repeat (first | exact Ext.refl _ | apply Ext.alloc)) hx1)
    replace hB : Hid (Brr w6 B 1 133590000000000 r) := hB.out.ext (Ext.trans (by repeat (first | exact Ext.refl _ | apply Ext.alloc)) hx1)
    clear hx1
    go_wp2_with fail
    refine (h3.out _ _ hB.out).mono ?_
    rintro e w7 ⟨rfl, hx1⟩
    replace hx : Hid (Ext w w7) := hx.out.trans hx1
    replace hB : Hid (Brr w7 B 1 133590000000000 r) := hB.out.ext hx1
    clear hx1
    go_wp2_with fail
    refine (hN4.out _).mono ?_
    rintro e w8 ⟨rfl, hx1⟩
    replace hx : Hid (Ext w w8) := hx.out.trans hx1
    replace hB : Hid (Brr w8 B 1 133590000000000 r) := hB.out.ext hx1
    clear hx1
    go_wp2_with fail
    refine (hN2.out _).mono ?_
    rintro e w9 ⟨rfl, hx1⟩
    replace hx : Hid (Ext w w9) := hx.out.trans hx1
    have hB9 : Brr w9 B 1 133590000000000 r := hB.out.ext hx1
    clear hx1 hB
    go_wp2_with (go_at_call 14; refine (Rest_c _ _ _ _ _ hB9).mono ?_; rintro e w' ⟨rfl, rfl⟩)
    go_ret
    exact ⟨rfl, hx.out⟩
  · subst h
    have h2' : Hid (∀ (B : Nat) (w : World), Brr w B 1 133590000000000 r → Calls Tryd.prog 12 #[.pointer (some ⟨B, 0, none⟩), .int .i64 (0), .int .i64 (0), .int .i64 (-1)] w fun e w' => e = .returned (.tuple #[.int .i64 0, .int .i64 1]) ∧ Ext w w') := h2.out (0) (0) (-1) (by unfold Ask; omega)
    clear h2
    go_enter Tryd.func8, Tryd.ntmps8
    go_wp2_with fail
    refine (hN.out _).mono ?_
    rintro e w1 ⟨B, rfl, hb⟩
    have hx : Hid (Ext w w1) := hb.ext
    have hlo := hb.lo
    have hB : Hid (Brr w1 B 1 133590000000000 0) := hb.brr
    clear hb
    go_wp2_with fail
    refine (awake_c _).mono ?_
    rintro e w3 ⟨rfl, hx1⟩
    replace hx : Hid (Ext w w3) := hx.out.trans hx1
    replace hB : Hid (Brr w3 B 1 133590000000000 0) := hB.out.ext hx1
    clear hx1
    go_wp2_with fail
    refine (h1.out _ _ hB.out).mono ?_
    rintro e w4 ⟨rfl, hx1⟩
    replace hx : Hid (Ext w w4) := hx.out.wrote hlo hx1
    replace hB : Hid (Brr w4 B 1 133590000000000 r) := hB.out.wrote hx1
    clear hx1
    go_wp2_with fail
    refine (Rest_c _ _ _ _ _ hB.out).mono ?_
    rintro e w5 ⟨rfl, rfl⟩
    go_wp2_with fail
    refine (h2'.out _ _ (hB.out.ext (by repeat (first | exact Ext.refl _ | apply Ext.alloc)))).mono ?_
    rintro e w6 ⟨rfl, hx1⟩
    replace hx : Hid (Ext w w6) := hx.out.trans (Ext.trans (by repeat (first | exact Ext.refl _ | apply Ext.alloc)) hx1)
    replace hB : Hid (Brr w6 B 1 133590000000000 r) := hB.out.ext (Ext.trans (by repeat (first | exact Ext.refl _ | apply Ext.alloc)) hx1)
    clear hx1
    go_wp2_with fail
    refine (h3.out _ _ hB.out).mono ?_
    rintro e w7 ⟨rfl, hx1⟩
    replace hx : Hid (Ext w w7) := hx.out.trans hx1
    replace hB : Hid (Brr w7 B 1 133590000000000 r) := hB.out.ext hx1
    clear hx1
    go_wp2_with fail
    refine (hN4.out _).mono ?_
    rintro e w8 ⟨rfl, hx1⟩
    replace hx : Hid (Ext w w8) := hx.out.trans hx1
    replace hB : Hid (Brr w8 B 1 133590000000000 r) := hB.out.ext hx1
    clear hx1
    go_wp2_with fail
    refine (hN2.out _).mono ?_
    rintro e w9 ⟨rfl, hx1⟩
    replace hx : Hid (Ext w w9) := hx.out.trans hx1
    have hB9 : Brr w9 B 1 133590000000000 r := hB.out.ext hx1
    clear hx1 hB
    go_wp2_with (go_at_call 14; refine (Rest_c _ _ _ _ _ hB9).mono ?_; rintro e w' ⟨rfl, rfl⟩)
    go_ret
    exact ⟨rfl, hx.out⟩
  · subst h
    have h2' : Hid (∀ (B : Nat) (w : World), Brr w B 1 133590000000000 r → Calls Tryd.prog 12 #[.pointer (some ⟨B, 0, none⟩), .int .i64 (0), .int .i64 (0), .int .i64 (53436001)] w fun e w' => e = .returned (.tuple #[.int .i64 0, .int .i64 1]) ∧ Ext w w') := h2.out (0) (0) (53436001) (by unfold Ask; omega)
    clear h2
    go_enter Tryd.func8, Tryd.ntmps8
    go_wp2_with fail
    refine (hN.out _).mono ?_
    rintro e w1 ⟨B, rfl, hb⟩
    have hx : Hid (Ext w w1) := hb.ext
    have hlo := hb.lo
    have hB : Hid (Brr w1 B 1 133590000000000 0) := hb.brr
    clear hb
    go_wp2_with fail
    refine (awake_c _).mono ?_
    rintro e w3 ⟨rfl, hx1⟩
    replace hx : Hid (Ext w w3) := hx.out.trans hx1
    replace hB : Hid (Brr w3 B 1 133590000000000 0) := hB.out.ext hx1
    clear hx1
    go_wp2_with fail
    refine (h1.out _ _ hB.out).mono ?_
    rintro e w4 ⟨rfl, hx1⟩
    replace hx : Hid (Ext w w4) := hx.out.wrote hlo hx1
    replace hB : Hid (Brr w4 B 1 133590000000000 r) := hB.out.wrote hx1
    clear hx1
    go_wp2_with fail
    refine (Rest_c _ _ _ _ _ hB.out).mono ?_
    rintro e w5 ⟨rfl, rfl⟩
    go_wp2_with fail
    refine (h2'.out _ _ (hB.out.ext (by repeat (first | exact Ext.refl _ | apply Ext.alloc)))).mono ?_
    rintro e w6 ⟨rfl, hx1⟩
    replace hx : Hid (Ext w w6) := hx.out.trans (Ext.trans (by repeat (first | exact Ext.refl _ | apply Ext.alloc)) hx1)
    replace hB : Hid (Brr w6 B 1 133590000000000 r) := hB.out.ext (Ext.trans (by repeat (first | exact Ext.refl _ | apply Ext.alloc)) hx1)
    clear hx1
    go_wp2_with fail
    refine (h3.out _ _ hB.out).mono ?_
    rintro e w7 ⟨rfl, hx1⟩
    replace hx : Hid (Ext w w7) := hx.out.trans hx1
    replace hB : Hid (Brr w7 B 1 133590000000000 r) := hB.out.ext hx1
    clear hx1
    go_wp2_with fail
    refine (hN4.out _).mono ?_
    rintro e w8 ⟨rfl, hx1⟩
    replace hx : Hid (Ext w w8) := hx.out.trans hx1
    replace hB : Hid (Brr w8 B 1 133590000000000 r) := hB.out.ext hx1
    clear hx1
    go_wp2_with fail
    refine (hN2.out _).mono ?_
    rintro e w9 ⟨rfl, hx1⟩
    replace hx : Hid (Ext w w9) := hx.out.trans hx1
    have hB9 : Brr w9 B 1 133590000000000 r := hB.out.ext hx1
    clear hx1 hB
    go_wp2_with (go_at_call 14; refine (Rest_c _ _ _ _ _ hB9).mono ?_; rintro e w' ⟨rfl, rfl⟩)
    go_ret
    exact ⟨rfl, hx.out⟩

set_option maxRecDepth 100000 in
theorem lifted (os : Os) (started : os.Started) (H : Type) (enc : TypeId × Value → H) :
    ReturnsInHanded {} Tryd.checked os 8 .any (fun w args => (Rows.growthRefusesSpec.pre enc Tryd.prog Tryd.f8 [] false w args ∧ laidMetH Tryd.prog laid w) ∧ sizedMet enc Tryd.prog Tryd.f8 (OpenSpec.ofChange Rows.growthRefusesSpec) false w args)
      (Rows.growthRefusesSpec.post enc Tryd.prog Tryd.f8 false true false false) := by
  refine wrap started (by kernel_rfl) Tryd.func8
    (ChangeSpec.witness_shaped (enc := enc) (C := Tryd.checked) (os := os) (X := fun w _ => laidMetH Tryd.prog laid w) false (World.laidAll Tryd.prog os laid) #[.int .i64 0, .int .i64 0] 8 (World.laidAll_os _ _ _)
      (World.shaped_of_ZipB (by kernel_rfl) (by kernel_rfl)) (by kernel_rfl) (by kernel_rfl) (by kernel_rfl)
      (by rw [MakeChecks.laidMetH_plain _ _ _ (by kernel_rfl)]; exact laidMet_laidAll _ (by kernel_rfl) (by kernel_rfl))) ?_
  intro W base args ds gs before hval0 hW hE
  have hval : ∀ (j : Nat) t v, Tryd.f8.params[j]? = some t → args[j]? = some v → Value.okWide Tryd.prog W .any base t v := hval0
  have hW' := hW
  obtain ⟨p, q, hA0, hV, rfl, _, _⟩ := hW
  have hA : DataW.TrodAll enc Tryd.prog W 0 (fun _ => true) true Tryd.f8.params.toList args.toList ds p := hA0
  rw [Tryd.params8] at hA hval
  obtain ⟨v0, vs0, d0, ds0, p0, q0, hargs, rfl, rfl, h0, r0⟩ := trodAll_cons hA
  obtain ⟨v1, vs1, d1, ds1, p1, q1, rfl, rfl, rfl, h1, r1⟩ := trodAll_cons r0
  obtain ⟨rfl, rfl, rfl⟩ := trodAll_nil r1
  obtain rfl : args = #[v0, v1] := by cases args; simp_all
  obtain ⟨rfl, rfl⟩ := trodVars_none hV
  obtain ⟨a0, rfl, rfl, rfl, w0⟩ := open_int Tryd.underlying3 (hval 0 3 v0 rfl rfl) h0
  obtain ⟨a1, rfl, rfl, rfl, w1⟩ := open_int Tryd.underlying2 (hval 1 2 v1 rfl rfl) h1
  clear hA0 hval0
  simp only [List.append_nil] at hW'
  refine (walk a0 w0 a1 w1 W).mono fun e W' ⟨he, hb⟩ => ?_
  subst he
  exact ⟨_, rfl, _, _, _, [], _, [], hW', (trodAll_cons_mk (shut_bool Tryd.underlying4 _) trodAll_mk0), (trodAll_cons_mk (shut_int Tryd.underlying3 w0) (trodAll_cons_mk (shut_int Tryd.underlying2 w1) trodAll_mk0)), rfl, hb.below.frame _, fun h => by cases h⟩

theorem over : Rows.growthRefusesRow.holds Tryd.pinned (OpenSpec.ofChange Rows.growthRefusesSpec) :=
  OpenClaim.holds_of_wide 8 Tryd.f8 rfl rfl rfl rfl rfl rfl rfl ⟨rfl, rfl, rfl, rfl, rfl⟩ rfl rfl rfl rfl rfl (by kernel_rfl) Tryd.func8 (by kernel_rfl)
    (of_decide_eq_true (by kernel_rfl)) (by unfold Func.isWrapper; first | (rw [if_pos (by decide +kernel)]; kernel_rfl) | (rw [if_neg (by decide +kernel)]; exact ⟨rfl, rfl⟩))
    (fun os started H enc _ => lifted os started H enc)
end Go.Proofs.YteedbmmpkgpfhaaDoor.growthRefuses
namespace Go.Proofs.YteedbmmpkgpfhaaDoor
theorem growthRefuses_holds : Rows.GrowthRefusesCardSaid :=
  Claim7.holds_tied_plain_at .later [] [.data] true (true, "225b0824fabe58f814383c228e1f1ee1b73c46497dda64b3ca6af21c7fd91e33") true growthRefuses.over (fun _ h => by cases h) (by kernel_rfl) (fun _ h => by cases h) growthRefuses_row_tie rfl ⟨rfl, rfl⟩ (by kernel_rfl) rfl
    (fun f fn hf hfn => by
      obtain rfl : f = 8 := Option.some.inj ((show Tryd.prog.funcNamed "quittance/quittancelaw12.GrowthRefuses" = some 8 by kernel_rfl).symm.trans hf) |>.symm
      obtain rfl : fn = Tryd.f8 := (Option.some.inj (Tryd.func8.symm.trans hfn)).symm
      exact ⟨by kernel_rfl, fun j t ht => by
        rw [Tryd.params8] at ht
        have hm : t ∈ [3, 2] := by simpa using Array.mem_of_getElem? ht
        have hall : ([3, 2].all fun u => !Tryd.prog.wantsStandIn u) = true := by kernel_rfl
        exact (show Tryd.prog.wantsStandIn t = false by simpa using List.all_eq_true.1 hall t hm)⟩)
    (by kernel_rfl)
#print axioms growthRefuses_holds
end Go.Proofs.YteedbmmpkgpfhaaDoor
