
/- The program's bear, Bear, New, Rest and Fork of package growth, as contracts: no statement of the seat is proved here. -/
import Derived.Test.YtafjmpaefikdcaaGreatDoorL12Gr0
namespace Go.Proofs.YtafjmpaefikdcaaGreatDoor.L12
open Go.RowKit
set_option linter.unusedVariables false

/-- A bearer in its block: how it rounds, the whole, the rest. -/
structure Brr (w : World) (B : Nat) (m W r : Int) : Prop where
  c0 : w.cell? ⟨B, 0, none⟩ = some (.int .i64 m)
  c1 : w.cell? ⟨B, 1, none⟩ = some (.int .i64 W)
  c2 : w.cell? ⟨B, 2, none⟩ = some (.int .i64 r)
  fz : w.frozen? ⟨B, 2, none⟩ = false
theorem Brr.ext {w w' : World} {B : Nat} {m W r : Int} (h : Brr w B m W r) (hx : Ext w w') : Brr w' B m W r :=
  ⟨hx.cell_of h.c0, hx.cell_of h.c1, hx.cell_of h.c2, hx.froz_of h.c2 h.fz⟩
theorem Brr.put {w : World} {B : Nat} {m W r : Int} (h : Brr w B m W r) (x : Int) : Brr (w.setCell ⟨B, 2, none⟩ (.int .i64 x)) B m W x :=
  ⟨by rw [other _ (Or.inr (by omega))]; exact h.c0, by rw [other _ (Or.inr (by omega))]; exact h.c1, same h.c2, by simp [go_sem, h.fz]⟩
theorem Brr.far {w : World} {B C : Nat} {m W r : Int} (h : Brr w B m W r) (hn : C ≠ B) (o : Nat) (x : Value) : Brr (w.setCell ⟨C, o, none⟩ x) B m W r :=
  ⟨by rw [other _ (Or.inl hn)]; exact h.c0, by rw [other _ (Or.inl hn)]; exact h.c1, by rw [other _ (Or.inl hn)]; exact h.c2, by simp [go_sem, h.fz]⟩
theorem Brr.lt {w : World} {B : Nat} {m W r : Int} (h : Brr w B m W r) : B < w.heap.size := lt_of_cell h.c0
/-- What is written in one block of a world and of one behind it. -/
theorem _root_.Go.Proofs.YtafjmpaefikdcaaGreatDoor.Ext.put {w w' : World} {B o : Nat} (hx : Ext w w') (x : Value) : Ext (w.setCell ⟨B, o, none⟩ x) (w'.setCell ⟨B, o, none⟩ x) := by
  refine ⟨⟨?_, ?_, ?_, ?_, ?_⟩⟩
  · simpa [World.setCell] using hx.below.os
  · simpa [World.setCell] using hx.below.tape
  · simpa [World.setCell] using hx.below.output
  · simpa [World.setCell] using hx.below.size
  · intro k hk
    have hk' : k < w.heap.size := by simpa [World.setCell] using hk
    simp only [World.setCell, Array.getElem?_modify]
    rw [hx.below.block k hk']

/-- What may be asked. -/
def Ask (b rt p : Int) : Prop := (0 ≤ b ∧ b ≤ 1000000000000000) ∧ (0 ≤ rt ∧ rt ≤ 1000000000) ∧ (0 ≤ p ∧ p ≤ 53436000)
theorem bear_zero (B : Nat) (m W r b rt p : Int) (w : World) (hB : Brr w B m W r) (hW : decide (0 < W) = false) :
    Calls Tryz.prog 63 #[.pointer (some ⟨B, 0, none⟩), .int .i64 b, .int .i64 rt, .int .i64 p] w fun e w' => e = .panicked [{ v := .iface 33 (.int .i64 1), recovered := false }] ∧ Ext w w' := by
  have k1 := hB.c1
  go_enter Tryz.func63, Tryz.ntmps63
  go_wp2_with fail
  refine (need_no _ _).mono ?_
  rintro e w1 ⟨rfl, rfl⟩
  go_wp2_with fail
  exact ⟨rfl, rfl, Ext.refl _⟩
theorem bear_arg (B : Nat) (m W r b rt p : Int) (w : World) (hB : Brr w B m W r) (hW : 0 < W) (h : ¬ Ask b rt p) :
    Calls Tryz.prog 63 #[.pointer (some ⟨B, 0, none⟩), .int .i64 b, .int .i64 rt, .int .i64 p] w fun e w' => e = .panicked [{ v := .iface 33 (.int .i64 1), recovered := false }] ∧ Ext w w' := by
  have k1 := hB.c1
  have dW : decide (0 < W) = true := decide_eq_true hW
  obtain ⟨x, hx⟩ : ∃ x, (decide (0 ≤ b) && decide (b ≤ 1000000000000000)) = x := ⟨_, rfl⟩
  obtain ⟨y, hy⟩ : ∃ y, (decide (0 ≤ rt) && decide (rt ≤ 1000000000)) = y := ⟨_, rfl⟩
  obtain ⟨z, hz⟩ : ∃ z, (decide (0 ≤ p) && decide (p ≤ 53436000)) = z := ⟨_, rfl⟩
  have hn : (x && y && z) = false := by
    rw [← hx, ← hy, ← hz]
    unfold Ask at h
    simp only [Bool.and_eq_false_iff, decide_eq_false_iff_not]
    omega
  have h1 : Hid (∀ w : World, Calls Tryz.prog 90 #[.int .i64 b, .int .i64 1000000000000000] w fun e w' => e = .returned (.bool x) ∧ w' = w) := fun w => by have := upTo_c b 1000000000000000 w; rwa [hx] at this
  have h2 : Hid (∀ w : World, Calls Tryz.prog 90 #[.int .i64 rt, .int .i64 1000000000] w fun e w' => e = .returned (.bool y) ∧ w' = w) := fun w => by have := upTo_c rt 1000000000 w; rwa [hy] at this
  have h3 : Hid (∀ w : World, Calls Tryz.prog 90 #[.int .i64 p, .int .i64 53436000] w fun e w' => e = .returned (.bool z) ∧ w' = w) := fun w => by have := upTo_c p 53436000 w; rwa [hz] at this
  clear h hx hy hz
  cases x
  · go_enter Tryz.func63, Tryz.ntmps63
    go_wp2_with fail
    refine (need_ok _ _).mono ?_
    rintro e w1 ⟨rfl, rfl⟩
    go_wp2_with fail
    refine (h1.out _).mono ?_
    rintro e w1 ⟨rfl, rfl⟩
    go_wp2_with fail
    refine (need_no _ _).mono ?_
    rintro e w1 ⟨rfl, rfl⟩
    go_wp2_with fail
    exact ⟨rfl, rfl, Ext.refl _⟩
  · cases y
    · go_enter Tryz.func63, Tryz.ntmps63
      go_wp2_with fail
      refine (need_ok _ _).mono ?_
      rintro e w1 ⟨rfl, rfl⟩
      go_wp2_with fail
      refine (h1.out _).mono ?_
      rintro e w1 ⟨rfl, rfl⟩
      go_wp2_with fail
      refine (h2.out _).mono ?_
      rintro e w1 ⟨rfl, rfl⟩
      go_wp2_with fail
      refine (need_no _ _).mono ?_
      rintro e w1 ⟨rfl, rfl⟩
      go_wp2_with fail
      exact ⟨rfl, rfl, Ext.refl _⟩
    · obtain rfl : z = false := by simpa using hn
      go_enter Tryz.func63, Tryz.ntmps63
      go_wp2_with fail
      refine (need_ok _ _).mono ?_
      rintro e w1 ⟨rfl, rfl⟩
      go_wp2_with fail
      refine (h1.out _).mono ?_
      rintro e w1 ⟨rfl, rfl⟩
      go_wp2_with fail
      refine (h2.out _).mono ?_
      rintro e w1 ⟨rfl, rfl⟩
      go_wp2_with fail
      refine (h3.out _).mono ?_
      rintro e w1 ⟨rfl, rfl⟩
      go_wp2_with fail
      refine (need_no _ _).mono ?_
      rintro e w1 ⟨rfl, rfl⟩
      go_wp2_with fail
      exact ⟨rfl, rfl, Ext.refl _⟩
set_option maxHeartbeats 1000000 in
theorem bear_over (B : Nat) (m W r b rt p rp : Int) (w : World) (hB : Brr w B m W r) (hW : 0 < W) (hW2 : W ≤ 200000000000000) (b0 : 0 ≤ b) (b1 : b ≤ 1000000000000000) (t0 : 0 ≤ rt) (t1 : rt ≤ 1000000000) (p0 : 0 ≤ p) (p1 : p ≤ 53436000) (hrp : rt * p = rp) (rp0 : 0 ≤ rp) (rp1 : rp ≤ 100000000000000000)
    (HD : Hid (∀ w, Calls Tryz.prog 91 #[.int .i64 b, .int .i64 rp, .int .i64 W] w fun e w' => e = .panicked [{ v := .iface 33 (.int .i64 3), recovered := false }] ∧ Ext w w')) :
    Calls Tryz.prog 63 #[.pointer (some ⟨B, 0, none⟩), .int .i64 b, .int .i64 rt, .int .i64 p] w fun e w' => e = .panicked [{ v := .iface 33 (.int .i64 3), recovered := false }] ∧ Ext w w' := by
  have k1 := hB.c1
  have dW : decide (0 < W) = true := decide_eq_true hW
  have h1 : Hid (∀ w : World, Calls Tryz.prog 90 #[.int .i64 b, .int .i64 1000000000000000] w fun e w' => e = .returned (.bool true) ∧ w' = w) := fun w => by have := upTo_c b 1000000000000000 w; rwa [show (decide (0 ≤ b) && decide (b ≤ 1000000000000000)) = true by simp; omega] at this
  have h2 : Hid (∀ w : World, Calls Tryz.prog 90 #[.int .i64 rt, .int .i64 1000000000] w fun e w' => e = .returned (.bool true) ∧ w' = w) := fun w => by have := upTo_c rt 1000000000 w; rwa [show (decide (0 ≤ rt) && decide (rt ≤ 1000000000)) = true by simp; omega] at this
  have h3 : Hid (∀ w : World, Calls Tryz.prog 90 #[.int .i64 p, .int .i64 53436000] w fun e w' => e = .returned (.bool true) ∧ w' = w) := fun w => by have := upTo_c p 53436000 w; rwa [show (decide (0 ≤ p) && decide (p ≤ 53436000)) = true by simp; omega] at this
  go_enter Tryz.func63, Tryz.ntmps63
  go_wp2_with fail
  refine (need_ok _ _).mono ?_
  rintro e w ⟨rfl, rfl⟩
  go_wp2_with fail
  refine (h1.out _).mono ?_
  rintro e w ⟨rfl, rfl⟩
  go_wp2_with fail
  refine (h2.out _).mono ?_
  rintro e w ⟨rfl, rfl⟩
  go_wp2_with fail
  refine (h3.out _).mono ?_
  rintro e w ⟨rfl, rfl⟩
  go_wp2_with fail
  refine (need_ok _ _).mono ?_
  rintro e w ⟨rfl, rfl⟩
  clear h1 h2 h3
  go_wp2_with fail
  refine (HD.out _).mono ?_
  rintro e w2 ⟨rfl, hx⟩
  replace hx := show Hid _ from hx
  go_wp2_with fail
  exact ⟨rfl, rfl, hx.out⟩
set_option maxHeartbeats 2000000 in
theorem bear_A (B : Nat) (m W r b rt p rp q o k kW : Int) (w : World) (hB : Brr w B m W r) (hW : 0 < W) (hW2 : W ≤ 200000000000000) (b0 : 0 ≤ b) (b1 : b ≤ 1000000000000000) (t0 : 0 ≤ rt) (t1 : rt ≤ 1000000000) (p0 : 0 ≤ p) (p1 : p ≤ 53436000) (hrp : rt * p = rp) (rp0 : 0 ≤ rp) (rp1 : rp ≤ 100000000000000000) (hr1 : -200000000000000 ≤ r) (hr2 : r ≤ 200000000000000) (o0 : 0 ≤ o) (o1 : o ≤ 200000000000000)
    (HD : Hid (∀ w, Calls Tryz.prog 91 #[.int .i64 b, .int .i64 rp, .int .i64 W] w fun e w' => e = .returned (.tuple #[.int .i64 q, .int .i64 o]) ∧ Ext w w'))
    (HQ : Hid (∀ w, Calls Tryz.prog 92 #[.agg #[.int .i64 m], .int .i64 (o + r), .int .i64 W] w fun e w' => e = .returned (.tuple #[.int .i64 k, .int .i64 0]) ∧ Ext w w'))
    (HP : Hid (∀ w, Calls Tryz.prog 93 #[.int .i64 q, .int .i64 k] w fun e w' => e = .returned (.tuple #[.int .i64 (q + k), .int .i64 0]) ∧ Ext w w'))
    (hk : k * W = kW) (hk0 : 0 ≤ kW) (hk1 : kW ≤ 200000000000000) :
    Calls Tryz.prog 63 #[.pointer (some ⟨B, 0, none⟩), .int .i64 b, .int .i64 rt, .int .i64 p] w fun e w' => e = .returned (.int .i64 (q + k)) ∧ Ext (w.setCell ⟨B, 2, none⟩ (.int .i64 (o + r - kW))) w' := by
  have k1 := hB.c1
  have hBs := hB.lt
  have dW : decide (0 < W) = true := decide_eq_true hW
  have h1 : Hid (∀ w : World, Calls Tryz.prog 90 #[.int .i64 b, .int .i64 1000000000000000] w fun e w' => e = .returned (.bool true) ∧ w' = w) := fun w => by have := upTo_c b 1000000000000000 w; rwa [show (decide (0 ≤ b) && decide (b ≤ 1000000000000000)) = true by simp; omega] at this
  have h2 : Hid (∀ w : World, Calls Tryz.prog 90 #[.int .i64 rt, .int .i64 1000000000] w fun e w' => e = .returned (.bool true) ∧ w' = w) := fun w => by have := upTo_c rt 1000000000 w; rwa [show (decide (0 ≤ rt) && decide (rt ≤ 1000000000)) = true by simp; omega] at this
  have h3 : Hid (∀ w : World, Calls Tryz.prog 90 #[.int .i64 p, .int .i64 53436000] w fun e w' => e = .returned (.bool true) ∧ w' = w) := fun w => by have := upTo_c p 53436000 w; rwa [show (decide (0 ≤ p) && decide (p ≤ 53436000)) = true by simp; omega] at this
  go_enter Tryz.func63, Tryz.ntmps63
  go_wp2_with fail
  refine (need_ok _ _).mono ?_
  rintro e w ⟨rfl, rfl⟩
  go_wp2_with fail
  refine (h1.out _).mono ?_
  rintro e w ⟨rfl, rfl⟩
  go_wp2_with fail
  refine (h2.out _).mono ?_
  rintro e w ⟨rfl, rfl⟩
  go_wp2_with fail
  refine (h3.out _).mono ?_
  rintro e w ⟨rfl, rfl⟩
  go_wp2_with fail
  refine (need_ok _ _).mono ?_
  rintro e w ⟨rfl, rfl⟩
  clear h1 h2 h3
  go_wp2_with fail
  refine (HD.out _).mono ?_
  rintro e w2 ⟨rfl, hx1⟩
  have hx : Hid (Ext w w2) := hx1
  have hB2 : Brr w2 B m W r := hB.ext hx1
  have k0 := hB2.c0; have k1 := hB2.c1; have k2 := hB2.c2
  replace hB2 := show Hid _ from hB2
  clear hx1 hB
  have j0 := Late.cell k0; have j1 := Late.cell k1; have j2 := Late.cell k2
  have hNe1 : Nonempty (Late w2) := ⟨⟨_, Ext.refl _⟩⟩
  go_wp2_with fail
  refine wp_region_late (by kernel_rfl) (by kernel_rfl) ?_
  repeat (go_big_quiet_step ((first
    | (go_at_call 92; exact late_of (HQ.out _))
    | (go_at_call 58; exact late_of (sureI_ok _ _)))))
  refine wpQuiet_nil ?_
  intro w4 hw'
  have hx1 : Ext w2 w4 := late_ext hw'
  replace hx : Hid (Ext w w4) := hx.out.trans hx1
  have hB4 : Brr w4 B m W r := hB2.out.ext hx1
  clear hw' j0 j1 j2 k0 k1 k2 hNe1
  have k0 := hB4.c0; have k1 := hB4.c1; have k2 := hB4.c2
  replace hB4 := show Hid _ from hB4
  clear hx1 hB2
  go_wp2_with fail
  refine (HP.out _).mono ?_
  rintro e w5 ⟨rfl, hx1⟩
  replace hx : Hid (Ext w w5) := hx.out.trans hx1
  have hB5 : Brr w5 B m W r := hB4.out.ext hx1
  have k0 := hB5.c0; have k1 := hB5.c1; have k2 := hB5.c2
  replace hB5 := show Hid _ from hB5
  clear hx1 hB4
  go_wp2_with fail
  refine (sureI_ok _ _).mono ?_
  rintro e w6 ⟨rfl, hx1⟩
  replace hx : Hid (Ext w w6) := hx.out.trans hx1
  have hB6 : Brr w6 B m W r := hB5.out.ext hx1
  have k0 := hB6.c0; have k1 := hB6.c1; have k2 := hB6.c2; have kf := hB6.fz
  clear hx1 hB5 hB6
  go_wp2_with fail
  go_ret
  exact ⟨rfl, hx.out.put _⟩
set_option maxHeartbeats 2000000 in
theorem bear_B (B : Nat) (m W r b rt p rp q o k : Int) (w : World) (hB : Brr w B m W r) (hW : 0 < W) (hW2 : W ≤ 200000000000000) (b0 : 0 ≤ b) (b1 : b ≤ 1000000000000000) (t0 : 0 ≤ rt) (t1 : rt ≤ 1000000000) (p0 : 0 ≤ p) (p1 : p ≤ 53436000) (hrp : rt * p = rp) (rp0 : 0 ≤ rp) (rp1 : rp ≤ 100000000000000000) (hr1 : -200000000000000 ≤ r) (hr2 : r ≤ 200000000000000) (o0 : 0 ≤ o) (o1 : o ≤ 200000000000000)
    (HD : Hid (∀ w, Calls Tryz.prog 91 #[.int .i64 b, .int .i64 rp, .int .i64 W] w fun e w' => e = .returned (.tuple #[.int .i64 q, .int .i64 o]) ∧ Ext w w'))
    (HQ : Hid (∀ w, Calls Tryz.prog 92 #[.agg #[.int .i64 m], .int .i64 (o + r), .int .i64 W] w fun e w' => e = .returned (.tuple #[.int .i64 k, .int .i64 0]) ∧ Ext w w'))
    (HP : Hid (∀ w, Calls Tryz.prog 93 #[.int .i64 q, .int .i64 k] w fun e w' => e = .returned (.tuple #[.int .i64 0, .int .i64 3]) ∧ Ext w w')) :
    Calls Tryz.prog 63 #[.pointer (some ⟨B, 0, none⟩), .int .i64 b, .int .i64 rt, .int .i64 p] w fun e w' => e = .panicked [{ v := .iface 33 (.int .i64 3), recovered := false }] ∧ Ext w w' := by
  have k1 := hB.c1
  have hBs := hB.lt
  have dW : decide (0 < W) = true := decide_eq_true hW
  have h1 : Hid (∀ w : World, Calls Tryz.prog 90 #[.int .i64 b, .int .i64 1000000000000000] w fun e w' => e = .returned (.bool true) ∧ w' = w) := fun w => by have := upTo_c b 1000000000000000 w; rwa [show (decide (0 ≤ b) && decide (b ≤ 1000000000000000)) = true by simp; omega] at this
  have h2 : Hid (∀ w : World, Calls Tryz.prog 90 #[.int .i64 rt, .int .i64 1000000000] w fun e w' => e = .returned (.bool true) ∧ w' = w) := fun w => by have := upTo_c rt 1000000000 w; rwa [show (decide (0 ≤ rt) && decide (rt ≤ 1000000000)) = true by simp; omega] at this
  have h3 : Hid (∀ w : World, Calls Tryz.prog 90 #[.int .i64 p, .int .i64 53436000] w fun e w' => e = .returned (.bool true) ∧ w' = w) := fun w => by have := upTo_c p 53436000 w; rwa [show (decide (0 ≤ p) && decide (p ≤ 53436000)) = true by simp; omega] at this
  go_enter Tryz.func63, Tryz.ntmps63
  go_wp2_with fail
  refine (need_ok _ _).mono ?_
  rintro e w ⟨rfl, rfl⟩
  go_wp2_with fail
  refine (h1.out _).mono ?_
  rintro e w ⟨rfl, rfl⟩
  go_wp2_with fail
  refine (h2.out _).mono ?_
  rintro e w ⟨rfl, rfl⟩
  go_wp2_with fail
  refine (h3.out _).mono ?_
  rintro e w ⟨rfl, rfl⟩
  go_wp2_with fail
  refine (need_ok _ _).mono ?_
  rintro e w ⟨rfl, rfl⟩
  clear h1 h2 h3
  go_wp2_with fail
  refine (HD.out _).mono ?_
  rintro e w2 ⟨rfl, hx1⟩
  have hx : Hid (Ext w w2) := hx1
  have hB2 : Brr w2 B m W r := hB.ext hx1
  have k0 := hB2.c0; have k1 := hB2.c1; have k2 := hB2.c2
  replace hB2 := show Hid _ from hB2
  clear hx1 hB
  have j0 := Late.cell k0; have j1 := Late.cell k1; have j2 := Late.cell k2
  have hNe1 : Nonempty (Late w2) := ⟨⟨_, Ext.refl _⟩⟩
  go_wp2_with fail
  refine wp_region_late (by kernel_rfl) (by kernel_rfl) ?_
  repeat (go_big_quiet_step ((first
    | (go_at_call 92; exact late_of (HQ.out _))
    | (go_at_call 58; exact late_of (sureI_ok _ _)))))
  refine wpQuiet_nil ?_
  intro w4 hw'
  have hx1 : Ext w2 w4 := late_ext hw'
  replace hx : Hid (Ext w w4) := hx.out.trans hx1
  have hB4 : Brr w4 B m W r := hB2.out.ext hx1
  clear hw' j0 j1 j2 k0 k1 k2 hNe1
  have k0 := hB4.c0; have k1 := hB4.c1; have k2 := hB4.c2
  replace hB4 := show Hid _ from hB4
  clear hx1 hB2
  go_wp2_with fail
  refine (HP.out _).mono ?_
  rintro e w5 ⟨rfl, hx1⟩
  replace hx : Hid (Ext w w5) := hx.out.trans hx1
  have hB5 : Brr w5 B m W r := hB4.out.ext hx1
  have k0 := hB5.c0; have k1 := hB5.c1; have k2 := hB5.c2
  replace hB5 := show Hid _ from hB5
  clear hx1 hB4
  go_wp2_with fail
  refine (sureI_no _ _ (by decide) _).mono ?_
  rintro e w6 ⟨rfl, hx1⟩
  replace hx : Hid (Ext w w6) := hx.out.trans hx1
  clear hx1 hB5
  go_wp2_with fail
  exact ⟨rfl, rfl, hx.out⟩
end Go.Proofs.YtafjmpaefikdcaaGreatDoor.L12