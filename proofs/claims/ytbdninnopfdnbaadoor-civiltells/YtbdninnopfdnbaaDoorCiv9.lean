/- Take of the document's own, as a contract: no statement of the seat is proved here. -/
import Derived.Test.YtbdninnopfdnbaaDoorCiv8
namespace Go.Proofs.YtbdninnopfdnbaaDoor
open Go.RowKit Go.Lib
set_option linter.unusedVariables false

/-- A digit's worth. -/
def dv (c : UInt8) : Int := (c.toNat : Int) - 48
theorem dv_bd (c : UInt8) : -48 ≤ dv c ∧ dv c ≤ 207 := by unfold dv; have := c.toNat_lt; omega
theorem dv_wrap (c : UInt8) (h : isD c = true) : IntKind.u8.wrap ((c.toNat : Int) - 48) = dv c := by
  obtain ⟨h1, h2⟩ := isD_range h
  rw [IntKind.wrap_u8]; unfold dv; omega
def vY (x0 x1 x2 x3 : Int) : Nat → Int
  | 0 => 0
  | 1 => x0
  | 2 => 10 * x0 + x1
  | 3 => 10 * (10 * x0 + x1) + x2
  | _ => 10 * (10 * (10 * x0 + x1) + x2) + x3
def vM (x5 x6 : Int) : Nat → Int
  | 6 => x5
  | 7 => 10 * x5 + x6
  | 8 => 10 * x5 + x6
  | 9 => 10 * x5 + x6
  | 10 => 10 * x5 + x6
  | _ => 0
def vD (x8 x9 : Int) : Nat → Int
  | 9 => x8
  | 10 => 10 * x8 + x9
  | _ => 0
/-- The three numbers' cells. -/
structure Tri (w wr : World) (b : Nat) (p q r : Int) : Prop where
  ext : Ext w wr
  lo : w.heap.size ≤ b
  b0 : wr.cell? ⟨b, 0, none⟩ = some (.int .i64 p)
  b1 : wr.cell? ⟨b, 1, none⟩ = some (.int .i64 q)
  b2 : wr.cell? ⟨b, 2, none⟩ = some (.int .i64 r)
  g0 : wr.frozen? ⟨b, 0, none⟩ = false
  g1 : wr.frozen? ⟨b, 1, none⟩ = false
  g2 : wr.frozen? ⟨b, 2, none⟩ = false
theorem Tri.start (w : World) (t : TypeId) : ∃ W b, w.alloc (.cells #[.int .i64 0, .int .i64 0, .int .i64 0] t) = W ∧ w.heap.size = b ∧ Tri w W b 0 0 0 :=
  ⟨_, _, rfl, rfl, (Ext.refl w).alloc _ _, Nat.le_refl _, by simp [go_sem], by simp [go_sem], by simp [go_sem], by simp [go_sem], by simp [go_sem], by simp [go_sem]⟩
theorem Tri.drew {w wr : World} {b : Nat} {p q r : Int} (h : Tri w wr b p q r) (n : Nat) : Tri w (wr.drewN n) b p q r :=
  ⟨h.ext.drewN n, h.lo, h.b0, h.b1, h.b2, h.g0, h.g1, h.g2⟩
theorem Tri.set0 {w wr : World} {b : Nat} {p q r : Int} (h : Tri w wr b p q r) (z : Int) : Tri w (wr.setCell ⟨b, 0, none⟩ (.int .i64 z)) b z q r :=
  ⟨h.ext.setCell (show w.heap.size ≤ b from h.lo) _, h.lo, same h.b0, by rw [other _ (by omega)]; exact h.b1, by rw [other _ (by omega)]; exact h.b2, by simpa using h.g0, by simpa using h.g1, by simpa using h.g2⟩
theorem Tri.set1 {w wr : World} {b : Nat} {p q r : Int} (h : Tri w wr b p q r) (z : Int) : Tri w (wr.setCell ⟨b, 1, none⟩ (.int .i64 z)) b p z r :=
  ⟨h.ext.setCell (show w.heap.size ≤ b from h.lo) _, h.lo, by rw [other _ (by omega)]; exact h.b0, same h.b1, by rw [other _ (by omega)]; exact h.b2, by simpa using h.g0, by simpa using h.g1, by simpa using h.g2⟩
theorem Tri.set2 {w wr : World} {b : Nat} {p q r : Int} (h : Tri w wr b p q r) (z : Int) : Tri w (wr.setCell ⟨b, 2, none⟩ (.int .i64 z)) b p q z :=
  ⟨h.ext.setCell (show w.heap.size ≤ b from h.lo) _, h.lo, by rw [other _ (by omega)]; exact h.b0, by rw [other _ (by omega)]; exact h.b1, same h.b2, by simpa using h.g0, by simpa using h.g1, by simpa using h.g2⟩
theorem parts_dv (c0 c1 c2 c3 c4 c5 c6 c7 c8 c9 : UInt8) (f : Form c0 c1 c2 c3 c4 c5 c6 c7 c8 c9) : vY (dv c0) (dv c1) (dv c2) (dv c3) 10 = pY [c0, c1, c2, c3, c4, c5, c6, c7, c8, c9] ∧ vM (dv c5) (dv c6) 10 = pM [c0, c1, c2, c3, c4, c5, c6, c7, c8, c9] ∧ vD (dv c8) (dv c9) 10 = pD [c0, c1, c2, c3, c4, c5, c6, c7, c8, c9] := by
  have := isD_range f.d0; have := isD_range f.d1; have := isD_range f.d2; have := isD_range f.d3; have := isD_range f.d5; have := isD_range f.d6; have := isD_range f.d8; have := isD_range f.d9
  refine ⟨?_, ?_, ?_⟩
  · show 10 * (10 * (10 * dv c0 + dv c1) + dv c2) + dv c3 = ((valL [c0, c1, c2, c3] : Nat) : Int)
    simp only [valL, List.foldl, dv]; omega
  · show 10 * dv c5 + dv c6 = ((valL [c5, c6] : Nat) : Int)
    simp only [valL, List.foldl, dv]; omega
  · show 10 * dv c8 + dv c9 = ((valL [c8, c9] : Nat) : Int)
    simp only [valL, List.foldl, dv]; omega

theorem rTake_short (l : List UInt8) (w : World) (h : l.length ≠ 10) (hl : l.length ≤ 1000000) :
    Calls Tryd.prog 17 #[.string ⟨l.toArray⟩] w fun e w' => e = .returned (.tuple #[.int .i64 0, .int .i64 4]) ∧ Ext w w' := by
  have k : ¬ (l.length : Int) = 10 := by omega
  go_enter Tryd.func17, Tryd.ntmps17
  go_wp2
  go_ret2
  exact ⟨rfl, Ext.refl _⟩
theorem rTake_h4 (c0 c1 c2 c3 c4 c5 c6 c7 c8 c9 : UInt8) (w : World) (h : ¬ (c4.toNat : Int) = 45) :
    Calls Tryd.prog 17 #[.string ⟨#[c0, c1, c2, c3, c4, c5, c6, c7, c8, c9]⟩] w fun e w' => e = .returned (.tuple #[.int .i64 0, .int .i64 4]) ∧ Ext w w' := by
  have i4 : ∀ h, (⟨#[c0, c1, c2, c3, c4, c5, c6, c7, c8, c9]⟩ : ByteArray)[4]'h = c4 := fun _ => rfl
  go_enter Tryd.func17, Tryd.ntmps17
  go_wp2
  go_ret2
  exact ⟨rfl, Ext.refl _⟩
theorem rTake_h7 (c0 c1 c2 c3 c4 c5 c6 c7 c8 c9 : UInt8) (w : World) (h4 : (c4.toNat : Int) = 45) (h : ¬ (c7.toNat : Int) = 45) :
    Calls Tryd.prog 17 #[.string ⟨#[c0, c1, c2, c3, c4, c5, c6, c7, c8, c9]⟩] w fun e w' => e = .returned (.tuple #[.int .i64 0, .int .i64 4]) ∧ Ext w w' := by
  have i4 : ∀ h, (⟨#[c0, c1, c2, c3, c4, c5, c6, c7, c8, c9]⟩ : ByteArray)[4]'h = c4 := fun _ => rfl
  have i7 : ∀ h, (⟨#[c0, c1, c2, c3, c4, c5, c6, c7, c8, c9]⟩ : ByteArray)[7]'h = c7 := fun _ => rfl
  go_enter Tryd.func17, Tryd.ntmps17
  go_wp2
  go_ret2
  exact ⟨rfl, Ext.refl _⟩
set_option maxHeartbeats 8000000 in
theorem rTake_ten (c0 c1 c2 c3 c4 c5 c6 c7 c8 c9 : UInt8) (w : World) (h4 : (c4.toNat : Int) = 45) (h7 : (c7.toNat : Int) = 45) (he : Hid (Env w)) :
    Calls Tryd.prog 17 #[.string ⟨#[c0, c1, c2, c3, c4, c5, c6, c7, c8, c9]⟩] w fun e w' => e = .returned (.tuple #[.int .i64 (takA [c0, c1, c2, c3, c4, c5, c6, c7, c8, c9]), .int .i64 (takE [c0, c1, c2, c3, c4, c5, c6, c7, c8, c9])]) ∧ Ext w w' := by
  have hfi := show Hid _ from form_iff c0 c1 c2 c3 c4 c5 c6 c7 c8 c9
  have hp := show Hid _ from parts_dv c0 c1 c2 c3 c4 c5 c6 c7 c8 c9
  have k4 : Hid (c4 = 45) := by show c4 = 45; apply UInt8.toNat_inj.mp; exact Int.ofNat_inj.mp h4
  have k7 : Hid (c7 = 45) := by show c7 = 45; apply UInt8.toNat_inj.mp; exact Int.ofNat_inj.mp h7
  have hno : Hid (∀ i, i < 10 → okAt [c0, c1, c2, c3, c4, c5, c6, c7, c8, c9] i = false → takA [c0, c1, c2, c3, c4, c5, c6, c7, c8, c9] = 0 ∧ takE [c0, c1, c2, c3, c4, c5, c6, c7, c8, c9] = 4) := fun i hi hk => tak_not _ (by
    unfold formL
    have : (List.range 10).all (okAt [c0, c1, c2, c3, c4, c5, c6, c7, c8, c9]) = false := by
      rw [List.all_eq_false]; exact ⟨i, by simpa using hi, by rw [hk]; decide⟩
    rw [this]; simp)
  obtain ⟨x0, ex0⟩ : ∃ x, dv c0 = x := ⟨_, rfl⟩
  obtain ⟨l0, u0⟩ := ex0 ▸ dv_bd c0
  have wr0 : Hid (isD c0 = true → IntKind.u8.wrap ((c0.toNat : Int) - 48) = x0) := fun h => ex0 ▸ dv_wrap c0 h
  obtain ⟨x1, ex1⟩ : ∃ x, dv c1 = x := ⟨_, rfl⟩
  obtain ⟨l1, u1⟩ := ex1 ▸ dv_bd c1
  have wr1 : Hid (isD c1 = true → IntKind.u8.wrap ((c1.toNat : Int) - 48) = x1) := fun h => ex1 ▸ dv_wrap c1 h
  obtain ⟨x2, ex2⟩ : ∃ x, dv c2 = x := ⟨_, rfl⟩
  obtain ⟨l2, u2⟩ := ex2 ▸ dv_bd c2
  have wr2 : Hid (isD c2 = true → IntKind.u8.wrap ((c2.toNat : Int) - 48) = x2) := fun h => ex2 ▸ dv_wrap c2 h
  obtain ⟨x3, ex3⟩ : ∃ x, dv c3 = x := ⟨_, rfl⟩
  obtain ⟨l3, u3⟩ := ex3 ▸ dv_bd c3
  have wr3 : Hid (isD c3 = true → IntKind.u8.wrap ((c3.toNat : Int) - 48) = x3) := fun h => ex3 ▸ dv_wrap c3 h
  obtain ⟨x5, ex5⟩ : ∃ x, dv c5 = x := ⟨_, rfl⟩
  obtain ⟨l5, u5⟩ := ex5 ▸ dv_bd c5
  have wr5 : Hid (isD c5 = true → IntKind.u8.wrap ((c5.toNat : Int) - 48) = x5) := fun h => ex5 ▸ dv_wrap c5 h
  obtain ⟨x6, ex6⟩ : ∃ x, dv c6 = x := ⟨_, rfl⟩
  obtain ⟨l6, u6⟩ := ex6 ▸ dv_bd c6
  have wr6 : Hid (isD c6 = true → IntKind.u8.wrap ((c6.toNat : Int) - 48) = x6) := fun h => ex6 ▸ dv_wrap c6 h
  obtain ⟨x8, ex8⟩ : ∃ x, dv c8 = x := ⟨_, rfl⟩
  obtain ⟨l8, u8⟩ := ex8 ▸ dv_bd c8
  have wr8 : Hid (isD c8 = true → IntKind.u8.wrap ((c8.toNat : Int) - 48) = x8) := fun h => ex8 ▸ dv_wrap c8 h
  obtain ⟨x9, ex9⟩ : ∃ x, dv c9 = x := ⟨_, rfl⟩
  obtain ⟨l9, u9⟩ := ex9 ▸ dv_bd c9
  have wr9 : Hid (isD c9 = true → IntKind.u8.wrap ((c9.toNat : Int) - 48) = x9) := fun h => ex9 ▸ dv_wrap c9 h
  replace hp : Hid (Form c0 c1 c2 c3 c4 c5 c6 c7 c8 c9 → vY x0 x1 x2 x3 10 = pY [c0, c1, c2, c3, c4, c5, c6, c7, c8, c9] ∧ vM x5 x6 10 = pM [c0, c1, c2, c3, c4, c5, c6, c7, c8, c9] ∧ vD x8 x9 10 = pD [c0, c1, c2, c3, c4, c5, c6, c7, c8, c9]) := fun f => by
    have := hp.out f
    rwa [ex0, ex1, ex2, ex3, ex5, ex6, ex8, ex9] at this
  clear ex0 ex1 ex2 ex3 ex5 ex6 ex8 ex9
  have hT : Hid (Form c0 c1 c2 c3 c4 c5 c6 c7 c8 c9 → takA [c0, c1, c2, c3, c4, c5, c6, c7, c8, c9] = numA (vY x0 x1 x2 x3 10) (vM x5 x6 10) (vD x8 x9 10) ∧ takE [c0, c1, c2, c3, c4, c5, c6, c7, c8, c9] = numE (vY x0 x1 x2 x3 10) (vM x5 x6 10) (vD x8 x9 10)) := fun f => by
    obtain ⟨p, q, r⟩ := hp.out f
    rw [p, q, r]
    exact tak_form _ (hfi.out.2 f)
  generalize takA [c0, c1, c2, c3, c4, c5, c6, c7, c8, c9] = TA at *
  generalize takE [c0, c1, c2, c3, c4, c5, c6, c7, c8, c9] = TE at *
  have i0 : ∀ h, (⟨#[c0, c1, c2, c3, c4, c5, c6, c7, c8, c9]⟩ : ByteArray)[0]'h = c0 := fun _ => rfl
  have i1 : ∀ h, (⟨#[c0, c1, c2, c3, c4, c5, c6, c7, c8, c9]⟩ : ByteArray)[1]'h = c1 := fun _ => rfl
  have i2 : ∀ h, (⟨#[c0, c1, c2, c3, c4, c5, c6, c7, c8, c9]⟩ : ByteArray)[2]'h = c2 := fun _ => rfl
  have i3 : ∀ h, (⟨#[c0, c1, c2, c3, c4, c5, c6, c7, c8, c9]⟩ : ByteArray)[3]'h = c3 := fun _ => rfl
  have i4 : ∀ h, (⟨#[c0, c1, c2, c3, c4, c5, c6, c7, c8, c9]⟩ : ByteArray)[4]'h = c4 := fun _ => rfl
  have i5 : ∀ h, (⟨#[c0, c1, c2, c3, c4, c5, c6, c7, c8, c9]⟩ : ByteArray)[5]'h = c5 := fun _ => rfl
  have i6 : ∀ h, (⟨#[c0, c1, c2, c3, c4, c5, c6, c7, c8, c9]⟩ : ByteArray)[6]'h = c6 := fun _ => rfl
  have i7 : ∀ h, (⟨#[c0, c1, c2, c3, c4, c5, c6, c7, c8, c9]⟩ : ByteArray)[7]'h = c7 := fun _ => rfl
  have i8 : ∀ h, (⟨#[c0, c1, c2, c3, c4, c5, c6, c7, c8, c9]⟩ : ByteArray)[8]'h = c8 := fun _ => rfl
  have i9 : ∀ h, (⟨#[c0, c1, c2, c3, c4, c5, c6, c7, c8, c9]⟩ : ByteArray)[9]'h = c9 := fun _ => rfl
  go_enter Tryd.func17, Tryd.ntmps17
  go_wp2
  obtain ⟨W0, b, hW0, hb, hd⟩ := Tri.start w 52
  rw [hW0, hb]
  clear hW0 hb
  replace hd := show Hid _ from hd
  go_loopw [5] (fun t wr => ∃ k : Nat, k ≤ 10 ∧ t = .int .i64 (k : Int) ∧ Hid (∀ j, j < k → okAt [c0, c1, c2, c3, c4, c5, c6, c7, c8, c9] j = true) ∧ Hid (Tri w wr b (vY x0 x1 x2 x3 k) (vM x5 x6 k) (vD x8 x9 k))) (fun t _ => (10 - RowKit.intOf t).toNat)
  case atStart => exact ⟨0, by omega, rfl, fun j hj => absurd hj (Nat.not_lt_zero j), hd⟩
  case round =>
    clear hd
    obtain ⟨k, hk, rfl, hall, hd⟩ := hrel
    have hkc : k = 0 ∨ k = 1 ∨ k = 2 ∨ k = 3 ∨ k = 4 ∨ k = 5 ∨ k = 6 ∨ k = 7 ∨ k = 8 ∨ k = 9 ∨ k = 10 := by omega
    rcases hkc with rfl | rfl | rfl | rfl | rfl | rfl | rfl | rfl | rfl | rfl | rfl
    · cases hc : isD c0
      · have hr := hno.out 0 (by omega) (by show (if (0 : Nat) = 4 ∨ (0 : Nat) = 7 then c0 == 45 else isD c0) = false; simp [hc])
        obtain ⟨rfl, rfl⟩ := hr
        by_cases k1 : (c0.toNat : Int) < 48
        · go_wp2
          go_ret2
          exact ⟨rfl, hd.out.ext⟩
        · have k2 : (57 : Int) < (c0.toNat : Int) := by
            by_cases k2 : (57 : Int) < (c0.toNat : Int)
            · exact k2
            · have : isD c0 = true := by unfold isD; simp; omega
              rw [this] at hc; cases hc
          go_wp2
          go_ret2
          exact ⟨rfl, hd.out.ext⟩
      · have q0 : wr.cell? ⟨b, 0, none⟩ = some (.int .i64 (0)) := hd.out.b0
        have q1 : wr.cell? ⟨b, 1, none⟩ = some (.int .i64 (0)) := hd.out.b1
        have q2 : wr.cell? ⟨b, 2, none⟩ = some (.int .i64 (0)) := hd.out.b2
        have g0 := hd.out.g0; have g1 := hd.out.g1; have g2 := hd.out.g2
        obtain ⟨r1, r2⟩ := isD_range hc
        have k1 : ¬ (c0.toNat : Int) < 48 := by omega
        have k2 : ¬ (57 : Int) < (c0.toNat : Int) := by omega
        have k3 := wr0.out hc
        have k5 : 0 ≤ x0 := by
          rw [← k3, IntKind.wrap_u8]; omega
        clear r1 r2
        go_wp2
        go_region
        all_goals
          go_wp2
          go_roundw
          case rel => exact ⟨1, by omega, by go_num, fun j hj => by
            by_cases e : j = 0
            · subst e
              show (if (0 : Nat) = 4 ∨ (0 : Nat) = 7 then c0 == 45 else isD c0) = true
              simp [hc]
            · exact hall.out j (by omega), (hd.out.set0 (x0)).drew 1⟩
          case measure => simp [RowKit.intOf]
    · cases hc : isD c1
      · have hr := hno.out 1 (by omega) (by show (if (1 : Nat) = 4 ∨ (1 : Nat) = 7 then c1 == 45 else isD c1) = false; simp [hc])
        obtain ⟨rfl, rfl⟩ := hr
        by_cases k1 : (c1.toNat : Int) < 48
        · go_wp2
          go_ret2
          exact ⟨rfl, hd.out.ext⟩
        · have k2 : (57 : Int) < (c1.toNat : Int) := by
            by_cases k2 : (57 : Int) < (c1.toNat : Int)
            · exact k2
            · have : isD c1 = true := by unfold isD; simp; omega
              rw [this] at hc; cases hc
          go_wp2
          go_ret2
          exact ⟨rfl, hd.out.ext⟩
      · have q0 : wr.cell? ⟨b, 0, none⟩ = some (.int .i64 (x0)) := hd.out.b0
        have q1 : wr.cell? ⟨b, 1, none⟩ = some (.int .i64 (0)) := hd.out.b1
        have q2 : wr.cell? ⟨b, 2, none⟩ = some (.int .i64 (0)) := hd.out.b2
        have g0 := hd.out.g0; have g1 := hd.out.g1; have g2 := hd.out.g2
        obtain ⟨r1, r2⟩ := isD_range hc
        have k1 : ¬ (c1.toNat : Int) < 48 := by omega
        have k2 : ¬ (57 : Int) < (c1.toNat : Int) := by omega
        have k3 := wr1.out hc
        have k5 : 0 ≤ x1 := by
          rw [← k3, IntKind.wrap_u8]; omega
        clear r1 r2
        go_wp2
        go_region
        all_goals
          go_wp2
          go_roundw
          case rel => exact ⟨2, by omega, by go_num, fun j hj => by
            by_cases e : j = 1
            · subst e
              show (if (1 : Nat) = 4 ∨ (1 : Nat) = 7 then c1 == 45 else isD c1) = true
              simp [hc]
            · exact hall.out j (by omega), (hd.out.set0 (10 * x0 + x1)).drew 1⟩
          case measure => simp [RowKit.intOf]
    · cases hc : isD c2
      · have hr := hno.out 2 (by omega) (by show (if (2 : Nat) = 4 ∨ (2 : Nat) = 7 then c2 == 45 else isD c2) = false; simp [hc])
        obtain ⟨rfl, rfl⟩ := hr
        by_cases k1 : (c2.toNat : Int) < 48
        · go_wp2
          go_ret2
          exact ⟨rfl, hd.out.ext⟩
        · have k2 : (57 : Int) < (c2.toNat : Int) := by
            by_cases k2 : (57 : Int) < (c2.toNat : Int)
            · exact k2
            · have : isD c2 = true := by unfold isD; simp; omega
              rw [this] at hc; cases hc
          go_wp2
          go_ret2
          exact ⟨rfl, hd.out.ext⟩
      · have q0 : wr.cell? ⟨b, 0, none⟩ = some (.int .i64 (10 * x0 + x1)) := hd.out.b0
        have q1 : wr.cell? ⟨b, 1, none⟩ = some (.int .i64 (0)) := hd.out.b1
        have q2 : wr.cell? ⟨b, 2, none⟩ = some (.int .i64 (0)) := hd.out.b2
        have g0 := hd.out.g0; have g1 := hd.out.g1; have g2 := hd.out.g2
        obtain ⟨r1, r2⟩ := isD_range hc
        have k1 : ¬ (c2.toNat : Int) < 48 := by omega
        have k2 : ¬ (57 : Int) < (c2.toNat : Int) := by omega
        have k3 := wr2.out hc
        have k5 : 0 ≤ x2 := by
          rw [← k3, IntKind.wrap_u8]; omega
        clear r1 r2
        go_wp2
        go_region
        all_goals
          go_wp2
          go_roundw
          case rel => exact ⟨3, by omega, by go_num, fun j hj => by
            by_cases e : j = 2
            · subst e
              show (if (2 : Nat) = 4 ∨ (2 : Nat) = 7 then c2 == 45 else isD c2) = true
              simp [hc]
            · exact hall.out j (by omega), (hd.out.set0 (10 * (10 * x0 + x1) + x2)).drew 1⟩
          case measure => simp [RowKit.intOf]
    · cases hc : isD c3
      · have hr := hno.out 3 (by omega) (by show (if (3 : Nat) = 4 ∨ (3 : Nat) = 7 then c3 == 45 else isD c3) = false; simp [hc])
        obtain ⟨rfl, rfl⟩ := hr
        by_cases k1 : (c3.toNat : Int) < 48
        · go_wp2
          go_ret2
          exact ⟨rfl, hd.out.ext⟩
        · have k2 : (57 : Int) < (c3.toNat : Int) := by
            by_cases k2 : (57 : Int) < (c3.toNat : Int)
            · exact k2
            · have : isD c3 = true := by unfold isD; simp; omega
              rw [this] at hc; cases hc
          go_wp2
          go_ret2
          exact ⟨rfl, hd.out.ext⟩
      · have q0 : wr.cell? ⟨b, 0, none⟩ = some (.int .i64 (10 * (10 * x0 + x1) + x2)) := hd.out.b0
        have q1 : wr.cell? ⟨b, 1, none⟩ = some (.int .i64 (0)) := hd.out.b1
        have q2 : wr.cell? ⟨b, 2, none⟩ = some (.int .i64 (0)) := hd.out.b2
        have g0 := hd.out.g0; have g1 := hd.out.g1; have g2 := hd.out.g2
        obtain ⟨r1, r2⟩ := isD_range hc
        have k1 : ¬ (c3.toNat : Int) < 48 := by omega
        have k2 : ¬ (57 : Int) < (c3.toNat : Int) := by omega
        have k3 := wr3.out hc
        have k5 : 0 ≤ x3 := by
          rw [← k3, IntKind.wrap_u8]; omega
        clear r1 r2
        go_wp2
        go_region
        all_goals
          go_wp2
          go_roundw
          case rel => exact ⟨4, by omega, by go_num, fun j hj => by
            by_cases e : j = 3
            · subst e
              show (if (3 : Nat) = 4 ∨ (3 : Nat) = 7 then c3 == 45 else isD c3) = true
              simp [hc]
            · exact hall.out j (by omega), (hd.out.set0 (10 * (10 * (10 * x0 + x1) + x2) + x3)).drew 1⟩
          case measure => simp [RowKit.intOf]
    · go_wp2
      go_roundw
      case rel => exact ⟨5, by omega, by go_num, fun j hj => by
        by_cases e : j = 4
        · subst e
          show (if (4 : Nat) = 4 ∨ (4 : Nat) = 7 then c4 == 45 else isD c4) = true
          simp [k4.out]
        · exact hall.out j (by omega), hd⟩
      case measure => simp [RowKit.intOf]
    · cases hc : isD c5
      · have hr := hno.out 5 (by omega) (by show (if (5 : Nat) = 4 ∨ (5 : Nat) = 7 then c5 == 45 else isD c5) = false; simp [hc])
        obtain ⟨rfl, rfl⟩ := hr
        by_cases k1 : (c5.toNat : Int) < 48
        · go_wp2
          go_ret2
          exact ⟨rfl, hd.out.ext⟩
        · have k2 : (57 : Int) < (c5.toNat : Int) := by
            by_cases k2 : (57 : Int) < (c5.toNat : Int)
            · exact k2
            · have : isD c5 = true := by unfold isD; simp; omega
              rw [this] at hc; cases hc
          go_wp2
          go_ret2
          exact ⟨rfl, hd.out.ext⟩
      · have q0 : wr.cell? ⟨b, 0, none⟩ = some (.int .i64 (10 * (10 * (10 * x0 + x1) + x2) + x3)) := hd.out.b0
        have q1 : wr.cell? ⟨b, 1, none⟩ = some (.int .i64 (0)) := hd.out.b1
        have q2 : wr.cell? ⟨b, 2, none⟩ = some (.int .i64 (0)) := hd.out.b2
        have g0 := hd.out.g0; have g1 := hd.out.g1; have g2 := hd.out.g2
        obtain ⟨r1, r2⟩ := isD_range hc
        have k1 : ¬ (c5.toNat : Int) < 48 := by omega
        have k2 : ¬ (57 : Int) < (c5.toNat : Int) := by omega
        have k3 := wr5.out hc
        have k5 : 0 ≤ x5 := by
          rw [← k3, IntKind.wrap_u8]; omega
        clear r1 r2
        go_wp2
        go_region
        all_goals
          go_wp2
          go_roundw
          case rel => exact ⟨6, by omega, by go_num, fun j hj => by
            by_cases e : j = 5
            · subst e
              show (if (5 : Nat) = 4 ∨ (5 : Nat) = 7 then c5 == 45 else isD c5) = true
              simp [hc]
            · exact hall.out j (by omega), (hd.out.set1 (x5)).drew 1⟩
          case measure => simp [RowKit.intOf]
    · cases hc : isD c6
      · have hr := hno.out 6 (by omega) (by show (if (6 : Nat) = 4 ∨ (6 : Nat) = 7 then c6 == 45 else isD c6) = false; simp [hc])
        obtain ⟨rfl, rfl⟩ := hr
        by_cases k1 : (c6.toNat : Int) < 48
        · go_wp2
          go_ret2
          exact ⟨rfl, hd.out.ext⟩
        · have k2 : (57 : Int) < (c6.toNat : Int) := by
            by_cases k2 : (57 : Int) < (c6.toNat : Int)
            · exact k2
            · have : isD c6 = true := by unfold isD; simp; omega
              rw [this] at hc; cases hc
          go_wp2
          go_ret2
          exact ⟨rfl, hd.out.ext⟩
      · have q0 : wr.cell? ⟨b, 0, none⟩ = some (.int .i64 (10 * (10 * (10 * x0 + x1) + x2) + x3)) := hd.out.b0
        have q1 : wr.cell? ⟨b, 1, none⟩ = some (.int .i64 (x5)) := hd.out.b1
        have q2 : wr.cell? ⟨b, 2, none⟩ = some (.int .i64 (0)) := hd.out.b2
        have g0 := hd.out.g0; have g1 := hd.out.g1; have g2 := hd.out.g2
        obtain ⟨r1, r2⟩ := isD_range hc
        have k1 : ¬ (c6.toNat : Int) < 48 := by omega
        have k2 : ¬ (57 : Int) < (c6.toNat : Int) := by omega
        have k3 := wr6.out hc
        have k5 : 0 ≤ x6 := by
          rw [← k3, IntKind.wrap_u8]; omega
        clear r1 r2
        go_wp2
        go_region
        all_goals
          go_wp2
          go_roundw
          case rel => exact ⟨7, by omega, by go_num, fun j hj => by
            by_cases e : j = 6
            · subst e
              show (if (6 : Nat) = 4 ∨ (6 : Nat) = 7 then c6 == 45 else isD c6) = true
              simp [hc]
            · exact hall.out j (by omega), (hd.out.set1 (10 * x5 + x6)).drew 1⟩
          case measure => simp [RowKit.intOf]
    · go_wp2
      go_roundw
      case rel => exact ⟨8, by omega, by go_num, fun j hj => by
        by_cases e : j = 7
        · subst e
          show (if (7 : Nat) = 4 ∨ (7 : Nat) = 7 then c7 == 45 else isD c7) = true
          simp [k7.out]
        · exact hall.out j (by omega), hd⟩
      case measure => simp [RowKit.intOf]
    · cases hc : isD c8
      · have hr := hno.out 8 (by omega) (by show (if (8 : Nat) = 4 ∨ (8 : Nat) = 7 then c8 == 45 else isD c8) = false; simp [hc])
        obtain ⟨rfl, rfl⟩ := hr
        by_cases k1 : (c8.toNat : Int) < 48
        · go_wp2
          go_ret2
          exact ⟨rfl, hd.out.ext⟩
        · have k2 : (57 : Int) < (c8.toNat : Int) := by
            by_cases k2 : (57 : Int) < (c8.toNat : Int)
            · exact k2
            · have : isD c8 = true := by unfold isD; simp; omega
              rw [this] at hc; cases hc
          go_wp2
          go_ret2
          exact ⟨rfl, hd.out.ext⟩
      · have q0 : wr.cell? ⟨b, 0, none⟩ = some (.int .i64 (10 * (10 * (10 * x0 + x1) + x2) + x3)) := hd.out.b0
        have q1 : wr.cell? ⟨b, 1, none⟩ = some (.int .i64 (10 * x5 + x6)) := hd.out.b1
        have q2 : wr.cell? ⟨b, 2, none⟩ = some (.int .i64 (0)) := hd.out.b2
        have g0 := hd.out.g0; have g1 := hd.out.g1; have g2 := hd.out.g2
        obtain ⟨r1, r2⟩ := isD_range hc
        have k1 : ¬ (c8.toNat : Int) < 48 := by omega
        have k2 : ¬ (57 : Int) < (c8.toNat : Int) := by omega
        have k3 := wr8.out hc
        have k5 : 0 ≤ x8 := by
          rw [← k3, IntKind.wrap_u8]; omega
        clear r1 r2
        go_wp2
        go_region
        all_goals
          go_wp2
          go_roundw
          case rel => exact ⟨9, by omega, by go_num, fun j hj => by
            by_cases e : j = 8
            · subst e
              show (if (8 : Nat) = 4 ∨ (8 : Nat) = 7 then c8 == 45 else isD c8) = true
              simp [hc]
            · exact hall.out j (by omega), (hd.out.set2 (x8)).drew 1⟩
          case measure => simp [RowKit.intOf]
    · cases hc : isD c9
      · have hr := hno.out 9 (by omega) (by show (if (9 : Nat) = 4 ∨ (9 : Nat) = 7 then c9 == 45 else isD c9) = false; simp [hc])
        obtain ⟨rfl, rfl⟩ := hr
        by_cases k1 : (c9.toNat : Int) < 48
        · go_wp2
          go_ret2
          exact ⟨rfl, hd.out.ext⟩
        · have k2 : (57 : Int) < (c9.toNat : Int) := by
            by_cases k2 : (57 : Int) < (c9.toNat : Int)
            · exact k2
            · have : isD c9 = true := by unfold isD; simp; omega
              rw [this] at hc; cases hc
          go_wp2
          go_ret2
          exact ⟨rfl, hd.out.ext⟩
      · have q0 : wr.cell? ⟨b, 0, none⟩ = some (.int .i64 (10 * (10 * (10 * x0 + x1) + x2) + x3)) := hd.out.b0
        have q1 : wr.cell? ⟨b, 1, none⟩ = some (.int .i64 (10 * x5 + x6)) := hd.out.b1
        have q2 : wr.cell? ⟨b, 2, none⟩ = some (.int .i64 (x8)) := hd.out.b2
        have g0 := hd.out.g0; have g1 := hd.out.g1; have g2 := hd.out.g2
        obtain ⟨r1, r2⟩ := isD_range hc
        have k1 : ¬ (c9.toNat : Int) < 48 := by omega
        have k2 : ¬ (57 : Int) < (c9.toNat : Int) := by omega
        have k3 := wr9.out hc
        have k5 : 0 ≤ x9 := by
          rw [← k3, IntKind.wrap_u8]; omega
        clear r1 r2
        go_wp2
        go_region
        all_goals
          go_wp2
          go_roundw
          case rel => exact ⟨10, by omega, by go_num, fun j hj => by
            by_cases e : j = 9
            · subst e
              show (if (9 : Nat) = 4 ∨ (9 : Nat) = 7 then c9 == 45 else isD c9) = true
              simp [hc]
            · exact hall.out j (by omega), (hd.out.set2 (10 * x8 + x9)).drew 1⟩
          case measure => simp [RowKit.intOf]
    · have f : Form c0 c1 c2 c3 c4 c5 c6 c7 c8 c9 := by
        have h := hall.out
        refine ⟨?_, ?_, ?_, ?_, k4.out, ?_, ?_, k7.out, ?_, ?_⟩
        · have := h 0 (by omega); simpa [okAt] using this
        · have := h 1 (by omega); simpa [okAt] using this
        · have := h 2 (by omega); simpa [okAt] using this
        · have := h 3 (by omega); simpa [okAt] using this
        · have := h 5 (by omega); simpa [okAt] using this
        · have := h 6 (by omega); simpa [okAt] using this
        · have := h 8 (by omega); simpa [okAt] using this
        · have := h 9 (by omega); simpa [okAt] using this
      obtain ⟨ta, te⟩ := hT.out f
      have q0 : wr.cell? ⟨b, 0, none⟩ = some (.int .i64 (vY x0 x1 x2 x3 10)) := hd.out.b0
      have q1 : wr.cell? ⟨b, 1, none⟩ = some (.int .i64 (vM x5 x6 10)) := hd.out.b1
      have q2 : wr.cell? ⟨b, 2, none⟩ = some (.int .i64 (vD x8 x9 10)) := hd.out.b2
      have hm : Hid (I64 (vM x5 x6 10)) := by
        show I64 (10 * x5 + x6)
        unfold I64; omega
      generalize vY x0 x1 x2 x3 10 = p at q0 ta te
      generalize vM x5 x6 10 = q at q1 ta te hm
      generalize vD x8 x9 10 = r at q2 ta te
      have hN : Hid (∀ w : World, Hid (Env w) → Calls Tryd.prog 11 #[.agg #[.int .i64 p, .int .i64 q, .int .i64 r]] w fun e w' => e = .returned (.tuple #[.int .i64 (numA p q r), .int .i64 (numE p q r)]) ∧ Ext w w') := fun w he => rNumber_c p q r w hm.out he
      generalize numA p q r = na at hN ta
      generalize numE p q r = ne at hN te
      subst na
      subst ne
      clear f
      go_wp2_with fail
      refine (hN.out _ (he.out.ext hd.out.ext)).mono ?_
      rintro e w1 ⟨rfl, hx1⟩
      have hx : Hid (Ext w w1) := hd.out.ext.trans hx1
      clear hx1
      go_wp2
      go_ret2
      exact ⟨rfl, hx.out⟩
theorem rTake_c (l : List UInt8) (w : World) (hl : l.length ≤ 1000000) (he : Hid (Env w)) :
    Calls Tryd.prog 17 #[.string ⟨l.toArray⟩] w fun e w' => e = .returned (.tuple #[.int .i64 (takA l), .int .i64 (takE l)]) ∧ Ext w w' := by
  by_cases h : l.length = 10
  · obtain ⟨c0, c1, c2, c3, c4, c5, c6, c7, c8, c9, rfl⟩ := ten h
    by_cases h4 : (c4.toNat : Int) = 45
    · by_cases h7 : (c7.toNat : Int) = 45
      · exact rTake_ten c0 c1 c2 c3 c4 c5 c6 c7 c8 c9 w h4 h7 he
      · have hf : formL [c0, c1, c2, c3, c4, c5, c6, c7, c8, c9] = false := by
          rw [← Bool.not_eq_true]; intro e; exact h7 (by rw [((form_iff c0 c1 c2 c3 c4 c5 c6 c7 c8 c9).1 e).h7]; rfl)
        rw [(tak_not _ hf).1, (tak_not _ hf).2]; exact rTake_h7 c0 c1 c2 c3 c4 c5 c6 c7 c8 c9 w h4 h7
    · have hf : formL [c0, c1, c2, c3, c4, c5, c6, c7, c8, c9] = false := by
        rw [← Bool.not_eq_true]; intro e; exact h4 (by rw [((form_iff c0 c1 c2 c3 c4 c5 c6 c7 c8 c9).1 e).h4]; rfl)
      rw [(tak_not _ hf).1, (tak_not _ hf).2]; exact rTake_h4 c0 c1 c2 c3 c4 c5 c6 c7 c8 c9 w h4
  · rw [(tak_not _ (form_not l h)).1, (tak_not _ (form_not l h)).2]; exact rTake_short l w h hl
end Go.Proofs.YtbdninnopfdnbaaDoor
