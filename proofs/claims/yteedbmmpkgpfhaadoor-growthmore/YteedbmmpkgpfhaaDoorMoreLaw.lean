/- For all ints count and round and all spans a and b, of the project's tree at the commit that COMMIT names, GrowthMore returns true and leaves its arguments as they were. -/
import Derived.Test.YteedbmmpkgpfhaaDoorFrame
import Derived.Test.YteedbmmpkgpfhaaDoorGr7
import Derived.Deep.RegionWith
namespace Go.Proofs.YteedbmmpkgpfhaaDoor.growthMore
open Go.ChangeShapes Go.WideShapes Go.ChangeAt Go.RowKit Go.Lib
set_option linter.unusedVariables false

/-- A span in its block. -/
structure Bx (W : World) (b : Nat) (x y z : Int) : Prop where
  c0 : W.cell? ⟨b, 0, none⟩ = some (.int .i64 x)
  c1 : W.cell? ⟨b, 1, none⟩ = some (.int .i64 y)
  c2 : W.cell? ⟨b, 2, none⟩ = some (.int .i64 z)
  f0 : W.frozen? ⟨b, 0, none⟩ = false
  f1 : W.frozen? ⟨b, 1, none⟩ = false
  f2 : W.frozen? ⟨b, 2, none⟩ = false
theorem Bx.on {W W' : World} {b : Nat} {x y z : Int} (h : Bx W b x y z) (hx : Ext W W') : Bx W' b x y z :=
  ⟨hx.cell_of h.c0, hx.cell_of h.c1, hx.cell_of h.c2, hx.froz_of h.c0 h.f0, hx.froz_of h.c1 h.f1, hx.froz_of h.c2 h.f2⟩
theorem two_spans (w : World) (x y z x' y' z' : Int) : ∃ W b, ((w.alloc (.cells #[.int .i64 x, .int .i64 y, .int .i64 z] 34)).alloc (.cells #[.int .i64 x', .int .i64 y', .int .i64 z'] 34)).alloc (.cells #[.int .i64 1, .int .i64 3] 3) = W ∧ w.heap.size = b ∧ Ext w W ∧ Bx W b x y z ∧ Bx W (b + 1) x' y' z' :=
  ⟨_, _, rfl, rfl, (((Ext.refl w).alloc _ _).alloc _ _).alloc _ _, ⟨by simp [go_sem], by simp [go_sem], by simp [go_sem], by simp [go_sem], by simp [go_sem], by simp [go_sem]⟩, ⟨by simp [go_sem], by simp [go_sem], by simp [go_sem], by simp [go_sem], by simp [go_sem], by simp [go_sem]⟩⟩
theorem six {w W : World} {b : Nat} {x y z x' y' z' : Int} (hx : Ext w W) (hb : w.heap.size = b) (h : Bx W b x y z) (k : Bx W (b + 1) x' y' z') (A1 A2 A3 C1 C2 C3 : Int) :
    ∃ X, (((((W.setCell ⟨b, 0, none⟩ (.int .i64 A1)).setCell ⟨b, 1, none⟩ (.int .i64 A2)).setCell ⟨b, 2, none⟩ (.int .i64 A3)).setCell ⟨b + 1, 0, none⟩ (.int .i64 C1)).setCell ⟨b + 1, 1, none⟩ (.int .i64 C2)).setCell ⟨b + 1, 2, none⟩ (.int .i64 C3) = X ∧ Ext w X ∧ Bx X b A1 A2 A3 ∧ Bx X (b + 1) C1 C2 C3 := by
  refine ⟨_, rfl, ?_, ⟨?_, ?_, ?_, ?_, ?_, ?_⟩, ⟨?_, ?_, ?_, ?_, ?_, ?_⟩⟩
  · exact (((((hx.setCell (by show _ ≤ b; omega) _).setCell (by show _ ≤ b; omega) _).setCell (by show _ ≤ b; omega) _).setCell (by show _ ≤ b + 1; omega) _).setCell (by show _ ≤ b + 1; omega) _).setCell (by show _ ≤ b + 1; omega) _
  · rw [other _ (by omega), other _ (by omega), other _ (by omega), other _ (by omega), other _ (by omega), same h.c0]
  · rw [other _ (by omega), other _ (by omega), other _ (by omega), other _ (by omega), same (v := .int .i64 A2) (by rw [other _ (by omega)]; exact h.c1)]
  · rw [other _ (by omega), other _ (by omega), other _ (by omega), same (v := .int .i64 A3) (by rw [other _ (by omega), other _ (by omega)]; exact h.c2)]
  · simp [go_sem, h.f0]
  · simp [go_sem, h.f1]
  · simp [go_sem, h.f2]
  · rw [other _ (by omega), other _ (by omega), same (v := .int .i64 C1) (by rw [other _ (by omega), other _ (by omega), other _ (by omega)]; exact k.c0)]
  · rw [other _ (by omega), same (v := .int .i64 C2) (by rw [other _ (by omega), other _ (by omega), other _ (by omega), other _ (by omega)]; exact k.c1)]
  · rw [same (v := .int .i64 C3) (by rw [other _ (by omega), other _ (by omega), other _ (by omega), other _ (by omega), other _ (by omega)]; exact k.c2)]
  · simp [go_sem, k.f0]
  · simp [go_sem, k.f1]
  · simp [go_sem, k.f2]
theorem Bx.beside {W W' : World} {b B : Nat} {x y z : Int} {v : Value} (h : Bx W b x y z) (hn : B ≠ b) (hx : Ext (W.setCell ⟨B, 2, none⟩ v) W') : Bx W' b x y z :=
  Bx.on ⟨by rw [other _ (Or.inl hn)]; exact h.c0, by rw [other _ (Or.inl hn)]; exact h.c1, by rw [other _ (Or.inl hn)]; exact h.c2, by simp [go_sem, h.f0], by simp [go_sem, h.f1], by simp [go_sem, h.f2]⟩ hx
theorem one_span (w : World) (x y z : Int) : ∃ W d, w.alloc (.cells #[.int .i64 x, .int .i64 y, .int .i64 z] 34) = W ∧ w.heap.size = d ∧ Ext w W ∧ Bx W d x y z :=
  ⟨_, _, rfl, rfl, (Ext.refl w).alloc _ _, ⟨by simp [go_sem], by simp [go_sem], by simp [go_sem], by simp [go_sem], by simp [go_sem], by simp [go_sem]⟩⟩
theorem e_bd {m P a b c : Int} (hm : m = 1 ∨ m = 3) (hP : 360 ≤ P) (a0 : 0 ≤ a) (a1 : a < 10000000000000) (b0 : 0 ≤ b) (b1 : b < 1000000000) (c0 : 0 ≤ c) (c1 : c < 3000) :
    0 ≤ a * (b * c) ∧ bq m (1000000000 * P) 0 (a * (b * c)) ≤ 1000000000000000 := by
  have hW : 0 < 1000000000 * P := by omega
  have h1 := mul_le2 b0 c0 (show b ≤ 1000000000 by omega) (show c ≤ 3000 by omega)
  have h2 := mul_le2 a0 (Int.mul_nonneg b0 c0) (show a ≤ 10000000000000 by omega) h1
  have h3 : a * (b * c) / (1000000000 * P) ≤ 100000000000000 := Int.ediv_le_of_le_mul hW (by omega)
  have h4 := (bq_near (E := a * (b * c)) (rst_zero hm hW) hW).2
  exact ⟨Int.mul_nonneg a0 (Int.mul_nonneg b0 c0), by omega⟩
/-- The three calls: a's, the greater's, nothing's. -/
theorem calls_more (m P A1 A2 A3 M1 M2 M3 : Int) (hm : m = 1 ∨ m = 3) (hP : 360 ≤ P) (hP2 : P ≤ 133590) (A10 : 0 ≤ A1) (A11 : A1 ≤ M1) (A20 : 0 ≤ A2) (A21 : A2 ≤ M2) (A30 : 0 ≤ A3) (A31 : A3 ≤ M3) (M10 : M1 < 10000000000000) (M20 : M2 < 1000000000) (M30 : M3 < 3000) :
    ∃ U V x y : Int, U ≤ V ∧
      (∀ (B : Nat) (w : World), Brr w B m (1000000000 * P) 0 → Calls Tryd.prog 12 #[.pointer (some ⟨B, 0, none⟩), .int .i64 A1, .int .i64 A2, .int .i64 A3] w fun e w' => e = .returned (.tuple #[.int .i64 U, .int .i64 0]) ∧ Ext (w.setCell ⟨B, 2, none⟩ (.int .i64 x)) w') ∧
      (∀ (B : Nat) (w : World), Brr w B m (1000000000 * P) 0 → Calls Tryd.prog 12 #[.pointer (some ⟨B, 0, none⟩), .int .i64 M1, .int .i64 M2, .int .i64 M3] w fun e w' => e = .returned (.tuple #[.int .i64 V, .int .i64 0]) ∧ Ext (w.setCell ⟨B, 2, none⟩ (.int .i64 y)) w') ∧
      (∀ (B : Nat) (w : World), Brr w B m (1000000000 * P) 0 → Calls Tryd.prog 12 #[.pointer (some ⟨B, 0, none⟩), .int .i64 0, .int .i64 A2, .int .i64 A3] w fun e w' => e = .returned (.tuple #[.int .i64 0, .int .i64 0]) ∧ Ext (w.setCell ⟨B, 2, none⟩ (.int .i64 0)) w') := by
  have hW : 0 < 1000000000 * P := by omega
  have hr := rst_zero (W := 1000000000 * P) hm hW
  have hA := e_bd (P := P) hm hP A10 (by omega) A20 (by omega) A30 (by omega)
  have hM := e_bd (P := P) (a := M1) (b := M2) (c := M3) hm hP (by omega) (by omega) (by omega) (by omega) (by omega) (by omega)
  refine ⟨bq m (1000000000 * P) 0 (A1 * (A2 * A3)), bq m (1000000000 * P) 0 (M1 * (M2 * M3)), br m (1000000000 * P) 0 (A1 * (A2 * A3)), br m (1000000000 * P) 0 (M1 * (M2 * M3)), bq_mono hr hW (mul_le2 A10 (Int.mul_nonneg A20 A30) A11 (mul_le2 A20 A30 A21 A31)), fun B w hB => ?_, fun B w hB => ?_, fun B w hB => ?_⟩
  · exact Bear_v B m _ 0 A1 A2 A3 _ _ hr hW (by omega) ⟨by omega, by omega, by omega⟩ rfl rfl hA.2 w hB
  · exact Bear_v B m _ 0 M1 M2 M3 _ _ hr hW (by omega) ⟨by omega, by omega, by omega⟩ rfl rfl hM.2 w hB
  · exact Bear_v B m _ 0 0 A2 A3 _ _ hr hW (by omega) ⟨by omega, by omega, by omega⟩ (by rw [Int.zero_mul]; exact bq_zero hr hW) (by rw [Int.zero_mul]; exact br_zero hr hW) (by decide) w hB
set_option maxRecDepth 100000 in
set_option maxHeartbeats 8000000 in

theorem walk (a0 : Int) (w0 : (Lit.int .i64 a0).wf = true) (a1 : Int) (w1 : (Lit.int .i64 a1).wf = true) (x2 y2 z2 : Int) (wx2 : (Lit.int .i64 x2).wf = true) (wy2 : (Lit.int .i64 y2).wf = true) (wz2 : (Lit.int .i64 z2).wf = true) (x3 y3 z3 : Int) (wx3 : (Lit.int .i64 x3).wf = true) (wy3 : (Lit.int .i64 y3).wf = true) (wz3 : (Lit.int .i64 z3).wf = true) (w : World) :
    Calls Tryd.prog 7 #[.int .i64 a0, .int .i64 a1, .agg #[.int .i64 x2, .int .i64 y2, .int .i64 z2], .agg #[.int .i64 x3, .int .i64 y3, .int .i64 z3]] w fun e w' => e = .returned (.bool true) ∧ Ext w w' := by
  clear w0 w1 wx2 wy2 wz2 wx3 wy3 wz3
  obtain ⟨u0, hu0⟩ : ∃ u, IntKind.u64.wrap a0 = u := ⟨_, rfl⟩
  have p0 : 0 ≤ u0 ∧ u0 < 18446744073709551616 := by rw [← hu0, IntKind.wrap_u64]; omega
  obtain ⟨r0, s0⟩ := p0
  obtain ⟨v0, hv0⟩ : ∃ v, u0 % 3 = v := ⟨_, rfl⟩
  have p0 : 0 ≤ v0 ∧ v0 < 3 := by omega
  obtain ⟨g0, l0⟩ := p0
  obtain ⟨u1, hu1⟩ : ∃ u, IntKind.u64.wrap a1 = u := ⟨_, rfl⟩
  have p1 : 0 ≤ u1 ∧ u1 < 18446744073709551616 := by rw [← hu1, IntKind.wrap_u64]; omega
  obtain ⟨r1, s1⟩ := p1
  obtain ⟨v1, hv1⟩ : ∃ v, u1 % 2 = v := ⟨_, rfl⟩
  have p1 : 0 ≤ v1 ∧ v1 < 2 := by omega
  obtain ⟨g1, l1⟩ := p1
  obtain ⟨K, hK⟩ : ∃ K, 1 + v0 = K := ⟨_, rfl⟩
  have K1 : 1 ≤ K := by omega
  have K2 : K ≤ 3 := by omega
  have hPb := pt_bd K1 K2
  obtain ⟨P, hP⟩ : ∃ P, ptA K = P := ⟨_, rfl⟩
  rw [hP] at hPb
  have P0 : 0 < P := by omega
  have P1 : P ≤ 133590 := by omega
  obtain ⟨f, g, h, hf, hg, hh, H⟩ := cut_f
  replace H := show Hid _ from H
  have hN1 : Hid (∀ w : World, Calls Tryd.prog 9 #[.int .i64 K, .int .i64 (1)] w fun e w' => ∃ B, e = .returned (.tuple #[.pointer (some ⟨B, 0, none⟩), .int .i64 0]) ∧ Born w w' B (1) (1000000000 * P) 0) := fun w => by rw [← hP]; exact New_ok K (1) w K1 K2 (by omega)
  have hN3 : Hid (∀ w : World, Calls Tryd.prog 9 #[.int .i64 K, .int .i64 (3)] w fun e w' => ∃ B, e = .returned (.tuple #[.pointer (some ⟨B, 0, none⟩), .int .i64 0]) ∧ Born w w' B (3) (1000000000 * P) 0) := fun w => by rw [← hP]; exact New_ok K (3) w K1 K2 (by omega)
  go_enter Tryd.func7, Tryd.ntmps7
  rcases (by omega : v1 = 0 ∨ v1 = 1) with h | h
  · subst h
    have hN := hN1
    clear hN1 hN3
    go_wp2_with fail
    obtain ⟨W0, b, hW0, hb0, hx, ha, hb⟩ := two_spans w x2 y2 z2 x3 y3 z3
    rw [hW0, hb0]
    replace hx : Hid (Ext w W0.drew) := hx.drew
    replace hb0 : Hid (w.heap.size = b) := hb0
    clear hW0
    have ha := ha.on (Ext.refl W0).drew
    have hb := hb.on (Ext.refl W0).drew
    obtain ⟨a0, a1, a2, af0, af1, af2⟩ := ha
    obtain ⟨b0, b1, b2, bf0, bf1, bf2⟩ := hb
    go_region_with (go_at_call 17; refine (H.out _ _ _ _).mono ?_; rintro e wk ⟨rfl, hxk⟩; replace af0 := hxk.froz_of a0 af0; replace af1 := hxk.froz_of a1 af1; replace af2 := hxk.froz_of a2 af2; replace bf0 := hxk.froz_of b0 bf0; replace bf1 := hxk.froz_of b1 bf1; replace bf2 := hxk.froz_of b2 bf2; replace a0 := hxk.cell_of a0; replace a1 := hxk.cell_of a1; replace a2 := hxk.cell_of a2; replace b0 := hxk.cell_of b0; replace b1 := hxk.cell_of b1; replace b2 := hxk.cell_of b2; replace hx : Hid (Ext w wk) := hx.out.trans hxk; clear hxk)
    all_goals
      obtain ⟨X, hX, hx5, hA5, hC5⟩ := six hx.out hb0.out ⟨a0, a1, a2, af0, af1, af2⟩ ⟨b0, b1, b2, bf0, bf1, bf2⟩ (f x2) (g y2) (h z2) (f x3) (g y3) (h z3)
      rw [hX]
      clear hX a0 a1 a2 b0 b1 b2 af0 af1 af2 bf0 bf1 bf2
      have a0 := hA5.c0; have a1 := hA5.c1; have a2 := hA5.c2; have b0 := hC5.c0; have b1 := hC5.c1; have b2 := hC5.c2
      obtain ⟨M1, hM1⟩ : ∃ v, max (f x2) (f x3) = v := ⟨_, rfl⟩
      obtain ⟨M2, hM2⟩ : ∃ v, max (g y2) (g y3) = v := ⟨_, rfl⟩
      obtain ⟨M3, hM3⟩ : ∃ v, max (h z2) (h z3) = v := ⟨_, rfl⟩
      have q1 := hf x2; have q2 := hf x3; have q3 := hg y2; have q4 := hg y3; have q5 := hh z2; have q6 := hh z3
      obtain ⟨U, V, ra, rm, hUV, HA, HM, HZ⟩ := calls_more 1 P (f x2) (g y2) (h z2) M1 M2 M3 (by omega) (by omega) (by omega) q1.1 (by omega) q3.1 (by omega) q5.1 (by omega) (by omega) (by omega) (by omega)
      replace HA := show Hid _ from HA
      replace HM := show Hid _ from HM
      replace HZ := show Hid _ from HZ
      go_wp2_with fail
      obtain ⟨X6, d, hX6, hd, hx6, hD⟩ := one_span X M1 M2 M3
      rw [hX6, hd]
      have hbd : b < X.heap.size := lt_of_cell a0
      have hA6 : Hid (Bx X6 b (f x2) (g y2) (h z2)) := hA5.on hx6
      replace hD : Hid (Bx X6 d M1 M2 M3) := hD
      replace hx : Hid (Ext w X6) := hx5.trans hx6
      have hsz := hx.out.size
      have hdd : d < X6.heap.size := hD.out.c0 |> lt_of_cell
      have hbb : b < X6.heap.size := hA6.out.c0 |> lt_of_cell
      clear hX6 hd hx6 hx5 hA5 hC5 a0 a1 a2 b0 b1 b2 hM1 hM2 hM3 q1 q2 q3 q4 q5 q6 hbd
      replace hf := show Hid _ from hf
      replace hg := show Hid _ from hg
      replace hh := show Hid _ from hh
      refine (hN.out _).mono ?_
      rintro e w5 ⟨B1, rfl, hb1⟩
      have hl1 := hb1.lo
      have hs1 := hb1.brr.lt
      replace hA6 : Hid (Bx w5 b (f x2) (g y2) (h z2)) := hA6.out.on hb1.ext
      replace hD : Hid (Bx w5 d M1 M2 M3) := hD.out.on hb1.ext
      replace hx : Hid (Ext w w5) := hx.out.trans hb1.ext
      have hB1 : Hid (Brr w5 B1 1 (1000000000 * P) 0) := hb1.brr
      clear hb1
      go_wp2_with fail
      refine (hN.out _).mono ?_
      rintro e w6 ⟨B2, rfl, hb2⟩
      have hl2 := hb2.lo
      have hs2 := hb2.brr.lt
      replace hA6 : Hid (Bx w6 b (f x2) (g y2) (h z2)) := hA6.out.on hb2.ext
      replace hD : Hid (Bx w6 d M1 M2 M3) := hD.out.on hb2.ext
      replace hx : Hid (Ext w w6) := hx.out.trans hb2.ext
      replace hB1 : Hid (Brr w6 B1 1 (1000000000 * P) 0) := hB1.out.ext hb2.ext
      have hB2 : Hid (Brr w6 B2 1 (1000000000 * P) 0) := hb2.brr
      clear hb2
      go_wp2_with fail
      refine (awake_c _).mono ?_
      rintro e w7 ⟨rfl, hx1⟩
      replace hx : Hid (Ext w w7) := hx.out.trans hx1
      replace hB1 : Hid (Brr w7 B1 1 (1000000000 * P) 0) := hB1.out.ext hx1
      replace hB2 : Hid (Brr w7 B2 1 (1000000000 * P) 0) := hB2.out.ext hx1
      have hA7 : Bx w7 b (f x2) (g y2) (h z2) := hA6.out.on hx1
      replace hD : Hid (Bx w7 d M1 M2 M3) := hD.out.on hx1
      have a0 := hA7.c0; have a1 := hA7.c1; have a2 := hA7.c2
      clear hA6 hx1
      replace hA7 : Hid (Bx w7 b (f x2) (g y2) (h z2)) := hA7
      go_wp2_with fail
      refine (HA.out _ _ hB1.out).mono ?_
      rintro e w8 ⟨rfl, hx1⟩
      replace hx : Hid (Ext w w8) := hx.out.wrote (by omega) hx1
      replace hB2 : Hid (Brr w8 B2 1 (1000000000 * P) 0) := hB2.out.beside (by omega) hx1
      have hA8 : Hid (Bx w8 b (f x2) (g y2) (h z2)) := hA7.out.beside (by omega) hx1
      have hD8 : Bx w8 d M1 M2 M3 := hD.out.beside (by omega) hx1
      clear a0 a1 a2 hA7 hD hB1 hx1
      have a0 := hD8.c0; have a1 := hD8.c1; have a2 := hD8.c2
      clear hD8
      go_wp2_with fail
      refine (HM.out _ _ hB2.out).mono ?_
      rintro e w9 ⟨rfl, hx1⟩
      replace hx : Hid (Ext w w9) := hx.out.wrote (by omega) hx1
      replace hA8 : Hid (Bx w9 b (f x2) (g y2) (h z2)) := hA8.out.beside (by omega) hx1
      clear a0 a1 a2 hB2 hx1
      go_wp2_with fail
      refine (hN.out _).mono ?_
      rintro e w10 ⟨B3, rfl, hb3⟩
      have hl3 := hb3.lo
      have hs9 := hx.out.size
      replace hx : Hid (Ext w w10) := hx.out.trans hb3.ext
      have hA9 : Bx w10 b (f x2) (g y2) (h z2) := hA8.out.on hb3.ext
      have a0 := hA9.c0; have a1 := hA9.c1; have a2 := hA9.c2
      have hB3 : Hid (Brr w10 B3 1 (1000000000 * P) 0) := hb3.brr
      clear hb3 hA9 hA8
      go_wp2_with fail
      refine (HZ.out _ _ hB3.out).mono ?_
      rintro e w11 ⟨rfl, hx1⟩
      replace hx : Hid (Ext w w11) := hx.out.wrote (by omega) hx1
      have hB4 : Brr w11 B3 1 (1000000000 * P) 0 := hB3.out.wrote hx1
      clear a0 a1 a2 hx1 hB3 HA HM HZ H hN
      go_wp2_with (go_at_call 14; refine (Rest_c _ _ _ _ _ hB4).mono ?_; rintro e w' ⟨rfl, rfl⟩)
      go_ret
      exact ⟨rfl, hx.out⟩
  · subst h
    have hN := hN3
    clear hN1 hN3
    go_wp2_with fail
    obtain ⟨W0, b, hW0, hb0, hx, ha, hb⟩ := two_spans w x2 y2 z2 x3 y3 z3
    rw [hW0, hb0]
    replace hx : Hid (Ext w W0.drew) := hx.drew
    replace hb0 : Hid (w.heap.size = b) := hb0
    clear hW0
    have ha := ha.on (Ext.refl W0).drew
    have hb := hb.on (Ext.refl W0).drew
    obtain ⟨a0, a1, a2, af0, af1, af2⟩ := ha
    obtain ⟨b0, b1, b2, bf0, bf1, bf2⟩ := hb
    go_region_with (go_at_call 17; refine (H.out _ _ _ _).mono ?_; rintro e wk ⟨rfl, hxk⟩; replace af0 := hxk.froz_of a0 af0; replace af1 := hxk.froz_of a1 af1; replace af2 := hxk.froz_of a2 af2; replace bf0 := hxk.froz_of b0 bf0; replace bf1 := hxk.froz_of b1 bf1; replace bf2 := hxk.froz_of b2 bf2; replace a0 := hxk.cell_of a0; replace a1 := hxk.cell_of a1; replace a2 := hxk.cell_of a2; replace b0 := hxk.cell_of b0; replace b1 := hxk.cell_of b1; replace b2 := hxk.cell_of b2; replace hx : Hid (Ext w wk) := hx.out.trans hxk; clear hxk)
    all_goals
      obtain ⟨X, hX, hx5, hA5, hC5⟩ := six hx.out hb0.out ⟨a0, a1, a2, af0, af1, af2⟩ ⟨b0, b1, b2, bf0, bf1, bf2⟩ (f x2) (g y2) (h z2) (f x3) (g y3) (h z3)
      rw [hX]
      clear hX a0 a1 a2 b0 b1 b2 af0 af1 af2 bf0 bf1 bf2
      have a0 := hA5.c0; have a1 := hA5.c1; have a2 := hA5.c2; have b0 := hC5.c0; have b1 := hC5.c1; have b2 := hC5.c2
      obtain ⟨M1, hM1⟩ : ∃ v, max (f x2) (f x3) = v := ⟨_, rfl⟩
      obtain ⟨M2, hM2⟩ : ∃ v, max (g y2) (g y3) = v := ⟨_, rfl⟩
      obtain ⟨M3, hM3⟩ : ∃ v, max (h z2) (h z3) = v := ⟨_, rfl⟩
      have q1 := hf x2; have q2 := hf x3; have q3 := hg y2; have q4 := hg y3; have q5 := hh z2; have q6 := hh z3
      obtain ⟨U, V, ra, rm, hUV, HA, HM, HZ⟩ := calls_more 3 P (f x2) (g y2) (h z2) M1 M2 M3 (by omega) (by omega) (by omega) q1.1 (by omega) q3.1 (by omega) q5.1 (by omega) (by omega) (by omega) (by omega)
      replace HA := show Hid _ from HA
      replace HM := show Hid _ from HM
      replace HZ := show Hid _ from HZ
      go_wp2_with fail
      obtain ⟨X6, d, hX6, hd, hx6, hD⟩ := one_span X M1 M2 M3
      rw [hX6, hd]
      have hbd : b < X.heap.size := lt_of_cell a0
      have hA6 : Hid (Bx X6 b (f x2) (g y2) (h z2)) := hA5.on hx6
      replace hD : Hid (Bx X6 d M1 M2 M3) := hD
      replace hx : Hid (Ext w X6) := hx5.trans hx6
      have hsz := hx.out.size
      have hdd : d < X6.heap.size := hD.out.c0 |> lt_of_cell
      have hbb : b < X6.heap.size := hA6.out.c0 |> lt_of_cell
      clear hX6 hd hx6 hx5 hA5 hC5 a0 a1 a2 b0 b1 b2 hM1 hM2 hM3 q1 q2 q3 q4 q5 q6 hbd
      replace hf := show Hid _ from hf
      replace hg := show Hid _ from hg
      replace hh := show Hid _ from hh
      refine (hN.out _).mono ?_
      rintro e w5 ⟨B1, rfl, hb1⟩
      have hl1 := hb1.lo
      have hs1 := hb1.brr.lt
      replace hA6 : Hid (Bx w5 b (f x2) (g y2) (h z2)) := hA6.out.on hb1.ext
      replace hD : Hid (Bx w5 d M1 M2 M3) := hD.out.on hb1.ext
      replace hx : Hid (Ext w w5) := hx.out.trans hb1.ext
      have hB1 : Hid (Brr w5 B1 3 (1000000000 * P) 0) := hb1.brr
      clear hb1
      go_wp2_with fail
      refine (hN.out _).mono ?_
      rintro e w6 ⟨B2, rfl, hb2⟩
      have hl2 := hb2.lo
      have hs2 := hb2.brr.lt
      replace hA6 : Hid (Bx w6 b (f x2) (g y2) (h z2)) := hA6.out.on hb2.ext
      replace hD : Hid (Bx w6 d M1 M2 M3) := hD.out.on hb2.ext
      replace hx : Hid (Ext w w6) := hx.out.trans hb2.ext
      replace hB1 : Hid (Brr w6 B1 3 (1000000000 * P) 0) := hB1.out.ext hb2.ext
      have hB2 : Hid (Brr w6 B2 3 (1000000000 * P) 0) := hb2.brr
      clear hb2
      go_wp2_with fail
      refine (awake_c _).mono ?_
      rintro e w7 ⟨rfl, hx1⟩
      replace hx : Hid (Ext w w7) := hx.out.trans hx1
      replace hB1 : Hid (Brr w7 B1 3 (1000000000 * P) 0) := hB1.out.ext hx1
      replace hB2 : Hid (Brr w7 B2 3 (1000000000 * P) 0) := hB2.out.ext hx1
      have hA7 : Bx w7 b (f x2) (g y2) (h z2) := hA6.out.on hx1
      replace hD : Hid (Bx w7 d M1 M2 M3) := hD.out.on hx1
      have a0 := hA7.c0; have a1 := hA7.c1; have a2 := hA7.c2
      clear hA6 hx1
      replace hA7 : Hid (Bx w7 b (f x2) (g y2) (h z2)) := hA7
      go_wp2_with fail
      refine (HA.out _ _ hB1.out).mono ?_
      rintro e w8 ⟨rfl, hx1⟩
      replace hx : Hid (Ext w w8) := hx.out.wrote (by omega) hx1
      replace hB2 : Hid (Brr w8 B2 3 (1000000000 * P) 0) := hB2.out.beside (by omega) hx1
      have hA8 : Hid (Bx w8 b (f x2) (g y2) (h z2)) := hA7.out.beside (by omega) hx1
      have hD8 : Bx w8 d M1 M2 M3 := hD.out.beside (by omega) hx1
      clear a0 a1 a2 hA7 hD hB1 hx1
      have a0 := hD8.c0; have a1 := hD8.c1; have a2 := hD8.c2
      clear hD8
      go_wp2_with fail
      refine (HM.out _ _ hB2.out).mono ?_
      rintro e w9 ⟨rfl, hx1⟩
      replace hx : Hid (Ext w w9) := hx.out.wrote (by omega) hx1
      replace hA8 : Hid (Bx w9 b (f x2) (g y2) (h z2)) := hA8.out.beside (by omega) hx1
      clear a0 a1 a2 hB2 hx1
      go_wp2_with fail
      refine (hN.out _).mono ?_
      rintro e w10 ⟨B3, rfl, hb3⟩
      have hl3 := hb3.lo
      have hs9 := hx.out.size
      replace hx : Hid (Ext w w10) := hx.out.trans hb3.ext
      have hA9 : Bx w10 b (f x2) (g y2) (h z2) := hA8.out.on hb3.ext
      have a0 := hA9.c0; have a1 := hA9.c1; have a2 := hA9.c2
      have hB3 : Hid (Brr w10 B3 3 (1000000000 * P) 0) := hb3.brr
      clear hb3 hA9 hA8
      go_wp2_with fail
      refine (HZ.out _ _ hB3.out).mono ?_
      rintro e w11 ⟨rfl, hx1⟩
      replace hx : Hid (Ext w w11) := hx.out.wrote (by omega) hx1
      have hB4 : Brr w11 B3 3 (1000000000 * P) 0 := hB3.out.wrote hx1
      clear a0 a1 a2 hx1 hB3 HA HM HZ H hN
      go_wp2_with (go_at_call 14; refine (Rest_c _ _ _ _ _ hB4).mono ?_; rintro e w' ⟨rfl, rfl⟩)
      go_ret
      exact ⟨rfl, hx.out⟩

set_option maxRecDepth 100000 in
theorem lifted (os : Os) (started : os.Started) (H : Type) (enc : TypeId × Value → H) :
    ReturnsInHanded {} Tryd.checked os 7 .any (fun w args => (Rows.growthMoreSpec.pre enc Tryd.prog Tryd.f7 [] false w args ∧ laidMetH Tryd.prog laid w) ∧ sizedMet enc Tryd.prog Tryd.f7 (OpenSpec.ofChange Rows.growthMoreSpec) false w args)
      (Rows.growthMoreSpec.post enc Tryd.prog Tryd.f7 false true false false) := by
  refine wrap started (by kernel_rfl) Tryd.func7
    (ChangeSpec.witness_shaped (enc := enc) (C := Tryd.checked) (os := os) (X := fun w _ => laidMetH Tryd.prog laid w) false (World.laidAll Tryd.prog os laid) #[.int .i64 0, .int .i64 0, .agg #[.int .i64 0, .int .i64 0, .int .i64 0], .agg #[.int .i64 0, .int .i64 0, .int .i64 0]] 8 (World.laidAll_os _ _ _)
      (World.shaped_of_ZipB (by kernel_rfl) (by kernel_rfl)) (by kernel_rfl) (by kernel_rfl) (by kernel_rfl)
      (by rw [MakeChecks.laidMetH_plain _ _ _ (by kernel_rfl)]; exact laidMet_laidAll _ (by kernel_rfl) (by kernel_rfl))) ?_
  intro W base args ds gs before hval0 hW hE
  have hval : ∀ (j : Nat) t v, Tryd.f7.params[j]? = some t → args[j]? = some v → Value.okWide Tryd.prog W .any base t v := hval0
  have hW' := hW
  obtain ⟨p, q, hA0, hV, rfl, _, _⟩ := hW
  have hA : DataW.TrodAll enc Tryd.prog W 0 (fun _ => true) true Tryd.f7.params.toList args.toList ds p := hA0
  rw [Tryd.params7] at hA hval
  obtain ⟨v0, vs0, d0, ds0, p0, q0, hargs, rfl, rfl, h0, r0⟩ := trodAll_cons hA
  obtain ⟨v1, vs1, d1, ds1, p1, q1, rfl, rfl, rfl, h1, r1⟩ := trodAll_cons r0
  obtain ⟨v2, vs2, d2, ds2, p2, q2, rfl, rfl, rfl, h2, r2⟩ := trodAll_cons r1
  obtain ⟨v3, vs3, d3, ds3, p3, q3, rfl, rfl, rfl, h3, r3⟩ := trodAll_cons r2
  obtain ⟨rfl, rfl, rfl⟩ := trodAll_nil r3
  obtain rfl : args = #[v0, v1, v2, v3] := by cases args; simp_all
  obtain ⟨rfl, rfl⟩ := trodVars_none hV
  obtain ⟨a0, rfl, rfl, rfl, w0⟩ := open_int Tryd.underlying3 (hval 0 3 v0 rfl rfl) h0
  obtain ⟨a1, rfl, rfl, rfl, w1⟩ := open_int Tryd.underlying3 (hval 1 3 v1 rfl rfl) h1
  obtain ⟨x2, y2, z2, rfl, rfl, rfl, wx2, wy2, wz2⟩ := open_span (hval 2 34 v2 rfl rfl) h2
  obtain ⟨x3, y3, z3, rfl, rfl, rfl, wx3, wy3, wz3⟩ := open_span (hval 3 34 v3 rfl rfl) h3
  clear hA0 hval0
  simp only [List.append_nil] at hW'
  refine (walk a0 w0 a1 w1 x2 y2 z2 wx2 wy2 wz2 x3 y3 z3 wx3 wy3 wz3 W).mono fun e W' ⟨he, hb⟩ => ?_
  subst he
  exact ⟨_, rfl, _, _, _, [], _, [], hW', (trodAll_cons_mk (shut_bool Tryd.underlying4 _) trodAll_mk0), (trodAll_cons_mk (shut_int Tryd.underlying3 w0) (trodAll_cons_mk (shut_int Tryd.underlying3 w1) (trodAll_cons_mk (shut_span wx2 wy2 wz2) (trodAll_cons_mk (shut_span wx3 wy3 wz3) trodAll_mk0)))), rfl, hb.below.frame _, fun h => by cases h⟩

theorem over : Rows.growthMoreRow.holds Tryd.pinned (OpenSpec.ofChange Rows.growthMoreSpec) :=
  OpenClaim.holds_of_wide 7 Tryd.f7 rfl rfl rfl rfl rfl rfl rfl ⟨rfl, rfl, rfl, rfl, rfl⟩ rfl rfl rfl rfl rfl (by kernel_rfl) Tryd.func7 (by kernel_rfl)
    (of_decide_eq_true (by kernel_rfl)) (by unfold Func.isWrapper; first | (rw [if_pos (by decide +kernel)]; kernel_rfl) | (rw [if_neg (by decide +kernel)]; exact ⟨rfl, rfl⟩))
    (fun os started H enc _ => lifted os started H enc)
end Go.Proofs.YteedbmmpkgpfhaaDoor.growthMore
namespace Go.Proofs.YteedbmmpkgpfhaaDoor
theorem growthMore_holds : Rows.GrowthMoreCardSaid :=
  Claim7.holds_tied_plain_at .later [] [.data] true (true, "225b0824fabe58f814383c228e1f1ee1b73c46497dda64b3ca6af21c7fd91e33") true growthMore.over (fun _ h => by cases h) (by kernel_rfl) (fun _ h => by cases h) growthMore_row_tie rfl ⟨rfl, rfl⟩ (by kernel_rfl) rfl
    (fun f fn hf hfn => by
      obtain rfl : f = 7 := Option.some.inj ((show Tryd.prog.funcNamed "quittance/quittancelaw12.GrowthMore" = some 7 by kernel_rfl).symm.trans hf) |>.symm
      obtain rfl : fn = Tryd.f7 := (Option.some.inj (Tryd.func7.symm.trans hfn)).symm
      exact ⟨by kernel_rfl, fun j t ht => by
        rw [Tryd.params7] at ht
        have hm : t ∈ [3, 3, 34, 34] := by simpa using Array.mem_of_getElem? ht
        have hall : ([3, 3, 34, 34].all fun u => !Tryd.prog.wantsStandIn u) = true := by kernel_rfl
        exact (show Tryd.prog.wantsStandIn t = false by simpa using List.all_eq_true.1 hall t hm)⟩)
    (by kernel_rfl)
#print axioms growthMore_holds
end Go.Proofs.YteedbmmpkgpfhaaDoor
