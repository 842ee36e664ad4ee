/- For all ints count and round and every list of spans, of the project's tree at the commit that COMMIT names, GrowthRest returns true and leaves its arguments as they were. -/
import Derived.Test.YteedbmmpkgpfhaaDoorFrame
import Derived.Test.YteedbmmpkgpfhaaDoorGr7
import Derived.Deep.RegionHeld3
namespace Go.Proofs.YteedbmmpkgpfhaaDoor.growthRest
open Go.ChangeShapes Go.WideShapes Go.ChangeAt Go.RowKit Go.Lib
set_option linter.unusedVariables false

/-- A span in its block. -/
structure Bx (W : World) (b : Nat) (x y z : Int) : Prop where
  c0 : W.cell? ⟨b, 0, none⟩ = some (.int .i64 x)
  c1 : W.cell? ⟨b, 1, none⟩ = some (.int .i64 y)
  c2 : W.cell? ⟨b, 2, none⟩ = some (.int .i64 z)
  f0 : W.frozen? ⟨b, 0, none⟩ = false
  f1 : W.frozen? ⟨b, 1, none⟩ = false
  f2 : W.frozen? ⟨b, 2, none⟩ = false
theorem Bx.on {W W' : World} {b : Nat} {x y z : Int} (h : Bx W b x y z) (hx : Ext W W') : Bx W' b x y z :=
  ⟨hx.cell_of h.c0, hx.cell_of h.c1, hx.cell_of h.c2, hx.froz_of h.c0 h.f0, hx.froz_of h.c1 h.f1, hx.froz_of h.c2 h.f2⟩
theorem Bx.beside {W W' : World} {b B : Nat} {x y z : Int} {v : Value} (h : Bx W b x y z) (hn : B ≠ b) (hx : Ext (W.setCell ⟨B, 2, none⟩ v) W') : Bx W' b x y z :=
  Bx.on ⟨by rw [other _ (Or.inl hn)]; exact h.c0, by rw [other _ (Or.inl hn)]; exact h.c1, by rw [other _ (Or.inl hn)]; exact h.c2, by simp [go_sem, h.f0], by simp [go_sem, h.f1], by simp [go_sem, h.f2]⟩ hx
theorem one_spanD (w : World) (x y z : Int) : ∃ W d, (w.alloc (.cells #[.int .i64 x, .int .i64 y, .int .i64 z] 34)).drew = W ∧ w.heap.size = d ∧ Ext w W ∧ Bx W d x y z :=
  ⟨_, _, rfl, rfl, ((Ext.refl w).alloc _ _).drew, Bx.on (W := w.alloc (.cells #[.int .i64 x, .int .i64 y, .int .i64 z] 34)) ⟨by simp [go_sem], by simp [go_sem], by simp [go_sem], by simp [go_sem], by simp [go_sem], by simp [go_sem]⟩ (Ext.refl _).drew⟩
theorem Slt_any {w : World} {v : Value} {l : List (Int × Int × Int)} (h : Slt w v l) : ∃ a c, v = .slice a l.length c ∧ (0 < l.length → ∃ b off, a = some ⟨b, off, none⟩ ∧ ∀ (k : Nat) (x y z : Int), l[k]? = some (x, y, z) → w.cell? ⟨b, off + k * 3, none⟩ = some (.int .i64 x) ∧ w.cell? ⟨b, off + k * 3 + 1, none⟩ = some (.int .i64 y) ∧ w.cell? ⟨b, off + k * 3 + 2, none⟩ = some (.int .i64 z)) := by
  rcases h with ⟨a, c, rfl, rfl⟩ | ⟨b, off, c, rfl, hc⟩
  · exact ⟨a, c, rfl, fun h => absurd h (Nat.lt_irrefl 0)⟩
  · exact ⟨_, c, rfl, fun _ => ⟨b, off, rfl, hc⟩⟩
/-- What is asked bears little, and not too much. -/
theorem re_bd {m P r E : Int} (hr : Rst m (1000000000 * P) r) (hP : 360 ≤ P) (E0 : 0 ≤ E) (E1 : E ≤ 4000000000000) : 0 ≤ bq m (1000000000 * P) r E ∧ bq m (1000000000 * P) r E ≤ 1000000000000 := by
  have hW : 0 < 1000000000 * P := by omega
  have h3 : E / (1000000000 * P) ≤ 4000000000 := Int.ediv_le_of_le_mul hW (by omega)
  have h4 := (bq_near (E := E) hr hW).2
  exact ⟨bq_nn hr hW E0, by omega⟩
theorem re_E {a b c : Int} (a0 : 0 ≤ a) (a1 : a < 100000) (b0 : 0 ≤ b) (b1 : b < 100000) (c0 : 0 ≤ c) (c1 : c < 400) : 0 ≤ a * b ∧ a * b ≤ 10000000000 ∧ 0 ≤ a * b * c ∧ a * b * c ≤ 4000000000000 ∧ a * (b * c) = a * b * c := by
  have h1 := mul_le2 a0 b0 (show a ≤ 100000 by omega) (show b ≤ 100000 by omega)
  have h0 := Int.mul_nonneg a0 b0
  have h2 := mul_le2 h0 c0 h1 (show c ≤ 400 by omega)
  exact ⟨h0, by omega, Int.mul_nonneg h0 c0, by omega, by rw [Int.mul_assoc]⟩
/-- The rest, out of all that was exact and all that was borne. -/
theorem re_rest {m P X q : Int} (hm : m = 1 ∨ m = 3) (hP : 360 ≤ P) (hq : bq m (1000000000 * P) 0 X = q) : br m (1000000000 * P) 0 X = X - q * (1000000000 * P) := by
  unfold br
  rw [hq, Int.mul_comm]; omega
set_option maxRecDepth 100000 in
set_option maxHeartbeats 8000000 in

theorem walk (a0 : Int) (w0 : (Lit.int .i64 a0).wf = true) (a1 : Int) (w1 : (Lit.int .i64 a1).wf = true) (v2 : Value) (l2 : List (Int × Int × Int)) (n2 : l2.length ≤ maxLen) (b2 : ∀ x ∈ l2, J64 x.1 ∧ J64 x.2.1 ∧ J64 x.2.2) (w : World) (s2 : Slt w v2 l2) :
    Calls Tryd.prog 5 #[.int .i64 a0, .int .i64 a1, v2] w fun e w' => e = .returned (.bool true) ∧ Ext w w' := by
  clear w0 w1
  obtain ⟨u0, hu0⟩ : ∃ u, IntKind.u64.wrap a0 = u := ⟨_, rfl⟩
  have p0 : 0 ≤ u0 ∧ u0 < 18446744073709551616 := by rw [← hu0, IntKind.wrap_u64]; omega
  obtain ⟨r0, s0⟩ := p0
  obtain ⟨v0, hv0⟩ : ∃ v, u0 % 3 = v := ⟨_, rfl⟩
  have p0 : 0 ≤ v0 ∧ v0 < 3 := by omega
  obtain ⟨g0, l0⟩ := p0
  obtain ⟨u1, hu1⟩ : ∃ u, IntKind.u64.wrap a1 = u := ⟨_, rfl⟩
  have p1 : 0 ≤ u1 ∧ u1 < 18446744073709551616 := by rw [← hu1, IntKind.wrap_u64]; omega
  obtain ⟨r1, s1⟩ := p1
  obtain ⟨v1, hv1⟩ : ∃ v, u1 % 2 = v := ⟨_, rfl⟩
  have p1 : 0 ≤ v1 ∧ v1 < 2 := by omega
  obtain ⟨g1, l1⟩ := p1
  obtain ⟨K, hK⟩ : ∃ K, 1 + v0 = K := ⟨_, rfl⟩
  have K1 : 1 ≤ K := by omega
  have K2 : K ≤ 3 := by omega
  have hPb := pt_bd K1 K2
  obtain ⟨P, hP⟩ : ∃ P, ptA K = P := ⟨_, rfl⟩
  rw [hP] at hPb
  have P0 : 0 < P := by omega
  have P1 : P ≤ 133590 := by omega
  obtain ⟨sa, sc, rfl, hcell⟩ := Slt_any s2
  clear s2
  replace hcell := show Hid _ from hcell
  obtain ⟨N, hlen⟩ : ∃ N, l2.length = N := ⟨_, rfl⟩
  rw [hlen]
  rw [hlen] at hcell n2
  replace hlen := show Hid _ from hlen
  replace b2 := show Hid _ from b2
  have hW : 0 < 1000000000 * P := by omega
  rcases (by omega : v1 = 0 ∨ v1 = 1) with h | h
  · subst h
    have hr0 := rst_zero (m := 1) (W := 1000000000 * P) (by omega) hW
    have hN : Hid (∀ w : World, Calls Tryd.prog 9 #[.int .i64 K, .int .i64 (1)] w fun e w' => ∃ B, e = .returned (.tuple #[.pointer (some ⟨B, 0, none⟩), .int .i64 0]) ∧ Born w w' B (1) (1000000000 * P) 0) := fun w => by rw [← hP]; exact New_ok K (1) w K1 K2 (by omega)
    have hR : Hid (∀ w : World, Calls Tryd.prog 10 #[.int .i64 K, .int .i64 (1)] w fun e w' => ∃ C, e = .returned (.tuple #[.pointer (some ⟨C, 0, none⟩), .int .i64 0]) ∧ Rbr w' C P (decide (1 = (1 : Int))) 0 ∧ w.heap.size ≤ C ∧ Ext w w') := fun w => by rw [← hP]; exact rNew_ok K (1) w K1 K2 (by omega)
    go_enter Tryd.func5, Tryd.ntmps5
    go_wp2_with fail
    refine (hN.out _).mono ?_
    rintro e w1 ⟨B, rfl, hb⟩
    have hx : Hid (Ext w w1) := Ext.trans (by repeat (first | exact Ext.refl _ | apply Ext.alloc)) hb.ext
    have hlo1 : w.heap.size ≤ B := by have := hb.lo; simp at this; omega
    have hB : Hid (Brr w1 B 1 (1000000000 * P) 0) := hb.brr
    clear hb
    go_wp2_with fail
    refine (hR.out _).mono ?_
    rintro e w2 ⟨C, rfl, hc, hcl, hx1⟩
    replace hx : Hid (Ext w w2) := hx.out.trans hx1
    replace hB : Hid (Brr w2 B 1 (1000000000 * P) 0) := hB.out.ext hx1
    replace hc : Hid (Rbr w2 C P (decide (1 = (1 : Int))) 0) := hc
    clear hx1
    go_wp2_with fail
    refine (awake_c _).mono ?_
    rintro e w3 ⟨rfl, hx1⟩
    replace hx : Hid (Ext w w3) := hx.out.trans hx1
    replace hB : Hid (Brr w3 B 1 (1000000000 * P) 0) := hB.out.ext hx1
    have hc3 : Rbr w3 C P (decide (1 = (1 : Int))) 0 := hc.out.ext hx1
    clear hx1 hc
    go_wp2_with fail
    refine (Whole_c C P 0 _ _ hc3 P0 P1).mono ?_
    rintro e w4 ⟨rfl, rfl⟩
    clear hc3 hN hR
    go_wp2_with fail
    go_loopw [12, 13, 14] (fun s q i wr => ∃ (k : Nat) (X Q : Int), i = .int .i64 k ∧ s = .int .i64 X ∧ q = .int .i64 Q ∧ k ≤ N ∧ k ≤ 20 ∧ 0 ≤ X ∧ X ≤ 4000000000000 * k ∧ 0 ≤ Q ∧ Q ≤ 1000000000000 * k ∧ Hid (bq 1 (1000000000 * P) 0 X = Q) ∧ Hid (Brr wr B 1 (1000000000 * P) (br 1 (1000000000 * P) 0 X)) ∧ Hid (Ext w wr)) (fun _ _ i _ => 20 - (RowKit.intOf i).toNat)
    case atStart => exact ⟨0, 0, 0, rfl, rfl, rfl, by omega, by omega, by omega, by omega, by omega, by omega, bq_zero hr0 hW, (by have := hB.out; show Brr _ _ _ _ _; rw [br_zero hr0 hW]; exact this), hx⟩
    case round =>
      clear hx hB
      obtain ⟨k, X, Q, rfl, rfl, rfl, hkl, hk20, X0, X1, Q0, Q1, hQ, hB, hx⟩ := hrel
      by_cases hkN : k < N
      · by_cases hk3 : k < 20
        · obtain ⟨b, off, rfl, hc⟩ := hcell.out (by omega)
          obtain ⟨⟨x, y, z⟩, hxk⟩ : ∃ x, l2[k]? = some x := ⟨_, List.getElem?_eq_getElem (by rw [hlen.out]; exact hkN)⟩
          have kc := hx.out.cell_of (hc k x y z hxk).1
          have kd := hx.out.cell_of (hc k x y z hxk).2.1
          have ke := hx.out.cell_of (hc k x y z hxk).2.2
          obtain ⟨ux, hux⟩ : ∃ u, IntKind.u64.wrap x = u := ⟨_, rfl⟩
          have px : 0 ≤ ux ∧ ux < 18446744073709551616 := by rw [← hux, IntKind.wrap_u64]; omega
          obtain ⟨rx, sx⟩ := px
          obtain ⟨vx, hvx⟩ : ∃ v, ux % 100000 = v := ⟨_, rfl⟩
          have px : 0 ≤ vx ∧ vx < 100000 := by omega
          obtain ⟨gx, lx⟩ := px
          obtain ⟨uy, huy⟩ : ∃ u, IntKind.u64.wrap y = u := ⟨_, rfl⟩
          have py : 0 ≤ uy ∧ uy < 18446744073709551616 := by rw [← huy, IntKind.wrap_u64]; omega
          obtain ⟨ry, sy⟩ := py
          obtain ⟨vy, hvy⟩ : ∃ v, uy % 100000 = v := ⟨_, rfl⟩
          have py : 0 ≤ vy ∧ vy < 100000 := by omega
          obtain ⟨gy, ly⟩ := py
          obtain ⟨uz, huz⟩ : ∃ u, IntKind.u64.wrap z = u := ⟨_, rfl⟩
          have pz : 0 ≤ uz ∧ uz < 18446744073709551616 := by rw [← huz, IntKind.wrap_u64]; omega
          obtain ⟨rz, sz⟩ := pz
          obtain ⟨vz, hvz⟩ : ∃ v, uz % 400 = v := ⟨_, rfl⟩
          have pz : 0 ≤ vz ∧ vz < 400 := by omega
          obtain ⟨gz, lz⟩ := pz
          clear hc hxk
          go_wp2_with fail
          have hbl : b < wr.heap.size := lt_of_cell kc
          go_region_held3 (fun W => b < W.heap.size ∧ W.cell? ⟨b, off + k * 3, none⟩ = some (.int .i64 x) ∧ W.cell? ⟨b, off + k * 3 + 1, none⟩ = some (.int .i64 y) ∧ W.cell? ⟨b, off + k * 3 + 2, none⟩ = some (.int .i64 z)) (first | exact ⟨hbl, kc, kd, ke⟩ | exact ⟨by simp; omega, ((Ext.refl _).alloc _ _).cell_of kc, ((Ext.refl _).alloc _ _).cell_of kd, ((Ext.refl _).alloc _ _).cell_of ke⟩) (fail)
          go_wp2_with fail
          obtain ⟨W5, d, hW5, hd, hx5, hD⟩ := one_spanD wr vx vy vz
          rw [hW5, hd]
          have hBd : B < d := by rw [← hd]; exact hB.out.lt
          have hdl : d < W5.heap.size := lt_of_cell hD.c0
          have a0 := hD.c0; have a1 := hD.c1; have a2 := hD.c2
          clear kc kd ke hcell hW5 hd
          obtain ⟨q0, q1, q2, q3, q4⟩ := re_E gx lx gy ly gz lz
          obtain ⟨p1, hp1⟩ : ∃ p1, vx * vy = p1 := ⟨_, rfl⟩
          rw [hp1] at q0 q1 q2 q3 q4
          obtain ⟨Y, hY⟩ : ∃ Y, p1 * vz = Y := ⟨_, rfl⟩
          rw [hY] at q2 q3 q4
          have hrX := br_rst (E := X) hr0 hW
          have e1 := bq_add (E := X) (F := Y) hr0 hW
          have e2 := br_add (E := X) (F := Y) hr0 hW
          have e3 := re_bd (E := Y) hrX (by omega) q2 q3
          obtain ⟨V, hV⟩ : ∃ V, bq 1 (1000000000 * P) (br 1 (1000000000 * P) 0 X) Y = V := ⟨_, rfl⟩
          obtain ⟨R, hR⟩ : ∃ R, br 1 (1000000000 * P) (br 1 (1000000000 * P) 0 X) Y = R := ⟨_, rfl⟩
          rw [hV, hQ.out] at e1
          rw [hR] at e2
          rw [hV] at e3
          have e4 := re_rest (P := P) (m := 1) (by omega) (by omega) e1
          rw [e2] at e4
          have hR1 := br_rst (E := Y) hrX hW
          rw [hR] at hR1
          obtain ⟨T, hT⟩ : ∃ T, (Q + V) * (1000000000 * P) = T := ⟨_, rfl⟩
          rw [hT] at e4
          have hcall := Bear_v B 1 _ _ vx vy vz V R hrX hW (by omega) ⟨by omega, by omega, by omega⟩ (by rw [q4]; exact hV) (by rw [q4]; exact hR) (by omega) W5 (hB.out.ext hx5)
          have hne : (R != X + Y - T) = false := by rw [e4]; simp
          obtain ⟨e31, e32⟩ := e3
          have hRl : -(500000000 * P) ≤ R ∧ R < 500000000 * P := by unfold Rst at hR1; omega
          obtain ⟨hR5, hR6⟩ := hRl
          have hz2 : 1000000000 * P / 2 = 500000000 * P := by omega
          have hz1 : wrap64 (-(1000000000 * P).tdiv 2) = -(500000000 * P) := by
            rw [Int.tdiv_eq_ediv_of_nonneg (by omega), hz2]
            unfold wrap64; omega
          clear hV hR q4
          refine hcall.mono ?_
          rintro e w6 ⟨rfl, hx1⟩
          replace hx : Hid (Ext w w6) := (hx.out.trans hx5).wrote hlo1 hx1
          have hD6 : Bx w6 d vx vy vz := hD.beside (by omega) hx1
          have hB6 : Brr w6 B 1 (1000000000 * P) R := (hB.out.ext hx5).wrote hx1
          clear a0 a1 a2 hx1 hx5 hcall hB hD
          have a0 := hD6.c0; have a1 := hD6.c1; have a2 := hD6.c2
          clear hD6
          replace e1 := show Hid _ from e1
          replace e2 := show Hid _ from e2
          replace hrX : Hid (Rst 1 (1000000000 * P) (br 1 (1000000000 * P) 0 X)) := hrX
          replace hR1 : Hid (Rst 1 (1000000000 * P) R) := hR1
          go_wp2_with (go_at_call 14; refine (Rest_c _ _ _ _ _ hB6).mono ?_; rintro e w' ⟨rfl, rfl⟩)
          go_roundw
          case rel => exact ⟨k + 1, X + Y, Q + V, by go_num, rfl, rfl, by omega, by omega, by omega, by omega, by omega, by omega, e1, (by show Brr _ _ _ _ _; rw [e2.out]; exact hB6), hx⟩
          case measure => simp [RowKit.intOf]; omega
        · clear hB hQ hcell
          go_wp2
          go_ret
          exact ⟨rfl, hx.out⟩
      · clear hB hQ hcell
        go_wp2
        go_ret
        exact ⟨rfl, hx.out⟩
  · subst h
    have hr0 := rst_zero (m := 3) (W := 1000000000 * P) (by omega) hW
    have hN : Hid (∀ w : World, Calls Tryd.prog 9 #[.int .i64 K, .int .i64 (3)] w fun e w' => ∃ B, e = .returned (.tuple #[.pointer (some ⟨B, 0, none⟩), .int .i64 0]) ∧ Born w w' B (3) (1000000000 * P) 0) := fun w => by rw [← hP]; exact New_ok K (3) w K1 K2 (by omega)
    have hR : Hid (∀ w : World, Calls Tryd.prog 10 #[.int .i64 K, .int .i64 (3)] w fun e w' => ∃ C, e = .returned (.tuple #[.pointer (some ⟨C, 0, none⟩), .int .i64 0]) ∧ Rbr w' C P (decide (3 = (1 : Int))) 0 ∧ w.heap.size ≤ C ∧ Ext w w') := fun w => by rw [← hP]; exact rNew_ok K (3) w K1 K2 (by omega)
    go_enter Tryd.func5, Tryd.ntmps5
    go_wp2_with fail
    refine (hN.out _).mono ?_
    rintro e w1 ⟨B, rfl, hb⟩
    have hx : Hid (Ext w w1) := Ext.trans (by repeat (first | exact Ext.refl _ | apply Ext.alloc)) hb.ext
    have hlo1 : w.heap.size ≤ B := by have := hb.lo; simp at this; omega
    have hB : Hid (Brr w1 B 3 (1000000000 * P) 0) := hb.brr
    clear hb
    go_wp2_with fail
    refine (hR.out _).mono ?_
    rintro e w2 ⟨C, rfl, hc, hcl, hx1⟩
    replace hx : Hid (Ext w w2) := hx.out.trans hx1
    replace hB : Hid (Brr w2 B 3 (1000000000 * P) 0) := hB.out.ext hx1
    replace hc : Hid (Rbr w2 C P (decide (3 = (1 : Int))) 0) := hc
    clear hx1
    go_wp2_with fail
    refine (awake_c _).mono ?_
    rintro e w3 ⟨rfl, hx1⟩
    replace hx : Hid (Ext w w3) := hx.out.trans hx1
    replace hB : Hid (Brr w3 B 3 (1000000000 * P) 0) := hB.out.ext hx1
    have hc3 : Rbr w3 C P (decide (3 = (1 : Int))) 0 := hc.out.ext hx1
    clear hx1 hc
    go_wp2_with fail
    refine (Whole_c C P 0 _ _ hc3 P0 P1).mono ?_
    rintro e w4 ⟨rfl, rfl⟩
    clear hc3 hN hR
    go_wp2_with fail
    go_loopw [12, 13, 14] (fun s q i wr => ∃ (k : Nat) (X Q : Int), i = .int .i64 k ∧ s = .int .i64 X ∧ q = .int .i64 Q ∧ k ≤ N ∧ k ≤ 20 ∧ 0 ≤ X ∧ X ≤ 4000000000000 * k ∧ 0 ≤ Q ∧ Q ≤ 1000000000000 * k ∧ Hid (bq 3 (1000000000 * P) 0 X = Q) ∧ Hid (Brr wr B 3 (1000000000 * P) (br 3 (1000000000 * P) 0 X)) ∧ Hid (Ext w wr)) (fun _ _ i _ => 20 - (RowKit.intOf i).toNat)
    case atStart => exact ⟨0, 0, 0, rfl, rfl, rfl, by omega, by omega, by omega, by omega, by omega, by omega, bq_zero hr0 hW, (by have := hB.out; show Brr _ _ _ _ _; rw [br_zero hr0 hW]; exact this), hx⟩
    case round =>
      clear hx hB
      obtain ⟨k, X, Q, rfl, rfl, rfl, hkl, hk20, X0, X1, Q0, Q1, hQ, hB, hx⟩ := hrel
      by_cases hkN : k < N
      · by_cases hk3 : k < 20
        · obtain ⟨b, off, rfl, hc⟩ := hcell.out (by omega)
          obtain ⟨⟨x, y, z⟩, hxk⟩ : ∃ x, l2[k]? = some x := ⟨_, List.getElem?_eq_getElem (by rw [hlen.out]; exact hkN)⟩
          have kc := hx.out.cell_of (hc k x y z hxk).1
          have kd := hx.out.cell_of (hc k x y z hxk).2.1
          have ke := hx.out.cell_of (hc k x y z hxk).2.2
          obtain ⟨ux, hux⟩ : ∃ u, IntKind.u64.wrap x = u := ⟨_, rfl⟩
          have px : 0 ≤ ux ∧ ux < 18446744073709551616 := by rw [← hux, IntKind.wrap_u64]; omega
          obtain ⟨rx, sx⟩ := px
          obtain ⟨vx, hvx⟩ : ∃ v, ux % 100000 = v := ⟨_, rfl⟩
          have px : 0 ≤ vx ∧ vx < 100000 := by omega
          obtain ⟨gx, lx⟩ := px
          obtain ⟨uy, huy⟩ : ∃ u, IntKind.u64.wrap y = u := ⟨_, rfl⟩
          have py : 0 ≤ uy ∧ uy < 18446744073709551616 := by rw [← huy, IntKind.wrap_u64]; omega
          obtain ⟨ry, sy⟩ := py
          obtain ⟨vy, hvy⟩ : ∃ v, uy % 100000 = v := ⟨_, rfl⟩
          have py : 0 ≤ vy ∧ vy < 100000 := by omega
          obtain ⟨gy, ly⟩ := py
          obtain ⟨uz, huz⟩ : ∃ u, IntKind.u64.wrap z = u := ⟨_, rfl⟩
          have pz : 0 ≤ uz ∧ uz < 18446744073709551616 := by rw [← huz, IntKind.wrap_u64]; omega
          obtain ⟨rz, sz⟩ := pz
          obtain ⟨vz, hvz⟩ : ∃ v, uz % 400 = v := ⟨_, rfl⟩
          have pz : 0 ≤ vz ∧ vz < 400 := by omega
          obtain ⟨gz, lz⟩ := pz
          clear hc hxk
          go_wp2_with fail
          have hbl : b < wr.heap.size := lt_of_cell kc
          go_region_held3 (fun W => b < W.heap.size ∧ W.cell? ⟨b, off + k * 3, none⟩ = some (.int .i64 x) ∧ W.cell? ⟨b, off + k * 3 + 1, none⟩ = some (.int .i64 y) ∧ W.cell? ⟨b, off + k * 3 + 2, none⟩ = some (.int .i64 z)) (first | exact ⟨hbl, kc, kd, ke⟩ | exact ⟨by simp; omega, ((Ext.refl _).alloc _ _).cell_of kc, ((Ext.refl _).alloc _ _).cell_of kd, ((Ext.refl _).alloc _ _).cell_of ke⟩) (fail)
          go_wp2_with fail
          obtain ⟨W5, d, hW5, hd, hx5, hD⟩ := one_spanD wr vx vy vz
          rw [hW5, hd]
          have hBd : B < d := by rw [← hd]; exact hB.out.lt
          have hdl : d < W5.heap.size := lt_of_cell hD.c0
          have a0 := hD.c0; have a1 := hD.c1; have a2 := hD.c2
          clear kc kd ke hcell hW5 hd
          obtain ⟨q0, q1, q2, q3, q4⟩ := re_E gx lx gy ly gz lz
          obtain ⟨p1, hp1⟩ : ∃ p1, vx * vy = p1 := ⟨_, rfl⟩
          rw [hp1] at q0 q1 q2 q3 q4
          obtain ⟨Y, hY⟩ : ∃ Y, p1 * vz = Y := ⟨_, rfl⟩
          rw [hY] at q2 q3 q4
          have hrX := br_rst (E := X) hr0 hW
          have e1 := bq_add (E := X) (F := Y) hr0 hW
          have e2 := br_add (E := X) (F := Y) hr0 hW
          have e3 := re_bd (E := Y) hrX (by omega) q2 q3
          obtain ⟨V, hV⟩ : ∃ V, bq 3 (1000000000 * P) (br 3 (1000000000 * P) 0 X) Y = V := ⟨_, rfl⟩
          obtain ⟨R, hR⟩ : ∃ R, br 3 (1000000000 * P) (br 3 (1000000000 * P) 0 X) Y = R := ⟨_, rfl⟩
          rw [hV, hQ.out] at e1
          rw [hR] at e2
          rw [hV] at e3
          have e4 := re_rest (P := P) (m := 3) (by omega) (by omega) e1
          rw [e2] at e4
          have hR1 := br_rst (E := Y) hrX hW
          rw [hR] at hR1
          obtain ⟨T, hT⟩ : ∃ T, (Q + V) * (1000000000 * P) = T := ⟨_, rfl⟩
          rw [hT] at e4
          have hcall := Bear_v B 3 _ _ vx vy vz V R hrX hW (by omega) ⟨by omega, by omega, by omega⟩ (by rw [q4]; exact hV) (by rw [q4]; exact hR) (by omega) W5 (hB.out.ext hx5)
          have hne : (R != X + Y - T) = false := by rw [e4]; simp
          obtain ⟨e31, e32⟩ := e3
          have hRl : 0 ≤ R ∧ R < 1000000000 * P := by unfold Rst at hR1; omega
          obtain ⟨hR5, hR6⟩ := hRl
          clear hV hR q4
          refine hcall.mono ?_
          rintro e w6 ⟨rfl, hx1⟩
          replace hx : Hid (Ext w w6) := (hx.out.trans hx5).wrote hlo1 hx1
          have hD6 : Bx w6 d vx vy vz := hD.beside (by omega) hx1
          have hB6 : Brr w6 B 3 (1000000000 * P) R := (hB.out.ext hx5).wrote hx1
          clear a0 a1 a2 hx1 hx5 hcall hB hD
          have a0 := hD6.c0; have a1 := hD6.c1; have a2 := hD6.c2
          clear hD6
          replace e1 := show Hid _ from e1
          replace e2 := show Hid _ from e2
          replace hrX : Hid (Rst 3 (1000000000 * P) (br 3 (1000000000 * P) 0 X)) := hrX
          replace hR1 : Hid (Rst 3 (1000000000 * P) R) := hR1
          go_wp2_with (go_at_call 14; refine (Rest_c _ _ _ _ _ hB6).mono ?_; rintro e w' ⟨rfl, rfl⟩)
          go_roundw
          case rel => exact ⟨k + 1, X + Y, Q + V, by go_num, rfl, rfl, by omega, by omega, by omega, by omega, by omega, by omega, e1, (by show Brr _ _ _ _ _; rw [e2.out]; exact hB6), hx⟩
          case measure => simp [RowKit.intOf]; omega
        · clear hB hQ hcell
          go_wp2
          go_ret
          exact ⟨rfl, hx.out⟩
      · clear hB hQ hcell
        go_wp2
        go_ret
        exact ⟨rfl, hx.out⟩

set_option maxRecDepth 100000 in
theorem lifted (os : Os) (started : os.Started) (H : Type) (enc : TypeId × Value → H) :
    ReturnsInHanded {} Tryd.checked os 5 .any (fun w args => (Rows.growthRestSpec.pre enc Tryd.prog Tryd.f5 [] false w args ∧ laidMetH Tryd.prog laid w) ∧ sizedMet enc Tryd.prog Tryd.f5 (OpenSpec.ofChange Rows.growthRestSpec) false w args)
      (Rows.growthRestSpec.post enc Tryd.prog Tryd.f5 false true false false) := by
  refine wrap started (by kernel_rfl) Tryd.func5
    (ChangeSpec.witness_shaped (enc := enc) (C := Tryd.checked) (os := os) (X := fun w _ => laidMetH Tryd.prog laid w) false (World.laidAll Tryd.prog os laid) #[.int .i64 0, .int .i64 0, .slice none 0 0] 8 (World.laidAll_os _ _ _)
      (World.shaped_of_ZipB (by kernel_rfl) (by kernel_rfl)) (by kernel_rfl) (by kernel_rfl) (by kernel_rfl)
      (by rw [MakeChecks.laidMetH_plain _ _ _ (by kernel_rfl)]; exact laidMet_laidAll _ (by kernel_rfl) (by kernel_rfl))) ?_
  intro W base args ds gs before hval0 hW hE
  have hval : ∀ (j : Nat) t v, Tryd.f5.params[j]? = some t → args[j]? = some v → Value.okWide Tryd.prog W .any base t v := hval0
  have hW' := hW
  obtain ⟨p, q, hA0, hV, rfl, _, _⟩ := hW
  have hA : DataW.TrodAll enc Tryd.prog W 0 (fun _ => true) true Tryd.f5.params.toList args.toList ds p := hA0
  rw [Tryd.params5] at hA hval
  obtain ⟨v0, vs0, d0, ds0, p0, q0, hargs, rfl, rfl, h0, r0⟩ := trodAll_cons hA
  obtain ⟨v1, vs1, d1, ds1, p1, q1, rfl, rfl, rfl, h1, r1⟩ := trodAll_cons r0
  obtain ⟨v2, vs2, d2, ds2, p2, q2, rfl, rfl, rfl, h2, r2⟩ := trodAll_cons r1
  obtain ⟨rfl, rfl, rfl⟩ := trodAll_nil r2
  obtain rfl : args = #[v0, v1, v2] := by cases args; simp_all
  obtain ⟨rfl, rfl⟩ := trodVars_none hV
  obtain ⟨a0, rfl, rfl, rfl, w0⟩ := open_int Tryd.underlying3 (hval 0 3 v0 rfl rfl) h0
  obtain ⟨a1, rfl, rfl, rfl, w1⟩ := open_int Tryd.underlying3 (hval 1 3 v1 rfl rfl) h1
  obtain ⟨l2, s2, n2, b2, t2⟩ := open_slt (hval 2 22 v2 rfl rfl) h2
  clear hA0 hval0
  simp only [List.append_nil] at hW'
  refine (walk a0 w0 a1 w1 v2 l2 n2 b2 W s2).mono fun e W' ⟨he, hb⟩ => ?_
  subst he
  exact ⟨_, rfl, _, _, _, [], _, [], hW', (trodAll_cons_mk (shut_bool Tryd.underlying4 _) trodAll_mk0), (trodAll_cons_mk (shut_int Tryd.underlying3 w0) (trodAll_cons_mk (shut_int Tryd.underlying3 w1) (trodAll_cons_mk (t2 _ hb) trodAll_mk0))), rfl, hb.below.frame _, fun h => by cases h⟩

theorem over : Rows.growthRestRow.holds Tryd.pinned (OpenSpec.ofChange Rows.growthRestSpec) :=
  OpenClaim.holds_of_wide 5 Tryd.f5 rfl rfl rfl rfl rfl rfl rfl ⟨rfl, rfl, rfl, rfl, rfl⟩ rfl rfl rfl rfl rfl (by kernel_rfl) Tryd.func5 (by kernel_rfl)
    (of_decide_eq_true (by kernel_rfl)) (by unfold Func.isWrapper; first | (rw [if_pos (by decide +kernel)]; kernel_rfl) | (rw [if_neg (by decide +kernel)]; exact ⟨rfl, rfl⟩))
    (fun os started H enc _ => lifted os started H enc)
end Go.Proofs.YteedbmmpkgpfhaaDoor.growthRest
namespace Go.Proofs.YteedbmmpkgpfhaaDoor
theorem growthRest_holds : Rows.GrowthRestCardSaid :=
  Claim7.holds_tied_plain_at .later [] [.data] true (true, "225b0824fabe58f814383c228e1f1ee1b73c46497dda64b3ca6af21c7fd91e33") true growthRest.over (fun _ h => by cases h) (by kernel_rfl) (fun _ h => by cases h) growthRest_row_tie rfl ⟨rfl, rfl⟩ (by kernel_rfl) rfl
    (fun f fn hf hfn => by
      obtain rfl : f = 5 := Option.some.inj ((show Tryd.prog.funcNamed "quittance/quittancelaw12.GrowthRest" = some 5 by kernel_rfl).symm.trans hf) |>.symm
      obtain rfl : fn = Tryd.f5 := (Option.some.inj (Tryd.func5.symm.trans hfn)).symm
      exact ⟨by kernel_rfl, fun j t ht => by
        rw [Tryd.params5] at ht
        have hm : t ∈ [3, 3, 22] := by simpa using Array.mem_of_getElem? ht
        have hall : ([3, 3, 22].all fun u => !Tryd.prog.wantsStandIn u) = true := by kernel_rfl
        exact (show Tryd.prog.wantsStandIn t = false by simpa using List.all_eq_true.1 hall t hm)⟩)
    (by kernel_rfl)
#print axioms growthRest_holds
end Go.Proofs.YteedbmmpkgpfhaaDoor
