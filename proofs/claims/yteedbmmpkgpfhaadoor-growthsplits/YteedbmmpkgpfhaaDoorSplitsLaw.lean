/- For all ints count, round, balance and rate and every list of parts, of the project's tree at the commit that COMMIT names, GrowthSplits returns true and leaves its arguments as they were. -/
import Derived.Test.YteedbmmpkgpfhaaDoorFrame
import Derived.Test.YteedbmmpkgpfhaaDoorGr7
namespace Go.Proofs.YteedbmmpkgpfhaaDoor.growthSplits
open Go.ChangeShapes Go.WideShapes Go.ChangeAt Go.RowKit Go.Lib
set_option linter.unusedVariables false

theorem Slc_any {w : World} {v : Value} {l : List Int} (h : Slc w v l) : ∃ a c, v = .slice a l.length c ∧ (0 < l.length → ∃ b off, a = some ⟨b, off, none⟩ ∧ ∀ (k : Nat) (x : Int), l[k]? = some x → w.cell? ⟨b, off + k, none⟩ = some (.int .i64 x)) := by
  rcases h with ⟨a, c, rfl, _, rfl⟩ | ⟨b, off, c, rfl, hc⟩
  · exact ⟨a, c, rfl, fun h => absurd h (Nat.lt_irrefl 0)⟩
  · exact ⟨_, c, rfl, fun _ => ⟨b, off, rfl, hc⟩⟩
theorem sp_bd {m P b rt X : Int} (hm : m = 1 ∨ m = 3) (hP : 360 ≤ P) (b0 : 0 ≤ b) (b1 : b < 10000000000000) (r0 : 0 ≤ rt) (r1 : rt < 1000000000) (X0 : 0 ≤ X) (X1 : X ≤ 9300) :
    0 ≤ bq m (1000000000 * P) 0 (b * (rt * X)) ∧ bq m (1000000000 * P) 0 (b * (rt * X)) ≤ 1000000000000000 := by
  have hW : 0 < 1000000000 * P := by omega
  have hr := rst_zero (m := m) (W := 1000000000 * P) hm hW
  have h1 := mul_le2 r0 X0 (show rt ≤ 1000000000 by omega) X1
  have h2 := mul_le2 b0 (Int.mul_nonneg r0 X0) (show b ≤ 10000000000000 by omega) h1
  have h3 : b * (rt * X) / (1000000000 * P) ≤ 300000000000000 := Int.ediv_le_of_le_mul hW (by omega)
  have h4 := (bq_near (E := b * (rt * X)) hr hW).2
  exact ⟨bq_nn hr hW (Int.mul_nonneg b0 (Int.mul_nonneg r0 X0)), by omega⟩
/-- A part more. -/
theorem sp_step {m P b rt X n : Int} (hm : m = 1 ∨ m = 3) (hP : 360 ≤ P) (b0 : 0 ≤ b) (b1 : b < 10000000000000) (r0 : 0 ≤ rt) (r1 : rt < 1000000000) (X0 : 0 ≤ X) (X1 : X ≤ 9000) (n0 : 0 ≤ n) (n1 : n < 300) :
    bq m (1000000000 * P) 0 (b * (rt * (X + n))) = bq m (1000000000 * P) 0 (b * (rt * X)) + bq m (1000000000 * P) (br m (1000000000 * P) 0 (b * (rt * X))) (b * (rt * n)) ∧
    br m (1000000000 * P) 0 (b * (rt * (X + n))) = br m (1000000000 * P) (br m (1000000000 * P) 0 (b * (rt * X))) (b * (rt * n)) ∧
    0 ≤ bq m (1000000000 * P) (br m (1000000000 * P) 0 (b * (rt * X))) (b * (rt * n)) ∧ bq m (1000000000 * P) (br m (1000000000 * P) 0 (b * (rt * X))) (b * (rt * n)) ≤ 1000000000000000 := by
  have hW : 0 < 1000000000 * P := by omega
  have hr := rst_zero (m := m) (W := 1000000000 * P) hm hW
  have e : b * (rt * (X + n)) = b * (rt * X) + b * (rt * n) := by rw [Int.mul_add, Int.mul_add]
  have h1 := bq_add (E := b * (rt * X)) (F := b * (rt * n)) hr hW
  have h2 := br_add (E := b * (rt * X)) (F := b * (rt * n)) hr hW
  have h3 := bq_nn (E := b * (rt * n)) (br_rst (E := b * (rt * X)) hr hW) hW (Int.mul_nonneg b0 (Int.mul_nonneg r0 n0))
  have h4 := sp_bd (X := X) hm hP b0 b1 r0 r1 X0 (by omega)
  have h5 := sp_bd (X := X + n) hm hP b0 b1 r0 r1 (by omega) (by omega)
  rw [e] at h5 ⊢
  exact ⟨h1, h2, h3, by omega⟩
set_option maxRecDepth 100000 in
set_option maxHeartbeats 8000000 in

theorem walk (a0 : Int) (w0 : (Lit.int .i64 a0).wf = true) (a1 : Int) (w1 : (Lit.int .i64 a1).wf = true) (a2 : Int) (w2 : (Lit.int .i64 a2).wf = true) (a3 : Int) (w3 : (Lit.int .i64 a3).wf = true) (v4 : Value) (l4 : List Int) (n4 : l4.length ≤ maxLen) (b4 : ∀ x ∈ l4, J64 x) (w : World) (s4 : Slc w v4 l4) :
    Calls Tryd.prog 4 #[.int .i64 a0, .int .i64 a1, .int .i64 a2, .int .i64 a3, v4] w fun e w' => e = .returned (.bool true) ∧ Ext w w' := by
  clear w0 w1 w2 w3
  obtain ⟨u0, hu0⟩ : ∃ u, IntKind.u64.wrap a0 = u := ⟨_, rfl⟩
  have p0 : 0 ≤ u0 ∧ u0 < 18446744073709551616 := by rw [← hu0, IntKind.wrap_u64]; omega
  obtain ⟨r0, s0⟩ := p0
  obtain ⟨v0, hv0⟩ : ∃ v, u0 % 3 = v := ⟨_, rfl⟩
  have p0 : 0 ≤ v0 ∧ v0 < 3 := by omega
  obtain ⟨g0, l0⟩ := p0
  obtain ⟨u1, hu1⟩ : ∃ u, IntKind.u64.wrap a1 = u := ⟨_, rfl⟩
  have p1 : 0 ≤ u1 ∧ u1 < 18446744073709551616 := by rw [← hu1, IntKind.wrap_u64]; omega
  obtain ⟨r1, s1⟩ := p1
  obtain ⟨v1, hv1⟩ : ∃ v, u1 % 2 = v := ⟨_, rfl⟩
  have p1 : 0 ≤ v1 ∧ v1 < 2 := by omega
  obtain ⟨g1, l1⟩ := p1
  obtain ⟨u2, hu2⟩ : ∃ u, IntKind.u64.wrap a2 = u := ⟨_, rfl⟩
  have p2 : 0 ≤ u2 ∧ u2 < 18446744073709551616 := by rw [← hu2, IntKind.wrap_u64]; omega
  obtain ⟨r2, s2⟩ := p2
  obtain ⟨v2, hv2⟩ : ∃ v, u2 % 10000000000000 = v := ⟨_, rfl⟩
  have p2 : 0 ≤ v2 ∧ v2 < 10000000000000 := by omega
  obtain ⟨g2, l2⟩ := p2
  obtain ⟨u3, hu3⟩ : ∃ u, IntKind.u64.wrap a3 = u := ⟨_, rfl⟩
  have p3 : 0 ≤ u3 ∧ u3 < 18446744073709551616 := by rw [← hu3, IntKind.wrap_u64]; omega
  obtain ⟨r3, s3⟩ := p3
  obtain ⟨v3, hv3⟩ : ∃ v, u3 % 1000000000 = v := ⟨_, rfl⟩
  have p3 : 0 ≤ v3 ∧ v3 < 1000000000 := by omega
  obtain ⟨g3, l3⟩ := p3
  obtain ⟨K, hK⟩ : ∃ K, 1 + v0 = K := ⟨_, rfl⟩
  have K1 : 1 ≤ K := by omega
  have K2 : K ≤ 3 := by omega
  have hPb := pt_bd K1 K2
  obtain ⟨P, hP⟩ : ∃ P, ptA K = P := ⟨_, rfl⟩
  rw [hP] at hPb
  have P0 : 0 < P := by omega
  have P1 : P ≤ 133590 := by omega
  obtain ⟨sa, sc, rfl, hcell⟩ := Slc_any s4
  clear s4
  replace hcell := show Hid _ from hcell
  obtain ⟨N, hlen⟩ : ∃ N, l4.length = N := ⟨_, rfl⟩
  rw [hlen]
  rw [hlen] at hcell n4
  replace hlen := show Hid _ from hlen
  replace b4 := show Hid _ from b4
  have hW : 0 < 1000000000 * P := by omega
  rcases (by omega : v1 = 0 ∨ v1 = 1) with h | h
  · subst h
    have hr0 := rst_zero (m := 1) (W := 1000000000 * P) (by omega) hW
    have hstep : Hid (∀ (X n : Int), 0 ≤ X → X ≤ 9000 → 0 ≤ n → n < 300 → ∀ (B : Nat) (w : World), Brr w B 1 (1000000000 * P) (br 1 (1000000000 * P) 0 (v2 * (v3 * X))) → Calls Tryd.prog 12 #[.pointer (some ⟨B, 0, none⟩), .int .i64 v2, .int .i64 v3, .int .i64 n] w fun e w' => ∃ v : Int, e = .returned (.tuple #[.int .i64 v, .int .i64 0]) ∧ (0 ≤ v ∧ bq 1 (1000000000 * P) 0 (v2 * (v3 * X)) + v = bq 1 (1000000000 * P) 0 (v2 * (v3 * (X + n)))) ∧ Ext (w.setCell ⟨B, 2, none⟩ (.int .i64 (br 1 (1000000000 * P) 0 (v2 * (v3 * (X + n)))))) w') := fun X n X0 X1 n0 n1 B w hB => by
      obtain ⟨e1, e2, e3, e4⟩ := sp_step (m := 1) (P := P) (by omega) (by omega) g2 l2 g3 l3 X0 X1 n0 n1
      rw [e1, e2]
      exact (Bear_ok B 1 _ _ v2 v3 n w hB (br_rst hr0 hW) hW (by omega) ⟨by omega, by omega, by omega⟩ e4).mono fun e w' ⟨a, b⟩ => ⟨_, a, ⟨e3, rfl⟩, b⟩
    have hall : Hid (∀ (X : Int), 0 ≤ X → X ≤ 9000 → ∀ (B : Nat) (w : World), Brr w B 1 (1000000000 * P) 0 → Calls Tryd.prog 12 #[.pointer (some ⟨B, 0, none⟩), .int .i64 v2, .int .i64 v3, .int .i64 X] w fun e w' => e = .returned (.tuple #[.int .i64 (bq 1 (1000000000 * P) 0 (v2 * (v3 * X))), .int .i64 0]) ∧ Ext (w.setCell ⟨B, 2, none⟩ (.int .i64 (br 1 (1000000000 * P) 0 (v2 * (v3 * X))))) w') := fun X X0 X1 B w hB =>
      Bear_ok B 1 _ 0 v2 v3 X w hB hr0 hW (by omega) ⟨by omega, by omega, by omega⟩ (sp_bd (by omega) (by omega) g2 l2 g3 l3 X0 (by omega)).2
    have hsum : Hid (∀ (X : Int), 0 ≤ X → X ≤ 9000 → 0 ≤ bq 1 (1000000000 * P) 0 (v2 * (v3 * X)) ∧ bq 1 (1000000000 * P) 0 (v2 * (v3 * X)) ≤ 1000000000000000) := fun X X0 X1 => sp_bd (by omega) (by omega) g2 l2 g3 l3 X0 (by omega)
    have hz : Hid (bq 1 (1000000000 * P) 0 (v2 * (v3 * 0)) = 0 ∧ br 1 (1000000000 * P) 0 (v2 * (v3 * 0)) = 0) := by
      show _ ∧ _
      rw [Int.mul_zero, Int.mul_zero]
      exact ⟨bq_zero hr0 hW, br_zero hr0 hW⟩
    have hN : Hid (∀ w : World, Calls Tryd.prog 9 #[.int .i64 K, .int .i64 (1)] w fun e w' => ∃ B, e = .returned (.tuple #[.pointer (some ⟨B, 0, none⟩), .int .i64 0]) ∧ Born w w' B (1) (1000000000 * P) 0) := fun w => by rw [← hP]; exact New_ok K (1) w K1 K2 (by omega)
    clear hr0
    obtain ⟨Qf, hQ⟩ : ∃ Qf : Int → Int, ∀ X, bq 1 (1000000000 * P) 0 (v2 * (v3 * X)) = Qf X := ⟨_, fun _ => rfl⟩
    obtain ⟨Rf, hRf⟩ : ∃ Rf : Int → Int, ∀ X, br 1 (1000000000 * P) 0 (v2 * (v3 * X)) = Rf X := ⟨_, fun _ => rfl⟩
    simp only [hQ, hRf] at hstep hall hsum hz
    clear hQ hRf
    go_enter Tryd.func4, Tryd.ntmps4
    go_wp2_with fail
    refine (hN.out _).mono ?_
    rintro e w1 ⟨B1, rfl, hb⟩
    have hx : Hid (Ext w w1) := Ext.trans (by repeat (first | exact Ext.refl _ | apply Ext.alloc)) hb.ext
    have hlo1 : w.heap.size ≤ B1 := by have := hb.lo; simp at this; omega
    have hB1 : Hid (Brr w1 B1 1 (1000000000 * P) 0) := hb.brr
    have hs1 := hb.brr.lt
    clear hb
    go_wp2_with fail
    refine (hN.out _).mono ?_
    rintro e w2 ⟨B2, rfl, hb⟩
    replace hx : Hid (Ext w w2) := hx.out.trans hb.ext
    have hlo2 := hb.lo
    have hB2 : Hid (Brr w2 B2 1 (1000000000 * P) 0) := hb.brr
    replace hB1 : Hid (Brr w2 B1 1 (1000000000 * P) 0) := hB1.out.ext hb.ext
    clear hb
    go_wp2_with fail
    refine (awake_c _).mono ?_
    rintro e w3 ⟨rfl, hx1⟩
    replace hx : Hid (Ext w w3) := hx.out.trans hx1
    replace hB1 : Hid (Brr w3 B1 1 (1000000000 * P) 0) := hB1.out.ext hx1
    replace hB2 : Hid (Brr w3 B2 1 (1000000000 * P) 0) := hB2.out.ext hx1
    clear hx1 hN
    have hne : B1 ≠ B2 := by omega
    have hlo2' : w.heap.size ≤ B2 := by omega
    go_wp2_with fail
    go_loopw [15, 16, 17] (fun s a i wr => ∃ (k : Nat) (X S : Int), i = .int .i64 k ∧ a = .int .i64 X ∧ s = .int .i64 S ∧ k ≤ N ∧ k ≤ 30 ∧ 0 ≤ X ∧ X ≤ 299 * k ∧ Hid (S = Qf X) ∧ Hid (Brr wr B1 1 (1000000000 * P) (Rf X)) ∧ Hid (Brr wr B2 1 (1000000000 * P) 0) ∧ Hid (Ext w wr)) (fun _ _ i _ => 30 - (RowKit.intOf i).toNat)
    case atStart => exact ⟨0, 0, 0, rfl, rfl, rfl, by omega, by omega, by omega, by omega, hz.out.1.symm, (by have := hB1.out; show Brr _ _ _ _ _; rw [hz.out.2]; exact this), hB2, hx⟩
    case round =>
      clear hx hB1 hB2
      obtain ⟨k, X, S, rfl, rfl, rfl, hkl, hk30, X0, X1, hS, hB1, hB2, hx⟩ := hrel
      by_cases hkN : k < N
      · by_cases hk3 : k < 30
        · obtain ⟨b, off, rfl, hc⟩ := hcell.out (by omega)
          obtain ⟨x, hxk⟩ : ∃ x, l4[k]? = some x := ⟨_, List.getElem?_eq_getElem (by rw [hlen.out]; exact hkN)⟩
          have kc := hx.out.cell_of (hc k x hxk)
          obtain ⟨u, hu⟩ : ∃ u, IntKind.u64.wrap x = u := ⟨_, rfl⟩
          have pu : 0 ≤ u ∧ u < 18446744073709551616 := by rw [← hu, IntKind.wrap_u64]; omega
          obtain ⟨pu0, pu1⟩ := pu
          obtain ⟨n, hn⟩ : ∃ n, u % 300 = n := ⟨_, rfl⟩
          have n0 : 0 ≤ n := by omega
          have n1 : n < 300 := by omega
          clear hc hxk
          go_wp2_with fail
          refine (hstep.out X n X0 (by omega) n0 n1 _ _ hB1.out).mono ?_
          rintro e w5 ⟨V, rfl, ⟨hV0, hV⟩, hx1⟩
          have hb1 := hsum.out X X0 (by omega)
          have hb2 := hsum.out (X + n) (by omega) (by omega)
          rw [← hS.out] at hV hb1
          obtain ⟨hb11, hb12⟩ := hb1
          obtain ⟨hb21, hb22⟩ := hb2
          rw [← hV] at hb21 hb22
          replace hV := show Hid _ from hV
          replace hx : Hid (Ext w w5) := hx.out.wrote hlo1 hx1
          replace hB1 : Hid (Brr w5 B1 1 (1000000000 * P) (Rf (X + n))) := hB1.out.wrote hx1
          replace hB2 : Hid (Brr w5 B2 1 (1000000000 * P) 0) := hB2.out.beside hne hx1
          clear hx1 kc
          go_wp2
          go_roundw
          case rel => exact ⟨k + 1, X + n, S + V, by go_num, rfl, rfl, by omega, by omega, by omega, by omega, hV, hB1, hB2, hx⟩
          case measure => simp [RowKit.intOf]; omega
        · obtain rfl := hS.out
          go_wp2_with fail
          refine (hall.out X X0 (by omega) _ _ hB2.out).mono ?_
          rintro e w5 ⟨rfl, hx1⟩
          replace hx : Hid (Ext w w5) := hx.out.wrote hlo2' hx1
          have hC1 : Brr w5 B1 1 (1000000000 * P) (Rf X) := hB1.out.beside (Ne.symm hne) hx1
          have hC2 : Brr w5 B2 1 (1000000000 * P) (Rf X) := hB2.out.wrote hx1
          clear hx1 hB1 hB2 hstep hall hsum hz
          go_wp2_with fail
          refine (Rest_c _ _ _ _ _ hC1).mono ?_
          rintro e w6 ⟨rfl, rfl⟩
          go_wp2_with fail
          refine (Rest_c _ _ _ _ _ hC2).mono ?_
          rintro e w7 ⟨rfl, rfl⟩
          go_wp2
          go_ret
          exact ⟨rfl, hx.out⟩
      · obtain rfl := hS.out
        go_wp2_with fail
        refine (hall.out X X0 (by omega) _ _ hB2.out).mono ?_
        rintro e w5 ⟨rfl, hx1⟩
        replace hx : Hid (Ext w w5) := hx.out.wrote hlo2' hx1
        have hC1 : Brr w5 B1 1 (1000000000 * P) (Rf X) := hB1.out.beside (Ne.symm hne) hx1
        have hC2 : Brr w5 B2 1 (1000000000 * P) (Rf X) := hB2.out.wrote hx1
        clear hx1 hB1 hB2 hstep hall hsum hz
        go_wp2_with fail
        refine (Rest_c _ _ _ _ _ hC1).mono ?_
        rintro e w6 ⟨rfl, rfl⟩
        go_wp2_with fail
        refine (Rest_c _ _ _ _ _ hC2).mono ?_
        rintro e w7 ⟨rfl, rfl⟩
        go_wp2
        go_ret
        exact ⟨rfl, hx.out⟩
  · subst h
    have hr0 := rst_zero (m := 3) (W := 1000000000 * P) (by omega) hW
    have hstep : Hid (∀ (X n : Int), 0 ≤ X → X ≤ 9000 → 0 ≤ n → n < 300 → ∀ (B : Nat) (w : World), Brr w B 3 (1000000000 * P) (br 3 (1000000000 * P) 0 (v2 * (v3 * X))) → Calls Tryd.prog 12 #[.pointer (some ⟨B, 0, none⟩), .int .i64 v2, .int .i64 v3, .int .i64 n] w fun e w' => ∃ v : Int, e = .returned (.tuple #[.int .i64 v, .int .i64 0]) ∧ (0 ≤ v ∧ bq 3 (1000000000 * P) 0 (v2 * (v3 * X)) + v = bq 3 (1000000000 * P) 0 (v2 * (v3 * (X + n)))) ∧ Ext (w.setCell ⟨B, 2, none⟩ (.int .i64 (br 3 (1000000000 * P) 0 (v2 * (v3 * (X + n)))))) w') := fun X n X0 X1 n0 n1 B w hB => by
      obtain ⟨e1, e2, e3, e4⟩ := sp_step (m := 3) (P := P) (by omega) (by omega) g2 l2 g3 l3 X0 X1 n0 n1
      rw [e1, e2]
      exact (Bear_ok B 3 _ _ v2 v3 n w hB (br_rst hr0 hW) hW (by omega) ⟨by omega, by omega, by omega⟩ e4).mono fun e w' ⟨a, b⟩ => ⟨_, a, ⟨e3, rfl⟩, b⟩
    have hall : Hid (∀ (X : Int), 0 ≤ X → X ≤ 9000 → ∀ (B : Nat) (w : World), Brr w B 3 (1000000000 * P) 0 → Calls Tryd.prog 12 #[.pointer (some ⟨B, 0, none⟩), .int .i64 v2, .int .i64 v3, .int .i64 X] w fun e w' => e = .returned (.tuple #[.int .i64 (bq 3 (1000000000 * P) 0 (v2 * (v3 * X))), .int .i64 0]) ∧ Ext (w.setCell ⟨B, 2, none⟩ (.int .i64 (br 3 (1000000000 * P) 0 (v2 * (v3 * X))))) w') := fun X X0 X1 B w hB =>
      Bear_ok B 3 _ 0 v2 v3 X w hB hr0 hW (by omega) ⟨by omega, by omega, by omega⟩ (sp_bd (by omega) (by omega) g2 l2 g3 l3 X0 (by omega)).2
    have hsum : Hid (∀ (X : Int), 0 ≤ X → X ≤ 9000 → 0 ≤ bq 3 (1000000000 * P) 0 (v2 * (v3 * X)) ∧ bq 3 (1000000000 * P) 0 (v2 * (v3 * X)) ≤ 1000000000000000) := fun X X0 X1 => sp_bd (by omega) (by omega) g2 l2 g3 l3 X0 (by omega)
    have hz : Hid (bq 3 (1000000000 * P) 0 (v2 * (v3 * 0)) = 0 ∧ br 3 (1000000000 * P) 0 (v2 * (v3 * 0)) = 0) := by
      show _ ∧ _
      rw [Int.mul_zero, Int.mul_zero]
      exact ⟨bq_zero hr0 hW, br_zero hr0 hW⟩
    have hN : Hid (∀ w : World, Calls Tryd.prog 9 #[.int .i64 K, .int .i64 (3)] w fun e w' => ∃ B, e = .returned (.tuple #[.pointer (some ⟨B, 0, none⟩), .int .i64 0]) ∧ Born w w' B (3) (1000000000 * P) 0) := fun w => by rw [← hP]; exact New_ok K (3) w K1 K2 (by omega)
    clear hr0
    obtain ⟨Qf, hQ⟩ : ∃ Qf : Int → Int, ∀ X, bq 3 (1000000000 * P) 0 (v2 * (v3 * X)) = Qf X := ⟨_, fun _ => rfl⟩
    obtain ⟨Rf, hRf⟩ : ∃ Rf : Int → Int, ∀ X, br 3 (1000000000 * P) 0 (v2 * (v3 * X)) = Rf X := ⟨_, fun _ => rfl⟩
    simp only [hQ, hRf] at hstep hall hsum hz
    clear hQ hRf
    go_enter Tryd.func4, Tryd.ntmps4
    go_wp2_with fail
    refine (hN.out _).mono ?_
    rintro e w1 ⟨B1, rfl, hb⟩
    have hx : Hid (Ext w w1) := Ext.trans (by repeat (first | exact Ext.refl _ | apply Ext.alloc)) hb.ext
    have hlo1 : w.heap.size ≤ B1 := by have := hb.lo; simp at this; omega
    have hB1 : Hid (Brr w1 B1 3 (1000000000 * P) 0) := hb.brr
    have hs1 := hb.brr.lt
    clear hb
    go_wp2_with fail
    refine (hN.out _).mono ?_
    rintro e w2 ⟨B2, rfl, hb⟩
    replace hx : Hid (Ext w w2) := hx.out.trans hb.ext
    have hlo2 := hb.lo
    have hB2 : Hid (Brr w2 B2 3 (1000000000 * P) 0) := hb.brr
    replace hB1 : Hid (Brr w2 B1 3 (1000000000 * P) 0) := hB1.out.ext hb.ext
    clear hb
    go_wp2_with fail
    refine (awake_c _).mono ?_
    rintro e w3 ⟨rfl, hx1⟩
    replace hx : Hid (Ext w w3) := hx.out.trans hx1
    replace hB1 : Hid (Brr w3 B1 3 (1000000000 * P) 0) := hB1.out.ext hx1
    replace hB2 : Hid (Brr w3 B2 3 (1000000000 * P) 0) := hB2.out.ext hx1
    clear hx1 hN
    have hne : B1 ≠ B2 := by omega
    have hlo2' : w.heap.size ≤ B2 := by omega
    go_wp2_with fail
    go_loopw [15, 16, 17] (fun s a i wr => ∃ (k : Nat) (X S : Int), i = .int .i64 k ∧ a = .int .i64 X ∧ s = .int .i64 S ∧ k ≤ N ∧ k ≤ 30 ∧ 0 ≤ X ∧ X ≤ 299 * k ∧ Hid (S = Qf X) ∧ Hid (Brr wr B1 3 (1000000000 * P) (Rf X)) ∧ Hid (Brr wr B2 3 (1000000000 * P) 0) ∧ Hid (Ext w wr)) (fun _ _ i _ => 30 - (RowKit.intOf i).toNat)
    case atStart => exact ⟨0, 0, 0, rfl, rfl, rfl, by omega, by omega, by omega, by omega, hz.out.1.symm, (by have := hB1.out; show Brr _ _ _ _ _; rw [hz.out.2]; exact this), hB2, hx⟩
    case round =>
      clear hx hB1 hB2
      obtain ⟨k, X, S, rfl, rfl, rfl, hkl, hk30, X0, X1, hS, hB1, hB2, hx⟩ := hrel
      by_cases hkN : k < N
      · by_cases hk3 : k < 30
        · obtain ⟨b, off, rfl, hc⟩ := hcell.out (by omega)
          obtain ⟨x, hxk⟩ : ∃ x, l4[k]? = some x := ⟨_, List.getElem?_eq_getElem (by rw [hlen.out]; exact hkN)⟩
          have kc := hx.out.cell_of (hc k x hxk)
          obtain ⟨u, hu⟩ : ∃ u, IntKind.u64.wrap x = u := ⟨_, rfl⟩
          have pu : 0 ≤ u ∧ u < 18446744073709551616 := by rw [← hu, IntKind.wrap_u64]; omega
          obtain ⟨pu0, pu1⟩ := pu
          obtain ⟨n, hn⟩ : ∃ n, u % 300 = n := ⟨_, rfl⟩
          have n0 : 0 ≤ n := by omega
          have n1 : n < 300 := by omega
          clear hc hxk
          go_wp2_with fail
          refine (hstep.out X n X0 (by omega) n0 n1 _ _ hB1.out).mono ?_
          rintro e w5 ⟨V, rfl, ⟨hV0, hV⟩, hx1⟩
          have hb1 := hsum.out X X0 (by omega)
          have hb2 := hsum.out (X + n) (by omega) (by omega)
          rw [← hS.out] at hV hb1
          obtain ⟨hb11, hb12⟩ := hb1
          obtain ⟨hb21, hb22⟩ := hb2
          rw [← hV] at hb21 hb22
          replace hV := show Hid _ from hV
          replace hx : Hid (Ext w w5) := hx.out.wrote hlo1 hx1
          replace hB1 : Hid (Brr w5 B1 3 (1000000000 * P) (Rf (X + n))) := hB1.out.wrote hx1
          replace hB2 : Hid (Brr w5 B2 3 (1000000000 * P) 0) := hB2.out.beside hne hx1
          clear hx1 kc
          go_wp2
          go_roundw
          case rel => exact ⟨k + 1, X + n, S + V, by go_num, rfl, rfl, by omega, by omega, by omega, by omega, hV, hB1, hB2, hx⟩
          case measure => simp [RowKit.intOf]; omega
        · obtain rfl := hS.out
          go_wp2_with fail
          refine (hall.out X X0 (by omega) _ _ hB2.out).mono ?_
          rintro e w5 ⟨rfl, hx1⟩
          replace hx : Hid (Ext w w5) := hx.out.wrote hlo2' hx1
          have hC1 : Brr w5 B1 3 (1000000000 * P) (Rf X) := hB1.out.beside (Ne.symm hne) hx1
          have hC2 : Brr w5 B2 3 (1000000000 * P) (Rf X) := hB2.out.wrote hx1
          clear hx1 hB1 hB2 hstep hall hsum hz
          go_wp2_with fail
          refine (Rest_c _ _ _ _ _ hC1).mono ?_
          rintro e w6 ⟨rfl, rfl⟩
          go_wp2_with fail
          refine (Rest_c _ _ _ _ _ hC2).mono ?_
          rintro e w7 ⟨rfl, rfl⟩
          go_wp2
          go_ret
          exact ⟨rfl, hx.out⟩
      · obtain rfl := hS.out
        go_wp2_with fail
        refine (hall.out X X0 (by omega) _ _ hB2.out).mono ?_
        rintro e w5 ⟨rfl, hx1⟩
        replace hx : Hid (Ext w w5) := hx.out.wrote hlo2' hx1
        have hC1 : Brr w5 B1 3 (1000000000 * P) (Rf X) := hB1.out.beside (Ne.symm hne) hx1
        have hC2 : Brr w5 B2 3 (1000000000 * P) (Rf X) := hB2.out.wrote hx1
        clear hx1 hB1 hB2 hstep hall hsum hz
        go_wp2_with fail
        refine (Rest_c _ _ _ _ _ hC1).mono ?_
        rintro e w6 ⟨rfl, rfl⟩
        go_wp2_with fail
        refine (Rest_c _ _ _ _ _ hC2).mono ?_
        rintro e w7 ⟨rfl, rfl⟩
        go_wp2
        go_ret
        exact ⟨rfl, hx.out⟩

set_option maxRecDepth 100000 in
theorem lifted (os : Os) (started : os.Started) (H : Type) (enc : TypeId × Value → H) :
    ReturnsInHanded {} Tryd.checked os 4 .any (fun w args => (Rows.growthSplitsSpec.pre enc Tryd.prog Tryd.f4 [] false w args ∧ laidMetH Tryd.prog laid w) ∧ sizedMet enc Tryd.prog Tryd.f4 (OpenSpec.ofChange Rows.growthSplitsSpec) false w args)
      (Rows.growthSplitsSpec.post enc Tryd.prog Tryd.f4 false true false false) := by
  refine wrap started (by kernel_rfl) Tryd.func4
    (ChangeSpec.witness_shaped (enc := enc) (C := Tryd.checked) (os := os) (X := fun w _ => laidMetH Tryd.prog laid w) false (World.laidAll Tryd.prog os laid) #[.int .i64 0, .int .i64 0, .int .i64 0, .int .i64 0, .slice none 0 0] 8 (World.laidAll_os _ _ _)
      (World.shaped_of_ZipB (by kernel_rfl) (by kernel_rfl)) (by kernel_rfl) (by kernel_rfl) (by kernel_rfl)
      (by rw [MakeChecks.laidMetH_plain _ _ _ (by kernel_rfl)]; exact laidMet_laidAll _ (by kernel_rfl) (by kernel_rfl))) ?_
  intro W base args ds gs before hval0 hW hE
  have hval : ∀ (j : Nat) t v, Tryd.f4.params[j]? = some t → args[j]? = some v → Value.okWide Tryd.prog W .any base t v := hval0
  have hW' := hW
  obtain ⟨p, q, hA0, hV, rfl, _, _⟩ := hW
  have hA : DataW.TrodAll enc Tryd.prog W 0 (fun _ => true) true Tryd.f4.params.toList args.toList ds p := hA0
  rw [Tryd.params4] at hA hval
  obtain ⟨v0, vs0, d0, ds0, p0, q0, hargs, rfl, rfl, h0, r0⟩ := trodAll_cons hA
  obtain ⟨v1, vs1, d1, ds1, p1, q1, rfl, rfl, rfl, h1, r1⟩ := trodAll_cons r0
  obtain ⟨v2, vs2, d2, ds2, p2, q2, rfl, rfl, rfl, h2, r2⟩ := trodAll_cons r1
  obtain ⟨v3, vs3, d3, ds3, p3, q3, rfl, rfl, rfl, h3, r3⟩ := trodAll_cons r2
  obtain ⟨v4, vs4, d4, ds4, p4, q4, rfl, rfl, rfl, h4, r4⟩ := trodAll_cons r3
  obtain ⟨rfl, rfl, rfl⟩ := trodAll_nil r4
  obtain rfl : args = #[v0, v1, v2, v3, v4] := by cases args; simp_all
  obtain ⟨rfl, rfl⟩ := trodVars_none hV
  obtain ⟨a0, rfl, rfl, rfl, w0⟩ := open_int Tryd.underlying3 (hval 0 3 v0 rfl rfl) h0
  obtain ⟨a1, rfl, rfl, rfl, w1⟩ := open_int Tryd.underlying3 (hval 1 3 v1 rfl rfl) h1
  obtain ⟨a2, rfl, rfl, rfl, w2⟩ := open_int Tryd.underlying2 (hval 2 2 v2 rfl rfl) h2
  obtain ⟨a3, rfl, rfl, rfl, w3⟩ := open_int Tryd.underlying2 (hval 3 2 v3 rfl rfl) h3
  obtain ⟨l4, s4, n4, b4, t4⟩ := open_slc (hval 4 40 v4 rfl rfl) h4
  clear hA0 hval0
  simp only [List.append_nil] at hW'
  refine (walk a0 w0 a1 w1 a2 w2 a3 w3 v4 l4 n4 b4 W s4).mono fun e W' ⟨he, hb⟩ => ?_
  subst he
  exact ⟨_, rfl, _, _, _, [], _, [], hW', (trodAll_cons_mk (shut_bool Tryd.underlying4 _) trodAll_mk0), (trodAll_cons_mk (shut_int Tryd.underlying3 w0) (trodAll_cons_mk (shut_int Tryd.underlying3 w1) (trodAll_cons_mk (shut_int Tryd.underlying2 w2) (trodAll_cons_mk (shut_int Tryd.underlying2 w3) (trodAll_cons_mk (t4 _ hb) trodAll_mk0))))), rfl, hb.below.frame _, fun h => by cases h⟩

theorem over : Rows.growthSplitsRow.holds Tryd.pinned (OpenSpec.ofChange Rows.growthSplitsSpec) :=
  OpenClaim.holds_of_wide 4 Tryd.f4 rfl rfl rfl rfl rfl rfl rfl ⟨rfl, rfl, rfl, rfl, rfl⟩ rfl rfl rfl rfl rfl (by kernel_rfl) Tryd.func4 (by kernel_rfl)
    (of_decide_eq_true (by kernel_rfl)) (by unfold Func.isWrapper; first | (rw [if_pos (by decide +kernel)]; kernel_rfl) | (rw [if_neg (by decide +kernel)]; exact ⟨rfl, rfl⟩))
    (fun os started H enc _ => lifted os started H enc)
end Go.Proofs.YteedbmmpkgpfhaaDoor.growthSplits
namespace Go.Proofs.YteedbmmpkgpfhaaDoor
theorem growthSplits_holds : Rows.GrowthSplitsCardSaid :=
  Claim7.holds_tied_plain_at .later [] [.data] true (true, "225b0824fabe58f814383c228e1f1ee1b73c46497dda64b3ca6af21c7fd91e33") true growthSplits.over (fun _ h => by cases h) (by kernel_rfl) (fun _ h => by cases h) growthSplits_row_tie rfl ⟨rfl, rfl⟩ (by kernel_rfl) rfl
    (fun f fn hf hfn => by
      obtain rfl : f = 4 := Option.some.inj ((show Tryd.prog.funcNamed "quittance/quittancelaw12.GrowthSplits" = some 4 by kernel_rfl).symm.trans hf) |>.symm
      obtain rfl : fn = Tryd.f4 := (Option.some.inj (Tryd.func4.symm.trans hfn)).symm
      exact ⟨by kernel_rfl, fun j t ht => by
        rw [Tryd.params4] at ht
        have hm : t ∈ [3, 3, 2, 2, 40] := by simpa using Array.mem_of_getElem? ht
        have hall : ([3, 3, 2, 2, 40].all fun u => !Tryd.prog.wantsStandIn u) = true := by kernel_rfl
        exact (show Tryd.prog.wantsStandIn t = false by simpa using List.all_eq_true.1 hall t hm)⟩)
    (by kernel_rfl)
#print axioms growthSplits_holds
end Go.Proofs.YteedbmmpkgpfhaaDoor
