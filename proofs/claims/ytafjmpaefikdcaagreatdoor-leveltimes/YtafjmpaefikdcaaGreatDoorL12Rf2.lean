
/- The document's own Bear of layer 12, walked: no statement of the seat is proved here. -/
import Derived.Test.YtafjmpaefikdcaaGreatDoorL12Rf1
namespace Go.Proofs.YtafjmpaefikdcaaGreatDoor.L12
open Go.RowKit
set_option linter.unusedVariables false

theorem Whole_s (C : Nat) (P : Int) (w : World) (c0 : w.cell? ⟨C, 0, none⟩ = some (.int .i64 P)) (P0 : 0 < P) (P1 : P ≤ 133590) :
    Calls Tryz.prog 67 #[.pointer (some ⟨C, 0, none⟩)] w fun e w' => e = .returned (.int .i64 (1000000000 * P)) ∧ w' = w := by
  go_enter Tryz.func67, Tryz.ntmps67
  go_wp2
  go_ret
  exact ⟨rfl, rfl⟩
/-- What the document's Bear answers, and leaves. -/
def RAns (m W r E : Int) (w : World) (C : Nat) (e : Ending) (w' : World) : Prop :=
  (bq m W r E ≤ 1000000000000000 → e = .returned (.tuple #[.int .i64 (bq m W r E), .int .i64 0]) ∧ Ext (w.setCell ⟨C, 2, none⟩ (.int .i64 (br m W r E))) w') ∧
  (¬ bq m W r E ≤ 1000000000000000 → e = .returned (.tuple #[.int .i64 0, .int .i64 3]) ∧ Ext w w')
theorem val_two (b : Int) (h : 0 ≤ b) : val [b % 1000000000, b / 1000000000] = b := by
  show b % 1000000000 + 1000000000 * (b / 1000000000 + 1000000000 * 0) = b
  omega
set_option maxRecDepth 100000 in
set_option maxHeartbeats 4000000 in
theorem rBear_1 (C : Nat) (P r b rt p : Int) (w : World) (hC : Rbr w C P true r) (hr : Rst 1 (1000000000 * P) r) (P0 : 0 < P) (P1 : P ≤ 133590) (ha : Ask b rt p) :
    Calls Tryz.prog 43 #[.pointer (some ⟨C, 0, none⟩), .int .i64 b, .int .i64 rt, .int .i64 p] w fun e w' => RAns 1 (1000000000 * P) r (b * (rt * p)) w C e w' := by
  obtain ⟨⟨b0, b1⟩, ⟨t0, t1⟩, ⟨p0, p1⟩⟩ := ha
  have hW : 0 < 1000000000 * P := by omega
  obtain ⟨r0, r1⟩ := hr.bd hW
  obtain ⟨E, hE⟩ : ∃ E, b * (rt * p) = E := ⟨_, rfl⟩
  rw [hE]
  replace hE := show Hid _ from hE
  replace hr : Hid (Rst 1 (1000000000 * P) r) := hr
  go_enter Tryz.func43, Tryz.ntmps43
  go_wp2_with fail
  refine (times_c w.heap.size 2 2 [b % 1000000000, b / 1000000000] rt _ rfl (by decide) (by decide) ?_ t0 t1 ?_).mono ?_
  · intro x hx
    simp at hx
    rcases hx with rfl | rfl <;> constructor <;> omega
  · intro k x hk
    match k, hk with
    | 0, hk => simp at hk; subst hk; simp [go_sem]
    | 1, hk => simp at hk; subst hk; simp [go_sem]
  rintro e w1 ⟨g, cc, o, rfl, hrow, hdo, hvo, n1, n2, hx1⟩
  rw [val_two b b0] at hvo
  obtain ⟨n, hn⟩ : ∃ n, o.length = n := ⟨_, rfl⟩
  rw [hn] at n1 n2 ⊢
  have hx : Hid (Ext w w1) := ((Ext.refl w).alloc _ _).trans hx1
  replace hn := show Hid _ from hn
  replace hrow := show Hid _ from hrow
  replace hdo : Hid (Dgs o) := hdo
  replace hvo := show Hid _ from hvo
  clear hx1
  go_wp2_with fail
  refine (times_c g n cc o p _ hn.out (by omega) (by omega) hdo.out p0 (by omega) hrow.out).mono ?_
  clear hrow hdo hn
  rintro e w2 ⟨g, cc, o2, rfl, hrow, hdo, hvo2, m1, m2, hx1⟩
  rw [hvo.out] at hvo2
  obtain ⟨m, hn⟩ : ∃ m, o2.length = m := ⟨_, rfl⟩
  rw [hn] at m1 m2 ⊢
  replace hx : Hid (Ext w w2) := hx.out.trans hx1
  replace hn := show Hid _ from hn
  replace hrow := show Hid _ from hrow
  replace hdo : Hid (Dgs o2) := hdo
  replace hvo2 : Hid (val o2 = E) := by
    show _ = _
    rw [hvo2, ← hE.out, Int.mul_comm p, Int.mul_comm rt b, Int.mul_assoc]
  have hC2 : Rbr w2 C P true r := hC.ext hx.out
  replace hC := show Hid _ from hC
  have c0 := hC2.c0; have c1 := hC2.c1; have c2 := hC2.c2
  clear hx1 hC2 hvo
  go_wp2_with fail
  refine wp_region_still_tail 8 (by kernel_rfl) (by kernel_rfl) ?_
  simp only [List.take_succ_cons, List.take_zero, List.drop_succ_cons, List.drop_zero]
  still_step
  still_step
  still_step
  still_step
  still_step
  still_step
  still_call (Whole_s C P _ c0 P0 P1)
  still_step
  refine wpStill_nil ?_
  go_wp2_with fail
  refine (plus_c g m cc o2 (r + 1000000000 * P) _ hn.out (by omega) (by omega) hdo.out (by omega) (by omega) (Row.ext hrow.out ((Ext.refl w2).drew))).mono ?_
  clear hrow hdo hn
  rintro e w3 ⟨g, cc, o3, rfl, hrow, hdo, hvo3, k1, k2, hx1⟩
  rw [hvo2.out] at hvo3
  obtain ⟨N, hn⟩ : ∃ N, o3.length = N := ⟨_, rfl⟩
  rw [hn] at k1 k2 ⊢
  replace hx : Hid (Ext w w3) := hx.out.trans (((Ext.refl w2).drew).trans hx1)
  replace hn : Hid (o3.length = N) := hn
  replace hrow : Hid (Row w3 g o3) := hrow
  replace hdo : Hid (Dgs o3) := hdo
  replace hvo3 : Hid (val o3 = E + (r + 1000000000 * P)) := hvo3
  have hC3 : Rbr w3 C P true r := hC.out.ext hx.out
  have c0 := hC3.c0; have c1 := hC3.c1; have c2 := hC3.c2; have cf := hC3.fz
  have hC0 : Hid (Rbr w3 C P true r) := hC3
  have N2 : 2 ≤ N := by omega
  have N3 : N ≤ 20 := by omega
  clear hx1 hC3 hvo2 hC n1 n2 m1 m2 k1
  go_wp2_with fail
  go_loopw [11, 12, 13] (fun q s i wr => ∃ (k : Nat) (q0 s0 : Int), i = .int .i64 k ∧ q = .int .i64 q0 ∧ s = .int .i64 s0 ∧ k + 1 ≤ N ∧ 0 ≤ q0 ∧ q0 ≤ 4000001000000000 ∧ 0 ≤ s0 ∧ s0 < P ∧ Hid (val (o3.drop (k + 1)) = q0 * P + s0) ∧ Hid (Ext w3 wr)) (fun _ _ i _ => (intOf i).toNat)
  case atStart => exact ⟨N - 1, 0, 0, by rw [show ((N - 1 : Nat) : Int) = (N : Int) - 1 by omega], rfl, rfl, by omega, by omega, by omega, by omega, P0, (by show _ = _; rw [List.drop_eq_nil_of_le (by rw [hn.out]; omega)]; show (0 : Int) = 0 * P + 0; omega), Ext.refl w3⟩
  case round =>
    obtain ⟨k, q0, s0, rfl, rfl, rfl, hk, z0, z1, y0, y1, hq, hxr⟩ := hrel
    by_cases hlt : 1 ≤ k
    · by_cases hbig : 4000000 < q0
      · have hno : Hid (¬ bq 1 (1000000000 * P) r E ≤ 1000000000000000) := fin_over P0 P1 hr.out hvo3.out hdo.out hlt (by rw [hn.out]; exact hk) hq.out y0 hbig
        have hx2 : Hid (Ext w wr) := hx.out.trans hxr.out
        clear hq hr hvo3 hdo hxr hx
        go_wp2
        go_ret2
        exact ⟨fun k => absurd k (by have := hno.out; omega), fun _ => ⟨rfl, hx2.out⟩⟩
      · have hlk : k < N := by omega
        obtain ⟨x, hxk⟩ : ∃ x, o3[k]? = some x := ⟨_, List.getElem?_eq_getElem (by rw [hn.out]; exact hlk)⟩
        obtain ⟨x0, x1⟩ := hdo.out x (List.mem_of_getElem? hxk)
        have kc := hxr.out.cell_of (hrow.out k x hxk)
        have c0 := hxr.out.cell_of c0
        obtain ⟨V, hV⟩ : ∃ V, s0 * 1000000000 + x = V := ⟨_, rfl⟩
        have V0 : 0 ≤ V := by omega
        have V1 : V < 1000000000 * P := by omega
        obtain ⟨A, hA⟩ : ∃ A, V / P = A := ⟨_, rfl⟩
        obtain ⟨D, hD⟩ : ∃ D, V % P = D := ⟨_, rfl⟩
        have A0 : 0 ≤ A := by rw [← hA]; exact Int.ediv_nonneg V0 (by omega)
        have A1 : A < 1000000000 := by rw [← hA]; exact Int.ediv_lt_of_lt_mul P0 V1
        have D0 : 0 ≤ D := by rw [← hD]; exact Int.emod_nonneg _ (by omega)
        have D1 : D < P := by rw [← hD]; exact Int.emod_lt_of_pos _ P0
        have hq2 : Hid (val (o3.drop k) = (q0 * 1000000000 + A) * P + D) := by
          show _ = _
          rw [val_drop hxk, hq.out]
          have := Int.mul_ediv_add_emod V P
          rw [hA, hD, Int.mul_comm] at this
          rw [Int.add_mul, Int.mul_right_comm]
          omega
        have hk1 : (((k - 1 : Nat) : Int)) = (k : Int) - 1 := by omega
        have hk1' : k - 1 + 1 = k := by omega
        replace hk1 := show Hid _ from hk1
        replace hk1' := show Hid _ from hk1'
        have j0 := Late.cell c0
        have hNe1 : Nonempty (Late wr) := ⟨⟨_, Ext.refl _⟩⟩
        clear hq hxk
        go_wp2_with fail
        refine wp_region_late (by kernel_rfl) (by kernel_rfl) ?_
        repeat (go_big_quiet_step (fail))
        refine wpQuiet_nil ?_
        intro w4 hw'
        have hx4 : Ext wr w4 := late_ext hw'
        replace hxr : Hid (Ext w3 w4) := hxr.out.trans hx4
        clear hw' j0 hNe1 kc hx4
        go_wp2
        go_roundw
        case rel => exact ⟨k - 1, q0 * 1000000000 + A, D, by rw [hk1.out], (by first | rfl | rw [hA]), (by first | rfl | rw [hD]), by omega, by omega, by omega, D0, D1, (by rw [hk1'.out]; exact hq2), hxr⟩
        case measure => simp [intOf]; omega
    · obtain rfl : k = 0 := by omega
      obtain ⟨x, hxk⟩ : ∃ x, o3[0]? = some x := ⟨_, List.getElem?_eq_getElem (by rw [hn.out]; omega)⟩
      obtain ⟨x0, x1⟩ := hdo.out x (List.mem_of_getElem? hxk)
      have kc := hxr.out.cell_of (hrow.out 0 x hxk)
      have hC4 : Rbr wr C P true r := hC0.out.ext hxr.out
      have c0 := hC4.c0; have c1 := hC4.c1; have c2 := hC4.c2; have cf := hC4.fz
      obtain ⟨S, hS⟩ : ∃ S, s0 * 1000000000 + x = S := ⟨_, rfl⟩
      have S0 : 0 ≤ S := by omega
      have S1 : S < 1000000000 * P := by omega
      have hT : E + (r + 1000000000 * P) = q0 * (1000000000 * P) + S := by
        rw [← hvo3.out]
        have := val_drop hxk
        rw [List.drop_zero] at this
        rw [this, show 0 + 1 = 1 from rfl, show val (o3.drop 1) = q0 * P + s0 from hq.out, Int.mul_left_comm q0]
        omega
      obtain ⟨Q, hQ⟩ : ∃ Q, q0 - 1 = Q := ⟨_, rfl⟩
      replace hx : Hid (Ext w wr) := hx.out.trans hxr.out
      clear hxr hC4 hC0 hq hxk
      by_cases hu : 1000000000 * P - S ≤ S
      · have hf := fin_up hW hT S0 S1 hu
        rw [hQ] at hf
        have e1 : Hid (bq 1 (1000000000 * P) r E = Q + 1) := hf.1
        have e2 : Hid (br 1 (1000000000 * P) r E = S - 1000000000 * P) := hf.2
        by_cases hbg : 1000000000000000 < Q + 1
        · clear hT
          go_wp2_with (go_at_call 67; refine (Whole_s C P _ c0 P0 P1).mono ?_; rintro e w' ⟨rfl, rfl⟩)
          go_ret2
          exact ⟨fun k => absurd k (by rw [e1.out]; omega), fun _ => ⟨rfl, hx.out⟩⟩
        · clear hT
          go_wp2_with (go_at_call 67; refine (Whole_s C P _ c0 P0 P1).mono ?_; rintro e w' ⟨rfl, rfl⟩)
          go_ret2
          exact ⟨fun _ => ⟨by rw [e1.out]; rfl, by rw [e2.out]; exact hx.out.put _⟩, fun k => absurd (show _ ≤ (1000000000000000 : Int) by rw [e1.out]; omega) k⟩
      · have hf := fin_down hW hT S0 S1 hu
        rw [hQ] at hf
        have e1 : Hid (bq 1 (1000000000 * P) r E = Q) := hf.1
        have e2 : Hid (br 1 (1000000000 * P) r E = S) := hf.2
        by_cases hbg : 1000000000000000 < Q
        · clear hT
          go_wp2_with (go_at_call 67; refine (Whole_s C P _ c0 P0 P1).mono ?_; rintro e w' ⟨rfl, rfl⟩)
          go_ret2
          exact ⟨fun k => absurd k (by rw [e1.out]; omega), fun _ => ⟨rfl, hx.out⟩⟩
        · clear hT
          go_wp2_with (go_at_call 67; refine (Whole_s C P _ c0 P0 P1).mono ?_; rintro e w' ⟨rfl, rfl⟩)
          go_ret2
          exact ⟨fun _ => ⟨by rw [e1.out]; rfl, by rw [e2.out]; exact hx.out.put _⟩, fun k => absurd (show _ ≤ (1000000000000000 : Int) by rw [e1.out]; omega) k⟩
set_option maxRecDepth 100000 in
set_option maxHeartbeats 4000000 in
theorem rBear_3 (C : Nat) (P r b rt p : Int) (w : World) (hC : Rbr w C P false r) (hr : Rst 3 (1000000000 * P) r) (P0 : 0 < P) (P1 : P ≤ 133590) (ha : Ask b rt p) :
    Calls Tryz.prog 43 #[.pointer (some ⟨C, 0, none⟩), .int .i64 b, .int .i64 rt, .int .i64 p] w fun e w' => RAns 3 (1000000000 * P) r (b * (rt * p)) w C e w' := by
  obtain ⟨⟨b0, b1⟩, ⟨t0, t1⟩, ⟨p0, p1⟩⟩ := ha
  have hW : 0 < 1000000000 * P := by omega
  obtain ⟨r0, r1⟩ := hr.bd hW
  obtain ⟨E, hE⟩ : ∃ E, b * (rt * p) = E := ⟨_, rfl⟩
  rw [hE]
  replace hE := show Hid _ from hE
  replace hr : Hid (Rst 3 (1000000000 * P) r) := hr
  go_enter Tryz.func43, Tryz.ntmps43
  go_wp2_with fail
  refine (times_c w.heap.size 2 2 [b % 1000000000, b / 1000000000] rt _ rfl (by decide) (by decide) ?_ t0 t1 ?_).mono ?_
  · intro x hx
    simp at hx
    rcases hx with rfl | rfl <;> constructor <;> omega
  · intro k x hk
    match k, hk with
    | 0, hk => simp at hk; subst hk; simp [go_sem]
    | 1, hk => simp at hk; subst hk; simp [go_sem]
  rintro e w1 ⟨g, cc, o, rfl, hrow, hdo, hvo, n1, n2, hx1⟩
  rw [val_two b b0] at hvo
  obtain ⟨n, hn⟩ : ∃ n, o.length = n := ⟨_, rfl⟩
  rw [hn] at n1 n2 ⊢
  have hx : Hid (Ext w w1) := ((Ext.refl w).alloc _ _).trans hx1
  replace hn := show Hid _ from hn
  replace hrow := show Hid _ from hrow
  replace hdo : Hid (Dgs o) := hdo
  replace hvo := show Hid _ from hvo
  clear hx1
  go_wp2_with fail
  refine (times_c g n cc o p _ hn.out (by omega) (by omega) hdo.out p0 (by omega) hrow.out).mono ?_
  clear hrow hdo hn
  rintro e w2 ⟨g, cc, o2, rfl, hrow, hdo, hvo2, m1, m2, hx1⟩
  rw [hvo.out] at hvo2
  obtain ⟨m, hn⟩ : ∃ m, o2.length = m := ⟨_, rfl⟩
  rw [hn] at m1 m2 ⊢
  replace hx : Hid (Ext w w2) := hx.out.trans hx1
  replace hn := show Hid _ from hn
  replace hrow := show Hid _ from hrow
  replace hdo : Hid (Dgs o2) := hdo
  replace hvo2 : Hid (val o2 = E) := by
    show _ = _
    rw [hvo2, ← hE.out, Int.mul_comm p, Int.mul_comm rt b, Int.mul_assoc]
  have hC2 : Rbr w2 C P false r := hC.ext hx.out
  replace hC := show Hid _ from hC
  have c0 := hC2.c0; have c1 := hC2.c1; have c2 := hC2.c2
  clear hx1 hC2 hvo
  go_wp2_with fail
  refine wp_region_still_tail 8 (by kernel_rfl) (by kernel_rfl) ?_
  simp only [List.take_succ_cons, List.take_zero, List.drop_succ_cons, List.drop_zero]
  still_step
  still_step
  still_step
  still_step
  still_step
  still_step
  still_call (Whole_s C P _ c0 P0 P1)
  still_step
  refine wpStill_nil ?_
  go_wp2_with fail
  refine (plus_c g m cc o2 (r + 1000000000 * P) _ hn.out (by omega) (by omega) hdo.out (by omega) (by omega) (Row.ext hrow.out ((Ext.refl w2).drew))).mono ?_
  clear hrow hdo hn
  rintro e w3 ⟨g, cc, o3, rfl, hrow, hdo, hvo3, k1, k2, hx1⟩
  rw [hvo2.out] at hvo3
  obtain ⟨N, hn⟩ : ∃ N, o3.length = N := ⟨_, rfl⟩
  rw [hn] at k1 k2 ⊢
  replace hx : Hid (Ext w w3) := hx.out.trans (((Ext.refl w2).drew).trans hx1)
  replace hn : Hid (o3.length = N) := hn
  replace hrow : Hid (Row w3 g o3) := hrow
  replace hdo : Hid (Dgs o3) := hdo
  replace hvo3 : Hid (val o3 = E + (r + 1000000000 * P)) := hvo3
  have hC3 : Rbr w3 C P false r := hC.out.ext hx.out
  have c0 := hC3.c0; have c1 := hC3.c1; have c2 := hC3.c2; have cf := hC3.fz
  have hC0 : Hid (Rbr w3 C P false r) := hC3
  have N2 : 2 ≤ N := by omega
  have N3 : N ≤ 20 := by omega
  clear hx1 hC3 hvo2 hC n1 n2 m1 m2 k1
  go_wp2_with fail
  go_loopw [11, 12, 13] (fun q s i wr => ∃ (k : Nat) (q0 s0 : Int), i = .int .i64 k ∧ q = .int .i64 q0 ∧ s = .int .i64 s0 ∧ k + 1 ≤ N ∧ 0 ≤ q0 ∧ q0 ≤ 4000001000000000 ∧ 0 ≤ s0 ∧ s0 < P ∧ Hid (val (o3.drop (k + 1)) = q0 * P + s0) ∧ Hid (Ext w3 wr)) (fun _ _ i _ => (intOf i).toNat)
  case atStart => exact ⟨N - 1, 0, 0, by rw [show ((N - 1 : Nat) : Int) = (N : Int) - 1 by omega], rfl, rfl, by omega, by omega, by omega, by omega, P0, (by show _ = _; rw [List.drop_eq_nil_of_le (by rw [hn.out]; omega)]; show (0 : Int) = 0 * P + 0; omega), Ext.refl w3⟩
  case round =>
    obtain ⟨k, q0, s0, rfl, rfl, rfl, hk, z0, z1, y0, y1, hq, hxr⟩ := hrel
    by_cases hlt : 1 ≤ k
    · by_cases hbig : 4000000 < q0
      · have hno : Hid (¬ bq 3 (1000000000 * P) r E ≤ 1000000000000000) := fin_over P0 P1 hr.out hvo3.out hdo.out hlt (by rw [hn.out]; exact hk) hq.out y0 hbig
        have hx2 : Hid (Ext w wr) := hx.out.trans hxr.out
        clear hq hr hvo3 hdo hxr hx
        go_wp2
        go_ret2
        exact ⟨fun k => absurd k (by have := hno.out; omega), fun _ => ⟨rfl, hx2.out⟩⟩
      · have hlk : k < N := by omega
        obtain ⟨x, hxk⟩ : ∃ x, o3[k]? = some x := ⟨_, List.getElem?_eq_getElem (by rw [hn.out]; exact hlk)⟩
        obtain ⟨x0, x1⟩ := hdo.out x (List.mem_of_getElem? hxk)
        have kc := hxr.out.cell_of (hrow.out k x hxk)
        have c0 := hxr.out.cell_of c0
        obtain ⟨V, hV⟩ : ∃ V, s0 * 1000000000 + x = V := ⟨_, rfl⟩
        have V0 : 0 ≤ V := by omega
        have V1 : V < 1000000000 * P := by omega
        obtain ⟨A, hA⟩ : ∃ A, V / P = A := ⟨_, rfl⟩
        obtain ⟨D, hD⟩ : ∃ D, V % P = D := ⟨_, rfl⟩
        have A0 : 0 ≤ A := by rw [← hA]; exact Int.ediv_nonneg V0 (by omega)
        have A1 : A < 1000000000 := by rw [← hA]; exact Int.ediv_lt_of_lt_mul P0 V1
        have D0 : 0 ≤ D := by rw [← hD]; exact Int.emod_nonneg _ (by omega)
        have D1 : D < P := by rw [← hD]; exact Int.emod_lt_of_pos _ P0
        have hq2 : Hid (val (o3.drop k) = (q0 * 1000000000 + A) * P + D) := by
          show _ = _
          rw [val_drop hxk, hq.out]
          have := Int.mul_ediv_add_emod V P
          rw [hA, hD, Int.mul_comm] at this
          rw [Int.add_mul, Int.mul_right_comm]
          omega
        have hk1 : (((k - 1 : Nat) : Int)) = (k : Int) - 1 := by omega
        have hk1' : k - 1 + 1 = k := by omega
        replace hk1 := show Hid _ from hk1
        replace hk1' := show Hid _ from hk1'
        have j0 := Late.cell c0
        have hNe1 : Nonempty (Late wr) := ⟨⟨_, Ext.refl _⟩⟩
        clear hq hxk
        go_wp2_with fail
        refine wp_region_late (by kernel_rfl) (by kernel_rfl) ?_
        repeat (go_big_quiet_step (fail))
        refine wpQuiet_nil ?_
        intro w4 hw'
        have hx4 : Ext wr w4 := late_ext hw'
        replace hxr : Hid (Ext w3 w4) := hxr.out.trans hx4
        clear hw' j0 hNe1 kc hx4
        go_wp2
        go_roundw
        case rel => exact ⟨k - 1, q0 * 1000000000 + A, D, by rw [hk1.out], (by first | rfl | rw [hA]), (by first | rfl | rw [hD]), by omega, by omega, by omega, D0, D1, (by rw [hk1'.out]; exact hq2), hxr⟩
        case measure => simp [intOf]; omega
    · obtain rfl : k = 0 := by omega
      obtain ⟨x, hxk⟩ : ∃ x, o3[0]? = some x := ⟨_, List.getElem?_eq_getElem (by rw [hn.out]; omega)⟩
      obtain ⟨x0, x1⟩ := hdo.out x (List.mem_of_getElem? hxk)
      have kc := hxr.out.cell_of (hrow.out 0 x hxk)
      have hC4 : Rbr wr C P false r := hC0.out.ext hxr.out
      have c0 := hC4.c0; have c1 := hC4.c1; have c2 := hC4.c2; have cf := hC4.fz
      obtain ⟨S, hS⟩ : ∃ S, s0 * 1000000000 + x = S := ⟨_, rfl⟩
      have S0 : 0 ≤ S := by omega
      have S1 : S < 1000000000 * P := by omega
      have hT : E + (r + 1000000000 * P) = q0 * (1000000000 * P) + S := by
        rw [← hvo3.out]
        have := val_drop hxk
        rw [List.drop_zero] at this
        rw [this, show 0 + 1 = 1 from rfl, show val (o3.drop 1) = q0 * P + s0 from hq.out, Int.mul_left_comm q0]
        omega
      obtain ⟨Q, hQ⟩ : ∃ Q, q0 - 1 = Q := ⟨_, rfl⟩
      replace hx : Hid (Ext w wr) := hx.out.trans hxr.out
      clear hxr hC4 hC0 hq hxk
      have hf := fin_three hW hT S0 S1
      rw [hQ] at hf
      have e1 : Hid (bq 3 (1000000000 * P) r E = Q) := hf.1
      have e2 : Hid (br 3 (1000000000 * P) r E = S) := hf.2
      by_cases hbg : 1000000000000000 < Q
      · clear hT
        go_wp2_with (go_at_call 67; refine (Whole_s C P _ c0 P0 P1).mono ?_; rintro e w' ⟨rfl, rfl⟩)
        go_ret2
        exact ⟨fun k => absurd k (by rw [e1.out]; omega), fun _ => ⟨rfl, hx.out⟩⟩
      · clear hT
        go_wp2_with (go_at_call 67; refine (Whole_s C P _ c0 P0 P1).mono ?_; rintro e w' ⟨rfl, rfl⟩)
        go_ret2
        exact ⟨fun _ => ⟨by rw [e1.out]; rfl, by rw [e2.out]; exact hx.out.put _⟩, fun k => absurd (show _ ≤ (1000000000000000 : Int) by rw [e1.out]; omega) k⟩
theorem rBear_c (C : Nat) (P r b rt p m : Int) (w : World) (hC : Rbr w C P (decide (m = 1)) r) (hr : Rst m (1000000000 * P) r) (P0 : 0 < P) (P1 : P ≤ 133590) (ha : Ask b rt p) :
    Calls Tryz.prog 43 #[.pointer (some ⟨C, 0, none⟩), .int .i64 b, .int .i64 rt, .int .i64 p] w fun e w' => RAns m (1000000000 * P) r (b * (rt * p)) w C e w' := by
  rcases hr.way with rfl | rfl
  · exact rBear_1 C P r b rt p w hC hr P0 P1 ha
  · exact rBear_3 C P r b rt p w hC hr P0 P1 ha
end Go.Proofs.YtafjmpaefikdcaaGreatDoor.L12