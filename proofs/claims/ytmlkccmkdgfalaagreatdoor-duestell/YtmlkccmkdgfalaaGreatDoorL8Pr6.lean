
/- What the rules of resets and tiers of package product answer, as contracts: no statement of the seat is proved here. -/
import Derived.Test.YtmlkccmkdgfalaaGreatDoorL8Pr5
namespace Go.Proofs.YtmlkccmkdgfalaaGreatDoor.L8
open Go.RowKit
set_option linter.unusedVariables false

/-- A pair in a block of its own, that may be written. -/
structure Two (w : World) (b : Nat) (x y : Int) : Prop where
  c0 : w.cell? ⟨b, 0, none⟩ = some (.int .i64 x)
  c1 : w.cell? ⟨b, 1, none⟩ = some (.int .i64 y)
  f0 : w.frozen? ⟨b, 0, none⟩ = false
  f1 : w.frozen? ⟨b, 1, none⟩ = false
theorem Two.ext {w w' : World} {b : Nat} {x y : Int} (h : Two w b x y) (hx : Ext w w') : Two w' b x y :=
  ⟨hx.cell_of h.c0, hx.cell_of h.c1, hx.froz_of h.c0 h.f0, hx.froz_of h.c1 h.f1⟩
theorem two_new (w : World) (t : TypeId) : ∃ W b, w.alloc (.cells #[.int .i64 0, .int .i64 0] t) = W ∧ w.heap.size = b ∧ Ext w W ∧ Two W b 0 0 :=
  ⟨_, _, rfl, rfl, (Ext.refl w).alloc _ _, by simp [go_sem], by simp [go_sem], by simp [go_sem], by simp [go_sem]⟩
theorem Two.set {w w0 : World} {b : Nat} {x y : Int} (h : Two w b x y) (hb : w0.heap.size ≤ b) (hx : Ext w0 w) (u v : Int) : ∃ W, (w.setCell ⟨b, 0, none⟩ (.int .i64 u)).setCell ⟨b, 1, none⟩ (.int .i64 v) = W ∧ Ext w0 W ∧ Two W b u v :=
  ⟨_, rfl, (hx.setCell hb _).setCell hb _, by rw [other _ (Or.inr (by omega))]; exact same h.c0, same (by rw [other _ (Or.inr (by omega))]; exact h.c1), by simpa using h.f0, by simpa using h.f1⟩
theorem rsB_at {t a x y : Int} {l : List (Int × Int)} : rsB t a ((x, y) :: l) = (decide (a < x) && (decide (x < t) && (lz y 0 1000000000 && rsB t x l))) := rfl
set_option maxHeartbeats 2000000 in
theorem resets_x (b : Nat) (s off c : Nat) (l : List (Int × Int)) (tm : Int) (w : World) (hl : l.length ≤ 20) (c0 : w.cell? ⟨b, 5, none⟩ = some (.int .i64 tm)) (c1 : w.cell? ⟨b, 8, none⟩ = some (.slice (some ⟨s, off, none⟩) l.length c))
    (hc : ∀ (k : Nat) (x y : Int), l[k]? = some (x, y) → w.cell? ⟨s, off + k * 2, none⟩ = some (.int .i64 x) ∧ w.cell? ⟨s, off + k * 2 + 1, none⟩ = some (.int .i64 y)) :
    Calls Tryz.prog 84 #[.pointer (some ⟨b, 0, none⟩)] w fun e w' => e = .returned (.bool (rsB tm 0 l)) ∧ Ext w w' := by
  obtain ⟨n, hn⟩ : ∃ n, l.length = n := ⟨_, rfl⟩
  rw [hn] at hl c1
  replace hn := show Hid _ from hn
  replace hc := show Hid _ from hc
  have h20 : ¬ (20 : Int) < (n : Int) := by omega
  obtain ⟨W0, A, hW0, hA, hx0, hT⟩ := two_new w 91
  have k1 := hx0.cell_of c1
  have hAlo : Hid (w.heap.size ≤ A) := by show _ ≤ _; omega
  replace hx0 := show Hid _ from hx0
  replace hT := show Hid (Two W0 A 0 0) from hT
  go_enter Tryz.func84, Tryz.ntmps84
  go_wp2_with fail
  go_loopw [17] (fun i wr => ∃ (k : Nat) (X Y : Int), k ≤ n ∧ i = .int .i64 k ∧ Hid (Two wr A X Y) ∧ Hid (rsB tm 0 l = rsB tm X (l.drop k)) ∧ Hid (Ext w wr)) (fun i _ => n - (RowKit.intOf i).toNat)
  case atStart => exact ⟨0, 0, 0, Nat.zero_le _, rfl, hT, rfl, hx0⟩
  case round =>
    clear hx0 hW0 hA k1 hT
    obtain ⟨k, X, Y, hk, rfl, hT, hR, hx⟩ := hrel
    by_cases hlt : k < n
    · obtain ⟨⟨x, y⟩, hV⟩ : ∃ V, l[k]? = some V := ⟨_, List.getElem?_eq_getElem (by have := hn.out; omega)⟩
      have hlt' : (k : Int) < (n : Int) := by omega
      have s0 := hx.out.cell_of (hc.out k x y hV).1
      have s1 := hx.out.cell_of (hc.out k x y hV).2
      have hd := show Hid _ from drop_at hV
      obtain ⟨W1, B, hW1, hB, hx1, hN⟩ := two_new wr 91
      obtain ⟨W2, hW2, hx2, hN2⟩ := hN.set (w0 := wr) (by omega) hx1 x y
      have t0 := hx1.cell_of s0
      have t1 := hx1.cell_of s1
      have m0 := hN.c0; have m1 := hN.c1; have m2 := hN.f0; have m3 := hN.f1
      have j0 := Late.cell hN2.c0; have j1 := Late.cell hN2.c1
      have j2 := Late.cell (hx2.cell_of hT.out.c0)
      have j3 := Late.cell (hx2.cell_of (hx.out.cell_of c0))
      have hNe1 : Nonempty (Late W2) := ⟨⟨_, Ext.refl _⟩⟩
      clear hV hN
      replace hx1 := show Hid _ from hx1
      by_cases h1 : x ≤ X
      · have d1 : decide (x ≤ X) = true := decide_eq_true h1
        have hf : Hid (rsB tm 0 l = false) := by show _ = _; rw [hR.out, hd.out, rsB_at]; rw [decide_eq_false (by omega)]; rfl
        clear hR hd
        go_wp2_with fail
        refine wp_region_late (by kernel_rfl) (by kernel_rfl) ?_
        repeat (go_big_quiet_step (fail))
        refine wpQuiet_nil ?_
        intro W3 hw'
        replace hx : Hid (Ext w W3) := hx.out.trans (hx2.trans (late_ext hw'))
        replace hT : Hid (Two W3 A X Y) := (hT.out.ext hx2).ext (late_ext hw')
        replace hN2 : Hid (Two W3 B x y) := hN2.ext (late_ext hw')
        clear hw' j0 j1 j2 j3 hx2
        go_wp2
        go_ret
        exact ⟨ret_bool hf.out.symm, hx.out⟩
      · have d1 : decide (x ≤ X) = false := decide_eq_false h1
        have d1' : decide (X < x) = true := decide_eq_true (by omega)
        by_cases h2 : tm ≤ x
        · have d2 : decide (tm ≤ x) = true := decide_eq_true h2
          have hf : Hid (rsB tm 0 l = false) := by show _ = _; rw [hR.out, hd.out, rsB_at]; rw [d1', decide_eq_false (by omega)]; rfl
          clear hR hd
          go_wp2_with fail
          refine wp_region_late (by kernel_rfl) (by kernel_rfl) ?_
          repeat (go_big_quiet_step (fail))
          refine wpQuiet_nil ?_
          intro W3 hw'
          replace hx : Hid (Ext w W3) := hx.out.trans (hx2.trans (late_ext hw'))
          replace hT : Hid (Two W3 A X Y) := (hT.out.ext hx2).ext (late_ext hw')
          replace hN2 : Hid (Two W3 B x y) := hN2.ext (late_ext hw')
          clear hw' j0 j1 j2 j3 hx2
          go_wp2
          go_ret
          exact ⟨ret_bool hf.out.symm, hx.out⟩
        · have d2 : decide (tm ≤ x) = false := decide_eq_false h2
          have d2' : decide (x < tm) = true := decide_eq_true (by omega)
          cases h3 : lz y 0 1000000000
          · replace h3 := show Hid _ from h3
            have hf : Hid (rsB tm 0 l = false) := by show _ = _; rw [hR.out, hd.out, rsB_at]; rw [d1', d2', h3.out]; rfl
            clear hR hd
            go_wp2_with fail
            refine wp_region_late (by kernel_rfl) (by kernel_rfl) ?_
            repeat (go_big_quiet_step ((first | (go_at_call 108; exact late_same (rate_x _ false h3.out _)))))
            refine wpQuiet_nil ?_
            intro W3 hw'
            replace hx : Hid (Ext w W3) := hx.out.trans (hx2.trans (late_ext hw'))
            replace hT : Hid (Two W3 A X Y) := (hT.out.ext hx2).ext (late_ext hw')
            replace hN2 : Hid (Two W3 B x y) := hN2.ext (late_ext hw')
            clear hw' j0 j1 j2 j3 hx2
            go_wp2
            go_ret
            exact ⟨ret_bool hf.out.symm, hx.out⟩
          · replace h3 := show Hid _ from h3
            have hf : Hid (rsB tm 0 l = rsB tm x (l.drop (k + 1))) := by show _ = _; rw [hR.out, hd.out, rsB_at, d1', d2', h3.out]; rfl
            clear hR hd
            go_wp2_with fail
            refine wp_region_late (by kernel_rfl) (by kernel_rfl) ?_
            repeat (go_big_quiet_step ((first | (go_at_call 108; exact late_same (rate_x _ true h3.out _)))))
            refine wpQuiet_nil ?_
            intro W3 hw'
            replace hx : Hid (Ext w W3) := hx.out.trans (hx2.trans (late_ext hw'))
            replace hT : Hid (Two W3 A X Y) := (hT.out.ext hx2).ext (late_ext hw')
            replace hN2 : Hid (Two W3 B x y) := hN2.ext (late_ext hw')
            clear hw' j0 j1 j2 j3 hx2
            obtain ⟨W4, hW4, hx4, hT4⟩ := hT.out.set (w0 := w) hAlo.out hx.out x y
            have m0 := hT.out.c0; have m1 := hT.out.c1; have m2 := hT.out.f0; have m3 := hT.out.f1
            have p0 := hN2.out.c0; have p1 := hN2.out.c1
            go_wp2
            go_roundw
            case rel => exact ⟨k + 1, x, y, by omega, by go_num, hT4, hf, hx4⟩
            case measure => simp [RowKit.intOf]; omega
    · obtain rfl : k = n := by omega
      have hf : Hid (rsB tm 0 l = true) := by show _ = _; rw [hR.out, drop_end (by have := hn.out; omega)]; rfl
      clear hR
      go_wp2
      go_ret
      exact ⟨ret_bool hf.out.symm, hx.out⟩
theorem resets_nil (b : Nat) (a : Option Addr) (c : Nat) (w : World) (c1 : w.cell? ⟨b, 8, none⟩ = some (.slice a 0 c)) :
    Calls Tryz.prog 84 #[.pointer (some ⟨b, 0, none⟩)] w fun e w' => e = .returned (.bool true) ∧ Ext w w' := by
  obtain ⟨W0, A, hW0, hA, hx0, hT⟩ := two_new w 91
  have k1 := hx0.cell_of c1
  go_enter Tryz.func84, Tryz.ntmps84
  go_wp2_with fail
  refine wp_loop_rounds 1 ?_
  rw [rounds_succ]
  go_wp2
  go_ret
  exact ⟨rfl, hx0⟩
theorem resets_long (b : Nat) (a : Option Addr) (n c : Nat) (w : World) (hn : 20 < n) (hm : n ≤ 9223372036854775807) (c1 : w.cell? ⟨b, 8, none⟩ = some (.slice a n c)) :
    Calls Tryz.prog 84 #[.pointer (some ⟨b, 0, none⟩)] w fun e w' => e = .returned (.bool false) ∧ Ext w w' := by
  have h3 : (20 : Int) < (n : Int) := by omega
  go_enter Tryz.func84, Tryz.ntmps84
  go_wp2
  go_ret
  exact ⟨rfl, Ext.refl _⟩
theorem resets_c (b : Nat) (v : Value) (l : List (Int × Int)) (tm : Int) (w : World) (hm : l.length ≤ 9223372036854775807) (hv : Slp w v l) (c0 : w.cell? ⟨b, 5, none⟩ = some (.int .i64 tm)) (c1 : w.cell? ⟨b, 8, none⟩ = some v) :
    Calls Tryz.prog 84 #[.pointer (some ⟨b, 0, none⟩)] w fun e w' => e = .returned (.bool (r6B tm l)) ∧ Ext w w' := by
  unfold r6B
  by_cases hl : l.length ≤ 20
  · rw [decide_eq_true hl, Bool.true_and]
    rcases hv with ⟨a, c, rfl, _, rfl⟩ | ⟨s, off, c, rfl, hc⟩
    · exact resets_nil b a c w c1
    · exact resets_x b s off c l tm w hl c0 c1 hc
  · rw [decide_eq_false hl, Bool.false_and]
    obtain ⟨a, c, rfl⟩ := hv.len
    exact resets_long b a _ c w (by omega) hm c1
theorem ltB_at {a f x y : Int} {l : List (Int × Int)} : ltB a f ((x, y) :: l) = (decide (a < x) && (decide (x ≤ 365) && (lz y f 10000000000000 && ltB x y l))) := rfl
set_option maxHeartbeats 2000000 in
theorem late_x (b : Nat) (s off c : Nat) (l : List (Int × Int)) (w : World) (hl : l.length ≤ 8) (c1 : w.cell? ⟨b, 15, none⟩ = some (.slice (some ⟨s, off, none⟩) l.length c))
    (hc : ∀ (k : Nat) (x y : Int), l[k]? = some (x, y) → w.cell? ⟨s, off + k * 2, none⟩ = some (.int .i64 x) ∧ w.cell? ⟨s, off + k * 2 + 1, none⟩ = some (.int .i64 y)) :
    Calls Tryz.prog 86 #[.pointer (some ⟨b, 0, none⟩)] w fun e w' => e = .returned (.bool (ltB 0 0 l)) ∧ Ext w w' := by
  obtain ⟨n, hn⟩ : ∃ n, l.length = n := ⟨_, rfl⟩
  rw [hn] at hl c1
  replace hn := show Hid _ from hn
  replace hc := show Hid _ from hc
  have h20 : ¬ (8 : Int) < (n : Int) := by omega
  obtain ⟨W0, A, hW0, hA, hx0, hT⟩ := two_new w 93
  have k1 := hx0.cell_of c1
  have hAlo : Hid (w.heap.size ≤ A) := by show _ ≤ _; omega
  replace hx0 := show Hid _ from hx0
  replace hT := show Hid (Two W0 A 0 0) from hT
  go_enter Tryz.func86, Tryz.ntmps86
  go_wp2_with fail
  go_loopw [17] (fun i wr => ∃ (k : Nat) (X Y : Int), k ≤ n ∧ i = .int .i64 k ∧ Hid (Two wr A X Y) ∧ Hid (ltB 0 0 l = ltB X Y (l.drop k)) ∧ Hid (Ext w wr)) (fun i _ => n - (RowKit.intOf i).toNat)
  case atStart => exact ⟨0, 0, 0, Nat.zero_le _, rfl, hT, rfl, hx0⟩
  case round =>
    clear hx0 hW0 hA k1 hT
    obtain ⟨k, X, Y, hk, rfl, hT, hR, hx⟩ := hrel
    by_cases hlt : k < n
    · obtain ⟨⟨x, y⟩, hV⟩ : ∃ V, l[k]? = some V := ⟨_, List.getElem?_eq_getElem (by have := hn.out; omega)⟩
      have hlt' : (k : Int) < (n : Int) := by omega
      have s0 := hx.out.cell_of (hc.out k x y hV).1
      have s1 := hx.out.cell_of (hc.out k x y hV).2
      have hd := show Hid _ from drop_at hV
      obtain ⟨W1, B, hW1, hB, hx1, hN⟩ := two_new wr 93
      obtain ⟨W2, hW2, hx2, hN2⟩ := hN.set (w0 := wr) (by omega) hx1 x y
      have t0 := hx1.cell_of s0
      have t1 := hx1.cell_of s1
      have m0 := hN.c0; have m1 := hN.c1; have m2 := hN.f0; have m3 := hN.f1
      have hT2 := hT.out.ext hx2
      have j0 := hN2.c0; have j1 := hN2.c1
      have j2 := hT2.c0; have j3 := hT2.c1; have j4 := hT2.f0; have j5 := hT2.f1
      clear hV hN
      by_cases h1 : x ≤ X
      · have d1 : decide (x ≤ X) = true := decide_eq_true h1
        have hf : Hid (ltB 0 0 l = false) := by show _ = _; rw [hR.out, hd.out, ltB_at]; rw [decide_eq_false (by omega)]; rfl
        clear hR hd
        go_wp2
        go_ret
        exact ⟨ret_bool hf.out.symm, (hx.out.trans hx2)⟩
      · have d1' : decide (X < x) = true := decide_eq_true (by omega)
        by_cases h2 : x ≤ 365
        · have d2' : decide (x ≤ 365) = true := decide_eq_true h2
          cases h3 : lz y Y 10000000000000
          · replace h3 := show Hid _ from h3
            have hf : Hid (ltB 0 0 l = false) := by show _ = _; rw [hR.out, hd.out, ltB_at]; rw [d1', d2', h3.out]; rfl
            clear hR hd
            go_wp2_with fail
            refine (liesL_x y Y 10000000000000 false h3.out _).mono ?_
            rintro e w3 ⟨rfl, rfl⟩
            go_wp2
            go_ret
            exact ⟨ret_bool hf.out.symm, (hx.out.trans hx2)⟩
          · replace h3 := show Hid _ from h3
            have hf : Hid (ltB 0 0 l = ltB x y (l.drop (k + 1))) := by show _ = _; rw [hR.out, hd.out, ltB_at, d1', d2', h3.out]; rfl
            clear hR hd
            go_wp2_with fail
            refine (liesL_x y Y 10000000000000 true h3.out _).mono ?_
            rintro e w3 ⟨rfl, rfl⟩
            obtain ⟨W4, hW4, hx4, hT4⟩ := hT2.set (w0 := w) hAlo.out (hx.out.trans hx2) x y
            go_wp2
            go_roundw
            case rel => exact ⟨k + 1, x, y, by omega, by go_num, hT4, hf, hx4⟩
            case measure => simp [RowKit.intOf]; omega
        · have hf : Hid (ltB 0 0 l = false) := by show _ = _; rw [hR.out, hd.out, ltB_at]; rw [d1', decide_eq_false h2]; rfl
          clear hR hd
          go_wp2
          go_ret
          exact ⟨ret_bool hf.out.symm, (hx.out.trans hx2)⟩
    · obtain rfl : k = n := by omega
      have hf : Hid (ltB 0 0 l = true) := by show _ = _; rw [hR.out, drop_end (by have := hn.out; omega)]; rfl
      clear hR
      go_wp2
      go_ret
      exact ⟨ret_bool hf.out.symm, hx.out⟩
theorem late_nil (b : Nat) (a : Option Addr) (c : Nat) (w : World) (c1 : w.cell? ⟨b, 15, none⟩ = some (.slice a 0 c)) :
    Calls Tryz.prog 86 #[.pointer (some ⟨b, 0, none⟩)] w fun e w' => e = .returned (.bool true) ∧ Ext w w' := by
  obtain ⟨W0, A, hW0, hA, hx0, hT⟩ := two_new w 93
  have k1 := hx0.cell_of c1
  go_enter Tryz.func86, Tryz.ntmps86
  go_wp2_with fail
  refine wp_loop_rounds 1 ?_
  rw [rounds_succ]
  go_wp2
  go_ret
  exact ⟨rfl, hx0⟩
theorem late_long (b : Nat) (a : Option Addr) (n c : Nat) (w : World) (hn : 8 < n) (hm : n ≤ 9223372036854775807) (c1 : w.cell? ⟨b, 15, none⟩ = some (.slice a n c)) :
    Calls Tryz.prog 86 #[.pointer (some ⟨b, 0, none⟩)] w fun e w' => e = .returned (.bool false) ∧ Ext w w' := by
  have h3 : (8 : Int) < (n : Int) := by omega
  go_enter Tryz.func86, Tryz.ntmps86
  go_wp2
  go_ret
  exact ⟨rfl, Ext.refl _⟩
theorem late_c (b : Nat) (v : Value) (l : List (Int × Int)) (w : World) (hm : l.length ≤ 9223372036854775807) (hv : Slp w v l) (c1 : w.cell? ⟨b, 15, none⟩ = some v) :
    Calls Tryz.prog 86 #[.pointer (some ⟨b, 0, none⟩)] w fun e w' => e = .returned (.bool (r8B l)) ∧ Ext w w' := by
  unfold r8B
  by_cases hl : l.length ≤ 8
  · rw [decide_eq_true hl, Bool.true_and]
    rcases hv with ⟨a, c, rfl, _, rfl⟩ | ⟨s, off, c, rfl, hc⟩
    · exact late_nil b a c w c1
    · exact late_x b s off c l w hl c1 hc
  · rw [decide_eq_false hl, Bool.false_and]
    obtain ⟨a, c, rfl⟩ := hv.len
    exact late_long b a _ c w (by omega) hm c1
end Go.Proofs.YtmlkccmkdgfalaaGreatDoor.L8