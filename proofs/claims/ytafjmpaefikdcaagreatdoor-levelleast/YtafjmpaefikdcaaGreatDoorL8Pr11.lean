
/- What the document's resets and tiers answer, as contracts: no statement of the seat is proved here. -/
import Derived.Test.YtafjmpaefikdcaaGreatDoorL8Pr10
namespace Go.Proofs.YtafjmpaefikdcaaGreatDoor.L8
open Go.RowKit
set_option linter.unusedVariables false

theorem rbad1 {tm X x y : Int} {l : List (Int × Int)} (X0 : 0 ≤ X) (h : x < 1 ∨ tm - 1 < x) (n : Nat) : ((decide (X < x) && (decide (x < tm) && (lz y 0 1000000000 && rsB tm x l))) && decide (n ≤ 20)) = false := by
  rcases h with h | h
  · rw [decide_eq_false (show ¬ X < x by omega)]; rfl
  · rw [decide_eq_false (show ¬ x < tm by omega)]; simp
theorem rbad2 {tm X x y : Int} {l : List (Int × Int)} (Y0 : True) (h : y < 0 ∨ 1000000000 < y) (n : Nat) : ((decide (X < x) && (decide (x < tm) && (lz y 0 1000000000 && rsB tm x l))) && decide (n ≤ 20)) = false := by
  rw [(lz_no _ _ _).2 h]; simp
set_option maxHeartbeats 1000000 in
theorem rresets_x (nm : List UInt8) (cn rd kd ev tm gr rt : Int) (vr : Value) (rs : List (Int × Int)) (pn o0 o1 o2 o3 ov : Int) (vl : Value) (lt : List (Int × Int)) (cp rl : Int) (vh : Value) (hd : List Int) (s off c : Nat) (hvv : vr = .slice (some ⟨s, off, none⟩) rs.length c) (w : World) (ht1 : 1 ≤ tm) (ht2 : tm ≤ 600) (hl : rs.length ≤ 9223372036854775807) (sr : Slp w vr rs) (sl : Slp w vl lt) (sh : Slc w vh hd)
    (hc : ∀ (k : Nat) (x y : Int), rs[k]? = some (x, y) → w.cell? ⟨s, off + k * 2, none⟩ = some (.int .i64 x) ∧ w.cell? ⟨s, off + k * 2 + 1, none⟩ = some (.int .i64 y)) :
    Calls Tryz.prog 33 #[.agg #[.string ⟨nm.toArray⟩, .int .i64 cn, .int .i64 rd, .int .i64 kd, .int .i64 ev, .int .i64 tm, .int .i64 gr, .int .i64 rt, vr, .int .i64 pn, .int .i64 o0, .int .i64 o1, .int .i64 o2, .int .i64 o3, .int .i64 ov, vl, .int .i64 cp, .int .i64 rl, vh]] w fun e w' => e = .returned (.bool (r6B tm rs)) ∧ Ext w w' := by
  obtain ⟨n, hn⟩ : ∃ n, rs.length = n := ⟨_, rfl⟩
  obtain ⟨RES, hRES⟩ : ∃ B, (r6B tm rs) = B := ⟨_, rfl⟩
  rw [hRES]
  have hG : Hid (RES = (rsB tm 0 rs && decide (n ≤ 20))) := by
    show _ = _
    rw [← hRES, ← hn]
    unfold r6B; exact Bool.and_comm _ _
  obtain ⟨W0, P, hW0, hP, hx0, hbx⟩ : ∃ W P, w.alloc (.cells #[.string ⟨nm.toArray⟩, .int .i64 cn, .int .i64 rd, .int .i64 kd, .int .i64 ev, .int .i64 tm, .int .i64 gr, .int .i64 rt, vr, .int .i64 pn, .int .i64 o0, .int .i64 o1, .int .i64 o2, .int .i64 o3, .int .i64 ov, vl, .int .i64 cp, .int .i64 rl, vh] 27) = W ∧ w.heap.size = P ∧ Ext w W ∧ Bx W P nm cn rd kd ev tm gr rt vr rs pn o0 o1 o2 o3 ov vl lt cp rl vh hd := ⟨_, _, rfl, rfl, (Ext.refl w).alloc _ _, Bx.new w nm cn rd kd ev tm gr rt vr rs pn o0 o1 o2 o3 ov vl lt cp rl vh hd sr sl sh _⟩
  have e8 := hbx.c8
  have e5 := hbx.c5
  rw [hvv, hn] at e8
  subst hvv
  rw [hn] at hl hW0 ⊢
  clear hbx sr sl sh
  replace hn := show Hid _ from hn
  replace hc := show Hid _ from hc
  replace hx0 := show Hid _ from hx0
  replace e8 := show Hid (W0.cell? ⟨P, 8, none⟩ = _) from e8
  replace e5 := show Hid (W0.cell? ⟨P, 5, none⟩ = _) from e5
  go_enter Tryz.func33, Tryz.ntmps33
  go_wp2_with fail
  go_loopw [3] (fun i wr => ∃ (k : Nat) (X Y : Int), k ≤ n ∧ i = .int .i64 k ∧ 0 ≤ X ∧ 0 ≤ Y ∧ Hid (k = 0 ∧ X = 0 ∧ Y = 0 ∨ ∃ m, k = m + 1 ∧ rs[m]? = some (X, Y)) ∧ Hid (rsB tm 0 rs = rsB tm X (rs.drop k)) ∧ Hid (Ext W0 wr)) (fun i _ => n - (RowKit.intOf i).toNat)
  case atStart => exact ⟨0, 0, 0, Nat.zero_le _, rfl, Int.le_refl _, Int.le_refl _, Or.inl ⟨rfl, rfl, rfl⟩, rfl, Ext.refl _⟩
  case round =>
    obtain ⟨k, X, Y, hk, rfl, X0, Y0, hK, hR, hxr⟩ := hrel
    clear hW0 hP
    have hx : Hid (Ext w wr) := hx0.out.trans hxr.out
    have g8 := hxr.out.cell_of e8.out
    by_cases hlt : k < n
    · obtain ⟨⟨x, y⟩, hV⟩ : ∃ V, rs[k]? = some V := ⟨_, List.getElem?_eq_getElem (by have := hn.out; omega)⟩
      have hlt' : (k : Int) < (n : Int) := by omega
      have s0 := hx.out.cell_of (hc.out k x y hV).1
      have s1 := hx.out.cell_of (hc.out k x y hV).2
      have hd := show Hid _ from drop_at hV
      obtain ⟨W1, B, hW1, hB, hx1, hN⟩ := two_new wr 89
      obtain ⟨W2, hW2, hx2, hN2⟩ := hN.set (w0 := wr) (by omega) hx1 x y
      have t0 := hx1.cell_of s0
      have t1 := hx1.cell_of s1
      have m0 := hN.c0; have m1 := hN.c1; have m2 := hN.f0; have m3 := hN.f1
      have j0 := Late.cell hN2.c0; have j1 := Late.cell hN2.c1
      have j2 := Late.cell (hx2.cell_of g8)
      have j3 := Late.cell (hx2.cell_of (hxr.out.cell_of e5.out))
      have j4 := Late.cell (hx2.cell_of s0)
      have hNe1 : Nonempty (Late W2) := ⟨⟨_, Ext.refl _⟩⟩
      replace hV := show Hid _ from hV
      clear hN hN2
      replace hx2 := show Hid _ from hx2
      replace hx1 := show Hid _ from hx1
      clear hx1
      cases h1 : lz x 1 (tm - 1)
      · have h1o := (lz_no _ _ _).1 h1
        have hf : Hid (RES = false) := by show _ = _; rw [hG.out, hR.out, hd.out, rsB_at]; exact rbad1 X0 h1o _
        clear hR hd hG
        clear h1o
        go_wp2_with fail
        refine wp_region_late (by kernel_rfl) (by kernel_rfl) ?_
        repeat (go_big_quiet_step ((go_at_call 31; exact late_same (within_c _ _ _ _))))
        refine wpQuiet_nil ?_
        intro W3 hw'
        replace hx : Hid (Ext w W3) := hx.out.trans (hx2.out.trans (late_ext hw'))
        replace hxr : Hid (Ext W0 W3) := hxr.out.trans (hx2.out.trans (late_ext hw'))
        clear hw' j0 j1 j2 j3 j4
        go_wp2
        go_ret
        exact ⟨ret_bool hf.out.symm, hx.out⟩
      · have h1o := (lz_iff _ _ _).1 h1
        cases h2 : lz y 0 1000000000
        · have h2o := (lz_no _ _ _).1 h2
          have hf : Hid (RES = false) := by show _ = _; rw [hG.out, hR.out, hd.out, rsB_at]; exact rbad2 trivial h2o _
          clear hR hd hG
          clear h1o h2o
          go_wp2_with fail
          refine wp_region_late (by kernel_rfl) (by kernel_rfl) ?_
          repeat (go_big_quiet_step ((go_at_call 31; exact late_same (within_c _ _ _ _))))
          refine wpQuiet_nil ?_
          intro W3 hw'
          replace hx : Hid (Ext w W3) := hx.out.trans (hx2.out.trans (late_ext hw'))
          replace hxr : Hid (Ext W0 W3) := hxr.out.trans (hx2.out.trans (late_ext hw'))
          clear hw' j0 j1 j2 j3 j4
          go_wp2
          go_ret
          exact ⟨ret_bool hf.out.symm, hx.out⟩
        · have h2o := (lz_iff _ _ _).1 h2
          have X0' : 0 ≤ x := by omega
          have Y0' : 0 ≤ y := by omega
          rcases hK.out with ⟨hk0, rfl, rfl⟩ | ⟨m, rfl, hm⟩
          · have hz : decide (0 < k) = false := decide_eq_false (by omega)
            have d1 : decide ((0 : Int) < x) = true := decide_eq_true (by omega)
            have d2 : decide (x < tm) = true := decide_eq_true (by omega)
            replace hk0 := show Hid _ from hk0
            have hf : Hid (rsB tm 0 rs = rsB tm x (rs.drop (k + 1))) := by show _ = _; rw [hR.out, hd.out, rsB_at, d1, d2, h2]; rfl
            clear hR hd
            clear d1 d2 hK h1o h2o
            go_wp2_with fail
            refine wp_region_late (by kernel_rfl) (by kernel_rfl) ?_
            repeat (go_big_quiet_step ((go_at_call 31; exact late_same (within_c _ _ _ _))))
            refine wpQuiet_nil ?_
            intro W3 hw'
            replace hx : Hid (Ext w W3) := hx.out.trans (hx2.out.trans (late_ext hw'))
            replace hxr : Hid (Ext W0 W3) := hxr.out.trans (hx2.out.trans (late_ext hw'))
            clear hw' j0 j1 j2 j3 j4
            go_wp2
            go_roundw
            case rel => exact ⟨k + 1, x, y, by omega, by go_num, X0', Y0', Or.inr ⟨k, rfl, hV.out⟩, hf, hxr⟩
            case measure => simp [RowKit.intOf]; omega
          · have jm := Late.cell (hx2.out.cell_of (hx.out.cell_of (hc.out m X Y hm).1))
            have hz : decide (0 < m + 1) = true := decide_eq_true (by omega)
            have hzI : decide ((0 : Int) < ((m : Int) + 1)) = true := decide_eq_true (by omega)
            by_cases h3 : x ≤ X
            · have e1 : decide (x ≤ X) = true := decide_eq_true h3
              have hf : Hid (RES = false) := by show _ = _; rw [hG.out, hR.out, hd.out, rsB_at]; rw [decide_eq_false (by omega)]; rfl
              clear hR hd hG
              clear h1o h2o
              go_wp2_with fail
              refine wp_region_late (by kernel_rfl) (by kernel_rfl) ?_
              repeat (go_big_quiet_step ((go_at_call 31; exact late_same (within_c _ _ _ _))))
              refine wpQuiet_nil ?_
              intro W3 hw'
              replace hx : Hid (Ext w W3) := hx.out.trans (hx2.out.trans (late_ext hw'))
              replace hxr : Hid (Ext W0 W3) := hxr.out.trans (hx2.out.trans (late_ext hw'))
              clear hw' j0 j1 j2 j3 j4 jm
              go_wp2
              go_ret
              exact ⟨ret_bool hf.out.symm, hx.out⟩
            · have e1 : decide (x ≤ X) = false := decide_eq_false h3
              have d1 : decide (X < x) = true := decide_eq_true (by omega)
              have d2 : decide (x < tm) = true := decide_eq_true (by omega)
              have hf : Hid (rsB tm 0 rs = rsB tm x (rs.drop ((m + 1) + 1))) := by show _ = _; rw [hR.out, hd.out, rsB_at, d1, d2, h2]; rfl
              clear hR hd
              clear d1 d2 hK h1o h2o
              go_wp2_with fail
              refine wp_region_late (by kernel_rfl) (by kernel_rfl) ?_
              repeat (go_big_quiet_step ((go_at_call 31; exact late_same (within_c _ _ _ _))))
              refine wpQuiet_nil ?_
              intro W3 hw'
              replace hx : Hid (Ext w W3) := hx.out.trans (hx2.out.trans (late_ext hw'))
              replace hxr : Hid (Ext W0 W3) := hxr.out.trans (hx2.out.trans (late_ext hw'))
              clear hw' j0 j1 j2 j3 j4 jm
              go_wp2
              go_roundw
              case rel => exact ⟨(m + 1) + 1, x, y, by omega, by go_num, X0', Y0', Or.inr ⟨(m + 1), rfl, hV.out⟩, hf, hxr⟩
              case measure => simp [RowKit.intOf]; omega
    · obtain rfl : k = n := by omega
      have hf : Hid (RES = decide ((k : Int) ≤ 20)) := by
        show _ = _
        rw [hG.out, hR.out, drop_end (by have := hn.out; omega)]
        by_cases h : k ≤ 20
        · rw [decide_eq_true h, decide_eq_true (by omega)]; rfl
        · rw [decide_eq_false h, decide_eq_false (by omega)]; rfl
      clear hR hK hG
      go_wp2
      go_ret
      exact ⟨ret_bool hf.out.symm, hx.out⟩
theorem tbad1 {X Y x y : Int} {l : List (Int × Int)} (X0 : 0 ≤ X) (h : x < 1 ∨ 365 < x) (n : Nat) (B : Bool) : ((decide (X < x) && (decide (x ≤ 365) && (lz y Y 10000000000000 && ltB x y l))) && (decide (n ≤ 8) && B)) = false := by
  rcases h with h | h
  · rw [decide_eq_false (show ¬ X < x by omega)]; rfl
  · rw [decide_eq_false (show ¬ x ≤ 365 by omega)]; simp
theorem tbad2 {X Y x y : Int} {l : List (Int × Int)} (Y0 : 0 ≤ Y) (h : y < 0 ∨ 10000000000000 < y) (n : Nat) (B : Bool) : ((decide (X < x) && (decide (x ≤ 365) && (lz y Y 10000000000000 && ltB x y l))) && (decide (n ≤ 8) && B)) = false := by
  rw [(lz_no y Y 10000000000000).2 (by omega)]; simp
set_option maxHeartbeats 1000000 in
theorem ttiers_x (nm : List UInt8) (cn rd kd ev tm gr rt : Int) (vr : Value) (rs : List (Int × Int)) (pn o0 o1 o2 o3 ov : Int) (vl : Value) (lt : List (Int × Int)) (cp rl : Int) (vh : Value) (hd : List Int) (s off c : Nat) (hvv : vl = .slice (some ⟨s, off, none⟩) lt.length c) (w : World) (hl : lt.length ≤ 9223372036854775807) (sr : Slp w vr rs) (sl : Slp w vl lt) (sh : Slc w vh hd)
    (hc : ∀ (k : Nat) (x y : Int), lt[k]? = some (x, y) → w.cell? ⟨s, off + k * 2, none⟩ = some (.int .i64 x) ∧ w.cell? ⟨s, off + k * 2 + 1, none⟩ = some (.int .i64 y)) :
    Calls Tryz.prog 35 #[.agg #[.string ⟨nm.toArray⟩, .int .i64 cn, .int .i64 rd, .int .i64 kd, .int .i64 ev, .int .i64 tm, .int .i64 gr, .int .i64 rt, vr, .int .i64 pn, .int .i64 o0, .int .i64 o1, .int .i64 o2, .int .i64 o3, .int .i64 ov, vl, .int .i64 cp, .int .i64 rl, vh]] w fun e w' => e = .returned (.bool (r8B lt && r9B lt.length cp)) ∧ Ext w w' := by
  obtain ⟨n, hn⟩ : ∃ n, lt.length = n := ⟨_, rfl⟩
  obtain ⟨RES, hRES⟩ : ∃ B, (r8B lt && r9B lt.length cp) = B := ⟨_, rfl⟩
  rw [hRES]
  have hG : Hid (RES = (ltB 0 0 lt && (decide (n ≤ 8) && r9B n cp))) := by
    show _ = _
    rw [← hRES, ← hn]
    unfold r8B; rw [Bool.and_comm (decide _) (ltB 0 0 lt), Bool.and_assoc]
  obtain ⟨W0, P, hW0, hP, hx0, hbx⟩ : ∃ W P, w.alloc (.cells #[.string ⟨nm.toArray⟩, .int .i64 cn, .int .i64 rd, .int .i64 kd, .int .i64 ev, .int .i64 tm, .int .i64 gr, .int .i64 rt, vr, .int .i64 pn, .int .i64 o0, .int .i64 o1, .int .i64 o2, .int .i64 o3, .int .i64 ov, vl, .int .i64 cp, .int .i64 rl, vh] 27) = W ∧ w.heap.size = P ∧ Ext w W ∧ Bx W P nm cn rd kd ev tm gr rt vr rs pn o0 o1 o2 o3 ov vl lt cp rl vh hd := ⟨_, _, rfl, rfl, (Ext.refl w).alloc _ _, Bx.new w nm cn rd kd ev tm gr rt vr rs pn o0 o1 o2 o3 ov vl lt cp rl vh hd sr sl sh _⟩
  have e15 := hbx.c15
  have e16 := hbx.c16
  rw [hvv, hn] at e15
  subst hvv
  rw [hn] at hl hW0 ⊢
  clear hbx sr sl sh
  replace hn := show Hid _ from hn
  replace hc := show Hid _ from hc
  replace hx0 := show Hid _ from hx0
  replace e15 := show Hid (W0.cell? ⟨P, 15, none⟩ = _) from e15
  replace e16 := show Hid (W0.cell? ⟨P, 16, none⟩ = _) from e16
  go_enter Tryz.func35, Tryz.ntmps35
  go_wp2_with fail
  go_loopw [3] (fun i wr => ∃ (k : Nat) (X Y : Int), k ≤ n ∧ i = .int .i64 k ∧ 0 ≤ X ∧ 0 ≤ Y ∧ Hid (k = 0 ∧ X = 0 ∧ Y = 0 ∨ ∃ m, k = m + 1 ∧ lt[m]? = some (X, Y)) ∧ Hid (ltB 0 0 lt = ltB X Y (lt.drop k)) ∧ Hid (Ext W0 wr)) (fun i _ => n - (RowKit.intOf i).toNat)
  case atStart => exact ⟨0, 0, 0, Nat.zero_le _, rfl, Int.le_refl _, Int.le_refl _, Or.inl ⟨rfl, rfl, rfl⟩, rfl, Ext.refl _⟩
  case round =>
    obtain ⟨k, X, Y, hk, rfl, X0, Y0, hK, hR, hxr⟩ := hrel
    clear hW0 hP
    have hx : Hid (Ext w wr) := hx0.out.trans hxr.out
    have g15 := hxr.out.cell_of e15.out
    by_cases hlt : k < n
    · obtain ⟨⟨x, y⟩, hV⟩ : ∃ V, lt[k]? = some V := ⟨_, List.getElem?_eq_getElem (by have := hn.out; omega)⟩
      have hlt' : (k : Int) < (n : Int) := by omega
      have s0 := hx.out.cell_of (hc.out k x y hV).1
      have s1 := hx.out.cell_of (hc.out k x y hV).2
      have hd := show Hid _ from drop_at hV
      obtain ⟨W1, B, hW1, hB, hx1, hN⟩ := two_new wr 91
      obtain ⟨W2, hW2, hx2, hN2⟩ := hN.set (w0 := wr) (by omega) hx1 x y
      have t0 := hx1.cell_of s0
      have t1 := hx1.cell_of s1
      have m0 := hN.c0; have m1 := hN.c1; have m2 := hN.f0; have m3 := hN.f1
      have j0 := Late.cell hN2.c0; have j1 := Late.cell hN2.c1
      have j2 := Late.cell (hx2.cell_of g15)
      have j3 := Late.cell (hx2.cell_of s0)
      
      have hNe1 : Nonempty (Late W2) := ⟨⟨_, Ext.refl _⟩⟩
      replace hV := show Hid _ from hV
      clear hN hN2
      replace hx2 := show Hid _ from hx2
      replace hx1 := show Hid _ from hx1
      clear hx1
      cases h1 : lz x 1 365
      · have h1o := (lz_no _ _ _).1 h1
        have hf : Hid (RES = false) := by show _ = _; rw [hG.out, hR.out, hd.out, ltB_at]; exact tbad1 X0 h1o _ _
        clear hR hd hG
        clear h1o
        go_wp2_with fail
        refine wp_region_late (by kernel_rfl) (by kernel_rfl) ?_
        repeat (go_big_quiet_step ((go_at_call 31; exact late_same (within_c _ _ _ _))))
        refine wpQuiet_nil ?_
        intro W3 hw'
        replace hx : Hid (Ext w W3) := hx.out.trans (hx2.out.trans (late_ext hw'))
        replace hxr : Hid (Ext W0 W3) := hxr.out.trans (hx2.out.trans (late_ext hw'))
        clear hw' j0 j1 j2 j3
        go_wp2
        go_ret
        exact ⟨ret_bool hf.out.symm, hx.out⟩
      · have h1o := (lz_iff _ _ _).1 h1
        cases h2 : lz y 0 10000000000000
        · have h2o := (lz_no _ _ _).1 h2
          have hf : Hid (RES = false) := by show _ = _; rw [hG.out, hR.out, hd.out, ltB_at]; exact tbad2 Y0 h2o _ _
          clear hR hd hG
          clear h1o h2o
          go_wp2_with fail
          refine wp_region_late (by kernel_rfl) (by kernel_rfl) ?_
          repeat (go_big_quiet_step ((go_at_call 31; exact late_same (within_c _ _ _ _))))
          refine wpQuiet_nil ?_
          intro W3 hw'
          replace hx : Hid (Ext w W3) := hx.out.trans (hx2.out.trans (late_ext hw'))
          replace hxr : Hid (Ext W0 W3) := hxr.out.trans (hx2.out.trans (late_ext hw'))
          clear hw' j0 j1 j2 j3
          go_wp2
          go_ret
          exact ⟨ret_bool hf.out.symm, hx.out⟩
        · have h2o := (lz_iff _ _ _).1 h2
          have X0' : 0 ≤ x := by omega
          have Y0' : 0 ≤ y := by omega
          rcases hK.out with ⟨hk0, rfl, rfl⟩ | ⟨m, rfl, hm⟩
          · have hz : decide (0 < k) = false := decide_eq_false (by omega)
            have d1 : decide ((0 : Int) < x) = true := decide_eq_true (by omega)
            have d2 : decide (x ≤ 365) = true := decide_eq_true (by omega)
            replace hk0 := show Hid _ from hk0
            have hf : Hid (ltB 0 0 lt = ltB x y (lt.drop (k + 1))) := by show _ = _; rw [hR.out, hd.out, ltB_at, d1, d2, h2]; rfl
            clear hR hd
            clear d1 d2 hK h1o h2o
            go_wp2_with fail
            refine wp_region_late (by kernel_rfl) (by kernel_rfl) ?_
            repeat (go_big_quiet_step ((go_at_call 31; exact late_same (within_c _ _ _ _))))
            refine wpQuiet_nil ?_
            intro W3 hw'
            replace hx : Hid (Ext w W3) := hx.out.trans (hx2.out.trans (late_ext hw'))
            replace hxr : Hid (Ext W0 W3) := hxr.out.trans (hx2.out.trans (late_ext hw'))
            clear hw' j0 j1 j2 j3
            go_wp2
            go_roundw
            case rel => exact ⟨k + 1, x, y, by omega, by go_num, X0', Y0', Or.inr ⟨k, rfl, hV.out⟩, hf, hxr⟩
            case measure => simp [RowKit.intOf]; omega
          · have jm := Late.cell (hx2.out.cell_of (hx.out.cell_of (hc.out m X Y hm).1))
            have jn := Late.cell (hx2.out.cell_of (hx.out.cell_of (hc.out m X Y hm).2))
            have hz : decide (0 < m + 1) = true := decide_eq_true (by omega)
            have hzI : decide ((0 : Int) < ((m : Int) + 1)) = true := decide_eq_true (by omega)
            by_cases h3 : x ≤ X
            · have e1 : decide (x ≤ X) = true := decide_eq_true h3
              have hf : Hid (RES = false) := by show _ = _; rw [hG.out, hR.out, hd.out, ltB_at]; rw [decide_eq_false (by omega)]; rfl
              clear hR hd hG
              clear h1o h2o
              go_wp2_with fail
              refine wp_region_late (by kernel_rfl) (by kernel_rfl) ?_
              repeat (go_big_quiet_step ((go_at_call 31; exact late_same (within_c _ _ _ _))))
              refine wpQuiet_nil ?_
              intro W3 hw'
              replace hx : Hid (Ext w W3) := hx.out.trans (hx2.out.trans (late_ext hw'))
              replace hxr : Hid (Ext W0 W3) := hxr.out.trans (hx2.out.trans (late_ext hw'))
              clear hw' j0 j1 j2 j3 jm jn
              go_wp2
              go_ret
              exact ⟨ret_bool hf.out.symm, hx.out⟩
            · have e1 : decide (x ≤ X) = false := decide_eq_false h3
              have d1 : decide (X < x) = true := decide_eq_true (by omega)
              have d2 : decide (x ≤ 365) = true := decide_eq_true (by omega)
              by_cases h4 : y < Y
              · have e2 : decide (y < Y) = true := decide_eq_true h4
                have d3 : lz y Y 10000000000000 = false := (lz_no _ _ _).2 (by omega)
                have hf : Hid (RES = false) := by show _ = _; rw [hG.out, hR.out, hd.out, ltB_at]; rw [d1, d2, d3]; rfl
                clear hR hd hG
                clear d1 d2 d3 h1o h2o
                go_wp2_with fail
                refine wp_region_late (by kernel_rfl) (by kernel_rfl) ?_
                repeat (go_big_quiet_step ((go_at_call 31; exact late_same (within_c _ _ _ _))))
                refine wpQuiet_nil ?_
                intro W3 hw'
                replace hx : Hid (Ext w W3) := hx.out.trans (hx2.out.trans (late_ext hw'))
                replace hxr : Hid (Ext W0 W3) := hxr.out.trans (hx2.out.trans (late_ext hw'))
                clear hw' j0 j1 j2 j3 jm jn
                go_wp2
                go_ret
                exact ⟨ret_bool hf.out.symm, hx.out⟩
              · have e2 : decide (y < Y) = false := decide_eq_false h4
                have d3 : lz y Y 10000000000000 = true := (lz_iff _ _ _).2 (by omega)
                have hf : Hid (ltB 0 0 lt = ltB x y (lt.drop ((m + 1) + 1))) := by show _ = _; rw [hR.out, hd.out, ltB_at, d1, d2, d3]; rfl
                clear hR hd
                clear d1 d2 d3 hK h1o h2o
                go_wp2_with fail
                refine wp_region_late (by kernel_rfl) (by kernel_rfl) ?_
                repeat (go_big_quiet_step ((go_at_call 31; exact late_same (within_c _ _ _ _))))
                refine wpQuiet_nil ?_
                intro W3 hw'
                replace hx : Hid (Ext w W3) := hx.out.trans (hx2.out.trans (late_ext hw'))
                replace hxr : Hid (Ext W0 W3) := hxr.out.trans (hx2.out.trans (late_ext hw'))
                clear hw' j0 j1 j2 j3 jm jn
                go_wp2
                go_roundw
                case rel => exact ⟨(m + 1) + 1, x, y, by omega, by go_num, X0', Y0', Or.inr ⟨(m + 1), rfl, hV.out⟩, hf, hxr⟩
                case measure => simp [RowKit.intOf]; omega
    · obtain rfl : k = n := by omega
      have g16 := hxr.out.cell_of e16.out
      have hf : Hid (RES = (decide (k ≤ 8) && r9B k cp)) := by
        show _ = _
        rw [hG.out, hR.out, drop_end (by have := hn.out; omega)]; rfl
      clear hR hK hG
      by_cases h8 : k ≤ 8
      · have h8' : (k : Int) ≤ 8 := by omega
        rw [decide_eq_true h8] at hf
        cases hl3 : lz cp 0 10000000000000
        · have hc0 : (cp == 0) = false := by have := (lz_no _ _ _).1 hl3; simp; omega
          have hr : Hid (RES = false) := by show _ = _; rw [hf.out]; unfold r9B; rw [hc0, hl3]; simp
          replace hl3 := show Hid _ from hl3
          clear hf hc0
          go_wp2_with fail
          refine (within_x cp 0 10000000000000 false hl3.out _).mono ?_
          rintro e w3 ⟨rfl, rfl⟩
          go_wp2
          go_ret
          exact ⟨ret_bool hr.out.symm, hx.out⟩
        · cases hc0 : (cp == 0)
          · have hr : Hid (RES = decide (0 < k)) := by show _ = _; rw [hf.out]; unfold r9B; rw [hc0, hl3]; simp
            replace hl3 := show Hid _ from hl3
            clear hf
            have hI : Hid (decide ((0 : Int) < (k : Int)) = decide (0 < k)) := by show _ = _; by_cases h : 0 < k <;> simp [h]
            go_wp2_with fail
            refine (within_x cp 0 10000000000000 true hl3.out _).mono ?_
            rintro e w3 ⟨rfl, rfl⟩
            go_wp2
            go_ret
            exact ⟨ret_bool (by first | exact hr.out.symm | (rw [hr.out]; exact hI.out)), hx.out⟩
          · have hr : Hid (RES = true) := by show _ = _; rw [hf.out]; unfold r9B; rw [hc0]; simp
            replace hl3 := show Hid _ from hl3
            clear hf
            go_wp2_with fail
            refine (within_x cp 0 10000000000000 true hl3.out _).mono ?_
            rintro e w3 ⟨rfl, rfl⟩
            go_wp2
            go_ret
            exact ⟨ret_bool hr.out.symm, hx.out⟩
      · have h8' : ¬ (k : Int) ≤ 8 := by omega
        have hr : Hid (RES = false) := by show _ = _; rw [hf.out, decide_eq_false h8]; rfl
        clear hf
        go_wp2
        go_ret
        exact ⟨ret_bool hr.out.symm, hx.out⟩

theorem rresets_nil (nm : List UInt8) (cn rd kd ev tm gr rt : Int) (vr : Value) (rs : List (Int × Int)) (pn o0 o1 o2 o3 ov : Int) (vl : Value) (lt : List (Int × Int)) (cp rl : Int) (vh : Value) (hd : List Int) (a : Option Addr) (c : Nat) (hvv : vr = .slice a 0 c) (w : World) (sr : Slp w vr rs) (sl : Slp w vl lt) (sh : Slc w vh hd) :
    Calls Tryz.prog 33 #[.agg #[.string ⟨nm.toArray⟩, .int .i64 cn, .int .i64 rd, .int .i64 kd, .int .i64 ev, .int .i64 tm, .int .i64 gr, .int .i64 rt, vr, .int .i64 pn, .int .i64 o0, .int .i64 o1, .int .i64 o2, .int .i64 o3, .int .i64 ov, vl, .int .i64 cp, .int .i64 rl, vh]] w fun e w' => e = .returned (.bool true) ∧ Ext w w' := by
  obtain ⟨W0, P, hW0, hP, hx0, hbx⟩ : ∃ W P, w.alloc (.cells #[.string ⟨nm.toArray⟩, .int .i64 cn, .int .i64 rd, .int .i64 kd, .int .i64 ev, .int .i64 tm, .int .i64 gr, .int .i64 rt, vr, .int .i64 pn, .int .i64 o0, .int .i64 o1, .int .i64 o2, .int .i64 o3, .int .i64 ov, vl, .int .i64 cp, .int .i64 rl, vh] 27) = W ∧ w.heap.size = P ∧ Ext w W ∧ Bx W P nm cn rd kd ev tm gr rt vr rs pn o0 o1 o2 o3 ov vl lt cp rl vh hd := ⟨_, _, rfl, rfl, (Ext.refl w).alloc _ _, Bx.new w nm cn rd kd ev tm gr rt vr rs pn o0 o1 o2 o3 ov vl lt cp rl vh hd sr sl sh _⟩
  have e8 := hbx.c8
  subst hvv
  clear hbx sr sl sh
  replace hx0 := show Hid _ from hx0
  go_enter Tryz.func33, Tryz.ntmps33
  go_wp2_with fail
  refine wp_loop_rounds 1 ?_
  rw [rounds_succ]
  go_wp2
  go_ret
  exact ⟨rfl, hx0.out⟩
theorem rresets_c (nm : List UInt8) (cn rd kd ev tm gr rt : Int) (vr : Value) (rs : List (Int × Int)) (pn o0 o1 o2 o3 ov : Int) (vl : Value) (lt : List (Int × Int)) (cp rl : Int) (vh : Value) (hd : List Int) (w : World) (ht1 : 1 ≤ tm) (ht2 : tm ≤ 600) (hl : rs.length ≤ 9223372036854775807) (sr : Slp w vr rs) (sl : Slp w vl lt) (sh : Slc w vh hd) :
    Calls Tryz.prog 33 #[.agg #[.string ⟨nm.toArray⟩, .int .i64 cn, .int .i64 rd, .int .i64 kd, .int .i64 ev, .int .i64 tm, .int .i64 gr, .int .i64 rt, vr, .int .i64 pn, .int .i64 o0, .int .i64 o1, .int .i64 o2, .int .i64 o3, .int .i64 ov, vl, .int .i64 cp, .int .i64 rl, vh]] w fun e w' => e = .returned (.bool (r6B tm rs)) ∧ Ext w w' := by
  have sr' := sr
  rcases sr' with ⟨a, c, hvv, _, rfl⟩ | ⟨s, off, c, hvv, hc⟩
  · exact rresets_nil nm cn rd kd ev tm gr rt vr [] pn o0 o1 o2 o3 ov vl lt cp rl vh hd a c hvv w sr sl sh
  · exact rresets_x nm cn rd kd ev tm gr rt vr rs pn o0 o1 o2 o3 ov vl lt cp rl vh hd s off c hvv w ht1 ht2 hl sr sl sh hc
theorem ttiers_nil (nm : List UInt8) (cn rd kd ev tm gr rt : Int) (vr : Value) (rs : List (Int × Int)) (pn o0 o1 o2 o3 ov : Int) (vl : Value) (lt : List (Int × Int)) (cp rl : Int) (vh : Value) (hd : List Int) (a : Option Addr) (c : Nat) (hvv : vl = .slice a 0 c) (w : World) (sr : Slp w vr rs) (sl : Slp w vl lt) (sh : Slc w vh hd) :
    Calls Tryz.prog 35 #[.agg #[.string ⟨nm.toArray⟩, .int .i64 cn, .int .i64 rd, .int .i64 kd, .int .i64 ev, .int .i64 tm, .int .i64 gr, .int .i64 rt, vr, .int .i64 pn, .int .i64 o0, .int .i64 o1, .int .i64 o2, .int .i64 o3, .int .i64 ov, vl, .int .i64 cp, .int .i64 rl, vh]] w fun e w' => e = .returned (.bool (r9B 0 cp)) ∧ Ext w w' := by
  obtain ⟨W0, P, hW0, hP, hx0, hbx⟩ : ∃ W P, w.alloc (.cells #[.string ⟨nm.toArray⟩, .int .i64 cn, .int .i64 rd, .int .i64 kd, .int .i64 ev, .int .i64 tm, .int .i64 gr, .int .i64 rt, vr, .int .i64 pn, .int .i64 o0, .int .i64 o1, .int .i64 o2, .int .i64 o3, .int .i64 ov, vl, .int .i64 cp, .int .i64 rl, vh] 27) = W ∧ w.heap.size = P ∧ Ext w W ∧ Bx W P nm cn rd kd ev tm gr rt vr rs pn o0 o1 o2 o3 ov vl lt cp rl vh hd := ⟨_, _, rfl, rfl, (Ext.refl w).alloc _ _, Bx.new w nm cn rd kd ev tm gr rt vr rs pn o0 o1 o2 o3 ov vl lt cp rl vh hd sr sl sh _⟩
  have e15 := hbx.c15
  have e16 := hbx.c16
  subst hvv
  clear hbx sr sl sh
  replace hx0 := show Hid _ from hx0
  unfold r9B
  cases hl3 : lz cp 0 10000000000000
  · have hc0 : (cp == 0) = false := by have := (lz_no _ _ _).1 hl3; simp; omega
    rw [hc0]
    replace hl3 := show Hid _ from hl3
    go_enter Tryz.func35, Tryz.ntmps35
    go_wp2_with fail
    refine wp_loop_rounds 1 ?_
    rw [rounds_succ]
    go_wp2_with fail
    refine (within_x cp 0 10000000000000 false hl3.out _).mono ?_
    rintro e w3 ⟨rfl, rfl⟩
    go_wp2
    go_ret
    exact ⟨rfl, hx0.out⟩
  · replace hl3 := show Hid _ from hl3
    cases hc0 : (cp == 0)
    all_goals
      go_enter Tryz.func35, Tryz.ntmps35
      go_wp2_with fail
      refine wp_loop_rounds 1 ?_
      rw [rounds_succ]
      go_wp2_with fail
      refine (within_x cp 0 10000000000000 true hl3.out _).mono ?_
      rintro e w3 ⟨rfl, rfl⟩
      go_wp2
      go_ret
      exact ⟨rfl, hx0.out⟩
theorem ttiers_c (nm : List UInt8) (cn rd kd ev tm gr rt : Int) (vr : Value) (rs : List (Int × Int)) (pn o0 o1 o2 o3 ov : Int) (vl : Value) (lt : List (Int × Int)) (cp rl : Int) (vh : Value) (hd : List Int) (w : World) (hl : lt.length ≤ 9223372036854775807) (sr : Slp w vr rs) (sl : Slp w vl lt) (sh : Slc w vh hd) :
    Calls Tryz.prog 35 #[.agg #[.string ⟨nm.toArray⟩, .int .i64 cn, .int .i64 rd, .int .i64 kd, .int .i64 ev, .int .i64 tm, .int .i64 gr, .int .i64 rt, vr, .int .i64 pn, .int .i64 o0, .int .i64 o1, .int .i64 o2, .int .i64 o3, .int .i64 ov, vl, .int .i64 cp, .int .i64 rl, vh]] w fun e w' => e = .returned (.bool (r8B lt && r9B lt.length cp)) ∧ Ext w w' := by
  have sl' := sl
  rcases sl' with ⟨a, c, hvv, _, rfl⟩ | ⟨s, off, c, hvv, hc⟩
  · exact ttiers_nil nm cn rd kd ev tm gr rt vr rs pn o0 o1 o2 o3 ov vl [] cp rl vh hd a c hvv w sr sl sh
  · exact ttiers_x nm cn rd kd ev tm gr rt vr rs pn o0 o1 o2 o3 ov vl lt cp rl vh hd s off c hvv w hl sr sl sh hc
end Go.Proofs.YtafjmpaefikdcaaGreatDoor.L8