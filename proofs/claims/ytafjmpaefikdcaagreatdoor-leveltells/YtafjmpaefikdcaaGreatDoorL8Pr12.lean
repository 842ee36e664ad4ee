
/- What the document's Check answers, as a contract: no statement of the seat is proved here. -/
import Derived.Test.YtafjmpaefikdcaaGreatDoorL8Pr11
import Derived.Test.YtafjmpaefikdcaaGreatDoorL8Bnd
import Derived.Deep.Cut
namespace Go.Proofs.YtafjmpaefikdcaaGreatDoor.L8
open Go.RowKit
set_option linter.unusedVariables false

theorem every_in (ev : Int) : decide (ev ∈ [1, 2, 3, 4, 6, 12]) = r2B ev := by
  unfold r2B
  by_cases h : ev ∈ [1, 2, 3, 4, 6, 12]
  · simp at h; rcases h with rfl | rfl | rfl | rfl | rfl | rfl <;> rfl
  · rw [decide_eq_false h]; simp at h; simp [h]
/-- The row of months that may lie between instalments. -/
theorem lay_every (w : World) : ∃ W, w.alloc (.cells #[.int .i64 1, .int .i64 2, .int .i64 3, .int .i64 4, .int .i64 6, .int .i64 12] 3) = W ∧ Ext w W ∧ Slc W (.slice (some ⟨w.heap.size, 0, none⟩) 6 6) [1, 2, 3, 4, 6, 12] := by
  refine ⟨_, rfl, (Ext.refl w).alloc _ _, Or.inr ⟨_, 0, 6, rfl, fun k x hk => ?_⟩⟩
  match k, hk with
  | 0, hk => simp at hk; subst hk; simp [go_sem]
  | 1, hk => simp at hk; subst hk; simp [go_sem]
  | 2, hk => simp at hk; subst hk; simp [go_sem]
  | 3, hk => simp at hk; subst hk; simp [go_sem]
  | 4, hk => simp at hk; subst hk; simp [go_sem]
  | 5, hk => simp at hk; subst hk; simp [go_sem]
  | k + 6, hk => simp at hk
theorem chk_ref (nm : List UInt8) (cn rd kd ev tm gr rt : Int) (rs : List (Int × Int)) (pn o0 o1 o2 o3 ov : Int) (lt : List (Int × Int)) (cp rl : Int) (hd : List Int) : ((((nmb nm && (lz cn 1 3 && ((rd == 1 || rd == 3) && lz kd 1 3))) && (r2B ev && (lz tm 1 600 && (lz gr 0 (tm - 1) && (kd != 3 || gr == 0))))) && (lz rt 0 1000000000 && (lz pn 0 1000000000 && (r6B tm rs && (r7B o0 o1 o2 o3 && (lz ov 1 3 && (r8B lt && r9B lt.length cp))))))) && (lz rl 1 4 && (rgt hd && (rl != 1 || hd.length == 0)))) = chkB nm cn rd kd ev tm gr rt rs pn o0 o1 o2 o3 ov lt cp rl hd := by
  unfold chkB r1B r4B r5B r10B
  cases htm : lz tm 1 600
  · simp
  · have h := (lz_iff _ _ _).1 htm
    have hg : (lz gr 0 (tm - 1) && (kd != 3 || gr == 0)) = (gr == 0 || (kd != 3 && (decide (0 < gr) && decide (gr < tm)))) := by
      unfold lz
      by_cases h0 : gr = 0
      · subst h0; simp; omega
      · have e0 : (gr == 0) = false := by simpa using h0
        rw [e0]
        by_cases h1 : 0 < gr
        · rw [decide_eq_true h1, decide_eq_true (show 0 ≤ gr by omega)]
          by_cases h2 : gr < tm
          · rw [decide_eq_true h2, decide_eq_true (show gr ≤ tm - 1 by omega)]; simp
          · rw [decide_eq_false h2, decide_eq_false (show ¬ gr ≤ tm - 1 by omega)]; simp
        · rw [decide_eq_false h1, decide_eq_false (show ¬ 0 ≤ gr by omega)]; simp
    have hh : (rgt hd && (rl != 1 || hd.length == 0)) = (if rl = 1 then decide (hd.length = 0) else rgt hd) := by
      by_cases h0 : rl = 1
      · subst h0
        rw [if_pos rfl]
        cases hd with
        | nil => rfl
        | cons x t => simp
      · rw [if_neg h0]
        have : (rl != 1) = true := by simpa using h0
        rw [this]; simp
    rw [← hh, ← hg]
    simp only [Bool.true_and]
    ac_rfl
theorem Order_x (a b c d : Int) (B : Bool) (h : r7B a b c d = B) (w : World) :
    Calls Tryz.prog 34 #[.agg #[.int .i64 a, .int .i64 b, .int .i64 c, .int .i64 d]] w fun e w' => e = .returned (.bool B) ∧ Ext w w' := h ▸ Order_c a b c d w
theorem rresets_x2 (nm : List UInt8) (cn rd kd ev tm gr rt : Int) (vr : Value) (rs : List (Int × Int)) (pn o0 o1 o2 o3 ov : Int) (vl : Value) (lt : List (Int × Int)) (cp rl : Int) (vh : Value) (hd : List Int) (B : Bool) (h : r6B tm rs = B) (w : World) (ht1 : 1 ≤ tm) (ht2 : tm ≤ 600) (hl : rs.length ≤ 9223372036854775807) (sr : Slp w vr rs) (sl : Slp w vl lt) (sh : Slc w vh hd) :
    Calls Tryz.prog 33 #[.agg #[.string ⟨nm.toArray⟩, .int .i64 cn, .int .i64 rd, .int .i64 kd, .int .i64 ev, .int .i64 tm, .int .i64 gr, .int .i64 rt, vr, .int .i64 pn, .int .i64 o0, .int .i64 o1, .int .i64 o2, .int .i64 o3, .int .i64 ov, vl, .int .i64 cp, .int .i64 rl, vh]] w fun e w' => e = .returned (.bool B) ∧ Ext w w' := h ▸ rresets_c nm cn rd kd ev tm gr rt vr rs pn o0 o1 o2 o3 ov vl lt cp rl vh hd w ht1 ht2 hl sr sl sh
theorem ttiers_x2 (nm : List UInt8) (cn rd kd ev tm gr rt : Int) (vr : Value) (rs : List (Int × Int)) (pn o0 o1 o2 o3 ov : Int) (vl : Value) (lt : List (Int × Int)) (cp rl : Int) (vh : Value) (hd : List Int) (B : Bool) (h : (r8B lt && r9B lt.length cp) = B) (w : World) (hl : lt.length ≤ 9223372036854775807) (sr : Slp w vr rs) (sl : Slp w vl lt) (sh : Slc w vh hd) :
    Calls Tryz.prog 35 #[.agg #[.string ⟨nm.toArray⟩, .int .i64 cn, .int .i64 rd, .int .i64 kd, .int .i64 ev, .int .i64 tm, .int .i64 gr, .int .i64 rt, vr, .int .i64 pn, .int .i64 o0, .int .i64 o1, .int .i64 o2, .int .i64 o3, .int .i64 ov, vl, .int .i64 cp, .int .i64 rl, vh]] w fun e w' => e = .returned (.bool B) ∧ Ext w w' := h ▸ ttiers_c nm cn rd kd ev tm gr rt vr rs pn o0 o1 o2 o3 ov vl lt cp rl vh hd w hl sr sl sh
theorem Right_x (v : Value) (l : List Int) (B : Bool) (h : rgt l = B) (w : World) (hl : l.length ≤ 9223372036854775807) (hv : Slc w v l) :
    Calls Tryz.prog 36 #[v] w fun e w' => e = .returned (.bool B) ∧ Ext w w' := h ▸ Right_ok v l w hl hv
theorem tm_of {A : Bool} {tm : Int} {E G : Bool} (h : (A && (E && (lz tm 1 600 && G))) = true) : 1 ≤ tm ∧ tm ≤ 600 := by
  simp only [Bool.and_eq_true] at h
  exact (lz_iff _ _ _).1 h.2.2.1
set_option maxHeartbeats 2000000 in
set_option maxRecDepth 100000 in
theorem rCheck_x (nm : List UInt8) (cn rd kd ev tm gr rt : Int) (vr : Value) (rs : List (Int × Int)) (pn o0 o1 o2 o3 ov : Int) (vl : Value) (lt : List (Int × Int)) (cp rl : Int) (vh : Value) (hd : List Int) (E : Int) (hE : E = if chkB nm cn rd kd ev tm gr rt rs pn o0 o1 o2 o3 ov lt cp rl hd then 0 else 9) (w : World) (hnm : nm.length ≤ 9223372036854775807) (hrs : rs.length ≤ 9223372036854775807) (hlt : lt.length ≤ 9223372036854775807) (hhd : hd.length ≤ 9223372036854775807) (sr : Slp w vr rs) (sl : Slp w vl lt) (sh : Slc w vh hd) :
    Calls Tryz.prog 16 #[.agg #[.string ⟨nm.toArray⟩, .int .i64 cn, .int .i64 rd, .int .i64 kd, .int .i64 ev, .int .i64 tm, .int .i64 gr, .int .i64 rt, vr, .int .i64 pn, .int .i64 o0, .int .i64 o1, .int .i64 o2, .int .i64 o3, .int .i64 ov, vl, .int .i64 cp, .int .i64 rl, vh]] w fun e w' => e = .returned (.int .i64 E) ∧ Ext w w' := by
  rw [← chk_ref] at hE
  obtain ⟨va, vc, hvh⟩ := sh.len
  subst hvh
  obtain ⟨W0, P, hW0, hP, hx0, hk, hb⟩ : ∃ W P, w.alloc (.cells #[.string ⟨nm.toArray⟩, .int .i64 cn, .int .i64 rd, .int .i64 kd, .int .i64 ev, .int .i64 tm, .int .i64 gr, .int .i64 rt, vr, .int .i64 pn, .int .i64 o0, .int .i64 o1, .int .i64 o2, .int .i64 o3, .int .i64 ov, vl, .int .i64 cp, .int .i64 rl, .slice va hd.length vc] 27) = W ∧ w.heap.size = P ∧ Ext w W ∧ Blk W P #[.string ⟨nm.toArray⟩, .int .i64 cn, .int .i64 rd, .int .i64 kd, .int .i64 ev, .int .i64 tm, .int .i64 gr, .int .i64 rt, vr, .int .i64 pn, .int .i64 o0, .int .i64 o1, .int .i64 o2, .int .i64 o3, .int .i64 ov, vl, .int .i64 cp, .int .i64 rl, .slice va hd.length vc] ∧ Bx W P nm cn rd kd ev tm gr rt vr rs pn o0 o1 o2 o3 ov vl lt cp rl (.slice va hd.length vc) hd := ⟨_, _, rfl, rfl, (Ext.refl w).alloc _ _, heap_alloc_last w _, Bx.new w nm cn rd kd ev tm gr rt vr rs pn o0 o1 o2 o3 ov vl lt cp rl (.slice va hd.length vc) hd sr sl sh _⟩
  clear sr sl sh
  have y0 := hb.c0
  replace hb := show Hid (Bx W0 P nm cn rd kd ev tm gr rt vr rs pn o0 o1 o2 o3 ov vl lt cp rl (.slice va hd.length vc) hd) from hb
  replace hk := show Hid (Blk W0 P _) from hk
  replace hx0 := show Hid _ from hx0
  replace hE := show Hid _ from hE
  go_enter Tryz.func16, Tryz.ntmps16
  go_upto_region 1 with fail
  clear hW0 hP
  go_cut [3] from 4 (fun t wx => t = .bool (nmb nm && (lz cn 1 3 && ((rd == 1 || rd == 3) && lz kd 1 3))) ∧ Hid (Ext W0 wx))
  case first =>
    cases h0 : nmb nm
    · replace h0 := show Hid _ from h0
      go_wp2_with fail
      refine (rName_x nm false h0.out _ hnm).mono ?_
      rintro e w1 ⟨rfl, hx1⟩
      have hb1 := hb.out.ext hx1
      have y1 := hb1.c1
      have y2 := hb1.c2
      have y3 := hb1.c3
      replace hx1 := show Hid (Ext W0 w1) from hx1
      clear hb1
      go_wp2
      go_meet
      exact ⟨congrArg Value.bool (by rw [h0.out] <;> rfl), hx1⟩
    · replace h0 := show Hid _ from h0
      cases h1 : lz cn 1 3
      · replace h1 := show Hid _ from h1
        go_wp2_with fail
        refine (rName_x nm true h0.out _ hnm).mono ?_
        rintro e w1 ⟨rfl, hx1⟩
        have hb1 := hb.out.ext hx1
        have y1 := hb1.c1
        have y2 := hb1.c2
        have y3 := hb1.c3
        replace hx1 := show Hid (Ext W0 w1) from hx1
        clear hb1
        go_wp2_with fail
        refine (within_x _ _ _ false h1.out _).mono ?_
        rintro e w9 ⟨rfl, rfl⟩
        go_wp2
        go_meet
        exact ⟨congrArg Value.bool (by rw [h0.out, h1.out] <;> rfl), hx1⟩
      · replace h1 := show Hid _ from h1
        cases h2 : (rd == 1)
        · cases h3 : (rd == 3)
          · go_wp2_with fail
            refine (rName_x nm true h0.out _ hnm).mono ?_
            rintro e w1 ⟨rfl, hx1⟩
            have hb1 := hb.out.ext hx1
            have y1 := hb1.c1
            have y2 := hb1.c2
            have y3 := hb1.c3
            replace hx1 := show Hid (Ext W0 w1) from hx1
            clear hb1
            go_wp2_with fail
            refine (within_x _ _ _ true h1.out _).mono ?_
            rintro e w9 ⟨rfl, rfl⟩
            go_wp2
            go_meet
            exact ⟨congrArg Value.bool (by rw [h0.out, h1.out, h2, h3] <;> rfl), hx1⟩
          · cases h4 : lz kd 1 3
            · replace h4 := show Hid _ from h4
              go_wp2_with fail
              refine (rName_x nm true h0.out _ hnm).mono ?_
              rintro e w1 ⟨rfl, hx1⟩
              have hb1 := hb.out.ext hx1
              have y1 := hb1.c1
              have y2 := hb1.c2
              have y3 := hb1.c3
              replace hx1 := show Hid (Ext W0 w1) from hx1
              clear hb1
              go_wp2_with fail
              refine (within_x _ _ _ true h1.out _).mono ?_
              rintro e w9 ⟨rfl, rfl⟩
              go_wp2_with fail
              refine (within_x _ _ _ false h4.out _).mono ?_
              rintro e w9 ⟨rfl, rfl⟩
              go_wp2
              go_meet
              exact ⟨congrArg Value.bool (by rw [h0.out, h1.out, h2, h3, h4.out] <;> rfl), hx1⟩
            · replace h4 := show Hid _ from h4
              go_wp2_with fail
              refine (rName_x nm true h0.out _ hnm).mono ?_
              rintro e w1 ⟨rfl, hx1⟩
              have hb1 := hb.out.ext hx1
              have y1 := hb1.c1
              have y2 := hb1.c2
              have y3 := hb1.c3
              replace hx1 := show Hid (Ext W0 w1) from hx1
              clear hb1
              go_wp2_with fail
              refine (within_x _ _ _ true h1.out _).mono ?_
              rintro e w9 ⟨rfl, rfl⟩
              go_wp2_with fail
              refine (within_x _ _ _ true h4.out _).mono ?_
              rintro e w9 ⟨rfl, rfl⟩
              go_wp2
              go_meet
              exact ⟨congrArg Value.bool (by rw [h0.out, h1.out, h2, h3, h4.out] <;> rfl), hx1⟩
        · cases h4 : lz kd 1 3
          · replace h4 := show Hid _ from h4
            go_wp2_with fail
            refine (rName_x nm true h0.out _ hnm).mono ?_
            rintro e w1 ⟨rfl, hx1⟩
            have hb1 := hb.out.ext hx1
            have y1 := hb1.c1
            have y2 := hb1.c2
            have y3 := hb1.c3
            replace hx1 := show Hid (Ext W0 w1) from hx1
            clear hb1
            go_wp2_with fail
            refine (within_x _ _ _ true h1.out _).mono ?_
            rintro e w9 ⟨rfl, rfl⟩
            go_wp2_with fail
            refine (within_x _ _ _ false h4.out _).mono ?_
            rintro e w9 ⟨rfl, rfl⟩
            go_wp2
            go_meet
            exact ⟨congrArg Value.bool (by rw [h0.out, h1.out, h2, h4.out] <;> rfl), hx1⟩
          · replace h4 := show Hid _ from h4
            go_wp2_with fail
            refine (rName_x nm true h0.out _ hnm).mono ?_
            rintro e w1 ⟨rfl, hx1⟩
            have hb1 := hb.out.ext hx1
            have y1 := hb1.c1
            have y2 := hb1.c2
            have y3 := hb1.c3
            replace hx1 := show Hid (Ext W0 w1) from hx1
            clear hb1
            go_wp2_with fail
            refine (within_x _ _ _ true h1.out _).mono ?_
            rintro e w9 ⟨rfl, rfl⟩
            go_wp2_with fail
            refine (within_x _ _ _ true h4.out _).mono ?_
            rintro e w9 ⟨rfl, rfl⟩
            go_wp2
            go_meet
            exact ⟨congrArg Value.bool (by rw [h0.out, h1.out, h2, h4.out] <;> rfl), hx1⟩
  case rest =>
    obtain ⟨rfl, hx⟩ := hcut
    clear y0
    go_upto_region 2 with fail
    go_cut [3] from 4 (fun t wx => t = .bool ((nmb nm && (lz cn 1 3 && ((rd == 1 || rd == 3) && lz kd 1 3))) && (r2B ev && (lz tm 1 600 && (lz gr 0 (tm - 1) && (kd != 3 || gr == 0))))) ∧ Hid (Ext W0 wx))
    case first =>
      have hb1 := hb.out.ext hx.out
      have y3 := hb1.c3
      have y4 := hb1.c4
      have y5 := hb1.c5
      have y6 := hb1.c6
      clear hb1
      cases hB : (nmb nm && (lz cn 1 3 && ((rd == 1 || rd == 3) && lz kd 1 3)))
      · go_wp2
        go_meet
        exact ⟨congrArg Value.bool (by rw [hB] <;> rfl), hx⟩
      · obtain ⟨W1, hW1, hx1, hS⟩ := lay_every wc
        have z3 := hx1.cell_of y3
        have z4 := hx1.cell_of y4
        have z5 := hx1.cell_of y5
        have z6 := hx1.cell_of y6
        have hx2 := show Hid (Ext W0 W1) from hx.out.trans hx1
        replace hS := show Hid (Slc W1 _ _) from hS
        clear hx1
        cases h0 : r2B ev
        · replace h0 := show Hid _ from h0
          go_wp2_with fail
          refine (In_y _ [1, 2, 3, 4, 6, 12] ev false (by rw [every_in]; exact h0.out) _ (by decide) hS.out).mono ?_
          rintro e w9 ⟨rfl, rfl⟩
          go_wp2
          go_meet
          exact ⟨congrArg Value.bool (by rw [hB, h0.out] <;> rfl), hx2⟩
        · replace h0 := show Hid _ from h0
          cases h1 : lz tm 1 600
          · replace h1 := show Hid _ from h1
            go_wp2_with fail
            refine (In_y _ [1, 2, 3, 4, 6, 12] ev true (by rw [every_in]; exact h0.out) _ (by decide) hS.out).mono ?_
            rintro e w9 ⟨rfl, rfl⟩
            go_wp2_with fail
            refine (within_x _ _ _ false h1.out _).mono ?_
            rintro e w9 ⟨rfl, rfl⟩
            go_wp2
            go_meet
            exact ⟨congrArg Value.bool (by rw [hB, h0.out, h1.out] <;> rfl), hx2⟩
          · replace h1 := show Hid _ from h1
            have htm := (lz_iff _ _ _).1 h1.out
            cases h2 : lz gr 0 (tm - 1)
            · replace h2 := show Hid _ from h2
              go_wp2_with fail
              refine (In_y _ [1, 2, 3, 4, 6, 12] ev true (by rw [every_in]; exact h0.out) _ (by decide) hS.out).mono ?_
              rintro e w9 ⟨rfl, rfl⟩
              go_wp2_with fail
              refine (within_x _ _ _ true h1.out _).mono ?_
              rintro e w9 ⟨rfl, rfl⟩
              go_wp2_with fail
              refine (within_x _ _ _ false h2.out _).mono ?_
              rintro e w9 ⟨rfl, rfl⟩
              go_wp2
              go_meet
              exact ⟨congrArg Value.bool (by rw [hB, h0.out, h1.out, h2.out] <;> rfl), hx2⟩
            · replace h2 := show Hid _ from h2
              cases h3 : (kd != 3)
              · cases h4 : (gr == 0)
                · go_wp2_with fail
                  refine (In_y _ [1, 2, 3, 4, 6, 12] ev true (by rw [every_in]; exact h0.out) _ (by decide) hS.out).mono ?_
                  rintro e w9 ⟨rfl, rfl⟩
                  go_wp2_with fail
                  refine (within_x _ _ _ true h1.out _).mono ?_
                  rintro e w9 ⟨rfl, rfl⟩
                  go_wp2_with fail
                  refine (within_x _ _ _ true h2.out _).mono ?_
                  rintro e w9 ⟨rfl, rfl⟩
                  go_wp2
                  go_meet
                  exact ⟨congrArg Value.bool (by rw [hB, h0.out, h1.out, h2.out, h3, h4] <;> rfl), hx2⟩
                · go_wp2_with fail
                  refine (In_y _ [1, 2, 3, 4, 6, 12] ev true (by rw [every_in]; exact h0.out) _ (by decide) hS.out).mono ?_
                  rintro e w9 ⟨rfl, rfl⟩
                  go_wp2_with fail
                  refine (within_x _ _ _ true h1.out _).mono ?_
                  rintro e w9 ⟨rfl, rfl⟩
                  go_wp2_with fail
                  refine (within_x _ _ _ true h2.out _).mono ?_
                  rintro e w9 ⟨rfl, rfl⟩
                  go_wp2
                  go_meet
                  exact ⟨congrArg Value.bool (by rw [hB, h0.out, h1.out, h2.out, h3, h4] <;> rfl), hx2⟩
              · go_wp2_with fail
                refine (In_y _ [1, 2, 3, 4, 6, 12] ev true (by rw [every_in]; exact h0.out) _ (by decide) hS.out).mono ?_
                rintro e w9 ⟨rfl, rfl⟩
                go_wp2_with fail
                refine (within_x _ _ _ true h1.out _).mono ?_
                rintro e w9 ⟨rfl, rfl⟩
                go_wp2_with fail
                refine (within_x _ _ _ true h2.out _).mono ?_
                rintro e w9 ⟨rfl, rfl⟩
                go_wp2
                go_meet
                exact ⟨congrArg Value.bool (by rw [hB, h0.out, h1.out, h2.out, h3] <;> rfl), hx2⟩
    case rest =>
      clear hx
      obtain ⟨rfl, hx⟩ := hcut
      go_upto_region 3 with fail
      go_cut [3] from 4 (fun t wx => t = .bool (((nmb nm && (lz cn 1 3 && ((rd == 1 || rd == 3) && lz kd 1 3))) && (r2B ev && (lz tm 1 600 && (lz gr 0 (tm - 1) && (kd != 3 || gr == 0))))) && (lz rt 0 1000000000 && (lz pn 0 1000000000 && (r6B tm rs && (r7B o0 o1 o2 o3 && (lz ov 1 3 && (r8B lt && r9B lt.length cp))))))) ∧ Hid (Ext W0 wx))
      case first =>
        have hb1 := hb.out.ext hx.out
        have y7 := hb1.c7
        have y9 := hb1.c9
        clear hb1
        cases hB : ((nmb nm && (lz cn 1 3 && ((rd == 1 || rd == 3) && lz kd 1 3))) && (r2B ev && (lz tm 1 600 && (lz gr 0 (tm - 1) && (kd != 3 || gr == 0)))))
        · go_wp2
          go_meet
          exact ⟨congrArg Value.bool (by rw [hB] <;> rfl), hx⟩
        · have htm := tm_of hB
          cases h0 : lz rt 0 1000000000
          · replace h0 := show Hid _ from h0
            go_wp2_with fail
            refine (within_x _ _ _ false h0.out _).mono ?_
            rintro e w9 ⟨rfl, rfl⟩
            go_wp2
            go_meet
            exact ⟨congrArg Value.bool (by rw [hB, h0.out] <;> rfl), hx⟩
          · replace h0 := show Hid _ from h0
            cases h1 : lz pn 0 1000000000
            · replace h1 := show Hid _ from h1
              go_wp2_with fail
              refine (within_x _ _ _ true h0.out _).mono ?_
              rintro e w9 ⟨rfl, rfl⟩
              go_wp2_with fail
              refine (within_x _ _ _ false h1.out _).mono ?_
              rintro e w9 ⟨rfl, rfl⟩
              go_wp2
              go_meet
              exact ⟨congrArg Value.bool (by rw [hB, h0.out, h1.out] <;> rfl), hx⟩
            · replace h1 := show Hid _ from h1
              cases h2 : r6B tm rs
              · replace h2 := show Hid _ from h2
                have hk0 := show Hid (Blk _ P _) from hk.out.ext hx.out
                have hb0 := show Hid (Bx _ P _ _ _ _ _ _ _ _ _ _ _ _ _ _ _ _ _ _ _ _ _ _) from hb.out.ext hx.out
                go_wp2_with fail
                refine (within_x _ _ _ true h0.out _).mono ?_
                rintro e w9 ⟨rfl, rfl⟩
                go_wp2_with fail
                refine (within_x _ _ _ true h1.out _).mono ?_
                rintro e w9 ⟨rfl, rfl⟩
                go_wp2_with (refine load27 hk0.out rfl rfl rfl rfl ?_)
                refine (rresets_x2 nm cn rd kd ev tm gr rt vr rs pn o0 o1 o2 o3 ov vl lt cp rl (.slice va hd.length vc) hd false h2.out _ htm.1 htm.2 hrs hb0.out.sr hb0.out.sl hb0.out.sh).mono ?_
                rintro e w2 ⟨rfl, hx2⟩
                have hb2 := hb0.out.ext hx2
                have y10 := hb2.c10
                have y11 := hb2.c11
                have y12 := hb2.c12
                have y13 := hb2.c13
                have y14 := hb2.c14
                have hk2 := show Hid (Blk w2 P _) from hk0.out.ext hx2
                replace hb2 := show Hid (Bx w2 P _ _ _ _ _ _ _ _ _ _ _ _ _ _ _ _ _ _ _ _ _ _) from hb2
                replace hx2 := show Hid (Ext W0 w2) from hx.out.trans hx2
                clear hb0 hk0
                go_wp2
                go_meet
                exact ⟨congrArg Value.bool (by rw [hB, h0.out, h1.out, h2.out] <;> rfl), hx2⟩
              · replace h2 := show Hid _ from h2
                cases h3 : r7B o0 o1 o2 o3
                · replace h3 := show Hid _ from h3
                  have hk0 := show Hid (Blk _ P _) from hk.out.ext hx.out
                  have hb0 := show Hid (Bx _ P _ _ _ _ _ _ _ _ _ _ _ _ _ _ _ _ _ _ _ _ _ _) from hb.out.ext hx.out
                  go_wp2_with fail
                  refine (within_x _ _ _ true h0.out _).mono ?_
                  rintro e w9 ⟨rfl, rfl⟩
                  go_wp2_with fail
                  refine (within_x _ _ _ true h1.out _).mono ?_
                  rintro e w9 ⟨rfl, rfl⟩
                  go_wp2_with (refine load27 hk0.out rfl rfl rfl rfl ?_)
                  refine (rresets_x2 nm cn rd kd ev tm gr rt vr rs pn o0 o1 o2 o3 ov vl lt cp rl (.slice va hd.length vc) hd true h2.out _ htm.1 htm.2 hrs hb0.out.sr hb0.out.sl hb0.out.sh).mono ?_
                  rintro e w2 ⟨rfl, hx2⟩
                  have hb2 := hb0.out.ext hx2
                  have y10 := hb2.c10
                  have y11 := hb2.c11
                  have y12 := hb2.c12
                  have y13 := hb2.c13
                  have y14 := hb2.c14
                  have hk2 := show Hid (Blk w2 P _) from hk0.out.ext hx2
                  replace hb2 := show Hid (Bx w2 P _ _ _ _ _ _ _ _ _ _ _ _ _ _ _ _ _ _ _ _ _ _) from hb2
                  replace hx2 := show Hid (Ext W0 w2) from hx.out.trans hx2
                  clear hb0 hk0
                  go_wp2_with fail
                  refine (Order_x o0 o1 o2 o3 false h3.out _).mono ?_
                  rintro e w3 ⟨rfl, hx3⟩
                  have hb3 := hb2.out.ext hx3
                  have y14 := hb3.c14
                  have hk3 := show Hid (Blk w3 P _) from hk2.out.ext hx3
                  replace hb3 := show Hid (Bx w3 P _ _ _ _ _ _ _ _ _ _ _ _ _ _ _ _ _ _ _ _ _ _) from hb3
                  replace hx3 := show Hid (Ext W0 w3) from hx2.out.trans hx3
                  go_wp2
                  go_meet
                  exact ⟨congrArg Value.bool (by rw [hB, h0.out, h1.out, h2.out, h3.out] <;> rfl), hx3⟩
                · replace h3 := show Hid _ from h3
                  cases h4 : lz ov 1 3
                  · replace h4 := show Hid _ from h4
                    have hk0 := show Hid (Blk _ P _) from hk.out.ext hx.out
                    have hb0 := show Hid (Bx _ P _ _ _ _ _ _ _ _ _ _ _ _ _ _ _ _ _ _ _ _ _ _) from hb.out.ext hx.out
                    go_wp2_with fail
                    refine (within_x _ _ _ true h0.out _).mono ?_
                    rintro e w9 ⟨rfl, rfl⟩
                    go_wp2_with fail
                    refine (within_x _ _ _ true h1.out _).mono ?_
                    rintro e w9 ⟨rfl, rfl⟩
                    go_wp2_with (refine load27 hk0.out rfl rfl rfl rfl ?_)
                    refine (rresets_x2 nm cn rd kd ev tm gr rt vr rs pn o0 o1 o2 o3 ov vl lt cp rl (.slice va hd.length vc) hd true h2.out _ htm.1 htm.2 hrs hb0.out.sr hb0.out.sl hb0.out.sh).mono ?_
                    rintro e w2 ⟨rfl, hx2⟩
                    have hb2 := hb0.out.ext hx2
                    have y10 := hb2.c10
                    have y11 := hb2.c11
                    have y12 := hb2.c12
                    have y13 := hb2.c13
                    have y14 := hb2.c14
                    have hk2 := show Hid (Blk w2 P _) from hk0.out.ext hx2
                    replace hb2 := show Hid (Bx w2 P _ _ _ _ _ _ _ _ _ _ _ _ _ _ _ _ _ _ _ _ _ _) from hb2
                    replace hx2 := show Hid (Ext W0 w2) from hx.out.trans hx2
                    clear hb0 hk0
                    go_wp2_with fail
                    refine (Order_x o0 o1 o2 o3 true h3.out _).mono ?_
                    rintro e w3 ⟨rfl, hx3⟩
                    have hb3 := hb2.out.ext hx3
                    have y14 := hb3.c14
                    have hk3 := show Hid (Blk w3 P _) from hk2.out.ext hx3
                    replace hb3 := show Hid (Bx w3 P _ _ _ _ _ _ _ _ _ _ _ _ _ _ _ _ _ _ _ _ _ _) from hb3
                    replace hx3 := show Hid (Ext W0 w3) from hx2.out.trans hx3
                    go_wp2_with fail
                    refine (within_x _ _ _ false h4.out _).mono ?_
                    rintro e w9 ⟨rfl, rfl⟩
                    go_wp2
                    go_meet
                    exact ⟨congrArg Value.bool (by rw [hB, h0.out, h1.out, h2.out, h3.out, h4.out] <;> rfl), hx3⟩
                  · replace h4 := show Hid _ from h4
                    cases h5 : (r8B lt && r9B lt.length cp)
                    · replace h5 := show Hid _ from h5
                      have hk0 := show Hid (Blk _ P _) from hk.out.ext hx.out
                      have hb0 := show Hid (Bx _ P _ _ _ _ _ _ _ _ _ _ _ _ _ _ _ _ _ _ _ _ _ _) from hb.out.ext hx.out
                      go_wp2_with fail
                      refine (within_x _ _ _ true h0.out _).mono ?_
                      rintro e w9 ⟨rfl, rfl⟩
                      go_wp2_with fail
                      refine (within_x _ _ _ true h1.out _).mono ?_
                      rintro e w9 ⟨rfl, rfl⟩
                      go_wp2_with (refine load27 hk0.out rfl rfl rfl rfl ?_)
                      refine (rresets_x2 nm cn rd kd ev tm gr rt vr rs pn o0 o1 o2 o3 ov vl lt cp rl (.slice va hd.length vc) hd true h2.out _ htm.1 htm.2 hrs hb0.out.sr hb0.out.sl hb0.out.sh).mono ?_
                      rintro e w2 ⟨rfl, hx2⟩
                      have hb2 := hb0.out.ext hx2
                      have y10 := hb2.c10
                      have y11 := hb2.c11
                      have y12 := hb2.c12
                      have y13 := hb2.c13
                      have y14 := hb2.c14
                      have hk2 := show Hid (Blk w2 P _) from hk0.out.ext hx2
                      replace hb2 := show Hid (Bx w2 P _ _ _ _ _ _ _ _ _ _ _ _ _ _ _ _ _ _ _ _ _ _) from hb2
                      replace hx2 := show Hid (Ext W0 w2) from hx.out.trans hx2
                      clear hb0 hk0
                      go_wp2_with fail
                      refine (Order_x o0 o1 o2 o3 true h3.out _).mono ?_
                      rintro e w3 ⟨rfl, hx3⟩
                      have hb3 := hb2.out.ext hx3
                      have y14 := hb3.c14
                      have hk3 := show Hid (Blk w3 P _) from hk2.out.ext hx3
                      replace hb3 := show Hid (Bx w3 P _ _ _ _ _ _ _ _ _ _ _ _ _ _ _ _ _ _ _ _ _ _) from hb3
                      replace hx3 := show Hid (Ext W0 w3) from hx2.out.trans hx3
                      go_wp2_with fail
                      refine (within_x _ _ _ true h4.out _).mono ?_
                      rintro e w9 ⟨rfl, rfl⟩
                      go_wp2_with (refine load27 hk3.out rfl rfl rfl rfl ?_)
                      refine (ttiers_x2 nm cn rd kd ev tm gr rt vr rs pn o0 o1 o2 o3 ov vl lt cp rl (.slice va hd.length vc) hd false h5.out _ hlt hb3.out.sr hb3.out.sl hb3.out.sh).mono ?_
                      rintro e w4 ⟨rfl, hx4⟩
                      replace hx4 := show Hid (Ext W0 w4) from hx3.out.trans hx4
                      go_wp2
                      go_meet
                      exact ⟨congrArg Value.bool (by rw [hB, h0.out, h1.out, h2.out, h3.out, h4.out, h5.out] <;> rfl), hx4⟩
                    · replace h5 := show Hid _ from h5
                      have hk0 := show Hid (Blk _ P _) from hk.out.ext hx.out
                      have hb0 := show Hid (Bx _ P _ _ _ _ _ _ _ _ _ _ _ _ _ _ _ _ _ _ _ _ _ _) from hb.out.ext hx.out
                      go_wp2_with fail
                      refine (within_x _ _ _ true h0.out _).mono ?_
                      rintro e w9 ⟨rfl, rfl⟩
                      go_wp2_with fail
                      refine (within_x _ _ _ true h1.out _).mono ?_
                      rintro e w9 ⟨rfl, rfl⟩
                      go_wp2_with (refine load27 hk0.out rfl rfl rfl rfl ?_)
                      refine (rresets_x2 nm cn rd kd ev tm gr rt vr rs pn o0 o1 o2 o3 ov vl lt cp rl (.slice va hd.length vc) hd true h2.out _ htm.1 htm.2 hrs hb0.out.sr hb0.out.sl hb0.out.sh).mono ?_
                      rintro e w2 ⟨rfl, hx2⟩
                      have hb2 := hb0.out.ext hx2
                      have y10 := hb2.c10
                      have y11 := hb2.c11
                      have y12 := hb2.c12
                      have y13 := hb2.c13
                      have y14 := hb2.c14
                      have hk2 := show Hid (Blk w2 P _) from hk0.out.ext hx2
                      replace hb2 := show Hid (Bx w2 P _ _ _ _ _ _ _ _ _ _ _ _ _ _ _ _ _ _ _ _ _ _) from hb2
                      replace hx2 := show Hid (Ext W0 w2) from hx.out.trans hx2
                      clear hb0 hk0
                      go_wp2_with fail
                      refine (Order_x o0 o1 o2 o3 true h3.out _).mono ?_
                      rintro e w3 ⟨rfl, hx3⟩
                      have hb3 := hb2.out.ext hx3
                      have y14 := hb3.c14
                      have hk3 := show Hid (Blk w3 P _) from hk2.out.ext hx3
                      replace hb3 := show Hid (Bx w3 P _ _ _ _ _ _ _ _ _ _ _ _ _ _ _ _ _ _ _ _ _ _) from hb3
                      replace hx3 := show Hid (Ext W0 w3) from hx2.out.trans hx3
                      go_wp2_with fail
                      refine (within_x _ _ _ true h4.out _).mono ?_
                      rintro e w9 ⟨rfl, rfl⟩
                      go_wp2_with (refine load27 hk3.out rfl rfl rfl rfl ?_)
                      refine (ttiers_x2 nm cn rd kd ev tm gr rt vr rs pn o0 o1 o2 o3 ov vl lt cp rl (.slice va hd.length vc) hd true h5.out _ hlt hb3.out.sr hb3.out.sl hb3.out.sh).mono ?_
                      rintro e w4 ⟨rfl, hx4⟩
                      replace hx4 := show Hid (Ext W0 w4) from hx3.out.trans hx4
                      go_wp2
                      go_meet
                      exact ⟨congrArg Value.bool (by rw [hB, h0.out, h1.out, h2.out, h3.out, h4.out, h5.out] <;> rfl), hx4⟩
      case rest =>
        clear hx
        obtain ⟨rfl, hx⟩ := hcut
        go_upto_region 4 with fail
        go_cut [3] from 4 (fun t wx => t = .bool ((((nmb nm && (lz cn 1 3 && ((rd == 1 || rd == 3) && lz kd 1 3))) && (r2B ev && (lz tm 1 600 && (lz gr 0 (tm - 1) && (kd != 3 || gr == 0))))) && (lz rt 0 1000000000 && (lz pn 0 1000000000 && (r6B tm rs && (r7B o0 o1 o2 o3 && (lz ov 1 3 && (r8B lt && r9B lt.length cp))))))) && (lz rl 1 4 && (rgt hd && (rl != 1 || hd.length == 0)))) ∧ Hid (Ext W0 wx))
        case first =>
          have hb1 := hb.out.ext hx.out
          have y17 := hb1.c17
          have y18 := hb1.c18
          have hs1 := show Hid (Slc wc (.slice va hd.length vc) hd) from hb1.sh
          clear hb1
          cases hB : (((nmb nm && (lz cn 1 3 && ((rd == 1 || rd == 3) && lz kd 1 3))) && (r2B ev && (lz tm 1 600 && (lz gr 0 (tm - 1) && (kd != 3 || gr == 0))))) && (lz rt 0 1000000000 && (lz pn 0 1000000000 && (r6B tm rs && (r7B o0 o1 o2 o3 && (lz ov 1 3 && (r8B lt && r9B lt.length cp)))))))
          · go_wp2
            go_meet
            exact ⟨congrArg Value.bool (by rw [hB] <;> rfl), hx⟩
          · cases h0 : lz rl 1 4
            · replace h0 := show Hid _ from h0
              go_wp2_with fail
              refine (within_x _ _ _ false h0.out _).mono ?_
              rintro e w9 ⟨rfl, rfl⟩
              go_wp2
              go_meet
              exact ⟨congrArg Value.bool (by rw [hB, h0.out] <;> rfl), hx⟩
            · replace h0 := show Hid _ from h0
              cases h1 : rgt hd
              · replace h1 := show Hid _ from h1
                go_wp2_with fail
                refine (within_x _ _ _ true h0.out _).mono ?_
                rintro e w9 ⟨rfl, rfl⟩
                go_wp2_with fail
                refine (Right_x (.slice va hd.length vc) hd false h1.out _ hhd hs1.out).mono ?_
                rintro e w2 ⟨rfl, hx2⟩
                have hb2 := hb.out.ext (hx.out.trans hx2)
                have y17 := hb2.c17
                have y18 := hb2.c18
                clear hb2
                replace hx2 := show Hid (Ext W0 w2) from hx.out.trans hx2
                go_wp2
                go_meet
                exact ⟨congrArg Value.bool (by rw [hB, h0.out, h1.out] <;> rfl), hx2⟩
              · replace h1 := show Hid _ from h1
                cases h2 : (rl != 1)
                · by_cases h3 : hd.length = 0
                  · have h3b : (hd.length == 0) = true := by simpa using h3
                    have h3i : (((hd.length : Nat) : Int) == 0) = true := by rw [beq_iff_eq]; omega
                    replace h3 := show Hid _ from h3
                    go_wp2_with fail
                    refine (within_x _ _ _ true h0.out _).mono ?_
                    rintro e w9 ⟨rfl, rfl⟩
                    go_wp2_with fail
                    refine (Right_x (.slice va hd.length vc) hd true h1.out _ hhd hs1.out).mono ?_
                    rintro e w2 ⟨rfl, hx2⟩
                    have hb2 := hb.out.ext (hx.out.trans hx2)
                    have y17 := hb2.c17
                    have y18 := hb2.c18
                    clear hb2
                    replace hx2 := show Hid (Ext W0 w2) from hx.out.trans hx2
                    go_wp2
                    go_meet
                    exact ⟨congrArg Value.bool (by rw [hB, h0.out, h1.out, h2, h3b] <;> rfl), hx2⟩
                  · have h3b : (hd.length == 0) = false := by simpa using h3
                    have h3i : (((hd.length : Nat) : Int) == 0) = false := by rw [beq_eq_false_iff_ne]; omega
                    go_wp2_with fail
                    refine (within_x _ _ _ true h0.out _).mono ?_
                    rintro e w9 ⟨rfl, rfl⟩
                    go_wp2_with fail
                    refine (Right_x (.slice va hd.length vc) hd true h1.out _ hhd hs1.out).mono ?_
                    rintro e w2 ⟨rfl, hx2⟩
                    have hb2 := hb.out.ext (hx.out.trans hx2)
                    have y17 := hb2.c17
                    have y18 := hb2.c18
                    clear hb2
                    replace hx2 := show Hid (Ext W0 w2) from hx.out.trans hx2
                    go_wp2
                    go_meet
                    exact ⟨congrArg Value.bool (by rw [hB, h0.out, h1.out, h2, h3b] <;> rfl), hx2⟩
                · go_wp2_with fail
                  refine (within_x _ _ _ true h0.out _).mono ?_
                  rintro e w9 ⟨rfl, rfl⟩
                  go_wp2_with fail
                  refine (Right_x (.slice va hd.length vc) hd true h1.out _ hhd hs1.out).mono ?_
                  rintro e w2 ⟨rfl, hx2⟩
                  have hb2 := hb.out.ext (hx.out.trans hx2)
                  have y17 := hb2.c17
                  have y18 := hb2.c18
                  clear hb2
                  replace hx2 := show Hid (Ext W0 w2) from hx.out.trans hx2
                  go_wp2
                  go_meet
                  exact ⟨congrArg Value.bool (by rw [hB, h0.out, h1.out, h2] <;> rfl), hx2⟩
        case rest =>
          clear hx
          obtain ⟨rfl, hx⟩ := hcut
          cases hB : ((((nmb nm && (lz cn 1 3 && ((rd == 1 || rd == 3) && lz kd 1 3))) && (r2B ev && (lz tm 1 600 && (lz gr 0 (tm - 1) && (kd != 3 || gr == 0))))) && (lz rt 0 1000000000 && (lz pn 0 1000000000 && (r6B tm rs && (r7B o0 o1 o2 o3 && (lz ov 1 3 && (r8B lt && r9B lt.length cp))))))) && (lz rl 1 4 && (rgt hd && (rl != 1 || hd.length == 0))))
          · have hE9 : Hid (E = 9) := by show _ = _; rw [hE.out, hB]; rfl
            clear hE
            go_wp2
            go_ret
            exact ⟨ret_int hE9.out.symm, hx0.out.trans hx.out⟩
          · have hE9 : Hid (E = 0) := by show _ = _; rw [hE.out, hB]; rfl
            clear hE
            go_wp2
            go_ret
            exact ⟨ret_int hE9.out.symm, hx0.out.trans hx.out⟩
end Go.Proofs.YtafjmpaefikdcaaGreatDoor.L8