/- For every product and every string, of the project's tree at the commit that COMMIT names, PrinterBack returns true and leaves its arguments as they were, with the listed variables laid as the program's text lays them. -/
import Derived.Test.YtbnpaeejlfaboaaGreatDoorR11
namespace Go.Proofs.YtbnpaeejlfaboaaGreatDoor.printerBack
open Go.ChangeShapes Go.WideShapes Go.ChangeAt Go.RowKit Go.Lib
set_option linter.unusedVariables false
set_option maxRecDepth 100000 in
set_option maxHeartbeats 4000000 in

theorem walk (p0 : Prd) (vr0 vl0 vh0 : Value) (hp0 : L8.Fits p0.nm p0.rs p0.lt p0.hd) (a1 : ByteArray) (w1 : a1.size ≤ maxLen) (w : World) (he : Evn w) (sr0 : L8.Slp w vr0 p0.rs) (sl0 : L8.Slp w vl0 p0.lt) (sh0 : L8.Slc w vh0 p0.hd) :
    Calls Tryz.prog 3 #[.agg (pcells p0 vr0 vl0 vh0), .string a1] w fun e w' => e = .returned (.bool true) ∧ Ext w w' := by
  obtain ⟨l, rfl⟩ : ∃ l : List UInt8, a1 = ⟨l.toArray⟩ := ⟨a1.data.toList, by simp⟩
  have m0 := hp0.nm; have m1 := hp0.rs; have m2 := hp0.lt; have m3 := hp0.hd
  unfold maxLen at m0 m1 m2 m3
  clear hp0 w1
  obtain ⟨ar, cr, rfl, _, _⟩ := sr0.src
  obtain ⟨al, cl, rfl, _, _⟩ := sl0.src
  obtain ⟨ah, ch, rfl, _, _⟩ := sh0.src
  have hone := pcells_slp sr0 sl0 sh0
  have hsz : (pcells p0 (.slice ar p0.rs.length cr) (.slice al p0.lt.length cl) (.slice ah p0.hd.length ch)).size = 19 := rfl
  obtain ⟨W0, b, hW0, hb, hx0, hB⟩ : ∃ W b, w.alloc (.cells (pcells p0 (.slice ar p0.rs.length cr) (.slice al p0.lt.length cl) (.slice ah p0.hd.length ch)) 27) = W ∧ w.heap.size = b ∧ Ext w W ∧ Blk W b (pcells p0 (.slice ar p0.rs.length cr) (.slice al p0.lt.length cl) (.slice ah p0.hd.length ch)) := ⟨_, _, rfl, rfl, (Ext.refl w).alloc _ _, heap_alloc_last w _⟩
  have y0 : W0.cell? ⟨b, 0, none⟩ = some (.string ⟨p0.nm.toArray⟩) := (cell_of_row _ b 0 _ _ _ hB).trans rfl
  have y8 : W0.cell? ⟨b, 8, none⟩ = some (.slice ar p0.rs.length cr) := (cell_of_row _ b 8 _ _ _ hB).trans rfl
  have y15 : W0.cell? ⟨b, 15, none⟩ = some (.slice al p0.lt.length cl) := (cell_of_row _ b 15 _ _ _ hB).trans rfl
  have y18 : W0.cell? ⟨b, 18, none⟩ = some (.slice ah p0.hd.length ch) := (cell_of_row _ b 18 _ _ _ hB).trans rfl
  replace hx0 := show Hid _ from hx0
  replace hone := show Hid _ from hone
  by_cases c0 : 100 < p0.nm.length
  · have hli : (100 : Int) < (p0.nm.length : Int) := by omega
    have haw := show Hid _ from awake_w W0 (he.pnv.ext hx0.out)
    clear hB sr0 sl0 sh0 hone he c0
    go_enter Tryz.func3, Tryz.ntmps3
    go_wp2_with fail
    refine Calls.mono haw.out ?_
    rintro e w1 ⟨rfl, hx⟩
    replace hx := show Hid _ from hx
    go_wp2
    go_ret
    exact ⟨rfl, hx0.out.trans hx.out⟩
  by_cases c1 : 50 < p0.rs.length
  · have hli : (50 : Int) < (p0.rs.length : Int) := by omega
    have pi0 : ¬ (100 : Int) < (p0.nm.length : Int) := by omega
    have haw := show Hid _ from awake_w W0 (he.pnv.ext hx0.out)
    clear hB sr0 sl0 sh0 hone he c1
    go_enter Tryz.func3, Tryz.ntmps3
    go_wp2_with fail
    refine Calls.mono haw.out ?_
    rintro e w1 ⟨rfl, hx⟩
    replace hx := show Hid _ from hx
    go_wp2
    go_ret
    exact ⟨rfl, hx0.out.trans hx.out⟩
  by_cases c2 : 50 < p0.lt.length
  · have hli : (50 : Int) < (p0.lt.length : Int) := by omega
    have pi0 : ¬ (100 : Int) < (p0.nm.length : Int) := by omega
    have pi1 : ¬ (50 : Int) < (p0.rs.length : Int) := by omega
    have haw := show Hid _ from awake_w W0 (he.pnv.ext hx0.out)
    clear hB sr0 sl0 sh0 hone he c2
    go_enter Tryz.func3, Tryz.ntmps3
    go_wp2_with fail
    refine Calls.mono haw.out ?_
    rintro e w1 ⟨rfl, hx⟩
    replace hx := show Hid _ from hx
    go_wp2
    go_ret
    exact ⟨rfl, hx0.out.trans hx.out⟩
  by_cases c3 : 300 < p0.hd.length
  · have hli : (300 : Int) < (p0.hd.length : Int) := by omega
    have pi0 : ¬ (100 : Int) < (p0.nm.length : Int) := by omega
    have pi1 : ¬ (50 : Int) < (p0.rs.length : Int) := by omega
    have pi2 : ¬ (50 : Int) < (p0.lt.length : Int) := by omega
    have haw := show Hid _ from awake_w W0 (he.pnv.ext hx0.out)
    clear hB sr0 sl0 sh0 hone he c3
    go_enter Tryz.func3, Tryz.ntmps3
    go_wp2_with fail
    refine Calls.mono haw.out ?_
    rintro e w1 ⟨rfl, hx⟩
    replace hx := show Hid _ from hx
    go_wp2
    go_ret
    exact ⟨rfl, hx0.out.trans hx.out⟩
  by_cases c4 : 4000 < l.length
  · have hli : (4000 : Int) < (l.length : Int) := by omega
    have pi0 : ¬ (100 : Int) < (p0.nm.length : Int) := by omega
    have pi1 : ¬ (50 : Int) < (p0.rs.length : Int) := by omega
    have pi2 : ¬ (50 : Int) < (p0.lt.length : Int) := by omega
    have pi3 : ¬ (300 : Int) < (p0.hd.length : Int) := by omega
    have haw := show Hid _ from awake_w W0 (he.pnv.ext hx0.out)
    clear hB sr0 sl0 sh0 hone he c4
    go_enter Tryz.func3, Tryz.ntmps3
    go_wp2_with fail
    refine Calls.mono haw.out ?_
    rintro e w1 ⟨rfl, hx⟩
    replace hx := show Hid _ from hx
    go_wp2
    go_ret
    exact ⟨rfl, hx0.out.trans hx.out⟩
  have pi0 : ¬ (100 : Int) < (p0.nm.length : Int) := by omega
  have pi1 : ¬ (50 : Int) < (p0.rs.length : Int) := by omega
  have pi2 : ¬ (50 : Int) < (p0.lt.length : Int) := by omega
  have pi3 : ¬ (300 : Int) < (p0.hd.length : Int) := by omega
  have pi4 : ¬ (4000 : Int) < (l.length : Int) := by omega
  have hlen : p0.nm.length ≤ 30000 ∧ p0.rs.length + p0.lt.length + p0.hd.length ≤ 30000 := ⟨by omega, by omega⟩
  have hll : l.length ≤ 30000 := by omega
  replace hlen := show Hid _ from hlen
  replace hll := show Hid _ from hll
  replace sr0 := show Hid (L8.Slp w _ p0.rs) from sr0
  replace sl0 := show Hid (L8.Slp w _ p0.lt) from sl0
  replace sh0 := show Hid (L8.Slc w _ p0.hd) from sh0
  replace he := show Hid _ from he
  clear c0 c1 c2 c3 c4
  by_cases hok : okP p0 = true
  · have hP1 := Print_w p0 (.slice ar p0.rs.length cr) (.slice al p0.lt.length cl) (.slice ah p0.hd.length ch) W0 (he.out.pnv.ext hx0.out) hlen.out.1 hlen.out.2 (sr0.out.ext hx0.out) (sl0.out.ext hx0.out) (sh0.out.ext hx0.out)
    rw [if_pos hok] at hP1
    replace hP1 := show Hid _ from hP1
    replace hok := show Hid _ from hok
    go_enter Tryz.func3, Tryz.ntmps3
    go_upto_region 3 with fail
    clear y0 y8 y15 y18 hW0 hb pi0 pi1 pi2 pi3 pi4 m0 m1 m2 m3
    go_wp2_with (refine load27 hB hsz rfl rfl rfl ?_)
    refine Calls.mono hP1.out ?_
    rintro e u1 ⟨rfl, hx⟩
    have hX := show Hid _ from hx0.out.trans hx
    replace hB : Hid (Blk u1 b (pcells p0 (.slice ar p0.rs.length cr) (.slice al p0.lt.length cl) (.slice ah p0.hd.length ch))) := Blk.ext hB hx
    clear hP1 hx hx0
    have haw := show Hid _ from awake_w u1 (he.out.pnv.ext hX.out)
    go_wp2_with fail
    refine Calls.mono haw.out ?_
    rintro e u2 ⟨rfl, hx⟩
    replace hX := show Hid _ from hX.out.trans hx
    have hB2 : Blk u2 b (pcells p0 (.slice ar p0.rs.length cr) (.slice al p0.lt.length cl) (.slice ah p0.hd.length ch)) := hB.out.ext hx
    clear haw hx hB
    have hCk := rCheck_p p0 (.slice ar p0.rs.length cr) (.slice al p0.lt.length cl) (.slice ah p0.hd.length ch) true hok.out u2 hlen.out.1 hlen.out.2 (sr0.out.ext hX.out) (sl0.out.ext hX.out) (sh0.out.ext hX.out)
    rw [if_pos rfl] at hCk
    replace hCk := show Hid _ from hCk
    go_wp2_with (refine load27 hB2 hsz rfl rfl rfl ?_)
    refine Calls.mono hCk.out ?_
    rintro e u3 ⟨rfl, hx⟩
    replace hX := show Hid _ from hX.out.trans hx
    clear hCk
    replace hB2 : Hid (Blk u3 b (pcells p0 (.slice ar p0.rs.length cr) (.slice al p0.lt.length cl) (.slice ah p0.hd.length ch))) := Blk.ext hB2 hx
    clear hx
    have hPa := show Hid _ from Parse_k (prs_prt hok.out) u3 (by have := prt_len hok.out; omega) (he.out.env.ext hX.out)
    go_wp2_with fail
    refine Calls.mono hPa.out ?_
    rintro e u4 ⟨qr, ql, qh, rfl, hx, q1, q2, q3⟩
    replace hX := show Hid _ from hX.out.trans hx
    replace hB2 : Hid (Blk u4 b (pcells p0 (.slice ar p0.rs.length cr) (.slice al p0.lt.length cl) (.slice ah p0.hd.length ch))) := hB2.out.ext hx
    clear hPa hx
    obtain ⟨V3, b3, hV3, hb3, hy3, hZ3⟩ := layY u4
    have hone3 := pcells_slp q1.out q2.out q3.out
    go_wp2_with (refine store27 hZ3 rfl rfl hone3 rfl rfl rfl rfl ?_)
    intro u5 hB3 hr3
    have hx3 : Ext u4 u5 := hr3.ext hy3 (by omega)
    clear hV3 hb3 hy3 hZ3 hr3 hone3
    replace hX := show Hid _ from hX.out.trans hx3
    replace hB2 : Blk u5 b (pcells p0 (.slice ar p0.rs.length cr) (.slice al p0.lt.length cl) (.slice ah p0.hd.length ch)) := hB2.out.ext hx3
    have hsq : (pcells p0 qr ql qh).size = 19 := rfl
    have hSm := show Hid _ from Prod_c p0 (.slice ar p0.rs.length cr) (.slice al p0.lt.length cl) (.slice ah p0.hd.length ch) qr ql qh u5 (by have := hlen.out.2; exact ⟨by omega, by omega, by omega⟩) (sr0.out.ext hX.out) (sl0.out.ext hX.out) (sh0.out.ext hX.out) (q1.out.ext hx3) (q2.out.ext hx3) (q3.out.ext hx3)
    clear hx3 q1 q2 q3
    go_wp2_with (first | refine load27 hB2 hsz rfl rfl rfl ?_ | refine load27 hB3 hsq rfl rfl rfl ?_)
    refine Calls.mono hSm.out ?_
    rintro e u6 ⟨rfl, hx⟩
    replace hX := show Hid _ from hX.out.trans hx
    clear hSm hx hB2 hB3 sr0 sl0 sh0 hlen hone hok
    generalize prt p0 = A0 at *
    cases hpr : prs l with
    | no x y =>
      have hne := prs_nz hpr
      have hxI : ¬ (x : Int) = 0 := by omega
      have hxB : ((x : Int) == 0) = false := by rw [beq_eq_false_iff_ne]; omega
      have hPa := show Hid _ from Parse_n hpr u6 hll.out (he.out.env.ext hX.out)
      clear hpr hne
      go_wp2_with fail
      refine Calls.mono hPa.out ?_
      rintro e v1 ⟨rfl, hx⟩
      replace hX := show Hid _ from hX.out.trans hx
      clear hPa hx
      obtain ⟨V1, b1, hV1, hb1, hy1, hZ1⟩ := layY v1
      have hone1 := zP_ok.2
      go_wp2_with (refine store27 hZ1 rfl rfl hone1 rfl rfl rfl rfl ?_)
      intro v2 hB1 hr1
      have hx1 : Ext v1 v2 := hr1.ext hy1 (by omega)
      clear hV1 hb1 hy1 hZ1 hr1 hone1
      replace hX := show Hid _ from hX.out.trans hx1
      clear hx1 hB1
      go_wp2
      go_ret
      exact ⟨rfl, hX.out⟩
    | ok x =>
      have hok := prs_okP hpr
      have hPa := show Hid _ from Parse_k hpr u6 hll.out (he.out.env.ext hX.out)
      clear hpr
      replace hok := show Hid _ from hok
      go_wp2_with fail
      refine Calls.mono hPa.out ?_
      rintro e v1 ⟨ur, ul, uh, rfl, hx, s1, s2, s3⟩
      replace hX := show Hid _ from hX.out.trans hx
      clear hPa hx
      obtain ⟨V1, b1, hV1, hb1, hy1, hZ1⟩ := layY v1
      have hone1 := pcells_slp s1.out s2.out s3.out
      go_wp2_with (refine store27 hZ1 rfl rfl hone1 rfl rfl rfl rfl ?_)
      intro v2 hB1 hr1
      have hx1 : Ext v1 v2 := hr1.ext hy1 (by omega)
      clear hV1 hb1 hy1 hZ1 hr1 hone1
      replace hX := show Hid _ from hX.out.trans hx1
      replace s1 : Hid (L8.Slp v2 ur x.rs) := s1.out.ext hx1
      replace s2 : Hid (L8.Slp v2 ul x.lt) := s2.out.ext hx1
      replace s3 : Hid (L8.Slc v2 uh x.hd) := s3.out.ext hx1
      clear hx1
      have hsx : (pcells x ur ul uh).size = 19 := rfl
      have hP1 := Print_w x ur ul uh v2 (he.out.pnv.ext hX.out) (by have := (okf hok.out).nl; omega) (by have := (okf hok.out).rl_; have := (okf hok.out).ll; have := (okf hok.out).hl; omega) s1.out s2.out s3.out
      rw [if_pos hok.out] at hP1
      replace hP1 := show Hid _ from hP1
      go_wp2_with (refine load27 hB1 hsx rfl rfl rfl ?_)
      refine Calls.mono hP1.out ?_
      rintro e v3 ⟨rfl, hx⟩
      replace hX := show Hid _ from hX.out.trans hx
      replace s1 : Hid (L8.Slp v3 ur x.rs) := s1.out.ext hx
      replace s2 : Hid (L8.Slp v3 ul x.lt) := s2.out.ext hx
      replace s3 : Hid (L8.Slc v3 uh x.hd) := s3.out.ext hx
      replace hB1 : Hid (Blk v3 b1 (pcells x ur ul uh)) := Blk.ext hB1 hx
      clear hP1 hx
      have hPb := show Hid _ from Parse_k (prs_prt hok.out) v3 (by have := prt_len hok.out; omega) (he.out.env.ext hX.out)
      go_wp2_with fail
      refine Calls.mono hPb.out ?_
      rintro e v4 ⟨tr, tl, th, rfl, hx, t1, t2, t3⟩
      replace hX := show Hid _ from hX.out.trans hx
      replace s1 : Hid (L8.Slp v4 ur x.rs) := s1.out.ext hx
      replace s2 : Hid (L8.Slp v4 ul x.lt) := s2.out.ext hx
      replace s3 : Hid (L8.Slc v4 uh x.hd) := s3.out.ext hx
      replace hB1 : Hid (Blk v4 b1 (pcells x ur ul uh)) := hB1.out.ext hx
      clear hPb hx
      obtain ⟨V2, b2, hV2, hb2, hy2, hZ2⟩ := layY v4
      have hone2 := pcells_slp t1.out t2.out t3.out
      go_wp2_with (refine store27 hZ2 rfl rfl hone2 rfl rfl rfl rfl ?_)
      intro v5 hB2 hr2
      have hx2 : Ext v4 v5 := hr2.ext hy2 (by omega)
      clear hV2 hb2 hy2 hZ2 hr2 hone2
      replace hX := show Hid _ from hX.out.trans hx2
      replace s1 : Hid (L8.Slp v5 ur x.rs) := s1.out.ext hx2
      replace s2 : Hid (L8.Slp v5 ul x.lt) := s2.out.ext hx2
      replace s3 : Hid (L8.Slc v5 uh x.hd) := s3.out.ext hx2
      replace hB1 : Hid (Blk v5 b1 (pcells x ur ul uh)) := hB1.out.ext hx2
      replace t1 : Hid (L8.Slp v5 tr x.rs) := t1.out.ext hx2
      replace t2 : Hid (L8.Slp v5 tl x.lt) := t2.out.ext hx2
      replace t3 : Hid (L8.Slc v5 th x.hd) := t3.out.ext hx2
      clear hx2
      have hsy : (pcells x tr tl th).size = 19 := rfl
      have hP1 := Print_w x tr tl th v5 (he.out.pnv.ext hX.out) (by have := (okf hok.out).nl; omega) (by have := (okf hok.out).rl_; have := (okf hok.out).ll; have := (okf hok.out).hl; omega) t1.out t2.out t3.out
      rw [if_pos hok.out] at hP1
      replace hP1 := show Hid _ from hP1
      go_wp2_with (refine load27 hB2 hsy rfl rfl rfl ?_)
      refine Calls.mono hP1.out ?_
      rintro e v6 ⟨rfl, hx⟩
      replace hX := show Hid _ from hX.out.trans hx
      have hB6 : Blk v6 b1 (pcells x ur ul uh) := hB1.out.ext hx
      have hB7 : Blk v6 b2 (pcells x tr tl th) := Blk.ext hB2 hx
      have hSm := show Hid _ from Prod_c x ur ul uh tr tl th v6 (by have := (okf hok.out).rl_; have := (okf hok.out).ll; have := (okf hok.out).hl; exact ⟨by omega, by omega, by omega⟩) (s1.out.ext hx) (s2.out.ext hx) (s3.out.ext hx) (t1.out.ext hx) (t2.out.ext hx) (t3.out.ext hx)
      clear hP1 hx s1 s2 s3 t1 t2 t3 hB1 hB2 hok
      generalize prt x = A at *
      go_wp2_with (first | refine load27 hB6 hsx rfl rfl rfl ?_ | refine load27 hB7 hsy rfl rfl rfl ?_)
      refine Calls.mono hSm.out ?_
      rintro e v7 ⟨rfl, hx⟩
      replace hX := show Hid _ from hX.out.trans hx
      clear hSm hx hB6 hB7
      go_wp2
      go_ret
      exact ⟨L8.ret_bool (by simp), hX.out⟩
  · have hP1 := Print_w p0 (.slice ar p0.rs.length cr) (.slice al p0.lt.length cl) (.slice ah p0.hd.length ch) W0 (he.out.pnv.ext hx0.out) hlen.out.1 hlen.out.2 (sr0.out.ext hx0.out) (sl0.out.ext hx0.out) (sh0.out.ext hx0.out)
    rw [if_neg hok] at hP1
    replace hP1 := show Hid _ from hP1
    replace hok := show Hid _ from hok
    go_enter Tryz.func3, Tryz.ntmps3
    go_upto_region 3 with fail
    clear y0 y8 y15 y18 hW0 hb pi0 pi1 pi2 pi3 pi4 m0 m1 m2 m3
    go_wp2_with (refine load27 hB hsz rfl rfl rfl ?_)
    refine Calls.mono hP1.out ?_
    rintro e u1 ⟨rfl, hx⟩
    have hX := show Hid _ from hx0.out.trans hx
    replace hB : Hid (Blk u1 b (pcells p0 (.slice ar p0.rs.length cr) (.slice al p0.lt.length cl) (.slice ah p0.hd.length ch))) := Blk.ext hB hx
    clear hP1 hx hx0
    have haw := show Hid _ from awake_w u1 (he.out.pnv.ext hX.out)
    go_wp2_with fail
    refine Calls.mono haw.out ?_
    rintro e u2 ⟨rfl, hx⟩
    replace hX := show Hid _ from hX.out.trans hx
    have hB2 : Blk u2 b (pcells p0 (.slice ar p0.rs.length cr) (.slice al p0.lt.length cl) (.slice ah p0.hd.length ch)) := hB.out.ext hx
    clear haw hx hB
    have hCk := rCheck_p p0 (.slice ar p0.rs.length cr) (.slice al p0.lt.length cl) (.slice ah p0.hd.length ch) false (by simpa using hok.out) u2 hlen.out.1 hlen.out.2 (sr0.out.ext hX.out) (sl0.out.ext hX.out) (sh0.out.ext hX.out)
    rw [if_neg (by decide)] at hCk
    replace hCk := show Hid _ from hCk
    go_wp2_with (refine load27 hB2 hsz rfl rfl rfl ?_)
    refine Calls.mono hCk.out ?_
    rintro e u3 ⟨rfl, hx⟩
    replace hX := show Hid _ from hX.out.trans hx
    clear hCk
    clear hx hB2 sr0 sl0 sh0 hlen hone hok
    cases hpr : prs l with
    | no x y =>
      have hne := prs_nz hpr
      have hxI : ¬ (x : Int) = 0 := by omega
      have hxB : ((x : Int) == 0) = false := by rw [beq_eq_false_iff_ne]; omega
      have hPa := show Hid _ from Parse_n hpr u3 hll.out (he.out.env.ext hX.out)
      clear hpr hne
      go_wp2_with fail
      refine Calls.mono hPa.out ?_
      rintro e v1 ⟨rfl, hx⟩
      replace hX := show Hid _ from hX.out.trans hx
      clear hPa hx
      obtain ⟨V1, b1, hV1, hb1, hy1, hZ1⟩ := layY v1
      have hone1 := zP_ok.2
      go_wp2_with (refine store27 hZ1 rfl rfl hone1 rfl rfl rfl rfl ?_)
      intro v2 hB1 hr1
      have hx1 : Ext v1 v2 := hr1.ext hy1 (by omega)
      clear hV1 hb1 hy1 hZ1 hr1 hone1
      replace hX := show Hid _ from hX.out.trans hx1
      clear hx1 hB1
      go_wp2
      go_ret
      exact ⟨rfl, hX.out⟩
    | ok x =>
      have hok := prs_okP hpr
      have hPa := show Hid _ from Parse_k hpr u3 hll.out (he.out.env.ext hX.out)
      clear hpr
      replace hok := show Hid _ from hok
      go_wp2_with fail
      refine Calls.mono hPa.out ?_
      rintro e v1 ⟨ur, ul, uh, rfl, hx, s1, s2, s3⟩
      replace hX := show Hid _ from hX.out.trans hx
      clear hPa hx
      obtain ⟨V1, b1, hV1, hb1, hy1, hZ1⟩ := layY v1
      have hone1 := pcells_slp s1.out s2.out s3.out
      go_wp2_with (refine store27 hZ1 rfl rfl hone1 rfl rfl rfl rfl ?_)
      intro v2 hB1 hr1
      have hx1 : Ext v1 v2 := hr1.ext hy1 (by omega)
      clear hV1 hb1 hy1 hZ1 hr1 hone1
      replace hX := show Hid _ from hX.out.trans hx1
      replace s1 : Hid (L8.Slp v2 ur x.rs) := s1.out.ext hx1
      replace s2 : Hid (L8.Slp v2 ul x.lt) := s2.out.ext hx1
      replace s3 : Hid (L8.Slc v2 uh x.hd) := s3.out.ext hx1
      clear hx1
      have hsx : (pcells x ur ul uh).size = 19 := rfl
      have hP1 := Print_w x ur ul uh v2 (he.out.pnv.ext hX.out) (by have := (okf hok.out).nl; omega) (by have := (okf hok.out).rl_; have := (okf hok.out).ll; have := (okf hok.out).hl; omega) s1.out s2.out s3.out
      rw [if_pos hok.out] at hP1
      replace hP1 := show Hid _ from hP1
      go_wp2_with (refine load27 hB1 hsx rfl rfl rfl ?_)
      refine Calls.mono hP1.out ?_
      rintro e v3 ⟨rfl, hx⟩
      replace hX := show Hid _ from hX.out.trans hx
      replace s1 : Hid (L8.Slp v3 ur x.rs) := s1.out.ext hx
      replace s2 : Hid (L8.Slp v3 ul x.lt) := s2.out.ext hx
      replace s3 : Hid (L8.Slc v3 uh x.hd) := s3.out.ext hx
      replace hB1 : Hid (Blk v3 b1 (pcells x ur ul uh)) := Blk.ext hB1 hx
      clear hP1 hx
      have hPb := show Hid _ from Parse_k (prs_prt hok.out) v3 (by have := prt_len hok.out; omega) (he.out.env.ext hX.out)
      go_wp2_with fail
      refine Calls.mono hPb.out ?_
      rintro e v4 ⟨tr, tl, th, rfl, hx, t1, t2, t3⟩
      replace hX := show Hid _ from hX.out.trans hx
      replace s1 : Hid (L8.Slp v4 ur x.rs) := s1.out.ext hx
      replace s2 : Hid (L8.Slp v4 ul x.lt) := s2.out.ext hx
      replace s3 : Hid (L8.Slc v4 uh x.hd) := s3.out.ext hx
      replace hB1 : Hid (Blk v4 b1 (pcells x ur ul uh)) := hB1.out.ext hx
      clear hPb hx
      obtain ⟨V2, b2, hV2, hb2, hy2, hZ2⟩ := layY v4
      have hone2 := pcells_slp t1.out t2.out t3.out
      go_wp2_with (refine store27 hZ2 rfl rfl hone2 rfl rfl rfl rfl ?_)
      intro v5 hB2 hr2
      have hx2 : Ext v4 v5 := hr2.ext hy2 (by omega)
      clear hV2 hb2 hy2 hZ2 hr2 hone2
      replace hX := show Hid _ from hX.out.trans hx2
      replace s1 : Hid (L8.Slp v5 ur x.rs) := s1.out.ext hx2
      replace s2 : Hid (L8.Slp v5 ul x.lt) := s2.out.ext hx2
      replace s3 : Hid (L8.Slc v5 uh x.hd) := s3.out.ext hx2
      replace hB1 : Hid (Blk v5 b1 (pcells x ur ul uh)) := hB1.out.ext hx2
      replace t1 : Hid (L8.Slp v5 tr x.rs) := t1.out.ext hx2
      replace t2 : Hid (L8.Slp v5 tl x.lt) := t2.out.ext hx2
      replace t3 : Hid (L8.Slc v5 th x.hd) := t3.out.ext hx2
      clear hx2
      have hsy : (pcells x tr tl th).size = 19 := rfl
      have hP1 := Print_w x tr tl th v5 (he.out.pnv.ext hX.out) (by have := (okf hok.out).nl; omega) (by have := (okf hok.out).rl_; have := (okf hok.out).ll; have := (okf hok.out).hl; omega) t1.out t2.out t3.out
      rw [if_pos hok.out] at hP1
      replace hP1 := show Hid _ from hP1
      go_wp2_with (refine load27 hB2 hsy rfl rfl rfl ?_)
      refine Calls.mono hP1.out ?_
      rintro e v6 ⟨rfl, hx⟩
      replace hX := show Hid _ from hX.out.trans hx
      have hB6 : Blk v6 b1 (pcells x ur ul uh) := hB1.out.ext hx
      have hB7 : Blk v6 b2 (pcells x tr tl th) := Blk.ext hB2 hx
      have hSm := show Hid _ from Prod_c x ur ul uh tr tl th v6 (by have := (okf hok.out).rl_; have := (okf hok.out).ll; have := (okf hok.out).hl; exact ⟨by omega, by omega, by omega⟩) (s1.out.ext hx) (s2.out.ext hx) (s3.out.ext hx) (t1.out.ext hx) (t2.out.ext hx) (t3.out.ext hx)
      clear hP1 hx s1 s2 s3 t1 t2 t3 hB1 hB2 hok
      generalize prt x = A at *
      go_wp2_with (first | refine load27 hB6 hsx rfl rfl rfl ?_ | refine load27 hB7 hsy rfl rfl rfl ?_)
      refine Calls.mono hSm.out ?_
      rintro e v7 ⟨rfl, hx⟩
      replace hX := show Hid _ from hX.out.trans hx
      clear hSm hx hB6 hB7
      go_wp2
      go_ret
      exact ⟨L8.ret_bool (by simp), hX.out⟩
set_option maxRecDepth 100000 in
theorem lifted (os : Os) (started : os.Started) (H : Type) (enc : TypeId × Value → H) :
    ReturnsInHanded {} Tryz.checked os 3 .any (fun w args => (Rows.printerBackSpec.pre enc Tryz.prog Tryz.f3 [] false w args ∧ laidMetH Tryz.prog laid w) ∧ sizedMet enc Tryz.prog Tryz.f3 (OpenSpec.ofChange Rows.printerBackSpec) false w args)
      (Rows.printerBackSpec.post enc Tryz.prog Tryz.f3 false true false false) := by
  refine wrap started (by kernel_rfl) Tryz.func3
    (ChangeSpec.witness_shaped (enc := enc) (C := Tryz.checked) (os := os) (X := fun w _ => laidMetH Tryz.prog laid w) false (World.laidAll Tryz.prog os laid) #[.agg #[.string ⟨#[]⟩, .int .i64 0, .int .i64 0, .int .i64 0, .int .i64 0, .int .i64 0, .int .i64 0, .int .i64 0, .slice none 0 0, .int .i64 0, .int .i64 0, .int .i64 0, .int .i64 0, .int .i64 0, .int .i64 0, .slice none 0 0, .int .i64 0, .int .i64 0, .slice none 0 0], .string ⟨#[]⟩] 8 (World.laidAll_os _ _ _)
      (World.shaped_of_ZipB (by kernel_rfl) (by kernel_rfl)) (by kernel_rfl) (by kernel_rfl) (by kernel_rfl)
      (by rw [MakeChecks.laidMetH_plain _ _ _ (by kernel_rfl)]; exact laidMet_laidAll _ (by kernel_rfl) (by kernel_rfl))) ?_
  intro W base args ds gs before hval0 hW hE
  have hval : ∀ (j : Nat) t v, Tryz.f3.params[j]? = some t → args[j]? = some v → Value.okWide Tryz.prog W .any base t v := hval0
  have hW' := hW
  obtain ⟨p, q, hA0, hV, rfl, _, _⟩ := hW
  have hA : DataW.TrodAll enc Tryz.prog W 0 (fun _ => true) true Tryz.f3.params.toList args.toList ds p := hA0
  rw [Tryz.params3] at hA hval
  obtain ⟨v0, vs0, d0, ds0, p0, q0, hargs, rfl, rfl, h0, r0⟩ := trodAll_cons hA
  obtain ⟨v1, vs1, d1, ds1, p1, q1, rfl, rfl, rfl, h1, r1⟩ := trodAll_cons r0
  obtain ⟨rfl, rfl, rfl⟩ := trodAll_nil r1
  obtain rfl : args = #[v0, v1] := by cases args; simp_all
  obtain ⟨rfl, rfl⟩ := trodVars_none hV
  obtain ⟨nm_0, cn_0, rd_0, kd_0, ev_0, tm_0, gr_0, rt_0, vr_0, rs_0, pn_0, o0_0, o1_0, o2_0, o3_0, ov_0, vl_0, lt_0, cp_0, rl_0, vh_0, hd_0, rfl, hp0, sr0, sl0, sh0, t0⟩ := L8.open_prod (hval 0 27 v0 rfl rfl) h0
  obtain ⟨a1, rfl, rfl, rfl, w1⟩ := Go.ChangeMaps.open_string Tryz.underlying9 (hval 1 9 v1 rfl rfl) h1
  clear hA0 hval0
  simp only [List.append_nil] at hW'
  refine (walk ⟨nm_0, cn_0, rd_0, kd_0, ev_0, tm_0, gr_0, rt_0, rs_0, pn_0, o0_0, o1_0, o2_0, o3_0, ov_0, lt_0, cp_0, rl_0, hd_0⟩ vr_0 vl_0 vh_0 hp0 a1 w1 W hE sr0 sl0 sh0).mono fun e W' ⟨he, hb⟩ => ?_
  subst he
  exact ⟨_, rfl, _, _, _, [], _, [], hW', (trodAll_cons_mk (shut_bool Tryz.underlying4 _) trodAll_mk0), (trodAll_cons_mk (t0 _ hb) (trodAll_cons_mk (Go.ChangeMaps.shut_string Tryz.underlying9 w1) trodAll_mk0)), rfl, hb.below.frame _, fun h => by cases h⟩
theorem over : Rows.printerBackRow.holds Tryz.pinned (OpenSpec.ofChange Rows.printerBackSpec) :=
  OpenClaim.holds_of_wide 3 Tryz.f3 rfl rfl rfl rfl rfl rfl rfl ⟨rfl, rfl, rfl, rfl, rfl⟩ rfl rfl rfl rfl rfl (by kernel_rfl) Tryz.func3 (by kernel_rfl)
    (of_decide_eq_true (by kernel_rfl)) (by unfold Func.isWrapper; first | (rw [if_pos (by decide +kernel)]; kernel_rfl) | (rw [if_neg (by decide +kernel)]; exact ⟨rfl, rfl⟩))
    (fun os started H enc _ => lifted os started H enc)
end Go.Proofs.YtbnpaeejlfaboaaGreatDoor.printerBack
namespace Go.Proofs.YtbnpaeejlfaboaaGreatDoor
theorem printerBack_holds : Rows.PrinterBackCardSaid :=
  Claim7.holds_tied_plain_at .later [] [.data, .data, .data, .data, .sentinel, .sentinel, .data, .data, .data, .data, .data, .data, .data, .pinned] true (true, "f3e3810fb3217712575916ae96d9b89a67716e37c0363f6af9e835629d41ecff") true printerBack.over (fun _ h => by cases h) (by kernel_rfl) (fun _ h => by cases h) printerBack_row_tie rfl ⟨rfl, rfl⟩ (by kernel_rfl) rfl
    (fun f fn hf hfn => by
      obtain rfl : f = 3 := Option.some.inj ((show Tryz.prog.funcNamed "quittance/quittancelaw10.PrinterBack" = some 3 by kernel_rfl).symm.trans hf) |>.symm
      obtain rfl : fn = Tryz.f3 := (Option.some.inj (Tryz.func3.symm.trans hfn)).symm
      exact ⟨by kernel_rfl, fun j t ht => by
        rw [Tryz.params3] at ht
        have hm : t ∈ [27, 9] := by simpa using Array.mem_of_getElem? ht
        have hall : ([27, 9].all fun u => !Tryz.prog.wantsStandIn u) = true := by kernel_rfl
        exact (show Tryz.prog.wantsStandIn t = false by simpa using List.all_eq_true.1 hall t hm)⟩)
    (by kernel_rfl)
#print axioms printerBack_holds
end Go.Proofs.YtbnpaeejlfaboaaGreatDoor
