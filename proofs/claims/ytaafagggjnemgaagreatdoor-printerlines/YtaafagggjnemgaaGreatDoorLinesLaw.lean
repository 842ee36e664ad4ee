/- For every product p and every slice of ints holidays, of the project's tree at the commit that COMMIT names, PrinterLines returns true and leaves its arguments as they were, with the listed variables laid as the program's text lays them. -/
import Derived.Test.YtaafagggjnemgaaGreatDoorQ8
import Derived.Test.YtaafagggjnemgaaGreatDoorQ9
import Derived.Test.YtaafagggjnemgaaGreatDoorQ10
namespace Go.Proofs.YtaafagggjnemgaaGreatDoor.printerLines
open Go.ChangeShapes Go.WideShapes Go.ChangeAt Go.RowKit Go.Lib
set_option linter.unusedVariables false
/-- The product with other holidays. -/
def lnQ (q : Prd) (days : List Int) : Prd := { q with rl := 2, hd := days }
theorem rsg_snoc : ∀ (l : List Int) (a x : Int), L8.rsg a l = true → (∀ y ∈ l, y < x) → a < x → x ≤ 84370 → L8.rsg a (l ++ [x]) = true
  | [], a, x, _, _, h1, h2 => by simp [L8.rsg, h1, h2]
  | y :: l, a, x, h, hl, h1, h2 => by
    rw [List.cons_append]
    simp only [L8.rsg, Bool.and_eq_true] at h ⊢
    exact ⟨h.1, rsg_snoc l y x h.2 (fun z hz => hl z (List.mem_cons_of_mem _ hz)) (hl y (by simp)) h2⟩
theorem ok_days {q : Prd} (h : okP q = true) {days : List Int} (hs : L8.rsg (-25568) days = true) (hl : days.length ≤ 200) : okP (lnQ q days) = true := by
  obtain ⟨a0, a1, a2, a3, a4, a5, a6, a7, a8, a9, a10⟩ := ok_parts h
  obtain ⟨b0, b1, b2, b3, b4⟩ := r1_parts a1
  refine ok_of ⟨a0, r1_of ⟨b0, b1, b2, b3, by show L8.lz 2 1 4 = true; decide⟩, a2, a3, a4, a5, a6, a7, a8, a9, ?_⟩
  show L8.r10B 2 days = true
  unfold L8.r10B
  rw [if_neg (by decide)]
  unfold L8.rgt
  rw [hs, decide_eq_true hl]
  rfl
/-- The product that is printed, as it grows. -/
structure Lnr (w wr : World) (b : Nat) (q : Prd) (ur ul : Value) (k : Nat) (days : List Int) (vh : Value) : Prop where
  ext : Ext w wr
  lo : w.heap.size ≤ b
  blk : Blk wr b (pcells (lnQ q days) ur ul vh)
  own : wr.ownsRow w.heap.size 3 1 vh k (days.map (.int .i64))
  srt : L8.rsg (-25568) days = true
  lim : ∀ x ∈ days, x < 19723 + 7 * (k : Int)
  len : days.length = k
theorem Lnr.on {w wr ws : World} {b : Nat} {q : Prd} {ur ul : Value} {k : Nat} {days : List Int} {vh : Value} (h : Lnr w wr b q ur ul k days vh) (hx : Ext wr ws) : Lnr w ws b q ur ul k days vh :=
  ⟨h.ext.trans hx, h.lo, h.blk.ext hx, L7.own_ext h.own hx, h.srt, h.lim, h.len⟩
theorem byte_at {l m : List UInt8} {k : Nat} {c : UInt8} (h : l.drop k = c :: m) : (∀ g, (⟨l.toArray⟩ : ByteArray)[k]'g = c) ∧ k < l.length ∧ l.drop (k + 1) = m := by
  have h1 : l[k]? = some c := by
    have := congrArg (fun x => x[0]?) h
    simpa using this
  obtain ⟨hk, h2⟩ := List.getElem?_eq_some_iff.1 h1
  refine ⟨fun g => ?_, hk, ?_⟩
  · have h3 : (⟨l.toArray⟩ : ByteArray)[k]'g = l[k]'hk := rfl
    rw [h3, h2]
  · rw [← List.drop_drop, h]; rfl
set_option maxRecDepth 100000 in
set_option maxHeartbeats 4000000 in

theorem walk (p0 : Prd) (vr0 vl0 vh0 : Value) (hp0 : L8.Fits p0.nm p0.rs p0.lt p0.hd) (v1 : Value) (l1 : List Int) (n1 : l1.length ≤ maxLen) (b1 : ∀ x ∈ l1, L8.I64 x) (w : World) (he : Evn w) (sr0 : L8.Slp w vr0 p0.rs) (sl0 : L8.Slp w vl0 p0.lt) (sh0 : L8.Slc w vh0 p0.hd) (s1 : L8.Slc w v1 l1) :
    Calls Tryz.prog 5 #[.agg (pcells p0 vr0 vl0 vh0), v1] w fun e w' => e = .returned (.bool true) ∧ Ext w w' := by
  have hbox := box_prod p0 vr0 vl0 vh0 (pcells_slp sr0 sl0 sh0)
  obtain ⟨W1, b, hW1, hb, hx1, hB1⟩ : ∃ W b, w.alloc (.cells (pcells p0 vr0 vl0 vh0) 27) = W ∧ w.heap.size = b ∧ Ext w W ∧ Blk W b (pcells p0 vr0 vl0 vh0) := ⟨_, _, rfl, rfl, (Ext.refl w).alloc _ _, heap_alloc_last w _⟩
  have hsz : (pcells p0 vr0 vl0 vh0).size = 19 := rfl
  have hlo : Hid (w.heap.size ≤ b) := by show _ ≤ _; omega
  have m0 := hp0.nm; have m1 := hp0.rs; have m2 := hp0.lt; have m3 := hp0.hd
  unfold maxLen at m0 m1 m2 m3
  have hPl := show Hid _ from Play_40 p0 vr0 vl0 vh0 w W1 hx1 (by omega) (by omega) (by omega) (by omega) sr0 sl0 sh0
  obtain ⟨ah, ch, hv1⟩ := s1.len
  obtain ⟨n, hn⟩ : ∃ n, l1.length = n := ⟨_, rfl⟩
  have hnm : n ≤ maxLen := by rw [← hn]; exact n1
  unfold maxLen at hnm
  rw [hn] at hv1
  have hcl : Hid (∀ (W : World), Ext w W → ∀ (k : Nat) (x : Int), l1[k]? = some x → ∃ g off, ah = some ⟨g, off, none⟩ ∧ W.cell? ⟨g, off + k, none⟩ = some (.int .i64 x)) := by
    intro W hW k x hk
    rcases s1 with ⟨_, _, _, _, hz⟩ | ⟨g, off, c, hv, hc⟩
    · rw [hz] at hk; simp at hk
    · have hv2 := hv.symm.trans hv1
      simp only [Value.slice.injEq] at hv2
      exact ⟨g, off, hv2.1.symm, hW.cell_of (hc k x hk)⟩
  subst hv1
  have he0 := show Hid _ from he.pnv
  replace hn := show Hid _ from hn
  have hx0 := show Hid _ from hx1
  obtain ⟨i0, hi, hz0, hz1, hz2⟩ := info_parts L8.info_int
  replace hi := show Hid _ from hi
  clear sr0 sl0 sh0 s1 m0 m1 m2 m3 hp0 n1 b1 hx1 he
  go_enter Tryz.func5, Tryz.ntmps5
  go_wp2_with (refine load27 hB1 hsz rfl rfl rfl ?_)
  refine Calls.mono hPl.out ?_
  rintro e w2 ⟨hx2, q, ur, ul, uh, rfl, s1, s2, s3, hqn, hqf, hok⟩
  have hone := pcells_slp s1 s2 s3
  have hB2 := hB1.ext hx2
  have hsu : Hid (L8.Slp w ur q.rs ∧ L8.Slp w ul q.lt) := ⟨s1, s2⟩
  replace hx0 : Hid (Ext w w2) := hx0.out.trans hx2
  replace hok := show Hid _ from hok
  replace hqn := show Hid _ from hqn
  replace hqf := show Hid _ from hqf
  clear hPl hbox hW1 hb hx2 hB1 s1 s2 s3
  go_wp2_with (refine store27 (cs := pcells q ur ul uh) hB2 rfl rfl hone rfl rfl rfl rfl ?_)
  intro w3 hB3 hx3
  have c17 := (cell_of_row w3 b 17 _ _ _ hB3).trans (show _ = some (Value.int .i64 q.rl) from rfl)
  have c18 := (cell_of_row w3 b 18 _ _ _ hB3).trans (show _ = some uh from rfl)
  have z17 := frozen_of_row w3 b 17 _ _ hB3
  have z18 := frozen_of_row w3 b 18 _ _ hB3
  obtain ⟨w4, hw4⟩ : ∃ W, (w3.setCell ⟨b, 17, none⟩ (.int .i64 2)).setCell ⟨b, 18, none⟩ (.slice none 0 0) = W := ⟨_, rfl⟩
  have hL0 : Hid (Lnr w w4 b q ur ul 0 [] (.slice none 0 0)) := by
    refine ⟨?_, hlo.out, ?_, World.ownsRow_nil _ _ _ _, rfl, (fun x hx => by cases hx), rfl⟩
    · rw [← hw4]
      exact ((hx3.ext hx0.out hlo.out).setCell hlo.out _).setCell hlo.out _
    · rw [← hw4]
      exact L8.Blk.set (L8.Blk.set hB3 17 (.int .i64 2)) 18 (.slice none 0 0)
  clear hB2 hx3 hB3 hone hsz
  go_wp2_with fail
  clear hw4 c17 c18 z17 z18 hx0
  go_loopw [5] (fun i wr => ∃ (k : Nat) (days : List Int) (vh : Value), k ≤ 50 ∧ k ≤ n ∧ i = .int .i64 k ∧ Hid (Lnr w wr b q ur ul k days vh)) (fun i _ => 50 - (RowKit.intOf i).toNat)
  case atStart => exact ⟨0, [], _, by omega, Nat.zero_le _, rfl, hL0⟩
  case round =>
  clear hL0
  obtain ⟨k, days, vh, hk, hkn, rfl, hL⟩ := hrel
  by_cases hlt : k < n ∧ k < 50
  · obtain ⟨hl1, hl2⟩ := hlt
    have hk1 : (k : Int) < (n : Int) := by omega
    have hk2 : (k : Int) < 50 := by omega
    have hk0 : (0 : Int) ≤ (k : Int) := by omega
    obtain ⟨x, hx⟩ : ∃ x, l1[k]? = some x := ⟨_, List.getElem?_eq_getElem (by have := hn.out; omega)⟩
    obtain ⟨g, off, rfl, cx⟩ := hcl.out wr hL.out.ext k x hx
    obtain ⟨R, e1, r1, r2, f1, f2⟩ := rem_is x 7 (by decide) (by decide)
    obtain ⟨V, hV⟩ : ∃ V, 19723 + 7 * (k : Int) + R = V := ⟨_, rfl⟩
    have hVb : Hid (19723 + 7 * (k : Int) ≤ V ∧ V < 19723 + 7 * (k : Int) + 7) := by show _ ∧ _; omega
    have c18 := (cell_of_row wr b 18 _ _ _ hL.out.blk).trans (show _ = some vh from rfl)
    have hown := hL.out.own
    have hsz := hL.out.ext.size
    have hi2 := hi.out
    go_wp2_with (at_builtin; refine wpList_append_own _ rfl (.tmp 38) (.tmp 40) 25 rfl w.heap.size 3 i0 (.int .i64 0) 1 8 Tryz.underlying25 hi2 hz0 hz1 hz2 rfl (by decide) _ _ _ rfl (hown.alloc _) ⟨wr.heap.size, 0, none⟩ 1 1 [.int .i64 V] rfl rfl ?c1 ?c2 ?c3 ?c4 ?c5 ?_)
    case c1 =>
      intro j u hj
      match j, hj with
      | 0, hj => simp at hj; subst hj; simp [Addr.add]
    case c2 => intro u hu; simp at hu; subst hu; rfl
    case c3 => unfold maxLen; omega
    case c4 => omega
    case c5 => simp; omega
    intro v' wa hown' hgrow _
    have hxa : Hid (Ext w wa) := ⟨((hL.out.ext.alloc _ _).below).grown hgrow (by simp; omega) (fun j hj => (hown.lt j hj).1)⟩
    have hBa : Hid (Blk wa b (pcells (lnQ q days) ur ul vh)) := by
      have hb2 := hL.out.blk.ext ((Ext.refl wr).alloc #[.int .i64 V] 3)
      show Blk _ _ _
      unfold Blk at hb2 ⊢
      rw [hgrow.block b (Array.getElem?_eq_some_iff.1 hb2).1 (fun e => ownBlock_ne hown hL.out.blk (by decide) e.symm)]
      exact hb2
    have d18 := (cell_of_row wa b 18 _ _ _ hBa.out).trans (show _ = some vh from rfl)
    have z18 := frozen_of_row wa b 18 _ _ hBa.out
    obtain ⟨ao, n', cap, rfl⟩ : ∃ ao n' cap, v' = .slice ao n' cap := by
      rcases hown'.2 with ⟨hv, _⟩ | ⟨g, cap, cur, hv, _⟩
      · exact ⟨_, _, _, hv⟩
      · exact ⟨_, _, _, hv⟩
    obtain ⟨wb, hwb⟩ : ∃ W, wa.setCell ⟨b, 18, none⟩ (.slice ao n' cap) = W := ⟨_, rfl⟩
    have hL2 : Hid (Lnr w wb b q ur ul (k + 1) (days ++ [V]) (.slice ao n' cap)) := by
      refine ⟨?_, hL.out.lo, ?_, ?_, ?_, ?_, ?_⟩
      · rw [← hwb]; exact hxa.out.setCell hL.out.lo _
      · rw [← hwb]; exact L8.Blk.set hBa.out 18 (.slice ao n' cap)
      · rw [← hwb, List.map_append]
        exact own_keep hown' fun j cur hj => heap_setCell_other _ _ _ _ (by
          show j ≠ b
          rintro rfl
          have := hj.symm.trans hBa.out
          simp at this)
      · exact rsg_snoc _ _ _ hL.out.srt (fun y hy => by have := hL.out.lim y hy; have := hVb.out; omega) (by have := hVb.out; omega) (by have := hVb.out; omega)
      · intro y hy
        rcases List.mem_append.1 hy with hy | hy
        · have := hL.out.lim y hy; omega
        · have : y = V := by simpa using hy
          have := hVb.out; omega
      · rw [List.length_append, hL.out.len]; rfl
    clear hgrow hown' hown hL hBa hxa hsz hi2 hx cx e1 f1 f2 c18
    go_wp2
    go_roundw
    case rel => exact ⟨k + 1, days ++ [V], _, by omega, by omega, by go_num, hL2⟩
    case measure => simp [RowKit.intOf]; omega
  · have hst : ¬ ((k : Int) < (n : Int) ∧ (k : Int) < 50) := by omega
    obtain ⟨vn, hvn⟩ : ∃ a c, vh = .slice a k c := by
      rcases hL.out.own.2 with ⟨hv, h0⟩ | ⟨g, c, cur, hv, _⟩
      · exact ⟨none, 0, by rw [hv, h0]⟩
      · exact ⟨_, c, hv⟩
    obtain ⟨ch2, rfl⟩ := hvn
    have hBq := hL.out.blk
    have hbn : (pcells (lnQ q days) ur ul (.slice vn k ch2)).size = 19 := rfl
    have hokq := show Hid _ from ok_days hok.out hL.out.srt (by have := hL.out.len; omega)
    have hPr := Print_w (lnQ q days) ur ul (.slice vn k ch2) wr (he0.out.ext hL.out.ext) hqn.out (by have := hL.out.len; have := (okf hok.out).rl_; have := (okf hok.out).ll; show q.rs.length + q.lt.length + days.length ≤ 30000; omega) (hsu.out.1.ext hL.out.ext) (hsu.out.2.ext hL.out.ext) (slc_own (e := 3) (B := w.heap.size) (by show wr.ownsRow _ _ _ _ days.length (days.map _); rw [hL.out.len]; exact hL.out.own))
    rw [if_pos hokq.out] at hPr
    replace hPr := show Hid _ from hPr
    obtain ⟨g1, g2, g3⟩ := gap_prt hokq.out
    have g4 := prt_len hokq.out
    obtain ⟨L, hLL⟩ : ∃ L, prt (lnQ q days) = L := ⟨_, rfl⟩
    rw [hLL] at g1 g2 g3 g4 hPr
    obtain ⟨na, hna⟩ : ∃ m, q.rs.length = m := ⟨_, rfl⟩
    obtain ⟨nb, hnb⟩ : ∃ m, q.lt.length = m := ⟨_, rfl⟩
    have g5 : Hid (L.count 10 = 14 + na + nb + k) := by show _ = _; rw [g3, ← hna, ← hnb, ← hL.out.len]; rfl
    have hab : na ≤ 30000 ∧ nb ≤ 30000 := by have := hqf.out; omega
    obtain ⟨ra, rc, hrv⟩ := hsu.out.1.len
    obtain ⟨la, lc, hlv⟩ := hsu.out.2.len
    rw [hna] at hrv
    rw [hnb] at hlv
    subst hrv
    subst hlv
    replace hna := show Hid _ from hna
    replace hnb := show Hid _ from hnb
    replace g1 := show Hid _ from g1
    replace g2 := show Hid _ from g2
    have g40 : Hid (L.length ≤ 19300) := g4
    clear hsu hokq hLL g3 hi hz0 hz1 hz2 hcl hok hqn hqf hst
    rcases (show ¬ (k : Int) < (n : Int) ∨ ((k : Int) < (n : Int) ∧ ¬ (k : Int) < 50) by omega) with h | ⟨h, h'⟩
    all_goals
      go_wp2_with (refine load27 hBq hbn rfl rfl rfl ?_)
      refine Calls.mono hPr.out ?_
      rintro e w5 ⟨rfl, hx5⟩
      clear hPr hBq hbn
      replace hL := show Hid _ from hL.out.on hx5
      clear hx5
      go_wp2_with fail
      go_loopw [9, 10, 11] (fun nn last i ws => ∃ (j c : Nat) (a : Int) (bb : Bool), j ≤ L.length ∧ i = .int .i64 j ∧ nn = .int .i64 c ∧ last = .int .i64 a ∧ Hid (gapL bb (L.drop j) = true ∧ finL bb (L.drop j) = true ∧ c + (L.drop j).count 10 = 14 + na + nb + k ∧ (bb = true → a = j - 1) ∧ (bb = false → a < j - 1)) ∧ -1 ≤ a ∧ a < j ∧ c ≤ j ∧ ws = w5) (fun _ _ i _ => L.length - (RowKit.intOf i).toNat)
      case atStart => exact ⟨0, 0, -1, true, Nat.zero_le _, rfl, rfl, rfl, ⟨g1.out, g2.out, by rw [List.drop_zero, Nat.zero_add]; exact g5.out, (fun _ => by omega), (fun h => by cases h)⟩, by omega, by omega, by omega, rfl⟩
      case round =>
      obtain ⟨j, c, a, bb, hj, rfl, rfl, rfl, hR, ha, haj, hc, hws⟩ := hrel
      obtain rfl : w5 = _ := hws.symm
      by_cases hlt2 : j < L.length
      · obtain ⟨x, m, hd⟩ : ∃ x m, L.drop j = x :: m := ⟨_, _, List.drop_eq_getElem_cons hlt2⟩
        obtain ⟨hb1, _, hd2⟩ := byte_at hd
        obtain ⟨r1, r2, r3, r4, r5⟩ := hR.out
        rw [hd] at r1 r2 r3
        simp only [gapL, Bool.and_eq_true] at r1
        simp only [finL] at r2
        have hji : (j : Int) < (L.length : Int) := by omega
        have hj0 : (0 : Int) ≤ (j : Int) := by omega
        have hd3 := show Hid _ from hd2
        clear hR hd2 g1 g2 g5
        by_cases hx : x = 10
        · subst hx
          have hbf : bb = false := by cases bb; rfl; simp at r1
          have hne : ¬ (j : Int) = a + 1 := by have := r5 hbf; omega
          have hR2 : Hid (gapL true (L.drop (j + 1)) = true ∧ finL true (L.drop (j + 1)) = true ∧ (c + 1) + (L.drop (j + 1)).count 10 = 14 + na + nb + k ∧ (true = true → (j : Int) = ((j + 1 : Nat) : Int) - 1) ∧ (true = false → (j : Int) < ((j + 1 : Nat) : Int) - 1)) := by
            show _ ∧ _
            rw [hd3.out]
            exact ⟨r1.2, r2, by simp at r3; omega, (fun _ => by omega), (fun h => by cases h)⟩
          clear r1 r2 r3 r4 r5 hd
          go_wp2
          go_roundw
          case rel => exact ⟨j + 1, c + 1, j, true, by omega, by go_num, by go_num, rfl, hR2, by omega, by omega, by omega, by first | rfl | trivial⟩
          case measure => simp [RowKit.intOf]; omega
        · have hxe : (x == 10) = false := by simpa using hx
          have hxi : ¬ (x.toNat : Int) = 10 := by
            intro e
            exact hx (UInt8.toNat_inj.mp (by have : x.toNat = 10 := by omega
                                             rw [this]; rfl))
          have hR2 : Hid (gapL false (L.drop (j + 1)) = true ∧ finL false (L.drop (j + 1)) = true ∧ c + (L.drop (j + 1)).count 10 = 14 + na + nb + k ∧ (false = true → a = ((j + 1 : Nat) : Int) - 1) ∧ (false = false → a < ((j + 1 : Nat) : Int) - 1)) := by
            show _ ∧ _
            rw [hd3.out]
            rw [hxe] at r1 r2
            rw [List.count_cons, hxe] at r3
            exact ⟨r1.2, r2, by simpa using r3, (fun h => by cases h), (fun _ => by omega)⟩
          clear r1 r2 r3 r4 r5 hd hxe
          go_wp2
          go_roundw
          case rel => exact ⟨j + 1, c, a, false, by omega, by go_num, rfl, rfl, hR2, by omega, by omega, by omega, by first | rfl | trivial⟩
          case measure => simp [RowKit.intOf]; omega
      · obtain rfl : j = L.length := by omega
        obtain ⟨r1, r2, r3, r4, r5⟩ := hR.out
        rw [List.drop_length] at r2 r3
        have hbt : bb = true := r2
        have hae : a = (L.length : Int) - 1 := r4 hbt
        have hce : (c : Int) = 14 + (na : Int) + (nb : Int) + (k : Int) := by simp at r3; omega
        have c8 := (cell_of_row w5 b 8 _ _ _ hL.out.blk).trans (show _ = some (Value.slice ra na rc) from rfl)
        have c15 := (cell_of_row w5 b 15 _ _ _ hL.out.blk).trans (show _ = some (Value.slice la nb lc) from rfl)
        have c18 := (cell_of_row w5 b 18 _ _ _ hL.out.blk).trans (show _ = some (Value.slice vn k ch2) from rfl)
        have haw := show Hid _ from awake_w w5 (he0.out.ext hL.out.ext)
        clear r1 r2 r3 r4 r5 hR hbt g1 g2 g5 hlt2
        subst hae
        go_wp2_with fail
        refine Calls.mono haw.out ?_
        rintro e w6 ⟨rfl, hx6⟩
        replace c8 := hx6.cell_of c8
        replace c15 := hx6.cell_of c15
        replace c18 := hx6.cell_of c18
        replace hx6 := show Hid _ from hL.out.ext.trans hx6
        clear haw hL
        go_wp2
        go_ret
        exact ⟨rfl, hx6.out⟩
set_option maxRecDepth 100000 in
theorem lifted (os : Os) (started : os.Started) (H : Type) (enc : TypeId × Value → H) :
    ReturnsInHanded {} Tryz.checked os 5 .any (fun w args => (Rows.printerLinesSpec.pre enc Tryz.prog Tryz.f5 [] false w args ∧ laidMetH Tryz.prog laid w) ∧ sizedMet enc Tryz.prog Tryz.f5 (OpenSpec.ofChange Rows.printerLinesSpec) false w args)
      (Rows.printerLinesSpec.post enc Tryz.prog Tryz.f5 false true false false) := by
  refine wrap started (by kernel_rfl) Tryz.func5
    (ChangeSpec.witness_shaped (enc := enc) (C := Tryz.checked) (os := os) (X := fun w _ => laidMetH Tryz.prog laid w) false (World.laidAll Tryz.prog os laid) #[.agg #[.string ⟨#[]⟩, .int .i64 0, .int .i64 0, .int .i64 0, .int .i64 0, .int .i64 0, .int .i64 0, .int .i64 0, .slice none 0 0, .int .i64 0, .int .i64 0, .int .i64 0, .int .i64 0, .int .i64 0, .int .i64 0, .slice none 0 0, .int .i64 0, .int .i64 0, .slice none 0 0], .slice none 0 0] 8 (World.laidAll_os _ _ _)
      (World.shaped_of_ZipB (by kernel_rfl) (by kernel_rfl)) (by kernel_rfl) (by kernel_rfl) (by kernel_rfl)
      (by rw [MakeChecks.laidMetH_plain _ _ _ (by kernel_rfl)]; exact laidMet_laidAll _ (by kernel_rfl) (by kernel_rfl))) ?_
  intro W base args ds gs before hval0 hW hE
  have hval : ∀ (j : Nat) t v, Tryz.f5.params[j]? = some t → args[j]? = some v → Value.okWide Tryz.prog W .any base t v := hval0
  have hW' := hW
  obtain ⟨p, q, hA0, hV, rfl, _, _⟩ := hW
  have hA : DataW.TrodAll enc Tryz.prog W 0 (fun _ => true) true Tryz.f5.params.toList args.toList ds p := hA0
  rw [Tryz.params5] at hA hval
  obtain ⟨v0, vs0, d0, ds0, p0, q0, hargs, rfl, rfl, h0, r0⟩ := trodAll_cons hA
  obtain ⟨v1, vs1, d1, ds1, p1, q1, rfl, rfl, rfl, h1, r1⟩ := trodAll_cons r0
  obtain ⟨rfl, rfl, rfl⟩ := trodAll_nil r1
  obtain rfl : args = #[v0, v1] := by cases args; simp_all
  obtain ⟨rfl, rfl⟩ := trodVars_none hV
  obtain ⟨nm_0, cn_0, rd_0, kd_0, ev_0, tm_0, gr_0, rt_0, vr_0, rs_0, pn_0, o0_0, o1_0, o2_0, o3_0, ov_0, vl_0, lt_0, cp_0, rl_0, vh_0, hd_0, rfl, hp0, sr0, sl0, sh0, t0⟩ := L8.open_prod (hval 0 27 v0 rfl rfl) h0
  obtain ⟨l1, s1, n1, b1, t1⟩ := L8.open_slc (hval 1 25 v1 rfl rfl) h1
  clear hA0 hval0
  simp only [List.append_nil] at hW'
  refine (walk ⟨nm_0, cn_0, rd_0, kd_0, ev_0, tm_0, gr_0, rt_0, rs_0, pn_0, o0_0, o1_0, o2_0, o3_0, ov_0, lt_0, cp_0, rl_0, hd_0⟩ vr_0 vl_0 vh_0 hp0 v1 l1 n1 b1 W hE sr0 sl0 sh0 s1).mono fun e W' ⟨he, hb⟩ => ?_
  subst he
  exact ⟨_, rfl, _, _, _, [], _, [], hW', (trodAll_cons_mk (shut_bool Tryz.underlying4 _) trodAll_mk0), (trodAll_cons_mk (t0 _ hb) (trodAll_cons_mk (t1 _ hb) trodAll_mk0)), rfl, hb.below.frame _, fun h => by cases h⟩
theorem over : Rows.printerLinesRow.holds Tryz.pinned (OpenSpec.ofChange Rows.printerLinesSpec) :=
  OpenClaim.holds_of_wide 5 Tryz.f5 rfl rfl rfl rfl rfl rfl rfl ⟨rfl, rfl, rfl, rfl, rfl⟩ rfl rfl rfl rfl rfl (by kernel_rfl) Tryz.func5 (by kernel_rfl)
    (of_decide_eq_true (by kernel_rfl)) (by unfold Func.isWrapper; first | (rw [if_pos (by decide +kernel)]; kernel_rfl) | (rw [if_neg (by decide +kernel)]; exact ⟨rfl, rfl⟩))
    (fun os started H enc _ => lifted os started H enc)
end Go.Proofs.YtaafagggjnemgaaGreatDoor.printerLines
namespace Go.Proofs.YtaafagggjnemgaaGreatDoor
theorem printerLines_holds : Rows.PrinterLinesCardSaid :=
  Claim7.holds_tied_plain_at .later [] [.data, .data, .data, .data, .data, .data, .data, .data, .data, .data, .data, .pinned] true (true, "b1b57acc663042ce5f81bf03d8392d7f9124fd5d3728a3e4bc8a421a9b056201") true printerLines.over (fun _ h => by cases h) (by kernel_rfl) (fun _ h => by cases h) printerLines_row_tie rfl ⟨rfl, rfl⟩ (by kernel_rfl) rfl
    (fun f fn hf hfn => by
      obtain rfl : f = 5 := Option.some.inj ((show Tryz.prog.funcNamed "quittance/quittancelaw10.PrinterLines" = some 5 by kernel_rfl).symm.trans hf) |>.symm
      obtain rfl : fn = Tryz.f5 := (Option.some.inj (Tryz.func5.symm.trans hfn)).symm
      exact ⟨by kernel_rfl, fun j t ht => by
        rw [Tryz.params5] at ht
        have hm : t ∈ [27, 25] := by simpa using Array.mem_of_getElem? ht
        have hall : ([27, 25].all fun u => !Tryz.prog.wantsStandIn u) = true := by kernel_rfl
        exact (show Tryz.prog.wantsStandIn t = false by simpa using List.all_eq_true.1 hall t hm)⟩)
    (by kernel_rfl)
#print axioms printerLines_holds
end Go.Proofs.YtaafagggjnemgaaGreatDoor
