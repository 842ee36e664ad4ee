/- For all slices of ints l and all ints day and how, of the project's tree at the commit that COMMIT names, BusinessRolls returns true and leaves its arguments as they were, with the listed variables laid as the program's text lays them. -/
import Derived.Test.YtkkpnhcodaijeaaDoorFrame
import Derived.Test.YtkkpnhcodaijeaaDoorBiz8
import Derived.Deep.CutBlock
namespace Go.Proofs.YtkkpnhcodaijeaaDoor.businessRolls
open Go.ChangeShapes Go.WideShapes Go.ChangeAt Go.RowKit Go.Lib
set_option linter.unusedVariables false

set_option maxHeartbeats 4000000 in
set_option maxRecDepth 100000 in

theorem walk (v0 : Value) (l0 : List Int) (n0 : l0.length ≤ maxLen) (b0 : ∀ x ∈ l0, I64 x) (a1 : Int) (w1 : (Lit.int .i64 a1).wf = true) (a2 : Int) (w2 : (Lit.int .i64 a2).wf = true) (w : World) (he : Env w) (s0 : Slc w v0 l0) :
    Calls Tryd.prog 4 #[v0, .int .i64 a1, .int .i64 a2] w fun e w' => e = .returned (.bool true) ∧ Ext w w' := by
  obtain ⟨ao, c, hv, _, _⟩ := s0.src
  subst hv
  replace s0 : Hid (Slc w (.slice ao l0.length c) l0) := s0
  replace he : Hid (Env w) := he
  unfold maxLen at n0
  obtain ⟨n, hn⟩ : ∃ n, l0.length = n := ⟨_, rfl⟩
  rw [hn] at n0 s0 ⊢
  replace hn := show Hid _ from hn
  clear w1 w2 b0
  obtain ⟨R, hR, R1, R2⟩ := u64_mod a1 100000 (by omega)
  obtain ⟨D, hD⟩ : ∃ D, -25167 + R = D := ⟨_, rfl⟩
  have D1 : -25167 ≤ D := by omega
  have D2 : D < 74833 := by omega
  obtain ⟨R', hR', R1', R2'⟩ := u64_mod a2 4 (by omega)
  obtain ⟨H, hH⟩ : ∃ H, 1 + R' = H := ⟨_, rfl⟩
  have H1 : 1 ≤ H := by omega
  have H2 : H ≤ 4 := by omega
  obtain ⟨i0, hi, hz0, hz1, hz2⟩ := info_parts info_int
  go_enter Tryd.func4, Tryd.ntmps4
  go_upto_block 0 with fail
  go_cut [7] from 20 (fun v wx => ∃ L : List Int, L.length ≤ 40 ∧ Hid (wx.ownsRow w.heap.size 3 1 v L.length (L.map (.int .i64))) ∧ Hid (Gat L (D - 20) (D + 19)) ∧ Hid (Ext w wx))
  case first =>
    go_wp2_with fail
    go_loopw [7, 8] (fun v i wr => ∃ (k : Nat) (L : List Int), k ≤ n ∧ k ≤ 40 ∧ i = .int .i64 k ∧ L.length ≤ k ∧ Hid (wr.ownsRow w.heap.size 3 1 v L.length (L.map (.int .i64))) ∧ Hid (Gat L (D - 20) (D + 19)) ∧ Hid (Ext w wr)) (fun _ i _ => 40 - (RowKit.intOf i).toNat)
    case atStart => exact ⟨0, [], Nat.zero_le _, by omega, rfl, Nat.le_refl _, World.ownsRow_nil _ _ _ _, Gat.nil _ _, Ext.refl w⟩
    case round =>
      obtain ⟨k, L, hk, hk3, rfl, hL, hr, hG, hx⟩ := hrel
      by_cases h1 : k < n
      · by_cases h2 : k < 40
        · obtain ⟨b, off, V, rfl, hV, hcell0⟩ := s0.out.at h1
          have hcell := hx.out.cell_of hcell0
          clear hcell0 hV
          obtain ⟨S, hS, S1, S2⟩ := u64_mod V 40 (by omega)
          have hsz := hx.out.size
          by_cases hnil : L = []
          · subst hnil
            obtain ⟨ao', c', rfl⟩ := own_none hr.out
            have hr' : Hid (wr.ownsRow w.heap.size 3 1 (.slice ao' 0 c') 0 []) := hr.out
            have hG' : Hid (Gat [D - 20 + S] (D - 20) (D + 19)) := (Gat.nil (D - 20) (D + 19)).add (fun x hx => by cases hx) (by omega) (by omega)
            clear hr hG
            go_wp2_with (at_builtin; refine wpList_append_own _ rfl (.tmp 63) (.tmp 65) 22 rfl w.heap.size 3 i0 (.int .i64 0) 1 8 Tryd.underlying22 hi hz0 hz1 hz2 rfl (by decide) _ _ _ rfl (hr'.out.alloc _) ⟨wr.heap.size, 0, none⟩ 1 1 [.int .i64 (D - 20 + S)] rfl rfl ?c1 ?c2 ?c3 ?c4 ?c5 ?_)
            case c1 =>
              intro j u hj
              match j, hj with
              | 0, hj => simp at hj; subst hj; simp [Addr.add]
            case c2 => intro u hu; simp at hu; subst hu; rfl
            case c3 => unfold maxLen; omega
            case c4 => omega
            case c5 => simp; omega
            intro v' w3 hown' hgrow _
            have hx3 : Hid (Ext w w3) := ⟨((hx.out.alloc _ _).below).grown hgrow (by simp; omega) (own_lo hr'.out)⟩
            have hr3 : Hid (w3.ownsRow w.heap.size 3 1 v' 1 [.int .i64 (D - 20 + S)]) := hown'
            clear hown' hgrow hr' hx hcell
            go_wp2
            go_roundw
            case rel => exact ⟨k + 1, [D - 20 + S], by omega, by omega, by go_num, by simp, hr3, hG', hx3⟩
            case measure => simp [RowKit.intOf]; omega
          · obtain ⟨g, c', z, rfl, hz, hcz⟩ := own_some hr.out hnil
            have hlast := srt_last hG.out.srt hz
            have hpos : 0 < L.length := List.length_pos_iff.2 hnil
            replace hz := show Hid _ from hz
            replace hnil := show Hid _ from hnil
            obtain ⟨q, hq⟩ : ∃ q, L.length = q + 1 := ⟨L.length - 1, by omega⟩
            rw [hq] at hcz
            replace hcz : wr.cell? ⟨g, q, none⟩ = some (.int .i64 z) := hcz
            replace hr : Hid (wr.ownsRow w.heap.size 3 1 (.slice (some ⟨g, 0, none⟩) L.length c') L.length (L.map (.int .i64))) := hr
            by_cases hzk : z < D - 20 + S
            · have hG' : Hid (Gat (L ++ [D - 20 + S]) (D - 20) (D + 19)) := hG.out.add (fun x hx => by have := hlast x hx; omega) (by omega) (by omega)
              have hr' : Hid (wr.ownsRow w.heap.size 3 1 (.slice (some ⟨g, 0, none⟩) (q + 1) c') (q + 1) (L.map (.int .i64))) := by have := hr.out; rwa [hq] at this
              rw [hq]
              have hq' := show Hid _ from hq
              have hq2 : q + 1 ≤ k := by omega
              clear hr hG hlast hz hq hpos hL
              go_wp2_with (at_builtin; refine wpList_append_own _ rfl (.tmp 63) (.tmp 65) 22 rfl w.heap.size 3 i0 (.int .i64 0) 1 8 Tryd.underlying22 hi hz0 hz1 hz2 rfl (by decide) _ _ _ rfl (hr'.out.alloc _) ⟨wr.heap.size, 0, none⟩ 1 1 [.int .i64 (D - 20 + S)] rfl rfl ?c1 ?c2 ?c3 ?c4 ?c5 ?_)
              case c1 =>
                intro j u hj
                match j, hj with
                | 0, hj => simp at hj; subst hj; simp [Addr.add]
              case c2 => intro u hu; simp at hu; subst hu; rfl
              case c3 => unfold maxLen; omega
              case c4 => omega
              case c5 => simp; omega
              intro v' w3 hown' hgrow _
              have hx3 : Hid (Ext w w3) := ⟨((hx.out.alloc _ _).below).grown hgrow (by simp; omega) (own_lo hr'.out)⟩
              have hr3 : Hid (w3.ownsRow w.heap.size 3 1 v' (L ++ [D - 20 + S]).length ((L ++ [D - 20 + S]).map (.int .i64))) := by
                show w3.ownsRow _ _ _ _ _ _
                rw [List.length_append, List.map_append, hq'.out]
                exact hown'
              clear hown' hgrow hr' hx hcell hcz
              go_wp2
              go_roundw
              case rel => exact ⟨k + 1, L ++ [D - 20 + S], by omega, by omega, by go_num, by rw [List.length_append, hq'.out]; simp; omega, hr3, hG', hx3⟩
              case measure => simp [RowKit.intOf]; omega
            · have hr' : Hid (wr.ownsRow w.heap.size 3 1 (.slice (some ⟨g, 0, none⟩) (q + 1) c') L.length (L.map (.int .i64))) := by have := hr.out; rw [hq] at this; rw [hq]; exact this
              rw [hq]
              have hq2 : Hid (L.length ≤ k + 1) := by show _ ≤ _; omega
              have hq3 : q + 1 ≤ k := by omega
              clear hr hlast hz hq hpos hL
              go_wp2
              go_roundw
              case rel => exact ⟨k + 1, L, by omega, by omega, by go_num, hq2.out, hr', hG, hx⟩
              case measure => simp [RowKit.intOf]; omega
        · have hL' : Hid (L.length ≤ 40) := by show _ ≤ _; omega
          clear hL
          go_wp2
          go_meet
          exact ⟨L, hL'.out, hr, hG, hx⟩
      · have hL' : Hid (L.length ≤ 40) := by show _ ≤ _; omega
        clear hL
        go_wp2
        go_meet
        exact ⟨L, hL'.out, hr, hG, hx⟩
  case rest =>
    clear hR R1 R2 hD hi hz0 hz1 hz2 s0 hR' R1' R2' hH
    obtain ⟨L, hL, hr, hG, hx⟩ := hcut
    obtain ⟨a, b, hN⟩ := near_of (m := 20) (by omega) (fun x hx => by have := hG.out.bd x hx; omega : ∀ x ∈ L, D - 20 ≤ x ∧ x ≤ D + 20) (by omega) (by omega)
    have hDin : inD D = true := (inD_iff D).2 (by omega)
    obtain ⟨⟨e2, f2⟩, ⟨e4, f4⟩, f3, e3⟩ := hN.roll hDin
    have hRgt : rgt L = true := hG.out.rgt (by omega) (by omega) (by omega)
    have hNw : Hid (∀ (v : Value) (w : World), Slc w v L → Calls Tryd.prog 10 #[v] w fun e w' => ∃ p, e = .returned (.tuple #[.pointer (some ⟨p, 0, none⟩), .int .i64 0]) ∧ Made w w' p L) := fun v w h => New_ok v L w h hRgt
    have hs : Hid (Slc wc _ L) := Slc.of_own hr.out (fun _ _ _ _ => rfl)
    obtain ⟨ao', n', c', rfl⟩ := own_slice hr.out
    replace he : Hid (Env wc) := he.out.ext hx.out
    clear hr hRgt hG
    obtain rfl | rfl | rfl | rfl : H = 1 ∨ H = 2 ∨ H = 3 ∨ H = 4 := by omega
    · clear e2 f2 e4 f4 f3 e3
      have eX : rlA L D 1 = D := by unfold rlA; rw [hDin]; simp
      have fX : rlE L D 1 = 0 := by unfold rlE; rw [hDin]; simp
      have eY := eX
      have fY := fX
      clear hN
      have hRa : Hid (∀ (p : Nat) (w : World), Hid (Cld w p L) → Hid (Env w) → Calls Tryd.prog 14 #[.pointer (some ⟨p, 0, none⟩), .int .i64 D, .int .i64 1] w fun e w' => e = .returned (.tuple #[.int .i64 D, .int .i64 0]) ∧ Ext w w') := fun p w hc he => by
        have := Roll_c p L D 1 w hc he; rwa [eX, fX] at this
      have hRb : Hid (∀ (p : Nat) (w : World), Hid (Cld w p L) → Hid (Env w) → Calls Tryd.prog 14 #[.pointer (some ⟨p, 0, none⟩), .int .i64 D, .int .i64 1] w fun e w' => e = .returned (.tuple #[.int .i64 D, .int .i64 0]) ∧ Ext w w') := fun p w hc he => by
        have := Roll_c p L D 1 w hc he; rwa [eY, fY] at this
      have dA : Hid (∀ w : World, Calls Tryd.prog 20 #[.int .i64 D] w fun e w' => e = .returned (.tuple #[.agg #[.int .i64 (yOf D), .int .i64 (mOf D), .int .i64 (dOf D)], .int .i64 0]) ∧ Ext w w') := fun w => rDate_f D w (by omega) (by omega)
      have dB : Hid (∀ w : World, Calls Tryd.prog 20 #[.int .i64 D] w fun e w' => e = .returned (.tuple #[.agg #[.int .i64 (yOf D), .int .i64 (mOf D), .int .i64 (dOf D)], .int .i64 0]) ∧ Ext w w') := fun w => rDate_f D w (by omega) (by omega)
      clear eX fX eY fY
      generalize yOf D = ya at *
      generalize mOf D = ma at *
      generalize dOf D = da at *
      go_wp2_with fail
      refine (hNw.out _ _ hs.out).mono ?_
      rintro e w2 ⟨p, rfl, hm⟩
      have hc := show Hid (Cld w2 p L) from hm.cld
      replace he := show Hid (Env w2) from he.out.ext hm.ext
      replace hx := show Hid (Ext w w2) from hx.out.trans hm.ext
      clear hm hNw hs
      go_wp2_with fail
      refine (awake_c _ he).mono ?_
      rintro e w3 ⟨rfl, hx1⟩
      replace hc := show Hid (Cld w3 p L) from hc.out.ext hx1
      replace he := show Hid (Env w3) from he.out.ext hx1
      replace hx := show Hid (Ext w w3) from hx.out.trans hx1
      clear hx1
      go_wp2_with fail
      refine (hRa.out _ _ hc he).mono ?_
      rintro e w4 ⟨rfl, hx1⟩
      replace hc := show Hid (Cld w4 p L) from hc.out.ext hx1
      replace he := show Hid (Env w4) from he.out.ext hx1
      replace hx := show Hid (Ext w w4) from hx.out.trans hx1
      clear hx1 hRa
      go_wp2_with fail
      refine (hRb.out _ _ hc he).mono ?_
      rintro e w5 ⟨rfl, hx1⟩
      replace hc := show Hid (Cld w5 p L) from hc.out.ext hx1
      replace he := show Hid (Env w5) from he.out.ext hx1
      replace hx := show Hid (Ext w w5) from hx.out.trans hx1
      clear hx1 hRb
      go_wp2_with fail
      refine (dA.out _).mono ?_
      rintro e w6 ⟨rfl, hx1⟩
      replace hc := show Hid (Cld w6 p L) from hc.out.ext hx1
      replace hx := show Hid (Ext w w6) from hx.out.trans hx1
      clear hx1
      go_wp2_with fail
      obtain ⟨W7, r7, hW, hr7, hx7, k0, k1, k2⟩ := box3 w6 (.int .i64 ya) (.int .i64 ma) (.int .i64 da) 40
      rw [hW, hr7]
      clear hW hr7 k0 k2
      replace hc := show Hid (Cld W7 p L) from hc.out.ext hx7
      replace hx := show Hid (Ext w W7) from hx.out.trans hx7
      clear hx7
      refine (dB.out _).mono ?_
      rintro e w8 ⟨rfl, hx1⟩
      replace hc := show Hid (Cld w8 p L) from hc.out.ext hx1
      replace hx := show Hid (Ext w w8) from hx.out.trans hx1
      replace k1 := hx1.cell_of k1
      clear hx1 dA dB
      go_wp2
      go_ret
      exact ⟨ret_bool (by simp), hx.out.alloc _ _⟩
    · clear e4 f4 f3 e3
      have oX := hN.oa
      have A1 := hN.a1; have A2 := hN.a2; have B1 := hN.b1; have B2 := hN.b2
      have X1 : -25567 ≤ a := by omega
      have X2 : a ≤ 84370 := by omega
      have eX : rlA L D 2 = a := e2
      have fX : rlE L D 2 = 0 := f2
      have eY : rlA L a 2 = a := (roll_open oX (by omega) (by omega)).1
      have fY : rlE L a 2 = 0 := (roll_open oX (by omega) (by omega)).2
      have hDX : D ≤ a := hN.a1
      have hOx : Hid (∀ (p : Nat) (w : World), Hid (Cld w p L) → Calls Tryd.prog 18 #[.pointer (some ⟨p, 0, none⟩), .int .i64 a] w fun e w' => e = .returned (.bool true) ∧ w' = w) := fun p w hc => by
        have := Open_c p L a w (by unfold I64; omega) hc; rwa [oX] at this
      clear hN
      have hRa : Hid (∀ (p : Nat) (w : World), Hid (Cld w p L) → Hid (Env w) → Calls Tryd.prog 14 #[.pointer (some ⟨p, 0, none⟩), .int .i64 D, .int .i64 2] w fun e w' => e = .returned (.tuple #[.int .i64 a, .int .i64 0]) ∧ Ext w w') := fun p w hc he => by
        have := Roll_c p L D 2 w hc he; rwa [eX, fX] at this
      have hRb : Hid (∀ (p : Nat) (w : World), Hid (Cld w p L) → Hid (Env w) → Calls Tryd.prog 14 #[.pointer (some ⟨p, 0, none⟩), .int .i64 a, .int .i64 2] w fun e w' => e = .returned (.tuple #[.int .i64 a, .int .i64 0]) ∧ Ext w w') := fun p w hc he => by
        have := Roll_c p L a 2 w hc he; rwa [eY, fY] at this
      have dA : Hid (∀ w : World, Calls Tryd.prog 20 #[.int .i64 D] w fun e w' => e = .returned (.tuple #[.agg #[.int .i64 (yOf D), .int .i64 (mOf D), .int .i64 (dOf D)], .int .i64 0]) ∧ Ext w w') := fun w => rDate_f D w (by omega) (by omega)
      have dB : Hid (∀ w : World, Calls Tryd.prog 20 #[.int .i64 a] w fun e w' => e = .returned (.tuple #[.agg #[.int .i64 (yOf a), .int .i64 (mOf a), .int .i64 (dOf a)], .int .i64 0]) ∧ Ext w w') := fun w => rDate_f a w (by omega) (by omega)
      clear eX fX eY fY
      generalize yOf D = ya at *
      generalize yOf a = yb at *
      generalize mOf D = ma at *
      generalize mOf a = mb at *
      generalize dOf D = da at *
      generalize dOf a = db at *
      go_wp2_with fail
      refine (hNw.out _ _ hs.out).mono ?_
      rintro e w2 ⟨p, rfl, hm⟩
      have hc := show Hid (Cld w2 p L) from hm.cld
      replace he := show Hid (Env w2) from he.out.ext hm.ext
      replace hx := show Hid (Ext w w2) from hx.out.trans hm.ext
      clear hm hNw hs
      go_wp2_with fail
      refine (awake_c _ he).mono ?_
      rintro e w3 ⟨rfl, hx1⟩
      replace hc := show Hid (Cld w3 p L) from hc.out.ext hx1
      replace he := show Hid (Env w3) from he.out.ext hx1
      replace hx := show Hid (Ext w w3) from hx.out.trans hx1
      clear hx1
      go_wp2_with fail
      refine (hRa.out _ _ hc he).mono ?_
      rintro e w4 ⟨rfl, hx1⟩
      replace hc := show Hid (Cld w4 p L) from hc.out.ext hx1
      replace he := show Hid (Env w4) from he.out.ext hx1
      replace hx := show Hid (Ext w w4) from hx.out.trans hx1
      clear hx1 hRa
      go_wp2_with fail
      refine (hRb.out _ _ hc he).mono ?_
      rintro e w5 ⟨rfl, hx1⟩
      replace hc := show Hid (Cld w5 p L) from hc.out.ext hx1
      replace he := show Hid (Env w5) from he.out.ext hx1
      replace hx := show Hid (Ext w w5) from hx.out.trans hx1
      clear hx1 hRb
      go_wp2_with fail
      refine (dA.out _).mono ?_
      rintro e w6 ⟨rfl, hx1⟩
      replace hc := show Hid (Cld w6 p L) from hc.out.ext hx1
      replace hx := show Hid (Ext w w6) from hx.out.trans hx1
      clear hx1
      go_wp2_with fail
      obtain ⟨W7, r7, hW, hr7, hx7, k0, k1, k2⟩ := box3 w6 (.int .i64 ya) (.int .i64 ma) (.int .i64 da) 40
      rw [hW, hr7]
      clear hW hr7 k0 k2
      replace hc := show Hid (Cld W7 p L) from hc.out.ext hx7
      replace hx := show Hid (Ext w W7) from hx.out.trans hx7
      clear hx7
      refine (dB.out _).mono ?_
      rintro e w8 ⟨rfl, hx1⟩
      replace hc := show Hid (Cld w8 p L) from hc.out.ext hx1
      replace hx := show Hid (Ext w w8) from hx.out.trans hx1
      replace k1 := hx1.cell_of k1
      clear hx1 dA dB
      go_wp2_with fail
      obtain ⟨W9, r9, hW, hr9, hx9, m0, m1, m2⟩ := box3 w8 (.int .i64 yb) (.int .i64 mb) (.int .i64 db) 40
      rw [hW, hr9]
      clear hW m0 m2
      clear hr9
      replace hc := show Hid (Cld W9 p L) from hc.out.ext hx9
      replace hx := show Hid (Ext w W9) from hx.out.trans hx9
      replace k1 := hx9.cell_of k1
      clear hx9
      refine (hOx.out _ _ hc).mono ?_
      rintro e w10 ⟨rfl, rfl⟩
      clear hOx
      go_wp2
      go_ret
      exact ⟨rfl, hx.out⟩
    · clear e2 f2 e4 f4
      rcases e3 with ⟨e3, hSM⟩ | e3
      · have hMM : Hid (mOf D = mOf a) := by show _ = _; unfold sameM at hSM; simp only [Bool.and_eq_true, decide_eq_true_eq] at hSM; exact hSM.2
        clear hSM
        have oX := hN.oa
        have A1 := hN.a1; have A2 := hN.a2; have B1 := hN.b1; have B2 := hN.b2
        have X1 : -25567 ≤ a := by omega
        have X2 : a ≤ 84370 := by omega
        have eX : rlA L D 3 = a := e3
        have fX : rlE L D 3 = 0 := f3
        have eY : rlA L a 3 = a := (roll_open oX (by omega) (by omega)).1
        have fY : rlE L a 3 = 0 := (roll_open oX (by omega) (by omega)).2
        have hOx : Hid (∀ (p : Nat) (w : World), Hid (Cld w p L) → Calls Tryd.prog 18 #[.pointer (some ⟨p, 0, none⟩), .int .i64 a] w fun e w' => e = .returned (.bool true) ∧ w' = w) := fun p w hc => by
          have := Open_c p L a w (by unfold I64; omega) hc; rwa [oX] at this
        clear hN
        have hRa : Hid (∀ (p : Nat) (w : World), Hid (Cld w p L) → Hid (Env w) → Calls Tryd.prog 14 #[.pointer (some ⟨p, 0, none⟩), .int .i64 D, .int .i64 3] w fun e w' => e = .returned (.tuple #[.int .i64 a, .int .i64 0]) ∧ Ext w w') := fun p w hc he => by
          have := Roll_c p L D 3 w hc he; rwa [eX, fX] at this
        have hRb : Hid (∀ (p : Nat) (w : World), Hid (Cld w p L) → Hid (Env w) → Calls Tryd.prog 14 #[.pointer (some ⟨p, 0, none⟩), .int .i64 a, .int .i64 3] w fun e w' => e = .returned (.tuple #[.int .i64 a, .int .i64 0]) ∧ Ext w w') := fun p w hc he => by
          have := Roll_c p L a 3 w hc he; rwa [eY, fY] at this
        have dA : Hid (∀ w : World, Calls Tryd.prog 20 #[.int .i64 D] w fun e w' => e = .returned (.tuple #[.agg #[.int .i64 (yOf D), .int .i64 (mOf D), .int .i64 (dOf D)], .int .i64 0]) ∧ Ext w w') := fun w => rDate_f D w (by omega) (by omega)
        have dB : Hid (∀ w : World, Calls Tryd.prog 20 #[.int .i64 a] w fun e w' => e = .returned (.tuple #[.agg #[.int .i64 (yOf a), .int .i64 (mOf a), .int .i64 (dOf a)], .int .i64 0]) ∧ Ext w w') := fun w => rDate_f a w (by omega) (by omega)
        clear eX fX eY fY
        generalize yOf D = ya at *
        generalize yOf a = yb at *
        generalize mOf D = ma at *
        generalize mOf a = mb at *
        generalize dOf D = da at *
        generalize dOf a = db at *
        go_wp2_with fail
        refine (hNw.out _ _ hs.out).mono ?_
        rintro e w2 ⟨p, rfl, hm⟩
        have hc := show Hid (Cld w2 p L) from hm.cld
        replace he := show Hid (Env w2) from he.out.ext hm.ext
        replace hx := show Hid (Ext w w2) from hx.out.trans hm.ext
        clear hm hNw hs
        go_wp2_with fail
        refine (awake_c _ he).mono ?_
        rintro e w3 ⟨rfl, hx1⟩
        replace hc := show Hid (Cld w3 p L) from hc.out.ext hx1
        replace he := show Hid (Env w3) from he.out.ext hx1
        replace hx := show Hid (Ext w w3) from hx.out.trans hx1
        clear hx1
        go_wp2_with fail
        refine (hRa.out _ _ hc he).mono ?_
        rintro e w4 ⟨rfl, hx1⟩
        replace hc := show Hid (Cld w4 p L) from hc.out.ext hx1
        replace he := show Hid (Env w4) from he.out.ext hx1
        replace hx := show Hid (Ext w w4) from hx.out.trans hx1
        clear hx1 hRa
        go_wp2_with fail
        refine (hRb.out _ _ hc he).mono ?_
        rintro e w5 ⟨rfl, hx1⟩
        replace hc := show Hid (Cld w5 p L) from hc.out.ext hx1
        replace he := show Hid (Env w5) from he.out.ext hx1
        replace hx := show Hid (Ext w w5) from hx.out.trans hx1
        clear hx1 hRb
        go_wp2_with fail
        refine (dA.out _).mono ?_
        rintro e w6 ⟨rfl, hx1⟩
        replace hc := show Hid (Cld w6 p L) from hc.out.ext hx1
        replace hx := show Hid (Ext w w6) from hx.out.trans hx1
        clear hx1
        go_wp2_with fail
        obtain ⟨W7, r7, hW, hr7, hx7, k0, k1, k2⟩ := box3 w6 (.int .i64 ya) (.int .i64 ma) (.int .i64 da) 40
        rw [hW, hr7]
        clear hW hr7 k0 k2
        replace hc := show Hid (Cld W7 p L) from hc.out.ext hx7
        replace hx := show Hid (Ext w W7) from hx.out.trans hx7
        clear hx7
        refine (dB.out _).mono ?_
        rintro e w8 ⟨rfl, hx1⟩
        replace hc := show Hid (Cld w8 p L) from hc.out.ext hx1
        replace hx := show Hid (Ext w w8) from hx.out.trans hx1
        replace k1 := hx1.cell_of k1
        clear hx1 dA dB
        go_wp2_with fail
        obtain ⟨W9, r9, hW, hr9, hx9, m0, m1, m2⟩ := box3 w8 (.int .i64 yb) (.int .i64 mb) (.int .i64 db) 40
        rw [hW, hr9]
        clear hW m0 m2
        clear hr9
        replace hc := show Hid (Cld W9 p L) from hc.out.ext hx9
        replace hx := show Hid (Ext w W9) from hx.out.trans hx9
        replace k1 := hx9.cell_of k1
        clear hx9
        refine (hOx.out _ _ hc).mono ?_
        rintro e w10 ⟨rfl, rfl⟩
        clear hOx
        have hmm := hMM.out
        subst hmm
        clear hMM
        by_cases hXD : a ≤ D
        · go_wp2
          go_ret
          exact ⟨ret_bool (by simp), hx.out⟩
        · go_wp2
          go_ret
          exact ⟨ret_bool (by simp), hx.out⟩
      · have oX := hN.ob
        have A1 := hN.a1; have A2 := hN.a2; have B1 := hN.b1; have B2 := hN.b2
        have X1 : -25567 ≤ b := by omega
        have X2 : b ≤ 84370 := by omega
        have eX : rlA L D 3 = b := e3
        have fX : rlE L D 3 = 0 := f3
        have eY : rlA L b 3 = b := (roll_open oX (by omega) (by omega)).1
        have fY : rlE L b 3 = 0 := (roll_open oX (by omega) (by omega)).2
        have hOx : Hid (∀ (p : Nat) (w : World), Hid (Cld w p L) → Calls Tryd.prog 18 #[.pointer (some ⟨p, 0, none⟩), .int .i64 b] w fun e w' => e = .returned (.bool true) ∧ w' = w) := fun p w hc => by
          have := Open_c p L b w (by unfold I64; omega) hc; rwa [oX] at this
        clear hN
        have hRa : Hid (∀ (p : Nat) (w : World), Hid (Cld w p L) → Hid (Env w) → Calls Tryd.prog 14 #[.pointer (some ⟨p, 0, none⟩), .int .i64 D, .int .i64 3] w fun e w' => e = .returned (.tuple #[.int .i64 b, .int .i64 0]) ∧ Ext w w') := fun p w hc he => by
          have := Roll_c p L D 3 w hc he; rwa [eX, fX] at this
        have hRb : Hid (∀ (p : Nat) (w : World), Hid (Cld w p L) → Hid (Env w) → Calls Tryd.prog 14 #[.pointer (some ⟨p, 0, none⟩), .int .i64 b, .int .i64 3] w fun e w' => e = .returned (.tuple #[.int .i64 b, .int .i64 0]) ∧ Ext w w') := fun p w hc he => by
          have := Roll_c p L b 3 w hc he; rwa [eY, fY] at this
        have dA : Hid (∀ w : World, Calls Tryd.prog 20 #[.int .i64 D] w fun e w' => e = .returned (.tuple #[.agg #[.int .i64 (yOf D), .int .i64 (mOf D), .int .i64 (dOf D)], .int .i64 0]) ∧ Ext w w') := fun w => rDate_f D w (by omega) (by omega)
        have dB : Hid (∀ w : World, Calls Tryd.prog 20 #[.int .i64 b] w fun e w' => e = .returned (.tuple #[.agg #[.int .i64 (yOf b), .int .i64 (mOf b), .int .i64 (dOf b)], .int .i64 0]) ∧ Ext w w') := fun w => rDate_f b w (by omega) (by omega)
        clear eX fX eY fY
        generalize yOf D = ya at *
        generalize yOf b = yb at *
        generalize mOf D = ma at *
        generalize mOf b = mb at *
        generalize dOf D = da at *
        generalize dOf b = db at *
        go_wp2_with fail
        refine (hNw.out _ _ hs.out).mono ?_
        rintro e w2 ⟨p, rfl, hm⟩
        have hc := show Hid (Cld w2 p L) from hm.cld
        replace he := show Hid (Env w2) from he.out.ext hm.ext
        replace hx := show Hid (Ext w w2) from hx.out.trans hm.ext
        clear hm hNw hs
        go_wp2_with fail
        refine (awake_c _ he).mono ?_
        rintro e w3 ⟨rfl, hx1⟩
        replace hc := show Hid (Cld w3 p L) from hc.out.ext hx1
        replace he := show Hid (Env w3) from he.out.ext hx1
        replace hx := show Hid (Ext w w3) from hx.out.trans hx1
        clear hx1
        go_wp2_with fail
        refine (hRa.out _ _ hc he).mono ?_
        rintro e w4 ⟨rfl, hx1⟩
        replace hc := show Hid (Cld w4 p L) from hc.out.ext hx1
        replace he := show Hid (Env w4) from he.out.ext hx1
        replace hx := show Hid (Ext w w4) from hx.out.trans hx1
        clear hx1 hRa
        go_wp2_with fail
        refine (hRb.out _ _ hc he).mono ?_
        rintro e w5 ⟨rfl, hx1⟩
        replace hc := show Hid (Cld w5 p L) from hc.out.ext hx1
        replace he := show Hid (Env w5) from he.out.ext hx1
        replace hx := show Hid (Ext w w5) from hx.out.trans hx1
        clear hx1 hRb
        go_wp2_with fail
        refine (dA.out _).mono ?_
        rintro e w6 ⟨rfl, hx1⟩
        replace hc := show Hid (Cld w6 p L) from hc.out.ext hx1
        replace hx := show Hid (Ext w w6) from hx.out.trans hx1
        clear hx1
        go_wp2_with fail
        obtain ⟨W7, r7, hW, hr7, hx7, k0, k1, k2⟩ := box3 w6 (.int .i64 ya) (.int .i64 ma) (.int .i64 da) 40
        rw [hW, hr7]
        clear hW hr7 k0 k2
        replace hc := show Hid (Cld W7 p L) from hc.out.ext hx7
        replace hx := show Hid (Ext w W7) from hx.out.trans hx7
        clear hx7
        refine (dB.out _).mono ?_
        rintro e w8 ⟨rfl, hx1⟩
        replace hc := show Hid (Cld w8 p L) from hc.out.ext hx1
        replace hx := show Hid (Ext w w8) from hx.out.trans hx1
        replace k1 := hx1.cell_of k1
        clear hx1 dA dB
        go_wp2_with fail
        obtain ⟨W9, r9, hW, hr9, hx9, m0, m1, m2⟩ := box3 w8 (.int .i64 yb) (.int .i64 mb) (.int .i64 db) 40
        rw [hW, hr9]
        clear hW m0 m2
        clear hr9
        replace hc := show Hid (Cld W9 p L) from hc.out.ext hx9
        replace hx := show Hid (Ext w W9) from hx.out.trans hx9
        replace k1 := hx9.cell_of k1
        clear hx9
        refine (hOx.out _ _ hc).mono ?_
        rintro e w10 ⟨rfl, rfl⟩
        clear hOx
        go_wp2
        go_ret
        exact ⟨ret_bool (by simp), hx.out⟩
    · clear e2 f2 f3 e3
      have oX := hN.ob
      have A1 := hN.a1; have A2 := hN.a2; have B1 := hN.b1; have B2 := hN.b2
      have X1 : -25567 ≤ b := by omega
      have X2 : b ≤ 84370 := by omega
      have eX : rlA L D 4 = b := e4
      have fX : rlE L D 4 = 0 := f4
      have eY : rlA L b 4 = b := (roll_open oX (by omega) (by omega)).1
      have fY : rlE L b 4 = 0 := (roll_open oX (by omega) (by omega)).2
      have hXD : b ≤ D := hN.b2
      have hOx : Hid (∀ (p : Nat) (w : World), Hid (Cld w p L) → Calls Tryd.prog 18 #[.pointer (some ⟨p, 0, none⟩), .int .i64 b] w fun e w' => e = .returned (.bool true) ∧ w' = w) := fun p w hc => by
        have := Open_c p L b w (by unfold I64; omega) hc; rwa [oX] at this
      clear hN
      have hRa : Hid (∀ (p : Nat) (w : World), Hid (Cld w p L) → Hid (Env w) → Calls Tryd.prog 14 #[.pointer (some ⟨p, 0, none⟩), .int .i64 D, .int .i64 4] w fun e w' => e = .returned (.tuple #[.int .i64 b, .int .i64 0]) ∧ Ext w w') := fun p w hc he => by
        have := Roll_c p L D 4 w hc he; rwa [eX, fX] at this
      have hRb : Hid (∀ (p : Nat) (w : World), Hid (Cld w p L) → Hid (Env w) → Calls Tryd.prog 14 #[.pointer (some ⟨p, 0, none⟩), .int .i64 b, .int .i64 4] w fun e w' => e = .returned (.tuple #[.int .i64 b, .int .i64 0]) ∧ Ext w w') := fun p w hc he => by
        have := Roll_c p L b 4 w hc he; rwa [eY, fY] at this
      have dA : Hid (∀ w : World, Calls Tryd.prog 20 #[.int .i64 D] w fun e w' => e = .returned (.tuple #[.agg #[.int .i64 (yOf D), .int .i64 (mOf D), .int .i64 (dOf D)], .int .i64 0]) ∧ Ext w w') := fun w => rDate_f D w (by omega) (by omega)
      have dB : Hid (∀ w : World, Calls Tryd.prog 20 #[.int .i64 b] w fun e w' => e = .returned (.tuple #[.agg #[.int .i64 (yOf b), .int .i64 (mOf b), .int .i64 (dOf b)], .int .i64 0]) ∧ Ext w w') := fun w => rDate_f b w (by omega) (by omega)
      clear eX fX eY fY
      generalize yOf D = ya at *
      generalize yOf b = yb at *
      generalize mOf D = ma at *
      generalize mOf b = mb at *
      generalize dOf D = da at *
      generalize dOf b = db at *
      go_wp2_with fail
      refine (hNw.out _ _ hs.out).mono ?_
      rintro e w2 ⟨p, rfl, hm⟩
      have hc := show Hid (Cld w2 p L) from hm.cld
      replace he := show Hid (Env w2) from he.out.ext hm.ext
      replace hx := show Hid (Ext w w2) from hx.out.trans hm.ext
      clear hm hNw hs
      go_wp2_with fail
      refine (awake_c _ he).mono ?_
      rintro e w3 ⟨rfl, hx1⟩
      replace hc := show Hid (Cld w3 p L) from hc.out.ext hx1
      replace he := show Hid (Env w3) from he.out.ext hx1
      replace hx := show Hid (Ext w w3) from hx.out.trans hx1
      clear hx1
      go_wp2_with fail
      refine (hRa.out _ _ hc he).mono ?_
      rintro e w4 ⟨rfl, hx1⟩
      replace hc := show Hid (Cld w4 p L) from hc.out.ext hx1
      replace he := show Hid (Env w4) from he.out.ext hx1
      replace hx := show Hid (Ext w w4) from hx.out.trans hx1
      clear hx1 hRa
      go_wp2_with fail
      refine (hRb.out _ _ hc he).mono ?_
      rintro e w5 ⟨rfl, hx1⟩
      replace hc := show Hid (Cld w5 p L) from hc.out.ext hx1
      replace he := show Hid (Env w5) from he.out.ext hx1
      replace hx := show Hid (Ext w w5) from hx.out.trans hx1
      clear hx1 hRb
      go_wp2_with fail
      refine (dA.out _).mono ?_
      rintro e w6 ⟨rfl, hx1⟩
      replace hc := show Hid (Cld w6 p L) from hc.out.ext hx1
      replace hx := show Hid (Ext w w6) from hx.out.trans hx1
      clear hx1
      go_wp2_with fail
      obtain ⟨W7, r7, hW, hr7, hx7, k0, k1, k2⟩ := box3 w6 (.int .i64 ya) (.int .i64 ma) (.int .i64 da) 40
      rw [hW, hr7]
      clear hW hr7 k0 k2
      replace hc := show Hid (Cld W7 p L) from hc.out.ext hx7
      replace hx := show Hid (Ext w W7) from hx.out.trans hx7
      clear hx7
      refine (dB.out _).mono ?_
      rintro e w8 ⟨rfl, hx1⟩
      replace hc := show Hid (Cld w8 p L) from hc.out.ext hx1
      replace hx := show Hid (Ext w w8) from hx.out.trans hx1
      replace k1 := hx1.cell_of k1
      clear hx1 dA dB
      go_wp2_with fail
      obtain ⟨W9, r9, hW, hr9, hx9, m0, m1, m2⟩ := box3 w8 (.int .i64 yb) (.int .i64 mb) (.int .i64 db) 40
      rw [hW, hr9]
      clear hW m0 m2
      clear hr9
      replace hc := show Hid (Cld W9 p L) from hc.out.ext hx9
      replace hx := show Hid (Ext w W9) from hx.out.trans hx9
      replace k1 := hx9.cell_of k1
      clear hx9
      refine (hOx.out _ _ hc).mono ?_
      rintro e w10 ⟨rfl, rfl⟩
      clear hOx
      go_wp2
      go_ret
      exact ⟨rfl, hx.out⟩

set_option maxRecDepth 100000 in
theorem lifted (os : Os) (started : os.Started) (H : Type) (enc : TypeId × Value → H) :
    ReturnsInHanded {} Tryd.checked os 4 .any (fun w args => (Rows.businessRollsSpec.pre enc Tryd.prog Tryd.f4 [] false w args ∧ laidMetH Tryd.prog laid w) ∧ sizedMet enc Tryd.prog Tryd.f4 (OpenSpec.ofChange Rows.businessRollsSpec) false w args)
      (Rows.businessRollsSpec.post enc Tryd.prog Tryd.f4 false true false false) := by
  refine wrap started (by kernel_rfl) Tryd.func4
    (ChangeSpec.witness_shaped (enc := enc) (C := Tryd.checked) (os := os) (X := fun w _ => laidMetH Tryd.prog laid w) false (World.laidAll Tryd.prog os laid) #[.slice none 0 0, .int .i64 0, .int .i64 0] 8 (World.laidAll_os _ _ _)
      (World.shaped_of_ZipB (by kernel_rfl) (by kernel_rfl)) (by kernel_rfl) (by kernel_rfl) (by kernel_rfl)
      (by rw [MakeChecks.laidMetH_plain _ _ _ (by kernel_rfl)]; exact laidMet_laidAll _ (by kernel_rfl) (by kernel_rfl))) ?_
  intro W base args ds gs before hval0 hW hE
  have hval : ∀ (j : Nat) t v, Tryd.f4.params[j]? = some t → args[j]? = some v → Value.okWide Tryd.prog W .any base t v := hval0
  have hW' := hW
  obtain ⟨p, q, hA0, hV, rfl, _, _⟩ := hW
  have hA : DataW.TrodAll enc Tryd.prog W 0 (fun _ => true) true Tryd.f4.params.toList args.toList ds p := hA0
  rw [Tryd.params4] at hA hval
  obtain ⟨v0, vs0, d0, ds0, p0, q0, hargs, rfl, rfl, h0, r0⟩ := trodAll_cons hA
  obtain ⟨v1, vs1, d1, ds1, p1, q1, rfl, rfl, rfl, h1, r1⟩ := trodAll_cons r0
  obtain ⟨v2, vs2, d2, ds2, p2, q2, rfl, rfl, rfl, h2, r2⟩ := trodAll_cons r1
  obtain ⟨rfl, rfl, rfl⟩ := trodAll_nil r2
  obtain rfl : args = #[v0, v1, v2] := by cases args; simp_all
  obtain ⟨rfl, rfl⟩ := trodVars_none hV
  obtain ⟨l0, s0, n0, b0, t0⟩ := open_slc (hval 0 22 v0 rfl rfl) h0
  obtain ⟨a1, rfl, rfl, rfl, w1⟩ := open_int Tryd.underlying3 (hval 1 3 v1 rfl rfl) h1
  obtain ⟨a2, rfl, rfl, rfl, w2⟩ := open_int Tryd.underlying3 (hval 2 3 v2 rfl rfl) h2
  clear hA0 hval0
  simp only [List.append_nil] at hW'
  refine (walk v0 l0 n0 b0 a1 w1 a2 w2 W hE s0).mono fun e W' ⟨he, hb⟩ => ?_
  subst he
  exact ⟨_, rfl, _, _, _, [], _, [], hW', (trodAll_cons_mk (shut_bool Tryd.underlying4 _) trodAll_mk0), (trodAll_cons_mk (t0 _ hb) (trodAll_cons_mk (shut_int Tryd.underlying3 w1) (trodAll_cons_mk (shut_int Tryd.underlying3 w2) trodAll_mk0))), rfl, hb.below.frame _, fun h => by cases h⟩

theorem over : Rows.businessRollsRow.holds Tryd.pinned (OpenSpec.ofChange Rows.businessRollsSpec) :=
  OpenClaim.holds_of_wide 4 Tryd.f4 rfl rfl rfl rfl rfl rfl rfl ⟨rfl, rfl, rfl, rfl, rfl⟩ rfl rfl rfl rfl rfl (by kernel_rfl) Tryd.func4 (by kernel_rfl)
    (of_decide_eq_true (by kernel_rfl)) (by unfold Func.isWrapper; first | (rw [if_pos (by decide +kernel)]; kernel_rfl) | (rw [if_neg (by decide +kernel)]; exact ⟨rfl, rfl⟩))
    (fun os started H enc _ => lifted os started H enc)
end Go.Proofs.YtkkpnhcodaijeaaDoor.businessRolls
namespace Go.Proofs.YtkkpnhcodaijeaaDoor
theorem businessRolls_holds : Rows.BusinessRollsCardSaid :=
  Claim7.holds_tied_plain_at .later [] [.data] true (true, "e1bead60f38d7db9a905f8b5c7557c99378f268eeabe1e4dec57d59f46519798") false businessRolls.over (fun _ h => by cases h) (by kernel_rfl) (fun _ h => by cases h) businessRolls_row_tie rfl ⟨rfl, rfl⟩ (by kernel_rfl) rfl
    (fun f fn hf hfn => by
      obtain rfl : f = 4 := Option.some.inj ((show Tryd.prog.funcNamed "quittance/quittancelaw05.BusinessRolls" = some 4 by kernel_rfl).symm.trans hf) |>.symm
      obtain rfl : fn = Tryd.f4 := (Option.some.inj (Tryd.func4.symm.trans hfn)).symm
      exact ⟨by kernel_rfl, fun j t ht => by
        rw [Tryd.params4] at ht
        have hm : t ∈ [22, 3, 3] := by simpa using Array.mem_of_getElem? ht
        have hall : ([22, 3, 3].all fun u => !Tryd.prog.wantsStandIn u) = true := by kernel_rfl
        exact (show Tryd.prog.wantsStandIn t = false by simpa using List.all_eq_true.1 hall t hm)⟩)
    (by kernel_rfl)
#print axioms businessRolls_holds
end Go.Proofs.YtkkpnhcodaijeaaDoor
