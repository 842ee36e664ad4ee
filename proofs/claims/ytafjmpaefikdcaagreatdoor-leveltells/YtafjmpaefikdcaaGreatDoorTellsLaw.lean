/- For every product, all parts, every amount and every instalment, and either way, of the project's tree at the commit that COMMIT names, LevelTells returns true and leaves its arguments as they were, with the listed variable laid as the program's text lays it. -/
import Derived.Test.YtafjmpaefikdcaaGreatDoorFri
import Derived.Test.YtafjmpaefikdcaaGreatDoorLv9
import Derived.Test.YtafjmpaefikdcaaGreatDoorOw
import Derived.Test.YtafjmpaefikdcaaGreatDoorPl20
import Derived.Test.YtafjmpaefikdcaaGreatDoorM4
import Derived.Deep.DeepCutAuto
namespace Go.Proofs.YtafjmpaefikdcaaGreatDoor.levelTells
open Go.ChangeShapes Go.WideShapes Go.ChangeAt Go.RowKit Go.Lib
set_option linter.unusedVariables false

/-- The parts that are made. -/
def mkF (l : List Int) (j : Nat) : Int := match l[j]? with
  | some x => (IntKind.u64.wrap x).tmod 2000
  | none => 30
theorem mkF_in {l : List Int} {j : Nat} {x R : Int} (h : l[j]? = some x) (hR : (IntKind.u64.wrap x).tmod 2000 = R) : mkF l j = R := by unfold mkF; rw [h]; exact hR
theorem mkF_out {l : List Int} {j : Nat} (h : l.length ≤ j) : mkF l j = 30 := by unfold mkF; rw [List.getElem?_eq_none h]
theorem own_put {w : World} {B : Nat} {e : TypeId} {z : Nat} {v : Value} {T : Nat} {xs : List Value} (h : w.ownsRow B e z v T xs) {b : Nat} (hb : b < B) (i : Nat) (x : Value) : (w.setCell ⟨b, i, none⟩ x).ownsRow B e z v T xs := by
  have hl := h.lt
  refine ⟨h.1, ?_⟩
  rcases h.2 with h0 | ⟨g, c, cur, h1, h2, h3, h4⟩
  · exact Or.inl h0
  · refine Or.inr ⟨g, c, cur, h1, h2, ?_, h4⟩
    rw [heap_setCell_other _ _ _ _ (fun hc => by have h5 := (hl g (by rw [h1]; rfl)).1; dsimp only at hc; omega)]
    exact h3
theorem slc_sll {w : World} {sa : Option Addr} {c : Nat} {l : List Int} (h : L8.Slc w (.slice sa l.length c) l) : Sll w sa l.length l := by
  rcases h with ⟨a, c, _, _, rfl⟩ | ⟨b, off, c, e, hc⟩
  · exact ⟨rfl, fun k x hk => by simp at hk⟩
  · injection e with e1
    exact ⟨rfl, fun k x hk => ⟨b, off, e1, hc k x hk⟩⟩
set_option maxRecDepth 100000 in
set_option maxHeartbeats 4000000 in

theorem walk (p0 : Prd) (vr0 vl0 vh0 : Value) (hp0 : L8.Fits p0.nm p0.rs p0.lt p0.hd) (v1 : Value) (l1 : List Int) (n1 : l1.length ≤ maxLen) (b1 : ∀ x ∈ l1, J64 x) (a2 : Int) (w2 : (Lit.int .i64 a2).wf = true) (a3 : Int) (w3 : (Lit.int .i64 a3).wf = true) (a4 : Bool) (w : World) (he : Evn w) (sr0 : L8.Slp w vr0 p0.rs) (sl0 : L8.Slp w vl0 p0.lt) (sh0 : L8.Slc w vh0 p0.hd) (s1 : L8.Slc w v1 l1) :
    Calls Tryz.prog 3 #[.agg (pcells p0 vr0 vl0 vh0), v1, .int .i64 a2, .int .i64 a3, .bool a4] w fun e w' => e = .returned (.bool true) ∧ Ext w w' := by
  have m0 := hp0.nm; have m1 := hp0.rs; have m2 := hp0.lt; have m3 := hp0.hd
  unfold maxLen at m0 m1 m2 m3 n1
  clear hp0 b1
  obtain ⟨ar, cr, rfl⟩ := sr0.len
  obtain ⟨al, cl, rfl⟩ := sl0.len
  obtain ⟨ah, ch, rfl⟩ := sh0.len
  obtain ⟨sa, sc, rfl⟩ := s1.len
  have hone := pcells_slp sr0 sl0 sh0
  have hsz : (pcells p0 (.slice ar p0.rs.length cr) (.slice al p0.lt.length cl) (.slice ah p0.hd.length ch)).size = 19 := rfl
  obtain ⟨W0, b, hW0, hb, hx0, hB⟩ : ∃ W b, w.alloc (.cells (pcells p0 (.slice ar p0.rs.length cr) (.slice al p0.lt.length cl) (.slice ah p0.hd.length ch)) 27) = W ∧ w.heap.size = b ∧ Ext w W ∧ Blk W b (pcells p0 (.slice ar p0.rs.length cr) (.slice al p0.lt.length cl) (.slice ah p0.hd.length ch)) := ⟨_, _, rfl, rfl, (Ext.refl w).alloc _ _, heap_alloc_last w _⟩
  have hbx := box_prod p0 (.slice ar p0.rs.length cr) (.slice al p0.lt.length cl) (.slice ah p0.hd.length ch) hone
  have y0 : W0.cell? ⟨b, 0, none⟩ = some (.string ⟨p0.nm.toArray⟩) := (cell_of_row _ b 0 _ _ _ hB).trans rfl
  have y8 : W0.cell? ⟨b, 8, none⟩ = some (.slice ar p0.rs.length cr) := (cell_of_row _ b 8 _ _ _ hB).trans rfl
  have y15 : W0.cell? ⟨b, 15, none⟩ = some (.slice al p0.lt.length cl) := (cell_of_row _ b 15 _ _ _ hB).trans rfl
  have y18 : W0.cell? ⟨b, 18, none⟩ = some (.slice ah p0.hd.length ch) := (cell_of_row _ b 18 _ _ _ hB).trans rfl
  by_cases c0 : 100 < p0.nm.length
  · have hli : (100 : Int) < (p0.nm.length : Int) := by omega
    clear hB sr0 sl0 sh0 s1 hone he c0
    replace hx0 := show Hid _ from hx0
    go_enter Tryz.func3, Tryz.ntmps3
    go_wp2_with fail
    refine Calls.mono (awake_w _) ?_
    rintro e w1 ⟨rfl, hx⟩
    replace hx := show Hid _ from hx
    go_wp2
    go_ret
    exact ⟨rfl, hx0.out.trans hx.out⟩
  by_cases c1 : 50 < p0.rs.length
  · have hli : (50 : Int) < (p0.rs.length : Int) := by omega
    have pi0 : ¬ (100 : Int) < (p0.nm.length : Int) := by omega
    clear hB sr0 sl0 sh0 s1 hone he c1
    replace hx0 := show Hid _ from hx0
    go_enter Tryz.func3, Tryz.ntmps3
    go_wp2_with fail
    refine Calls.mono (awake_w _) ?_
    rintro e w1 ⟨rfl, hx⟩
    replace hx := show Hid _ from hx
    go_wp2
    go_ret
    exact ⟨rfl, hx0.out.trans hx.out⟩
  by_cases c2 : 50 < p0.lt.length
  · have hli : (50 : Int) < (p0.lt.length : Int) := by omega
    have pi0 : ¬ (100 : Int) < (p0.nm.length : Int) := by omega
    have pi1 : ¬ (50 : Int) < (p0.rs.length : Int) := by omega
    clear hB sr0 sl0 sh0 s1 hone he c2
    replace hx0 := show Hid _ from hx0
    go_enter Tryz.func3, Tryz.ntmps3
    go_wp2_with fail
    refine Calls.mono (awake_w _) ?_
    rintro e w1 ⟨rfl, hx⟩
    replace hx := show Hid _ from hx
    go_wp2
    go_ret
    exact ⟨rfl, hx0.out.trans hx.out⟩
  by_cases c3 : 300 < p0.hd.length
  · have hli : (300 : Int) < (p0.hd.length : Int) := by omega
    have pi0 : ¬ (100 : Int) < (p0.nm.length : Int) := by omega
    have pi1 : ¬ (50 : Int) < (p0.rs.length : Int) := by omega
    have pi2 : ¬ (50 : Int) < (p0.lt.length : Int) := by omega
    clear hB sr0 sl0 sh0 s1 hone he c3
    replace hx0 := show Hid _ from hx0
    go_enter Tryz.func3, Tryz.ntmps3
    go_wp2_with fail
    refine Calls.mono (awake_w _) ?_
    rintro e w1 ⟨rfl, hx⟩
    replace hx := show Hid _ from hx
    go_wp2
    go_ret
    exact ⟨rfl, hx0.out.trans hx.out⟩
  by_cases c4 : 40 < l1.length
  · have hli : (40 : Int) < (l1.length : Int) := by omega
    have pi0 : ¬ (100 : Int) < (p0.nm.length : Int) := by omega
    have pi1 : ¬ (50 : Int) < (p0.rs.length : Int) := by omega
    have pi2 : ¬ (50 : Int) < (p0.lt.length : Int) := by omega
    have pi3 : ¬ (300 : Int) < (p0.hd.length : Int) := by omega
    clear hB sr0 sl0 sh0 s1 hone he c4
    replace hx0 := show Hid _ from hx0
    go_enter Tryz.func3, Tryz.ntmps3
    go_wp2_with fail
    refine Calls.mono (awake_w _) ?_
    rintro e w1 ⟨rfl, hx⟩
    replace hx := show Hid _ from hx
    go_wp2
    go_ret
    exact ⟨rfl, hx0.out.trans hx.out⟩
  have pi0 : ¬ (100 : Int) < (p0.nm.length : Int) := by omega
  have pi1 : ¬ (50 : Int) < (p0.rs.length : Int) := by omega
  have pi2 : ¬ (50 : Int) < (p0.lt.length : Int) := by omega
  have pi3 : ¬ (300 : Int) < (p0.hd.length : Int) := by omega
  have pi4 : ¬ (40 : Int) < (l1.length : Int) := by omega
  have hbz : w.heap.size ≤ b := by omega
  have hlo : Hid (w.heap.size ≤ b) := hbz
  have hI : Hid (Inp w p0 (.slice ar p0.rs.length cr) (.slice al p0.lt.length cl) (.slice ah p0.hd.length ch)) := ⟨by omega, by omega, by omega, by omega, sr0, sl0, sh0⟩
  have hs1 : Hid (L8.Slc w (.slice sa l1.length sc) l1) := s1
  have hll : Hid (l1.length ≤ 40) := by show _ ≤ _; omega
  replace hx0 := show Hid _ from hx0
  clear c0 c1 c2 c3 c4 he s1
  go_enter Tryz.func3, Tryz.ntmps3
  go_upto_if 52 with fail
  go_cut [1, 2, 5, 11, 12, 13] from 53 to 82 (fun x y z _ _ _ wx => z = .pointer (some ⟨b, 0, none⟩) ∧ ∃ (q : Prd) (ur ul uh : Value) (l : List Int) (A : Int), y = .int .i64 A ∧ Hid (L8.Slc wx x l) ∧ Hid (l.length ≤ 40) ∧ Hid (Blk wx b (pcells q ur ul uh)) ∧ Hid (Inp w q ur ul uh) ∧ Hid (Ext w wx))
  case first =>
    cases a4
    case true =>
      go_wp2
      go_meet
      exact ⟨rfl, p0, _, _, _, l1, a2, rfl, L8.Slc.ext hs1.out hx0.out, hll, hB, hI, hx0⟩
    case false =>
    obtain ⟨R1, e1, l2, r1, f1, g1, _⟩ := rem_w a2 10000000000000 (by decide) (by decide)
    obtain ⟨i0, hi0, hz0, hz1, hz2⟩ := info_parts info_i64
    have hS : Hid (Sll w sa l1.length l1) := slc_sll hs1.out
    clear y0 y8 y15 y18 pi0 pi1 pi2 pi3 pi4 m0 m1 m2 hW0 hb
    go_wp2_with (refine load27 hB hsz rfl rfl rfl ?_)
    refine (Play_20 p0 (.slice ar p0.rs.length cr) (.slice al p0.lt.length cl) (.slice ah p0.hd.length ch) w _ hx0.out hI.out.h0 hI.out.h1 hI.out.h2 hI.out.h3 hI.out.sr hI.out.sl hI.out.sh).mono ?_
    rintro e w2 ⟨hx2, q, ur, ul, uh, rfl, s1, s2, s3, j1, j2, k1, k2⟩
    have hqo := one_of s1 s2 s3
    have hB2 : Blk w2 b (pcells p0 (.slice ar p0.rs.length cr) (.slice al p0.lt.length cl) (.slice ah p0.hd.length ch)) := hB.ext hx2
    replace hx2 : Hid (Ext w w2) := hx0.out.trans hx2
    have hIq : Hid (Inp w q ur ul uh) := ⟨by omega, by omega, by omega, by omega, s1, s2, s3⟩
    obtain ⟨T, hT⟩ : ∃ T : Nat, q.tm = (T : Int) := ⟨duT q, (tm_T k1).1⟩
    have T1 : 1 ≤ T := by have := tm_T k1; omega
    have T2 : T ≤ 20 := by omega
    clear hB s1 s2 s3 j1 j2 k1 k2 hx0
    go_wp2_with (refine store27 (cs := pcells q ur ul uh) hB2 rfl rfl hqo rfl rfl rfl rfl ?_)
    intro W3 hB3 hx3
    replace hx3 : Hid (Ext w W3) := hx3.ext hx2.out hbz
    have c3 := (cell_of_row W3 b 3 _ _ _ hB3).trans (show _ = some (.int .i64 q.kd) from rfl)
    have z3 := frozen_of_row W3 b 3 _ _ hB3
    obtain ⟨Q, hQ⟩ : ∃ Q : Prd, { q with kd := 1 } = Q := ⟨_, rfl⟩
    have hQt : Q.tm = (T : Int) := by rw [← hQ]; exact hT
    have hB4 : Hid (Blk (W3.setCell ⟨b, 3, none⟩ (.int .i64 1)) b (pcells Q ur ul uh)) := by rw [← hQ]; exact L8.Blk.set hB3 3 _
    have hx4 : Hid (Ext w (W3.setCell ⟨b, 3, none⟩ (.int .i64 1))) := hx3.out.setCell hbz _
    have hIQ : Hid (Inp w Q ur ul uh) := by rw [← hQ]; exact ⟨hIq.out.h0, hIq.out.h1, hIq.out.h2, hIq.out.h3, hIq.out.sr, hIq.out.sl, hIq.out.sh⟩
    obtain ⟨W4, hW4⟩ : ∃ W, W3.setCell ⟨b, 3, none⟩ (.int .i64 1) = W := ⟨_, rfl⟩
    rw [hW4] at hB4 hx4
    have hbB : Hid (b < W4.heap.size) := (Array.getElem?_eq_some_iff.1 hB4.out).1
    obtain ⟨B, hBB⟩ : ∃ B, W4.heap.size = B := ⟨_, rfl⟩
    rw [hBB] at hbB
    have hwB : Hid (w.heap.size ≤ B) := by show _ ≤ _; have := hx4.out.size; omega
    replace hQt := show Hid _ from hQt
    clear hB2 hx2 hB3 hx3 hIq hqo hbx hone hsz hT
    replace hQ := show Hid _ from hQ
    go_wp2_with fail
    clear hW4 c3 z3
    go_loopw [11, 12] (fun u i wr => ∃ (k : Nat) (va : Option Addr) (vc : Nat), k ≤ T ∧ i = .int .i64 k ∧ u = .slice va k vc ∧ Hid (Blk wr b (pcells Q ur ul uh)) ∧ Hid (wr.ownsRow B 2 1 (.slice va k vc) k (L4.ints (mkF l1) k)) ∧ Hid (Ext w wr) ∧ Hid (B ≤ wr.heap.size)) (fun _ i _ => T - (RowKit.intOf i).toNat)
    case atStart => exact ⟨0, none, 0, Nat.zero_le _, rfl, rfl, hB4, World.ownsRow_nil _ _ _ _, hx4, by show B ≤ _; omega⟩
    case round =>
      obtain ⟨k, va, vc, hk, rfl, rfl, hBk, hq, hx, hBs⟩ := hrel
      clear hB4 hx4 hBB
      have c5 := (cell_of_row wr b 5 _ _ _ hBk.out).trans (show _ = some (.int .i64 Q.tm) from rfl)
      rw [hQt.out] at c5
      by_cases hlt : k < T
      · have hlt' : (k : Int) < (T : Int) := by omega
        by_cases hin : k < l1.length
        · have hin' : (k : Int) < (l1.length : Int) := by omega
          obtain ⟨n, hn⟩ : ∃ n, l1[k]? = some n := ⟨_, List.getElem?_eq_getElem hin⟩
          obtain ⟨X, eX, lX, rX, fX, gX, _⟩ := rem_w n 2000 (by decide) (by decide)
          have hF : Hid (mkF l1 k = X) := mkF_in hn eX
          obtain ⟨bb, off, rfl, kc0⟩ := hS.out.at_ k n hn
          have kc := hx.out.cell_of kc0
          clear hn kc0
          go_wp2_with (at_builtin; refine wpList_append_own _ rfl (.tmp 73) (.tmp 75) 28 rfl B 2 i0 (.int .i64 0) 1 8 Tryz.underlying28 hi0 hz0 hz1 hz2 rfl (by decide) _ _ _ rfl (hq.out.alloc _) ⟨wr.heap.size, 0, none⟩ 1 1 [.int .i64 X] rfl rfl ?c1 ?c2 ?c3 ?c4 ?c5 ?_)
          case c1 =>
            intro j u hj
            match j, hj with
            | 0, hj => simp at hj; subst hj; simp [Addr.add]
          case c2 => intro u hu; simp at hu; subst hu; rfl
          case c3 => unfold maxLen; omega
          case c4 => omega
          case c5 => simp; have := hBs.out; omega
          intro v' w5 hown' hgrow _
          have hXs : L4.ints (mkF l1) (k + 1) = L4.ints (mkF l1) k ++ [.int .i64 X] := by rw [L4.ints_succ, hF.out]
          have hq5 : w5.ownsRow B 2 1 v' (k + 1) (L4.ints (mkF l1) (k + 1)) := by
            rw [hXs]; exact hown'
          obtain ⟨v2, vc2, hv2⟩ : ∃ v2 vc2, v' = .slice v2 (k + 1) vc2 := by
            obtain ⟨g2, c2, h2, _⟩ := L4.Arr.of_own (by omega) hq5
            exact ⟨_, _, h2⟩
          subst hv2
          have hle : ∀ b, (Value.slice va k vc).ownBlock = some b → B ≤ b := L4.own_lo hq.out
          have hBa : Blk (wr.alloc (.cells #[.int .i64 X] 2)) b (pcells Q ur ul uh) := hBk.out.ext ((Ext.refl wr).alloc _ _)
          have hB5 : Hid (Blk w5 b (pcells Q ur ul uh)) := by
            have := hgrow.block b (by have := (Array.getElem?_eq_some_iff.1 hBa).1; exact this) (fun hc => by have := hle b hc.symm; have := hbB.out; omega)
            show w5.heap[b]? = _
            rw [this]; exact hBa
          have hx5 : Hid (Ext w w5) := ⟨((hx.out.alloc _ _).below).grown hgrow (by have := hx.out.size; simp; omega) (fun b hb => by have := hle b hb; have := hwB.out; omega)⟩
          have hs5 : Hid (B ≤ w5.heap.size) := by show B ≤ _; have := hgrow.size; have := hBs.out; simp at *; omega
          replace hq5 : Hid (w5.ownsRow B 2 1 (.slice v2 (k + 1) vc2) (k + 1) (L4.ints (mkF l1) (k + 1))) := hq5
          clear hown' hgrow hle hBa hq hx hBk hBs hXs
          go_wp2
          go_roundw
          case rel => exact ⟨k + 1, v2, vc2, by omega, by go_num, rfl, hB5, hq5, hx5, hs5⟩
          case measure => simp [RowKit.intOf]; omega
        · have hin' : ¬ (k : Int) < (l1.length : Int) := by omega
          have hF0 := mkF_out (l := l1) (j := k) (by omega)
          go_upto_region 13 with fail
          obtain ⟨X, hX⟩ : ∃ X : Int, 30 = X := ⟨_, rfl⟩
          rw [hX] at hF0 ⊢
          have hF : Hid (mkF l1 k = X) := hF0
          clear hX hF0
          go_wp2_with (at_builtin; refine wpList_append_own _ rfl (.tmp 73) (.tmp 75) 28 rfl B 2 i0 (.int .i64 0) 1 8 Tryz.underlying28 hi0 hz0 hz1 hz2 rfl (by decide) _ _ _ rfl (hq.out.alloc _) ⟨wr.heap.size, 0, none⟩ 1 1 [.int .i64 X] rfl rfl ?c1 ?c2 ?c3 ?c4 ?c5 ?_)
          case c2 => first | rfl | (intro u hu; simp at hu; subst hu; rfl)
          case c3 => first | (unfold maxLen; omega) | omega
          case c4 => omega
          case c5 => first | (have := hBs.out; omega) | (simp; have := hBs.out; omega)
          intro v' w5 hown' hgrow _
          have hXs : L4.ints (mkF l1) (k + 1) = L4.ints (mkF l1) k ++ [.int .i64 X] := by rw [L4.ints_succ, hF.out]
          have hq5 : w5.ownsRow B 2 1 v' (k + 1) (L4.ints (mkF l1) (k + 1)) := by
            rw [hXs]; exact hown'
          obtain ⟨v2, vc2, hv2⟩ : ∃ v2 vc2, v' = .slice v2 (k + 1) vc2 := by
            obtain ⟨g2, c2, h2, _⟩ := L4.Arr.of_own (by omega) hq5
            exact ⟨_, _, h2⟩
          subst hv2
          have hle : ∀ b, (Value.slice va k vc).ownBlock = some b → B ≤ b := L4.own_lo hq.out
          have hBa : Blk (wr.alloc (.cells #[.int .i64 X] 2)) b (pcells Q ur ul uh) := hBk.out.ext ((Ext.refl wr).alloc _ _)
          have hB5 : Hid (Blk w5 b (pcells Q ur ul uh)) := by
            have := hgrow.block b (by have := (Array.getElem?_eq_some_iff.1 hBa).1; exact this) (fun hc => by have := hle b hc.symm; have := hbB.out; omega)
            show w5.heap[b]? = _
            rw [this]; exact hBa
          have hx5 : Hid (Ext w w5) := ⟨((hx.out.alloc _ _).below).grown hgrow (by have := hx.out.size; simp; omega) (fun b hb => by have := hle b hb; have := hwB.out; omega)⟩
          have hs5 : Hid (B ≤ w5.heap.size) := by show B ≤ _; have := hgrow.size; have := hBs.out; simp at *; omega
          replace hq5 : Hid (w5.ownsRow B 2 1 (.slice v2 (k + 1) vc2) (k + 1) (L4.ints (mkF l1) (k + 1))) := hq5
          clear hown' hgrow hle hBa hq hx hBk hBs hXs
          go_wp2
          go_roundw
          case rel => exact ⟨k + 1, v2, vc2, by omega, by go_num, rfl, hB5, hq5, hx5, hs5⟩
          case measure => simp [RowKit.intOf]; omega
      · obtain rfl : k = T := by omega
        obtain ⟨g3, c3, hv3, ha⟩ := L4.Arr.of_own T1 hq.out
        injection hv3 with hv3 _ hv4
        subst hv3; subst hv4
        have hs : Hid (L8.Slc wr (.slice (some ⟨g3, 0, none⟩) k vc) (fst k (mkF l1))) := arr_sl ha
        have hl3 : Hid ((fst k (mkF l1)).length ≤ 40) := by show _ ≤ _; rw [fst_length]; omega
        clear hq ha
        go_wp2
        go_meet
        exact ⟨rfl, Q, ur, ul, uh, _, _, rfl, hs, hl3, hBk, hIQ, hx⟩
  case rest =>
  clear hB hsz hone y0 y8 y15 y18 hbx pi0 pi1 pi2 pi3 pi4 m0 m1 m2 m3 sr0 sl0 sh0 hI hs1 hll hx0
  obtain ⟨rfl, q, ur, ul, uh, l, A, rfl, hs, hl, hB, hI, hx⟩ := hcut
  obtain ⟨ta, tc, hv⟩ := hs.out.len
  subst hv
  clear hW0 hb hbz hlo
  obtain ⟨E, hE⟩ := askE_ex q l A
  have hE' : Hid (askE q l A E) := hE
  obtain ⟨v, F, d1, d2, d3⟩ := Left_ex q l A a3 E hE
  obtain ⟨u, G, f1, f2, f3⟩ := Of_ex q l A E hE
  have hl3 : l.length ≤ 30000 := by have := hl.out; omega
  have q1 : Hid (∀ (s : Value) (W : World), Ext w W → L8.Slc W s l → Calls Tryz.prog 9 #[.agg (pcells q ur ul uh), s, .int .i64 A, .int .i64 a3] W fun e w' => e = .returned (.tuple #[.int .i64 v, .int .i64 F]) ∧ Ext W w') := fun s W hW hs => Left_a q ur ul uh s l A a3 E v F W (hI.out.ext hW) hs hE d1 d2 d3
  have q2 : Hid (∀ (s : Value) (W : World), Ext w W → L8.Slc W s l → Calls Tryz.prog 10 #[.agg (pcells q ur ul uh), s, .int .i64 A, .int .i64 a3] W fun e w' => e = .returned (.tuple #[.int .i64 v, .int .i64 F]) ∧ Ext W w') := fun s W hW hs => rLeft_a q ur ul uh s l A a3 E v F W (hI.out.ext hW) hs hl3 hE d1 d2 d3
  have q3 : Hid (∀ (s : Value) (W : World), Ext w W → L8.Slc W s l → Calls Tryz.prog 11 #[.agg (pcells q ur ul uh), s, .int .i64 A] W fun e w' => e = .returned (.tuple #[.int .i64 u, .int .i64 G]) ∧ Ext W w') := fun s W hW hs => Of_a q ur ul uh s l A E u G W (hI.out.ext hW) hs hE f1 f2 f3
  have q4 : Hid (∀ (s : Value) (W : World), Ext w W → L8.Slc W s l → Calls Tryz.prog 12 #[.agg (pcells q ur ul uh), s, .int .i64 A] W fun e w' => e = .returned (.tuple #[.int .i64 u, .int .i64 G]) ∧ Ext W w') := fun s W hW hs => rOf_a q ur ul uh s l A E u G W (hI.out.ext hW) hs hl3 hE f1 f2 f3
  clear d1 d2 d3 f1 f2 f3 hE hE' hl3
  have hl4 : Hid (l.length ≤ 1000) := by show _ ≤ _; have := hl.out; omega
  replace hB := hB.out
  clear hl hI
  go_wp2_with fail
  refine (Ow.Own_c _ l _ hl4.out hs.out).mono ?_
  rintro e w5 ⟨⟨g, rfl, _, _, hg⟩, hy⟩
  replace hg : Hid (Ow.Lst w5 g (l ++ [71, 71, 71])) := hg
  replace hB := hB.ext hy
  replace hx : Hid (Ext w w5) := hx.out.trans hy
  replace hs : Hid (L8.Slc w5 (.slice ta l.length tc) l) := L8.Slc.ext hs.out hy
  clear hy
  go_wp2_with (refine load27 hB rfl rfl rfl rfl ?_)
  refine Calls.mono (q1.out _ _ hx.out (Ow.Lst.slc hg.out rfl)) ?_
  rintro e w6 ⟨rfl, hy⟩
  replace hg : Hid (Ow.Lst w6 g (l ++ [71, 71, 71])) := hg.out.ext hy
  replace hB := hB.ext hy
  replace hx : Hid (Ext w w6) := hx.out.trans hy
  replace hs : Hid (L8.Slc w6 (.slice ta l.length tc) l) := L8.Slc.ext hs.out hy
  clear hy q1
  go_wp2_with (refine load27 hB rfl rfl rfl rfl ?_)
  refine Calls.mono (q2.out _ _ hx.out hs.out) ?_
  rintro e w7 ⟨rfl, hy⟩
  replace hg : Hid (Ow.Lst w7 g (l ++ [71, 71, 71])) := hg.out.ext hy
  replace hB := hB.ext hy
  replace hx : Hid (Ext w w7) := hx.out.trans hy
  replace hs : Hid (L8.Slc w7 (.slice ta l.length tc) l) := L8.Slc.ext hs.out hy
  clear hy q2
  go_wp2_with (refine load27 hB rfl rfl rfl rfl ?_)
  refine Calls.mono (q3.out _ _ hx.out (Ow.Lst.slc hg.out rfl)) ?_
  rintro e w8 ⟨rfl, hy⟩
  replace hg : Hid (Ow.Lst w8 g (l ++ [71, 71, 71])) := hg.out.ext hy
  replace hB := hB.ext hy
  replace hx : Hid (Ext w w8) := hx.out.trans hy
  replace hs : Hid (L8.Slc w8 (.slice ta l.length tc) l) := L8.Slc.ext hs.out hy
  clear hy q3
  go_wp2_with (refine load27 hB rfl rfl rfl rfl ?_)
  refine Calls.mono (q4.out _ _ hx.out hs.out) ?_
  rintro e w9 ⟨rfl, hy⟩
  replace hg : Hid (Ow.Lst w9 g (l ++ [71, 71, 71])) := hg.out.ext hy
  replace hB := hB.ext hy
  replace hx : Hid (Ext w w9) := hx.out.trans hy
  replace hs : Hid (L8.Slc w9 (.slice ta l.length tc) l) := L8.Slc.ext hs.out hy
  clear hy q4
  go_wp2_with fail
  refine (awake_w _).mono ?_
  rintro e wa ⟨rfl, hy⟩
  replace hg : Hid (Ow.Lst wa g (l ++ [71, 71, 71])) := hg.out.ext hy
  replace hx : Hid (Ext w wa) := hx.out.trans hy
  replace hs : Hid (L8.Slc wa (.slice ta l.length tc) l) := L8.Slc.ext hs.out hy
  clear hy hB
  go_wp2_with fail
  refine (Ow.Kept_c g _ l _ hl4.out hg.out hs.out).mono ?_
  rintro e wb ⟨rfl, hy⟩
  replace hx : Hid (Ext w wb) := hx.out.trans hy
  clear hy hg hs
  go_wp2
  go_ret
  exact ⟨rfl, hx.out⟩


set_option maxRecDepth 100000 in
theorem lifted (os : Os) (started : os.Started) (H : Type) (enc : TypeId × Value → H) :
    ReturnsInHanded {} Tryz.checked os 3 .any (fun w args => (Rows.levelTellsSpec.pre enc Tryz.prog Tryz.f3 [] false w args ∧ laidMetH Tryz.prog laid w) ∧ sizedMet enc Tryz.prog Tryz.f3 (OpenSpec.ofChange Rows.levelTellsSpec) false w args)
      (Rows.levelTellsSpec.post enc Tryz.prog Tryz.f3 false true false false) := by
  refine wrap started (by kernel_rfl) Tryz.func3
    (ChangeSpec.witness_shaped (enc := enc) (C := Tryz.checked) (os := os) (X := fun w _ => laidMetH Tryz.prog laid w) false (World.laidAll Tryz.prog os laid) #[.agg #[.string ⟨#[]⟩, .int .i64 0, .int .i64 0, .int .i64 0, .int .i64 0, .int .i64 0, .int .i64 0, .int .i64 0, .slice none 0 0, .int .i64 0, .int .i64 0, .int .i64 0, .int .i64 0, .int .i64 0, .int .i64 0, .slice none 0 0, .int .i64 0, .int .i64 0, .slice none 0 0], .slice none 0 0, .int .i64 0, .int .i64 0, .bool false] 8 (World.laidAll_os _ _ _)
      (World.shaped_of_ZipB (by kernel_rfl) (by kernel_rfl)) (by kernel_rfl) (by kernel_rfl) (by kernel_rfl)
      (by rw [MakeChecks.laidMetH_plain _ _ _ (by kernel_rfl)]; exact laidMet_laidAll _ (by kernel_rfl) (by kernel_rfl))) ?_
  intro W base args ds gs before hval0 hW hE
  have hval : ∀ (j : Nat) t v, Tryz.f3.params[j]? = some t → args[j]? = some v → Value.okWide Tryz.prog W .any base t v := hval0
  have hW' := hW
  obtain ⟨p, q, hA0, hV, rfl, _, _⟩ := hW
  have hA : DataW.TrodAll enc Tryz.prog W 0 (fun _ => true) true Tryz.f3.params.toList args.toList ds p := hA0
  rw [Tryz.params3] at hA hval
  obtain ⟨v0, vs0, d0, ds0, p0, q0, hargs, rfl, rfl, h0, r0⟩ := trodAll_cons hA
  obtain ⟨v1, vs1, d1, ds1, p1, q1, rfl, rfl, rfl, h1, r1⟩ := trodAll_cons r0
  obtain ⟨v2, vs2, d2, ds2, p2, q2, rfl, rfl, rfl, h2, r2⟩ := trodAll_cons r1
  obtain ⟨v3, vs3, d3, ds3, p3, q3, rfl, rfl, rfl, h3, r3⟩ := trodAll_cons r2
  obtain ⟨v4, vs4, d4, ds4, p4, q4, rfl, rfl, rfl, h4, r4⟩ := trodAll_cons r3
  obtain ⟨rfl, rfl, rfl⟩ := trodAll_nil r4
  obtain rfl : args = #[v0, v1, v2, v3, v4] := by cases args; simp_all
  obtain ⟨rfl, rfl⟩ := trodVars_none hV
  obtain ⟨nm_0, cn_0, rd_0, kd_0, ev_0, tm_0, gr_0, rt_0, vr_0, rs_0, pn_0, o0_0, o1_0, o2_0, o3_0, ov_0, vl_0, lt_0, cp_0, rl_0, vh_0, hd_0, rfl, hp0, sr0, sl0, sh0, t0⟩ := L8.open_prod (hval 0 27 v0 rfl rfl) h0
  obtain ⟨l1, s1, n1, b1, t1⟩ := open_slc64 (hval 1 28 v1 rfl rfl) h1
  obtain ⟨a2, rfl, rfl, rfl, w2⟩ := open_int Tryz.underlying2 (hval 2 2 v2 rfl rfl) h2
  obtain ⟨a3, rfl, rfl, rfl, w3⟩ := open_int Tryz.underlying2 (hval 3 2 v3 rfl rfl) h3
  obtain ⟨a4, rfl, rfl, rfl⟩ := open_bool Tryz.underlying4 (hval 4 4 v4 rfl rfl) h4
  clear hA0 hval0
  simp only [List.append_nil] at hW'
  refine (walk ⟨nm_0, cn_0, rd_0, kd_0, ev_0, tm_0, gr_0, rt_0, rs_0, pn_0, o0_0, o1_0, o2_0, o3_0, ov_0, lt_0, cp_0, rl_0, hd_0⟩ vr_0 vl_0 vh_0 hp0 v1 l1 n1 b1 a2 w2 a3 w3 a4 W hE sr0 sl0 sh0 s1).mono fun e W' ⟨he, hb⟩ => ?_
  subst he
  exact ⟨_, rfl, _, _, _, [], _, [], hW', (trodAll_cons_mk (shut_bool Tryz.underlying4 _) trodAll_mk0), (trodAll_cons_mk (t0 _ hb) (trodAll_cons_mk (t1 _ hb) (trodAll_cons_mk (shut_int Tryz.underlying2 w2) (trodAll_cons_mk (shut_int Tryz.underlying2 w3) (trodAll_cons_mk (shut_bool Tryz.underlying4 _) trodAll_mk0))))), rfl, hb.below.frame _, fun h => by cases h⟩

theorem over : Rows.levelTellsRow.holds Tryz.pinned (OpenSpec.ofChange Rows.levelTellsSpec) :=
  OpenClaim.holds_of_wide 3 Tryz.f3 rfl rfl rfl rfl rfl rfl rfl ⟨rfl, rfl, rfl, rfl, rfl⟩ rfl rfl rfl rfl rfl (by kernel_rfl) Tryz.func3 (by kernel_rfl)
    (of_decide_eq_true (by kernel_rfl)) (by unfold Func.isWrapper; first | (rw [if_pos (by decide +kernel)]; kernel_rfl) | (rw [if_neg (by decide +kernel)]; exact ⟨rfl, rfl⟩))
    (fun os started H enc _ => lifted os started H enc)
end Go.Proofs.YtafjmpaefikdcaaGreatDoor.levelTells
namespace Go.Proofs.YtafjmpaefikdcaaGreatDoor
theorem levelTells_holds : Rows.LevelTellsCardSaid :=
  Claim7.holds_tied_plain_at .later [] [.data] true (true, "c543580e56454306eb4da1407b43ad38deb9efa0a72b2b654fb37b3034ccb81f") true levelTells.over (fun _ h => by cases h) (by kernel_rfl) (fun _ h => by cases h) levelTells_row_tie rfl ⟨rfl, rfl⟩ (by kernel_rfl) rfl
    (fun f fn hf hfn => by
      obtain rfl : f = 3 := Option.some.inj ((show Tryz.prog.funcNamed "quittance/quittancelaw13.LevelTells" = some 3 by kernel_rfl).symm.trans hf) |>.symm
      obtain rfl : fn = Tryz.f3 := (Option.some.inj (Tryz.func3.symm.trans hfn)).symm
      exact ⟨by kernel_rfl, fun j t ht => by
        rw [Tryz.params3] at ht
        have hm : t ∈ [27, 28, 2, 2, 4] := by simpa using Array.mem_of_getElem? ht
        have hall : ([27, 28, 2, 2, 4].all fun u => !Tryz.prog.wantsStandIn u) = true := by kernel_rfl
        exact (show Tryz.prog.wantsStandIn t = false by simpa using List.all_eq_true.1 hall t hm)⟩)
    (by kernel_rfl)
#print axioms levelTells_holds
end Go.Proofs.YtafjmpaefikdcaaGreatDoor
