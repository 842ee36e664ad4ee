
/- The document's walk of layer 13, as a contract: no statement of the seat is proved here. -/
import Derived.Test.YtafjmpaefikdcaaGreatDoorLv3
namespace Go.Proofs.YtafjmpaefikdcaaGreatDoor
open Go.RowKit
open L12 (Rbr Rst bq br Ask)
open L8 (Slc)
set_option linter.unusedVariables false

set_option maxRecDepth 100000 in
set_option maxHeartbeats 1000000 in
theorem walk_c (p : Prd) (vr vl vh : Value) (sa : Option Addr) (T c : Nat) (l : List Int) (a x m W rt g V : Int) (w : World) (hi : Inp w p vr vl vh) (hs : Sll w sa T l) (T2 : T ≤ 600)
    (hl : ∀ n ∈ l, 0 ≤ n ∧ n ≤ 267180) (c1 : 1 ≤ p.cn) (c2 : p.cn ≤ 3) (hm : m = 1 ∨ m = 3) (em : p.rd = m) (eW : whl p.cn = W) (er : p.rt = rt) (r0 : 0 ≤ rt) (r1 : rt ≤ 1000000000) (eg : p.gr = g) (g0 : 0 ≤ g) (g1 : g ≤ 600)
    (a1 : 1 ≤ a) (a2 : a ≤ 10000000000000) (x0 : 0 ≤ x) (x1 : x ≤ 1000000000000000) (hV : wk m W rt x g l 0 a 0 = V) :
    Calls Tryz.prog 24 #[.agg (pcells p vr vl vh), .slice sa T c, .int .i64 a, .int .i64 x] w fun e w' => e = .returned (.int .i64 V) ∧ Ext w w' := by
  obtain ⟨hW, hW2⟩ := whl_bd c1 c2
  have hPt : 0 < L12.ptA p.cn ∧ L12.ptA p.cn ≤ 133590 := by rcases L12.pt_bd c1 c2 with h | h | h <;> omega
  rw [eW] at hW hW2
  obtain ⟨Y, eY⟩ : ∃ Y, L12.ptA p.cn = Y := ⟨_, rfl⟩
  rw [eY] at hPt
  obtain ⟨Y0, Y1⟩ := hPt
  have eWY : W = 1000000000 * Y := by rw [← eW, ← eY]; rfl
  obtain ⟨cn, ecn⟩ : ∃ cn, p.cn = cn := ⟨_, rfl⟩
  have eY2 : L12.ptA cn = Y := by rw [← ecn]; exact eY
  have hN : Hid (∀ w : World, Calls Tryz.prog 42 #[.int .i64 cn, .int .i64 m] w fun e w' => ∃ C, e = .returned (.tuple #[.pointer (some ⟨C, 0, none⟩), .int .i64 0]) ∧ Rbr w' C Y (decide (m = 1)) 0 ∧ w.heap.size ≤ C ∧ Ext w w') := fun w => by
    have := L12.rNew_ok cn m w (by omega) (by omega) hm
    rwa [eY2] at this
  have hone := hi.one
  have hbox := box_prod p vr vl vh hone
  obtain ⟨W1, P, hW1, hb, hx1, hB⟩ : ∃ W b, w.alloc (.cells (pcells p vr vl vh) 27) = W ∧ w.heap.size = b ∧ Ext w W ∧ Blk W b (pcells p vr vl vh) := ⟨_, _, rfl, rfl, (Ext.refl w).alloc _ _, heap_alloc_last w _⟩
  replace hs : Hid (Sll w sa T l) := hs
  replace hx1 := show Hid _ from hx1
  have p1 := (cell_of_row W1 P 1 _ _ _ hB).trans (show _ = some (.int .i64 p.cn) from rfl)
  have p2 := (cell_of_row W1 P 2 _ _ _ hB).trans (show _ = some (.int .i64 p.rd) from rfl)
  have p6 := (cell_of_row W1 P 6 _ _ _ hB).trans (show _ = some (.int .i64 p.gr) from rfl)
  have p7 := (cell_of_row W1 P 7 _ _ _ hB).trans (show _ = some (.int .i64 p.rt) from rfl)
  rw [ecn] at p1
  rw [em] at p2
  rw [eg] at p6
  rw [er] at p7
  have hz : Rst m W 0 := L12.rst_zero hm hW
  have q6 := show Hid _ from p6
  have q7 := show Hid _ from p7
  clear hB em eW er eg c1 c2 eY eY2 ecn hi
  replace hl := show Hid _ from hl
  replace hm := show Hid _ from hm
  replace hz : Hid (Rst m W 0) := hz
  replace hV := show Hid _ from hV
  replace eWY := show Hid _ from eWY
  go_enter Tryz.func24, Tryz.ntmps24
  go_wp2_with fail
  refine (hN.out _).mono ?_
  rintro e w2 ⟨C, rfl, hC, hlo0, hx2⟩
  have hx : Hid (Ext w w2) := hx1.out.trans hx2
  have hxB : Hid (Ext W1 w2) := hx2
  have hlo : w.heap.size ≤ C := Nat.le_trans hx1.out.size hlo0
  have hloB : Hid (W1.heap.size ≤ C) := hlo0
  replace hC := show Hid _ from hC
  clear hx2 hlo0 hx1 hbox hW1 hb p1 p2 hone
  go_wp2_with fail
  go_loopw [11, 12] (fun u i wr => ∃ (k : Nat) (X R : Int), k ≤ T ∧ i = .int .i64 k ∧ u = .int .i64 X ∧ 1 ≤ X ∧ X ≤ 1000000000000000 ∧ Hid (Rst m W R) ∧ Hid (Rbr wr C Y (decide (m = 1)) R) ∧ Hid (wk m W rt x g (l.drop k) k X R = V) ∧ Hid (Ext W1 wr) ∧ Hid (Ext w wr)) (fun _ i _ => T - (RowKit.intOf i).toNat)
  case atStart => exact ⟨0, a, 0, Nat.zero_le _, rfl, rfl, a1, by omega, hz, hC, hV, hxB, hx⟩
  case round =>
    obtain ⟨k, X, R, hk, rfl, rfl, X1, X2, hR, hC, hV, hxB, hx⟩ := hrel
    clear hz
    by_cases hlt : k < T
    · have hlt' : (k : Int) < (T : Int) := by omega
      obtain ⟨n, hn⟩ : ∃ n, l[k]? = some n := ⟨_, List.getElem?_eq_getElem (by have := hs.out.len; omega)⟩
      obtain ⟨b, off, rfl, kc0⟩ := hs.out.at_ k n hn
      have kc := hx.out.cell_of kc0
      replace kc0 := show Hid _ from kc0
      obtain ⟨n0, n1⟩ := hl.out n (List.mem_of_getElem? hn)
      have hVk := hV.out
      rw [L5.drop_at hn, wk_cons] at hVk
      clear hn hV p6 p7
      have p7 := hxB.out.cell_of q7.out
      by_cases hq : bq m W R (X * (rt * n)) ≤ 1000000000000000
      · rw [if_pos hq] at hVk
        have v0 := L12.bq_nn hR.out hW (L12.mul3_nn (show 0 ≤ X by omega) r0 n0)
        have hRst := L12.br_rst (E := X * (rt * n)) hR.out hW
        have hcall : ∀ w, Rbr w C Y (decide (m = 1)) R → Calls Tryz.prog 43 #[.pointer (some ⟨C, 0, none⟩), .int .i64 X, .int .i64 rt, .int .i64 n] w fun e w' => e = .returned (.tuple #[.int .i64 (bq m W R (X * (rt * n))), .int .i64 0]) ∧ Ext (w.setCell ⟨C, 2, none⟩ (.int .i64 (br m W R (X * (rt * n))))) w' := fun w hC => by
          have hR' := hR.out
          have hq' := hq
          rw [eWY.out] at hR' hq' ⊢
          exact (L12.rBear_c C Y R X rt n m w hC hR' Y0 Y1 ⟨⟨by omega, X2⟩, ⟨r0, r1⟩, ⟨n0, by omega⟩⟩).mono fun e w' h => h.1 hq'
        obtain ⟨v, hv⟩ : ∃ v, bq m W R (X * (rt * n)) = v := ⟨_, rfl⟩
        obtain ⟨S, hS⟩ : ∃ S, br m W R (X * (rt * n)) = S := ⟨_, rfl⟩
        rw [hv, hS] at hVk hcall
        rw [hv] at hq v0
        rw [hS] at hRst
        replace hRst : Hid (Rst m W S) := hRst
        replace hVk := show Hid _ from hVk
        replace hcall := show Hid _ from hcall
        clear hv hS hR
        go_wp2_with fail
        go_region_held3 (fun W => W.cell? ⟨P, 7, none⟩ = some (.int .i64 rt) ∧ W.cell? ⟨b, off + k, none⟩ = some (.int .i64 n)) (exact ⟨p7, kc⟩) ((go_at_call 43; refine (hcall.out _ (hC.out.ext (Ext.refl wr).drew)).mono ?_; rintro e w3 ⟨rfl, hx3⟩; have hxd : Ext w wr.drew := hx.out.trans (Ext.refl wr).drew; have hxe : Ext W1 wr.drew := hxB.out.trans (Ext.refl wr).drew; replace hx : Hid (Ext w w3) := hxd.wrote hlo hx3; replace hxB : Hid (Ext W1 w3) := hxe.wrote hloB.out hx3; have hC3 : Hid (Rbr w3 C Y (decide (m = 1)) S) := (hC.out.ext (Ext.refl wr).drew).wrote hx3; replace p7 := hxB.out.cell_of q7.out; replace kc := hx.out.cell_of kc0.out))
        clear hx3 hxd hxe p7 kc
        have p6 := hxB.out.cell_of q6.out
        by_cases hk2 : (k : Int) < g
        · have hVk := hVk.out
          rw [if_pos hk2] at hVk
          go_wp2
          go_roundw
          case rel => exact ⟨k + 1, X, S, by omega, by go_num, rfl, X1, X2, hRst, hC3, hVk, hxB, hx⟩
          case measure => simp [RowKit.intOf]; omega
        · have hVk := hVk.out
          rw [if_neg hk2] at hVk
          obtain ⟨Z, hZ⟩ : ∃ Z, X + v - x = Z := ⟨_, rfl⟩
          rw [hZ] at hVk
          by_cases h1 : Z ≤ 0
          · rw [if_pos h1] at hVk
            subst hVk
            go_wp2
            go_ret
            exact ⟨rfl, hx.out⟩
          · rw [if_neg h1] at hVk
            by_cases h2 : Z ≤ 1000000000000000
            · rw [if_pos h2] at hVk
              go_wp2
              go_roundw
              case rel => exact ⟨k + 1, Z, S, by omega, by go_num, by go_num, by omega, h2, hRst, hC3, hVk, hxB, hx⟩
              case measure => simp [RowKit.intOf]; omega
            · rw [if_neg h2] at hVk
              subst hVk
              go_wp2
              go_ret
              exact ⟨rfl, hx.out⟩
      · rw [if_neg hq] at hVk
        have hcall : ∀ w, Rbr w C Y (decide (m = 1)) R → Calls Tryz.prog 43 #[.pointer (some ⟨C, 0, none⟩), .int .i64 X, .int .i64 rt, .int .i64 n] w fun e w' => e = .returned (.tuple #[.int .i64 0, .int .i64 3]) ∧ Ext w w' := fun w hC => by
          have hR' := hR.out
          have hq' := hq
          rw [eWY.out] at hR' hq'
          exact (L12.rBear_c C Y R X rt n m w hC hR' Y0 Y1 ⟨⟨by omega, X2⟩, ⟨r0, r1⟩, ⟨n0, by omega⟩⟩).mono fun e w' h => h.2 hq'
        replace hcall := show Hid _ from hcall
        clear hq hR
        subst hVk
        go_wp2_with fail
        go_region_held3 (fun W => W.cell? ⟨P, 7, none⟩ = some (.int .i64 rt) ∧ W.cell? ⟨b, off + k, none⟩ = some (.int .i64 n)) (exact ⟨p7, kc⟩) ((go_at_call 43; refine (hcall.out _ (hC.out.ext (Ext.refl wr).drew)).mono ?_; rintro e w3 ⟨rfl, hx3⟩; have hxd : Ext w wr.drew := hx.out.trans (Ext.refl wr).drew; have hxe : Ext W1 wr.drew := hxB.out.trans (Ext.refl wr).drew; replace hx : Hid (Ext w w3) := hxd.trans hx3; replace hxB : Hid (Ext W1 w3) := hxe.trans hx3; replace p7 := hxB.out.cell_of q7.out; replace kc := hx.out.cell_of kc0.out))
        go_wp2
        go_ret
        exact ⟨rfl, hx.out⟩
    · obtain rfl : k = T := by omega
      have hVk := hV.out
      rw [List.drop_eq_nil_of_le (by have := hs.out.len; omega)] at hVk
      obtain rfl : X = V := hVk
      go_wp2
      go_ret
      exact ⟨rfl, hx.out⟩
end Go.Proofs.YtafjmpaefikdcaaGreatDoor
