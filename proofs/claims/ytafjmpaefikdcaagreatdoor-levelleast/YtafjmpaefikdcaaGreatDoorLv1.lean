
/- The walk of an instalment (the method left of package level's loan), as a contract: no statement of the seat is proved here. -/
import Derived.Test.YtafjmpaefikdcaaGreatDoorLf
import Derived.Test.YtafjmpaefikdcaaGreatDoorLv0
import Derived.Test.YtafjmpaefikdcaaGreatDoorDu3
import Derived.Deep.RegionHeld3
namespace Go.Proofs.YtafjmpaefikdcaaGreatDoor
open Go.RowKit
open L12 (Brr Rst bq br Ask Born)
open L8 (Slc)
set_option linter.unusedVariables false

/-- A loan in its block: the product's block, the parts, the amount. -/
structure Lon (w : World) (L P : Nat) (p : Prd) (vr vl vh vp : Value) (a : Int) : Prop where
  l0 : w.cell? ⟨L, 0, none⟩ = some (.pointer (some ⟨P, 0, none⟩))
  l1 : w.cell? ⟨L, 1, none⟩ = some vp
  l2 : w.cell? ⟨L, 2, none⟩ = some (.int .i64 a)
  blk : Blk w P (pcells p vr vl vh)
theorem Lon.ext {w w' : World} {L P : Nat} {p : Prd} {vr vl vh vp : Value} {a : Int} (h : Lon w L P p vr vl vh vp a) (hx : Ext w w') : Lon w' L P p vr vl vh vp a :=
  ⟨hx.cell_of h.l0, hx.cell_of h.l1, hx.cell_of h.l2, h.blk.ext hx⟩
/-- A year's whole, by the count. -/
def whl (cn : Int) : Int := 1000000000 * L12.ptA cn
theorem whl_bd {c : Int} (h1 : 1 ≤ c) (h2 : c ≤ 3) : 0 < whl c ∧ whl c ≤ 200000000000000 := by
  unfold whl
  rcases L12.pt_bd h1 h2 with h | h | h <;> omega
theorem wk_cons (m W rt x g n : Int) (l : List Int) (k : Nat) (B R : Int) : wk m W rt x g (n :: l) k B R =
    if bq m W R (B * (rt * n)) ≤ 1000000000000000 then
      if (k : Int) < g then wk m W rt x g l (k + 1) B (br m W R (B * (rt * n)))
      else if B + bq m W R (B * (rt * n)) - x ≤ 0 then B + bq m W R (B * (rt * n)) - x
      else if B + bq m W R (B * (rt * n)) - x ≤ 1000000000000000 then wk m W rt x g l (k + 1) (B + bq m W R (B * (rt * n)) - x) (br m W R (B * (rt * n)))
      else 1000000000000001
    else 1000000000000001 := rfl
set_option maxRecDepth 100000 in
set_option maxHeartbeats 2000000 in
theorem left_c (L P : Nat) (p : Prd) (vr vl vh : Value) (b off c T : Nat) (l : List Int) (a x m W rt g V : Int) (w : World) (hL : Lon w L P p vr vl vh (.slice (some ⟨b, off, none⟩) T c) a) (hT : l.length = T) (T2 : T ≤ 600)
    (hc : ∀ (k : Nat) (x : Int), l[k]? = some x → w.cell? ⟨b, off + k, none⟩ = some (.int .i64 x)) (hl : ∀ n ∈ l, 0 ≤ n ∧ n ≤ 267180) (c1 : 1 ≤ p.cn) (c2 : p.cn ≤ 3) (hm : m = 1 ∨ m = 3) (em : p.rd = m) (eW : whl p.cn = W) (er : p.rt = rt) (r0 : 0 ≤ rt) (r1 : rt ≤ 1000000000) (eg : p.gr = g) (g0 : 0 ≤ g) (g1 : g ≤ 600)
    (a1 : 1 ≤ a) (a2 : a ≤ 10000000000000) (x0 : 0 ≤ x) (x1 : x ≤ 1000000000000000) (hV : wk m W rt x g l 0 a 0 = V) :
    Calls Tryz.prog 22 #[.pointer (some ⟨L, 0, none⟩), .int .i64 x] w fun e w' => e = .returned (.int .i64 V) ∧ Ext w w' := by
  obtain ⟨hW, hW2⟩ := whl_bd c1 c2
  rw [eW] at hW hW2
  obtain ⟨cn, ecn⟩ : ∃ cn, p.cn = cn := ⟨_, rfl⟩
  have hN : Hid (∀ w : World, Calls Tryz.prog 40 #[.int .i64 cn, .int .i64 m] w fun e w' => ∃ B, e = .returned (.tuple #[.pointer (some ⟨B, 0, none⟩), .int .i64 0]) ∧ Born w w' B m W 0) := fun w => by
    have := L12.New_ok cn m w (by omega) (by omega) hm
    have e : 1000000000 * L12.ptA cn = W := by rw [← eW, ← ecn]; rfl
    rwa [e] at this
  have hB := hL.blk
  have p1 := (cell_of_row w P 1 _ _ _ hB).trans (show _ = some (.int .i64 p.cn) from rfl)
  have p2 := (cell_of_row w P 2 _ _ _ hB).trans (show _ = some (.int .i64 p.rd) from rfl)
  have p6 := (cell_of_row w P 6 _ _ _ hB).trans (show _ = some (.int .i64 p.gr) from rfl)
  have p7 := (cell_of_row w P 7 _ _ _ hB).trans (show _ = some (.int .i64 p.rt) from rfl)
  rw [ecn] at p1
  rw [em] at p2
  rw [eg] at p6
  rw [er] at p7
  have l0 := hL.l0; have l1 := hL.l1; have l2 := hL.l2
  have hz : Rst m W 0 := L12.rst_zero hm hW
  have o0 := show Hid _ from l0
  have o1 := show Hid _ from l1
  have q6 := show Hid _ from p6
  have q7 := show Hid _ from p7
  clear hL hB em eW er eg ecn c1 c2
  replace hT := show Hid _ from hT
  replace hc := show Hid _ from hc
  replace hl := show Hid _ from hl
  replace hm := show Hid _ from hm
  replace hz : Hid (Rst m W 0) := hz
  replace hV := show Hid _ from hV
  go_enter Tryz.func22, Tryz.ntmps22
  go_wp2_with fail
  go_region_held3 (fun W => W.cell? ⟨L, 0, none⟩ = some (.pointer (some ⟨P, 0, none⟩)) ∧ W.cell? ⟨P, 1, none⟩ = some (.int .i64 cn) ∧ W.cell? ⟨P, 2, none⟩ = some (.int .i64 m)) (exact ⟨l0, p1, p2⟩) ((first
    | (go_at_call 40; refine (hN.out _).mono ?_; rintro e w1 ⟨B, rfl, hb⟩; have hx : Hid (Ext w w1) := (Ext.refl w).drew.trans hb.ext; have hlo : w.heap.size ≤ B := Nat.le_trans (Ext.refl w).drew.size hb.lo; have hBr : Hid (Brr w1 B m W 0) := hb.brr; replace l0 := hx.out.cell_of l0; replace l1 := hx.out.cell_of l1; replace l2 := hx.out.cell_of l2; replace p1 := hx.out.cell_of p1; replace p2 := hx.out.cell_of p2; replace p6 := hx.out.cell_of p6; replace p7 := hx.out.cell_of p7; clear hb)
    | (go_at_call 39; refine (sureB_ok _ _).mono ?_; rintro e w2 ⟨rfl, rfl⟩)))
  go_wp2_with fail
  go_loopw [6, 38] (fun u i wr => ∃ (k : Nat) (X R : Int), k ≤ T ∧ i = .int .i64 k ∧ u = .int .i64 X ∧ 1 ≤ X ∧ X ≤ 1000000000000000 ∧ Hid (Rst m W R) ∧ Hid (Brr wr B m W R) ∧ Hid (wk m W rt x g (l.drop k) k X R = V) ∧ Hid (Ext w wr)) (fun _ i _ => T - (RowKit.intOf i).toNat)
  case atStart => exact ⟨0, a, 0, Nat.zero_le _, rfl, rfl, a1, by omega, hz, hBr, hV, hx⟩
  case round =>
    obtain ⟨k, X, R, hk, rfl, rfl, X1, X2, hR, hBr, hV, hx⟩ := hrel
    clear hz
    by_cases hlt : k < T
    · have hlt' : (k : Int) < (T : Int) := by omega
      obtain ⟨n, hn⟩ : ∃ n, l[k]? = some n := ⟨_, List.getElem?_eq_getElem (by have := hT.out; omega)⟩
      have kc := hx.out.cell_of (hc.out k n hn)
      obtain ⟨n0, n1⟩ := hl.out n (List.mem_of_getElem? hn)
      have hVk := hV.out
      rw [L5.drop_at hn, wk_cons] at hVk
      clear hn hV
      replace l0 := hx.out.cell_of o0.out
      replace p6 := hx.out.cell_of q6.out
      replace p7 := hx.out.cell_of q7.out
      clear l1 l2 p1 p2
      by_cases hq : bq m W R (X * (rt * n)) ≤ 1000000000000000
      · rw [if_pos hq] at hVk
        have v0 := L12.bq_nn hR.out hW (L12.mul3_nn (show 0 ≤ X by omega) r0 n0)
        have hRst := L12.br_rst (E := X * (rt * n)) hR.out hW
        obtain ⟨v, hv⟩ : ∃ v, bq m W R (X * (rt * n)) = v := ⟨_, rfl⟩
        obtain ⟨S, hS⟩ : ∃ S, br m W R (X * (rt * n)) = S := ⟨_, rfl⟩
        rw [hv, hS] at hVk
        rw [hv] at hq v0
        rw [hS] at hRst
        replace hRst : Hid (Rst m W S) := hRst
        replace hVk := show Hid _ from hVk
        have hBe : Hid (∀ w, Brr w B m W R → Calls Tryz.prog 41 #[.pointer (some ⟨B, 0, none⟩), .int .i64 X, .int .i64 rt, .int .i64 n] w fun e w' => e = .returned (.tuple #[.int .i64 v, .int .i64 0]) ∧ Ext (w.setCell ⟨B, 2, none⟩ (.int .i64 S)) w') := fun w hB => L12.Bear_v B m W R X rt n v S hR.out hW hW2 ⟨⟨by omega, X2⟩, ⟨r0, r1⟩, ⟨n0, by omega⟩⟩ hv hS hq w hB
        clear hv hS hR
        go_wp2_with fail
        refine (hBe.out _ hBr.out).mono ?_
        rintro e w3 ⟨rfl, hx3⟩
        have hBr3 : Hid (Brr w3 B m W S) := hBr.out.wrote hx3
        replace hx : Hid (Ext w w3) := hx.out.wrote hlo hx3
        clear hx3 hBr l0 p6 p7 kc hBe
        have l0 := hx.out.cell_of o0.out
        have p6 := hx.out.cell_of q6.out
        by_cases hk2 : (k : Int) < g
        · have hVk := hVk.out
          rw [if_pos hk2] at hVk
          go_wp2
          go_roundw
          case rel => exact ⟨k + 1, X, S, by omega, by go_num, rfl, X1, X2, hRst, hBr3, hVk, hx⟩
          case measure => simp [RowKit.intOf]; omega
        · have hVk := hVk.out
          rw [if_neg hk2] at hVk
          obtain ⟨Y, hY⟩ : ∃ Y, X + (v - x) = Y := ⟨_, rfl⟩
          rw [show X + v - x = Y by omega] at hVk
          by_cases h1 : Y ≤ 0
          · rw [if_pos h1] at hVk
            subst hVk
            go_wp2
            go_ret
            exact ⟨rfl, hx.out⟩
          · rw [if_neg h1] at hVk
            by_cases h2 : Y ≤ 1000000000000000
            · rw [if_pos h2] at hVk
              go_wp2
              go_roundw
              case rel => exact ⟨k + 1, Y, S, by omega, by go_num, by go_num, by omega, h2, hRst, hBr3, hVk, hx⟩
              case measure => simp [RowKit.intOf]; omega
            · rw [if_neg h2] at hVk
              subst hVk
              go_wp2
              · go_ret
                exact ⟨rfl, hx.out⟩
              · have e : Y = 1000000000000001 := by omega
                subst e
                go_ret
                exact ⟨rfl, hx.out⟩
      · rw [if_neg hq] at hVk
        have hBe : Hid (∀ w, Brr w B m W R → Calls Tryz.prog 41 #[.pointer (some ⟨B, 0, none⟩), .int .i64 X, .int .i64 rt, .int .i64 n] w fun e w' => e = .returned (.tuple #[.int .i64 0, .int .i64 3]) ∧ Ext w w') := fun w hB => L12.Bear_range B m W R X rt n w hB hR.out hW hW2 ⟨⟨by omega, X2⟩, ⟨r0, r1⟩, ⟨n0, by omega⟩⟩ hq
        clear hq hR
        subst hVk
        go_wp2_with fail
        refine (hBe.out _ hBr.out).mono ?_
        rintro e w3 ⟨rfl, hx3⟩
        replace hx : Hid (Ext w w3) := hx.out.trans hx3
        clear hx3 hBr l0 p6 p7 kc hBe
        go_wp2
        go_ret
        exact ⟨rfl, hx.out⟩
    · obtain rfl : k = T := by omega
      have hVk := hV.out
      rw [List.drop_eq_nil_of_le (by have := hT.out; omega)] at hVk
      obtain rfl : X = V := hVk
      go_wp2
      go_ret
      exact ⟨rfl, hx.out⟩
end Go.Proofs.YtafjmpaefikdcaaGreatDoor
