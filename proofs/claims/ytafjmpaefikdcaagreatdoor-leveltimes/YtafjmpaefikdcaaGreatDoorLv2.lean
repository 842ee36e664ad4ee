
/- What may be lent, the search, Left and Of of package level, as contracts: no statement of the seat is proved here. -/
import Derived.Test.YtafjmpaefikdcaaGreatDoorLv1
namespace Go.Proofs.YtafjmpaefikdcaaGreatDoor
open Go.RowKit
open L12 (need_ok need_no Fac)
open L8 (Slc)
set_option linter.unusedVariables false

/-- What is wrong with what is asked, but for the product: 0, nothing; else 1. -/
def Okl (t : Int) (l : List Int) (a : Int) : Prop := (l.length : Int) = t ∧ (∀ n ∈ l, 0 ≤ n ∧ n ≤ 267180) ∧ 1 ≤ a ∧ a ≤ 10000000000000
theorem box_loan (x y z : Value) (W : World) : ∃ W' b, W.alloc (.cells #[x, y, z] 69) = W' ∧ W.heap.size = b ∧ Ext W W' ∧ W'.cell? ⟨b, 0, none⟩ = some x ∧ W'.cell? ⟨b, 1, none⟩ = some y ∧ W'.cell? ⟨b, 2, none⟩ = some z :=
  ⟨_, _, rfl, rfl, (Ext.refl W).alloc _ _, by simp [go_sem], by simp [go_sem], by simp [go_sem]⟩
set_option maxRecDepth 100000 in
set_option maxHeartbeats 2000000 in
theorem lent_bad (P : Nat) (p : Prd) (vr vl vh : Value) (vp : Value) (a : Int) (w : World) (hB : Blk w P (pcells p vr vl vh)) (hi : Inp w p vr vl vh) (hok : okP p = false) :
    Calls Tryz.prog 19 #[.pointer (some ⟨P, 0, none⟩), vp, .int .i64 a] w fun e w' => e = .panicked [{ v := .iface 33 (.int .i64 9), recovered := false }] ∧ Ext w w' := by
  have hsz : (pcells p vr vl vh).size = 19 := rfl
  replace hi := show Hid _ from hi
  go_enter Tryz.func19, Tryz.ntmps19
  go_wp2_with (refine load27 hB hsz rfl rfl rfl ?_)
  refine (Check_q p vr vl vh 9 (by rw [hok]; rfl) _ hi.out.h0 hi.out.h1 hi.out.h2 hi.out.h3 hi.out.sr hi.out.sl hi.out.sh).mono ?_
  rintro e w2 ⟨rfl, hx2⟩
  replace hx2 := show Hid _ from hx2
  clear hB hsz
  go_wp2_with fail
  refine (need_no _ _).mono ?_
  rintro e w3 ⟨rfl, rfl⟩
  go_wp2
  exact ⟨rfl, rfl, hx2.out⟩
set_option maxRecDepth 100000 in
set_option maxHeartbeats 2000000 in
theorem lent_len (P : Nat) (p : Prd) (vr vl vh : Value) (s : Option Addr) (T c : Nat) (a : Int) (w : World) (hB : Blk w P (pcells p vr vl vh)) (hi : Inp w p vr vl vh) (hok : okP p = true) (hT : ((T : Int) == p.tm) = false) :
    Calls Tryz.prog 19 #[.pointer (some ⟨P, 0, none⟩), .slice s T c, .int .i64 a] w fun e w' => e = .panicked [{ v := .iface 33 (.int .i64 1), recovered := false }] ∧ Ext w w' := by
  have hsz : (pcells p vr vl vh).size = 19 := rfl
  obtain ⟨tm, etm⟩ : ∃ t, p.tm = t := ⟨_, rfl⟩
  rw [etm] at hT
  have p5 := (cell_of_row w P 5 _ _ _ hB).trans (show _ = some (.int .i64 p.tm) from rfl)
  rw [etm] at p5
  replace etm := show Hid _ from etm
  replace hi := show Hid _ from hi
  go_enter Tryz.func19, Tryz.ntmps19
  go_wp2_with (refine load27 hB hsz rfl rfl rfl ?_)
  refine (Check_q p vr vl vh 0 (by rw [hok]; rfl) _ hi.out.h0 hi.out.h1 hi.out.h2 hi.out.h3 hi.out.sr hi.out.sl hi.out.sh).mono ?_
  rintro e w2 ⟨rfl, hx2⟩
  replace p5 := hx2.cell_of p5
  replace hx2 := show Hid _ from hx2
  clear hB hsz hi
  go_wp2_with fail
  refine (need_ok _ _).mono ?_
  rintro e w3 ⟨rfl, rfl⟩
  go_wp2_with fail
  refine (need_no _ _).mono ?_
  rintro e w3 ⟨rfl, rfl⟩
  go_wp2
  exact ⟨rfl, rfl, hx2.out⟩
/-- The loop over the parts: k of them may be; the next one may, or may not. -/
theorem parts_at {l : List Int} (h : ¬ ∀ n ∈ l, 0 ≤ n ∧ n ≤ 267180) : ∃ (k : Nat) (v : Int), l[k]? = some v ∧ ¬ (0 ≤ v ∧ v ≤ 267180) ∧ ∀ (j : Nat) (u : Int), j < k → l[j]? = some u → 0 ≤ u ∧ u ≤ 267180 := by
  induction l with
  | nil => exact absurd (by simp) h
  | cons n l ih =>
    by_cases c : 0 ≤ n ∧ n ≤ 267180
    · have : ¬ ∀ n ∈ l, 0 ≤ n ∧ n ≤ 267180 := fun k => h fun x hx => by
        rcases List.mem_cons.1 hx with rfl | hx
        · exact c
        · exact k x hx
      obtain ⟨k, v, h1, h2, h3⟩ := ih this
      refine ⟨k + 1, v, by simpa using h1, h2, fun j u hj hu => ?_⟩
      cases j with
      | zero => simp at hu; subst hu; exact c
      | succ j => exact h3 j u (by omega) (by simpa using hu)
    · exact ⟨0, n, by simp, c, fun j u hj => absurd hj (by omega)⟩
set_option maxRecDepth 100000 in
set_option maxHeartbeats 2000000 in
theorem lent_part (P : Nat) (p : Prd) (vr vl vh : Value) (b off T c : Nat) (l : List Int) (a : Int) (w : World) (hB : Blk w P (pcells p vr vl vh)) (hi : Inp w p vr vl vh) (hok : okP p = true) (hT : l.length = T) (hp : p.tm = (T : Int))
    (hc : ∀ (k : Nat) (x : Int), l[k]? = some x → w.cell? ⟨b, off + k, none⟩ = some (.int .i64 x)) (hl : ¬ ∀ n ∈ l, 0 ≤ n ∧ n ≤ 267180) :
    Calls Tryz.prog 19 #[.pointer (some ⟨P, 0, none⟩), .slice (some ⟨b, off, none⟩) T c, .int .i64 a] w fun e w' => e = .panicked [{ v := .iface 33 (.int .i64 1), recovered := false }] ∧ Ext w w' := by
  obtain ⟨K, v, hK, hv, hlt⟩ := parts_at hl
  have hKT : K < T := by have := (List.getElem?_eq_some_iff.1 hK).1; omega
  have T2 : T ≤ 600 := by have := (tm_T hok).1; have := (tm_T hok).2.2; omega
  have hsz : (pcells p vr vl vh).size = 19 := rfl
  have p5 := (cell_of_row w P 5 _ _ _ hB).trans (show _ = some (.int .i64 p.tm) from rfl)
  rw [hp] at p5
  replace hp := show Hid _ from hp
  replace hi := show Hid _ from hi
  replace hT := show Hid _ from hT
  replace hc := show Hid _ from hc
  replace hK := show Hid _ from hK
  replace hv := show Hid _ from hv
  replace hlt := show Hid _ from hlt
  clear hl
  go_enter Tryz.func19, Tryz.ntmps19
  go_wp2_with (refine load27 hB hsz rfl rfl rfl ?_)
  refine (Check_q p vr vl vh 0 (by rw [hok]; rfl) _ hi.out.h0 hi.out.h1 hi.out.h2 hi.out.h3 hi.out.sr hi.out.sl hi.out.sh).mono ?_
  rintro e w2 ⟨rfl, hx2⟩
  replace p5 := hx2.cell_of p5
  replace hc : Hid (∀ (k : Nat) (x : Int), l[k]? = some x → w2.cell? ⟨b, off + k, none⟩ = some (.int .i64 x)) := fun k x h => hx2.cell_of (hc.out k x h)
  replace hx2 := show Hid _ from hx2
  clear hB hsz hi hok
  go_wp2_with fail
  refine (need_ok _ _).mono ?_
  rintro e w3 ⟨rfl, rfl⟩
  go_wp2_with fail
  refine (need_ok _ _).mono ?_
  rintro e w3 ⟨rfl, rfl⟩
  go_wp2_with fail
  go_loop [28] (fun i => ∃ k : Nat, k ≤ K ∧ i = .int .i64 k) (fun i => T - (RowKit.intOf i).toNat)
  case atStart => exact ⟨0, Nat.zero_le _, rfl⟩
  case round =>
    obtain ⟨k, hk, rfl⟩ := hrel
    have hlt' : (k : Int) < (T : Int) := by omega
    by_cases hkK : k < K
    · obtain ⟨u, hu⟩ : ∃ u, l[k]? = some u := ⟨_, List.getElem?_eq_getElem (by have := hT.out; omega)⟩
      have q := hlt.out k u hkK hu
      have cu := hc.out k u hu
      have hd : decide (0 ≤ u ∧ u ≤ 267180) = true := decide_eq_true q
      clear hu q
      go_wp2_with fail
      refine (lupTo_c _ _ _).mono ?_
      rintro e w4 ⟨rfl, rfl⟩
      rw [hd]
      go_wp2_with fail
      refine (need_ok _ _).mono ?_
      rintro e w4 ⟨rfl, rfl⟩
      go_wp2
      go_round
      case rel => exact ⟨k + 1, by omega, by go_num⟩
      case measure => simp [RowKit.intOf]; omega
    · obtain rfl : k = K := by omega
      have cu := hc.out k v hK.out
      have hd : decide (0 ≤ v ∧ v ≤ 267180) = false := decide_eq_false hv.out
      go_wp2_with fail
      refine (lupTo_c _ _ _).mono ?_
      rintro e w4 ⟨rfl, rfl⟩
      rw [hd]
      go_wp2_with fail
      refine (need_no _ _).mono ?_
      rintro e w4 ⟨rfl, rfl⟩
      go_wp2
      exact ⟨rfl, rfl, hx2.out⟩
set_option maxRecDepth 100000 in
set_option maxHeartbeats 2000000 in
theorem lent_fin (P : Nat) (p : Prd) (vr vl vh : Value) (b off T c : Nat) (l : List Int) (a : Int) (w : World) (hB : Blk w P (pcells p vr vl vh)) (hi : Inp w p vr vl vh) (hok : okP p = true) (hT : l.length = T) (hp : p.tm = (T : Int))
    (hc : ∀ (k : Nat) (x : Int), l[k]? = some x → w.cell? ⟨b, off + k, none⟩ = some (.int .i64 x)) (hl : ∀ n ∈ l, 0 ≤ n ∧ n ≤ 267180) (R : Ending → World → Prop)
    (hR : Hid (∀ w1, Ext w w1 → (1 ≤ a ∧ a ≤ 10000000000000 → ∀ W L, Ext w1 W → Lon W L P p vr vl vh (.slice (some ⟨b, off, none⟩) T c) a → R (.returned (.pointer (some ⟨L, 0, none⟩))) W) ∧ (¬ (1 ≤ a ∧ a ≤ 10000000000000) → R (.panicked [{ v := .iface 33 (.int .i64 1), recovered := false }]) w1))) :
    Calls Tryz.prog 19 #[.pointer (some ⟨P, 0, none⟩), .slice (some ⟨b, off, none⟩) T c, .int .i64 a] w R := by
  have T2 : T ≤ 600 := by have := (tm_T hok).1; have := (tm_T hok).2.2; omega
  have hsz : (pcells p vr vl vh).size = 19 := rfl
  have p5 := (cell_of_row w P 5 _ _ _ hB).trans (show _ = some (.int .i64 p.tm) from rfl)
  rw [hp] at p5
  have hB' : Hid (Blk w P (pcells p vr vl vh)) := hB
  replace hp := show Hid _ from hp
  replace hi := show Hid _ from hi
  replace hT := show Hid _ from hT
  replace hc := show Hid _ from hc
  replace hl := show Hid _ from hl
  go_enter Tryz.func19, Tryz.ntmps19
  go_wp2_with (refine load27 hB hsz rfl rfl rfl ?_)
  refine (Check_q p vr vl vh 0 (by rw [hok]; rfl) _ hi.out.h0 hi.out.h1 hi.out.h2 hi.out.h3 hi.out.sr hi.out.sl hi.out.sh).mono ?_
  rintro e w2 ⟨rfl, hx2⟩
  replace p5 := hx2.cell_of p5
  replace hc : Hid (∀ (k : Nat) (x : Int), l[k]? = some x → w2.cell? ⟨b, off + k, none⟩ = some (.int .i64 x)) := fun k x h => hx2.cell_of (hc.out k x h)
  replace hB' : Hid (Blk w2 P (pcells p vr vl vh)) := hB'.out.ext hx2
  replace hx2 := show Hid _ from hx2
  clear hB hsz hi hok
  go_wp2_with fail
  refine (need_ok _ _).mono ?_
  rintro e w3 ⟨rfl, rfl⟩
  go_wp2_with fail
  refine (need_ok _ _).mono ?_
  rintro e w3 ⟨rfl, rfl⟩
  go_wp2_with fail
  go_loop [28] (fun i => ∃ k : Nat, k ≤ T ∧ i = .int .i64 k) (fun i => T - (RowKit.intOf i).toNat)
  case atStart => exact ⟨0, Nat.zero_le _, rfl⟩
  case round =>
    obtain ⟨k, hk, rfl⟩ := hrel
    by_cases hkK : k < T
    · have hlt' : (k : Int) < (T : Int) := by omega
      obtain ⟨u, hu⟩ : ∃ u, l[k]? = some u := ⟨_, List.getElem?_eq_getElem (by have := hT.out; omega)⟩
      have q := hl.out u (List.mem_of_getElem? hu)
      have cu := hc.out k u hu
      have hd : decide (0 ≤ u ∧ u ≤ 267180) = true := decide_eq_true q
      clear hu q
      go_wp2_with fail
      refine (lupTo_c _ _ _).mono ?_
      rintro e w4 ⟨rfl, rfl⟩
      rw [hd]
      go_wp2_with fail
      refine (need_ok _ _).mono ?_
      rintro e w4 ⟨rfl, rfl⟩
      go_wp2
      go_round
      case rel => exact ⟨k + 1, by omega, by go_num⟩
      case measure => simp [RowKit.intOf]; omega
    · obtain rfl : k = T := by omega
      by_cases c1 : 0 < a
      · by_cases c2 : a ≤ 10000000000000
        · go_wp2_with fail
          refine (need_ok _ _).mono ?_
          rintro e w4 ⟨rfl, rfl⟩
          obtain ⟨W, L, hW, hL, hx4, l0, l1, l2⟩ := box_loan (.pointer (some ⟨P, 0, none⟩)) (.slice (some ⟨b, off, none⟩) k c) (.int .i64 a) w4
          have hLon : Lon W L P p vr vl vh (.slice (some ⟨b, off, none⟩) k c) a := ⟨l0, l1, l2, hB'.out.ext hx4⟩
          replace hR := show Hid _ from (hR.out _ hx2.out).1 ⟨by omega, c2⟩ W L hx4 hLon
          clear l0 l1 l2 hx4 hLon
          go_wp2
          exact hR.out
        · go_wp2_with fail
          refine (need_no _ _).mono ?_
          rintro e w4 ⟨rfl, rfl⟩
          go_wp2
          exact ⟨rfl, (hR.out _ hx2.out).2 (by omega)⟩
      · go_wp2_with fail
        refine (need_no _ _).mono ?_
        rintro e w4 ⟨rfl, rfl⟩
        go_wp2
        exact ⟨rfl, (hR.out _ hx2.out).2 (by omega)⟩
end Go.Proofs.YtafjmpaefikdcaaGreatDoor
