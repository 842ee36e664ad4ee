/- The document's own TakeRate of layer 2, as a contract: no statement of the seat is proved here. -/
import Derived.Test.YtpmgbagnaaahoabDoorRef5
namespace Go.Proofs.YtpmgbagnaaahoabDoor
open Go.RowKit Go.Lib
set_option linter.unusedVariables false

theorem run_step {n k : Nat} {l : List UInt8} {c : UInt8} {V d V' d' : Nat} {p p' : Int} {R : Option (Nat × Nat × Int)} (hc : l[k]? = some c) (hs : stepR n k c V d p = some (V', d', p'))
    (h : runR n k (l.drop k) V d p = R) : runR n (k + 1) (l.drop (k + 1)) V' d' p' = R := by
  have hd : l.drop k = c :: l.drop (k + 1) := by
    obtain ⟨hk, e⟩ := List.getElem?_eq_some_iff.mp hc
    rw [← e]; exact (List.getElem_cons_drop hk).symm
  rw [hd, runR, hs, Option.bind_some] at h
  exact h
theorem run_none {n k : Nat} {l : List UInt8} {c : UInt8} {V d : Nat} {p : Int} {R : Option (Nat × Nat × Int)} (hc : l[k]? = some c) (hs : stepR n k c V d p = none)
    (h : runR n k (l.drop k) V d p = R) : R = none := by
  have hd : l.drop k = c :: l.drop (k + 1) := by
    obtain ⟨hk, e⟩ := List.getElem?_eq_some_iff.mp hc
    rw [← e]; exact (List.getElem_cons_drop hk).symm
  rw [hd, runR, hs, Option.bind_none] at h
  exact h.symm
theorem run_over {n k : Nat} {l : List UInt8} {V d : Nat} {p : Int} {R : Option (Nat × Nat × Int)} (hk : l.length ≤ k) (h : runR n k (l.drop k) V d p = R) : R = some (V, d, p) := by
  rw [List.drop_eq_nil_of_le hk, runR] at h
  exact h.symm
theorem wrap_I64 (x : Int) : I64 (wrap64 x) := by
  unfold wrap64
  exact ⟨by omega, by omega⟩
theorem rrate_x (v : Int) (m : List UInt8) (hm : rateL v = m) (w : World) (h : I64 v) :
    Calls Tryd.prog 16 #[.int .i64 v] w fun e w' => e = .returned (.string ⟨m.toArray⟩) ∧ Ext w w' := hm ▸ rrate_c v w h
theorem pow11 (V d : Nat) (h : V < 10 ^ d) (hd : d ≤ 11) : V < 100000000000 :=
  Nat.lt_of_lt_of_le h (Nat.le_trans (Nat.pow_le_pow_right (by omega) hd) (by decide))
theorem pow_step (V d z : Nat) (h : V < 10 ^ d) (hz : z ≤ 9) : 10 * V + z < 10 ^ (d + 1) := by
  rw [Nat.pow_succ]; omega
theorem step_digit (n k : Nat) (c : UInt8) (V d : Nat) (p : Int) (c45 : c ≠ 45) (c37 : c ≠ 37) (c46 : c ≠ 46) (hdg : isD c = true) (hd : d < 12) : stepR n k c V d p = some (10 * V + (c.toNat - 48), d + 1, p) := by
  unfold stepR; rw [if_neg (fun h => c45 h.1), if_neg (fun h => c37 h.1), if_neg (fun h => c46 h.1), if_pos ⟨hdg, hd⟩]
theorem toNat_succ (k : Nat) (K : Int) (h : (k : Int) + 1 = K) : K.toNat = k + 1 := by
  subst h; omega
theorem int_succ (k : Nat) (K : Int) (h : (k : Int) + 1 = K) : (Value.int .i64 K) = .int .i64 ((k + 1 : Nat) : Int) := by
  subst h; rfl
theorem sum_cast (V z : Nat) (X Z Y : Int) (h1 : X = (V : Int)) (h2 : Z = (z : Int) - 48) (h3 : 48 ≤ z) (h4 : Y = 10 * X + Z) : Y = ((10 * V + (z - 48) : Nat) : Int) := by
  omega
theorem meas (n k : Nat) (h : k < n) : n - (RowKit.intOf (.int .i64 ((k : Int) + 1))).toNat < n - (RowKit.intOf (.int .i64 (k : Int))).toNat := by
  simp [RowKit.intOf]; omega
theorem nz9 (z : Nat) (h : z ≤ 57) : z - 48 ≤ 9 := by omega
theorem le_succ' (k n : Nat) (h : k < n) : k + 1 ≤ n := h
def RelR (n : Nat) (l : List UInt8) (R0 : Option (Nat × Nat × Int)) (v dd pp i : Value) : Prop :=
  ∃ (k V d : Nat) (p Xv : Int), k ≤ n ∧ i = .int .i64 (k : Int) ∧ v = .int .i64 Xv ∧ dd = .int .i64 (d : Int) ∧ pp = .int .i64 p ∧ d ≤ 12 ∧ V < 10 ^ d ∧ -1 ≤ p ∧ p ≤ (d : Int) ∧ Hid (runR n k (l.drop k) V d p = R0) ∧ Hid (Xv = (V : Int)) ∧ 0 ≤ Xv ∧ Xv < 1000000000000
def RelT (T : Int) (v i : Value) : Prop :=
  ∃ (J X : Int), i = .int .i64 J ∧ v = .int .i64 X ∧ 0 ≤ J ∧ J ≤ 12 ∧ Hid (I64 X) ∧ Hid (tens (7 - J).toNat X = T)
theorem bneI {x y : Int} (h : ¬ x = y) : (x == y) = false := by simpa using h

set_option maxHeartbeats 4000000 in
theorem rtr_n (l : List UInt8) (w : World) (n : Nat) (hnl : l.length = n) (hn0 : 0 < n) (hn : n ≤ 1000) (hix0 : ∀ h, (⟨l.toArray⟩ : ByteArray)[0]'h = 45) (R0 : Option (Nat × Nat × Int)) (hstart : runR n 0 l 0 0 (-1) = R0)
    (RV RC : Int) (hnone : R0 = none → RV = 0 ∧ RC = 4)
    (hsome : ∀ V d p, R0 = some (V, d, p) → (RV, RC) = if (d : Int) - pt d p ≤ 7 ∧ wrap64 (-(tens (7 - ((d : Int) - pt d p)).toNat (V : Int))) ≤ 10000000000 ∧ -10000000000 ≤ wrap64 (-(tens (7 - ((d : Int) - pt d p)).toNat (V : Int))) ∧ rateL (wrap64 (-(tens (7 - ((d : Int) - pt d p)).toNat (V : Int)))) = l then (wrap64 (-(tens (7 - ((d : Int) - pt d p)).toNat (V : Int))), 0) else (0, 4)) :
    Calls Tryd.prog 12 #[.string ⟨l.toArray⟩] w fun e w' => e = .returned (.tuple #[.int .i64 RV, .int .i64 RC]) ∧ Ext w w' := by
  replace hstart := show Hid _ from hstart
  replace hnone := show Hid _ from hnone
  replace hsome := show Hid _ from hsome
  have hn0I : (0 : Int) < (n : Int) := by omega
  have hwn : wrap64 ((n : Int) - 1) = (n : Int) - 1 := by unfold wrap64; omega
  go_enter Tryd.func12, Tryd.ntmps12
  go_wp2
  go_loop [4, 5, 6, 7] (fun v dd pp i => RelR n l R0 v dd pp i) (fun _ _ _ i => n - (RowKit.intOf i).toNat)
  case atStart => exact ⟨0, 0, 0, -1, 0, Nat.zero_le _, rfl, rfl, rfl, rfl, by omega, by decide, by omega, by omega, hstart, rfl, by omega, by omega⟩
  case round =>
    obtain ⟨k, V, d, p, Xv, hk, rfl, rfl, rfl, rfl, hd12, hV, hp1, hp2, hrun, hXV, x0, x1⟩ := hrel
    have hV12 : V < 1000000000000 := Nat.lt_of_lt_of_le hV (Nat.pow_le_pow_right (n := 10) (by omega) hd12)
    replace hV := show Hid _ from hV
    by_cases hkl : k < n
    · have hkI : (k : Int) < (n : Int) := by omega
      have hk0 : (0 : Int) ≤ (k : Int) := by omega
      have hwk : wrap64 ((k : Int) + 1) = (k : Int) + 1 := by unfold wrap64; omega
      obtain ⟨c, hc⟩ : ∃ c, l[k]? = some c := ⟨l[k]'(by omega), List.getElem?_eq_getElem _⟩
      have hixk := idx_of l k c hc
      by_cases c45 : c = 45
      · subst c45
        by_cases hk00 : k = 0
        · subst hk00
          have hrun2 := run_step hc (show stepR n 0 45 V d p = some (V, d, p) by unfold stepR; rw [if_pos ⟨rfl, rfl⟩]) hrun.out
          replace hrun2 := show Hid _ from hrun2
          replace hc := show Hid _ from hc
          go_wp2
          go_round
          case rel => exact ⟨0 + 1, V, d, p, Xv, by omega, by go_num, by first | rfl | go_num, by first | rfl | go_num, by first | rfl | go_num, by omega, hV.out, by omega, by omega, hrun2.out, hXV, x0, x1⟩
          case measure => simp [RowKit.intOf] <;> omega
        · have hkb : ((k : Int) == 0) = false := bneI (by omega)
          have hz := run_none hc (show stepR n k 45 V d p = none by unfold stepR; rw [if_neg (fun h => hk00 h.2), if_neg (fun h => absurd h.1 (by decide)), if_neg (fun h => absurd h.1 (by decide)), if_neg (fun h => absurd h.1 (by decide))]) hrun.out
          obtain ⟨rfl, rfl⟩ := hnone.out hz
          replace hz := show Hid _ from hz
          replace hc := show Hid _ from hc
          go_wp2_with fail
          refine (rdigit_x 45 false (show Hid (isD 45 = false) from rfl).out _).mono ?_
          rintro e w1 ⟨rfl, rfl⟩
          go_wp2
          go_ret2
          exact ⟨rfl, Ext.refl _⟩
      by_cases c37 : c = 37
      · subst c37
        by_cases hkn : k + 1 = n
        · have hkb : ((k : Int) == (n : Int) - 1) = true := by simp; omega
          have hrun2 := run_step hc (show stepR n k 37 V d p = some (V, d, p) by unfold stepR; rw [if_neg (fun h => absurd h.1 (by decide)), if_pos ⟨rfl, hkn⟩]) hrun.out
          replace hrun2 := show Hid _ from hrun2
          replace hc := show Hid _ from hc
          go_wp2
          go_round
          case rel => exact ⟨k + 1, V, d, p, Xv, by omega, by go_num, by first | rfl | go_num, by first | rfl | go_num, by first | rfl | go_num, by omega, hV.out, by omega, by omega, hrun2.out, hXV, x0, x1⟩
          case measure => simp [RowKit.intOf] <;> omega
        · have hkb : ((k : Int) == (n : Int) - 1) = false := bneI (by omega)
          have hz := run_none hc (show stepR n k 37 V d p = none by unfold stepR; rw [if_neg (fun h => absurd h.1 (by decide)), if_neg (fun h => hkn h.2), if_neg (fun h => absurd h.1 (by decide)), if_neg (fun h => absurd h.1 (by decide))]) hrun.out
          obtain ⟨rfl, rfl⟩ := hnone.out hz
          replace hz := show Hid _ from hz
          replace hc := show Hid _ from hc
          go_wp2_with fail
          refine (rdigit_x 37 false (show Hid (isD 37 = false) from rfl).out _).mono ?_
          rintro e w1 ⟨rfl, rfl⟩
          go_wp2
          go_ret2
          exact ⟨rfl, Ext.refl _⟩
      by_cases c46 : c = 46
      · subst c46
        by_cases hp : p < 0
        · have hpt : True := trivial
          have hrun2 := run_step hc (show stepR n k 46 V d p = some (V, d, (d : Int)) by unfold stepR; rw [if_neg (fun h => absurd h.1 (by decide)), if_neg (fun h => absurd h.1 (by decide)), if_pos ⟨rfl, hp⟩]) hrun.out
          replace hrun2 := show Hid _ from hrun2
          replace hc := show Hid _ from hc
          go_wp2
          go_round
          case rel => exact ⟨k + 1, V, d, (d : Int), Xv, by omega, by go_num, by first | rfl | go_num, by first | rfl | go_num, by first | rfl | go_num, by omega, hV.out, by omega, by omega, hrun2.out, hXV, x0, x1⟩
          case measure => simp [RowKit.intOf] <;> omega
        · have hpb : decide (p < 0) = false := decide_eq_false hp
          have hz := run_none hc (show stepR n k 46 V d p = none by unfold stepR; rw [if_neg (fun h => absurd h.1 (by decide)), if_neg (fun h => absurd h.1 (by decide)), if_neg (fun h => hp h.2), if_neg (fun h => absurd h.1 (by decide))]) hrun.out
          obtain ⟨rfl, rfl⟩ := hnone.out hz
          replace hz := show Hid _ from hz
          replace hc := show Hid _ from hc
          go_wp2_with fail
          refine (rdigit_x 46 false (show Hid (isD 46 = false) from rfl).out _).mono ?_
          rintro e w1 ⟨rfl, rfl⟩
          go_wp2
          go_ret2
          exact ⟨rfl, Ext.refl _⟩
      have e45 : ((c.toNat : Int) == 45) = false := toNat_ne (c := 45) c45
      have e37 : ((c.toNat : Int) == 37) = false := toNat_ne (c := 37) c37
      have e46 : ((c.toNat : Int) == 46) = false := toNat_ne (c := 46) c46
      cases hdg : isD c
      · have hz := run_none hc (show stepR n k c V d p = none by unfold stepR; rw [if_neg (fun h => c45 h.1), if_neg (fun h => c37 h.1), if_neg (fun h => c46 h.1), if_neg (fun h => by rw [hdg] at h; cases h.1)]) hrun.out
        obtain ⟨rfl, rfl⟩ := hnone.out hz
        replace hz := show Hid _ from hz
        replace hc := show Hid _ from hc
        replace hdg := show Hid _ from hdg
        clear c45 c37 c46
        go_wp2_with fail
        refine (rdigit_x c false hdg.out _).mono ?_
        rintro e w1 ⟨rfl, rfl⟩
        go_wp2
        go_ret2
        exact ⟨rfl, Ext.refl _⟩
      · by_cases hd : d < 12
        · have hdI : (d : Int) < 12 := by omega
          have hr := isD_range hdg
          obtain ⟨Z, hZ⟩ : ∃ Z : Int, Z = (c.toNat : Int) - 48 := ⟨_, rfl⟩
          have hw8 : IntKind.u8.wrap ((c.toNat : Int) - 48) = Z := by rw [IntKind.wrap_u8]; omega
          have hZ0 : 0 ≤ Z := by omega
          have hZ9 : Z ≤ 9 := by omega
          have hV11 : V < 100000000000 := pow11 V d hV.out (by omega)
          have hX11 : Xv < 100000000000 := by have := hXV.out; omega
          replace hV11 := show Hid _ from hV11
          obtain ⟨Y, hY⟩ : ∃ Y : Int, Y = 10 * Xv + Z := ⟨_, rfl⟩
          have y0 : 0 ≤ Y := by omega
          have y1 : Y < 1000000000000 := by omega
          have hYI : 10 * Xv + Z = Y := by omega
          have hw10 : wrap64 (10 * Xv) = 10 * Xv := by unfold wrap64; omega
          have hwY : wrap64 (10 * Xv + Z) = Y := by unfold wrap64; omega
          have hYV : Hid (Y = ((10 * V + (c.toNat - 48) : Nat) : Int)) := sum_cast V c.toNat Xv Z Y hXV.out hZ hr.1 hY
          have hrun2 := run_step hc (step_digit n k c V d p c45 c37 c46 hdg hd) hrun.out
          replace hrun2 := show Hid _ from hrun2
          replace hc := show Hid _ from hc
          replace hdg := show Hid _ from hdg
          replace hY := show Hid _ from hY
          replace hZ := show Hid _ from hZ
          have hwZ : wrap64 Z = Z := by unfold wrap64; omega
          have hwY2 : wrap64 Y = Y := by unfold wrap64; omega
          have keep : Hid (0 ≤ Y ∧ Y < 1000000000000 ∧ d < 12 ∧ -1 ≤ p ∧ p ≤ (d : Int) ∧ c.toNat ≤ 57 ∧ k < n) := ⟨y0, y1, hd, hp1, hp2, hr.2, hkl⟩
          clear x0 x1 y0 y1 hX11 hp1 hp2 hd12 hd hr
          clear c45 c37 c46
          go_wp2_with fail
          refine (rdigit_x c true hdg.out _).mono ?_
          rintro e w1 ⟨rfl, rfl⟩
          go_wp2
          go_round
          case rel =>
            obtain ⟨y0, y1, hd, hp1, hp2, hr2, _⟩ := keep.out
            exact ⟨k + 1, 10 * V + (c.toNat - 48), d + 1, p, Y, hkl, by go_num, by first | rfl | go_num, by go_num, by first | rfl | go_num, hd, pow_step V d (c.toNat - 48) hV.out (nz9 _ hr2), hp1, Int.le_trans hp2 (Int.ofNat_le.mpr (Nat.le_succ d)), hrun2.out, hYV, y0, y1⟩
          case measure => exact meas n k keep.out.2.2.2.2.2.2
        · have hdI : ¬ (d : Int) < 12 := by omega
          have hdb : decide ((d : Int) < 12) = false := decide_eq_false hdI
          have hz := run_none hc (show stepR n k c V d p = none by unfold stepR; rw [if_neg (fun h => c45 h.1), if_neg (fun h => c37 h.1), if_neg (fun h => c46 h.1), if_neg (fun h => hd h.2)]) hrun.out
          obtain ⟨rfl, rfl⟩ := hnone.out hz
          replace hz := show Hid _ from hz
          replace hc := show Hid _ from hc
          replace hdg := show Hid _ from hdg
          clear c45 c37 c46
          go_wp2_with fail
          refine (rdigit_x c true hdg.out _).mono ?_
          rintro e w1 ⟨rfl, rfl⟩
          go_wp2
          go_ret2
          exact ⟨rfl, Ext.refl _⟩
    · obtain rfl : k = n := by omega
      have hR0 := run_over (by omega) hrun.out
      have hkI : ¬ (k : Int) < (k : Int) := by omega
      clear hrun
      by_cases hp : p < 0
      · have hp0 : True := trivial
        have hR := hsome.out V d p hR0
        have hpt : pt d p = (d : Int) := by unfold pt; rw [if_pos hp]
        rw [hpt] at hR
        obtain ⟨I0, hI0⟩ : ∃ x : Int, (d : Int) - (d : Int) = x := ⟨_, rfl⟩
        rw [hI0] at hR
        have hwI : wrap64 ((d : Int) - (d : Int)) = I0 := by unfold wrap64; omega
        have i0a : 0 ≤ I0 := by omega
        have i0b : I0 ≤ 12 := by omega
        rw [← hXV.out] at hR
        obtain ⟨T, hT⟩ : ∃ x : Int, tens (7 - I0).toNat Xv = x := ⟨_, rfl⟩
        rw [hT] at hR
        replace hR := show Hid _ from hR
        replace hT := show Hid _ from hT
        have iV : I64 Xv := ⟨by omega, by omega⟩
        replace iV := show Hid _ from iV
        replace hR0 : Hid True := trivial
        clear hpt
        have hdd : I0 = 0 := by omega
        subst hdd
        clear hI0 hwI
        go_wp2
        go_loop [4, 8] (fun v i => RelT T v i) (fun _ i => (7 - RowKit.intOf i).toNat)
        case atStart => exact ⟨0, Xv, by first | rfl | go_num, rfl, by omega, by omega, iV, hT⟩
        case round =>
          obtain ⟨J, X, rfl, rfl, j0, j1, iX, hX⟩ := hrel
          by_cases hJ : J < 7
          · have iX' : Hid (I64 (wrap64 (10 * X))) := wrap_I64 _
            have hwJ : wrap64 (J + 1) = J + 1 := by unfold wrap64; omega
            have hX2 : Hid (tens (7 - (J + 1)).toNat (wrap64 (10 * X)) = T) := by
              have := hX.out
              rw [show (7 - J).toNat = (7 - (J + 1)).toNat + 1 by omega, tens] at this
              exact this
            go_wp2
            go_round
            case rel => exact ⟨J + 1, wrap64 (10 * X), by first | rfl | go_num, rfl, by omega, by omega, iX', hX2⟩
            case measure => simp [RowKit.intOf] <;> omega
          · have hXT : X = T := by
              have := hX.out
              rw [show (7 - J).toNat = 0 by omega, tens] at this
              exact this
            subst hXT
            clear hX hT
            replace hR := hR.out
            obtain ⟨G, hG⟩ : ∃ x : Int, wrap64 (-X) = x := ⟨_, rfl⟩
            have iG : Hid (I64 G) := by rw [← hG]; exact wrap_I64 _
            rw [hG] at hR
            by_cases b1 : (0 : Int) ≤ 7
            · have b1n : ¬ (7 : Int) < 0 := by omega
              by_cases b2 : G ≤ 10000000000
              · have b2n : ¬ 10000000000 < G := by omega
                by_cases b3 : -10000000000 ≤ G
                · have b3n : ¬ G < -10000000000 := by omega
                  generalize hM : rateL G = M at hR
                  replace hM := show Hid _ from hM
                  by_cases b4 : M = l
                  · have b4b : (M == l) = true := by simpa using b4
                    rw [if_pos ⟨b1, b2, b3, b4⟩] at hR
                    obtain ⟨hRV, rfl⟩ := Prod.mk.inj hR
                    replace hRV := hRV.symm
                    subst hRV
                    replace b4 := show Hid _ from b4
                    go_wp2_with fail
                    refine (rrate_x G M hM.out _ iG.out).mono ?_
                    rintro e w1 ⟨rfl, hx⟩
                    go_wp2
                    go_ret2
                    exact ⟨rfl, hx⟩
                  · have b4b : (M == l) = false := by simpa using b4
                    rw [if_neg (fun h => b4 h.2.2.2)] at hR
                    obtain ⟨rfl, rfl⟩ := Prod.mk.inj hR
                    replace b4 : Hid True := trivial
                    go_wp2_with fail
                    refine (rrate_x G M hM.out _ iG.out).mono ?_
                    rintro e w1 ⟨rfl, hx⟩
                    go_wp2
                    go_ret2
                    exact ⟨rfl, hx⟩
                · have b3n : G < -10000000000 := by omega
                  rw [if_neg (fun h => b3 h.2.2.1)] at hR
                  obtain ⟨rfl, rfl⟩ := Prod.mk.inj hR
                  clear b3
                  go_wp2
                  go_ret2
                  exact ⟨rfl, Ext.refl _⟩
              · have b2n : 10000000000 < G := by omega
                rw [if_neg (fun h => b2 h.2.1)] at hR
                obtain ⟨rfl, rfl⟩ := Prod.mk.inj hR
                clear b2
                go_wp2
                go_ret2
                exact ⟨rfl, Ext.refl _⟩
            · have b1n : (7 : Int) < 0 := by omega
              rw [if_neg (fun h => b1 h.1)] at hR
              obtain ⟨rfl, rfl⟩ := Prod.mk.inj hR
              clear b1
              go_wp2
              go_ret2
              exact ⟨rfl, Ext.refl _⟩
      · have hp0 : ¬ p < 0 := hp
        have hR := hsome.out V d p hR0
        have hpt : pt d p = p := by unfold pt; rw [if_neg hp]
        rw [hpt] at hR
        obtain ⟨I0, hI0⟩ : ∃ x : Int, (d : Int) - p = x := ⟨_, rfl⟩
        rw [hI0] at hR
        have hwI : wrap64 ((d : Int) - p) = I0 := by unfold wrap64; omega
        have i0a : 0 ≤ I0 := by omega
        have i0b : I0 ≤ 12 := by omega
        rw [← hXV.out] at hR
        obtain ⟨T, hT⟩ : ∃ x : Int, tens (7 - I0).toNat Xv = x := ⟨_, rfl⟩
        rw [hT] at hR
        replace hR := show Hid _ from hR
        replace hT := show Hid _ from hT
        have iV : I64 Xv := ⟨by omega, by omega⟩
        replace iV := show Hid _ from iV
        replace hR0 : Hid True := trivial
        clear hpt
        go_wp2
        go_loop [4, 8] (fun v i => RelT T v i) (fun _ i => (7 - RowKit.intOf i).toNat)
        case atStart => exact ⟨I0, Xv, by first | rfl | go_num, rfl, by omega, by omega, iV, hT⟩
        case round =>
          obtain ⟨J, X, rfl, rfl, j0, j1, iX, hX⟩ := hrel
          by_cases hJ : J < 7
          · have iX' : Hid (I64 (wrap64 (10 * X))) := wrap_I64 _
            have hwJ : wrap64 (J + 1) = J + 1 := by unfold wrap64; omega
            have hX2 : Hid (tens (7 - (J + 1)).toNat (wrap64 (10 * X)) = T) := by
              have := hX.out
              rw [show (7 - J).toNat = (7 - (J + 1)).toNat + 1 by omega, tens] at this
              exact this
            go_wp2
            go_round
            case rel => exact ⟨J + 1, wrap64 (10 * X), by first | rfl | go_num, rfl, by omega, by omega, iX', hX2⟩
            case measure => simp [RowKit.intOf] <;> omega
          · have hXT : X = T := by
              have := hX.out
              rw [show (7 - J).toNat = 0 by omega, tens] at this
              exact this
            subst hXT
            clear hX hT
            replace hR := hR.out
            obtain ⟨G, hG⟩ : ∃ x : Int, wrap64 (-X) = x := ⟨_, rfl⟩
            have iG : Hid (I64 G) := by rw [← hG]; exact wrap_I64 _
            rw [hG] at hR
            by_cases b1 : I0 ≤ 7
            · have b1n : ¬ 7 < I0 := by omega
              by_cases b2 : G ≤ 10000000000
              · have b2n : ¬ 10000000000 < G := by omega
                by_cases b3 : -10000000000 ≤ G
                · have b3n : ¬ G < -10000000000 := by omega
                  generalize hM : rateL G = M at hR
                  replace hM := show Hid _ from hM
                  by_cases b4 : M = l
                  · have b4b : (M == l) = true := by simpa using b4
                    rw [if_pos ⟨b1, b2, b3, b4⟩] at hR
                    obtain ⟨hRV, rfl⟩ := Prod.mk.inj hR
                    replace hRV := hRV.symm
                    subst hRV
                    replace b4 := show Hid _ from b4
                    go_wp2_with fail
                    refine (rrate_x G M hM.out _ iG.out).mono ?_
                    rintro e w1 ⟨rfl, hx⟩
                    go_wp2
                    go_ret2
                    exact ⟨rfl, hx⟩
                  · have b4b : (M == l) = false := by simpa using b4
                    rw [if_neg (fun h => b4 h.2.2.2)] at hR
                    obtain ⟨rfl, rfl⟩ := Prod.mk.inj hR
                    replace b4 : Hid True := trivial
                    go_wp2_with fail
                    refine (rrate_x G M hM.out _ iG.out).mono ?_
                    rintro e w1 ⟨rfl, hx⟩
                    go_wp2
                    go_ret2
                    exact ⟨rfl, hx⟩
                · have b3n : G < -10000000000 := by omega
                  rw [if_neg (fun h => b3 h.2.2.1)] at hR
                  obtain ⟨rfl, rfl⟩ := Prod.mk.inj hR
                  clear b3
                  go_wp2
                  go_ret2
                  exact ⟨rfl, Ext.refl _⟩
              · have b2n : 10000000000 < G := by omega
                rw [if_neg (fun h => b2 h.2.1)] at hR
                obtain ⟨rfl, rfl⟩ := Prod.mk.inj hR
                clear b2
                go_wp2
                go_ret2
                exact ⟨rfl, Ext.refl _⟩
            · have b1n : 7 < I0 := by omega
              rw [if_neg (fun h => b1 h.1)] at hR
              obtain ⟨rfl, rfl⟩ := Prod.mk.inj hR
              clear b1
              go_wp2
              go_ret2
              exact ⟨rfl, Ext.refl _⟩
set_option maxHeartbeats 4000000 in
theorem rtr_p (l : List UInt8) (w : World) (n : Nat) (hnl : l.length = n) (hn0 : 0 < n) (hn : n ≤ 1000) (x : UInt8) (hix0 : ∀ h, (⟨l.toArray⟩ : ByteArray)[0]'h = x) (hx45 : ((x.toNat : Int) == 45) = false) (R0 : Option (Nat × Nat × Int)) (hstart : runR n 0 l 0 0 (-1) = R0)
    (RV RC : Int) (hnone : R0 = none → RV = 0 ∧ RC = 4)
    (hsome : ∀ V d p, R0 = some (V, d, p) → (RV, RC) = if (d : Int) - pt d p ≤ 7 ∧ tens (7 - ((d : Int) - pt d p)).toNat (V : Int) ≤ 10000000000 ∧ -10000000000 ≤ tens (7 - ((d : Int) - pt d p)).toNat (V : Int) ∧ rateL (tens (7 - ((d : Int) - pt d p)).toNat (V : Int)) = l then (tens (7 - ((d : Int) - pt d p)).toNat (V : Int), 0) else (0, 4)) :
    Calls Tryd.prog 12 #[.string ⟨l.toArray⟩] w fun e w' => e = .returned (.tuple #[.int .i64 RV, .int .i64 RC]) ∧ Ext w w' := by
  replace hstart := show Hid _ from hstart
  replace hnone := show Hid _ from hnone
  replace hsome := show Hid _ from hsome
  have hn0I : (0 : Int) < (n : Int) := by omega
  have hwn : wrap64 ((n : Int) - 1) = (n : Int) - 1 := by unfold wrap64; omega
  go_enter Tryd.func12, Tryd.ntmps12
  go_wp2
  go_loop [4, 5, 6, 7] (fun v dd pp i => RelR n l R0 v dd pp i) (fun _ _ _ i => n - (RowKit.intOf i).toNat)
  case atStart => exact ⟨0, 0, 0, -1, 0, Nat.zero_le _, rfl, rfl, rfl, rfl, by omega, by decide, by omega, by omega, hstart, rfl, by omega, by omega⟩
  case round =>
    obtain ⟨k, V, d, p, Xv, hk, rfl, rfl, rfl, rfl, hd12, hV, hp1, hp2, hrun, hXV, x0, x1⟩ := hrel
    have hV12 : V < 1000000000000 := Nat.lt_of_lt_of_le hV (Nat.pow_le_pow_right (n := 10) (by omega) hd12)
    replace hV := show Hid _ from hV
    by_cases hkl : k < n
    · have hkI : (k : Int) < (n : Int) := by omega
      have hk0 : (0 : Int) ≤ (k : Int) := by omega
      have hwk : wrap64 ((k : Int) + 1) = (k : Int) + 1 := by unfold wrap64; omega
      obtain ⟨c, hc⟩ : ∃ c, l[k]? = some c := ⟨l[k]'(by omega), List.getElem?_eq_getElem _⟩
      have hixk := idx_of l k c hc
      by_cases c45 : c = 45
      · subst c45
        by_cases hk00 : k = 0
        · subst hk00
          have hsz : 0 < (⟨l.toArray⟩ : ByteArray).size := by rw [Lib.size_mk]; omega
          have hx : x = 45 := (hix0 hsz).symm.trans (hixk hsz)
          rw [hx] at hx45
          exact absurd hx45 (by decide)
        · have hkb : ((k : Int) == 0) = false := bneI (by omega)
          have hz := run_none hc (show stepR n k 45 V d p = none by unfold stepR; rw [if_neg (fun h => hk00 h.2), if_neg (fun h => absurd h.1 (by decide)), if_neg (fun h => absurd h.1 (by decide)), if_neg (fun h => absurd h.1 (by decide))]) hrun.out
          obtain ⟨rfl, rfl⟩ := hnone.out hz
          replace hz := show Hid _ from hz
          replace hc := show Hid _ from hc
          go_wp2_with fail
          refine (rdigit_x 45 false (show Hid (isD 45 = false) from rfl).out _).mono ?_
          rintro e w1 ⟨rfl, rfl⟩
          go_wp2
          go_ret2
          exact ⟨rfl, Ext.refl _⟩
      by_cases c37 : c = 37
      · subst c37
        by_cases hkn : k + 1 = n
        · have hkb : ((k : Int) == (n : Int) - 1) = true := by simp; omega
          have hrun2 := run_step hc (show stepR n k 37 V d p = some (V, d, p) by unfold stepR; rw [if_neg (fun h => absurd h.1 (by decide)), if_pos ⟨rfl, hkn⟩]) hrun.out
          replace hrun2 := show Hid _ from hrun2
          replace hc := show Hid _ from hc
          go_wp2
          go_round
          case rel => exact ⟨k + 1, V, d, p, Xv, by omega, by go_num, by first | rfl | go_num, by first | rfl | go_num, by first | rfl | go_num, by omega, hV.out, by omega, by omega, hrun2.out, hXV, x0, x1⟩
          case measure => simp [RowKit.intOf] <;> omega
        · have hkb : ((k : Int) == (n : Int) - 1) = false := bneI (by omega)
          have hz := run_none hc (show stepR n k 37 V d p = none by unfold stepR; rw [if_neg (fun h => absurd h.1 (by decide)), if_neg (fun h => hkn h.2), if_neg (fun h => absurd h.1 (by decide)), if_neg (fun h => absurd h.1 (by decide))]) hrun.out
          obtain ⟨rfl, rfl⟩ := hnone.out hz
          replace hz := show Hid _ from hz
          replace hc := show Hid _ from hc
          go_wp2_with fail
          refine (rdigit_x 37 false (show Hid (isD 37 = false) from rfl).out _).mono ?_
          rintro e w1 ⟨rfl, rfl⟩
          go_wp2
          go_ret2
          exact ⟨rfl, Ext.refl _⟩
      by_cases c46 : c = 46
      · subst c46
        by_cases hp : p < 0
        · have hpt : True := trivial
          have hrun2 := run_step hc (show stepR n k 46 V d p = some (V, d, (d : Int)) by unfold stepR; rw [if_neg (fun h => absurd h.1 (by decide)), if_neg (fun h => absurd h.1 (by decide)), if_pos ⟨rfl, hp⟩]) hrun.out
          replace hrun2 := show Hid _ from hrun2
          replace hc := show Hid _ from hc
          go_wp2
          go_round
          case rel => exact ⟨k + 1, V, d, (d : Int), Xv, by omega, by go_num, by first | rfl | go_num, by first | rfl | go_num, by first | rfl | go_num, by omega, hV.out, by omega, by omega, hrun2.out, hXV, x0, x1⟩
          case measure => simp [RowKit.intOf] <;> omega
        · have hpb : decide (p < 0) = false := decide_eq_false hp
          have hz := run_none hc (show stepR n k 46 V d p = none by unfold stepR; rw [if_neg (fun h => absurd h.1 (by decide)), if_neg (fun h => absurd h.1 (by decide)), if_neg (fun h => hp h.2), if_neg (fun h => absurd h.1 (by decide))]) hrun.out
          obtain ⟨rfl, rfl⟩ := hnone.out hz
          replace hz := show Hid _ from hz
          replace hc := show Hid _ from hc
          go_wp2_with fail
          refine (rdigit_x 46 false (show Hid (isD 46 = false) from rfl).out _).mono ?_
          rintro e w1 ⟨rfl, rfl⟩
          go_wp2
          go_ret2
          exact ⟨rfl, Ext.refl _⟩
      have e45 : ((c.toNat : Int) == 45) = false := toNat_ne (c := 45) c45
      have e37 : ((c.toNat : Int) == 37) = false := toNat_ne (c := 37) c37
      have e46 : ((c.toNat : Int) == 46) = false := toNat_ne (c := 46) c46
      cases hdg : isD c
      · have hz := run_none hc (show stepR n k c V d p = none by unfold stepR; rw [if_neg (fun h => c45 h.1), if_neg (fun h => c37 h.1), if_neg (fun h => c46 h.1), if_neg (fun h => by rw [hdg] at h; cases h.1)]) hrun.out
        obtain ⟨rfl, rfl⟩ := hnone.out hz
        replace hz := show Hid _ from hz
        replace hc := show Hid _ from hc
        replace hdg := show Hid _ from hdg
        clear c45 c37 c46
        go_wp2_with fail
        refine (rdigit_x c false hdg.out _).mono ?_
        rintro e w1 ⟨rfl, rfl⟩
        go_wp2
        go_ret2
        exact ⟨rfl, Ext.refl _⟩
      · by_cases hd : d < 12
        · have hdI : (d : Int) < 12 := by omega
          have hr := isD_range hdg
          obtain ⟨Z, hZ⟩ : ∃ Z : Int, Z = (c.toNat : Int) - 48 := ⟨_, rfl⟩
          have hw8 : IntKind.u8.wrap ((c.toNat : Int) - 48) = Z := by rw [IntKind.wrap_u8]; omega
          have hZ0 : 0 ≤ Z := by omega
          have hZ9 : Z ≤ 9 := by omega
          have hV11 : V < 100000000000 := pow11 V d hV.out (by omega)
          have hX11 : Xv < 100000000000 := by have := hXV.out; omega
          replace hV11 := show Hid _ from hV11
          obtain ⟨Y, hY⟩ : ∃ Y : Int, Y = 10 * Xv + Z := ⟨_, rfl⟩
          have y0 : 0 ≤ Y := by omega
          have y1 : Y < 1000000000000 := by omega
          have hYI : 10 * Xv + Z = Y := by omega
          have hw10 : wrap64 (10 * Xv) = 10 * Xv := by unfold wrap64; omega
          have hwY : wrap64 (10 * Xv + Z) = Y := by unfold wrap64; omega
          have hYV : Hid (Y = ((10 * V + (c.toNat - 48) : Nat) : Int)) := sum_cast V c.toNat Xv Z Y hXV.out hZ hr.1 hY
          have hrun2 := run_step hc (step_digit n k c V d p c45 c37 c46 hdg hd) hrun.out
          replace hrun2 := show Hid _ from hrun2
          replace hc := show Hid _ from hc
          replace hdg := show Hid _ from hdg
          replace hY := show Hid _ from hY
          replace hZ := show Hid _ from hZ
          have hwZ : wrap64 Z = Z := by unfold wrap64; omega
          have hwY2 : wrap64 Y = Y := by unfold wrap64; omega
          have keep : Hid (0 ≤ Y ∧ Y < 1000000000000 ∧ d < 12 ∧ -1 ≤ p ∧ p ≤ (d : Int) ∧ c.toNat ≤ 57 ∧ k < n) := ⟨y0, y1, hd, hp1, hp2, hr.2, hkl⟩
          clear x0 x1 y0 y1 hX11 hp1 hp2 hd12 hd hr
          clear c45 c37 c46
          go_wp2_with fail
          refine (rdigit_x c true hdg.out _).mono ?_
          rintro e w1 ⟨rfl, rfl⟩
          go_wp2
          go_round
          case rel =>
            obtain ⟨y0, y1, hd, hp1, hp2, hr2, _⟩ := keep.out
            exact ⟨k + 1, 10 * V + (c.toNat - 48), d + 1, p, Y, hkl, by go_num, by first | rfl | go_num, by go_num, by first | rfl | go_num, hd, pow_step V d (c.toNat - 48) hV.out (nz9 _ hr2), hp1, Int.le_trans hp2 (Int.ofNat_le.mpr (Nat.le_succ d)), hrun2.out, hYV, y0, y1⟩
          case measure => exact meas n k keep.out.2.2.2.2.2.2
        · have hdI : ¬ (d : Int) < 12 := by omega
          have hdb : decide ((d : Int) < 12) = false := decide_eq_false hdI
          have hz := run_none hc (show stepR n k c V d p = none by unfold stepR; rw [if_neg (fun h => c45 h.1), if_neg (fun h => c37 h.1), if_neg (fun h => c46 h.1), if_neg (fun h => hd h.2)]) hrun.out
          obtain ⟨rfl, rfl⟩ := hnone.out hz
          replace hz := show Hid _ from hz
          replace hc := show Hid _ from hc
          replace hdg := show Hid _ from hdg
          clear c45 c37 c46
          go_wp2_with fail
          refine (rdigit_x c true hdg.out _).mono ?_
          rintro e w1 ⟨rfl, rfl⟩
          go_wp2
          go_ret2
          exact ⟨rfl, Ext.refl _⟩
    · obtain rfl : k = n := by omega
      have hR0 := run_over (by omega) hrun.out
      have hkI : ¬ (k : Int) < (k : Int) := by omega
      clear hrun
      by_cases hp : p < 0
      · have hp0 : True := trivial
        have hR := hsome.out V d p hR0
        have hpt : pt d p = (d : Int) := by unfold pt; rw [if_pos hp]
        rw [hpt] at hR
        obtain ⟨I0, hI0⟩ : ∃ x : Int, (d : Int) - (d : Int) = x := ⟨_, rfl⟩
        rw [hI0] at hR
        have hwI : wrap64 ((d : Int) - (d : Int)) = I0 := by unfold wrap64; omega
        have i0a : 0 ≤ I0 := by omega
        have i0b : I0 ≤ 12 := by omega
        rw [← hXV.out] at hR
        obtain ⟨T, hT⟩ : ∃ x : Int, tens (7 - I0).toNat Xv = x := ⟨_, rfl⟩
        rw [hT] at hR
        replace hR := show Hid _ from hR
        replace hT := show Hid _ from hT
        have iV : I64 Xv := ⟨by omega, by omega⟩
        replace iV := show Hid _ from iV
        replace hR0 : Hid True := trivial
        clear hpt
        have hdd : I0 = 0 := by omega
        subst hdd
        clear hI0 hwI
        go_wp2
        go_loop [4, 8] (fun v i => RelT T v i) (fun _ i => (7 - RowKit.intOf i).toNat)
        case atStart => exact ⟨0, Xv, by first | rfl | go_num, rfl, by omega, by omega, iV, hT⟩
        case round =>
          obtain ⟨J, X, rfl, rfl, j0, j1, iX, hX⟩ := hrel
          by_cases hJ : J < 7
          · have iX' : Hid (I64 (wrap64 (10 * X))) := wrap_I64 _
            have hwJ : wrap64 (J + 1) = J + 1 := by unfold wrap64; omega
            have hX2 : Hid (tens (7 - (J + 1)).toNat (wrap64 (10 * X)) = T) := by
              have := hX.out
              rw [show (7 - J).toNat = (7 - (J + 1)).toNat + 1 by omega, tens] at this
              exact this
            go_wp2
            go_round
            case rel => exact ⟨J + 1, wrap64 (10 * X), by first | rfl | go_num, rfl, by omega, by omega, iX', hX2⟩
            case measure => simp [RowKit.intOf] <;> omega
          · have hXT : X = T := by
              have := hX.out
              rw [show (7 - J).toNat = 0 by omega, tens] at this
              exact this
            subst hXT
            clear hX hT
            replace hR := hR.out
            obtain ⟨G, hG⟩ : ∃ x : Int, X = x := ⟨_, rfl⟩
            subst hG
            have iG := iX
            by_cases b1 : (0 : Int) ≤ 7
            · have b1n : ¬ (7 : Int) < 0 := by omega
              by_cases b2 : X ≤ 10000000000
              · have b2n : ¬ 10000000000 < X := by omega
                by_cases b3 : -10000000000 ≤ X
                · have b3n : ¬ X < -10000000000 := by omega
                  generalize hM : rateL X = M at hR
                  replace hM := show Hid _ from hM
                  by_cases b4 : M = l
                  · have b4b : (M == l) = true := by simpa using b4
                    rw [if_pos ⟨b1, b2, b3, b4⟩] at hR
                    obtain ⟨hRV, rfl⟩ := Prod.mk.inj hR
                    replace hRV := hRV.symm
                    subst hRV
                    replace b4 := show Hid _ from b4
                    go_wp2_with fail
                    refine (rrate_x X M hM.out _ iG.out).mono ?_
                    rintro e w1 ⟨rfl, hx⟩
                    go_wp2
                    go_ret2
                    exact ⟨rfl, hx⟩
                  · have b4b : (M == l) = false := by simpa using b4
                    rw [if_neg (fun h => b4 h.2.2.2)] at hR
                    obtain ⟨rfl, rfl⟩ := Prod.mk.inj hR
                    replace b4 : Hid True := trivial
                    go_wp2_with fail
                    refine (rrate_x X M hM.out _ iG.out).mono ?_
                    rintro e w1 ⟨rfl, hx⟩
                    go_wp2
                    go_ret2
                    exact ⟨rfl, hx⟩
                · have b3n : X < -10000000000 := by omega
                  rw [if_neg (fun h => b3 h.2.2.1)] at hR
                  obtain ⟨rfl, rfl⟩ := Prod.mk.inj hR
                  clear b3
                  go_wp2
                  go_ret2
                  exact ⟨rfl, Ext.refl _⟩
              · have b2n : 10000000000 < X := by omega
                rw [if_neg (fun h => b2 h.2.1)] at hR
                obtain ⟨rfl, rfl⟩ := Prod.mk.inj hR
                clear b2
                go_wp2
                go_ret2
                exact ⟨rfl, Ext.refl _⟩
            · have b1n : (7 : Int) < 0 := by omega
              rw [if_neg (fun h => b1 h.1)] at hR
              obtain ⟨rfl, rfl⟩ := Prod.mk.inj hR
              clear b1
              go_wp2
              go_ret2
              exact ⟨rfl, Ext.refl _⟩
      · have hp0 : ¬ p < 0 := hp
        have hR := hsome.out V d p hR0
        have hpt : pt d p = p := by unfold pt; rw [if_neg hp]
        rw [hpt] at hR
        obtain ⟨I0, hI0⟩ : ∃ x : Int, (d : Int) - p = x := ⟨_, rfl⟩
        rw [hI0] at hR
        have hwI : wrap64 ((d : Int) - p) = I0 := by unfold wrap64; omega
        have i0a : 0 ≤ I0 := by omega
        have i0b : I0 ≤ 12 := by omega
        rw [← hXV.out] at hR
        obtain ⟨T, hT⟩ : ∃ x : Int, tens (7 - I0).toNat Xv = x := ⟨_, rfl⟩
        rw [hT] at hR
        replace hR := show Hid _ from hR
        replace hT := show Hid _ from hT
        have iV : I64 Xv := ⟨by omega, by omega⟩
        replace iV := show Hid _ from iV
        replace hR0 : Hid True := trivial
        clear hpt
        go_wp2
        go_loop [4, 8] (fun v i => RelT T v i) (fun _ i => (7 - RowKit.intOf i).toNat)
        case atStart => exact ⟨I0, Xv, by first | rfl | go_num, rfl, by omega, by omega, iV, hT⟩
        case round =>
          obtain ⟨J, X, rfl, rfl, j0, j1, iX, hX⟩ := hrel
          by_cases hJ : J < 7
          · have iX' : Hid (I64 (wrap64 (10 * X))) := wrap_I64 _
            have hwJ : wrap64 (J + 1) = J + 1 := by unfold wrap64; omega
            have hX2 : Hid (tens (7 - (J + 1)).toNat (wrap64 (10 * X)) = T) := by
              have := hX.out
              rw [show (7 - J).toNat = (7 - (J + 1)).toNat + 1 by omega, tens] at this
              exact this
            go_wp2
            go_round
            case rel => exact ⟨J + 1, wrap64 (10 * X), by first | rfl | go_num, rfl, by omega, by omega, iX', hX2⟩
            case measure => simp [RowKit.intOf] <;> omega
          · have hXT : X = T := by
              have := hX.out
              rw [show (7 - J).toNat = 0 by omega, tens] at this
              exact this
            subst hXT
            clear hX hT
            replace hR := hR.out
            obtain ⟨G, hG⟩ : ∃ x : Int, X = x := ⟨_, rfl⟩
            subst hG
            have iG := iX
            by_cases b1 : I0 ≤ 7
            · have b1n : ¬ 7 < I0 := by omega
              by_cases b2 : X ≤ 10000000000
              · have b2n : ¬ 10000000000 < X := by omega
                by_cases b3 : -10000000000 ≤ X
                · have b3n : ¬ X < -10000000000 := by omega
                  generalize hM : rateL X = M at hR
                  replace hM := show Hid _ from hM
                  by_cases b4 : M = l
                  · have b4b : (M == l) = true := by simpa using b4
                    rw [if_pos ⟨b1, b2, b3, b4⟩] at hR
                    obtain ⟨hRV, rfl⟩ := Prod.mk.inj hR
                    replace hRV := hRV.symm
                    subst hRV
                    replace b4 := show Hid _ from b4
                    go_wp2_with fail
                    refine (rrate_x X M hM.out _ iG.out).mono ?_
                    rintro e w1 ⟨rfl, hx⟩
                    go_wp2
                    go_ret2
                    exact ⟨rfl, hx⟩
                  · have b4b : (M == l) = false := by simpa using b4
                    rw [if_neg (fun h => b4 h.2.2.2)] at hR
                    obtain ⟨rfl, rfl⟩ := Prod.mk.inj hR
                    replace b4 : Hid True := trivial
                    go_wp2_with fail
                    refine (rrate_x X M hM.out _ iG.out).mono ?_
                    rintro e w1 ⟨rfl, hx⟩
                    go_wp2
                    go_ret2
                    exact ⟨rfl, hx⟩
                · have b3n : X < -10000000000 := by omega
                  rw [if_neg (fun h => b3 h.2.2.1)] at hR
                  obtain ⟨rfl, rfl⟩ := Prod.mk.inj hR
                  clear b3
                  go_wp2
                  go_ret2
                  exact ⟨rfl, Ext.refl _⟩
              · have b2n : 10000000000 < X := by omega
                rw [if_neg (fun h => b2 h.2.1)] at hR
                obtain ⟨rfl, rfl⟩ := Prod.mk.inj hR
                clear b2
                go_wp2
                go_ret2
                exact ⟨rfl, Ext.refl _⟩
            · have b1n : 7 < I0 := by omega
              rw [if_neg (fun h => b1 h.1)] at hR
              obtain ⟨rfl, rfl⟩ := Prod.mk.inj hR
              clear b1
              go_wp2
              go_ret2
              exact ⟨rfl, Ext.refl _⟩
theorem r0 : rateL 0 = [48, 37] := by
  unfold rateL
  rw [show (0 : Int).natAbs / 10000000 = 0 from rfl, decDigits_small (by omega)]
  decide +kernel
set_option maxHeartbeats 2000000 in
theorem rtr_e (w : World) :
    Calls Tryd.prog 12 #[.string ⟨#[]⟩] w fun e w' => e = .returned (.tuple #[.int .i64 0, .int .i64 4]) ∧ Ext w w' := by
  go_enter Tryd.func12, Tryd.ntmps12
  go_wp2
  refine wp_loop_rounds 1 ?_
  rw [rounds_succ]
  go_wp2
  refine wp_loop_rounds 8 ?_
  rw [rounds_succ]
  go_wp2
  rw [rounds_succ]
  go_wp2
  rw [rounds_succ]
  go_wp2
  rw [rounds_succ]
  go_wp2
  rw [rounds_succ]
  go_wp2
  rw [rounds_succ]
  go_wp2
  rw [rounds_succ]
  go_wp2
  rw [rounds_succ]
  go_wp2_with fail
  refine (rrate_x 0 [48, 37] r0 _ ⟨by decide, by decide⟩).mono ?_
  rintro e w1 ⟨rfl, hx⟩
  go_wp2
  go_ret2
  exact ⟨rfl, hx⟩
theorem rtakeRate_c (l : List UInt8) (w : World) (hl : l.length ≤ 1000) :
    Calls Tryd.prog 12 #[.string ⟨l.toArray⟩] w fun e w' => e = .returned (.tuple #[.int .i64 (takeR l).1, .int .i64 (takeR l).2]) ∧ Ext w w' := by
  cases l with
  | nil => exact rtr_e w
  | cons a r =>
    have hp : 0 < (a :: r).length := by simp
    have href := takeR_ref (a :: r)
    have ha0 : (a :: r)[0]? = some a := rfl
    have hix := idx_of (a :: r) 0 a ha0
    have hnone : runR (a :: r).length 0 (a :: r) 0 0 (-1) = none → (takeR (a :: r)).1 = 0 ∧ (takeR (a :: r)).2 = 4 := by
      intro h
      rw [h] at href
      rw [href]; exact ⟨rfl, rfl⟩
    by_cases ha : a = 45
    · subst ha
      refine rtr_n (45 :: r) w _ rfl hp hl hix _ rfl _ _ hnone ?_
      intro V d p h
      rw [h] at href
      have hs : ∀ t, signV (45 :: r) t = wrap64 (-t) := by intro t; unfold signV; rw [if_pos (show (45 :: r).head? = some 45 from rfl)]
      simp only [hs] at href
      exact href
    · refine rtr_p (a :: r) w _ rfl hp hl a hix (toNat_ne (c := 45) ha) _ rfl _ _ hnone ?_
      intro V d p h
      rw [h] at href
      have hs : ∀ t, signV (a :: r) t = t := by intro t; unfold signV; rw [if_neg (by simpa using ha)]
      simp only [hs] at href
      exact href
end Go.Proofs.YtpmgbagnaaahoabDoor
