
/- Date and Weekday of the document's own, as contracts: no statement of the seat is proved here. -/
import Derived.Test.YtmlkccmkdgfalaaGreatDoorL3Civ4
namespace Go.Proofs.YtmlkccmkdgfalaaGreatDoor.L3
open Go.RowKit
set_option linter.unusedVariables false

theorem rWeekday_c (n : Int) (w : World) (h : I64 n) :
    Calls Tryz.prog 31 #[.int .i64 n] w fun e w' => e = .returned (.int .i64 (wday n)) ∧ w' = w := by
  obtain ⟨h1, h2⟩ := h
  obtain ⟨r, hr⟩ : ∃ r, n.tmod 7 = r := ⟨_, rfl⟩
  have hb : -7 < r ∧ r < 7 := by rw [← hr]; rw [Int.tmod_eq_emod]; split <;> omega
  obtain ⟨b1, b2⟩ := hb
  obtain ⟨q, hq⟩ : ∃ q, (r + 3).tmod 7 = q := ⟨_, rfl⟩
  have hc : -7 < q ∧ q < 7 := by rw [← hq]; rw [Int.tmod_eq_emod]; split <;> omega
  obtain ⟨c1, c2⟩ := hc
  have hw : wday n = if q < 0 then q + 7 else q := by
    unfold wday; rw [← hq, ← hr, Int.tmod_eq_emod, Int.tmod_eq_emod]; repeat' split
    all_goals omega
  rw [hw]
  clear hw h1 h2
  by_cases h0 : q < 0
  · rw [if_pos h0]
    go_enter Tryz.func31, Tryz.ntmps31
    go_wp2
    go_ret
    exact ⟨rfl, rfl⟩
  · rw [if_neg h0]
    go_enter Tryz.func31, Tryz.ntmps31
    go_wp2
    go_ret
    exact ⟨rfl, rfl⟩
theorem Is_t (n : Int) (w : World) (h1 : -25567 ≤ n) (h2 : n ≤ 84370) :
    Calls Tryz.prog 18 #[.int .i64 n] w fun e w' => e = .returned (.bool true) ∧ w' = w := by
  go_enter Tryz.func18, Tryz.ntmps18
  go_wp2
  go_ret
  exact ⟨rfl, rfl⟩
theorem Is_f (n : Int) (w : World) (h : n < -25567 ∨ 84370 < n) :
    Calls Tryz.prog 18 #[.int .i64 n] w fun e w' => e = .returned (.bool false) ∧ w' = w := by
  rcases h with h | h
  · have h' : ¬ -25567 ≤ n := by omega
    go_enter Tryz.func18, Tryz.ntmps18
    go_wp2
    go_ret
    exact ⟨rfl, rfl⟩
  · have h' : -25567 ≤ n := by omega
    have h2 : ¬ n ≤ 84370 := by omega
    go_enter Tryz.func18, Tryz.ntmps18
    go_wp2
    go_ret
    exact ⟨rfl, rfl⟩
theorem rDate_no (n : Int) (w : World) (h : n < -25567 ∨ 84370 < n) :
    Calls Tryz.prog 52 #[.int .i64 n] w fun e w' => e = .returned (.tuple #[.agg #[.int .i64 0, .int .i64 0, .int .i64 0], .int .i64 5]) ∧ Ext w w' := by
  replace h := show Hid _ from h
  go_enter Tryz.func52, Tryz.ntmps52
  go_wp2_with (go_at_call 18; refine (Is_f _ _ h.out).mono ?_; rintro e w' ⟨rfl, rfl⟩)
  exact bodyPost_ret (v := .tuple #[.agg #[.int .i64 0, .int .i64 0, .int .i64 0], .int .i64 5]) (by simp [results, Tryz.results52, go_sem]) rfl ⟨rfl, (Ext.refl _).alloc _ _⟩

/-- The number in a cell. -/
def cellInt (w : World) (b o : Nat) : Int := match w.cell? ⟨b, o, none⟩ with | some (.int _ n) => n | _ => 0
theorem cellInt_of {w : World} {b o : Nat} {k : IntKind} {n : Int} (h : w.cell? ⟨b, o, none⟩ = some (.int k n)) : cellInt w b o = n := by unfold cellInt; rw [h]
/-- The result's cells and those of the date that is sought. -/
structure Dst (w wr : World) (r b : Nat) (y m d : Int) : Prop where
  ext : Ext w wr
  lo : w.heap.size ≤ r
  ne : r < b
  r0 : wr.cell? ⟨r, 0, none⟩ = some (.int .i64 0)
  r1 : wr.cell? ⟨r, 1, none⟩ = some (.int .i64 0)
  r2 : wr.cell? ⟨r, 2, none⟩ = some (.int .i64 0)
  b0 : wr.cell? ⟨b, 0, none⟩ = some (.int .i64 y)
  b1 : wr.cell? ⟨b, 1, none⟩ = some (.int .i64 m)
  b2 : wr.cell? ⟨b, 2, none⟩ = some (.int .i64 d)
  f0 : wr.frozen? ⟨r, 0, none⟩ = false
  f1 : wr.frozen? ⟨r, 1, none⟩ = false
  f2 : wr.frozen? ⟨r, 2, none⟩ = false
  g0 : wr.frozen? ⟨b, 0, none⟩ = false
  g1 : wr.frozen? ⟨b, 1, none⟩ = false
  g2 : wr.frozen? ⟨b, 2, none⟩ = false
theorem Dst.start (w : World) (y m : Int) (t : TypeId) :
    ∃ W r b, (w.alloc (.cells #[.int .i64 0, .int .i64 0, .int .i64 0] t)).alloc (.cells #[.int .i64 y, .int .i64 m, .int .i64 0] t) = W ∧ w.heap.size = r ∧ r + 1 = b ∧ Dst w W r b y m 0 :=
  ⟨_, _, _, rfl, rfl, rfl, ((Ext.refl w).alloc _ _).alloc _ _, Nat.le_refl _, by omega, by simp [go_sem], by simp [go_sem], by simp [go_sem], by simp [go_sem], by simp [go_sem], by simp [go_sem],
    by simp [go_sem], by simp [go_sem], by simp [go_sem], by simp [go_sem], by simp [go_sem], by simp [go_sem]⟩
theorem other {w : World} {b o b' o' : Nat} (x : Value) (h : b ≠ b' ∨ o ≠ o') : (w.setCell ⟨b, o, none⟩ x).cell? ⟨b', o', none⟩ = w.cell? ⟨b', o', none⟩ :=
  by
    apply World.cell?_setCell_other
    intro e
    injection e with e1 e2
    omega
theorem same {w : World} {a : Addr} {v u : Value} (h : w.cell? a = some u) : (w.setCell a v).cell? a = some v := by
  apply World.cell?_setCell_same
  exact h
theorem Dst.year {w wr : World} {r b : Nat} {y m d : Int} (h : Dst w wr r b y m d) (z : Int) : Dst w (wr.setCell ⟨b, 0, none⟩ (.int .i64 z)) r b z m d := by
  have := h.ne; have := h.lo
  exact ⟨h.ext.setCell (show w.heap.size ≤ b by omega) _, h.lo, h.ne, by rw [other _ (by omega)]; exact h.r0, by rw [other _ (by omega)]; exact h.r1, by rw [other _ (by omega)]; exact h.r2,
    same h.b0, by rw [other _ (by omega)]; exact h.b1, by rw [other _ (by omega)]; exact h.b2,
    by simpa using h.f0, by simpa using h.f1, by simpa using h.f2, by simpa using h.g0, by simpa using h.g1, by simpa using h.g2⟩
theorem Dst.month {w wr : World} {r b : Nat} {y m d : Int} (h : Dst w wr r b y m d) (z : Int) : Dst w (wr.setCell ⟨b, 1, none⟩ (.int .i64 z)) r b y z d := by
  have := h.ne; have := h.lo
  exact ⟨h.ext.setCell (show w.heap.size ≤ b by omega) _, h.lo, h.ne, by rw [other _ (by omega)]; exact h.r0, by rw [other _ (by omega)]; exact h.r1, by rw [other _ (by omega)]; exact h.r2,
    by rw [other _ (by omega)]; exact h.b0, same h.b1, by rw [other _ (by omega)]; exact h.b2,
    by simpa using h.f0, by simpa using h.f1, by simpa using h.f2, by simpa using h.g0, by simpa using h.g1, by simpa using h.g2⟩
theorem Dst.day {w wr : World} {r b : Nat} {y m d : Int} (h : Dst w wr r b y m d) (z : Int) : Dst w (wr.setCell ⟨b, 2, none⟩ (.int .i64 z)) r b y m z := by
  have := h.ne; have := h.lo
  exact ⟨h.ext.setCell (show w.heap.size ≤ b by omega) _, h.lo, h.ne, by rw [other _ (by omega)]; exact h.r0, by rw [other _ (by omega)]; exact h.r1, by rw [other _ (by omega)]; exact h.r2,
    by rw [other _ (by omega)]; exact h.b0, by rw [other _ (by omega)]; exact h.b1, same h.b2,
    by simpa using h.f0, by simpa using h.f1, by simpa using h.f2, by simpa using h.g0, by simpa using h.g1, by simpa using h.g2⟩

theorem Dst.done {w wr : World} {r b : Nat} {y m d : Int} (h : Dst w wr r b y m d) (z : Int) :
    ∃ W, (((wr.setCell ⟨b, 2, none⟩ (.int .i64 z)).setCell ⟨r, 0, none⟩ (.int .i64 y)).setCell ⟨r, 1, none⟩ (.int .i64 m)).setCell ⟨r, 2, none⟩ (.int .i64 z) = W ∧
      W.cell? ⟨r, 0, none⟩ = some (.int .i64 y) ∧ W.cell? ⟨r, 1, none⟩ = some (.int .i64 m) ∧ W.cell? ⟨r, 2, none⟩ = some (.int .i64 z) ∧ Ext w W := by
  have k := h.day z
  have := h.ne; have := h.lo
  refine ⟨_, rfl, ?_, ?_, ?_, ?_⟩
  · rw [other _ (by omega), other _ (by omega)]; exact same k.r0
  · rw [other _ (by omega)]; exact same (by rw [other _ (by omega)]; exact k.r1)
  · exact same (by rw [other _ (by omega), other _ (by omega)]; exact k.r2)
  · exact ((k.ext.setCell (show w.heap.size ≤ r from h.lo) _).setCell (show w.heap.size ≤ r from h.lo) _).setCell (show w.heap.size ≤ r from h.lo) _

set_option maxHeartbeats 1000000 in
theorem rDate_ok (n : Int) (w : World) (h1 : -25567 ≤ n) (h2 : n ≤ 84370) :
    Calls Tryz.prog 52 #[.int .i64 n] w fun e w' => (∃ y m d : Int, e = .returned (.tuple #[.agg #[.int .i64 y, .int .i64 m, .int .i64 d], .int .i64 0]) ∧ Vld y m d ∧ num y m d = n) ∧ Ext w w' := by
  obtain ⟨g1, g2, g3⟩ := guess_le n h1 h2
  go_enter Tryz.func52, Tryz.ntmps52
  go_wp2_with (go_at_call 18; refine (Is_t _ _ h1 h2).mono ?_; rintro e w' ⟨rfl, rfl⟩)
  obtain ⟨W0, r, b, hW, hr, hb, hd⟩ := Dst.start w (1900 + (n + 25567) / 366) 1 81
  rw [hW, hr, hb]
  clear hW hr hb
  replace hd := show Hid _ from hd
  generalize hy0 : 1900 + (n + 25567) / 366 = y0 at *
  clear hy0
  go_loopw [] (fun wr => ∃ y : Int, 1900 ≤ y ∧ y ≤ 2200 ∧ st y ≤ n ∧ Hid (Dst w wr r b y 1 0)) (fun wr => (2200 - cellInt wr b 0).toNat)
  case atStart => exact ⟨y0, g1, g2, g3, hd⟩
  case round =>
    clear g1 g2 g3 hd
    obtain ⟨y, y1, y2, y3, hd⟩ := hrel
    have c0 := hd.out.b0; have c1 := hd.out.b1; have c2 := hd.out.b2; have g0 := hd.out.g0
    have hs := show Hid _ from st_succ y
    obtain ⟨b1, b2⟩ := st_bd (y + 1) (by omega) (by omega)
    by_cases hc : st (y + 1) ≤ n
    · have y4 : y < 2200 := by
        rcases Int.lt_or_le y 2200 with k | k
        · exact k
        · obtain rfl : y = 2200 := by omega
          have : st (2200 + 1) = 84371 := by decide
          omega
      go_wp2_with (go_at_call 72; refine (before_c _ _ (by omega) (by omega)).mono ?_; rintro e w' ⟨rfl, rfl⟩)
      go_roundw
      case rel => exact ⟨y + 1, by omega, by omega, hc, hd.out.year (y + 1)⟩
      case measure => rw [cellInt_of (hd.out.year (y + 1)).b0, cellInt_of c0]; omega
    · have y5 : n < st y + 365 + lp y := by have := hs.out; omega
      obtain ⟨s1, s2⟩ := st_bd y y1 (by omega)
      obtain ⟨l1, l2⟩ := lp_01 y
      go_wp2_with (go_at_call 72; refine (before_c _ _ (by omega) (by omega)).mono ?_; rintro e w' ⟨rfl, rfl⟩)
      clear c0 c1 c2 g0 hs hc
      go_loopw [4] (fun t wr => ∃ m : Int, 1 ≤ m ∧ m ≤ 12 ∧ cum y m ≤ n - st y ∧ t = .int .i64 (n - st y - cum y m) ∧ Hid (Dst w wr r b y m 0)) (fun _ wr => (12 - cellInt wr b 1).toNat)
      case atStart => exact ⟨1, by omega, by omega, by rw [cum_one]; omega, by rw [cum_one]; go_num, hd⟩
      case round =>
        clear hd
        obtain ⟨m, m1, m2, m3, rfl, hd⟩ := hrel
        have c0 := hd.out.b0; have c1 := hd.out.b1; have c2 := hd.out.b2; have g1 := hd.out.g1; have g2 := hd.out.g2
        obtain ⟨k1, k2⟩ := cum_bd y m m1 (by omega)
        obtain ⟨k3, k4⟩ := dim_bd y m m1 (by omega)
        have cs := show Hid _ from cum_succ y m m1 (by omega)
        have ce := show Hid _ from cum_end y
        by_cases hj : dim y m ≤ n - st y - cum y m
        · have j3 : m < 12 := by
            have := cs.out; have := ce.out
            rcases Int.lt_or_le m 12 with k | k
            · exact k
            · obtain rfl : m = 12 := by omega
              simp only [show (12 : Int) + 1 = 13 from rfl] at this cs
              have := cs.out
              omega
          go_wp2_with (go_at_call 71; refine (rMonth_c _ _ _ (by unfold I64; omega)).mono ?_; rintro e w' ⟨rfl, rfl⟩)
          go_roundw
          case rel => exact ⟨m + 1, by omega, by omega, by rw [cs.out]; omega, by rw [cs.out]; go_num, hd.out.month (m + 1)⟩
          case measure => rw [cellInt_of (hd.out.month (m + 1)).b1, cellInt_of c1]; omega
        · have hv : Hid (Vld y m (n - st y - cum y m + 1)) := ⟨y1, y2, by omega, by omega⟩
          have hn : Hid (num y m (n - st y - cum y m + 1) = n) := by show num y m _ = n; unfold num; omega
          have q0 := hd.out.r0; have q1 := hd.out.r1; have q2 := hd.out.r2
          have f0 := hd.out.f0; have f1 := hd.out.f1; have f2 := hd.out.f2; have lo := hd.out.lo; have ne := hd.out.ne
          clear cs ce
          go_wp2_with (go_at_call 71; refine (rMonth_c _ _ _ (by unfold I64; omega)).mono ?_; rintro e w' ⟨rfl, rfl⟩)
          obtain ⟨W, hW, z0, z1, z2, hX⟩ := hd.out.done (n - st y - cum y m + 1)
          rw [hW]
          clear hW
          exact bodyPost_ret (v := .tuple #[.agg #[.int .i64 y, .int .i64 m, .int .i64 (n - st y - cum y m + 1)], .int .i64 0]) (by simp [results, Tryz.results52, go_sem, z0, z1, z2]) rfl ⟨⟨y, m, _, rfl, hv.out, hn.out⟩, hX⟩
end Go.Proofs.YtmlkccmkdgfalaaGreatDoor.L3