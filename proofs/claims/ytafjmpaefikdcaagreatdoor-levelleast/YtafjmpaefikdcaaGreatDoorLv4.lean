
/- The search, Left and Of of package level, as contracts: no statement of the seat is proved here. -/
import Derived.Test.YtafjmpaefikdcaaGreatDoorLv3
namespace Go.Proofs.YtafjmpaefikdcaaGreatDoor
open Go.RowKit
open L12 (need_ok need_no Fac Rst)
open L8 (Slc)
set_option linter.unusedVariables false
set_option maxRecDepth 100000

theorem lent_no (P : Nat) (p : Prd) (vr vl vh v : Value) (l : List Int) (a E : Int) (w : World) (hB : Blk w P (pcells p vr vl vh)) (hi : Inp w p vr vl vh) (hs : Slc w v l) (hE : askE p l a E) (h0 : E ≠ 0) :
    Calls Tryz.prog 19 #[.pointer (some ⟨P, 0, none⟩), v, .int .i64 a] w fun e w' => e = .panicked [{ v := .iface 33 (.int .i64 E), recovered := false }] ∧ Ext w w' := by
  rcases hE with ⟨hok, rfl⟩ | ⟨hok, hn, rfl⟩ | ⟨_, _, rfl⟩
  · exact lent_bad P p vr vl vh v a w hB hi hok
  · by_cases hlen : (l.length : Int) = p.tm
    · have t1 := (tm_T hok).1
      have t2 := (tm_T hok).2.1
      rcases hs with ⟨sa, c, rfl, _, rfl⟩ | ⟨b, off, c, rfl, hc⟩
      · simp at hlen; omega
      · by_cases hp : ∀ n ∈ l, 0 ≤ n ∧ n ≤ 267180
        · refine lent_fin P p vr vl vh b off l.length c l a w hB hi hok rfl hlen.symm hc hp _ ?_
          intro w1 hx1
          exact ⟨fun h => absurd ⟨hlen, hp, h.1, h.2⟩ hn, fun _ => ⟨rfl, hx1⟩⟩
        · exact lent_part P p vr vl vh b off l.length c l a w hB hi hok rfl hlen.symm hc hp
    · obtain ⟨sa, c, rfl⟩ := hs.len
      exact lent_len P p vr vl vh sa l.length c a w hB hi hok (by simpa using hlen)
  · exact absurd rfl h0
theorem lent_yes (P : Nat) (p : Prd) (vr vl vh : Value) (b off c : Nat) (l : List Int) (a : Int) (w : World) (hB : Blk w P (pcells p vr vl vh)) (hi : Inp w p vr vl vh) (hc : ∀ (k : Nat) (x : Int), l[k]? = some x → w.cell? ⟨b, off + k, none⟩ = some (.int .i64 x)) (hok : okP p = true) (hO : Okl p.tm l a) :
    Calls Tryz.prog 19 #[.pointer (some ⟨P, 0, none⟩), .slice (some ⟨b, off, none⟩) l.length c, .int .i64 a] w fun e w' => ∃ L, e = .returned (.pointer (some ⟨L, 0, none⟩)) ∧ Lon w' L P p vr vl vh (.slice (some ⟨b, off, none⟩) l.length c) a ∧ Ext w w' := by
  refine lent_fin P p vr vl vh b off l.length c l a w hB hi hok rfl hO.1.symm hc hO.2.1 _ ?_
  intro w1 hx1
  exact ⟨fun _ W L hx hL => ⟨L, rfl, hL, hx1.trans hx⟩, fun h => absurd hO.2.2 h⟩
/-- What an instalment leaves, by the document. -/
def lvl (p : Prd) (l : List Int) (a x : Int) : Int := wk p.rd (whl p.cn) p.rt x p.gr l 0 a 0
structure OkL (p : Prd) : Prop where
  c1 : 1 ≤ p.cn
  c2 : p.cn ≤ 3
  m : p.rd = 1 ∨ p.rd = 3
  r0 : 0 ≤ p.rt
  r1 : p.rt ≤ 1000000000
  g0 : 0 ≤ p.gr
  g1 : p.gr ≤ 600
theorem okL_of {p : Prd} (h : okP p = true) : OkL p := by
  have k := okf h
  have t := tm_T h
  obtain ⟨_, q1, _, _, q4, q5, _⟩ := ok_parts h
  have q := (r1_parts q1).2.1
  have q5' := (r5_parts q5).1
  have hr := (L8.lz_iff _ _ _).1 q5'
  have hm : p.rd = 1 ∨ p.rd = 3 := by simpa using q
  exact ⟨k.cn.1, k.cn.2, hm, hr.1, hr.2, k.gr.1, by have := k.gr.2; omega⟩
theorem lvl_fal {p : Prd} {l : List Int} {a : Int} (h : okP p = true) (hO : Okl p.tm l a) : Fal (lvl p l a) := by
  have k := okL_of h
  exact wk_fal k.m (whl_bd k.c1 k.c2).1 k.r0 l (fun n hn => (hO.2.1 n hn).1) a hO.2.2.1 (by have := hO.2.2.2; omega)
theorem left_v (L P : Nat) (p : Prd) (vr vl vh : Value) (b off c : Nat) (l : List Int) (a x : Int) (w : World) (hL : Lon w L P p vr vl vh (.slice (some ⟨b, off, none⟩) l.length c) a) (hc : ∀ (k : Nat) (x : Int), l[k]? = some x → w.cell? ⟨b, off + k, none⟩ = some (.int .i64 x)) (hok : okP p = true) (hO : Okl p.tm l a) (x0 : 0 ≤ x) (x1 : x ≤ 1000000000000000) :
    Calls Tryz.prog 22 #[.pointer (some ⟨L, 0, none⟩), .int .i64 x] w fun e w' => e = .returned (.int .i64 (lvl p l a x)) ∧ Ext w w' := by
  have k := okL_of hok
  have t := tm_T hok
  exact left_c L P p vr vl vh b off c l.length l a x p.rd (whl p.cn) p.rt p.gr _ w hL rfl (by have := hO.1; omega) hc hO.2.1 k.c1 k.c2 k.m rfl rfl rfl k.r0 k.r1 rfl k.g0 k.g1 hO.2.2.1 hO.2.2.2 x0 x1 rfl
set_option maxHeartbeats 2000000 in
theorem least_no (L : Nat) (f : Int → Int) (w : World) (hF : Hid (∀ (x : Int) (W : World), 0 ≤ x → x ≤ 1000000000000000 → Ext w W → Calls Tryz.prog 22 #[.pointer (some ⟨L, 0, none⟩), .int .i64 x] W fun e w' => e = .returned (.int .i64 (f x)) ∧ Ext W w')) (hn : 0 < f 1000000000000000) :
    Calls Tryz.prog 26 #[.func (.func 22) #[.pointer (some ⟨L, 0, none⟩)] #[]] w fun e w' => e = .panicked [{ v := .iface 33 (.int .i64 10), recovered := false }] ∧ Ext w w' := by
  obtain ⟨y, hy⟩ : ∃ y, f 1000000000000000 = y := ⟨_, rfl⟩
  rw [hy] at hn
  have hd := show Hid _ from decide_eq_false (show ¬ y ≤ 0 by omega)
  replace hy := show Hid _ from hy
  go_enter Tryz.func26, Tryz.ntmps26
  go_wp2_with fail
  refine (hF.out _ _ (by decide) (by decide) (Ext.refl w)).mono ?_
  rintro e w1 ⟨rfl, hx⟩
  rw [hy.out]
  replace hx := show Hid _ from hx
  go_wp2_with fail
  simp only [hd.out]
  refine (need_no _ _).mono ?_
  rintro e w2 ⟨rfl, rfl⟩
  go_wp2
  exact ⟨rfl, rfl, hx.out⟩
set_option maxHeartbeats 2000000 in
theorem least_yes (L : Nat) (f : Int → Int) (v : Int) (w : World) (hF : Hid (∀ (x : Int) (W : World), 0 ≤ x → x ≤ 1000000000000000 → Ext w W → Calls Tryz.prog 22 #[.pointer (some ⟨L, 0, none⟩), .int .i64 x] W fun e w' => e = .returned (.int .i64 (f x)) ∧ Ext W w')) (hv : Lst f v) (hf : Fal f) :
    Calls Tryz.prog 26 #[.func (.func 22) #[.pointer (some ⟨L, 0, none⟩)] #[]] w fun e w' => e = .returned (.int .i64 v) ∧ Ext w w' := by
  obtain ⟨y, hy⟩ : ∃ y, f 1000000000000000 = y := ⟨_, rfl⟩
  have hn := (hv.iff hf 1000000000000000 (by decide) (by decide)).2 hv.v2
  have hz := hf.1
  have hM := show Hid _ from hn
  rw [hy] at hn
  replace hy := show Hid _ from hy
  replace hv := show Hid _ from hv
  replace hf : Hid (Fal f) := hf
  replace hz := show Hid _ from hz
  go_enter Tryz.func26, Tryz.ntmps26
  go_wp2_with fail
  refine (hF.out _ _ (by decide) (by decide) (Ext.refl w)).mono ?_
  rintro e w1 ⟨rfl, hx⟩
  rw [hy.out]
  replace hx := show Hid _ from hx
  go_wp2_with fail
  refine (need_ok _ _).mono ?_
  rintro e w2 ⟨rfl, rfl⟩
  clear hn hy
  go_wp2_with fail
  go_loopw [3, 4] (fun u i wr => ∃ lo hi : Int, u = .int .i64 lo ∧ i = .int .i64 hi ∧ 0 ≤ lo ∧ lo < hi ∧ hi ≤ 1000000000000000 ∧ Hid (0 < f lo) ∧ Hid (f hi ≤ 0) ∧ Hid (Ext w wr)) (fun u i _ => (RowKit.intOf i - RowKit.intOf u).toNat)
  case atStart => exact ⟨0, 1000000000000000, rfl, rfl, by decide, by decide, by decide, hz, hM, hx⟩
  case round =>
    obtain ⟨lo, hi, rfl, rfl, l0, l1, l2, hlo, hhi, hx⟩ := hrel
    by_cases hd : 1 < hi - lo
    · obtain ⟨mid, hm⟩ : ∃ mid, lo + (hi - lo).tdiv 2 = mid := ⟨_, rfl⟩
      have e1 : (hi - lo).tdiv 2 = (hi - lo) / 2 := Int.tdiv_eq_ediv_of_nonneg (by omega)
      have m1 : lo < mid ∧ mid < hi := by omega
      obtain ⟨m1, m2⟩ := m1
      clear e1
      go_wp2_with fail
      refine (hF.out mid _ (by omega) (by omega) hx.out).mono ?_
      rintro e w3 ⟨rfl, hx3⟩
      replace hx := show Hid _ from hx.out.trans hx3
      clear hx3
      by_cases hc : f mid ≤ 0
      · have hc' := show Hid _ from hc
        obtain ⟨y, hy⟩ : ∃ y, f mid = y := ⟨_, rfl⟩
        rw [hy] at hc ⊢
        clear hy
        go_wp2
        go_roundw
        case rel => exact ⟨lo, mid, rfl, rfl, l0, m1, by omega, hlo, hc', hx⟩
        case measure => simp [RowKit.intOf]; omega
      · have hc' : Hid (0 < f mid) := by show _ < _; omega
        obtain ⟨y, hy⟩ : ∃ y, f mid = y := ⟨_, rfl⟩
        rw [hy] at hc ⊢
        clear hy
        go_wp2
        go_roundw
        case rel => exact ⟨mid, hi, rfl, rfl, by omega, m2, l2, hc', hhi, hx⟩
        case measure => simp [RowKit.intOf]; omega
    · have e : lo = hi - 1 := by omega
      subst e
      have hu : v = hi := hv.out.uniq ⟨by omega, l2, hhi.out, hlo.out⟩ hf.out
      subst hu
      go_wp2
      go_ret
      exact ⟨rfl, hx.out⟩
end Go.Proofs.YtafjmpaefikdcaaGreatDoor
