/- The document's Left and Of of layer 13, as contracts: no statement of the seat is proved here. -/
import Derived.Test.YtafjmpaefikdcaaGreatDoorLv4
import Derived.Test.YtafjmpaefikdcaaGreatDoorLv3w
namespace Go.Proofs.YtafjmpaefikdcaaGreatDoor
open Go.RowKit
open L12 (Rst)
open L8 (Slc)
set_option linter.unusedVariables false
set_option maxRecDepth 100000

theorem asked_e (p : Prd) (vr vl vh v : Value) (l : List Int) (a E : Int) (w : World) (hi : Inp w p vr vl vh) (hs : Slc w v l) (hl : l.length ≤ 30000) (hE : askE p l a E) :
    Calls Tryz.prog 23 #[.agg (pcells p vr vl vh), v, .int .i64 a] w fun e w' => e = .returned (.int .i64 E) ∧ Ext w w' := by
  rcases hE with ⟨hok, rfl⟩ | ⟨hok, hn, rfl⟩ | ⟨hok, hO, rfl⟩
  · exact asked_bad p vr vl vh v a w hi hok
  · obtain ⟨sa, c, rfl, hS⟩ := sll_of hs
    exact asked_c p vr vl vh sa l.length c l a 1 w hi hS hl hok (fun h => absurd h hn) (fun _ => rfl)
  · obtain ⟨sa, c, rfl, hS⟩ := sll_of hs
    exact asked_c p vr vl vh sa l.length c l a 0 w hi hS hl hok (fun _ => rfl) (fun h => absurd hO h)
theorem walk_v (p : Prd) (vr vl vh v : Value) (l : List Int) (a x : Int) (w : World) (hi : Inp w p vr vl vh) (hs : Slc w v l) (hok : okP p = true) (hO : Okl p.tm l a) (x0 : 0 ≤ x) (x1 : x ≤ 1000000000000000) :
    Calls Tryz.prog 24 #[.agg (pcells p vr vl vh), v, .int .i64 a, .int .i64 x] w fun e w' => e = .returned (.int .i64 (lvl p l a x)) ∧ Ext w w' := by
  obtain ⟨sa, c, rfl, hS⟩ := sll_of hs
  have k := okL_of hok
  have t := tm_T hok
  exact walk_c p vr vl vh sa l.length c l a x p.rd (whl p.cn) p.rt p.gr _ w hi hS (by have := hO.1; omega) hO.2.1 k.c1 k.c2 k.m rfl rfl rfl k.r0 k.r1 rfl k.g0 k.g1 hO.2.2.1 hO.2.2.2 x0 x1 rfl
set_option maxHeartbeats 1000000 in
theorem rLeft_no (p : Prd) (vr vl vh v : Value) (l : List Int) (a x E : Int) (w : World) (hi : Inp w p vr vl vh) (hs : Slc w v l) (hl : l.length ≤ 30000) (hE : askE p l a E) (h0 : E ≠ 0) :
    Calls Tryz.prog 10 #[.agg (pcells p vr vl vh), v, .int .i64 a, .int .i64 x] w fun e w' => e = .returned (.tuple #[.int .i64 0, .int .i64 E]) ∧ Ext w w' := by
  have hA : Hid (∀ W, Ext w W → Calls Tryz.prog 23 #[.agg (pcells p vr vl vh), v, .int .i64 a] W fun e w' => e = .returned (.int .i64 E) ∧ Ext W w') := fun W hx => asked_e p vr vl vh v l a E W (hi.ext hx) (hs.ext hx) hl hE
  have hone := hi.one
  have hbox := box_prod p vr vl vh hone
  obtain ⟨W1, P, hW1, hb, hx1, hB⟩ : ∃ W b, w.alloc (.cells (pcells p vr vl vh) 27) = W ∧ w.heap.size = b ∧ Ext w W ∧ Blk W b (pcells p vr vl vh) := ⟨_, _, rfl, rfl, (Ext.refl w).alloc _ _, heap_alloc_last w _⟩
  have hsz : (pcells p vr vl vh).size = 19 := rfl
  replace hx1 := show Hid _ from hx1
  clear hi hs hl hE
  go_enter Tryz.func10, Tryz.ntmps10
  go_wp2_with (refine load27 hB hsz rfl rfl rfl ?_)
  refine Calls.mono (hA.out _ hx1.out) ?_
  rintro e w2 ⟨rfl, hx2⟩
  replace hB := hB.ext hx2
  replace hx2 := show Hid _ from hx1.out.trans hx2
  clear hA hx1 hbox hW1 hb hone
  go_wp2
  go_ret2
  exact ⟨rfl, hx2.out⟩
set_option maxHeartbeats 1000000 in
theorem rLeft_arg (p : Prd) (vr vl vh v : Value) (l : List Int) (a x : Int) (w : World) (hi : Inp w p vr vl vh) (hs : Slc w v l) (hl : l.length ≤ 30000) (hE : askE p l a 0) (hx : ¬ (0 ≤ x ∧ x ≤ 1000000000000000)) :
    Calls Tryz.prog 10 #[.agg (pcells p vr vl vh), v, .int .i64 a, .int .i64 x] w fun e w' => e = .returned (.tuple #[.int .i64 0, .int .i64 1]) ∧ Ext w w' := by
  have hA : Hid (∀ W, Ext w W → Calls Tryz.prog 23 #[.agg (pcells p vr vl vh), v, .int .i64 a] W fun e w' => e = .returned (.int .i64 0) ∧ Ext W w') := fun W hx => asked_e p vr vl vh v l a 0 W (hi.ext hx) (hs.ext hx) hl hE
  have hone := hi.one
  have hbox := box_prod p vr vl vh hone
  obtain ⟨W1, P, hW1, hb, hx1, hB⟩ : ∃ W b, w.alloc (.cells (pcells p vr vl vh) 27) = W ∧ w.heap.size = b ∧ Ext w W ∧ Blk W b (pcells p vr vl vh) := ⟨_, _, rfl, rfl, (Ext.refl w).alloc _ _, heap_alloc_last w _⟩
  have hsz : (pcells p vr vl vh).size = 19 := rfl
  replace hx1 := show Hid _ from hx1
  clear hi hs hl hE
  go_enter Tryz.func10, Tryz.ntmps10
  go_wp2_with (refine load27 hB hsz rfl rfl rfl ?_)
  refine Calls.mono (hA.out _ hx1.out) ?_
  rintro e w2 ⟨rfl, hx2⟩
  replace hB := hB.ext hx2
  replace hx2 := show Hid _ from hx1.out.trans hx2
  clear hA hx1 hbox hW1 hb hone
  by_cases h1 : x < 0
  · clear hx
    go_wp2
    go_ret2
    exact ⟨rfl, hx2.out⟩
  · have h2 : 1000000000000000 < x := by omega
    clear hx
    go_wp2
    go_ret2
    exact ⟨rfl, hx2.out⟩
set_option maxHeartbeats 1000000 in
theorem rLeft_yes (p : Prd) (vr vl vh v : Value) (l : List Int) (a x : Int) (w : World) (hi : Inp w p vr vl vh) (hs : Slc w v l) (hl : l.length ≤ 30000) (hok : okP p = true) (hO : Okl p.tm l a) (x0 : 0 ≤ x) (x1 : x ≤ 1000000000000000) (V : Int) (hV : lvl p l a x = V) :
    Calls Tryz.prog 10 #[.agg (pcells p vr vl vh), v, .int .i64 a, .int .i64 x] w fun e w' => e = .returned (.tuple #[.int .i64 V, .int .i64 0]) ∧ Ext w w' := by
  have hA : Hid (∀ W, Ext w W → Calls Tryz.prog 23 #[.agg (pcells p vr vl vh), v, .int .i64 a] W fun e w' => e = .returned (.int .i64 0) ∧ Ext W w') := fun W hx => asked_e p vr vl vh v l a 0 W (hi.ext hx) (hs.ext hx) hl (Or.inr (Or.inr ⟨hok, hO, rfl⟩))
  have hW : Hid (∀ W, Ext w W → Calls Tryz.prog 24 #[.agg (pcells p vr vl vh), v, .int .i64 a, .int .i64 x] W fun e w' => e = .returned (.int .i64 V) ∧ Ext W w') := fun W hx => hV ▸ walk_v p vr vl vh v l a x W (hi.ext hx) (hs.ext hx) hok hO x0 x1
  have hone := hi.one
  have hbox := box_prod p vr vl vh hone
  obtain ⟨W1, P, hW1, hb, hx1, hB⟩ : ∃ W b, w.alloc (.cells (pcells p vr vl vh) 27) = W ∧ w.heap.size = b ∧ Ext w W ∧ Blk W b (pcells p vr vl vh) := ⟨_, _, rfl, rfl, (Ext.refl w).alloc _ _, heap_alloc_last w _⟩
  have hsz : (pcells p vr vl vh).size = 19 := rfl
  replace hx1 := show Hid _ from hx1
  clear hi hs hl hO hV
  go_enter Tryz.func10, Tryz.ntmps10
  go_wp2_with (refine load27 hB hsz rfl rfl rfl ?_)
  refine Calls.mono (hA.out _ hx1.out) ?_
  rintro e w2 ⟨rfl, hx2⟩
  replace hB := hB.ext hx2
  replace hx2 := show Hid _ from hx1.out.trans hx2
  clear hA hx1 hbox hW1 hb hone
  go_wp2_with (refine load27 hB hsz rfl rfl rfl ?_)
  refine Calls.mono (hW.out _ hx2.out) ?_
  rintro e w3 ⟨rfl, hx3⟩
  replace hx2 := show Hid _ from hx2.out.trans hx3
  clear hW hx3 hB
  go_wp2
  go_ret2
  exact ⟨rfl, hx2.out⟩
set_option maxHeartbeats 1000000 in
theorem rOf_no (p : Prd) (vr vl vh v : Value) (l : List Int) (a E : Int) (w : World) (hi : Inp w p vr vl vh) (hs : Slc w v l) (hl : l.length ≤ 30000) (hE : askE p l a E) (h0 : E ≠ 0) :
    Calls Tryz.prog 12 #[.agg (pcells p vr vl vh), v, .int .i64 a] w fun e w' => e = .returned (.tuple #[.int .i64 0, .int .i64 E]) ∧ Ext w w' := by
  have hA : Hid (∀ W, Ext w W → Calls Tryz.prog 23 #[.agg (pcells p vr vl vh), v, .int .i64 a] W fun e w' => e = .returned (.int .i64 E) ∧ Ext W w') := fun W hx => asked_e p vr vl vh v l a E W (hi.ext hx) (hs.ext hx) hl hE
  have hone := hi.one
  have hbox := box_prod p vr vl vh hone
  obtain ⟨W1, P, hW1, hb, hx1, hB⟩ : ∃ W b, w.alloc (.cells (pcells p vr vl vh) 27) = W ∧ w.heap.size = b ∧ Ext w W ∧ Blk W b (pcells p vr vl vh) := ⟨_, _, rfl, rfl, (Ext.refl w).alloc _ _, heap_alloc_last w _⟩
  have hsz : (pcells p vr vl vh).size = 19 := rfl
  replace hx1 := show Hid _ from hx1
  clear hi hs hl hE
  go_enter Tryz.func12, Tryz.ntmps12
  go_wp2_with (refine load27 hB hsz rfl rfl rfl ?_)
  refine Calls.mono (hA.out _ hx1.out) ?_
  rintro e w2 ⟨rfl, hx2⟩
  replace hB := hB.ext hx2
  replace hx2 := show Hid _ from hx1.out.trans hx2
  clear hA hx1 hbox hW1 hb hone
  go_wp2
  go_ret2
  exact ⟨rfl, hx2.out⟩
set_option maxHeartbeats 1000000 in
theorem rOf_steep (p : Prd) (vr vl vh v : Value) (l : List Int) (a : Int) (w : World) (hi : Inp w p vr vl vh) (hs : Slc w v l) (hl : l.length ≤ 30000) (hok : okP p = true) (hO : Okl p.tm l a) (hn : 0 < lvl p l a 1000000000000000) :
    Calls Tryz.prog 12 #[.agg (pcells p vr vl vh), v, .int .i64 a] w fun e w' => e = .returned (.tuple #[.int .i64 0, .int .i64 10]) ∧ Ext w w' := by
  obtain ⟨V, hV⟩ : ∃ V, lvl p l a 1000000000000000 = V := ⟨_, rfl⟩
  rw [hV] at hn
  have hA : Hid (∀ W, Ext w W → Calls Tryz.prog 23 #[.agg (pcells p vr vl vh), v, .int .i64 a] W fun e w' => e = .returned (.int .i64 0) ∧ Ext W w') := fun W hx => asked_e p vr vl vh v l a 0 W (hi.ext hx) (hs.ext hx) hl (Or.inr (Or.inr ⟨hok, hO, rfl⟩))
  have hW : Hid (∀ W, Ext w W → Calls Tryz.prog 24 #[.agg (pcells p vr vl vh), v, .int .i64 a, .int .i64 1000000000000000] W fun e w' => e = .returned (.int .i64 V) ∧ Ext W w') := fun W hx => hV ▸ walk_v p vr vl vh v l a _ W (hi.ext hx) (hs.ext hx) hok hO (by decide) (by decide)
  have hone := hi.one
  have hbox := box_prod p vr vl vh hone
  obtain ⟨W1, P, hW1, hb, hx1, hB⟩ : ∃ W b, w.alloc (.cells (pcells p vr vl vh) 27) = W ∧ w.heap.size = b ∧ Ext w W ∧ Blk W b (pcells p vr vl vh) := ⟨_, _, rfl, rfl, (Ext.refl w).alloc _ _, heap_alloc_last w _⟩
  have hsz : (pcells p vr vl vh).size = 19 := rfl
  replace hx1 := show Hid _ from hx1
  clear hi hs hl hO hV
  go_enter Tryz.func12, Tryz.ntmps12
  go_wp2_with (refine load27 hB hsz rfl rfl rfl ?_)
  refine Calls.mono (hA.out _ hx1.out) ?_
  rintro e w2 ⟨rfl, hx2⟩
  replace hB := hB.ext hx2
  replace hx2 := show Hid _ from hx1.out.trans hx2
  clear hA hx1 hbox hW1 hb hone
  go_wp2_with (refine load27 hB hsz rfl rfl rfl ?_)
  refine Calls.mono (hW.out _ hx2.out) ?_
  rintro e w3 ⟨rfl, hx3⟩
  replace hx2 := show Hid _ from hx2.out.trans hx3
  clear hW hx3 hB
  go_wp2
  go_ret2
  exact ⟨rfl, hx2.out⟩
set_option maxHeartbeats 2000000 in
theorem rOf_yes (p : Prd) (vr vl vh v : Value) (l : List Int) (a u : Int) (w : World) (hi : Inp w p vr vl vh) (hs : Slc w v l) (hl : l.length ≤ 30000) (hok : okP p = true) (hO : Okl p.tm l a) (hu : Lst (lvl p l a) u) :
    Calls Tryz.prog 12 #[.agg (pcells p vr vl vh), v, .int .i64 a] w fun e w' => e = .returned (.tuple #[.int .i64 u, .int .i64 0]) ∧ Ext w w' := by
  have hfal := lvl_fal hok hO
  have hA : Hid (∀ W, Ext w W → Calls Tryz.prog 23 #[.agg (pcells p vr vl vh), v, .int .i64 a] W fun e w' => e = .returned (.int .i64 0) ∧ Ext W w') := fun W hx => asked_e p vr vl vh v l a 0 W (hi.ext hx) (hs.ext hx) hl (Or.inr (Or.inr ⟨hok, hO, rfl⟩))
  have hW : Hid (∀ x W, 0 ≤ x → x ≤ 1000000000000000 → Ext w W → Calls Tryz.prog 24 #[.agg (pcells p vr vl vh), v, .int .i64 a, .int .i64 x] W fun e w' => e = .returned (.int .i64 (lvl p l a x)) ∧ Ext W w') := fun x W x0 x1 hx => walk_v p vr vl vh v l a x W (hi.ext hx) (hs.ext hx) hok hO x0 x1
  have hone := hi.one
  have hbox := box_prod p vr vl vh hone
  obtain ⟨W1, P, hW1, hb, hx1, hB⟩ : ∃ W b, w.alloc (.cells (pcells p vr vl vh) 27) = W ∧ w.heap.size = b ∧ Ext w W ∧ Blk W b (pcells p vr vl vh) := ⟨_, _, rfl, rfl, (Ext.refl w).alloc _ _, heap_alloc_last w _⟩
  have hsz : (pcells p vr vl vh).size = 19 := rfl
  replace hx1 := show Hid _ from hx1
  clear hi hs hl hO hok
  obtain ⟨f, hf⟩ : ∃ f, lvl p l a = f := ⟨_, rfl⟩
  rw [hf] at hu hfal hW
  clear hf
  obtain ⟨y, hy⟩ : ∃ y, f 1000000000000000 = y := ⟨_, rfl⟩
  have hn := (hu.iff hfal 1000000000000000 (by decide) (by decide)).2 hu.v2
  have hM := show Hid _ from hn
  rw [hy] at hn
  replace hy := show Hid _ from hy
  replace hu := show Hid _ from hu
  replace hfal : Hid (Fal f) := hfal
  go_enter Tryz.func12, Tryz.ntmps12
  go_wp2_with (refine load27 hB hsz rfl rfl rfl ?_)
  refine Calls.mono (hA.out _ hx1.out) ?_
  rintro e w2 ⟨rfl, hx2⟩
  replace hB := hB.ext hx2
  replace hx2 := show Hid _ from hx1.out.trans hx2
  clear hA hx1 hbox hW1 hb hone
  go_wp2_with (refine load27 hB hsz rfl rfl rfl ?_)
  refine Calls.mono (hW.out _ _ (by decide) (by decide) hx2.out) ?_
  rintro e w3 ⟨rfl, hx3⟩
  rw [hy.out]
  have hBl : ∀ W, Ext w3 W → Blk W P (pcells p vr vl vh) := fun W hX => (hB.ext hx3).ext hX
  have hx := show Hid _ from hx2.out.trans hx3
  have hy3 : Hid (Ext w3 w3) := Ext.refl _
  replace hBl := show Hid _ from hBl
  clear hx3 hx2 hB
  go_wp2_with fail
  clear hn hy
  go_loopw [9, 10] (fun i j wr => ∃ lo hi : Int, i = .int .i64 lo ∧ j = .int .i64 hi ∧ 0 ≤ lo ∧ lo ≤ hi ∧ hi ≤ 1000000000000000 ∧ Hid (lo = 0 ∨ 0 < f (lo - 1)) ∧ Hid (f hi ≤ 0) ∧ Hid (Ext w3 wr) ∧ Hid (Ext w wr)) (fun i j _ => (RowKit.intOf j - RowKit.intOf i).toNat)
  case atStart => exact ⟨0, 1000000000000000, rfl, rfl, by decide, by decide, by decide, Or.inl rfl, hM, hy3, hx⟩
  case round =>
    obtain ⟨lo, hi, rfl, rfl, l0, l1, l2, hlo, hhi, hz, hx⟩ := hrel
    have hB := hBl.out _ hz.out
    by_cases hd : lo < hi
    · obtain ⟨mid, hm⟩ : ∃ mid, lo + (hi - lo).tdiv 2 = mid := ⟨_, rfl⟩
      have e1 : (hi - lo).tdiv 2 = (hi - lo) / 2 := Int.tdiv_eq_ediv_of_nonneg (by omega)
      have m1 : lo ≤ mid ∧ mid < hi := by omega
      obtain ⟨m1, m2⟩ := m1
      clear e1
      go_wp2_with (refine load27 hB hsz rfl rfl rfl ?_)
      refine Calls.mono (hW.out mid _ (by omega) (by omega) hx.out) ?_
      rintro e w4 ⟨rfl, hx4⟩
      replace hx := show Hid _ from hx.out.trans hx4
      replace hz := show Hid _ from hz.out.trans hx4
      clear hx4 hB
      by_cases hc : f mid ≤ 0
      · have hc' := show Hid _ from hc
        obtain ⟨y, hy⟩ : ∃ y, f mid = y := ⟨_, rfl⟩
        rw [hy] at hc ⊢
        clear hy
        go_wp2
        go_roundw
        case rel => exact ⟨lo, mid, rfl, rfl, l0, m1, by omega, hlo, hc', hz, hx⟩
        case measure => simp [RowKit.intOf]; omega
      · have hc' : Hid (mid + 1 = 0 ∨ 0 < f (mid + 1 - 1)) := Or.inr (by rw [show mid + 1 - 1 = mid by omega]; omega)
        obtain ⟨y, hy⟩ : ∃ y, f mid = y := ⟨_, rfl⟩
        rw [hy] at hc ⊢
        clear hy
        go_wp2
        go_roundw
        case rel => exact ⟨mid + 1, hi, by go_num, rfl, by omega, by omega, l2, hc', hhi, hz, hx⟩
        case measure => simp [RowKit.intOf]; omega
    · obtain rfl : lo = hi := by omega
      have h0 := hfal.out.1
      have hl0 : 1 ≤ lo := by
        by_cases c : 1 ≤ lo
        · exact c
        · have e : lo = 0 := by omega
          have := hhi.out
          rw [e] at this
          omega
      have hlt : 0 < f (lo - 1) := by
        rcases hlo.out with h | h
        · omega
        · exact h
      have hq : u = lo := hu.out.uniq ⟨hl0, l2, hhi.out, hlt⟩ hfal.out
      subst hq
      clear h0 hlt
      go_wp2
      go_ret2
      exact ⟨rfl, hx.out⟩
end Go.Proofs.YtafjmpaefikdcaaGreatDoor
