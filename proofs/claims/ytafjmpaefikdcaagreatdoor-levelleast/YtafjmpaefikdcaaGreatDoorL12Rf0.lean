
/- The document's own Whole, New, times and plus of layer 12, as contracts: no statement of the seat is proved here. -/
import Derived.Test.YtafjmpaefikdcaaGreatDoorL12Gr3
import Derived.Test.YtafjmpaefikdcaaGreatDoorL12Vl
import Derived.Deep.AppendSrc
namespace Go.Proofs.YtafjmpaefikdcaaGreatDoor.L12
open Go.RowKit
set_option linter.unusedVariables false

theorem own_ext {w w' : World} {B : Nat} {e : TypeId} {z : Nat} {v : Value} {T : Nat} {xs : List Value} (h : w.ownsRow B e z v T xs) (hx : Ext w w') : w'.ownsRow B e z v T xs := by
  refine ⟨h.1, ?_⟩
  rcases h.2 with h0 | ⟨g, c, cur, h1, h2, h3, h4⟩
  · exact Or.inl h0
  · refine Or.inr ⟨g, c, cur, h1, h2, ?_, h4⟩
    rw [hx.below.block g (Array.getElem?_eq_some_iff.1 h3).1]
    exact h3
theorem own_lo {w : World} {B : Nat} {e : TypeId} {z : Nat} {v : Value} {T : Nat} {xs : List Value} (h : w.ownsRow B e z v T xs) : ∀ k, v.ownBlock = some k → B ≤ k := fun k hk => (h.lt k hk).1
theorem info_i64 : (Tryz.prog.info? 2).map (fun i => (i.zero, i.size, i.bytes)) = some (some (.int .i64 0), 1, 8) := by kernel_rfl
/-- The document's bearer in its block: the parts of a year, whether halves go up, the rest. -/
structure Rbr (w : World) (C : Nat) (P : Int) (up : Bool) (r : Int) : Prop where
  c0 : w.cell? ⟨C, 0, none⟩ = some (.int .i64 P)
  c1 : w.cell? ⟨C, 1, none⟩ = some (.bool up)
  c2 : w.cell? ⟨C, 2, none⟩ = some (.int .i64 r)
  fz : w.frozen? ⟨C, 2, none⟩ = false
theorem Rbr.ext {w w' : World} {C : Nat} {P r : Int} {up : Bool} (h : Rbr w C P up r) (hx : Ext w w') : Rbr w' C P up r :=
  ⟨hx.cell_of h.c0, hx.cell_of h.c1, hx.cell_of h.c2, hx.froz_of h.c2 h.fz⟩
theorem Rbr.put {w : World} {C : Nat} {P r : Int} {up : Bool} (h : Rbr w C P up r) (x : Int) : Rbr (w.setCell ⟨C, 2, none⟩ (.int .i64 x)) C P up x :=
  ⟨by rw [other _ (Or.inr (by omega))]; exact h.c0, by rw [other _ (Or.inr (by omega))]; exact h.c1, same h.c2, by simp [go_sem, h.fz]⟩
theorem Rbr.far {w : World} {C D : Nat} {P r : Int} {up : Bool} (h : Rbr w C P up r) (hn : D ≠ C) (o : Nat) (x : Value) : Rbr (w.setCell ⟨D, o, none⟩ x) C P up r :=
  ⟨by rw [other _ (Or.inl hn)]; exact h.c0, by rw [other _ (Or.inl hn)]; exact h.c1, by rw [other _ (Or.inl hn)]; exact h.c2, by simp [go_sem, h.fz]⟩
theorem Rbr.lt {w : World} {C : Nat} {P r : Int} {up : Bool} (h : Rbr w C P up r) : C < w.heap.size := lt_of_cell h.c0
theorem Whole_c (C : Nat) (P r : Int) (up : Bool) (w : World) (h : Rbr w C P up r) (P0 : 0 < P) (P1 : P ≤ 133590) :
    Calls Tryz.prog 67 #[.pointer (some ⟨C, 0, none⟩)] w fun e w' => e = .returned (.int .i64 (1000000000 * P)) ∧ w' = w := by
  have k0 := h.c0
  go_enter Tryz.func67, Tryz.ntmps67
  go_wp2
  go_ret
  exact ⟨rfl, rfl⟩
theorem rNew_1 (c P : Int) (w : World) (hP : Hid (∀ w, Calls Tryz.prog 64 #[.int .i64 c] w fun e w' => e = .returned (.tuple #[.int .i64 P, .int .i64 0]) ∧ w' = w)) :
    Calls Tryz.prog 42 #[.int .i64 c, .int .i64 1] w fun e w' => ∃ C, e = .returned (.tuple #[.pointer (some ⟨C, 0, none⟩), .int .i64 0]) ∧ Rbr w' C P true 0 ∧ w.heap.size ≤ C ∧ Ext w w' := by
  go_enter Tryz.func42, Tryz.ntmps42
  go_wp2_with fail
  refine (hP.out _).mono ?_
  rintro e w ⟨rfl, rfl⟩
  go_wp2
  go_ret2
  exact ⟨_, rfl, ⟨by simp [go_sem], by simp [go_sem], by simp [go_sem], by simp [go_sem]⟩, Nat.le_refl _, (Ext.refl _).alloc _ _⟩
theorem rNew_3 (c P : Int) (w : World) (hP : Hid (∀ w, Calls Tryz.prog 64 #[.int .i64 c] w fun e w' => e = .returned (.tuple #[.int .i64 P, .int .i64 0]) ∧ w' = w)) :
    Calls Tryz.prog 42 #[.int .i64 c, .int .i64 3] w fun e w' => ∃ C, e = .returned (.tuple #[.pointer (some ⟨C, 0, none⟩), .int .i64 0]) ∧ Rbr w' C P false 0 ∧ w.heap.size ≤ C ∧ Ext w w' := by
  go_enter Tryz.func42, Tryz.ntmps42
  go_wp2_with fail
  refine (hP.out _).mono ?_
  rintro e w ⟨rfl, rfl⟩
  go_wp2
  go_ret2
  exact ⟨_, rfl, ⟨by simp [go_sem], by simp [go_sem], by simp [go_sem], by simp [go_sem]⟩, Nat.le_refl _, (Ext.refl _).alloc _ _⟩
theorem rNew_c (c m : Int) (w : World) (hP : Hid (∀ w, Calls Tryz.prog 64 #[.int .i64 c] w fun e w' => e = .returned (.tuple #[.int .i64 0, .int .i64 1]) ∧ w' = w)) :
    Calls Tryz.prog 42 #[.int .i64 c, .int .i64 m] w fun e w' => e = .returned (.tuple #[.pointer none, .int .i64 1]) ∧ Ext w w' := by
  go_enter Tryz.func42, Tryz.ntmps42
  go_wp2_with fail
  refine (hP.out _).mono ?_
  rintro e w ⟨rfl, rfl⟩
  go_wp2
  go_ret2
  exact ⟨rfl, Ext.refl _⟩
theorem rNew_m (c m P : Int) (w : World) (h1 : (m != 1) = true) (h3 : (m != 3) = true) (hP : Hid (∀ w, Calls Tryz.prog 64 #[.int .i64 c] w fun e w' => e = .returned (.tuple #[.int .i64 P, .int .i64 0]) ∧ w' = w)) :
    Calls Tryz.prog 42 #[.int .i64 c, .int .i64 m] w fun e w' => e = .returned (.tuple #[.pointer none, .int .i64 1]) ∧ Ext w w' := by
  go_enter Tryz.func42, Tryz.ntmps42
  go_wp2_with fail
  refine (hP.out _).mono ?_
  rintro e w ⟨rfl, rfl⟩
  go_wp2
  go_ret2
  exact ⟨rfl, Ext.refl _⟩
theorem rNew_ok (c m : Int) (w : World) (h1 : 1 ≤ c) (h2 : c ≤ 3) (hm : m = 1 ∨ m = 3) :
    Calls Tryz.prog 42 #[.int .i64 c, .int .i64 m] w fun e w' => ∃ C, e = .returned (.tuple #[.pointer (some ⟨C, 0, none⟩), .int .i64 0]) ∧ Rbr w' C (ptA c) (decide (m = 1)) 0 ∧ w.heap.size ≤ C ∧ Ext w w' := by
  have hP : Hid (∀ w, Calls Tryz.prog 64 #[.int .i64 c] w fun e w' => e = .returned (.tuple #[.int .i64 (ptA c), .int .i64 0]) ∧ w' = w) := fun w => by
    have := rParts_c c w
    rwa [pt_ok h1 h2] at this
  rcases hm with rfl | rfl
  · exact rNew_1 c _ w hP
  · exact rNew_3 c _ w hP
theorem rNew_no (c m : Int) (w : World) (h : ¬ ((1 ≤ c ∧ c ≤ 3) ∧ (m = 1 ∨ m = 3))) :
    Calls Tryz.prog 42 #[.int .i64 c, .int .i64 m] w fun e w' => e = .returned (.tuple #[.pointer none, .int .i64 1]) ∧ Ext w w' := by
  by_cases hc : 1 ≤ c ∧ c ≤ 3
  · have hm : ¬ (m = 1 ∨ m = 3) := fun k => h ⟨hc, k⟩
    exact rNew_m c m (ptA c) w (by simp; omega) (by simp; omega) fun w => by
      have := rParts_c c w
      rwa [pt_ok hc.1 hc.2] at this
  · exact rNew_c c m w fun w => by
      have := rParts_c c w
      rwa [(pt_no hc).1, (pt_no hc).2] at this

/-- A row of numbers, read. -/
def Row (w : World) (b : Nat) (l : List Int) : Prop := ∀ (k : Nat) (x : Int), l[k]? = some x → w.cell? ⟨b, k, none⟩ = some (.int .i64 x)
theorem Row.ext {w w' : World} {b : Nat} {l : List Int} (h : Row w b l) (hx : Ext w w') : Row w' b l := fun k x hk => hx.cell_of (h k x hk)
/-- Numbers, as values. -/
def nums (l : List Int) : List Value := l.map (.int .i64)
theorem nums_snoc (l : List Int) (d : Int) : nums (l ++ [d]) = nums l ++ [.int .i64 d] := by simp [nums]
theorem nums_len (l : List Int) : (nums l).length = l.length := by simp [nums]
theorem nums_set (l : List Int) (i : Nat) (d : Int) : nums (l.set i d) = (nums l).set i (.int .i64 d) := by simp [nums, List.map_set]
theorem Row.of_own {w : World} {B : Nat} {e : TypeId} {v : Value} {n : Nat} {l : List Int} (hn : l.length = n) (h1 : 1 ≤ n) (h : w.ownsRow B e 1 v n (nums l)) :
    ∃ g c, v = .slice (some ⟨g, 0, none⟩) n c ∧ Row w g l ∧ ∀ j, w.frozen? ⟨g, j, none⟩ = false := by
  have h' := h
  rcases h'.2 with ⟨_, h0⟩ | ⟨g, c, cur, rfl, _⟩
  · omega
  · refine ⟨g, c, rfl, fun k x hk => ?_, fun j => h.frozenAt j⟩
    have hlt : k < n := by have := (List.getElem?_eq_some_iff.1 hk).1; omega
    rw [h.cellAt k (by omega)]
    simp [nums, hk]
set_option maxRecDepth 100000 in
set_option maxHeartbeats 1000000 in
theorem times_c (b n c : Nat) (l : List Int) (y : Int) (w : World) (hn : l.length = n) (n1 : 1 ≤ n) (n2 : n ≤ 20) (hd : Dgs l) (y0 : 0 ≤ y) (y1 : y ≤ 1000000000) (hl : Row w b l) :
    Calls Tryz.prog 65 #[.slice (some ⟨b, 0, none⟩) n c, .int .i64 y] w fun e w' => ∃ (g k : Nat) (o : List Int), e = .returned (.slice (some ⟨g, 0, none⟩) o.length k) ∧ Row w' g o ∧ Dgs o ∧ val o = y * val l ∧ n ≤ o.length ∧ o.length ≤ n + 2 ∧ Ext w w' := by
  obtain ⟨i0, hi, hz0, hz1, hz2⟩ := info_parts info_i64
  replace hd := show Hid _ from hd
  replace hl := show Hid _ from hl
  replace hn := show Hid _ from hn
  go_enter Tryz.func65, Tryz.ntmps65
  go_wp2_with fail
  go_loopw [5, 6, 7] (fun v u i wr => ∃ (k : Nat) (o : List Int) (cy : Int), k ≤ n ∧ i = .int .i64 k ∧ u = .int .i64 cy ∧ 0 ≤ cy ∧ cy ≤ 1000000000 ∧ Hid (o.length = k) ∧ Hid (Dgs o) ∧ Hid (val o + pw k * (cy + y * val (l.drop k)) = y * val l) ∧ Hid (wr.ownsRow w.heap.size 2 1 v k (nums o)) ∧ Hid (Ext w wr)) (fun _ _ i _ => n - (intOf i).toNat)
  case atStart => exact ⟨0, [], 0, Nat.zero_le _, rfl, rfl, by omega, by omega, rfl, (fun x hx => by cases hx), (by show 0 + 1 * (0 + y * val l) = _; omega), World.ownsRow_nil _ _ _ _, Ext.refl w⟩
  case round =>
    obtain ⟨k, o, cy, hk, rfl, rfl, c0, c1, ho, hdo, hv, hr, hx⟩ := hrel
    by_cases hlt : k < n
    · obtain ⟨d, hdk⟩ : ∃ d, l[k]? = some d := ⟨_, List.getElem?_eq_getElem (by rw [hn.out]; exact hlt)⟩
      have hdb := hd.out d (List.mem_of_getElem? hdk)
      have hkc := hx.out.cell_of (hl.out k d hdk)
      have hdr := val_drop hdk
      have hv1 := hv.out
      rw [hdr] at hv1
      have hv2 := tm_round (congrArg pw ho.out) hv1
      clear hv1
      obtain ⟨X, hX⟩ : ∃ X, d * y = X := ⟨_, rfl⟩
      have hXb : 0 ≤ X ∧ X ≤ 999999999000000000 := by
        rw [← hX]
        have := mul_le2 hdb.1 y0 (show d ≤ 999999999 by omega) y1
        exact ⟨Int.mul_nonneg hdb.1 y0, by omega⟩
      obtain ⟨X0, X1⟩ := hXb
      rw [hX] at hv2
      have hq0 : 0 ≤ (X + cy) / 1000000000 := by omega
      have hq1 : (X + cy) / 1000000000 ≤ 1000000000 := by omega
      replace hv2 := show Hid _ from hv2
      replace hdk := show Hid _ from hdk
      replace hdr := show Hid _ from hdr
      obtain ⟨d0, d1⟩ := hdb
      clear hv
      have hsz := hx.out.size
      go_wp2_with (at_builtin; refine wpList_append_own _ rfl (.tmp 23) (.tmp 26) 28 rfl w.heap.size 2 i0 (.int .i64 0) 1 8 Tryz.underlying28 hi hz0 hz1 hz2 rfl (by decide) _ _ _ rfl (hr.out.alloc _) ⟨wr.heap.size, 0, none⟩ 1 1 [.int .i64 ((X + cy) % 1000000000)] rfl rfl ?c1 ?c2 ?c3 ?c4 ?c5 ?_)
      case c1 =>
        intro j u hj
        match j, hj with
        | 0, hj => simp at hj; subst hj; simp [Addr.add]
      case c2 => intro u hu; simp at hu; subst hu; rfl
      case c3 => unfold maxLen; omega
      case c4 => omega
      case c5 => simp; omega
      intro v' w3 hown' hgrow _
      have hx3 : Hid (Ext w w3) := ⟨((hx.out.alloc _ _).below).grown hgrow (by simp; omega) (own_lo hr.out)⟩
      have hr3 : Hid (w3.ownsRow w.heap.size 2 1 v' (k + 1) (nums (o ++ [(X + cy) % 1000000000]))) := by
        show w3.ownsRow _ _ _ _ _ _
        rw [nums_snoc]; exact hown'
      have hdo2 : Hid (Dgs (o ++ [(X + cy) % 1000000000])) := hdo.out.snoc (by omega) (by omega)
      have ho2 : Hid ((o ++ [(X + cy) % 1000000000]).length = k + 1) := by
        show _ = _
        rw [List.length_append, ho.out]; rfl
      have hv3 : Hid (val (o ++ [(X + cy) % 1000000000]) + pw (k + 1) * ((X + cy) / 1000000000 + y * val (l.drop (k + 1))) = y * val l) := by
        show _ = _
        rw [pw_succ]; exact hv2.out
      clear hown' hgrow hr hx hv2 hdo ho
      go_wp2
      go_roundw
      case rel => exact ⟨k + 1, _, _, by omega, by go_num, rfl, hq0, hq1, ho2, hdo2, hv3, hr3, hx3⟩
      case measure => simp [intOf]; omega
    · obtain rfl : n = k := by omega
      have hv4 : Hid (val o + pw o.length * cy = y * val l) := by
        show _ = _
        have := hv.out
        rw [List.drop_eq_nil_of_le (by rw [hn.out]; exact Nat.le_refl _)] at this
        rw [ho.out]
        simpa [val] using this
      obtain ⟨N, hN⟩ : ∃ N, y * val l = N := ⟨_, rfl⟩
      rw [hN] at hv4
      replace hN := show Hid _ from hN
      clear hv
      go_wp2_with fail
      go_loopw [5, 6] (fun v u wr => ∃ (k : Nat) (o : List Int) (cy : Int), u = .int .i64 cy ∧ 0 ≤ cy ∧ (k = n ∧ cy ≤ 1000000000 ∨ k = n + 1 ∧ cy ≤ 1 ∨ k = n + 2 ∧ cy = 0) ∧ Hid (o.length = k) ∧ Hid (Dgs o) ∧ Hid (val o + pw k * cy = N) ∧ Hid (wr.ownsRow w.heap.size 2 1 v k (nums o)) ∧ Hid (Ext w wr)) (fun _ u _ => (intOf u).toNat)
      case atStart => exact ⟨n, o, cy, rfl, c0, Or.inl ⟨rfl, c1⟩, ho, hdo, (by have := hv4.out; rw [ho.out] at this; exact this), hr, hx⟩
      case round =>
        clear hv4 hr hx hdo ho c0 c1 hlt
        obtain ⟨k, o, cy, rfl, c0, hk, ho, hdo, hv, hr, hx⟩ := hrel
        by_cases hlt : 0 < cy
        · have hv2 := fin_round (congrArg pw ho.out) hv.out
          have hq0 : 0 ≤ cy / 1000000000 := by omega
          have hq1 : cy / 1000000000 < cy := by omega
          have hk2 : k + 1 = n ∧ cy / 1000000000 ≤ 1000000000 ∨ k + 1 = n + 1 ∧ cy / 1000000000 ≤ 1 ∨ k + 1 = n + 2 ∧ cy / 1000000000 = 0 := by omega
          replace hv2 := show Hid _ from hv2
          clear hv
          have hsz := hx.out.size
          go_wp2_with (at_builtin; refine wpList_append_own _ rfl (.tmp 32) (.tmp 35) 28 rfl w.heap.size 2 i0 (.int .i64 0) 1 8 Tryz.underlying28 hi hz0 hz1 hz2 rfl (by decide) _ _ _ rfl (hr.out.alloc _) ⟨wr.heap.size, 0, none⟩ 1 1 [.int .i64 (cy % 1000000000)] rfl rfl ?c1 ?c2 ?c3 ?c4 ?c5 ?_)
          case c1 =>
            intro j u hj
            match j, hj with
            | 0, hj => simp at hj; subst hj; simp [Addr.add]
          case c2 => intro u hu; simp at hu; subst hu; rfl
          case c3 => unfold maxLen; omega
          case c4 => omega
          case c5 => simp; omega
          intro v' w3 hown' hgrow _
          have hx3 : Hid (Ext w w3) := ⟨((hx.out.alloc _ _).below).grown hgrow (by simp; omega) (own_lo hr.out)⟩
          have hr3 : Hid (w3.ownsRow w.heap.size 2 1 v' (k + 1) (nums (o ++ [cy % 1000000000]))) := by
            show w3.ownsRow _ _ _ _ _ _
            rw [nums_snoc]; exact hown'
          have hdo2 : Hid (Dgs (o ++ [cy % 1000000000])) := hdo.out.snoc (by omega) (by omega)
          have ho2 : Hid ((o ++ [cy % 1000000000]).length = k + 1) := by
            show _ = _
            rw [List.length_append, ho.out]; rfl
          have hv3 : Hid (val (o ++ [cy % 1000000000]) + pw (k + 1) * (cy / 1000000000) = N) := by
            show _ = _
            rw [pw_succ]; exact hv2.out
          clear hown' hgrow hr hx hv2 hdo ho
          go_wp2
          go_roundw
          case rel => exact ⟨k + 1, _, _, rfl, hq0, hk2, ho2, hdo2, hv3, hr3, hx3⟩
          case measure => simp [intOf]; omega
        · obtain rfl : cy = 0 := by omega
          obtain ⟨g, cc, rfl, hrow, _⟩ := Row.of_own ho.out (by omega) hr.out
          replace hrow := show Hid _ from hrow
          have hvf : Hid (val o = N) := by
            show _ = _
            have := hv.out
            omega
          clear hv hr
          go_wp2
          go_ret
          have e := ho.out
          subst e
          exact ⟨g, cc, o, rfl, hrow.out, hdo.out, hvf.out.trans hN.out.symm, by omega, by omega, hx.out⟩
set_option maxRecDepth 100000 in
set_option maxHeartbeats 1000000 in
theorem plus_c (b n c : Nat) (l : List Int) (s : Int) (w : World) (hn : l.length = n) (n1 : 1 ≤ n) (n2 : n ≤ 20) (hd : Dgs l) (s0 : 0 ≤ s) (s1 : s ≤ 1000000000000000000) (hl : Row w b l) :
    Calls Tryz.prog 66 #[.slice (some ⟨b, 0, none⟩) n c, .int .i64 s] w fun e w' => ∃ (g k : Nat) (o : List Int), e = .returned (.slice (some ⟨g, 0, none⟩) o.length k) ∧ Row w' g o ∧ Dgs o ∧ val o = val l + s ∧ n ≤ o.length ∧ o.length ≤ n + 3 ∧ Ext w w' := by
  obtain ⟨i0, hi, hz0, hz1, hz2⟩ := info_parts info_i64
  replace hd := show Hid _ from hd
  replace hl := show Hid _ from hl
  replace hn := show Hid _ from hn
  obtain ⟨N, hN⟩ : ∃ N, val l + s = N := ⟨_, rfl⟩
  replace hN := show Hid _ from hN
  go_enter Tryz.func66, Tryz.ntmps66
  go_wp2_with (at_builtin; refine wpList_append_own _ rfl (.const (.slice none 0 0)) (.tmp 7) 28 rfl w.heap.size 2 i0 (.int .i64 0) 1 8 Tryz.underlying28 hi hz0 hz1 hz2 rfl (by decide) _ _ _ rfl (World.ownsRow_nil _ _ _ _) ⟨b, 0, none⟩ n c (nums l) rfl ?c0 ?c1 ?c2 ?c3 ?c4 ?c5 ?_)
  case c0 => rw [nums_len, hn.out]; simp
  case c1 =>
    intro j u hj
    simp [nums] at hj
    obtain ⟨x, hx, rfl⟩ := hj
    rw [Addr.add_lit]
    exact (by simpa using hl.out j x hx)
  case c2 => intro u hu; simp [nums] at hu; obtain ⟨x, _, rfl⟩ := hu; rfl
  case c3 => unfold maxLen; omega
  case c4 => omega
  case c5 => exact Nat.le_refl _
  intro v1 w1 hown' hgrow _
  have hx1 : Hid (Ext w w1) := ⟨((Ext.refl w).below).grown hgrow (Nat.le_refl _) (fun k hk => by cases hk)⟩
  have hr1 : Hid (w1.ownsRow w.heap.size 2 1 v1 n (nums l)) := by
    show w1.ownsRow _ _ _ _ _ _
    simpa using hown'
  clear hown' hgrow
  go_wp2_with fail
  go_loopw [1, 5, 6] (fun q v i wr => ∃ (k L : Nat) (o : List Int) (cy : Int), i = .int .i64 k ∧ q = .int .i64 cy ∧ 0 ≤ cy ∧ k ≤ L ∧ (L = n ∧ cy ≤ 1000000000000000000 ∨ L = n + 1 ∧ k = L ∧ cy ≤ 1000000000 ∨ L = n + 2 ∧ k = L ∧ cy ≤ 1 ∨ L = n + 3 ∧ k = L ∧ cy = 0) ∧ Hid (o.length = L) ∧ Hid (Dgs o) ∧ Hid (val o + pw k * cy = N) ∧ Hid (wr.ownsRow w.heap.size 2 1 v L (nums o)) ∧ Hid (Ext w wr)) (fun q _ i _ => (intOf q).toNat + (n - (intOf i).toNat))
  case atStart => exact ⟨0, n, l, s, rfl, rfl, s0, Nat.zero_le _, Or.inl ⟨rfl, s1⟩, hn, hd, (by have := hN.out; show _ = _; rw [pw_zero]; omega), hr1, hx1⟩
  case round =>
    clear hr1 hx1
    obtain ⟨k, L, o, cy, rfl, rfl, c0, hkL, hk, ho, hdo, hv, hr, hx⟩ := hrel
    by_cases hlt : 0 < cy
    · by_cases hkl : k < L
      · have hne : ((k : Int) == (L : Int)) = false := by simp; omega
        obtain ⟨g, cc, rfl, hrow, hfr⟩ := Row.of_own ho.out (by omega) hr.out
        obtain ⟨x, hxk⟩ : ∃ x, o[k]? = some x := ⟨_, List.getElem?_eq_getElem (by rw [ho.out]; exact hkl)⟩
        obtain ⟨x0, x1⟩ := hdo.out x (List.mem_of_getElem? hxk)
        have hgw := own_lo hr.out g rfl
        have kc := hrow k x hxk
        have kf := hfr k
        have hv2 := pl_round hxk rfl hv.out
        replace hv2 := show Hid _ from hv2
        clear hv hrow hfr hxk
        have hx4 : Hid (Ext w (wr.setCell ⟨g, k, none⟩ (.int .i64 ((cy + x) % 1000000000)))) := (hx.out).setCell hgw _
        have hr4 : Hid ((wr.setCell ⟨g, k, none⟩ (.int .i64 ((cy + x) % 1000000000))).ownsRow w.heap.size 2 1 (.slice (some ⟨g, 0, none⟩) L cc) L (nums (o.set k ((cy + x) % 1000000000)))) := by
          show World.ownsRow _ _ _ _ _ _ _
          rw [nums_set]; exact (hr.out.stored k _).1
        have hdo2 : Hid (Dgs (o.set k ((cy + x) % 1000000000))) := hdo.out.set k (by omega) (by omega)
        have ho2 : Hid ((o.set k ((cy + x) % 1000000000)).length = L) := by
          show _ = _
          rw [List.length_set]; exact ho.out
        have hv3 : Hid (val (o.set k ((cy + x) % 1000000000)) + pw (k + 1) * ((cy + x) / 1000000000) = N) := by
          show _ = _
          rw [pw_succ]; exact hv2.out
        clear hv2 hr hx
        go_wp2
        go_roundw
        case rel => exact ⟨k + 1, L, _, _, by go_num, rfl, by omega, by omega, by omega, ho2, hdo2, hv3, hr4, hx4⟩
        case measure => simp [intOf]; omega
      · obtain rfl : L = k := by omega
        have hne : ((L : Int) == (L : Int)) = true := by simp
        have hsz := hx.out.size
        obtain ⟨g0, cc0, rfl, _, _⟩ := Row.of_own ho.out (by omega) hr.out
        go_wp2_with (at_builtin; refine wpList_append_own _ rfl (.tmp 17) (.tmp 18) 28 rfl w.heap.size 2 i0 (.int .i64 0) 1 8 Tryz.underlying28 hi hz0 hz1 hz2 rfl (by decide) _ _ _ rfl (hr.out.alloc _) ⟨wr.heap.size, 0, none⟩ 1 1 [.int .i64 0] rfl rfl ?c1 ?c2 ?c3 ?c4 ?c5 ?_)
        case c2 => first | rfl | (intro u hu; simp at hu; subst hu; rfl)
        case c3 => unfold maxLen; omega
        case c4 => omega
        case c5 => first | omega | (simp; omega)
        intro v' w3 hown' hgrow _
        have hx3 : Hid (Ext w w3) := ⟨((hx.out.alloc _ _).below).grown hgrow (by simp; omega) (own_lo hr.out)⟩
        have hr3 : Hid (w3.ownsRow w.heap.size 2 1 v' (L + 1) (nums (o ++ [0]))) := by
          show w3.ownsRow _ _ _ _ _ _
          rw [nums_snoc]; exact hown'
        have ho3 : Hid ((o ++ [0]).length = L + 1) := by
          show _ = _
          rw [List.length_append, ho.out]; rfl
        have hdo3 : Hid (Dgs (o ++ [0])) := hdo.out.snoc (by omega) (by omega)
        clear hown' hgrow hr hx
        obtain ⟨g, cc, rfl, hrow, hfr⟩ := Row.of_own ho3.out (by omega) hr3.out
        have hxk : (o ++ [0])[L]? = some 0 := by rw [← ho.out]; simp
        have hgw := own_lo hr3.out g rfl
        have kc := hrow L 0 hxk
        have kf := hfr L
        have hv2 := pl_round (T := N) (v := cy) hxk rfl (by rw [val_snoc, Int.mul_zero, Int.add_zero]; exact hv.out)
        rw [Int.add_zero] at hv2
        replace hv2 := show Hid _ from hv2
        clear hv hrow hfr hxk ho hdo
        have hx4 : Hid (Ext w (w3.setCell ⟨g, L, none⟩ (.int .i64 (cy % 1000000000)))) := (hx3.out).setCell hgw _
        have hr4 : Hid ((w3.setCell ⟨g, L, none⟩ (.int .i64 (cy % 1000000000))).ownsRow w.heap.size 2 1 (.slice (some ⟨g, 0, none⟩) (L + 1) cc) (L + 1) (nums ((o ++ [0]).set L (cy % 1000000000)))) := by
          show World.ownsRow _ _ _ _ _ _ _
          rw [nums_set]; exact (hr3.out.stored L _).1
        have hdo2 : Hid (Dgs ((o ++ [0]).set L (cy % 1000000000))) := hdo3.out.set L (by omega) (by omega)
        have ho2 : Hid (((o ++ [0]).set L (cy % 1000000000)).length = (L + 1)) := by
          show _ = _
          rw [List.length_set]; exact ho3.out
        have hv3 : Hid (val ((o ++ [0]).set L (cy % 1000000000)) + pw (L + 1) * (cy / 1000000000) = N) := by
          show _ = _
          rw [pw_succ]; exact hv2.out
        clear hv2 hr3 hx3
        go_wp2
        go_roundw
        case rel => exact ⟨L + 1, (L + 1), _, _, by go_num, rfl, by omega, by omega, by omega, ho2, hdo2, hv3, hr4, hx4⟩
        case measure => simp [intOf]; omega
    · obtain rfl : cy = 0 := by omega
      obtain ⟨g, cc, rfl, hrow, _⟩ := Row.of_own ho.out (by omega) hr.out
      replace hrow := show Hid _ from hrow
      have hvf : Hid (val o = N) := by
        show _ = _
        have := hv.out
        omega
      clear hv hr
      go_wp2
      go_ret
      have e := ho.out
      subst e
      exact ⟨g, cc, o, rfl, hrow.out, hdo.out, hvf.out.trans hN.out.symm, by omega, by omega, hx.out⟩
end Go.Proofs.YtafjmpaefikdcaaGreatDoor.L12