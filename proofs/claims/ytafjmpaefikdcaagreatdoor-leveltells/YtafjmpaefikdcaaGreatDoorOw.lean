
/- Copies of numbers with room behind them, held against each other ([]int64), as contracts; no statement of the seat is proved here. -/
import Derived.Test.YtafjmpaefikdcaaGreatDoorDu3
import Derived.Deep.AppendSrc
namespace Go.Proofs.YtafjmpaefikdcaaGreatDoor
namespace Ow
open Go.RowKit
open L8 (Slc other same ret_bool)
set_option linter.unusedVariables false

/-- These numbers lie in a block's first cells, and may be written. -/
structure Lst (w : World) (g : Nat) (L : List Int) : Prop where
  cell : ∀ (k : Nat) (x : Int), L[k]? = some x → w.cell? ⟨g, k, none⟩ = some (.int .i64 x)
  free : ∀ (k : Nat) (x : Int), L[k]? = some x → w.frozen? ⟨g, k, none⟩ = false
theorem Lst.ext {w w' : World} {g : Nat} {L : List Int} (h : Lst w g L) (hx : Ext w w') : Lst w' g L :=
  ⟨fun k x hk => hx.cell_of (h.cell k x hk), fun k x hk => hx.froz_of (h.cell k x hk) (h.free k x hk)⟩
theorem Lst.front {w : World} {g : Nat} {L M : List Int} (h : Lst w g (L ++ M)) : Lst w g L :=
  ⟨fun k x hk => h.cell k x (by rw [List.getElem?_append_left (List.getElem?_eq_some_iff.1 hk).1]; exact hk), fun k x hk => h.free k x (by rw [List.getElem?_append_left (List.getElem?_eq_some_iff.1 hk).1]; exact hk)⟩
/-- A block of so many cells that may be written. -/
def Cells (w : World) (g T : Nat) : Prop := ∀ k, k < T → (∃ u, w.cell? ⟨g, k, none⟩ = some u) ∧ w.frozen? ⟨g, k, none⟩ = false
theorem Cells.set {w : World} {g T : Nat} (h : Cells w g T) (j : Nat) (v : Value) : Cells (w.setCell ⟨g, j, none⟩ v) g T := by
  intro k hk
  obtain ⟨⟨u, hu⟩, hf⟩ := h k hk
  refine ⟨?_, by simpa using hf⟩
  by_cases e : k = j
  · subst e; exact ⟨v, same hu⟩
  · exact ⟨u, by rw [other _ (Or.inr (fun h => e h.symm))]; exact hu⟩
theorem Lst.put {w : World} {g T : Nat} {L : List Int} (h : Lst w g L) (hc : Cells w g T) (hT : L.length < T) (v : Int) : Lst (w.setCell ⟨g, L.length, none⟩ (.int .i64 v)) g (L ++ [v]) := by
  have key : ∀ (k : Nat) (x : Int), (L ++ [v])[k]? = some x → (w.setCell ⟨g, L.length, none⟩ (.int .i64 v)).cell? ⟨g, k, none⟩ = some (.int .i64 x) := by
    intro k x hk
    by_cases e : k = L.length
    · subst e
      simp at hk
      subst hk
      obtain ⟨⟨u, hu⟩, _⟩ := hc _ hT
      exact same hu
    · have hlt : k < L.length := by
        have := (List.getElem?_eq_some_iff.1 hk).1
        simp at this; omega
      rw [other _ (Or.inr (fun h => e h.symm))]
      rw [List.getElem?_append_left hlt] at hk
      exact h.cell k x hk
  refine ⟨key, fun k x hk => ?_⟩
  have : k < T := by
    have := (List.getElem?_eq_some_iff.1 hk).1
    simp at this; omega
  simpa using (hc k this).2
theorem Cells.of_own {w : World} {B g n T : Nat} {e : TypeId} {xs : List Value} (h : w.ownsRow B e 1 (.slice (some ⟨g, 0, none⟩) n T) n xs) : Cells w g T := by
  intro k hk
  refine ⟨?_, h.frozenAt k⟩
  rcases h.2 with ⟨h0, _⟩ | ⟨g', c', cur, h1, h2, h3, h4, h5, h6, h7⟩
  · cases h0
  · injection h1 with e1 e2 e3
    injection e1 with e1
    injection e1 with e1
    subst e1; subst e3
    refine ⟨cur[k]'(by omega), ?_⟩
    simp [World.cell?, h3]
theorem Lst.of_own {w : World} {B g T : Nat} {e : TypeId} {l : List Int} (h : w.ownsRow B e 1 (.slice (some ⟨g, 0, none⟩) l.length T) l.length (l.map (.int .i64))) : Lst w g l :=
  ⟨fun k x hk => by rw [h.cellAt k (by have := (List.getElem?_eq_some_iff.1 hk).1; omega)]; simp [hk], fun k x hk => h.frozenAt k⟩
/-- What a slice's address gives to an append of its numbers. -/
theorem Slc.src {w : World} {v : Value} {l : List Int} (h : Slc w v l) : ∃ ao c, v = .slice ao l.length c ∧ (ao = none → l.length = 0 ∧ c = 0) ∧
    ∀ w' : World, Ext w w' → ∀ ad, ao = some ad → ∀ j u, (l.map (Value.int .i64))[j]? = some u → w'.cell? (ad.add j) = some u := by
  rcases h with ⟨a, c, rfl, hn, rfl⟩ | ⟨b, off, c, rfl, hc⟩
  · exact ⟨a, c, rfl, (fun h => ⟨rfl, hn h⟩), fun w' hx ad _ j u hj => by simp at hj⟩
  · refine ⟨_, c, rfl, (fun h => by cases h), fun w' hx ad had j u hj => ?_⟩
    obtain rfl := Option.some.inj had
    simp at hj
    obtain ⟨x, h1, rfl⟩ := hj
    rw [Addr.add_lit]
    exact hx.cell_of (hc j x h1)
set_option maxHeartbeats 1000000 in
theorem Own_c (v : Value) (l : List Int) (w : World) (hl : l.length ≤ 1000) (hv : Slc w v l) :
    Calls Tryz.prog 8 #[v, .int .i64 71] w fun e w' => (∃ g, e = .returned (.slice (some ⟨g, 0, none⟩) l.length (l.length + 3)) ∧ w.heap.size ≤ g ∧ g < w'.heap.size ∧ Lst w' g (l ++ [71, 71, 71])) ∧ Ext w w' := by
  obtain ⟨ao, c, rfl, hnone, hcl⟩ := hv.src
  clear hv
  replace hcl := show Hid _ from hcl
  replace hnone := show Hid _ from hnone
  obtain ⟨i0, hi, hz0, hz1, hz2⟩ := info_parts info_i64
  obtain ⟨n, hn⟩ : ∃ n, l.length = n := ⟨_, rfl⟩
  rw [hn] at hl ⊢
  rw [hn] at hnone
  replace hn := show Hid _ from hn
  go_enter Tryz.func8, Tryz.ntmps8
  go_wp2_with (at_make; refine wpList_make_own w rfl _ (.tmp 10) 28 rfl w.heap.size 2 i0 (.int .i64 0) 1 Tryz.underlying28 hi hz0 hz1 .i64 .i64 _ (n + 3) rfl rfl (by omega) (by rw [hz2]; omega) (by unfold maxLen; omega) (Nat.le_refl _) ?_)
  intro w1 hown1 hg1
  have hx1 := show Hid (Ext w w1) from Ext.grown hg1
  obtain ⟨g, hgg⟩ : ∃ g, w.heap.size = g := ⟨_, rfl⟩
  have lo : w.heap.size ≤ g := by omega
  rw [hgg] at hown1 ⊢
  clear hg1
  go_wp2_with (at_builtin; refine wpList_append_fits_any w1 rfl (.tmp 12) (.tmp 13) 28 rfl g 2 i0 1 Tryz.underlying28 hi hz1 g 0 (n + 3) [] rfl hown1 ao n c (l.map (.int .i64)) rfl ?c0 hnone.out (hcl.out _ hx1.out) ?c2 ?c3 ?_)
  case c0 => simp; exact hn.out
  case c2 => intro u hu; simp at hu; obtain ⟨x, _, rfl⟩ := hu; rfl
  case c3 => omega
  intro w2 hown2 hg2
  have hx2 : Hid (Ext w w2) := ⟨hx1.out.below.grown hg2 (by have := hx1.out.size; omega) (fun k hk => by injection hk with hk; subst hk; exact lo)⟩
  have hL : Hid (Lst w2 g (l ++ List.replicate 0 71)) := by
    show Lst _ _ _
    have : w2.ownsRow g 2 1 (.slice (some ⟨g, 0, none⟩) l.length (n + 3)) l.length (l.map (.int .i64)) := by rw [hn.out]; simpa using hown2
    simpa using Lst.of_own this
  have hC : Hid (Cells w2 g (n + 3)) := Cells.of_own hown2
  have hsz : g < w2.heap.size := (hown2.lt g rfl).2
  clear hown1 hown2 hg2 hx1 hi hz0 hz1 hz2 hcl hnone hgg
  go_wp2_with fail
  go_loopw [7] (fun i wr => ∃ k : Nat, n ≤ k ∧ k ≤ n + 3 ∧ i = .int .i64 k ∧ Hid (Lst wr g (l ++ List.replicate (k - n) 71)) ∧ Hid (Cells wr g (n + 3)) ∧ Hid (Ext w wr) ∧ Hid (g < wr.heap.size)) (fun i _ => n + 3 - (intOf i).toNat)
  case atStart => exact ⟨n, Nat.le_refl _, by omega, rfl, by rw [Nat.sub_self]; exact hL, hC, hx2, hsz⟩
  case round =>
    clear hL hC hx2 hsz
    obtain ⟨k, hk1, hk2, rfl, hL, hC, hx, hsz⟩ := hrel
    by_cases hlt : k < n + 3
    · obtain ⟨⟨u, hu⟩, hf⟩ := hC.out k hlt
      go_wp2
      go_roundw
      case rel =>
        refine ⟨k + 1, by omega, by omega, by go_num, ?_, hC.out.set k _, hx.out.setCell lo _, by show _ < _; simpa using hsz.out⟩
        show Lst _ _ _
        have hlen : (l ++ List.replicate (k - n) (71 : Int)).length = k := by have := hn.out; simp; omega
        have := hL.out.put (T := n + 3) hC.out (by rw [hlen]; omega) 71
        rw [hlen] at this
        rw [show k + 1 - n = (k - n) + 1 by omega, List.replicate_succ', ← List.append_assoc]
        exact this
      case measure => simp [intOf]; omega
    · obtain rfl : k = n + 3 := by omega
      have hL' : Hid (Lst wr g (l ++ [71, 71, 71])) := by show Lst _ _ _; have := hL.out; rwa [show n + 3 - n = 3 by omega] at this
      clear hL hC
      go_wp2
      go_ret
      exact ⟨⟨g, rfl, lo, hsz.out, hL'.out⟩, hx.out⟩
theorem one_t (x : Int) (w : World) :
    Calls Tryz.prog 45 #[.int .i64 x, .int .i64 x] w fun e w' => e = .returned (.bool true) ∧ w' = w := by
  go_enter Tryz.func45, Tryz.ntmps45
  go_wp2
  go_ret
  exact ⟨ret_bool (by simp), rfl⟩
theorem Same_nil (a : Option Addr) (c d : Nat) (x : Option Addr) (w : World) :
    Calls Tryz.prog 44 #[.slice x 0 d, .slice a 0 c, .func (.func 45) #[] #[]] w fun e w' => e = .returned (.bool true) ∧ w' = w := by
  go_enter Tryz.func44, Tryz.ntmps44
  go_wp2_with fail
  refine wp_loop_rounds 1 ?_
  rw [rounds_succ]
  go_wp2
  go_ret
  exact ⟨rfl, rfl⟩
theorem Same_x (g b off c d : Nat) (l : List Int) (w : World) (hl : l.length ≤ 1000) (hg : Lst w g l) (hc : ∀ (k : Nat) (v : Int), l[k]? = some v → w.cell? ⟨b, off + k, none⟩ = some (.int .i64 v)) :
    Calls Tryz.prog 44 #[.slice (some ⟨g, 0, none⟩) l.length d, .slice (some ⟨b, off, none⟩) l.length c, .func (.func 45) #[] #[]] w fun e w' => e = .returned (.bool true) ∧ Ext w w' := by
  replace hg := show Hid _ from hg
  replace hc := show Hid _ from hc
  obtain ⟨T, hT⟩ : ∃ n, l.length = n := ⟨_, rfl⟩
  rw [hT] at hl ⊢
  replace hT := show Hid _ from hT
  go_enter Tryz.func44, Tryz.ntmps44
  go_wp2_with fail
  go_loopw [7] (fun i wr => ∃ k : Nat, k ≤ T ∧ i = .int .i64 k ∧ Hid (Ext w wr)) (fun i _ => T - (intOf i).toNat)
  case atStart => exact ⟨0, Nat.zero_le _, rfl, Ext.refl w⟩
  case round =>
    obtain ⟨k, hk, rfl, hx⟩ := hrel
    by_cases hlt : k < T
    · obtain ⟨V, hV⟩ : ∃ V, l[k]? = some V := ⟨_, List.getElem?_eq_getElem (by have := hT.out; omega)⟩
      have k0 := hx.out.cell_of (hg.out.cell k V hV)
      have k1 := hx.out.cell_of (hc.out k V hV)
      clear hV
      have hlt' : (k : Int) < (T : Int) := by omega
      have j0 := Late.cell k0; have j1 := Late.cell k1
      have hNe1 : Nonempty (Late wr) := ⟨⟨_, Ext.refl _⟩⟩
      go_wp2_with fail
      refine wp_region_late (by kernel_rfl) (by kernel_rfl) ?_
      repeat (go_big_quiet_step ((first
        | (go_at_call 45; exact late_same (one_t _ _)))))
      refine wpQuiet_nil ?_
      intro W1 hw'
      replace hx : Hid (Ext w W1) := hx.out.trans (late_ext hw')
      clear hw' j0 j1 k0 k1
      go_wp2
      go_roundw
      case rel => exact ⟨k + 1, by omega, by go_num, hx⟩
      case measure => simp [intOf]; omega
    · obtain rfl : k = T := by omega
      go_wp2
      go_ret
      exact ⟨rfl, hx.out⟩
theorem Plain_c (g d : Nat) (v : Value) (l : List Int) (w : World) (hl : l.length ≤ 1000) (hg : Lst w g l) (hv : Slc w v l) :
    Calls Tryz.prog 27 #[.slice (some ⟨g, 0, none⟩) l.length d, v] w fun e w' => e = .returned (.bool true) ∧ Ext w w' := by
  have hS : Hid (Calls Tryz.prog 44 #[.slice (some ⟨g, 0, none⟩) l.length d, v, .func (.func 45) #[] #[]] w fun e w' => e = .returned (.bool true) ∧ Ext w w') := by
    rcases hv with ⟨a, c, rfl, _, rfl⟩ | ⟨b, off, c, rfl, hc⟩
    · exact (Same_nil a c d _ w).mono fun e w' h => ⟨h.1, by rw [h.2]; exact Ext.refl _⟩
    · exact Same_x g b off c d l w hl hg hc
  clear hg hv hl
  generalize l.length = n at *
  go_enter Tryz.func27, Tryz.ntmps27
  go_wp2_with fail
  refine Calls.mono hS.out ?_
  rintro e w1 ⟨rfl, hx⟩
  replace hx := show Hid _ from hx
  go_wp2
  go_ret
  exact ⟨rfl, hx.out⟩
theorem Kept_c (g : Nat) (v : Value) (l : List Int) (w : World) (hl : l.length ≤ 1000) (hg : Lst w g (l ++ [71, 71, 71])) (hv : Slc w v l) :
    Calls Tryz.prog 13 #[.slice (some ⟨g, 0, none⟩) l.length (l.length + 3), v, .int .i64 71] w fun e w' => e = .returned (.bool true) ∧ Ext w w' := by
  have hP : Hid (Calls Tryz.prog 27 #[.slice (some ⟨g, 0, none⟩) l.length (l.length + 3), v] w fun e w' => e = .returned (.bool true) ∧ Ext w w') := Plain_c g _ v l w hl hg.front hv
  obtain ⟨ao, c, rfl, _, _⟩ := hv.src
  clear hv
  replace hg := show Hid _ from hg
  obtain ⟨n, hn⟩ : ∃ n, l.length = n := ⟨_, rfl⟩
  rw [hn] at hl ⊢
  rw [hn] at hP
  replace hn := show Hid _ from hn
  go_enter Tryz.func13, Tryz.ntmps13
  go_wp2_with fail
  refine Calls.mono hP.out ?_
  rintro e w1 ⟨rfl, hx⟩
  replace hg : Hid (Lst w1 g (l ++ [71, 71, 71])) := hg.out.ext hx
  replace hx := show Hid _ from hx
  clear hP
  go_wp2_with fail
  go_loop [8] (fun i => ∃ k : Nat, n ≤ k ∧ k ≤ n + 3 ∧ i = .int .i64 k) (fun i => n + 3 - (RowKit.intOf i).toNat)
  case atStart => exact ⟨n, Nat.le_refl _, by omega, rfl⟩
  case round =>
    obtain ⟨k, hk1, hk2, rfl⟩ := hrel
    by_cases hlt : k < n + 3
    · have hcell := hg.out.cell k 71 (by
        have := hn.out
        rw [List.getElem?_append_right (by omega), this]
        obtain h | h | h : k - n = 0 ∨ k - n = 1 ∨ k - n = 2 := by omega
        all_goals rw [h]; rfl)
      go_wp2
      go_round
      case rel => exact ⟨k + 1, by omega, by omega, by go_num⟩
      case measure => simp [RowKit.intOf]; omega
    · obtain rfl : k = n + 3 := by omega
      go_wp2
      go_ret
      exact ⟨rfl, hx.out⟩
theorem Lst.slc {w : World} {g n c : Nat} {l M : List Int} (h : Lst w g (l ++ M)) (hn : l.length = n) : Slc w (.slice (some ⟨g, 0, none⟩) n c) l := by
  subst hn
  exact Or.inr ⟨g, 0, c, rfl, fun k x hk => by rw [Nat.zero_add]; exact h.front.cell k x hk⟩
end Ow
end Go.Proofs.YtafjmpaefikdcaaGreatDoor
