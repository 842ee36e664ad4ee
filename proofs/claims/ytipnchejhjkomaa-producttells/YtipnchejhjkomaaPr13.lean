/- Copies with room behind them, held against each other, as contracts: of ints, of resets, of tiers; no statement of the seat is proved here. -/
import Derived.Test.YtipnchejhjkomaaPr12
import Derived.Deep.AppendSrc
namespace Go.Proofs.Ytipnchejhjkomaa
open Go.RowKit
set_option linter.unusedVariables false

/-- These numbers lie in a block's first cells, and may be written. -/
structure Lst (w : World) (g : Nat) (L : List Int) : Prop where
  cell : ∀ (k : Nat) (x : Int), L[k]? = some x → w.cell? ⟨g, k, none⟩ = some (.int .i64 x)
  free : ∀ (k : Nat) (x : Int), L[k]? = some x → w.frozen? ⟨g, k, none⟩ = false
theorem Lst.ext {w w' : World} {g : Nat} {L : List Int} (h : Lst w g L) (hx : Ext w w') : Lst w' g L :=
  ⟨fun k x hk => hx.cell_of (h.cell k x hk), fun k x hk => hx.froz_of (h.cell k x hk) (h.free k x hk)⟩
theorem Lst.front {w : World} {g : Nat} {L M : List Int} (h : Lst w g (L ++ M)) : Lst w g L :=
  ⟨fun k x hk => h.cell k x (by rw [List.getElem?_append_left (List.getElem?_eq_some_iff.1 hk).1]; exact hk), fun k x hk => h.free k x (by rw [List.getElem?_append_left (List.getElem?_eq_some_iff.1 hk).1]; exact hk)⟩
/-- A block of so many cells that may be written. -/
def Cells (w : World) (g T : Nat) : Prop := ∀ k, k < T → (∃ u, w.cell? ⟨g, k, none⟩ = some u) ∧ w.frozen? ⟨g, k, none⟩ = false
theorem Cells.set {w : World} {g T : Nat} (h : Cells w g T) (j : Nat) (v : Value) : Cells (w.setCell ⟨g, j, none⟩ v) g T := by
  intro k hk
  obtain ⟨⟨u, hu⟩, hf⟩ := h k hk
  refine ⟨?_, by simpa using hf⟩
  by_cases e : k = j
  · subst e; exact ⟨v, same hu⟩
  · exact ⟨u, by rw [other _ (Or.inr (fun h => e h.symm))]; exact hu⟩
theorem Lst.put {w : World} {g T : Nat} {L : List Int} (h : Lst w g L) (hc : Cells w g T) (hT : L.length < T) (v : Int) : Lst (w.setCell ⟨g, L.length, none⟩ (.int .i64 v)) g (L ++ [v]) := by
  have key : ∀ (k : Nat) (x : Int), (L ++ [v])[k]? = some x → (w.setCell ⟨g, L.length, none⟩ (.int .i64 v)).cell? ⟨g, k, none⟩ = some (.int .i64 x) := by
    intro k x hk
    by_cases e : k = L.length
    · subst e
      simp at hk
      subst hk
      obtain ⟨⟨u, hu⟩, _⟩ := hc _ hT
      exact same hu
    · have hlt : k < L.length := by
        have := (List.getElem?_eq_some_iff.1 hk).1
        simp at this; omega
      rw [other _ (Or.inr (fun h => e h.symm))]
      rw [List.getElem?_append_left hlt] at hk
      exact h.cell k x hk
  refine ⟨key, fun k x hk => ?_⟩
  have : k < T := by
    have := (List.getElem?_eq_some_iff.1 hk).1
    simp at this; omega
  simpa using (hc k this).2
theorem Cells.of_own {w : World} {B g n T : Nat} {e : TypeId} {xs : List Value} (h : w.ownsRow B e 1 (.slice (some ⟨g, 0, none⟩) n T) n xs) : Cells w g T := by
  intro k hk
  refine ⟨?_, h.frozenAt k⟩
  rcases h.2 with ⟨h0, _⟩ | ⟨g', c', cur, h1, h2, h3, h4, h5, h6, h7⟩
  · cases h0
  · injection h1 with e1 e2 e3
    injection e1 with e1
    injection e1 with e1
    subst e1; subst e3
    refine ⟨cur[k]'(by omega), ?_⟩
    simp [World.cell?, h3]
theorem Lst.of_own {w : World} {B g T : Nat} {e : TypeId} {l : List Int} (h : w.ownsRow B e 1 (.slice (some ⟨g, 0, none⟩) l.length T) l.length (l.map (.int .i64))) : Lst w g l :=
  ⟨fun k x hk => by rw [h.cellAt k (by have := (List.getElem?_eq_some_iff.1 hk).1; omega)]; simp [hk], fun k x hk => h.frozenAt k⟩
/-- What a slice's address gives to an append of its numbers. -/
theorem Slc.src {w : World} {v : Value} {l : List Int} (h : Slc w v l) : ∃ ao c, v = .slice ao l.length c ∧ (ao = none → l.length = 0 ∧ c = 0) ∧
    ∀ w' : World, Ext w w' → ∀ ad, ao = some ad → ∀ j u, (l.map (Value.int .i64))[j]? = some u → w'.cell? (ad.add j) = some u := by
  rcases h with ⟨a, c, rfl, hn, rfl⟩ | ⟨b, off, c, rfl, hc⟩
  · exact ⟨a, c, rfl, (fun h => ⟨rfl, hn h⟩), fun w' hx ad _ j u hj => by simp at hj⟩
  · refine ⟨_, c, rfl, (fun h => by cases h), fun w' hx ad had j u hj => ?_⟩
    obtain rfl := Option.some.inj had
    simp at hj
    obtain ⟨x, h1, rfl⟩ := hj
    rw [Addr.add_lit]
    exact hx.cell_of (hc j x h1)
set_option maxHeartbeats 1000000 in
theorem OwnI_c (v : Value) (l : List Int) (w : World) (hl : l.length ≤ 1000) (hv : Slc w v l) :
    Calls Try.prog 10 #[v, .int .i64 71] w fun e w' => (∃ g, e = .returned (.slice (some ⟨g, 0, none⟩) l.length (l.length + 3)) ∧ w.heap.size ≤ g ∧ g < w'.heap.size ∧ Lst w' g (l ++ [71, 71, 71])) ∧ Ext w w' := by
  obtain ⟨ao, c, rfl, hnone, hcl⟩ := hv.src
  clear hv
  replace hcl := show Hid _ from hcl
  replace hnone := show Hid _ from hnone
  obtain ⟨i0, hi, hz0, hz1, hz2⟩ := info_parts info_int
  obtain ⟨n, hn⟩ : ∃ n, l.length = n := ⟨_, rfl⟩
  rw [hn] at hl ⊢
  rw [hn] at hnone
  replace hn := show Hid _ from hn
  go_enter Try.func10, Try.ntmps10
  go_wp2_with (at_make; refine wpList_make_own w rfl _ (.tmp 10) 25 rfl w.heap.size 3 i0 (.int .i64 0) 1 Try.underlying25 hi hz0 hz1 .i64 .i64 _ (n + 3) rfl rfl (by omega) (by rw [hz2]; omega) (by unfold maxLen; omega) (Nat.le_refl _) ?_)
  intro w1 hown1 hg1
  have hx1 := show Hid (Ext w w1) from Ext.grown hg1
  obtain ⟨g, hgg⟩ : ∃ g, w.heap.size = g := ⟨_, rfl⟩
  have lo : w.heap.size ≤ g := by omega
  rw [hgg] at hown1 ⊢
  clear hg1
  go_wp2_with (at_builtin; refine wpList_append_fits_any w1 rfl (.tmp 12) (.tmp 13) 25 rfl g 3 i0 1 Try.underlying25 hi hz1 g 0 (n + 3) [] rfl hown1 ao n c (l.map (.int .i64)) rfl ?c0 hnone.out (hcl.out _ hx1.out) ?c2 ?c3 ?_)
  case c0 => simp; exact hn.out
  case c2 => intro u hu; simp at hu; obtain ⟨x, _, rfl⟩ := hu; rfl
  case c3 => omega
  intro w2 hown2 hg2
  have hx2 : Hid (Ext w w2) := ⟨hx1.out.below.grown hg2 (by have := hx1.out.size; omega) (fun k hk => by injection hk with hk; subst hk; exact lo)⟩
  have hL : Hid (Lst w2 g (l ++ List.replicate 0 71)) := by
    show Lst _ _ _
    have : w2.ownsRow g 3 1 (.slice (some ⟨g, 0, none⟩) l.length (n + 3)) l.length (l.map (.int .i64)) := by rw [hn.out]; simpa using hown2
    simpa using Lst.of_own this
  have hC : Hid (Cells w2 g (n + 3)) := Cells.of_own hown2
  have hsz : g < w2.heap.size := (hown2.lt g rfl).2
  clear hown1 hown2 hg2 hx1 hi hz0 hz1 hz2 hcl hnone hgg
  go_wp2_with fail
  go_loopw [7] (fun i wr => ∃ k : Nat, n ≤ k ∧ k ≤ n + 3 ∧ i = .int .i64 k ∧ Hid (Lst wr g (l ++ List.replicate (k - n) 71)) ∧ Hid (Cells wr g (n + 3)) ∧ Hid (Ext w wr) ∧ Hid (g < wr.heap.size)) (fun i _ => n + 3 - (intOf i).toNat)
  case atStart => exact ⟨n, Nat.le_refl _, by omega, rfl, by rw [Nat.sub_self]; exact hL, hC, hx2, hsz⟩
  case round =>
    clear hL hC hx2 hsz
    obtain ⟨k, hk1, hk2, rfl, hL, hC, hx, hsz⟩ := hrel
    by_cases hlt : k < n + 3
    · obtain ⟨⟨u, hu⟩, hf⟩ := hC.out k hlt
      go_wp2
      go_roundw
      case rel =>
        refine ⟨k + 1, by omega, by omega, by go_num, ?_, hC.out.set k _, hx.out.setCell lo _, by show _ < _; simpa using hsz.out⟩
        show Lst _ _ _
        have hlen : (l ++ List.replicate (k - n) (71 : Int)).length = k := by have := hn.out; simp; omega
        have := hL.out.put (T := n + 3) hC.out (by rw [hlen]; omega) 71
        rw [hlen] at this
        rw [show k + 1 - n = (k - n) + 1 by omega, List.replicate_succ', ← List.append_assoc]
        exact this
      case measure => simp [intOf]; omega
    · obtain rfl : k = n + 3 := by omega
      have hL' : Hid (Lst wr g (l ++ [71, 71, 71])) := by show Lst _ _ _; have := hL.out; rwa [show n + 3 - n = 3 by omega] at this
      clear hL hC
      go_wp2
      go_ret
      exact ⟨⟨g, rfl, lo, hsz.out, hL'.out⟩, hx.out⟩
theorem oneI_t (x : Int) (w : World) :
    Calls Try.prog 57 #[.int .i64 x, .int .i64 x] w fun e w' => e = .returned (.bool true) ∧ w' = w := by
  go_enter Try.func57, Try.ntmps57
  go_wp2
  go_ret
  exact ⟨ret_bool (by simp), rfl⟩
theorem SameI_nil (a : Option Addr) (c d : Nat) (x : Option Addr) (w : World) :
    Calls Try.prog 56 #[.slice x 0 d, .slice a 0 c, .func (.func 57) #[] #[]] w fun e w' => e = .returned (.bool true) ∧ w' = w := by
  go_enter Try.func56, Try.ntmps56
  go_wp2_with fail
  refine wp_loop_rounds 1 ?_
  rw [rounds_succ]
  go_wp2
  go_ret
  exact ⟨rfl, rfl⟩
theorem SameI_x (g b off c d : Nat) (l : List Int) (w : World) (hl : l.length ≤ 1000) (hg : Lst w g l) (hc : ∀ (k : Nat) (v : Int), l[k]? = some v → w.cell? ⟨b, off + k, none⟩ = some (.int .i64 v)) :
    Calls Try.prog 56 #[.slice (some ⟨g, 0, none⟩) l.length d, .slice (some ⟨b, off, none⟩) l.length c, .func (.func 57) #[] #[]] w fun e w' => e = .returned (.bool true) ∧ Ext w w' := by
  replace hg := show Hid _ from hg
  replace hc := show Hid _ from hc
  obtain ⟨T, hT⟩ : ∃ n, l.length = n := ⟨_, rfl⟩
  rw [hT] at hl ⊢
  replace hT := show Hid _ from hT
  go_enter Try.func56, Try.ntmps56
  go_wp2_with fail
  go_loopw [7] (fun i wr => ∃ k : Nat, k ≤ T ∧ i = .int .i64 k ∧ Hid (Ext w wr)) (fun i _ => T - (intOf i).toNat)
  case atStart => exact ⟨0, Nat.zero_le _, rfl, Ext.refl w⟩
  case round =>
    obtain ⟨k, hk, rfl, hx⟩ := hrel
    by_cases hlt : k < T
    · obtain ⟨V, hV⟩ : ∃ V, l[k]? = some V := ⟨_, List.getElem?_eq_getElem (by have := hT.out; omega)⟩
      have k0 := hx.out.cell_of (hg.out.cell k V hV)
      have k1 := hx.out.cell_of (hc.out k V hV)
      clear hV
      have hlt' : (k : Int) < (T : Int) := by omega
      have j0 := Late.cell k0; have j1 := Late.cell k1
      have hNe1 : Nonempty (Late wr) := ⟨⟨_, Ext.refl _⟩⟩
      go_wp2_with fail
      refine wp_region_late (by kernel_rfl) (by kernel_rfl) ?_
      repeat (go_big_quiet_step ((first
        | (go_at_call 57; exact late_same (oneI_t _ _)))))
      refine wpQuiet_nil ?_
      intro W1 hw'
      replace hx : Hid (Ext w W1) := hx.out.trans (late_ext hw')
      clear hw' j0 j1 k0 k1
      go_wp2
      go_roundw
      case rel => exact ⟨k + 1, by omega, by go_num, hx⟩
      case measure => simp [intOf]; omega
    · obtain rfl : k = T := by omega
      go_wp2
      go_ret
      exact ⟨rfl, hx.out⟩
theorem PlainI_c (g d : Nat) (v : Value) (l : List Int) (w : World) (hl : l.length ≤ 1000) (hg : Lst w g l) (hv : Slc w v l) :
    Calls Try.prog 37 #[.slice (some ⟨g, 0, none⟩) l.length d, v] w fun e w' => e = .returned (.bool true) ∧ Ext w w' := by
  have hS : Hid (Calls Try.prog 56 #[.slice (some ⟨g, 0, none⟩) l.length d, v, .func (.func 57) #[] #[]] w fun e w' => e = .returned (.bool true) ∧ Ext w w') := by
    rcases hv with ⟨a, c, rfl, _, rfl⟩ | ⟨b, off, c, rfl, hc⟩
    · exact (SameI_nil a c d _ w).mono fun e w' h => ⟨h.1, by rw [h.2]; exact Ext.refl _⟩
    · exact SameI_x g b off c d l w hl hg hc
  clear hg hv hl
  generalize l.length = n at *
  go_enter Try.func37, Try.ntmps37
  go_wp2_with fail
  refine Calls.mono hS.out ?_
  rintro e w1 ⟨rfl, hx⟩
  replace hx := show Hid _ from hx
  go_wp2
  go_ret
  exact ⟨rfl, hx.out⟩
theorem KeptI_c (g : Nat) (v : Value) (l : List Int) (w : World) (hl : l.length ≤ 1000) (hg : Lst w g (l ++ [71, 71, 71])) (hv : Slc w v l) :
    Calls Try.prog 17 #[.slice (some ⟨g, 0, none⟩) l.length (l.length + 3), v, .int .i64 71] w fun e w' => e = .returned (.bool true) ∧ Ext w w' := by
  have hP : Hid (Calls Try.prog 37 #[.slice (some ⟨g, 0, none⟩) l.length (l.length + 3), v] w fun e w' => e = .returned (.bool true) ∧ Ext w w') := PlainI_c g _ v l w hl hg.front hv
  obtain ⟨ao, c, rfl, _, _⟩ := hv.src
  clear hv
  replace hg := show Hid _ from hg
  obtain ⟨n, hn⟩ : ∃ n, l.length = n := ⟨_, rfl⟩
  rw [hn] at hl ⊢
  rw [hn] at hP
  replace hn := show Hid _ from hn
  go_enter Try.func17, Try.ntmps17
  go_wp2_with fail
  refine Calls.mono hP.out ?_
  rintro e w1 ⟨rfl, hx⟩
  replace hg : Hid (Lst w1 g (l ++ [71, 71, 71])) := hg.out.ext hx
  replace hx := show Hid _ from hx
  clear hP
  go_wp2_with fail
  go_loop [8] (fun i => ∃ k : Nat, n ≤ k ∧ k ≤ n + 3 ∧ i = .int .i64 k) (fun i => n + 3 - (RowKit.intOf i).toNat)
  case atStart => exact ⟨n, Nat.le_refl _, by omega, rfl⟩
  case round =>
    obtain ⟨k, hk1, hk2, rfl⟩ := hrel
    by_cases hlt : k < n + 3
    · have hcell := hg.out.cell k 71 (by
        have := hn.out
        rw [List.getElem?_append_right (by omega), this]
        obtain h | h | h : k - n = 0 ∨ k - n = 1 ∨ k - n = 2 := by omega
        all_goals rw [h]; rfl)
      go_wp2
      go_round
      case rel => exact ⟨k + 1, by omega, by omega, by go_num⟩
      case measure => simp [RowKit.intOf]; omega
    · obtain rfl : k = n + 3 := by omega
      go_wp2
      go_ret
      exact ⟨rfl, hx.out⟩
theorem Lst.slc {w : World} {g n c : Nat} {l M : List Int} (h : Lst w g (l ++ M)) (hn : l.length = n) : Slc w (.slice (some ⟨g, 0, none⟩) n c) l := by
  subst hn
  exact Or.inr ⟨g, 0, c, rfl, fun k x hk => by rw [Nat.zero_add]; exact h.front.cell k x hk⟩
/-- The cells of pairs. -/
def cellsP (l : List (Int × Int)) : List Value := l.flatMap fun p => [.int .i64 p.1, .int .i64 p.2]
theorem cellsP_len : ∀ l : List (Int × Int), (cellsP l).length = l.length * 2
  | [] => rfl
  | p :: l => by
    show (cellsP l).length + 1 + 1 = _
    rw [cellsP_len l]; simp; omega
theorem cellsP_at : ∀ (l : List (Int × Int)) (k : Nat) (x y : Int), l[k]? = some (x, y) → (cellsP l)[k * 2]? = some (.int .i64 x) ∧ (cellsP l)[k * 2 + 1]? = some (.int .i64 y)
  | [], k, x, y, h => by simp at h
  | p :: l, 0, x, y, h => by
    obtain rfl : p = (x, y) := by simpa using h
    exact ⟨rfl, rfl⟩
  | p :: l, k + 1, x, y, h => by
    have ih := cellsP_at l k x y (by simpa using h)
    have e : (k + 1) * 2 = k * 2 + 2 := by omega
    rw [e]
    exact ih
theorem cellsP_of : ∀ (l : List (Int × Int)) (j : Nat) (u : Value), (cellsP l)[j]? = some u → ∃ k x y, l[k]? = some (x, y) ∧ (j = k * 2 ∧ u = .int .i64 x ∨ j = k * 2 + 1 ∧ u = .int .i64 y)
  | [], j, u, h => by simp [cellsP] at h
  | p :: l, 0, u, h => ⟨0, p.1, p.2, rfl, Or.inl ⟨rfl, by have : some (Value.int .i64 p.1) = some u := h; exact (Option.some.inj this).symm⟩⟩
  | p :: l, 1, u, h => ⟨0, p.1, p.2, rfl, Or.inr ⟨rfl, by have : some (Value.int .i64 p.2) = some u := h; exact (Option.some.inj this).symm⟩⟩
  | p :: l, j + 2, u, h => by
    obtain ⟨k, x, y, h1, h2⟩ := cellsP_of l j u h
    refine ⟨k + 1, x, y, by simpa using h1, ?_⟩
    rcases h2 with ⟨a, b⟩ | ⟨a, b⟩
    · exact Or.inl ⟨by omega, b⟩
    · exact Or.inr ⟨by omega, b⟩
theorem cellsP_one (l : List (Int × Int)) : ∀ u ∈ cellsP l, u.oneCell' = true := fun u hu => by
  simp [cellsP] at hu
  obtain ⟨a, b, _, rfl | rfl⟩ := hu <;> rfl
/-- These pairs lie in a block's first cells, and may be written. -/
structure Lsp (w : World) (g : Nat) (L : List (Int × Int)) : Prop where
  cell : ∀ (k : Nat) (x y : Int), L[k]? = some (x, y) → w.cell? ⟨g, k * 2, none⟩ = some (.int .i64 x) ∧ w.cell? ⟨g, k * 2 + 1, none⟩ = some (.int .i64 y)
theorem Lsp.ext {w w' : World} {g : Nat} {L : List (Int × Int)} (h : Lsp w g L) (hx : Ext w w') : Lsp w' g L :=
  ⟨fun k x y hk => ⟨hx.cell_of (h.cell k x y hk).1, hx.cell_of (h.cell k x y hk).2⟩⟩
theorem Lsp.front {w : World} {g : Nat} {L M : List (Int × Int)} (h : Lsp w g (L ++ M)) : Lsp w g L :=
  ⟨fun k x y hk => h.cell k x y (by rw [List.getElem?_append_left (List.getElem?_eq_some_iff.1 hk).1]; exact hk)⟩
theorem Lsp.slp {w : World} {g c : Nat} {l M : List (Int × Int)} (h : Lsp w g (l ++ M)) : Slp w (.slice (some ⟨g, 0, none⟩) l.length c) l :=
  Or.inr ⟨g, 0, c, rfl, fun k x y hk => by rw [Nat.zero_add]; exact h.front.cell k x y hk⟩
theorem Lsp.put {w : World} {g T : Nat} {L : List (Int × Int)} (h : Lsp w g L) (hc : Cells w g T) (hT : L.length * 2 + 1 < T) (x y : Int) : Lsp ((w.setCell ⟨g, L.length * 2, none⟩ (.int .i64 x)).setCell ⟨g, L.length * 2 + 1, none⟩ (.int .i64 y)) g (L ++ [(x, y)]) := by
  refine ⟨fun k u v hk => ?_⟩
  obtain ⟨⟨c0, hc0⟩, _⟩ := hc (L.length * 2) (by omega)
  obtain ⟨⟨c1, hc1⟩, _⟩ := hc (L.length * 2 + 1) hT
  by_cases e : k = L.length
  · subst e
    simp at hk
    obtain ⟨rfl, rfl⟩ := hk
    exact ⟨by rw [other _ (Or.inr (by omega))]; exact same hc0, same (by rw [other _ (Or.inr (by omega))]; exact hc1)⟩
  · have hlt : k < L.length := by
      have := (List.getElem?_eq_some_iff.1 hk).1
      simp at this; omega
    rw [List.getElem?_append_left hlt] at hk
    have := h.cell k u v hk
    refine ⟨?_, ?_⟩
    · rw [other _ (Or.inr (by omega)), other _ (Or.inr (by omega))]; exact this.1
    · rw [other _ (Or.inr (by omega)), other _ (Or.inr (by omega))]; exact this.2
theorem Cells.of_own2 {w : World} {B g n T : Nat} {e : TypeId} {xs : List Value} (h : w.ownsRow B e 2 (.slice (some ⟨g, 0, none⟩) n T) n xs) : Cells w g (T * 2) := by
  intro k hk
  refine ⟨?_, h.frozenAt k⟩
  rcases h.2 with ⟨h0, _⟩ | ⟨g', c', cur, h1, h2, h3, h4, h5, h6, h7⟩
  · cases h0
  · injection h1 with e1 e2 e3
    injection e1 with e1
    injection e1 with e1
    subst e1; subst e3
    refine ⟨cur[k]'(by omega), ?_⟩
    simp [World.cell?, h3]
theorem Lsp.of_own {w : World} {B g T : Nat} {e : TypeId} {l : List (Int × Int)} (h : w.ownsRow B e 2 (.slice (some ⟨g, 0, none⟩) l.length T) l.length (cellsP l)) : Lsp w g l :=
  ⟨fun k x y hk => by
    have hlt := (List.getElem?_eq_some_iff.1 hk).1
    rw [h.cellAt (k * 2) (by omega), h.cellAt (k * 2 + 1) (by omega)]
    exact cellsP_at l k x y hk⟩
theorem Slp.src {w : World} {v : Value} {l : List (Int × Int)} (h : Slp w v l) : ∃ ao c, v = .slice ao l.length c ∧ (ao = none → l.length = 0 ∧ c = 0) ∧
    ∀ w' : World, Ext w w' → ∀ ad, ao = some ad → ∀ j u, (cellsP l)[j]? = some u → w'.cell? (ad.add j) = some u := by
  rcases h with ⟨a, c, rfl, hn, rfl⟩ | ⟨b, off, c, rfl, hc⟩
  · exact ⟨a, c, rfl, (fun h => ⟨rfl, hn h⟩), fun w' hx ad _ j u hj => by simp [cellsP] at hj⟩
  · refine ⟨_, c, rfl, (fun h => by cases h), fun w' hx ad had j u hj => ?_⟩
    obtain rfl := Option.some.inj had
    obtain ⟨k, x, y, h1, h2⟩ := cellsP_of l j u hj
    rw [Addr.add_lit]
    rcases h2 with ⟨rfl, rfl⟩ | ⟨rfl, rfl⟩
    · exact hx.cell_of (hc k x y h1).1
    · exact hx.cell_of (hc k x y h1).2
theorem fill_two (w : World) (t : TypeId) : ∃ W F, w.alloc (.cells #[.int .i64 71, .int .i64 0] t) = W ∧ w.heap.size = F ∧ Ext w W ∧ W.cell? ⟨F, 0, none⟩ = some (.int .i64 71) ∧ W.cell? ⟨F, 1, none⟩ = some (.int .i64 0) ∧ F < W.heap.size :=
  ⟨_, _, rfl, rfl, (Ext.refl w).alloc _ _, by simp [go_sem], by simp [go_sem], by simp⟩
theorem infoR : (Try.prog.info? 31).map (fun i => (i.zero, i.size, i.bytes)) = some (some (.agg #[.int .i64 0, .int .i64 0]), 2, 16) := by kernel_rfl
set_option maxHeartbeats 1000000 in
theorem OwnR_c (v : Value) (l : List (Int × Int)) (w : World) (hl : l.length ≤ 1000) (hv : Slp w v l) :
    Calls Try.prog 8 #[v, .agg #[.int .i64 71, .int .i64 0]] w fun e w' => (∃ g, e = .returned (.slice (some ⟨g, 0, none⟩) l.length (l.length + 3)) ∧ w.heap.size ≤ g ∧ g < w'.heap.size ∧ Lsp w' g (l ++ [(71, 0), (71, 0), (71, 0)])) ∧ Ext w w' := by
  obtain ⟨ao, c, rfl, hnone, hcl⟩ := hv.src
  clear hv
  replace hcl := show Hid _ from hcl
  replace hnone := show Hid _ from hnone
  obtain ⟨i0, hi, hz0, hz1, hz2⟩ := info_parts infoR
  obtain ⟨n, hn⟩ : ∃ n, l.length = n := ⟨_, rfl⟩
  rw [hn] at hl ⊢
  rw [hn] at hnone
  replace hn := show Hid _ from hn
  obtain ⟨W0, F, hW0, hF, hx0, f0, f1, hFlt⟩ := fill_two w 31
  replace hx0 := show Hid _ from hx0
  go_enter Try.func8, Try.ntmps8
  go_wp2_with (at_make; refine wpList_make_own W0 rfl _ (.tmp 10) 22 rfl W0.heap.size 31 i0 (.agg #[.int .i64 0, .int .i64 0]) 2 Try.underlying22 hi hz0 hz1 .i64 .i64 _ (n + 3) rfl rfl (by omega) (by rw [hz2]; omega) (by unfold maxLen; omega) (Nat.le_refl _) ?_)
  intro w1 hown1 hg1
  have hx1 := show Hid (Ext W0 w1) from Ext.grown hg1
  obtain ⟨g, hgg⟩ : ∃ g, W0.heap.size = g := ⟨_, rfl⟩
  have lo0 : W0.heap.size ≤ g := by omega
  have lo : w.heap.size ≤ g := by have := hx0.out.size; omega
  have hFg : F ≠ g := by omega
  rw [hgg] at hown1 ⊢
  clear hg1 hW0
  go_wp2_with (at_builtin; refine wpList_append_fits_any w1 rfl (.tmp 12) (.tmp 13) 22 rfl g 31 i0 2 Try.underlying22 hi hz1 g 0 (n + 3) [] rfl hown1 ao n c (cellsP l) rfl ?c0 hnone.out (hcl.out _ (hx0.out.trans hx1.out)) (cellsP_one l) ?c3 ?_)
  case c0 => rw [cellsP_len, hn.out]
  case c3 => omega
  intro w2 hown2 hg2
  have hx2 : Hid (Ext w w2) := ⟨(hx0.out.trans hx1.out).below.grown hg2 (by have := hx1.out.size; omega) (fun k hk => by injection hk with hk; subst hk; exact lo)⟩
  have hx3 : Ext W0 w2 := ⟨hx1.out.below.grown hg2 (by have := hx1.out.size; omega) (fun k hk => by injection hk with hk; subst hk; exact lo0)⟩
  have h0 := show Hid _ from hx3.cell_of f0
  have h1 := show Hid _ from hx3.cell_of f1
  have hL : Hid (Lsp w2 g (l ++ List.replicate 0 (71, 0))) := by
    show Lsp _ _ _
    have : w2.ownsRow g 31 2 (.slice (some ⟨g, 0, none⟩) l.length (n + 3)) l.length (cellsP l) := by rw [hn.out]; simpa using hown2
    simpa using Lsp.of_own this
  have hC : Hid (Cells w2 g ((n + 3) * 2)) := Cells.of_own2 hown2
  have hsz : g < w2.heap.size := (hown2.lt g rfl).2
  clear hown1 hown2 hg2 hx1 hx0 hx3 hi hz0 hz1 hz2 hcl hnone hgg f0 f1 hFlt
  go_wp2_with fail
  go_loopw [7] (fun i wr => ∃ k : Nat, n ≤ k ∧ k ≤ n + 3 ∧ i = .int .i64 k ∧ Hid (Lsp wr g (l ++ List.replicate (k - n) (71, 0))) ∧ Hid (Cells wr g ((n + 3) * 2)) ∧ Hid (Ext w wr) ∧ Hid (g < wr.heap.size) ∧ Hid (wr.cell? ⟨F, 0, none⟩ = some (.int .i64 71)) ∧ Hid (wr.cell? ⟨F, 1, none⟩ = some (.int .i64 0))) (fun i _ => n + 3 - (intOf i).toNat)
  case atStart => exact ⟨n, Nat.le_refl _, by omega, rfl, by rw [Nat.sub_self]; exact hL, hC, hx2, hsz, h0, h1⟩
  case round =>
    clear hL hC hx2 hsz h0 h1
    obtain ⟨k, hk1, hk2, rfl, hL, hC, hx, hsz, h0, h1⟩ := hrel
    by_cases hlt : k < n + 3
    · obtain ⟨⟨u, hu⟩, hf⟩ := hC.out (k * 2) (by omega)
      obtain ⟨⟨u', hu'⟩, hf'⟩ := hC.out (k * 2 + 1) (by omega)
      have q0 := h0.out; have q1 := h1.out
      have hC2 := hC.out.set (k * 2) (.int .i64 71)
      have p0 : (wr.setCell ⟨g, k * 2, none⟩ (.int .i64 71)).cell? ⟨g, k * 2 + 1, none⟩ = some u' := by rw [other _ (Or.inr (by omega))]; exact hu'
      have p1 : (wr.setCell ⟨g, k * 2, none⟩ (.int .i64 71)).frozen? ⟨g, k * 2 + 1, none⟩ = false := (hC2 (k * 2 + 1) (by omega)).2
      have hL2 : Hid (Lsp ((wr.setCell ⟨g, k * 2, none⟩ (.int .i64 71)).setCell ⟨g, k * 2 + 1, none⟩ (.int .i64 0)) g (l ++ List.replicate (k + 1 - n) (71, 0))) := by
        show Lsp _ _ _
        have hlen : (l ++ List.replicate (k - n) ((71, 0) : Int × Int)).length = k := by have := hn.out; simp; omega
        have := hL.out.put (T := (n + 3) * 2) hC.out (by rw [hlen]; omega) 71 0
        rw [hlen] at this
        rw [show k + 1 - n = (k - n) + 1 by omega, List.replicate_succ', ← List.append_assoc]
        exact this
      have hC3 := show Hid (Cells ((wr.setCell ⟨g, k * 2, none⟩ (.int .i64 71)).setCell ⟨g, k * 2 + 1, none⟩ (.int .i64 0)) g ((n + 3) * 2)) from hC2.set (k * 2 + 1) _
      have r0 := show Hid (((wr.setCell ⟨g, k * 2, none⟩ (.int .i64 71)).setCell ⟨g, k * 2 + 1, none⟩ (.int .i64 0)).cell? ⟨F, 0, none⟩ = some (.int .i64 71)) from by
        show _ = _
        rw [other _ (Or.inl (Ne.symm hFg)), other _ (Or.inl (Ne.symm hFg))]; exact q0
      have r1 := show Hid (((wr.setCell ⟨g, k * 2, none⟩ (.int .i64 71)).setCell ⟨g, k * 2 + 1, none⟩ (.int .i64 0)).cell? ⟨F, 1, none⟩ = some (.int .i64 0)) from by
        show _ = _
        rw [other _ (Or.inl (Ne.symm hFg)), other _ (Or.inl (Ne.symm hFg))]; exact q1
      have hx4 := show Hid (Ext w ((wr.setCell ⟨g, k * 2, none⟩ (.int .i64 71)).setCell ⟨g, k * 2 + 1, none⟩ (.int .i64 0))) from (hx.out.setCell lo _).setCell lo _
      have hs4 := show Hid (g < ((wr.setCell ⟨g, k * 2, none⟩ (.int .i64 71)).setCell ⟨g, k * 2 + 1, none⟩ (.int .i64 0)).heap.size) from by show _ < _; simpa using hsz.out
      obtain ⟨W4, hW4⟩ : ∃ W, (wr.setCell ⟨g, k * 2, none⟩ (.int .i64 71)).setCell ⟨g, k * 2 + 1, none⟩ (.int .i64 0) = W := ⟨_, rfl⟩
      rw [hW4] at hL2 hC3 r0 r1 hx4 hs4
      clear hC2 hL hC hx hsz h0 h1
      go_wp2
      go_roundw
      case rel => exact ⟨k + 1, by omega, by omega, by go_num, hL2, hC3, hx4, hs4, r0, r1⟩
      case measure => simp [intOf]; omega
    · obtain rfl : k = n + 3 := by omega
      have hL' : Hid (Lsp wr g (l ++ [(71, 0), (71, 0), (71, 0)])) := by show Lsp _ _ _; have := hL.out; rwa [show n + 3 - n = 3 by omega] at this
      clear hL hC
      go_wp2
      go_ret
      exact ⟨⟨g, rfl, lo, hsz.out, hL'.out⟩, hx.out⟩
theorem oneR_t (x y : Int) (w : World) :
    Calls Try.prog 53 #[.agg #[.int .i64 x, .int .i64 y], .agg #[.int .i64 x, .int .i64 y]] w fun e w' => e = .returned (.bool true) ∧ Ext w w' := by
  go_enter Try.func53, Try.ntmps53
  go_wp2
  go_ret
  exact ⟨rfl, ((Ext.refl w).alloc _ _).alloc _ _⟩
theorem SameR_nil (a : Option Addr) (c d : Nat) (x : Option Addr) (w : World) :
    Calls Try.prog 52 #[.slice x 0 d, .slice a 0 c, .func (.func 53) #[] #[]] w fun e w' => e = .returned (.bool true) ∧ w' = w := by
  go_enter Try.func52, Try.ntmps52
  go_wp2_with fail
  refine wp_loop_rounds 1 ?_
  rw [rounds_succ]
  go_wp2
  go_ret
  exact ⟨rfl, rfl⟩
theorem SameR_x (g b off c d : Nat) (l : List (Int × Int)) (w : World) (hl : l.length ≤ 1000) (hg : Lsp w g l) (hc : ∀ (k : Nat) (x y : Int), l[k]? = some (x, y) → w.cell? ⟨b, off + k * 2, none⟩ = some (.int .i64 x) ∧ w.cell? ⟨b, off + k * 2 + 1, none⟩ = some (.int .i64 y)) :
    Calls Try.prog 52 #[.slice (some ⟨g, 0, none⟩) l.length d, .slice (some ⟨b, off, none⟩) l.length c, .func (.func 53) #[] #[]] w fun e w' => e = .returned (.bool true) ∧ Ext w w' := by
  replace hg := show Hid _ from hg
  replace hc := show Hid _ from hc
  obtain ⟨T, hT⟩ : ∃ n, l.length = n := ⟨_, rfl⟩
  rw [hT] at hl ⊢
  replace hT := show Hid _ from hT
  go_enter Try.func52, Try.ntmps52
  go_wp2_with fail
  go_loopw [7] (fun i wr => ∃ k : Nat, k ≤ T ∧ i = .int .i64 k ∧ Hid (Ext w wr)) (fun i _ => T - (intOf i).toNat)
  case atStart => exact ⟨0, Nat.zero_le _, rfl, Ext.refl w⟩
  case round =>
    obtain ⟨k, hk, rfl, hx⟩ := hrel
    by_cases hlt : k < T
    · obtain ⟨⟨x, y⟩, hV⟩ : ∃ V, l[k]? = some V := ⟨_, List.getElem?_eq_getElem (by have := hT.out; omega)⟩
      have k0 := hx.out.cell_of (hg.out.cell k x y hV).1
      have k1 := hx.out.cell_of (hg.out.cell k x y hV).2
      have k2 := hx.out.cell_of (hc.out k x y hV).1
      have k3 := hx.out.cell_of (hc.out k x y hV).2
      clear hV
      have hlt' : (k : Int) < (T : Int) := by omega
      have j0 := Late.cell k0; have j1 := Late.cell k1; have j2 := Late.cell k2; have j3 := Late.cell k3
      have hNe1 : Nonempty (Late wr) := ⟨⟨_, Ext.refl _⟩⟩
      go_wp2_with fail
      refine wp_region_late (by kernel_rfl) (by kernel_rfl) ?_
      repeat (go_big_quiet_step ((first
        | (go_at_call 53; exact late_of (oneR_t _ _ _)))))
      refine wpQuiet_nil ?_
      intro W1 hw'
      replace hx : Hid (Ext w W1) := hx.out.trans (late_ext hw')
      clear hw' j0 j1 j2 j3 k0 k1 k2 k3
      go_wp2
      go_roundw
      case rel => exact ⟨k + 1, by omega, by go_num, hx⟩
      case measure => simp [intOf]; omega
    · obtain rfl : k = T := by omega
      go_wp2
      go_ret
      exact ⟨rfl, hx.out⟩
theorem PlainR_c (g d : Nat) (v : Value) (l : List (Int × Int)) (w : World) (hl : l.length ≤ 1000) (hg : Lsp w g l) (hv : Slp w v l) :
    Calls Try.prog 35 #[.slice (some ⟨g, 0, none⟩) l.length d, v] w fun e w' => e = .returned (.bool true) ∧ Ext w w' := by
  have hS : Hid (Calls Try.prog 52 #[.slice (some ⟨g, 0, none⟩) l.length d, v, .func (.func 53) #[] #[]] w fun e w' => e = .returned (.bool true) ∧ Ext w w') := by
    rcases hv with ⟨a, c, rfl, _, rfl⟩ | ⟨b, off, c, rfl, hc⟩
    · exact (SameR_nil a c d _ w).mono fun e w' h => ⟨h.1, by rw [h.2]; exact Ext.refl _⟩
    · exact SameR_x g b off c d l w hl hg hc
  clear hg hv hl
  generalize l.length = n at *
  go_enter Try.func35, Try.ntmps35
  go_wp2_with fail
  refine Calls.mono hS.out ?_
  rintro e w1 ⟨rfl, hx⟩
  replace hx := show Hid _ from hx
  go_wp2
  go_ret
  exact ⟨rfl, hx.out⟩
theorem KeptR_c (g : Nat) (v : Value) (l : List (Int × Int)) (w : World) (hl : l.length ≤ 1000) (hg : Lsp w g (l ++ [(71, 0), (71, 0), (71, 0)])) (hv : Slp w v l) :
    Calls Try.prog 15 #[.slice (some ⟨g, 0, none⟩) l.length (l.length + 3), v, .agg #[.int .i64 71, .int .i64 0]] w fun e w' => e = .returned (.bool true) ∧ Ext w w' := by
  obtain ⟨W0, F, hW0, hF, hx0, f0, f1, hFlt⟩ := fill_two w 31
  have hP : Hid (Calls Try.prog 35 #[.slice (some ⟨g, 0, none⟩) l.length (l.length + 3), v] W0 fun e w' => e = .returned (.bool true) ∧ Ext W0 w') := PlainR_c g _ v l W0 hl (hg.ext hx0).front (hv.ext hx0)
  obtain ⟨ao, c, rfl, _, _⟩ := hv.src
  clear hv
  replace hg := show Hid (Lsp W0 g _) from hg.ext hx0
  replace f0 := show Hid (W0.cell? ⟨F, 0, none⟩ = _) from f0
  replace f1 := show Hid (W0.cell? ⟨F, 1, none⟩ = _) from f1
  replace hx0 := show Hid _ from hx0
  obtain ⟨n, hn⟩ : ∃ n, l.length = n := ⟨_, rfl⟩
  rw [hn] at hl ⊢
  rw [hn] at hP
  replace hn := show Hid _ from hn
  go_enter Try.func15, Try.ntmps15
  go_wp2_with fail
  refine Calls.mono hP.out ?_
  rintro e w1 ⟨rfl, hx⟩
  replace hg : Hid (Lsp w1 g (l ++ [(71, 0), (71, 0), (71, 0)])) := hg.out.ext hx
  replace f0 := show Hid (w1.cell? ⟨F, 0, none⟩ = _) from hx.cell_of f0.out
  replace f1 := show Hid (w1.cell? ⟨F, 1, none⟩ = _) from hx.cell_of f1.out
  have hx1 : Hid (Ext w w1) := hx0.out.trans hx
  clear hP hx hx0 hW0 hF hFlt
  go_wp2_with fail
  go_loopw [8] (fun i wr => ∃ k : Nat, n ≤ k ∧ k ≤ n + 3 ∧ i = .int .i64 k ∧ Hid (Ext w1 wr)) (fun i _ => n + 3 - (RowKit.intOf i).toNat)
  case atStart => exact ⟨n, Nat.le_refl _, by omega, rfl, Ext.refl _⟩
  case round =>
    obtain ⟨k, hk1, hk2, rfl, hxr⟩ := hrel
    by_cases hlt : k < n + 3
    · have hcell := hg.out.cell k 71 0 (by
        have := hn.out
        rw [List.getElem?_append_right (by omega), this]
        obtain h | h | h : k - n = 0 ∨ k - n = 1 ∨ k - n = 2 := by omega
        all_goals rw [h]; rfl)
      have j0 := Late.cell (hxr.out.cell_of hcell.1); have j1 := Late.cell (hxr.out.cell_of hcell.2)
      have j2 := Late.cell (hxr.out.cell_of f0.out); have j3 := Late.cell (hxr.out.cell_of f1.out)
      have hNe1 : Nonempty (Late wr) := ⟨⟨_, Ext.refl _⟩⟩
      have hlt' : (k : Int) < (n : Int) + 3 := by omega
      clear hcell
      go_wp2_with fail
      refine wp_region_late (by kernel_rfl) (by kernel_rfl) ?_
      repeat (go_big_quiet_step (fail))
      refine wpQuiet_nil ?_
      intro W1 hw'
      replace hxr : Hid (Ext w1 W1) := hxr.out.trans (late_ext hw')
      clear hw' j0 j1 j2 j3
      go_wp2
      go_roundw
      case rel => exact ⟨k + 1, by omega, by omega, by go_num, hxr⟩
      case measure => simp [RowKit.intOf]; omega
    · obtain rfl : k = n + 3 := by omega
      go_wp2
      go_ret
      exact ⟨rfl, hx1.out.trans hxr.out⟩
theorem infoT : (Try.prog.info? 34).map (fun i => (i.zero, i.size, i.bytes)) = some (some (.agg #[.int .i64 0, .int .i64 0]), 2, 16) := by kernel_rfl
set_option maxHeartbeats 1000000 in
theorem OwnT_c (v : Value) (l : List (Int × Int)) (w : World) (hl : l.length ≤ 1000) (hv : Slp w v l) :
    Calls Try.prog 9 #[v, .agg #[.int .i64 71, .int .i64 0]] w fun e w' => (∃ g, e = .returned (.slice (some ⟨g, 0, none⟩) l.length (l.length + 3)) ∧ w.heap.size ≤ g ∧ g < w'.heap.size ∧ Lsp w' g (l ++ [(71, 0), (71, 0), (71, 0)])) ∧ Ext w w' := by
  obtain ⟨ao, c, rfl, hnone, hcl⟩ := hv.src
  clear hv
  replace hcl := show Hid _ from hcl
  replace hnone := show Hid _ from hnone
  obtain ⟨i0, hi, hz0, hz1, hz2⟩ := info_parts infoT
  obtain ⟨n, hn⟩ : ∃ n, l.length = n := ⟨_, rfl⟩
  rw [hn] at hl ⊢
  rw [hn] at hnone
  replace hn := show Hid _ from hn
  obtain ⟨W0, F, hW0, hF, hx0, f0, f1, hFlt⟩ := fill_two w 34
  replace hx0 := show Hid _ from hx0
  go_enter Try.func9, Try.ntmps9
  go_wp2_with (at_make; refine wpList_make_own W0 rfl _ (.tmp 10) 24 rfl W0.heap.size 34 i0 (.agg #[.int .i64 0, .int .i64 0]) 2 Try.underlying24 hi hz0 hz1 .i64 .i64 _ (n + 3) rfl rfl (by omega) (by rw [hz2]; omega) (by unfold maxLen; omega) (Nat.le_refl _) ?_)
  intro w1 hown1 hg1
  have hx1 := show Hid (Ext W0 w1) from Ext.grown hg1
  obtain ⟨g, hgg⟩ : ∃ g, W0.heap.size = g := ⟨_, rfl⟩
  have lo0 : W0.heap.size ≤ g := by omega
  have lo : w.heap.size ≤ g := by have := hx0.out.size; omega
  have hFg : F ≠ g := by omega
  rw [hgg] at hown1 ⊢
  clear hg1 hW0
  go_wp2_with (at_builtin; refine wpList_append_fits_any w1 rfl (.tmp 12) (.tmp 13) 24 rfl g 34 i0 2 Try.underlying24 hi hz1 g 0 (n + 3) [] rfl hown1 ao n c (cellsP l) rfl ?c0 hnone.out (hcl.out _ (hx0.out.trans hx1.out)) (cellsP_one l) ?c3 ?_)
  case c0 => rw [cellsP_len, hn.out]
  case c3 => omega
  intro w2 hown2 hg2
  have hx2 : Hid (Ext w w2) := ⟨(hx0.out.trans hx1.out).below.grown hg2 (by have := hx1.out.size; omega) (fun k hk => by injection hk with hk; subst hk; exact lo)⟩
  have hx3 : Ext W0 w2 := ⟨hx1.out.below.grown hg2 (by have := hx1.out.size; omega) (fun k hk => by injection hk with hk; subst hk; exact lo0)⟩
  have h0 := show Hid _ from hx3.cell_of f0
  have h1 := show Hid _ from hx3.cell_of f1
  have hL : Hid (Lsp w2 g (l ++ List.replicate 0 (71, 0))) := by
    show Lsp _ _ _
    have : w2.ownsRow g 34 2 (.slice (some ⟨g, 0, none⟩) l.length (n + 3)) l.length (cellsP l) := by rw [hn.out]; simpa using hown2
    simpa using Lsp.of_own this
  have hC : Hid (Cells w2 g ((n + 3) * 2)) := Cells.of_own2 hown2
  have hsz : g < w2.heap.size := (hown2.lt g rfl).2
  clear hown1 hown2 hg2 hx1 hx0 hx3 hi hz0 hz1 hz2 hcl hnone hgg f0 f1 hFlt
  go_wp2_with fail
  go_loopw [7] (fun i wr => ∃ k : Nat, n ≤ k ∧ k ≤ n + 3 ∧ i = .int .i64 k ∧ Hid (Lsp wr g (l ++ List.replicate (k - n) (71, 0))) ∧ Hid (Cells wr g ((n + 3) * 2)) ∧ Hid (Ext w wr) ∧ Hid (g < wr.heap.size) ∧ Hid (wr.cell? ⟨F, 0, none⟩ = some (.int .i64 71)) ∧ Hid (wr.cell? ⟨F, 1, none⟩ = some (.int .i64 0))) (fun i _ => n + 3 - (intOf i).toNat)
  case atStart => exact ⟨n, Nat.le_refl _, by omega, rfl, by rw [Nat.sub_self]; exact hL, hC, hx2, hsz, h0, h1⟩
  case round =>
    clear hL hC hx2 hsz h0 h1
    obtain ⟨k, hk1, hk2, rfl, hL, hC, hx, hsz, h0, h1⟩ := hrel
    by_cases hlt : k < n + 3
    · obtain ⟨⟨u, hu⟩, hf⟩ := hC.out (k * 2) (by omega)
      obtain ⟨⟨u', hu'⟩, hf'⟩ := hC.out (k * 2 + 1) (by omega)
      have q0 := h0.out; have q1 := h1.out
      have hC2 := hC.out.set (k * 2) (.int .i64 71)
      have p0 : (wr.setCell ⟨g, k * 2, none⟩ (.int .i64 71)).cell? ⟨g, k * 2 + 1, none⟩ = some u' := by rw [other _ (Or.inr (by omega))]; exact hu'
      have p1 : (wr.setCell ⟨g, k * 2, none⟩ (.int .i64 71)).frozen? ⟨g, k * 2 + 1, none⟩ = false := (hC2 (k * 2 + 1) (by omega)).2
      have hL2 : Hid (Lsp ((wr.setCell ⟨g, k * 2, none⟩ (.int .i64 71)).setCell ⟨g, k * 2 + 1, none⟩ (.int .i64 0)) g (l ++ List.replicate (k + 1 - n) (71, 0))) := by
        show Lsp _ _ _
        have hlen : (l ++ List.replicate (k - n) ((71, 0) : Int × Int)).length = k := by have := hn.out; simp; omega
        have := hL.out.put (T := (n + 3) * 2) hC.out (by rw [hlen]; omega) 71 0
        rw [hlen] at this
        rw [show k + 1 - n = (k - n) + 1 by omega, List.replicate_succ', ← List.append_assoc]
        exact this
      have hC3 := show Hid (Cells ((wr.setCell ⟨g, k * 2, none⟩ (.int .i64 71)).setCell ⟨g, k * 2 + 1, none⟩ (.int .i64 0)) g ((n + 3) * 2)) from hC2.set (k * 2 + 1) _
      have r0 := show Hid (((wr.setCell ⟨g, k * 2, none⟩ (.int .i64 71)).setCell ⟨g, k * 2 + 1, none⟩ (.int .i64 0)).cell? ⟨F, 0, none⟩ = some (.int .i64 71)) from by
        show _ = _
        rw [other _ (Or.inl (Ne.symm hFg)), other _ (Or.inl (Ne.symm hFg))]; exact q0
      have r1 := show Hid (((wr.setCell ⟨g, k * 2, none⟩ (.int .i64 71)).setCell ⟨g, k * 2 + 1, none⟩ (.int .i64 0)).cell? ⟨F, 1, none⟩ = some (.int .i64 0)) from by
        show _ = _
        rw [other _ (Or.inl (Ne.symm hFg)), other _ (Or.inl (Ne.symm hFg))]; exact q1
      have hx4 := show Hid (Ext w ((wr.setCell ⟨g, k * 2, none⟩ (.int .i64 71)).setCell ⟨g, k * 2 + 1, none⟩ (.int .i64 0))) from (hx.out.setCell lo _).setCell lo _
      have hs4 := show Hid (g < ((wr.setCell ⟨g, k * 2, none⟩ (.int .i64 71)).setCell ⟨g, k * 2 + 1, none⟩ (.int .i64 0)).heap.size) from by show _ < _; simpa using hsz.out
      obtain ⟨W4, hW4⟩ : ∃ W, (wr.setCell ⟨g, k * 2, none⟩ (.int .i64 71)).setCell ⟨g, k * 2 + 1, none⟩ (.int .i64 0) = W := ⟨_, rfl⟩
      rw [hW4] at hL2 hC3 r0 r1 hx4 hs4
      clear hC2 hL hC hx hsz h0 h1
      go_wp2
      go_roundw
      case rel => exact ⟨k + 1, by omega, by omega, by go_num, hL2, hC3, hx4, hs4, r0, r1⟩
      case measure => simp [intOf]; omega
    · obtain rfl : k = n + 3 := by omega
      have hL' : Hid (Lsp wr g (l ++ [(71, 0), (71, 0), (71, 0)])) := by show Lsp _ _ _; have := hL.out; rwa [show n + 3 - n = 3 by omega] at this
      clear hL hC
      go_wp2
      go_ret
      exact ⟨⟨g, rfl, lo, hsz.out, hL'.out⟩, hx.out⟩
theorem oneT_t (x y : Int) (w : World) :
    Calls Try.prog 55 #[.agg #[.int .i64 x, .int .i64 y], .agg #[.int .i64 x, .int .i64 y]] w fun e w' => e = .returned (.bool true) ∧ Ext w w' := by
  go_enter Try.func55, Try.ntmps55
  go_wp2
  go_ret
  exact ⟨rfl, ((Ext.refl w).alloc _ _).alloc _ _⟩
theorem SameT_nil (a : Option Addr) (c d : Nat) (x : Option Addr) (w : World) :
    Calls Try.prog 54 #[.slice x 0 d, .slice a 0 c, .func (.func 55) #[] #[]] w fun e w' => e = .returned (.bool true) ∧ w' = w := by
  go_enter Try.func54, Try.ntmps54
  go_wp2_with fail
  refine wp_loop_rounds 1 ?_
  rw [rounds_succ]
  go_wp2
  go_ret
  exact ⟨rfl, rfl⟩
theorem SameT_x (g b off c d : Nat) (l : List (Int × Int)) (w : World) (hl : l.length ≤ 1000) (hg : Lsp w g l) (hc : ∀ (k : Nat) (x y : Int), l[k]? = some (x, y) → w.cell? ⟨b, off + k * 2, none⟩ = some (.int .i64 x) ∧ w.cell? ⟨b, off + k * 2 + 1, none⟩ = some (.int .i64 y)) :
    Calls Try.prog 54 #[.slice (some ⟨g, 0, none⟩) l.length d, .slice (some ⟨b, off, none⟩) l.length c, .func (.func 55) #[] #[]] w fun e w' => e = .returned (.bool true) ∧ Ext w w' := by
  replace hg := show Hid _ from hg
  replace hc := show Hid _ from hc
  obtain ⟨T, hT⟩ : ∃ n, l.length = n := ⟨_, rfl⟩
  rw [hT] at hl ⊢
  replace hT := show Hid _ from hT
  go_enter Try.func54, Try.ntmps54
  go_wp2_with fail
  go_loopw [7] (fun i wr => ∃ k : Nat, k ≤ T ∧ i = .int .i64 k ∧ Hid (Ext w wr)) (fun i _ => T - (intOf i).toNat)
  case atStart => exact ⟨0, Nat.zero_le _, rfl, Ext.refl w⟩
  case round =>
    obtain ⟨k, hk, rfl, hx⟩ := hrel
    by_cases hlt : k < T
    · obtain ⟨⟨x, y⟩, hV⟩ : ∃ V, l[k]? = some V := ⟨_, List.getElem?_eq_getElem (by have := hT.out; omega)⟩
      have k0 := hx.out.cell_of (hg.out.cell k x y hV).1
      have k1 := hx.out.cell_of (hg.out.cell k x y hV).2
      have k2 := hx.out.cell_of (hc.out k x y hV).1
      have k3 := hx.out.cell_of (hc.out k x y hV).2
      clear hV
      have hlt' : (k : Int) < (T : Int) := by omega
      have j0 := Late.cell k0; have j1 := Late.cell k1; have j2 := Late.cell k2; have j3 := Late.cell k3
      have hNe1 : Nonempty (Late wr) := ⟨⟨_, Ext.refl _⟩⟩
      go_wp2_with fail
      refine wp_region_late (by kernel_rfl) (by kernel_rfl) ?_
      repeat (go_big_quiet_step ((first
        | (go_at_call 55; exact late_of (oneT_t _ _ _)))))
      refine wpQuiet_nil ?_
      intro W1 hw'
      replace hx : Hid (Ext w W1) := hx.out.trans (late_ext hw')
      clear hw' j0 j1 j2 j3 k0 k1 k2 k3
      go_wp2
      go_roundw
      case rel => exact ⟨k + 1, by omega, by go_num, hx⟩
      case measure => simp [intOf]; omega
    · obtain rfl : k = T := by omega
      go_wp2
      go_ret
      exact ⟨rfl, hx.out⟩
theorem PlainT_c (g d : Nat) (v : Value) (l : List (Int × Int)) (w : World) (hl : l.length ≤ 1000) (hg : Lsp w g l) (hv : Slp w v l) :
    Calls Try.prog 36 #[.slice (some ⟨g, 0, none⟩) l.length d, v] w fun e w' => e = .returned (.bool true) ∧ Ext w w' := by
  have hS : Hid (Calls Try.prog 54 #[.slice (some ⟨g, 0, none⟩) l.length d, v, .func (.func 55) #[] #[]] w fun e w' => e = .returned (.bool true) ∧ Ext w w') := by
    rcases hv with ⟨a, c, rfl, _, rfl⟩ | ⟨b, off, c, rfl, hc⟩
    · exact (SameT_nil a c d _ w).mono fun e w' h => ⟨h.1, by rw [h.2]; exact Ext.refl _⟩
    · exact SameT_x g b off c d l w hl hg hc
  clear hg hv hl
  generalize l.length = n at *
  go_enter Try.func36, Try.ntmps36
  go_wp2_with fail
  refine Calls.mono hS.out ?_
  rintro e w1 ⟨rfl, hx⟩
  replace hx := show Hid _ from hx
  go_wp2
  go_ret
  exact ⟨rfl, hx.out⟩
theorem KeptT_c (g : Nat) (v : Value) (l : List (Int × Int)) (w : World) (hl : l.length ≤ 1000) (hg : Lsp w g (l ++ [(71, 0), (71, 0), (71, 0)])) (hv : Slp w v l) :
    Calls Try.prog 16 #[.slice (some ⟨g, 0, none⟩) l.length (l.length + 3), v, .agg #[.int .i64 71, .int .i64 0]] w fun e w' => e = .returned (.bool true) ∧ Ext w w' := by
  obtain ⟨W0, F, hW0, hF, hx0, f0, f1, hFlt⟩ := fill_two w 34
  have hP : Hid (Calls Try.prog 36 #[.slice (some ⟨g, 0, none⟩) l.length (l.length + 3), v] W0 fun e w' => e = .returned (.bool true) ∧ Ext W0 w') := PlainT_c g _ v l W0 hl (hg.ext hx0).front (hv.ext hx0)
  obtain ⟨ao, c, rfl, _, _⟩ := hv.src
  clear hv
  replace hg := show Hid (Lsp W0 g _) from hg.ext hx0
  replace f0 := show Hid (W0.cell? ⟨F, 0, none⟩ = _) from f0
  replace f1 := show Hid (W0.cell? ⟨F, 1, none⟩ = _) from f1
  replace hx0 := show Hid _ from hx0
  obtain ⟨n, hn⟩ : ∃ n, l.length = n := ⟨_, rfl⟩
  rw [hn] at hl ⊢
  rw [hn] at hP
  replace hn := show Hid _ from hn
  go_enter Try.func16, Try.ntmps16
  go_wp2_with fail
  refine Calls.mono hP.out ?_
  rintro e w1 ⟨rfl, hx⟩
  replace hg : Hid (Lsp w1 g (l ++ [(71, 0), (71, 0), (71, 0)])) := hg.out.ext hx
  replace f0 := show Hid (w1.cell? ⟨F, 0, none⟩ = _) from hx.cell_of f0.out
  replace f1 := show Hid (w1.cell? ⟨F, 1, none⟩ = _) from hx.cell_of f1.out
  have hx1 : Hid (Ext w w1) := hx0.out.trans hx
  clear hP hx hx0 hW0 hF hFlt
  go_wp2_with fail
  go_loopw [8] (fun i wr => ∃ k : Nat, n ≤ k ∧ k ≤ n + 3 ∧ i = .int .i64 k ∧ Hid (Ext w1 wr)) (fun i _ => n + 3 - (RowKit.intOf i).toNat)
  case atStart => exact ⟨n, Nat.le_refl _, by omega, rfl, Ext.refl _⟩
  case round =>
    obtain ⟨k, hk1, hk2, rfl, hxr⟩ := hrel
    by_cases hlt : k < n + 3
    · have hcell := hg.out.cell k 71 0 (by
        have := hn.out
        rw [List.getElem?_append_right (by omega), this]
        obtain h | h | h : k - n = 0 ∨ k - n = 1 ∨ k - n = 2 := by omega
        all_goals rw [h]; rfl)
      have j0 := Late.cell (hxr.out.cell_of hcell.1); have j1 := Late.cell (hxr.out.cell_of hcell.2)
      have j2 := Late.cell (hxr.out.cell_of f0.out); have j3 := Late.cell (hxr.out.cell_of f1.out)
      have hNe1 : Nonempty (Late wr) := ⟨⟨_, Ext.refl _⟩⟩
      have hlt' : (k : Int) < (n : Int) + 3 := by omega
      clear hcell
      go_wp2_with fail
      refine wp_region_late (by kernel_rfl) (by kernel_rfl) ?_
      repeat (go_big_quiet_step (fail))
      refine wpQuiet_nil ?_
      intro W1 hw'
      replace hxr : Hid (Ext w1 W1) := hxr.out.trans (late_ext hw')
      clear hw' j0 j1 j2 j3
      go_wp2
      go_roundw
      case rel => exact ⟨k + 1, by omega, by omega, by go_num, hxr⟩
      case measure => simp [RowKit.intOf]; omega
    · obtain rfl : k = n + 3 := by omega
      go_wp2
      go_ret
      exact ⟨rfl, hx1.out.trans hxr.out⟩
end Go.Proofs.Ytipnchejhjkomaa
