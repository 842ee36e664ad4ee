/- What next and scan of package lexer answer or throw, as contracts: no statement of the seat is proved here. -/
import Derived.Test.YtocdkgmmnkmlpaaDoorLex2
import Derived.OwnWalk
import Derived.Defers
namespace Go.Proofs.YtocdkgmmnkmlpaaDoor
open Go.RowKit Go.Lib
set_option linter.unusedVariables false

theorem box3f (w : World) (x y z : Value) (t : TypeId) : ∃ W b, w.alloc (.cells #[x, y, z] t) = W ∧ w.heap.size = b ∧ Ext w W ∧ W.cell? ⟨b, 0, none⟩ = some x ∧ W.cell? ⟨b, 1, none⟩ = some y ∧ W.cell? ⟨b, 2, none⟩ = some z ∧
    W.frozen? ⟨b, 0, none⟩ = false ∧ W.frozen? ⟨b, 1, none⟩ = false ∧ W.frozen? ⟨b, 2, none⟩ = false :=
  ⟨_, _, rfl, rfl, (Ext.refl w).alloc _ _, by simp [go_sem], by simp [go_sem], by simp [go_sem], by simp [go_sem], by simp [go_sem], by simp [go_sem]⟩
/-- A struct of three fields in a block of its own, behind w. -/
structure Bx (w W : World) (b : Nat) (x y z : Value) : Prop where
  ext : Ext w W
  lo : w.heap.size ≤ b
  c0 : W.cell? ⟨b, 0, none⟩ = some x
  c1 : W.cell? ⟨b, 1, none⟩ = some y
  c2 : W.cell? ⟨b, 2, none⟩ = some z
  z0 : W.frozen? ⟨b, 0, none⟩ = false
  z1 : W.frozen? ⟨b, 1, none⟩ = false
  z2 : W.frozen? ⟨b, 2, none⟩ = false
theorem other {w : World} {b o b' o' : Nat} (x : Value) (h : b ≠ b' ∨ o ≠ o') : (w.setCell ⟨b, o, none⟩ x).cell? ⟨b', o', none⟩ = w.cell? ⟨b', o', none⟩ :=
  by
    apply World.cell?_setCell_other
    intro e
    injection e with e1 e2
    omega
theorem same {w : World} {a : Addr} {v u : Value} (h : w.cell? a = some u) : (w.setCell a v).cell? a = some v := by
  apply World.cell?_setCell_same
  exact h
theorem Bx.on {w W W' : World} {b : Nat} {x y z : Value} (h : Bx w W b x y z) (hx : Ext W W') : Bx w W' b x y z :=
  ⟨h.ext.trans hx, h.lo, hx.cell_of h.c0, hx.cell_of h.c1, hx.cell_of h.c2, by rw [hx.froz _ _ (lt_of_cell h.c0)]; exact h.z0, by rw [hx.froz _ _ (lt_of_cell h.c1)]; exact h.z1, by rw [hx.froz _ _ (lt_of_cell h.c2)]; exact h.z2⟩
theorem Bx.set {w W : World} {b : Nat} {x y z : Value} (h : Bx w W b x y z) (x' y' z' : Value) : Bx w (((W.setCell ⟨b, 0, none⟩ x').setCell ⟨b, 1, none⟩ y').setCell ⟨b, 2, none⟩ z') b x' y' z' := by
  have h1 : (W.setCell ⟨b, 0, none⟩ x').cell? ⟨b, 1, none⟩ = some y := by rw [other _ (Or.inr (by omega))]; exact h.c1
  have h2 : ((W.setCell ⟨b, 0, none⟩ x').setCell ⟨b, 1, none⟩ y').cell? ⟨b, 2, none⟩ = some z := by rw [other _ (Or.inr (by omega)), other _ (Or.inr (by omega))]; exact h.c2
  refine ⟨((h.ext.setCell h.lo _).setCell h.lo _).setCell h.lo _, h.lo, ?_, ?_, same h2, by simp [go_sem, h.z0], by simp [go_sem, h.z1], by simp [go_sem, h.z2]⟩
  · rw [other _ (Or.inr (by omega)), other _ (Or.inr (by omega))]; exact same h.c0
  · rw [other _ (Or.inr (by omega))]; exact same h1
theorem needAt_ok (c k : Int) (w : World) :
    Calls Tryd.prog 28 #[.bool true, .int .i64 c, .int .i64 k] w fun e w' => e = .returned (.tuple #[]) ∧ w' = w := by
  go_enter Tryd.func28, Tryd.ntmps28
  go_wp2
  go_end0
  exact ⟨rfl, rfl⟩
theorem needAt_no (c k : Int) (w : World) :
    Calls Tryd.prog 28 #[.bool false, .int .i64 c, .int .i64 k] w fun e w' => e = .panicked [{ v := .iface 42 (.agg #[.int .i64 c, .int .i64 k]), recovered := false }] ∧ w' = w := by
  go_enter Tryd.func28, Tryd.ntmps28
  go_wp2
  exact ⟨rfl, rfl, rfl⟩
theorem clone_c (l : List UInt8) (w : World) (hl : l.length ≤ 20000) :
    Calls Tryd.prog 29 #[.string ⟨l.toArray⟩] w fun e w' => e = .returned (.string ⟨l.toArray⟩) ∧ Ext w w' := by
  go_enter Tryd.func29, Tryd.ntmps29
  go_wp2_with fail
  refine (Tryd.stringslite_Clone ⟨l.toArray⟩ w (by rw [Lib.size_mk]; omega)).mono ?_
  rintro e w1 ⟨rfl, hx⟩
  replace hx := show Hid _ from hx
  go_wp2
  go_ret
  exact ⟨rfl, ⟨hx.out⟩⟩
theorem measure_x (l : List UInt8) (k n : Nat) (h1 : kd l = k) (h2 : sz l = n) (w : World) (hl : l.length ≤ 20000) :
    Calls Tryd.prog 27 #[.string ⟨l.toArray⟩] w fun e w' => e = .returned (.tuple #[.int .i64 k, .int .i64 n]) ∧ Ext w w' := by
  rw [← h1, ← h2]; exact measure_c l w hl
theorem next_no (l m : List UInt8) (k : Nat) (w : World) (hm : l.drop k = m) (hs : sz m = 0) (hl : l.length ≤ 20000) (hk : k ≤ l.length) :
    Calls Tryd.prog 21 #[.string ⟨l.toArray⟩, .int .i64 k] w fun e w' => e = .panicked [{ v := .iface 42 (.agg #[.int .i64 6, .int .i64 k]), recovered := false }] ∧ Ext w w' := by
  have hE := ext_drop l k
  rw [hm] at hE
  have hml : m.length ≤ 20000 := by rw [← hm, List.length_drop]; omega
  replace hm := show Hid _ from hm
  replace hs := show Hid _ from hs
  obtain ⟨q, hq⟩ : ∃ q, kd m = q := ⟨_, rfl⟩
  replace hq := show Hid _ from hq
  go_enter Tryd.func21, Tryd.ntmps21
  go_wp2_with fail
  refine (measure_x m q 0 hq.out hs.out _ hml).mono ?_
  rintro e w1 ⟨rfl, hx⟩
  replace hx : Hid (Ext w w1) := (by exact (Ext.refl w).alloc _ _ : Ext w _).trans hx
  go_wp2_with fail
  refine (needAt_no _ _ _).mono ?_
  rintro e w2 ⟨rfl, rfl⟩
  go_wp2
  exact ⟨rfl, rfl, hx.out⟩
theorem next_ok (l m t : List UInt8) (k n q : Nat) (w : World) (hm : l.drop k = m) (hs : sz m = n) (hq : kd m = q) (hn : 0 < n) (ht : m.take n = t) (hl : l.length ≤ 20000) (hk : k ≤ l.length) :
    Calls Tryd.prog 21 #[.string ⟨l.toArray⟩, .int .i64 k] w fun e w' => e = .returned (.agg #[.int .i64 q, .int .i64 k, .string ⟨t.toArray⟩]) ∧ Ext w w' := by
  have hE := ext_drop l k
  have hE2 := ext_part l k (k + n)
  rw [show k + n - k = n by omega, hm, ht] at hE2
  rw [hm] at hE
  have hml : m.length = l.length - k := by rw [← hm, List.length_drop]
  have hnm : n ≤ m.length := hs ▸ sz_le m
  have hml2 : m.length ≤ 20000 := by omega
  have htl : t.length ≤ 20000 := by rw [← ht, List.length_take]; omega
  obtain ⟨K, hK⟩ : ∃ K, k + n = K := ⟨_, rfl⟩
  rw [hK] at hE2
  have hsum : (k : Int) + (n : Int) = (K : Int) := by omega
  have hKl : K ≤ l.length := by omega
  have hkK : k ≤ K := by omega
  replace hm := show Hid _ from hm
  replace hs := show Hid _ from hs
  replace hq := show Hid _ from hq
  replace ht := show Hid _ from ht
  replace hK := show Hid _ from hK
  replace hml := show Hid _ from hml
  go_enter Tryd.func21, Tryd.ntmps21
  go_wp2_with fail
  obtain ⟨W0, b, hW0, hb, hx0, c0, c1, c2, z0, z1, z2⟩ := box3f w (.int .i64 0) (.int .i64 0) (.string ⟨#[]⟩) 29
  have hB : Bx w W0 b (.int .i64 0) (.int .i64 0) (.string ⟨#[]⟩) := ⟨hx0, by omega, c0, c1, c2, z0, z1, z2⟩
  rw [hW0, hb]
  clear hW0 hb hx0 c0 c1 c2 z0 z1 z2
  refine (measure_x m q n hq.out hs.out _ hml2).mono ?_
  rintro e w1 ⟨rfl, hx⟩
  replace hB := hB.on hx
  clear hx
  replace hB := show Hid _ from hB
  have hd : decide (0 < (n : Int)) = true := by simpa using hn
  go_wp2_with fail
  refine (needAt_ok _ _ _).mono ?_
  rintro e w2 ⟨rfl, rfl⟩
  go_wp2_with fail
  refine (clone_c t _ htl).mono ?_
  rintro e w3 ⟨rfl, hx⟩
  replace hB := show Hid _ from hB.out.on hx
  clear hx
  have c0 := hB.out.c0; have c1 := hB.out.c1; have c2 := hB.out.c2; have z0 := hB.out.z0; have z1 := hB.out.z1; have z2 := hB.out.z2
  go_wp2
  replace hB := hB.out.set (.int .i64 (q : Int)) (.int .i64 (k : Int)) (.string ⟨t.toArray⟩)
  clear c0 c1 c2 z0 z1 z2
  generalize ((w3.setCell ⟨b, 0, none⟩ (.int .i64 (q : Int))).setCell ⟨b, 1, none⟩ (.int .i64 (k : Int))).setCell ⟨b, 2, none⟩ (.string ⟨t.toArray⟩) = Wf at *
  exact bodyPost_ret (v := .agg #[.int .i64 q, .int .i64 k, .string ⟨t.toArray⟩]) (by simp [results, Tryd.results21, go_sem, hB.c0, hB.c1, hB.c2]) rfl ⟨rfl, hB.ext⟩
/-- A sign's cells; a row's. -/
def cellT (t : Tok) : List Value := [.int .i64 t.kind, .int .i64 t.at_, .string ⟨t.text.toArray⟩]
def cellsT (ts : List Tok) : List Value := ts.flatMap cellT
theorem cellsT_snoc (ts : List Tok) (t : Tok) : cellsT (ts ++ [t]) = cellsT ts ++ cellT t := by simp [cellsT]
theorem info_tok : (Tryd.prog.info? 29).map (fun i => (i.zero, i.size, i.bytes)) = some (some (.agg #[.int .i64 0, .int .i64 0, .string ⟨#[]⟩]), 3, 32) := by kernel_rfl
theorem own_ext {w w' : World} {B : Nat} {e : TypeId} {z : Nat} {v : Value} {T : Nat} {xs : List Value} (h : w.ownsRow B e z v T xs) (hx : Ext w w') : w'.ownsRow B e z v T xs := by
  refine ⟨h.1, ?_⟩
  rcases h.2 with h0 | ⟨g, c, cur, h1, h2, h3, h4⟩
  · exact Or.inl h0
  · refine Or.inr ⟨g, c, cur, h1, h2, ?_, h4⟩
    rw [hx.below.block g (Array.getElem?_eq_some_iff.1 h3).1]
    exact h3
theorem own_lo {w : World} {B : Nat} {e : TypeId} {z : Nat} {v : Value} {T : Nat} {xs : List Value} (h : w.ownsRow B e z v T xs) : ∀ k, v.ownBlock = some k → B ≤ k := fun k hk => (h.lt k hk).1
/-- A row of signs that was made behind the block B. -/
structure Own (B : Nat) (w : World) (v : Value) (ts : List Tok) : Prop where
  row : w.ownsRow B 29 3 v ts.length (cellsT ts)
theorem Own.ext {B : Nat} {w w' : World} {v : Value} {ts : List Tok} (h : Own B w v ts) (hx : Ext w w') : Own B w' v ts := ⟨own_ext h.row hx⟩
theorem Own.nil (B : Nat) (w : World) : Own B w (.slice none 0 0) [] := ⟨World.ownsRow_nil _ _ _ _⟩
theorem Own.snoc {B : Nat} {w : World} {v : Value} {ts : List Tok} {t : Tok} (h : w.ownsRow B 29 3 v (ts.length + 1) (cellsT ts ++ cellT t)) : Own B w v (ts ++ [t]) :=
  ⟨by rw [cellsT_snoc]; simpa using h⟩
theorem pass_x (l : List UInt8) (k Z : Nat) (hZ : k + wh false (l.drop k) = Z) (w : World) (hl : l.length ≤ 20000) (hk : k ≤ l.length) (he : Hid (Env w)) :
    Calls Tryd.prog 20 #[.string ⟨l.toArray⟩, .int .i64 k] w fun e w' => e = .returned (.int .i64 Z) ∧ Ext w w' := hZ ▸ pass_c l k w hl hk he
/-- How far the signs of l have been told, at the place j. -/
structure Told (l : List UInt8) (j : Nat) (ts : List Tok) : Prop where
  le : j ≤ l.length
  few : ts.length ≤ j
  white : wh false (l.drop j) = 0
  all : lex 0 l = (ts ++ (lex j (l.drop j)).1, (lex j (l.drop j)).2)
theorem Told.start (l : List UInt8) : Told l (wh false l) [] :=
  ⟨wh_le false l, Nat.zero_le _, wh_drop false l, by have h := lex_pass 0 l; simpa using h⟩
theorem Told.fin {l : List UInt8} {j : Nat} {ts : List Tok} (h : Told l j ts) (hj : ¬ j < l.length) : lex 0 l = (ts, none) := by
  have hd : l.drop j = [] := List.drop_of_length_le (by omega)
  rw [h.all, hd, lex_end (l := []) rfl]; simp
theorem Told.bad {l : List UInt8} {j : Nat} {ts : List Tok} (h : Told l j ts) (hj : j < l.length) (hs : sz (l.drop j) = 0) : lex 0 l = (ts, some j) := by
  cases hm : l.drop j with
  | nil => have := congrArg List.length hm; simp at this; omega
  | cons c m =>
    have hw := h.white
    rw [hm] at hw hs
    rw [h.all, hm, lex_bad hw hs]; simp
theorem Told.step {l : List UInt8} {j n : Nat} {ts : List Tok} (h : Told l j ts) (hj : j < l.length) (hs : sz (l.drop j) = n) (hn : 0 < n) :
    j + n ≤ l.length ∧ Told l (j + n + wh false (l.drop (j + n))) (ts ++ [⟨kd (l.drop j), j, (l.drop j).take n⟩]) := by
  have hz := sz_le (l.drop j)
  rw [List.length_drop] at hz
  have hle : j + n ≤ l.length := by omega
  have hw2 := wh_le false (l.drop (j + n))
  rw [List.length_drop] at hw2
  refine ⟨hle, by omega, by have := h.few; simp; omega, by rw [← List.drop_drop]; exact wh_drop false _, ?_⟩
  cases hm : l.drop j with
  | nil => have := congrArg List.length hm; simp at this; omega
  | cons c m =>
    have hw := h.white
    rw [hm] at hw hs
    have hd : (c :: m).drop n = l.drop (j + n) := by rw [← hm, List.drop_drop]
    rw [h.all, hm, lex_tok hw hs hn, hd, lex_pass (j + n) (l.drop (j + n)), List.drop_drop]
    simp
theorem scan_ok (l : List UInt8) (ts : List Tok) (w : World) (hl : l.length ≤ 20000) (hlex : lex 0 l = (ts, none)) (he : Hid (Env w)) :
    Calls Tryd.prog 15 #[.string ⟨l.toArray⟩] w fun e w' => (∃ v, e = .returned v ∧ Own w.heap.size w' v (ts ++ [⟨0, l.length, []⟩])) ∧ Ext w w' := by
  obtain ⟨i0, hi, hz0, hz1, hz2⟩ := info_parts info_tok
  have hst := Told.start l
  obtain ⟨j0, hj0⟩ : ∃ j, wh false l = j := ⟨_, rfl⟩
  rw [hj0] at hst
  replace hlex := show Hid _ from hlex
  replace hst := show Hid _ from hst
  replace hj0 := show Hid _ from hj0
  go_enter Tryd.func15, Tryd.ntmps15
  go_wp2_with fail
  refine (pass_x l 0 j0 (by simpa using hj0.out) _ hl (Nat.zero_le _) he).mono ?_
  rintro e w1 ⟨rfl, hx⟩
  replace hx := show Hid _ from hx
  go_wp2_with fail
  go_loopw [3, 4] (fun v i wr => ∃ (j : Nat) (us : List Tok), j ≤ l.length ∧ us.length ≤ j ∧ i = .int .i64 (j : Int) ∧ Hid (Told l j us) ∧ Hid (Own w.heap.size wr v us) ∧ Hid (Ext w wr)) (fun _ i _ => l.length - (RowKit.intOf i).toNat)
  case atStart => exact ⟨j0, [], hst.out.le, Nat.zero_le _, rfl, hst, Own.nil _ _, hx⟩
  case round =>
    obtain ⟨j, us, hjl, huj, rfl, htold, hr, hx⟩ := hrel
    clear hst hj0
    have he1 : Hid (Env wr) := he.out.ext hx.out
    by_cases hlt : j < l.length
    · obtain ⟨m, hm⟩ : ∃ m, l.drop j = m := ⟨_, rfl⟩
      obtain ⟨n, hn⟩ : ∃ n, sz m = n := ⟨_, rfl⟩
      obtain ⟨q, hq⟩ : ∃ q, kd m = q := ⟨_, rfl⟩
      obtain ⟨t, ht⟩ : ∃ t, m.take n = t := ⟨_, rfl⟩
      have hpos : 0 < n := by
        rcases Nat.eq_zero_or_pos n with h0 | h0
        · exfalso
          have h1 := htold.out.bad hlt (by rw [hm, hn, h0])
          have h2 := hlex.out
          rw [h1] at h2
          simp at h2
        · exact h0
      obtain ⟨hle, hnew⟩ := htold.out.step hlt (by rw [hm]; exact hn) hpos
      obtain ⟨J, hJ⟩ : ∃ J, j + n + wh false (l.drop (j + n)) = J := ⟨_, rfl⟩
      rw [hm, hJ, hq, ht] at hnew
      obtain ⟨K, hK⟩ : ∃ K, j + n = K := ⟨_, rfl⟩
      rw [hK] at hJ hle
      have htl : t.length = n := by rw [← ht, List.length_take]; have := sz_le m; omega
      have hsum : (j : Int) + (n : Int) = (K : Int) := by omega
      replace hm := show Hid _ from hm
      replace hn := show Hid _ from hn
      replace hq := show Hid _ from hq
      replace ht := show Hid _ from ht
      replace hJ := show Hid _ from hJ
      replace hK := show Hid _ from hK
      replace hnew := show Hid _ from hnew
      go_wp2_with fail
      refine (next_ok l m t j n q _ hm.out hn.out hq.out hpos ht.out hl hjl).mono ?_
      rintro e w2 ⟨rfl, hx1⟩
      replace hr : Hid (Own _ w2 _ us) := hr.out.ext hx1
      replace hx : Hid (Ext w w2) := hx.out.trans hx1
      replace he1 : Hid (Env w2) := he1.out.ext hx1
      clear hx1
      have hsz := hx.out.size
      have hown := hr.out.row.lt
      replace hown := show Hid _ from hown
      go_wp2_with (at_builtin; refine wpList_append_own _ rfl (.tmp 15) (.tmp 17) 23 rfl w.heap.size 29 i0 (.agg #[.int .i64 0, .int .i64 0, .string ⟨#[]⟩]) 3 32 Tryd.underlying23 hi hz0 hz1 hz2 rfl (by decide) _ _ _ rfl ((hr.out.row.alloc _).alloc _) ⟨w2.heap.size + 1, 0, none⟩ 1 1 (cellT ⟨q, j, t⟩) rfl rfl ?c1 ?c2 ?c3 ?c4 ?c5 ?_)
      case c1 =>
        intro p u hp
        match p, hp with
        | 0, hp => simp [cellT] at hp; subst hp; simp [Addr.add, go_sem]
        | 1, hp => simp [cellT] at hp; subst hp; simp [Addr.add, go_sem]
        | 2, hp => simp [cellT] at hp; subst hp; simp [Addr.add, go_sem]
        | p + 3, hp => simp [cellT] at hp
      case c2 => intro u hu; simp [cellT] at hu; rcases hu with rfl | rfl | rfl <;> rfl
      case c3 => unfold maxLen; omega
      case c4 => omega
      case c5 => simp; omega
      intro v' w3 hown' hgrow _
      have hx3 : Hid (Ext w w3) := ⟨(((hx.out.alloc _ _).alloc _ _).below).grown hgrow (by simp; omega) (own_lo hr.out.row)⟩
      have hr3 : Hid (Own w.heap.size w3 v' (us ++ [⟨q, j, t⟩])) := Own.snoc hown'
      have hc : w3.cell? ⟨w2.heap.size, 2, none⟩ = some (.string ⟨t.toArray⟩) := by
        refine hgrow.cell (a := ⟨w2.heap.size, 2, none⟩) (by simp [go_sem]) ?_
        intro e
        exact absurd (hown.out _ e.symm).2 (Nat.lt_irrefl _)
      have he3 : Hid (Env w3) := he.out.ext hx3.out
      clear hown' hgrow hr hx he1 hown
      go_wp2_with fail
      refine (pass_x l K J hJ.out _ hl hle he3).mono ?_
      rintro e w4 ⟨rfl, hx1⟩
      have hx4 : Hid (Ext w w4) := hx3.out.trans hx1
      have hr4 : Hid (Own w.heap.size w4 v' (us ++ [⟨q, j, t⟩])) := hr3.out.ext hx1
      clear hx1 hr3 hx3 he3 hc
      go_wp2
      go_roundw
      case rel => exact ⟨J, us ++ [⟨q, j, t⟩], hnew.out.le, hnew.out.few, rfl, hnew, hr4, hx4⟩
      case measure => have := hJ.out; have := hK.out; have := hnew.out.le; simp [RowKit.intOf]; omega
    · have hf := htold.out.fin hlt
      obtain rfl : us = ts := by have h := hlex.out; rw [hf] at h; exact (Prod.mk.inj h).1
      clear hf
      have hsz := hx.out.size
      have hd : decide ((j : Int) < (l.length : Int)) = false := by simpa using hlt
      go_wp2_with (at_builtin; refine wpList_append_own _ rfl (.tmp 26) (.tmp 30) 23 rfl w.heap.size 29 i0 (.agg #[.int .i64 0, .int .i64 0, .string ⟨#[]⟩]) 3 32 Tryd.underlying23 hi hz0 hz1 hz2 rfl (by decide) _ _ _ rfl (hr.out.row.alloc _) ⟨wr.heap.size, 0, none⟩ 1 1 (cellT ⟨0, l.length, []⟩) rfl rfl ?c1 ?c2 ?c3 ?c4 ?c5 ?_)
      case c1 =>
        intro p u hp
        match p, hp with
        | 0, hp => simp [cellT] at hp; subst hp; simp [Addr.add, go_sem]
        | 1, hp => simp [cellT] at hp; subst hp; simp [Addr.add, go_sem]
        | 2, hp => simp [cellT] at hp; subst hp; simp [Addr.add, go_sem]
        | p + 3, hp => simp [cellT] at hp
      case c2 => intro u hu; simp [cellT] at hu; rcases hu with rfl | rfl | rfl <;> rfl
      case c3 => unfold maxLen; omega
      case c4 => omega
      case c5 => simp; omega
      intro v' w3 hown' hgrow _
      have hx3 : Hid (Ext w w3) := ⟨((hx.out.alloc _ _).below).grown hgrow (by simp; omega) (own_lo hr.out.row)⟩
      have hr3 : Hid (Own w.heap.size w3 v' (us ++ [⟨0, l.length, []⟩])) := Own.snoc hown'
      clear hown' hgrow hr hx he1
      go_wp2
      go_ret
      exact ⟨⟨_, rfl, hr3.out⟩, hx3.out⟩
theorem scan_no (l : List UInt8) (ts : List Tok) (P : Nat) (w : World) (hl : l.length ≤ 20000) (hlex : lex 0 l = (ts, some P)) (he : Hid (Env w)) :
    Calls Tryd.prog 15 #[.string ⟨l.toArray⟩] w fun e w' => e = .panicked [{ v := .iface 42 (.agg #[.int .i64 6, .int .i64 P]), recovered := false }] ∧ Ext w w' := by
  obtain ⟨i0, hi, hz0, hz1, hz2⟩ := info_parts info_tok
  have hst := Told.start l
  obtain ⟨j0, hj0⟩ : ∃ j, wh false l = j := ⟨_, rfl⟩
  rw [hj0] at hst
  replace hlex := show Hid _ from hlex
  replace hst := show Hid _ from hst
  replace hj0 := show Hid _ from hj0
  go_enter Tryd.func15, Tryd.ntmps15
  go_wp2_with fail
  refine (pass_x l 0 j0 (by simpa using hj0.out) _ hl (Nat.zero_le _) he).mono ?_
  rintro e w1 ⟨rfl, hx⟩
  replace hx := show Hid _ from hx
  go_wp2_with fail
  go_loopw [3, 4] (fun v i wr => ∃ (j : Nat) (us : List Tok), j ≤ l.length ∧ us.length ≤ j ∧ i = .int .i64 (j : Int) ∧ Hid (Told l j us) ∧ Hid (Own w.heap.size wr v us) ∧ Hid (Ext w wr)) (fun _ i _ => l.length - (RowKit.intOf i).toNat)
  case atStart => exact ⟨j0, [], hst.out.le, Nat.zero_le _, rfl, hst, Own.nil _ _, hx⟩
  case round =>
    obtain ⟨j, us, hjl, huj, rfl, htold, hr, hx⟩ := hrel
    clear hst hj0
    have he1 : Hid (Env wr) := he.out.ext hx.out
    by_cases hlt : j < l.length
    · obtain ⟨m, hm⟩ : ∃ m, l.drop j = m := ⟨_, rfl⟩
      obtain ⟨n, hn⟩ : ∃ n, sz m = n := ⟨_, rfl⟩
      obtain ⟨q, hq⟩ : ∃ q, kd m = q := ⟨_, rfl⟩
      obtain ⟨t, ht⟩ : ∃ t, m.take n = t := ⟨_, rfl⟩
      rcases Nat.eq_zero_or_pos n with h0 | hpos
      · have h1 := htold.out.bad hlt (by rw [hm, hn, h0])
        have h2 := hlex.out
        rw [h1] at h2
        obtain rfl : j = P := by simpa using (Prod.mk.inj h2).2
        subst h0
        clear h1 h2 ht
        replace hm := show Hid _ from hm
        replace hn := show Hid _ from hn
        replace hq := show Hid _ from hq
        go_wp2_with fail
        refine (next_no l m j _ hm.out hn.out hl hjl).mono ?_
        rintro e w2 ⟨rfl, hx1⟩
        replace hx : Hid (Ext w w2) := hx.out.trans hx1
        clear hx1
        go_wp2
        exact ⟨rfl, rfl, hx.out⟩
      obtain ⟨hle, hnew⟩ := htold.out.step hlt (by rw [hm]; exact hn) hpos
      obtain ⟨J, hJ⟩ : ∃ J, j + n + wh false (l.drop (j + n)) = J := ⟨_, rfl⟩
      rw [hm, hJ, hq, ht] at hnew
      obtain ⟨K, hK⟩ : ∃ K, j + n = K := ⟨_, rfl⟩
      rw [hK] at hJ hle
      have htl : t.length = n := by rw [← ht, List.length_take]; have := sz_le m; omega
      have hsum : (j : Int) + (n : Int) = (K : Int) := by omega
      replace hm := show Hid _ from hm
      replace hn := show Hid _ from hn
      replace hq := show Hid _ from hq
      replace ht := show Hid _ from ht
      replace hJ := show Hid _ from hJ
      replace hK := show Hid _ from hK
      replace hnew := show Hid _ from hnew
      go_wp2_with fail
      refine (next_ok l m t j n q _ hm.out hn.out hq.out hpos ht.out hl hjl).mono ?_
      rintro e w2 ⟨rfl, hx1⟩
      replace hr : Hid (Own _ w2 _ us) := hr.out.ext hx1
      replace hx : Hid (Ext w w2) := hx.out.trans hx1
      replace he1 : Hid (Env w2) := he1.out.ext hx1
      clear hx1
      have hsz := hx.out.size
      have hown := hr.out.row.lt
      replace hown := show Hid _ from hown
      go_wp2_with (at_builtin; refine wpList_append_own _ rfl (.tmp 15) (.tmp 17) 23 rfl w.heap.size 29 i0 (.agg #[.int .i64 0, .int .i64 0, .string ⟨#[]⟩]) 3 32 Tryd.underlying23 hi hz0 hz1 hz2 rfl (by decide) _ _ _ rfl ((hr.out.row.alloc _).alloc _) ⟨w2.heap.size + 1, 0, none⟩ 1 1 (cellT ⟨q, j, t⟩) rfl rfl ?c1 ?c2 ?c3 ?c4 ?c5 ?_)
      case c1 =>
        intro p u hp
        match p, hp with
        | 0, hp => simp [cellT] at hp; subst hp; simp [Addr.add, go_sem]
        | 1, hp => simp [cellT] at hp; subst hp; simp [Addr.add, go_sem]
        | 2, hp => simp [cellT] at hp; subst hp; simp [Addr.add, go_sem]
        | p + 3, hp => simp [cellT] at hp
      case c2 => intro u hu; simp [cellT] at hu; rcases hu with rfl | rfl | rfl <;> rfl
      case c3 => unfold maxLen; omega
      case c4 => omega
      case c5 => simp; omega
      intro v' w3 hown' hgrow _
      have hx3 : Hid (Ext w w3) := ⟨(((hx.out.alloc _ _).alloc _ _).below).grown hgrow (by simp; omega) (own_lo hr.out.row)⟩
      have hr3 : Hid (Own w.heap.size w3 v' (us ++ [⟨q, j, t⟩])) := Own.snoc hown'
      have hc : w3.cell? ⟨w2.heap.size, 2, none⟩ = some (.string ⟨t.toArray⟩) := by
        refine hgrow.cell (a := ⟨w2.heap.size, 2, none⟩) (by simp [go_sem]) ?_
        intro e
        exact absurd (hown.out _ e.symm).2 (Nat.lt_irrefl _)
      have he3 : Hid (Env w3) := he.out.ext hx3.out
      clear hown' hgrow hr hx he1 hown
      go_wp2_with fail
      refine (pass_x l K J hJ.out _ hl hle he3).mono ?_
      rintro e w4 ⟨rfl, hx1⟩
      have hx4 : Hid (Ext w w4) := hx3.out.trans hx1
      have hr4 : Hid (Own w.heap.size w4 v' (us ++ [⟨q, j, t⟩])) := hr3.out.ext hx1
      clear hx1 hr3 hx3 he3 hc
      go_wp2
      go_roundw
      case rel => exact ⟨J, us ++ [⟨q, j, t⟩], hnew.out.le, hnew.out.few, rfl, hnew, hr4, hx4⟩
      case measure => have := hJ.out; have := hK.out; have := hnew.out.le; simp [RowKit.intOf]; omega
    · exfalso
      have hf := htold.out.fin hlt
      have h := hlex.out
      rw [hf] at h
      simp at h
end Go.Proofs.YtocdkgmmnkmlpaaDoor
