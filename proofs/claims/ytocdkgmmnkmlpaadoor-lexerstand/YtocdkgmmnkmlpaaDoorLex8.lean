/- Rows of signs, read; two of them held against each other (Same, Plain); awake: as contracts; no statement of the seat is proved here. -/
import Derived.Test.YtocdkgmmnkmlpaaDoorLex7
namespace Go.Proofs.YtocdkgmmnkmlpaaDoor
open Go.RowKit Go.Lib
set_option linter.unusedVariables false

/-- A row of signs at a block: its cells. -/
structure Row (w : World) (g : Nat) (ts : List Tok) : Prop where
  k : ∀ (i : Nat) t, ts[i]? = some t → w.cell? ⟨g, i * 3, none⟩ = some (.int .i64 t.kind)
  a : ∀ (i : Nat) t, ts[i]? = some t → w.cell? ⟨g, i * 3 + 1, none⟩ = some (.int .i64 t.at_)
  s : ∀ (i : Nat) t, ts[i]? = some t → w.cell? ⟨g, i * 3 + 2, none⟩ = some (.string ⟨t.text.toArray⟩)
theorem Row.ext {w w' : World} {g : Nat} {ts : List Tok} (h : Row w g ts) (hx : Ext w w') : Row w' g ts :=
  ⟨fun i t ht => hx.cell_of (h.k i t ht), fun i t ht => hx.cell_of (h.a i t ht), fun i t ht => hx.cell_of (h.s i t ht)⟩
theorem cells_at : ∀ (ts : List Tok) (i : Nat) (t : Tok), ts[i]? = some t → (cellsT ts)[i * 3]? = some (.int .i64 t.kind) ∧ (cellsT ts)[i * 3 + 1]? = some (.int .i64 t.at_) ∧ (cellsT ts)[i * 3 + 2]? = some (.string ⟨t.text.toArray⟩)
  | [], i, t, h => by simp at h
  | u :: ts, 0, t, h => by
    obtain rfl : u = t := by simpa using h
    exact ⟨rfl, rfl, rfl⟩
  | u :: ts, i + 1, t, h => by
    have ih := cells_at ts i t (by simpa using h)
    have e : (i + 1) * 3 = i * 3 + 3 := by omega
    rw [e]
    exact ih
theorem Own.read {B : Nat} {w : World} {v : Value} {ts : List Tok} (h : Own B w v ts) : (v = .slice none 0 0 ∧ ts = []) ∨ ∃ g c, v = .slice (some ⟨g, 0, none⟩) ts.length c ∧ Row w g ts := by
  have h' := h
  rcases h'.row.2 with ⟨rfl, h0⟩ | ⟨g, c, cur, rfl, hg, hc, hr⟩
  · exact Or.inl ⟨rfl, List.eq_nil_of_length_eq_zero h0⟩
  · refine Or.inr ⟨g, c, rfl, ?_⟩
    have hcell := h.row.cells (g := g) rfl
    have hadd : ∀ j, (⟨g, 0, none⟩ : Addr).add j = ⟨g, j, none⟩ := fun j => by unfold Addr.add; split <;> simp_all
    exact ⟨fun i t ht => by rw [← hadd]; exact hcell _ _ (cells_at ts i t ht).1, fun i t ht => by rw [← hadd]; exact hcell _ _ (cells_at ts i t ht).2.1, fun i t ht => by rw [← hadd]; exact hcell _ _ (cells_at ts i t ht).2.2⟩
theorem Own.some {B : Nat} {w : World} {v : Value} {ts : List Tok} (h : Own B w v ts) (hn : ts ≠ []) : ∃ g c, v = .slice (some ⟨g, 0, none⟩) ts.length c ∧ Row w g ts := by
  rcases h.read with ⟨_, h0⟩ | h
  · exact absurd h0 hn
  · exact h
theorem one_t (k a : Int) (s : ByteArray) (w : World) :
    Calls Tryd.prog 19 #[.agg #[.int .i64 k, .int .i64 a, .string s], .agg #[.int .i64 k, .int .i64 a, .string s]] w fun e w' => e = .returned (.bool true) ∧ Ext w w' := by
  go_enter Tryd.func19, Tryd.ntmps19
  go_wp2
  go_ret
  exact ⟨rfl, by repeat (first | exact Ext.refl _ | apply Ext.alloc)⟩
theorem Same_nil (p q : Option Addr) (c d : Nat) (w : World) :
    Calls Tryd.prog 18 #[.slice p 0 c, .slice q 0 d, .func (.func 19) #[] #[]] w fun e w' => e = .returned (.bool true) ∧ w' = w := by
  go_enter Tryd.func18, Tryd.ntmps18
  go_wp2_with fail
  refine wp_loop_rounds 1 ?_
  rw [rounds_succ]
  go_wp2
  go_ret
  exact ⟨rfl, rfl⟩
theorem Same_t (g h c d : Nat) (ts : List Tok) (w : World) (hT : ts.length ≤ 1000000) (a : Row w g ts) (b : Row w h ts) :
    Calls Tryd.prog 18 #[.slice (some ⟨g, 0, none⟩) ts.length c, .slice (some ⟨h, 0, none⟩) ts.length d, .func (.func 19) #[] #[]] w fun e w' => e = .returned (.bool true) ∧ Ext w w' := by
  replace a := show Hid _ from a
  replace b := show Hid _ from b
  go_enter Tryd.func18, Tryd.ntmps18
  go_wp2_with fail
  go_loopw [7] (fun i wr => ∃ k : Nat, k ≤ ts.length ∧ i = .int .i64 k ∧ Hid (Ext w wr)) (fun i _ => ts.length - (RowKit.intOf i).toNat)
  case atStart => exact ⟨0, Nat.zero_le _, rfl, Ext.refl w⟩
  case round =>
    obtain ⟨k, hk, rfl, hx⟩ := hrel
    by_cases hlt : k < ts.length
    · have ht : ts[k]? = some ts[k] := List.getElem?_eq_getElem hlt
      generalize ts[k] = t at ht
      have k0 := hx.out.cell_of (a.out.k k t ht)
      have k1 := hx.out.cell_of (a.out.a k t ht)
      have k2 := hx.out.cell_of (a.out.s k t ht)
      have l0 := hx.out.cell_of (b.out.k k t ht)
      have l1 := hx.out.cell_of (b.out.a k t ht)
      have l2 := hx.out.cell_of (b.out.s k t ht)
      have hlt' : (k : Int) < (ts.length : Int) := by omega
      obtain ⟨tk, ta, tx⟩ := t
      have j0 := Late.cell k0; have j1 := Late.cell k1; have j2 := Late.cell k2
      have i0 := Late.cell l0; have i1 := Late.cell l1; have i2 := Late.cell l2
      have hNe1 : Nonempty (Late wr) := ⟨⟨_, Ext.refl _⟩⟩
      replace ht := show Hid _ from ht
      go_wp2_with fail
      refine wp_region_late (by kernel_rfl) (by kernel_rfl) ?_
      repeat (go_big_quiet_step ((first
        | (go_at_call 19; exact late_of (one_t _ _ _ _)))))
      refine wpQuiet_nil ?_
      intro W1 hw'
      replace hx : Hid (Ext w W1) := hx.out.trans (late_ext hw')
      clear hw' j0 j1 j2 k0 k1 k2 l0 l1 l2 i0 i1 i2
      go_wp2
      go_roundw
      case rel => exact ⟨k + 1, by omega, by go_num, hx⟩
      case measure => simp [RowKit.intOf]; omega
    · obtain rfl : k = ts.length := by omega
      go_wp2
      go_ret
      exact ⟨rfl, hx.out⟩
theorem Plain_nil (p q : Option Addr) (c d : Nat) (w : World) :
    Calls Tryd.prog 11 #[.slice p 0 c, .slice q 0 d] w fun e w' => e = .returned (.bool true) ∧ Ext w w' := by
  go_enter Tryd.func11, Tryd.ntmps11
  go_wp2_with fail
  refine (Same_nil p q c d _).mono ?_
  rintro e w' ⟨rfl, rfl⟩
  go_wp2
  go_ret
  exact ⟨rfl, Ext.refl _⟩
theorem Plain_c (A B : Nat) (u v : Value) (ts : List Tok) (w : World) (hT : ts.length ≤ 1000000) (a : Own A w u ts) (b : Own B w v ts) :
    Calls Tryd.prog 11 #[u, v] w fun e w' => e = .returned (.bool true) ∧ Ext w w' := by
  rcases a.read with ⟨rfl, rfl⟩ | ⟨g, c, rfl, ra⟩
  · rcases b.read with ⟨rfl, _⟩ | ⟨h, d, rfl, rb⟩
    · exact Plain_nil _ _ _ _ w
    · exact Plain_nil _ _ _ _ w
  · rcases b.read with ⟨rfl, rfl⟩ | ⟨h, d, rfl, rb⟩
    · exact Plain_nil _ _ _ _ w
    · replace ra := show Hid _ from ra
      replace rb := show Hid _ from rb
      clear a b
      go_enter Tryd.func11, Tryd.ntmps11
      go_wp2_with fail
      refine (Same_t g h c d ts _ hT ra.out rb.out).mono ?_
      rintro e w1 ⟨rfl, hx⟩
      replace hx := show Hid _ from hx
      go_wp2
      go_ret
      exact ⟨rfl, hx.out⟩
theorem All_x (l : List UInt8) (ts : List Tok) (p q : Nat) (h1 : aT l = ts) (h2 : aP l = p) (h3 : aE l = q) (w : World) (hm : l.length ≤ 9223372036854775807) (he : Hid (Env w)) :
    Calls Tryd.prog 9 #[.string ⟨l.toArray⟩] w fun e w' => (∃ v, e = .returned (.tuple #[v, .int .i64 p, .int .i64 q]) ∧ Own w.heap.size w' v ts) ∧ Ext w w' := by
  rw [← h1, ← h2, ← h3]; exact All_c l w hm he
theorem rAll_x (l : List UInt8) (ts : List Tok) (p q : Nat) (h1 : aT l = ts) (h2 : aP l = p) (h3 : aE l = q) (w : World) (hm : l.length ≤ 9223372036854775807) :
    Calls Tryd.prog 10 #[.string ⟨l.toArray⟩] w fun e w' => (∃ v, e = .returned (.tuple #[v, .int .i64 p, .int .i64 q]) ∧ Own w.heap.size w' v ts) ∧ Ext w w' := by
  rw [← h1, ← h2, ← h3]; exact rAll_c l w hm
theorem lex_few : ∀ (n p : Nat) (l : List UInt8), l.length ≤ n → (lex p l).1.length ≤ l.length := by
  intro n
  induction n with
  | zero =>
    intro p l h
    obtain rfl : l = [] := List.eq_nil_of_length_eq_zero (by omega)
    rw [lex_end (l := []) rfl]; simp
  | succ n ih =>
    intro p l h
    rw [lex_def p]
    cases hm : l.drop (wh false l) with
    | nil => simp
    | cons c m =>
      simp only []
      split
      · simp
      · rename_i hs
        have hz := sz_le (c :: m)
        have hlen : l.length = wh false l + (m.length + 1) := by have := congrArg List.length hm; simp at this; have := wh_le false l; omega
        have h2 := ih (p + wh false l + sz (c :: m)) ((c :: m).drop (sz (c :: m))) (by rw [List.length_drop]; simp at hz ⊢; omega)
        rw [List.length_drop] at h2
        simp at h2 ⊢
        omega
theorem aT_le (l : List UInt8) : (aT l).length ≤ 20001 := by
  by_cases hl : 20000 < l.length
  · unfold aT; rw [if_pos hl]; simp
  · cases h : lex 0 l with
    | mk us o =>
      cases o with
      | some j => rw [(a_bad (by omega) h).2.2]; simp
      | none =>
        rw [(a_fin (by omega) h).2.2]
        have := lex_few l.length 0 l (Nat.le_refl _)
        rw [h] at this
        simp at this ⊢
        omega
theorem awake_lex : aT [114, 97, 116, 101, 32, 53, 37, 59] = [⟨1, 0, [114, 97, 116, 101]⟩, ⟨2, 5, [53, 37]⟩, ⟨3, 7, [59]⟩, ⟨0, 8, []⟩] ∧ aP [114, 97, 116, 101, 32, 53, 37, 59] = 0 ∧ aE [114, 97, 116, 101, 32, 53, 37, 59] = 0 :=
  ⟨by kernel_rfl, by kernel_rfl, by kernel_rfl⟩
theorem awake_c (w : World) (he : Hid (Env w)) :
    Calls Tryd.prog 8 #[] w fun e w' => e = .returned (.bool true) ∧ Ext w w' := by
  go_enter Tryd.func8, Tryd.ntmps8
  go_wp2_with fail
  refine (All_x [114, 97, 116, 101, 32, 53, 37, 59] _ _ _ awake_lex.1 awake_lex.2.1 awake_lex.2.2 w (by decide) he).mono ?_
  rintro e w1 ⟨⟨v, rfl, ho⟩, hx⟩
  obtain ⟨g, c, rfl, hr⟩ := ho.some (by simp)
  have k0 := hr.k 1 _ rfl
  have k1 := hr.a 1 _ rfl
  have k2 := hr.s 1 _ rfl
  simp only at k0 k1 k2
  replace hx := show Hid _ from hx
  replace hr := show Hid _ from hr
  clear ho
  go_wp2
  go_ret
  exact ⟨rfl, hx.out⟩
end Go.Proofs.YtocdkgmmnkmlpaaDoor
