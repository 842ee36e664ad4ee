/- What package business does: New, the days sought, Roll and Count, as contracts: no statement of the seat is proved here. -/
import Derived.Test.YtkkpnhcodaijeaaDoorBiz1
import Derived.OwnWalk
import Derived.Laws.AppendOwn
import Derived.Laws.AppendOwnNone
import Derived.ProofKit
namespace Go.Proofs.YtkkpnhcodaijeaaDoor
open Go.RowKit
set_option linter.unusedVariables false

theorem box3f (w : World) (x y z : Value) (t : TypeId) : ∃ W b, w.alloc (.cells #[x, y, z] t) = W ∧ w.heap.size = b ∧ Ext w W ∧ W.cell? ⟨b, 0, none⟩ = some x ∧ W.cell? ⟨b, 1, none⟩ = some y ∧ W.cell? ⟨b, 2, none⟩ = some z ∧
    W.frozen? ⟨b, 0, none⟩ = false ∧ W.frozen? ⟨b, 1, none⟩ = false ∧ W.frozen? ⟨b, 2, none⟩ = false :=
  ⟨_, _, rfl, rfl, (Ext.refl w).alloc _ _, by simp [go_sem], by simp [go_sem], by simp [go_sem], by simp [go_sem], by simp [go_sem], by simp [go_sem]⟩
theorem Ext.froz_of {w w' : World} {b o : Nat} {v : Value} (hx : Ext w w') (h : w.cell? ⟨b, o, none⟩ = some v) (k : w.frozen? ⟨b, o, none⟩ = false) : w'.frozen? ⟨b, o, none⟩ = false := by
  rw [hx.froz b o (lt_of_cell h)]; exact k
theorem Ext.grown {w w' : World} (hg : w.grownBy w' none) : Ext w w' := ⟨(Below.refl _ _).grown hg (Nat.le_refl _) (fun k h => by cases h)⟩
theorem info_int : (Tryd.prog.info? 3).map (fun i => (i.zero, i.size, i.bytes)) = some (some (.int .i64 0), 1, 8) := by kernel_rfl
theorem Date_f (n : Int) (w : World) (h1 : -25567 ≤ n) (h2 : n ≤ 84370) (he : Hid (Env w)) :
    Calls Tryd.prog 41 #[.int .i64 n] w fun e w' => e = .returned (.tuple #[.agg #[.int .i64 (yOf n), .int .i64 (mOf n), .int .i64 (dOf n)], .int .i64 0]) ∧ Ext w w' :=
  (Date_ok n w h1 h2 he).mono fun e w' ⟨⟨y, m, d, he, hv, hn⟩, hx⟩ => by
    obtain ⟨rfl, rfl, rfl⟩ := ofDay_of hv hn
    exact ⟨he, hx⟩
theorem rDate_f (n : Int) (w : World) (h1 : -25567 ≤ n) (h2 : n ≤ 84370) :
    Calls Tryd.prog 20 #[.int .i64 n] w fun e w' => e = .returned (.tuple #[.agg #[.int .i64 (yOf n), .int .i64 (mOf n), .int .i64 (dOf n)], .int .i64 0]) ∧ Ext w w' :=
  (rDate_ok n w h1 h2).mono fun e w' ⟨⟨y, m, d, he, hv, hn⟩, hx⟩ => by
    obtain ⟨rfl, rfl, rfl⟩ := ofDay_of hv hn
    exact ⟨he, hx⟩

theorem rising_nil (a : Option Addr) (c : Nat) (w : World) :
    Calls Tryd.prog 21 #[.slice a 0 c] w fun e w' => e = .returned (.bool true) ∧ w' = w := by
  go_enter Tryd.func21, Tryd.ntmps21
  go_wp2_with fail
  refine wp_loop_rounds 1 ?_
  rw [rounds_succ]
  go_wp2
  go_ret
  exact ⟨rfl, rfl⟩
theorem rising_c (b off c : Nat) (l : List Int) (w : World) (hl : l.length ≤ 1000) (hc : ∀ (k : Nat) (v : Int), l[k]? = some v → w.cell? ⟨b, off + k, none⟩ = some (.int .i64 v)) :
    Calls Tryd.prog 21 #[.slice (some ⟨b, off, none⟩) l.length c] w fun e w' => e = .returned (.bool (rsg (-25568) l)) ∧ w' = w := by
  replace hc := show Hid _ from hc
  obtain ⟨n, hn⟩ : ∃ n, l.length = n := ⟨_, rfl⟩
  rw [hn]
  rw [hn] at hl
  replace hn := show Hid _ from hn
  go_enter Tryd.func21, Tryd.ntmps21
  go_wp2_with fail
  go_loop [3, 8] (fun u i => ∃ (k : Nat) (A : Int), k ≤ n ∧ i = .int .i64 k ∧ u = .int .i64 A ∧ Hid (rsg (-25568) l = rsg A (l.drop k))) (fun _ i => n - (RowKit.intOf i).toNat)
  case atStart => exact ⟨0, -25568, Nat.zero_le _, rfl, rfl, rfl⟩
  case round =>
    obtain ⟨k, A, hk, rfl, rfl, hA⟩ := hrel
    by_cases hlt : k < n
    · obtain ⟨V, hV⟩ : ∃ V, l[k]? = some V := ⟨_, List.getElem?_eq_getElem (by have := hn.out; omega)⟩
      have hcell := hc.out _ _ hV
      have hd := show Hid _ from drop_at hV
      clear hV
      by_cases h1 : V ≤ A
      · have hf : Hid (rsg (-25568) l = false) := by show _ = _; rw [hA.out, hd.out]; exact rsg_no (Or.inl h1)
        clear hA hd
        go_wp2
        go_ret
        exact ⟨ret_bool hf.out.symm, rfl⟩
      · by_cases h2 : 84370 < V
        · have hf : Hid (rsg (-25568) l = false) := by show _ = _; rw [hA.out, hd.out]; exact rsg_no (Or.inr h2)
          clear hA hd
          go_wp2
          go_ret
          exact ⟨ret_bool hf.out.symm, rfl⟩
        · have hf : Hid (rsg (-25568) l = rsg V (l.drop (k + 1))) := by show _ = _; rw [hA.out, hd.out]; exact rsg_yes (by omega) (by omega)
          clear hA hd
          go_wp2
          go_round
          case rel => exact ⟨k + 1, V, by omega, by go_num, rfl, hf⟩
          case measure => simp [RowKit.intOf]; omega
    · obtain rfl : k = n := by omega
      have hf : Hid (rsg (-25568) l = true) := by show _ = _; rw [hA.out, drop_end (by have := hn.out; omega)]; rfl
      clear hA
      go_wp2
      go_ret
      exact ⟨ret_bool hf.out.symm, rfl⟩
theorem New_no (v : Value) (l : List Int) (w : World) (hv : Slc w v l) (hl : l.length ≤ 9223372036854775807) (hr : rgt l = false) :
    Calls Tryd.prog 10 #[v] w fun e w' => e = .returned (.tuple #[.pointer none, .int .i64 1]) ∧ w' = w := by
  rcases hv with ⟨a, c, rfl, _, rfl⟩ | ⟨b, off, c, rfl, hc⟩
  · exact absurd hr (by decide)
  · by_cases h2 : 200 < l.length
    · generalize l.length = n at *
      clear hr hc
      have h3 : (200 : Int) < (n : Int) := by omega
      go_enter Tryd.func10, Tryd.ntmps10
      go_wp2
      go_ret2
      exact ⟨rfl, rfl⟩
    · have hR : Hid (Calls Tryd.prog 21 #[.slice (some ⟨b, off, none⟩) l.length c] w fun e w' => e = .returned (.bool false) ∧ w' = w) := by
        have := rising_c b off c l w (by omega) hc
        rwa [show rsg (-25568) l = false by
          unfold rgt at hr
          rw [decide_eq_true (show l.length ≤ 200 by omega)] at hr
          simpa using hr] at this
      clear hc hr
      generalize l.length = n at *
      have h3 : ¬ (200 : Int) < (n : Int) := by omega
      go_enter Tryd.func10, Tryd.ntmps10
      go_wp2_with (go_at_call 21; refine Calls.mono hR.out ?_; rintro e w' ⟨rfl, rfl⟩)
      go_ret2
      exact ⟨rfl, rfl⟩
/-- A row of the call's own, in whatever world has its block as it is. -/
theorem Slc.of_own {w w2 : World} {B : Nat} {e : TypeId} {v : Value} {l : List Int} (h : w.ownsRow B e 1 v l.length (l.map (.int .i64)))
    (hk : ∀ q o, B ≤ q → q < w.heap.size → w2.cell? ⟨q, o, none⟩ = w.cell? ⟨q, o, none⟩) : Slc w2 v l := by
  have h' := h
  rcases h'.2 with ⟨rfl, h0⟩ | ⟨g, c, cur, rfl, hB, hg, _⟩
  · exact Or.inl ⟨none, 0, rfl, fun _ => rfl, List.eq_nil_of_length_eq_zero h0⟩
  · refine Or.inr ⟨g, 0, c, rfl, fun k x hx => ?_⟩
    rw [hk g (0 + k) hB (Array.getElem?_eq_some_iff.1 hg).1, Nat.zero_add, h.cellAt k (by have := (List.getElem?_eq_some_iff.1 hx).1; omega)]
    simp [hx]
theorem own_slice {w : World} {B : Nat} {e : TypeId} {z : Nat} {v : Value} {n : Nat} {xs : List Value} (h : w.ownsRow B e z v n xs) : ∃ ao k c, v = .slice ao k c := by
  rcases h.2 with ⟨rfl, _⟩ | ⟨g, c, cur, rfl, _⟩
  · exact ⟨_, _, _, rfl⟩
  · exact ⟨_, _, _, rfl⟩
/-- What New leaves: a calendar that lies in new blocks. -/
structure Made (w w' : World) (p : Nat) (l : List Int) : Prop where
  keep : ∀ w2 : World, (∀ q o, w.heap.size ≤ q → q < w'.heap.size → w2.cell? ⟨q, o, none⟩ = w'.cell? ⟨q, o, none⟩) → Cld w2 p l
  ext : Ext w w'
theorem Made.cld {w w' : World} {p : Nat} {l : List Int} (h : Made w w' p l) : Cld w' p l := h.keep w' (fun _ _ _ _ => rfl)
theorem Made.of_own {w w3 : World} {e t : TypeId} {v : Value} {l : List Int} (hr : rgt l = true) (h : w3.ownsRow w.heap.size e 1 v l.length (l.map (.int .i64))) (hx : Ext w w3) : Made w (w3.alloc (.cells #[v] t)) w3.heap.size l := by
  refine ⟨fun w2 hk => ⟨⟨v, ?_, ?_⟩, hr⟩, hx.alloc _ _⟩
  · rw [hk _ _ hx.size (by simp)]
    simp [go_sem]
  · refine Slc.of_own h fun q o q1 q2 => ?_
    rw [hk q o q1 (by simp; omega)]
    exact ((Ext.refl w3).alloc _ _).cell q o q2
theorem New_x (b off c : Nat) (l : List Int) (w : World) (hl : l.length ≤ 200) (hc : ∀ (k : Nat) (v : Int), l[k]? = some v → w.cell? ⟨b, off + k, none⟩ = some (.int .i64 v)) (hr : rgt l = true) :
    Calls Tryd.prog 10 #[.slice (some ⟨b, off, none⟩) l.length c] w fun e w' => ∃ p, e = .returned (.tuple #[.pointer (some ⟨p, 0, none⟩), .int .i64 0]) ∧ Made w w' p l := by
  have hR : Hid (∀ w : World, (∀ (k : Nat) (v : Int), l[k]? = some v → w.cell? ⟨b, off + k, none⟩ = some (.int .i64 v)) → Calls Tryd.prog 21 #[.slice (some ⟨b, off, none⟩) l.length c] w fun e w' => e = .returned (.bool true) ∧ w' = w) := fun w hc => by
    have := rising_c b off c l w (by omega) hc
    rwa [show rsg (-25568) l = true by
      unfold rgt at hr
      simp only [Bool.and_eq_true] at hr
      exact hr.1] at this
  replace hr := show Hid _ from hr
  replace hc := show Hid _ from hc
  obtain ⟨i0, hi, hz0, hz1, hz2⟩ := info_parts info_int
  obtain ⟨n, hn⟩ : ∃ n, l.length = n := ⟨_, rfl⟩
  rw [hn] at hl ⊢
  rw [hn] at hR
  replace hn := show Hid _ from hn
  have h3 : ¬ (200 : Int) < (n : Int) := by omega
  go_enter Tryd.func10, Tryd.ntmps10
  go_wp2_with (first
    | (go_at_call 21; refine Calls.mono (hR.out _ hc.out) ?_; rintro e wa ⟨rfl, rfl⟩)
    | (at_builtin; refine wpList_append_own _ rfl (.tmp 12) (.tmp 13) 22 rfl wa.heap.size 3 i0 (.int .i64 0) 1 8 Tryd.underlying22 hi hz0 hz1 hz2 rfl (by decide) _ _ _ rfl (World.ownsRow_made wa #[] 0 (Nat.le_refl _) (by decide) rfl) ⟨b, off, none⟩ n c (l.map (.int .i64)) rfl ?c0 ?c1 ?c2 ?c3 ?c4 ?c5 ?_))
  case c0 => simp; exact hn.out
  case c1 =>
    intro j u hj
    simp at hj
    obtain ⟨x, hx, rfl⟩ := hj
    rw [Addr.add_lit]
    exact ((Ext.refl wa).alloc #[] 3).cell_of (hc.out j x hx)
  case c2 => intro u hu; simp at hu; obtain ⟨x, _, rfl⟩ := hu; rfl
  case c3 => unfold maxLen; omega
  case c4 => omega
  case c5 => simp
  intro v' w3 hown' hgrow _
  have hx3 : Hid (Ext wa w3) := ⟨(((Ext.refl wa).alloc _ _).below).grown hgrow (by simp) (fun k hk => by injection hk with hk; subst hk; exact Nat.le_refl _)⟩
  have hr3 : Hid (w3.ownsRow wa.heap.size 3 1 v' l.length (l.map (.int .i64))) := by
    show w3.ownsRow _ _ _ _ _ _
    have := hn.out
    rw [hn.out]; simpa using hown'
  clear hown' hgrow hi hz0 hz1 hz2
  obtain ⟨ao, n', c', rfl⟩ := own_slice hr3.out
  go_wp2
  go_ret2
  exact ⟨_, rfl, Made.of_own hr.out hr3.out hx3.out⟩
theorem New_y (ad : Addr) (c : Nat) (w : World) :
    Calls Tryd.prog 10 #[.slice (some ad) 0 c] w fun e w' => ∃ p, e = .returned (.tuple #[.pointer (some ⟨p, 0, none⟩), .int .i64 0]) ∧ Made w w' p [] := by
  obtain ⟨i0, hi, hz0, hz1, hz2⟩ := info_parts info_int
  go_enter Tryd.func10, Tryd.ntmps10
  go_wp2_with (first
    | (go_at_call 21; refine Calls.mono (rising_nil _ _ _) ?_; rintro e wa ⟨rfl, rfl⟩)
    | (at_builtin; refine wpList_append_own _ rfl (.tmp 12) (.tmp 13) 22 rfl wa.heap.size 3 i0 (.int .i64 0) 1 8 Tryd.underlying22 hi hz0 hz1 hz2 rfl (by decide) _ _ _ rfl (World.ownsRow_made wa #[] 0 (Nat.le_refl _) (by decide) rfl) ad 0 c [] rfl rfl (fun j u hj => by simp at hj) (fun u hu => by cases hu) (by decide) (by decide) (by simp) ?_))
  intro v' w3 hown' hgrow _
  have hx3 : Hid (Ext wa w3) := ⟨(((Ext.refl wa).alloc _ _).below).grown hgrow (by simp) (fun k hk => by injection hk with hk; subst hk; exact Nat.le_refl _)⟩
  have hr3 : Hid (w3.ownsRow wa.heap.size 3 1 v' 0 []) := by
    show w3.ownsRow _ _ _ _ _ _
    simpa using hown'
  clear hown' hgrow hi hz0 hz1 hz2
  obtain ⟨ao, n', c', rfl⟩ := own_slice hr3.out
  go_wp2
  go_ret2
  exact ⟨_, rfl, Made.of_own (l := []) (by decide) hr3.out hx3.out⟩
theorem New_z (w : World) :
    Calls Tryd.prog 10 #[.slice none 0 0] w fun e w' => ∃ p, e = .returned (.tuple #[.pointer (some ⟨p, 0, none⟩), .int .i64 0]) ∧ Made w w' p [] := by
  obtain ⟨i0, hi, hz0, hz1, hz2⟩ := info_parts info_int
  go_enter Tryd.func10, Tryd.ntmps10
  go_wp2_with (first
    | (go_at_call 21; refine Calls.mono (rising_nil _ _ _) ?_; rintro e wa ⟨rfl, rfl⟩)
    | (at_builtin; refine wpList_append_own_none rfl (.tmp 12) (.tmp 13) 22 rfl wa.heap.size 3 i0 1 Tryd.underlying22 hi _ _ _ rfl (World.ownsRow_made wa #[] 0 (Nat.le_refl _) (by decide) rfl) rfl ?_))
  go_ret2
  exact ⟨_, rfl, by
    have := Made.of_own (t := 47) (l := []) (by decide) (World.ownsRow_made (e := 3) wa #[] 0 (Nat.le_refl _) (by decide) rfl) ((Ext.refl _).alloc _ _)
    simpa using this⟩
theorem New_ok (v : Value) (l : List Int) (w : World) (hv : Slc w v l) (hr : rgt l = true) :
    Calls Tryd.prog 10 #[v] w fun e w' => ∃ p, e = .returned (.tuple #[.pointer (some ⟨p, 0, none⟩), .int .i64 0]) ∧ Made w w' p l := by
  rcases hv with ⟨a, c, rfl, hn, rfl⟩ | ⟨b, off, c, rfl, hc⟩
  · cases a with
    | none => rw [hn rfl]; exact New_z w
    | some ad => exact New_y ad c w
  · exact New_x b off c l w (rgt_len hr) hc hr
end Go.Proofs.YtkkpnhcodaijeaaDoor
