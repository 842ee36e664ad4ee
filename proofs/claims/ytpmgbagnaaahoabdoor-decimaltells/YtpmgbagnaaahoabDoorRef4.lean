/- The document's own TakeMoney of layer 2 answers as the program's: no statement of the seat is proved here. -/
import Derived.Test.YtpmgbagnaaahoabDoorRef3
namespace Go.Proofs.YtpmgbagnaaahoabDoor
open Go.RowKit Go.Lib
set_option linter.unusedVariables false

/-- Parted at its third byte from behind. -/
theorem parted (t : List UInt8) (N : Nat) (h : t.length = N + 3) : ∃ D c F, t = D ++ c :: F ∧ D.length = N ∧ F.length = 2 := by
  have h1 : N < t.length := by omega
  refine ⟨t.take N, t[N], t.drop (N + 1), ?_, by simp; omega, by simp; omega⟩
  rw [List.getElem_cons_drop, List.take_append_drop]
theorem idx_of (t : List UInt8) (k : Nat) (c : UInt8) (hc : t[k]? = some c) (h : k < (⟨t.toArray⟩ : ByteArray).size) : (⟨t.toArray⟩ : ByteArray)[k]'h = c := by
  have h2 := Lib.getElem_mk t k h
  rw [hc] at h2
  exact (Option.some.inj h2).symm

/-- Where the text is too short, too long, without a point there, or with a nought ahead, there is no number. -/
theorem none_len (l t : List UInt8) (ht : trimPrefix l [45] = t) (h : t.length < 4 ∨ 23 < t.length) : takeM l = (0, 4) := by
  apply takeM_none
  rintro ⟨D, F, h1, h2, h3, _⟩
  obtain ⟨o1, o2, _, _⟩ := okWhole_spec D 20 h3
  rw [ht] at h1
  have := congrArg List.length h1
  simp at this
  have : 0 < D.length := List.length_pos_iff.mpr o2
  omega
theorem none_dot (l D F : List UInt8) (c : UInt8) (ht : trimPrefix l [45] = D ++ c :: F) (hF : F.length = 2) (hc : c ≠ 46) : takeM l = (0, 4) := by
  apply takeM_none
  rintro ⟨D', F', h1, h2, h3, _⟩
  rw [ht] at h1
  exact hc (same_parts h1 (by omega)).2.1
theorem none_nought (l D F : List UInt8) (ht : trimPrefix l [45] = D ++ 46 :: F) (hF : F.length = 2) (h1 : 1 < D.length) (h2 : D.head? = some 48) : takeM l = (0, 4) := by
  apply takeM_none
  rintro ⟨D', F', e1, e2, e3, _⟩
  rw [ht] at e1
  obtain ⟨rfl, _, rfl⟩ := same_parts e1 (by omega)
  rcases (okWhole_spec D 20 e3).2.2.2 with k | k
  · rw [k] at h1; simp at h1
  · exact k h2
theorem none_digit (l D F : List UInt8) (ht : trimPrefix l [45] = D ++ 46 :: F) (hF : F.length = 2) (k : Nat) (c : UInt8) (hk : k ≠ D.length) (hc : (D ++ 46 :: F)[k]? = some c) (hd : isD c = false) : takeM l = (0, 4) := by
  apply takeM_none
  rintro ⟨D', F', e1, e2, e3, e4⟩
  rw [ht] at e1
  obtain ⟨rfl, _, rfl⟩ := same_parts e1 (by omega)
  have hDa := (okWhole_spec D 20 e3).2.2.1
  have hFa : F.all isD = true := by unfold digOnly at e4; simp only [Bool.and_eq_true] at e4; exact e4.2
  have : c ∈ D ∨ c ∈ F := by
    rcases Nat.lt_or_ge k D.length with h | h
    · left
      rw [List.getElem?_append_left h] at hc
      exact List.mem_of_getElem? hc
    · right
      rw [List.getElem?_append_right h, show k - D.length = (k - D.length - 1) + 1 by omega, List.getElem?_cons_succ] at hc
      exact List.mem_of_getElem? hc
  rcases this with h | h
  · have := all_mem hDa h; rw [hd] at this; cases this
  · have := all_mem hFa h; rw [hd] at this; cases this
theorem some_end (l D F : List UInt8) (ht : trimPrefix l [45] = D ++ 46 :: F) (hF : F.length = 2) (hD1 : 1 ≤ D.length) (hD2 : D.length ≤ 20) (hh : ¬ (1 < D.length ∧ D.head? = some 48))
    (hall : ∀ j c, j ≠ D.length → (D ++ 46 :: F)[j]? = some c → isD c = true) :
    takeM l = if valL (proc (D ++ 46 :: F) D.length (D.length + 3)) ≤ 1000000000000000 then sgnV (hasPrefix l [45]) (valL (proc (D ++ 46 :: F) D.length (D.length + 3))) else (0, 3) := by
  rw [proc_all D F 46 hF]
  have hDa : D.all isD = true := by
    rw [List.all_eq_true]
    intro x hx
    obtain ⟨i, hi⟩ := List.getElem?_of_mem hx
    have hlt := (List.getElem?_eq_some_iff.mp hi).1
    exact hall i x (by omega) (by rw [List.getElem?_append_left hlt]; exact hi)
  have hFa : F.all isD = true := by
    rw [List.all_eq_true]
    intro x hx
    obtain ⟨i, hi⟩ := List.getElem?_of_mem hx
    refine hall (D.length + 1 + i) x (by omega) ?_
    rw [List.getElem?_append_right (by omega), show D.length + 1 + i - D.length = i + 1 by omega, List.getElem?_cons_succ]
    exact hi
  apply takeM_some l D F ht hF _ hFa
  unfold okWhole digOnly headOk
  have hne : D ≠ [] := by intro e; rw [e] at hD1; simp at hD1
  simp only [Bool.and_eq_true, decide_eq_true_eq, Bool.or_eq_true, beq_iff_eq, bne_iff_ne, Bool.not_eq_true']
  refine ⟨⟨hD2, by simpa using hne, hDa⟩, ?_⟩
  by_cases h48 : D.head? = some 48
  · left
    have h1 : D.length = 1 := by
      rcases Nat.lt_or_ge 1 D.length with k | k
      · exact absurd ⟨k, h48⟩ hh
      · omega
    cases D with
    | nil => exact absurd rfl hne
    | cons a b =>
      have hb : b = [] := by simp at h1; exact h1
      subst hb
      simp at h48; rw [h48]
  · right; exact h48

theorem toNat_ne {x c : UInt8} (h : x ≠ c) : ((x.toNat : Int) == (c.toNat : Int)) = false := by
  simp
  intro e
  exact h (UInt8.toNat_inj.mp (by omega))

theorem rtakeMoney_c (l : List UInt8) (w : World) (hl : l.length ≤ 1000) :
    Calls Tryd.prog 10 #[.string ⟨l.toArray⟩] w fun e w' => e = .returned (.tuple #[.int .i64 (takeM l).1, .int .i64 (takeM l).2]) ∧ w' = w := by
  cases l with
  | nil => exact rtm_nil w
  | cons a r =>
    by_cases ha : a = 45
    · subst ha
      have ht : trimPrefix (45 :: r) [45] = r := by simp [trimPrefix, hasPrefix, List.isPrefixOf]
      have hp : hasPrefix (45 :: r) [45] = true := by simp [hasPrefix, List.isPrefixOf]
      by_cases h4 : r.length < 4
      · rw [none_len _ r ht (Or.inl h4)]
        by_cases h0 : r = []
        · subst h0; exact rtm_empty_n w
        · exact rtm_short_n r w h4 (List.length_pos_iff.mpr h0)
      by_cases h23 : 23 < r.length
      · rw [none_len _ r ht (Or.inr h23)]
        exact rtm_long_n r w h23 (by simp at hl; omega)
      obtain ⟨N, hN⟩ : ∃ N, r.length = N + 3 := ⟨r.length - 3, by omega⟩
      obtain ⟨D, c, F, rfl, hD, hF⟩ := parted r N hN
      subst hD
      have hcN : (D ++ c :: F)[D.length]? = some c := by rw [List.getElem?_append_right (by omega)]; simp
      by_cases hc : c = 46
      · subst hc
        cases D with
        | nil => simp [hF] at h4
        | cons x D' =>
          have hx0 : (x :: D' ++ 46 :: F)[0]? = some x := rfl
          by_cases hn : 1 < (x :: D').length ∧ (x :: D').head? = some 48
          · rw [none_nought _ _ F ht hF hn.1 hn.2]
            have hx48 : x = 48 := by simpa using hn.2
            exact rtm_nought_n _ w _ hN (by simp) (by omega) x (idx_of _ _ _ hx0) (idx_of _ _ _ hcN) hn.1 (by rw [hx48]; rfl)
          · have hb : ∀ k c, k ≠ (x :: D').length → (x :: D' ++ 46 :: F)[k]? = some c → isD c = false → (takeM (45 :: (x :: D' ++ 46 :: F))).1 = 0 ∧ (takeM (45 :: (x :: D' ++ 46 :: F))).2 = 4 := by
              intro k c h1 h2 h3
              rw [none_digit _ _ F ht hF k c h1 h2 h3]; exact ⟨rfl, rfl⟩
            have he := fun hall => some_end _ _ F ht hF (by simp) (by omega) hn hall
            rw [hp] at he
            by_cases h1 : 1 < (x :: D').length
            · exact rtm_loop_nb _ w _ hN (by simp) (by omega) x (idx_of _ _ _ hx0) (idx_of _ _ _ hcN) h1 (toNat_ne (c := 48) (fun e => hn ⟨h1, by rw [e]; rfl⟩)) _ _ hb he
            · exact rtm_loop_na _ w _ hN (by simp) (by omega) x (idx_of _ _ _ hx0) (idx_of _ _ _ hcN) h1 _ _ hb he
      · rw [none_dot _ D F c ht hF hc]
        exact rtm_nodot_n _ w _ hN (by omega) (by omega) c (idx_of _ _ _ hcN) (by have := toNat_ne hc; simpa [bne] using this)
    · have ht : trimPrefix (a :: r) [45] = a :: r := by
        unfold trimPrefix hasPrefix
        have : ([45] : List UInt8).isPrefixOf (a :: r) = false := by
          simp [List.isPrefixOf]; exact fun e => ha e.symm
        rw [this]; rfl
      have hp : hasPrefix (a :: r) [45] = false := by simp [hasPrefix, List.isPrefixOf]; exact fun e => ha e.symm
      have h45 := toNat_ne (c := 45) ha
      have ha0 : (a :: r)[0]? = some a := rfl
      generalize hg : a :: r = t at *
      have htp : 0 < t.length := by rw [← hg]; simp
      have hti := idx_of t 0 a ha0
      by_cases h4 : t.length < 4
      · rw [none_len _ t ht (Or.inl h4)]
        exact rtm_short_p t w h4 htp a hti h45
      by_cases h23 : 23 < t.length
      · rw [none_len _ t ht (Or.inr h23)]
        exact rtm_long_p t w h23 hl a hti h45
      obtain ⟨N, hN⟩ : ∃ N, t.length = N + 3 := ⟨t.length - 3, by omega⟩
      obtain ⟨D, c, F, hD0, hD, hF⟩ := parted t N hN
      subst hD
      have hcN : t[D.length]? = some c := by rw [hD0, List.getElem?_append_right (by omega)]; simp
      rw [hD0] at ht
      by_cases hc : c = 46
      · subst hc
        cases D with
        | nil => simp [hD0, hF] at h4
        | cons x D' =>
          have hxa : x = a := by rw [hD0] at ha0; simpa using ha0
          subst hxa
          by_cases hn : 1 < (x :: D').length ∧ (x :: D').head? = some 48
          · have hz := none_nought t _ F (by rw [hD0]; exact ht) hF hn.1 hn.2
            rw [hz]
            have hx48 : x = 48 := by simpa using hn.2
            exact rtm_nought_p _ w _ hN (by simp) (by omega) x hti h45 (idx_of _ _ _ hcN) hn.1 (by rw [hx48]; rfl)
          · have hb : ∀ k c, k ≠ (x :: D').length → t[k]? = some c → isD c = false → (takeM t).1 = 0 ∧ (takeM t).2 = 4 := by
              intro k c h1 h2 h3
              rw [none_digit t _ F (by rw [hD0]; exact ht) hF k c h1 (by rw [← hD0]; exact h2) h3]; exact ⟨rfl, rfl⟩
            have he : (∀ j c, j ≠ (x :: D').length → t[j]? = some c → isD c = true) → takeM t = if valL (proc t (x :: D').length ((x :: D').length + 3)) ≤ 1000000000000000 then sgnV false (valL (proc t (x :: D').length ((x :: D').length + 3))) else (0, 3) := by
              intro hall
              have := some_end t _ F (by rw [hD0]; exact ht) hF (by simp) (by omega) hn (fun j c h1 h2 => hall j c h1 (by rw [hD0]; exact h2))
              rw [hp, ← hD0] at this
              exact this
            by_cases h1 : 1 < (x :: D').length
            · exact rtm_loop_pb _ w _ hN (by simp) (by omega) x hti h45 (idx_of _ _ _ hcN) h1 (toNat_ne (c := 48) (fun e => hn ⟨h1, by rw [e]; rfl⟩)) _ _ hb he
            · exact rtm_loop_pa _ w _ hN (by simp) (by omega) x hti h45 (idx_of _ _ _ hcN) h1 _ _ hb he
      · rw [none_dot t D F c (by rw [hD0]; exact ht) hF hc]
        exact rtm_nodot_p _ w _ hN (by omega) (by omega) a hti h45 c (idx_of _ _ _ hcN) (by have := toNat_ne hc; simpa [bne] using this)
end Go.Proofs.YtpmgbagnaaahoabDoor
