/- Texts that are nearly money, or rates, and are none: plain lists; no statement of the seat is proved here. -/
import Derived.Test.YtpmgbagnaaahoabDoorPure2
namespace Go.Proofs.YtpmgbagnaaahoabDoor
open Go.RowKit Go.Lib
set_option linter.unusedVariables false

theorem okWhole_bad (x : List UInt8) (m : Nat) (c : UInt8) (hc : c ∈ x) (hd : isD c = false) : okWhole x m = false := by
  cases h : okWhole x m
  · rfl
  · have := (okWhole_spec x m h).2.2.1
    have := all_mem this hc
    rw [hd] at this; cases this
theorem digOnly_bad (x : List UInt8) (c : UInt8) (hc : c ∈ x) (hd : isD c = false) : digOnly x = false := by
  cases h : digOnly x
  · rfl
  · unfold digOnly at h
    simp only [Bool.and_eq_true] at h
    have := all_mem h.2 hc
    rw [hd] at this; cases this
theorem takeM_whole (l W P : List UInt8) (B : Bool) (h : cutD (trimPrefix l [45]) = (W, P, B)) (hw : okWhole W 20 = false) : takeM l = (0, 4) := by
  unfold takeM; rw [h]; simp [hw]
theorem takeM_len (l W P : List UInt8) (B : Bool) (h : cutD (trimPrefix l [45]) = (W, P, B)) (hw : P.length ≠ 2) : takeM l = (0, 4) := by
  unfold takeM; rw [h]; simp [hw]
theorem takeR_whole (l p W P : List UInt8) (B : Bool) (hp : trimSuffix l [37] = p) (h : cutD (trimPrefix p [45]) = (W, P, B)) (hw : okWhole W 4 = false) : takeR l = (0, 4) := by
  unfold takeR; dsimp only; rw [hp, h]; simp [hw]
theorem takeR_part (l p W P : List UInt8) (hp : trimSuffix l [37] = p) (h : cutD (trimPrefix p [45]) = (W, P, true)) (hw : digOnly P = false) : takeR l = (0, 4) := by
  unfold takeR; dsimp only; rw [hp, h]; simp [hw]
theorem trim_no (c : UInt8) (t : List UInt8) (hc : c ≠ 45) : trimPrefix (c :: t) [45] = c :: t := by
  unfold trimPrefix hasPrefix
  have : ([45] : List UInt8).isPrefixOf (c :: t) = false := by
    simp [List.isPrefixOf]; exact fun e => hc e.symm
  rw [this]; rfl
theorem trim_two (t : List UInt8) : trimPrefix (45 :: t) [45] = t := by
  simp [trimPrefix, hasPrefix, List.isPrefixOf]
theorem trim_digits (D t : List UInt8) (h : D.all isD = true) (hne : D ≠ []) : trimPrefix (D ++ t) [45] = D ++ t := by
  unfold trimPrefix
  rw [digit_not h 45 (by decide) t hne]; rfl
theorem cutD_pre (a t : List UInt8) (h : (46 : UInt8) ∉ a) : cutD (a ++ t) = (a ++ (cutD t).1, (cutD t).2.1, (cutD t).2.2) := by
  induction a with
  | nil => simp
  | cons x a ih =>
    have h1 : x ≠ 46 := fun e => h (by rw [e]; simp)
    have h2 : (46 : UInt8) ∉ a := fun e => h (List.mem_cons_of_mem _ e)
    simp [cutD, h1, ih h2]
theorem cons_dot (c : UInt8) (D : List UInt8) (hc : c ≠ 46) (h : D.all isD = true) : (46 : UInt8) ∉ c :: D := by
  simp; exact ⟨fun e => hc e.symm, dot_not h⟩
theorem headOk_nought (D : List UInt8) (hne : D ≠ []) (m : Nat) : okWhole (48 :: D) m = false := by
  have : headOk (48 :: D) = false := by
    cases h : headOk (48 :: D)
    · rfl
    · rcases (headOk_cases 48 D).mp h with k | k
      · exact absurd k hne
      · exact absurd rfl k
  unfold okWhole; rw [this]; simp

theorem m_ahead (D F : List UInt8) (hD : D.all isD = true) (hne : D ≠ []) (hF : F.length = 2) (c : UInt8) (h45 : c ≠ 45) (h46 : c ≠ 46) (hc : isD c = false) : takeM (c :: (D ++ 46 :: F)) = (0, 4) := by
  refine takeM_whole _ (c :: D) F true ?_ (okWhole_bad _ _ c (by simp) hc)
  rw [trim_no c _ h45]
  exact cutD_hit (c :: D) F (cons_dot c D h46 hD)
theorem m_behind (D F : List UInt8) (hD : D.all isD = true) (hne : D ≠ []) (hF : F.length = 2) (c : UInt8) : takeM (D ++ 46 :: F ++ [c]) = (0, 4) := by
  refine takeM_len _ D (F ++ [c]) true ?_ (by simp [hF])
  rw [List.append_assoc, trim_digits D _ hD hne]
  exact cutD_hit D (F ++ [c]) (dot_not hD)
theorem m_nought (D F : List UInt8) (hD : D.all isD = true) (hne : D ≠ []) (hF : F.length = 2) : takeM (48 :: (D ++ 46 :: F)) = (0, 4) := by
  refine takeM_whole _ (48 :: D) F true ?_ (headOk_nought D hne 20)
  rw [trim_no 48 _ (by decide)]
  exact cutD_hit (48 :: D) F (cons_dot 48 D (by decide) hD)
theorem m_twice (D F : List UInt8) (hD : D.all isD = true) (hne : D ≠ []) (hF : F.length = 2) : takeM (45 :: 45 :: (D ++ 46 :: F)) = (0, 4) := by
  refine takeM_whole _ (45 :: D) F true ?_ (okWhole_bad _ _ 45 (by simp) (by decide))
  rw [trim_two]
  exact cutD_hit (45 :: D) F (cons_dot 45 D (by decide) hD)
theorem cut_dotL (D Q : List UInt8) (hD : D.all isD = true) (hne : D ≠ []) (hQ : Q.all isD = true) (a : List UInt8) (ha : (46 : UInt8) ∉ a) : (cutD (a ++ dotL Q)).1 = a := by
  unfold dotL
  split
  · rw [List.append_nil, cutD_none a ha]
  · rw [cutD_hit a Q ha]
theorem r_ahead (D Q : List UInt8) (hD : D.all isD = true) (hne : D ≠ []) (hQ : Q.all isD = true) (c : UInt8) (h45 : c ≠ 45) (h46 : c ≠ 46) (hb : okWhole (c :: D) 4 = false) : takeR (c :: (D ++ (dotL Q ++ [37]))) = (0, 4) := by
  have e : c :: (D ++ (dotL Q ++ [37])) = (c :: (D ++ dotL Q)) ++ [37] := by simp
  rw [e]
  have hc := cut_dotL D Q hD hne hQ (c :: D) (cons_dot c D h46 hD)
  rcases hcd : cutD (c :: D ++ dotL Q) with ⟨W, P, B⟩
  rw [hcd] at hc
  refine takeR_whole _ _ W P B (trim_tail _ 37).1 ?_ (by rw [show W = c :: D from hc]; exact hb)
  rw [trim_no c _ h45]
  exact hcd
theorem r_behind (D Q : List UInt8) (hD : D.all isD = true) (hne : D ≠ []) (hQ : Q.all isD = true) : takeR (D ++ (dotL Q ++ [37]) ++ [32]) = (0, 4) := by
  have : hasSuffix (D ++ (dotL Q ++ [37]) ++ [32]) [37] = false := by rw [hasSuffix_snoc]; decide
  unfold takeR; dsimp only; rw [this]; simp
theorem r_percent (D Q : List UInt8) (hD : D.all isD = true) (hne : D ≠ []) (hQ : Q.all isD = true) : takeR (D ++ (dotL Q ++ [37]) ++ [37]) = (0, 4) := by
  have hp := (trim_tail (D ++ (dotL Q ++ [37])) 37).1
  by_cases hq : Q.isEmpty = true
  · have e : D ++ (dotL Q ++ [37]) = D ++ [37] := by unfold dotL; rw [hq]; rfl
    rw [e] at hp ⊢
    refine takeR_whole _ _ (D ++ [37]) [] false hp ?_ (okWhole_bad _ _ 37 (by simp) (by decide))
    rw [trim_digits D _ hD hne]
    refine cutD_none _ ?_
    simp; exact dot_not hD
  · have e : D ++ (dotL Q ++ [37]) = D ++ 46 :: (Q ++ [37]) := by unfold dotL; rw [if_neg hq]; rfl
    rw [e] at hp ⊢
    refine takeR_part _ _ D (Q ++ [37]) hp ?_ (digOnly_bad _ 37 (by simp) (by decide))
    rw [trim_digits D _ hD hne]
    exact cutD_hit D _ (dot_not hD)
theorem r_twice (D Q : List UInt8) (hD : D.all isD = true) (hne : D ≠ []) (hQ : Q.all isD = true) : takeR (45 :: 45 :: (D ++ (dotL Q ++ [37]))) = (0, 4) := by
  have e : 45 :: 45 :: (D ++ (dotL Q ++ [37])) = (45 :: 45 :: (D ++ dotL Q)) ++ [37] := by simp
  rw [e]
  have hc := cut_dotL D Q hD hne hQ (45 :: D) (cons_dot 45 D (by decide) hD)
  rcases hcd : cutD (45 :: D ++ dotL Q) with ⟨W, P, B⟩
  rw [hcd] at hc
  refine takeR_whole _ _ W P B (trim_tail _ 37).1 ?_ (by rw [show W = 45 :: D from hc]; exact okWhole_bad _ _ 45 (by simp) (by decide))
  rw [trim_two]
  exact hcd

/-- The texts that the statement draws from, by their place. -/
def badM (m : List UInt8) : Nat → List UInt8
  | 0 => 43 :: m
  | 1 => 32 :: m
  | 2 => m ++ [32]
  | 3 => 48 :: m
  | 4 => m ++ [48]
  | 5 => 45 :: 45 :: m
  | 6 => []
  | 7 => [46, 48, 53]
  | 8 => [53]
  | 9 => [53, 46]
  | 10 => [53, 46, 53]
  | 11 => [45, 48, 46, 48, 48]
  | _ => [53, 44, 48, 48]
def badR (r : List UInt8) : Nat → List UInt8
  | 0 => 43 :: r
  | 1 => 32 :: r
  | 2 => r ++ [32]
  | 3 => 48 :: r
  | 4 => r ++ [37]
  | 5 => 45 :: 45 :: r
  | 6 => []
  | 7 => [37]
  | 8 => [53]
  | 9 => [53, 46, 37]
  | 10 => [53, 46, 53, 48, 37]
  | 11 => [45, 48, 37]
  | _ => [53, 46, 49, 50, 51, 52, 53, 54, 55, 56, 37]
theorem badM_none (v : Int) (h : 0 ≤ v) (k : Nat) : takeM (badM (moneyL v) k) = (0, 4) := by
  have hm : moneyL v = decDigits (v.natAbs / 100) ++ 46 :: fix 2 v.natAbs := by unfold moneyL signL; rw [if_neg (by omega)]; rfl
  have hD := decDigits_all (v.natAbs / 100)
  have hne := decDigits_ne (v.natAbs / 100)
  have hF := fix_length 2 v.natAbs
  rw [hm]
  unfold badM
  split
  · exact m_ahead _ _ hD hne hF 43 (by decide) (by decide) (by decide)
  · exact m_ahead _ _ hD hne hF 32 (by decide) (by decide) (by decide)
  · exact m_behind _ _ hD hne hF 32
  · exact m_nought _ _ hD hne hF
  · exact m_behind _ _ hD hne hF 48
  · exact m_twice _ _ hD hne hF
  all_goals decide +kernel
theorem badR_none (v : Int) (h : 0 ≤ v) (k : Nat) : takeR (badR (rateL v) k) = (0, 4) := by
  have hm : rateL v = decDigits (v.natAbs / 10000000) ++ (dotL (tailL v.natAbs) ++ [37]) := by unfold rateL signL; rw [if_neg (by omega)]; rfl
  have hD := decDigits_all (v.natAbs / 10000000)
  have hne := decDigits_ne (v.natAbs / 10000000)
  have hF := tail_all v.natAbs
  rw [hm]
  unfold badR
  split
  · exact r_ahead _ _ hD hne hF 43 (by decide) (by decide) (okWhole_bad _ _ 43 (by simp) (by decide))
  · exact r_ahead _ _ hD hne hF 32 (by decide) (by decide) (okWhole_bad _ _ 32 (by simp) (by decide))
  · exact r_behind _ _ hD hne hF
  · exact r_ahead _ _ hD hne hF 48 (by decide) (by decide) (headOk_nought _ hne 4)
  · exact r_percent _ _ hD hne hF
  · exact r_twice _ _ hD hne hF
  all_goals decide +kernel
theorem badM_len (m : List UInt8) (h : m.length ≤ 900) (k : Nat) : (badM m k).length ≤ 1000 := by
  unfold badM
  split <;> simp <;> omega
theorem badR_len (m : List UInt8) (h : m.length ≤ 900) (k : Nat) : (badR m k).length ≤ 1000 := by
  unfold badR
  split <;> simp <;> omega
end Go.Proofs.YtpmgbagnaaahoabDoor
