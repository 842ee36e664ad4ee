/- What the texts of money and rates are, and which numbers they are taken for: plain lists; no statement of the seat is proved here. -/
import Derived.Test.YtpmgbagnaaahoabDoorDec2
namespace Go.Proofs.YtpmgbagnaaahoabDoor
open Go.RowKit Go.Lib
set_option linter.unusedVariables false

/-- Around the first point. -/
def cutD : List UInt8 → List UInt8 × List UInt8 × Bool
  | [] => ([], [], false)
  | x :: t => if x = 46 then ([], t, true) else (x :: (cutD t).1, (cutD t).2.1, (cutD t).2.2)
theorem index_dot (x : UInt8) (t : List UInt8) : index (x :: t) [46] = if x = 46 then 0 else if index t [46] == -1 then -1 else index t [46] + 1 := by
  rw [index]
  by_cases h : x = 46
  · subst h; simp [List.isPrefixOf]
  · have : ([46] : List UInt8).isPrefixOf (x :: t) = false := by
      simp [List.isPrefixOf]; exact fun e => h e.symm
    rw [this]; simp [h]
theorem cut_dot : ∀ l, cut l [46] = cutD l
  | [] => by simp [cut, cutD, index]
  | x :: t => by
    have ih := cut_dot t
    unfold cut at ih ⊢
    rw [index_dot]
    unfold cutD
    by_cases h : x = 46
    · simp [h]
    · simp only [h, if_false]
      rw [← ih]
      have hg := index_ge t [46]
      by_cases h1 : index t [46] = -1
      · simp [h1]
      · have h2 : 0 ≤ index t [46] := by omega
        have h3 : 0 ≤ index t [46] + 1 := by omega
        have h4 : (index t [46] == -1) = false := by simpa using h1
        have h5 : (index t [46] + 1).toNat = (index t [46]).toNat + 1 := by omega
        simp [h4, h2, h3, h5]
theorem cutD_none : ∀ l : List UInt8, (46 : UInt8) ∉ l → cutD l = (l, [], false)
  | [], _ => rfl
  | x :: t, h => by
    have h1 : x ≠ 46 := fun e => h (by rw [e]; simp)
    have h2 : (46 : UInt8) ∉ t := fun e => h (List.mem_cons_of_mem _ e)
    simp [cutD, h1, cutD_none t h2]
theorem cutD_hit : ∀ (a b : List UInt8), (46 : UInt8) ∉ a → cutD (a ++ 46 :: b) = (a, b, true)
  | [], b, _ => by simp [cutD]
  | x :: t, b, h => by
    have h1 : x ≠ 46 := fun e => h (by rw [e]; simp)
    have h2 : (46 : UInt8) ∉ t := fun e => h (List.mem_cons_of_mem _ e)
    simp [cutD, h1, cutD_hit t b h2]
/-- What was cut, put together. -/
theorem cutD_join : ∀ (l W P : List UInt8) (B : Bool), cutD l = (W, P, B) → (46 : UInt8) ∉ W ∧ (B = true → l = W ++ 46 :: P) ∧ (B = false → l = W ∧ P = [])
  | [], W, P, B, h => by
    simp [cutD] at h; obtain ⟨rfl, rfl, rfl⟩ := h; simp
  | x :: t, W, P, B, h => by
    by_cases h1 : x = 46
    · simp [cutD, h1] at h; obtain ⟨rfl, rfl, rfl⟩ := h; simp [h1]
    · simp [cutD, h1] at h
      obtain ⟨rfl, rfl, rfl⟩ := h
      obtain ⟨i1, i2, i3⟩ := cutD_join t (cutD t).1 (cutD t).2.1 (cutD t).2.2 rfl
      refine ⟨?_, ?_, ?_⟩
      · simp; exact ⟨fun e => h1 e.symm, i1⟩
      · intro hb; have := i2 hb; simp; exact this
      · intro hb; obtain ⟨e1, e2⟩ := i3 hb; exact ⟨by simp; exact e1, e2⟩
theorem cutD_len (l W P : List UInt8) (B : Bool) (h : cutD l = (W, P, B)) : W.length ≤ l.length ∧ P.length ≤ l.length := by
  obtain ⟨_, h2, h3⟩ := cutD_join l W P B h
  cases B
  · obtain ⟨rfl, rfl⟩ := h3 rfl; simp
  · have := h2 rfl; subst this; simp; omega
theorem dot_not {l : List UInt8} (h : l.all isD = true) : (46 : UInt8) ∉ l := fun e => by
  have := all_mem h e
  revert this; decide

/-- What is taken of the digits ahead of the point, of those behind it, and of a sign. -/
def sgnV (neg : Bool) (n : Nat) : Int × Int := if neg then (if n = 0 then (0, 4) else (-(n : Int), 0)) else ((n : Int), 0)
def takeM (l : List UInt8) : Int × Int :=
  let c := cutD (trimPrefix l [45])
  if okWhole c.1 20 && (decide (c.2.1.length = 2) && digOnly c.2.1) then
    if valL (c.1 ++ c.2.1) ≤ 1000000000000000 then sgnV (hasPrefix l [45]) (valL (c.1 ++ c.2.1)) else (0, 3)
  else (0, 4)
def takeR (l : List UInt8) : Int × Int :=
  let p := trimSuffix l [37]
  let c := cutD (trimPrefix p [45])
  if hasSuffix l [37] && okWhole c.1 4 && (!c.2.2 || (decide (c.2.1.length ≤ 7) && digOnly c.2.1 && !hasSuffix c.2.1 [48])) then
    let n := valL (c.1 ++ (c.2.1 ++ zeros (7 - c.2.1.length)))
    if n ≤ 10000000000 then sgnV (hasPrefix p [45]) n else (0, 4)
  else (0, 4)

theorem okWhole_spec (W : List UInt8) (m : Nat) (h : okWhole W m = true) : W.length ≤ m ∧ W ≠ [] ∧ W.all isD = true ∧ (W = [48] ∨ W.head? ≠ some 48) := by
  unfold okWhole digOnly headOk at h
  simp only [Bool.and_eq_true, decide_eq_true_eq, Bool.or_eq_true, beq_iff_eq, bne_iff_ne, Bool.not_eq_true'] at h
  obtain ⟨⟨h1, h2, h3⟩, h4⟩ := h
  exact ⟨h1, (by intro e; rw [e] at h2; cases h2), h3, h4⟩
theorem okWhole_dec (u m : Nat) (h : (decDigits u).length ≤ m) : okWhole (decDigits u) m = true := by
  unfold okWhole digOnly headOk
  have h1 := decDigits_ne u
  have h2 := decDigits_all u
  have h3 := decDigits_head u
  simp only [Bool.and_eq_true, decide_eq_true_eq, Bool.or_eq_true, beq_iff_eq, bne_iff_ne, Bool.not_eq_true']
  exact ⟨⟨h, by cases hd : decDigits u with
    | nil => exact absurd hd h1
    | cons a b => rfl, h2⟩, h3⟩
theorem zeros_len (k : Nat) : (zeros k).length = k := List.length_replicate
theorem zeros_all (k : Nat) : (zeros k).all isD = true := by
  unfold zeros; rw [List.all_eq_true]; intro x hx
  rw [List.eq_of_mem_replicate hx]; decide
theorem valL_zeros' (k : Nat) : valL (zeros k) = 0 := valL_zeros k

/-- A sign, taken off again. -/
theorem trim_sign (v : Int) (t : List UInt8) (ht : hasPrefix t [45] = false) : trimPrefix (signL v ++ t) [45] = t ∧ hasPrefix (signL v ++ t) [45] = decide (v < 0) := by
  unfold signL trimPrefix
  by_cases h : v < 0
  · simp [h, hasPrefix, List.isPrefixOf]
  · simp [h, ht]
theorem sgnV_of (v : Int) (n : Nat) (h : v.natAbs = n) : sgnV (decide (v < 0)) n = (v, 0) := by
  unfold sgnV
  by_cases hv : v < 0
  · simp only [hv, decide_true, if_true]
    rw [if_neg (by omega)]
    exact Prod.ext (by show -(n : Int) = v; omega) rfl
  · simp only [hv, decide_false, Bool.false_eq_true, if_false]
    exact Prod.ext (by show (n : Int) = v; omega) rfl

theorem take_money (v : Int) (h : I64 v) : takeM (moneyL v) = if v.natAbs ≤ 1000000000000000 then (v, 0) else (0, 3) := by
  have hlen := (dec_len v h 100).2
  unfold takeM moneyL
  obtain ⟨e1, e2⟩ := trim_sign v (decDigits (v.natAbs / 100) ++ 46 :: fix 2 v.natAbs) (digit_not (decDigits_all _) 45 (by decide) _ (decDigits_ne _))
  rw [e1, e2, cutD_hit _ _ (dot_not (decDigits_all _))]
  have hd : digOnly (fix 2 v.natAbs) = true := by
    unfold digOnly
    rw [fix_all]
    rfl
  have hval : valL (decDigits (v.natAbs / 100) ++ fix 2 v.natAbs) = v.natAbs := by
    rw [valL_append, valL_decDigits, valL_fix, fix_length]; omega
  simp only [okWhole_dec _ 20 hlen, fix_length, hd, decide_true, Bool.and_self, if_true, hval]
  rw [sgnV_of v _ rfl]
theorem sgnV_ok {neg : Bool} {n : Nat} {c : Int} (h : sgnV neg n = (c, 0)) : c.natAbs = n ∧ (neg = decide (c < 0)) := by
  unfold sgnV at h
  cases neg
  · simp at h
    exact ⟨by omega, by simp; omega⟩
  · simp at h
    split at h
    · simp at h
    · simp at h
      exact ⟨by omega, by simp; omega⟩
theorem sign_join (l r : List UInt8) (c : Int) (h1 : trimPrefix l [45] = r) (h2 : hasPrefix l [45] = decide (c < 0)) : l = signL c ++ r := by
  unfold trimPrefix at h1
  unfold signL
  by_cases hc : c < 0
  · rw [h2] at h1
    simp [hc] at h1 h2
    simp [hc]
    cases l with
    | nil => simp [hasPrefix, List.isPrefixOf] at h2
    | cons a b =>
      simp [hasPrefix, List.isPrefixOf] at h2
      simp at h1
      rw [← h2, ← h1]
  · rw [h2] at h1
    simp [hc] at h1
    simp [hc, h1]
theorem money_take (l : List UInt8) (c : Int) (h : takeM l = (c, 0)) : moneyL c = l := by
  unfold takeM at h
  simp only at h
  split at h
  · rename_i hc
    split at h
    · obtain ⟨k1, k2⟩ := sgnV_ok h
      simp only [Bool.and_eq_true, decide_eq_true_eq] at hc
      obtain ⟨hw, hl, hd⟩ := hc
      rcases hcd : cutD (trimPrefix l [45]) with ⟨W, P, B⟩
      rw [hcd] at hw hl hd k1
      simp only at hw hl hd k1
      obtain ⟨_, w2, w3, w4⟩ := okWhole_spec W 20 hw
      have hP : P.all isD = true := by unfold digOnly at hd; simp only [Bool.and_eq_true] at hd; exact hd.2
      obtain ⟨_, j1, j2⟩ := cutD_join _ _ _ _ hcd
      have hB : B = true := by
        cases B
        · have := (j2 rfl).2; rw [this] at hl; cases hl
        · rfl
      have hr := j1 hB
      rw [sign_join l _ c rfl k2, hr]
      unfold moneyL
      rw [k1, valL_append, hl]
      have hv2 := valL_lt P hP
      rw [hl] at hv2
      have e1 : (valL W * 10 ^ 2 + valL P) / 100 = valL W := by omega
      have e2 : fix 2 (valL W * 10 ^ 2 + valL P) = P := by have := fix_valL P hP (valL W); rw [hl] at this; exact this
      rw [e1, e2, decDigits_valL W w2 w3 w4]
    · simp at h
  · simp at h

/-- What is trimmed off behind is noughts; what is left has none behind. -/
theorem trimRightB_snoc (l : List UInt8) (x : UInt8) : trimRightB (l ++ [x]) 48 = if x = 48 then trimRightB l 48 else l ++ [x] := by
  unfold trimRightB
  rw [List.reverse_append]
  by_cases h : x = 48
  · subst h; simp
  · have : (x == 48) = false := by simpa using h
    simp [this, h]
theorem hasSuffix_snoc (l : List UInt8) (x c : UInt8) : hasSuffix (l ++ [x]) [c] = decide (x = c) := by
  rw [← hasSuffix_of_drop]
  by_cases h : x = c
  · subst h; simp
  · simp [h]
theorem trim_spec : ∀ l : List UInt8, ∃ k, l = trimRightB l 48 ++ zeros k ∧ hasSuffix (trimRightB l 48) [48] = false := by
  intro l
  refine rev_ind (P := fun l => ∃ k, l = trimRightB l 48 ++ zeros k ∧ hasSuffix (trimRightB l 48) [48] = false) ?_ ?_ l
  · exact ⟨0, rfl, rfl⟩
  · intro t x ⟨k, h1, h2⟩
    rw [trimRightB_snoc]
    by_cases h : x = 48
    · subst h
      refine ⟨k + 1, ?_, by simpa using h2⟩
      simp only [if_true]
      unfold zeros at *
      rw [List.replicate_succ', ← List.append_assoc, ← h1]
    · refine ⟨0, by simp [h, zeros], ?_⟩
      simp only [h, if_false]
      rw [hasSuffix_snoc]; simpa using h
theorem trim_zeros (P : List UInt8) (h : hasSuffix P [48] = false) : ∀ k, trimRightB (P ++ zeros k) 48 = P := by
  intro k
  induction k with
  | zero =>
    simp only [zeros, List.replicate_zero, List.append_nil]
    revert h
    refine rev_ind (P := fun P => hasSuffix P [48] = false → trimRightB P 48 = P) ?_ ?_ P
    · intro _; rfl
    · intro t x _ h
      rw [hasSuffix_snoc] at h
      rw [trimRightB_snoc, if_neg (by simpa using h)]
  | succ k ih =>
    unfold zeros at *
    rw [List.replicate_succ', ← List.append_assoc, trimRightB_snoc]
    simpa using ih

theorem trim_tail (l : List UInt8) (x : UInt8) : trimSuffix (l ++ [x]) [x] = l ∧ hasSuffix (l ++ [x]) [x] = true := by
  have := hasSuffix_snoc l x x
  simp at this
  unfold trimSuffix
  rw [this]
  simp
theorem suffix_join (l p : List UInt8) (x : UInt8) (h1 : trimSuffix l [x] = p) (h2 : hasSuffix l [x] = true) : l = p ++ [x] := by
  unfold trimSuffix at h1
  rw [h2] at h1
  simp only [if_true] at h1
  rw [← hasSuffix_of_drop] at h2
  simp only [Bool.and_eq_true, decide_eq_true_eq, beq_iff_eq] at h2
  have := List.take_append_drop (l.length - [x].length) l
  rw [h1, h2.2] at this
  exact this.symm
theorem tail_len (u : Nat) : (tailL u).length ≤ 7 := by
  unfold tailL
  have := trimRightB_le (fix 7 u) 48
  rw [fix_length] at this
  exact this
theorem tail_zeros (u : Nat) : tailL u ++ zeros (7 - (tailL u).length) = fix 7 u ∧ hasSuffix (tailL u) [48] = false := by
  obtain ⟨k, h1, h2⟩ := trim_spec (fix 7 u)
  refine ⟨?_, h2⟩
  have := congrArg List.length h1
  rw [fix_length, List.length_append, zeros_len] at this
  unfold tailL
  rw [show 7 - (trimRightB (fix 7 u) 48).length = k by omega, ← h1]
theorem tail_all (u : Nat) : (tailL u).all isD = true := by
  have h := fix_all 7 u
  rw [← (tail_zeros u).1, List.all_append, Bool.and_eq_true] at h
  exact h.1

theorem take_rate (v : Int) : takeR (rateL v) = if v.natAbs ≤ 10000000000 then (v, 0) else (0, 4) := by
  unfold takeR rateL
  have hassoc : signL v ++ (decDigits (v.natAbs / 10000000) ++ (dotL (tailL v.natAbs) ++ [37])) = (signL v ++ (decDigits (v.natAbs / 10000000) ++ dotL (tailL v.natAbs))) ++ [37] := by simp
  rw [hassoc]
  obtain ⟨s1, s2⟩ := trim_tail (signL v ++ (decDigits (v.natAbs / 10000000) ++ dotL (tailL v.natAbs))) 37
  rw [s1, s2]
  dsimp only
  obtain ⟨e1, e2⟩ := trim_sign v (decDigits (v.natAbs / 10000000) ++ dotL (tailL v.natAbs)) (digit_not (decDigits_all _) 45 (by decide) _ (decDigits_ne _))
  rw [e1, e2]
  obtain ⟨t1, t2⟩ := tail_zeros v.natAbs
  have t3 := tail_len v.natAbs
  have t4 := tail_all v.natAbs
  have hval : valL (decDigits (v.natAbs / 10000000) ++ fix 7 v.natAbs) = v.natAbs := by
    rw [valL_append, valL_decDigits, valL_fix, fix_length]; omega
  have key : ∀ (P : List UInt8) (B : Bool), P = tailL v.natAbs → cutD (decDigits (v.natAbs / 10000000) ++ dotL (tailL v.natAbs)) = (decDigits (v.natAbs / 10000000), P, B) →
      (!B || (decide (P.length ≤ 7) && digOnly P && !hasSuffix P [48])) = true →
      (if (true && okWhole (cutD (decDigits (v.natAbs / 10000000) ++ dotL (tailL v.natAbs))).1 4 && (!(cutD (decDigits (v.natAbs / 10000000) ++ dotL (tailL v.natAbs))).2.2 || (decide ((cutD (decDigits (v.natAbs / 10000000) ++ dotL (tailL v.natAbs))).2.1.length ≤ 7) && digOnly (cutD (decDigits (v.natAbs / 10000000) ++ dotL (tailL v.natAbs))).2.1 && !hasSuffix (cutD (decDigits (v.natAbs / 10000000) ++ dotL (tailL v.natAbs))).2.1 [48]))) = true then
          if valL ((cutD (decDigits (v.natAbs / 10000000) ++ dotL (tailL v.natAbs))).1 ++ ((cutD (decDigits (v.natAbs / 10000000) ++ dotL (tailL v.natAbs))).2.1 ++ zeros (7 - (cutD (decDigits (v.natAbs / 10000000) ++ dotL (tailL v.natAbs))).2.1.length))) ≤ 10000000000 then sgnV (decide (v < 0)) (valL ((cutD (decDigits (v.natAbs / 10000000) ++ dotL (tailL v.natAbs))).1 ++ ((cutD (decDigits (v.natAbs / 10000000) ++ dotL (tailL v.natAbs))).2.1 ++ zeros (7 - (cutD (decDigits (v.natAbs / 10000000) ++ dotL (tailL v.natAbs))).2.1.length)))) else (0, 4)
        else (0, 4)) = if v.natAbs ≤ 10000000000 then (v, 0) else (0, 4) := by
    intro P B hP hc hb
    rw [hc]
    dsimp only
    simp only [hb, Bool.true_and, Bool.and_true]
    rw [hP, t1, hval]
    by_cases hw : (decDigits (v.natAbs / 10000000)).length ≤ 4
    · rw [okWhole_dec _ 4 hw, if_pos rfl, sgnV_of v _ rfl]
    · have hno : okWhole (decDigits (v.natAbs / 10000000)) 4 = false := by
        unfold okWhole; simp only [hw, decide_false, Bool.false_and]
      rw [hno, if_neg (by simp)]
      have : ¬ v.natAbs ≤ 10000000000 := fun hle => by
        apply hw
        have h1 : v.natAbs / 10000000 ≤ 1000 := by omega
        rw [Lib.decDigits_length]
        by_cases h2 : v.natAbs / 10000000 < 10
        · rw [nDigits_small h2]; omega
        · rw [nDigits_big h2]
          by_cases h3 : v.natAbs / 10000000 / 10 < 10
          · rw [nDigits_small h3]; omega
          · rw [nDigits_big h3]
            by_cases h4 : v.natAbs / 10000000 / 10 / 10 < 10
            · rw [nDigits_small h4]; omega
            · rw [nDigits_big h4, nDigits_small (by omega)]; omega
      rw [if_neg this]
  cases ht : tailL v.natAbs with
  | nil =>
    rw [ht] at key
    apply key [] false rfl
    · rw [show dotL [] = [] from rfl, List.append_nil, cutD_none _ (dot_not (decDigits_all _))]
    · rfl
  | cons a b =>
    rw [ht] at key t2 t3 t4
    apply key (a :: b) true rfl
    · rw [show dotL (a :: b) = 46 :: a :: b from rfl, cutD_hit _ _ (dot_not (decDigits_all _))]
    · simp only [t2, t3, decide_true, Bool.not_true, Bool.false_or, Bool.true_and, Bool.not_false, Bool.and_true]
      unfold digOnly; rw [t4]; rfl
theorem rate_take (l : List UInt8) (c : Int) (h : takeR l = (c, 0)) : rateL c = l ∧ c.natAbs ≤ 10000000000 := by
  unfold takeR at h
  simp only at h
  split at h
  · rename_i hc
    split at h
    · rename_i hle
      obtain ⟨k1, k2⟩ := sgnV_ok h
      simp only [Bool.and_eq_true] at hc
      obtain ⟨⟨hs, hw⟩, hp⟩ := hc
      rcases hcd : cutD (trimPrefix (trimSuffix l [37]) [45]) with ⟨W, P, B⟩
      rw [hcd] at hw hp k1 hle
      simp only at hw hp k1 hle
      refine ⟨?_, by omega⟩
      obtain ⟨_, w2, w3, w4⟩ := okWhole_spec W 4 hw
      obtain ⟨_, j1, j2⟩ := cutD_join _ _ _ _ hcd
      have hl := suffix_join l _ 37 rfl hs
      have hsg := sign_join (trimSuffix l [37]) _ c rfl k2
      have fin : ∀ (hP7 : P.length ≤ 7) (hPa : P.all isD = true) (hPs : hasSuffix P [48] = false), rateL c = signL c ++ (W ++ (dotL P ++ [37])) := by
        intro hP7 hPa hPs
        unfold rateL tailL
        have hPZ : (P ++ zeros (7 - P.length)).all isD = true := by rw [List.all_append, hPa, zeros_all]; rfl
        have hlen : (P ++ zeros (7 - P.length)).length = 7 := by rw [List.length_append, zeros_len]; omega
        have hv2 := valL_lt _ hPZ
        rw [hlen] at hv2
        rw [k1, valL_append, hlen]
        have e1 : (valL W * 10 ^ 7 + valL (P ++ zeros (7 - P.length))) / 10000000 = valL W := by omega
        have e2 : fix 7 (valL W * 10 ^ 7 + valL (P ++ zeros (7 - P.length))) = P ++ zeros (7 - P.length) := by
          have := fix_valL _ hPZ (valL W); rw [hlen] at this; exact this
        rw [e1, e2, trim_zeros P hPs, decDigits_valL W w2 w3 w4]
      cases B
      · obtain ⟨r1, r2⟩ := j2 rfl
        subst r2
        rw [fin (by simp) rfl rfl, hl, hsg, r1]
        simp [dotL]
      · have r1 := j1 rfl
        simp only [Bool.not_true, Bool.false_or, Bool.and_eq_true, decide_eq_true_eq, Bool.not_eq_true'] at hp
        obtain ⟨⟨p1, p2⟩, p3⟩ := hp
        unfold digOnly at p2
        simp only [Bool.and_eq_true, Bool.not_eq_true'] at p2
        rw [fin p1 p2.2 p3, hl, hsg, r1]
        have : dotL P = 46 :: P := by unfold dotL; rw [p2.1]; rfl
        rw [this]; simp
    · simp at h
  · simp at h
end Go.Proofs.YtpmgbagnaaahoabDoor
