/- Laws of the functions of Lex0: what is passed over step by step, signs cut off at a stop, texts put together: no program is spoken of here. -/
import Derived.Test.YtocdkgmmnkmlpaaDoorLex0
namespace Go.Proofs.YtocdkgmmnkmlpaaDoor
set_option linter.unusedVariables false

theorem byte_all (p : UInt8 → Bool) (h : ((List.range 256).all fun n => p (UInt8.ofNat n)) = true) (c : UInt8) : p c = true := by
  have := List.all_eq_true.1 h c.toNat (List.mem_range.2 c.toNat_lt)
  simpa using this
theorem let_inW (c : UInt8) (h : letL.contains c = true) : inWL.contains c = true := by
  have := byte_all (fun c => !letL.contains c || inWL.contains c) (by decide +kernel) c
  rw [h] at this; simpa using this
theorem dig_inN (c : UInt8) (h : digL.contains c = true) : inNL.contains c = true := by
  have := byte_all (fun c => !digL.contains c || inNL.contains c) (by decide +kernel) c
  rw [h] at this; simpa using this
theorem hy_inN : inNL.contains 45 = true := by decide
theorem hy_dig : digL.contains 45 = false := by decide
theorem hy_let : letL.contains 45 = false := by decide
theorem sgn_let (c : UInt8) (h : sgnL.contains c = true) : letL.contains c = false ∧ digL.contains c = false ∧ c ≠ 45 := by
  have h1 := byte_all (fun c => !sgnL.contains c || (!letL.contains c && !digL.contains c && c != 45)) (by decide +kernel) c
  rw [h] at h1
  simp only [Bool.not_true, Bool.false_or, Bool.and_eq_true, Bool.not_eq_true', bne_iff_ne] at h1
  exact ⟨h1.1.1, h1.1.2, h1.2⟩
theorem let_dig (c : UInt8) (h : letL.contains c = true) : digL.contains c = false ∧ c ≠ 45 := by
  have h1 := byte_all (fun c => !letL.contains c || (!digL.contains c && c != 45)) (by decide +kernel) c
  rw [h] at h1
  simp only [Bool.not_true, Bool.false_or, Bool.and_eq_true, Bool.not_eq_true', bne_iff_ne] at h1
  exact h1
theorem dig_hy (c : UInt8) (h : digL.contains c = true) : c ≠ 45 := by
  intro e; subst e; rw [hy_dig] at h; cases h
theorem beg_cons (c : UInt8) (m t : List UInt8) : beg (c :: m) t = t.contains c := rfl
theorem rn_nil (t : List UInt8) : rn [] t = 0 := rfl
theorem rn_in {c : UInt8} {l t : List UInt8} (h : t.contains c = true) : rn (c :: l) t = rn l t + 1 := by
  unfold rn; rw [List.takeWhile_cons, if_pos h]; simp
theorem rn_out {c : UInt8} {l t : List UInt8} (h : t.contains c = false) : rn (c :: l) t = 0 := by
  unfold rn; rw [List.takeWhile_cons, if_neg (by rw [h]; simp)]; rfl
theorem rn_none {l t : List UInt8} (h : beg l t = false) : rn l t = 0 := by
  cases l with
  | nil => rfl
  | cons c l => exact rn_out h
theorem beg_rn : ∀ (l t : List UInt8), beg (l.drop (rn l t)) t = false
  | [], t => by simp [beg]
  | c :: l, t => by
    cases h : t.contains c
    · rw [rn_out h]; simpa [beg] using h
    · rw [rn_in h, List.drop_succ_cons]; exact beg_rn l t
theorem rn_dw (l t : List UInt8) : l.length - (l.dropWhile (t.contains ·)).length = rn l t := by
  have h := congrArg List.length (List.takeWhile_append_dropWhile (p := (t.contains ·)) (l := l))
  rw [List.length_append] at h
  unfold rn
  omega
theorem wh_run : ∀ (l : List UInt8), wh false l = rn l blankL + wh false (l.drop (rn l blankL))
  | [] => by simp [wh, rn]
  | c :: l => by
    cases h : blankL.contains c
    · rw [rn_out h]; simp
    · rw [rn_in h, List.drop_succ_cons, wh, if_pos h, wh_run l]; omega
theorem wh_none {l : List UInt8} (h : beg l blankL = false) (k : beg l remL = false) : wh false l = 0 := by
  cases l with
  | nil => rfl
  | cons c l =>
    simp only [beg] at h k
    rw [wh, if_neg (by rw [h]; simp), if_neg (by intro e; subst e; revert k; decide)]
/-- The bytes ahead of the next line. -/
def ln (l : List UInt8) : Nat := (l.takeWhile (· != 10)).length
theorem ln_le (l : List UInt8) : ln l ≤ l.length := (List.takeWhile_prefix _).length_le
theorem ln_in {c : UInt8} {l : List UInt8} (h : c ≠ 10) : ln (c :: l) = ln l + 1 := by
  unfold ln; rw [List.takeWhile_cons, if_pos (by simpa using h)]; simp
theorem ln_out {l : List UInt8} : ln (10 :: l) = 0 := by
  unfold ln; rw [List.takeWhile_cons, if_neg (by decide)]; rfl
theorem wh_true : ∀ (l : List UInt8), wh true l = ln l + wh false (l.drop (ln l))
  | [] => by simp [wh, ln]
  | c :: l => by
    by_cases h : c = 10
    · subst h; rw [ln_out, wh]; simp [wh, blankL]
    · rw [ln_in h, List.drop_succ_cons, wh, if_neg h, wh_true l]; omega
theorem wh_line {l : List UInt8} (h : beg l remL = true) : wh false l = ln l + wh false (l.drop (ln l)) ∧ 0 < ln l := by
  cases l with
  | nil => simp [beg] at h
  | cons c l =>
    obtain rfl : c = 35 := by simpa [beg, remL] using h
    rw [ln_in (by decide), List.drop_succ_cons]
    refine ⟨?_, by omega⟩
    rw [wh, if_neg (by decide), if_pos rfl, wh_true l]; omega
theorem rn_cut : ∀ (m r t : List UInt8) (k : Nat), rn m t ≤ k → beg r t = false → rn (m.take k ++ r) t = rn m t
  | [], r, t, k, h, hr => by simp [rn_none hr, rn_nil]
  | c :: m, r, t, k, h, hr => by
    cases hc : t.contains c
    · rw [rn_out hc]
      cases k with
      | zero => simpa using rn_none hr
      | succ k => rw [List.take_succ_cons, List.cons_append, rn_out hc]
    · rw [rn_in hc] at h ⊢
      obtain ⟨j, rfl⟩ : ∃ j, k = j + 1 := ⟨k - 1, by omega⟩
      rw [List.take_succ_cons, List.cons_append, rn_in hc, rn_cut m r t j (by omega) hr]
theorem sz_cons (c : UInt8) (m : List UInt8) : sz (c :: m) = if letL.contains c then rn m inWL + 1 else if digL.contains c || (c == 45 && beg m digL) then rn m inNL + 1 else if sgnL.contains c then 1 else 0 := by
  unfold sz
  rw [beg_cons, beg_cons]
  cases hl : letL.contains c
  · simp only [Bool.false_eq_true, if_false]
    by_cases hc : c = 45
    · subst hc
      simp only [unhy, if_true, hy_dig, Bool.false_or, beq_self_eq_true, Bool.true_and]
      cases hb : beg m digL
      · rfl
      · simp only [if_true]; exact rn_in hy_inN
    · simp only [unhy, if_neg hc, beg_cons]
      rw [show (c == 45) = false by simpa using hc]
      simp only [Bool.false_and, Bool.or_false]
      cases hd : digL.contains c
      · rfl
      · simp only [if_true]; exact rn_in (dig_inN c hd)
  · simp only [if_true]; exact rn_in (let_inW c hl)
theorem kd_cons (c : UInt8) (m : List UInt8) : kd (c :: m) = if letL.contains c then 1 else if digL.contains c || (c == 45 && beg m digL) then 2 else if sgnL.contains c then 3 else 0 := by
  unfold kd
  rw [beg_cons, beg_cons]
  cases hl : letL.contains c
  · simp only [Bool.false_eq_true, if_false]
    by_cases hc : c = 45
    · subst hc
      simp only [unhy, if_true, hy_dig, Bool.false_or, beq_self_eq_true, Bool.true_and]
    · simp only [unhy, if_neg hc, beg_cons]
      rw [show (c == 45) = false by simpa using hc]
      simp only [Bool.false_and, Bool.or_false]
  · simp only [if_true]
/-- What begins so goes on with no sign. -/
def stops (r : List UInt8) : Prop := beg r inWL = false ∧ beg r inNL = false ∧ beg r digL = false
theorem stops_nil : stops [] := ⟨rfl, rfl, rfl⟩
theorem stops_ln (r : List UInt8) : stops (10 :: r) := by refine ⟨?_, ?_, ?_⟩ <;> simp only [beg] <;> decide
theorem stops_bl (r : List UInt8) : stops (32 :: r) := by refine ⟨?_, ?_, ?_⟩ <;> simp only [beg] <;> decide
theorem cut_cons {c : UInt8} {m r : List UInt8} {k : Nat} (hk : sz (c :: m) ≤ k + 1) (hr : stops r) :
    sz (c :: (m.take k ++ r)) = sz (c :: m) ∧ kd (c :: (m.take k ++ r)) = kd (c :: m) := by
  have hb : letL.contains c = false → c = 45 → beg (m.take k ++ r) digL = beg m digL := by
    intro hl hc
    cases m with
    | nil => simpa [beg] using hr.2.2
    | cons d m =>
      cases k with
      | zero =>
        simp only [List.take_zero, List.nil_append, hr.2.2]
        cases hd : beg (d :: m) digL
        · rfl
        · exfalso
          rw [sz_cons, hl, hc, hd] at hk
          simp only [beg] at hd
          rw [rn_in (dig_inN d hd)] at hk
          simp at hk
      | succ k => rfl
  rw [sz_cons, sz_cons, kd_cons, kd_cons]
  rw [sz_cons] at hk
  cases hl : letL.contains c
  · rw [hl] at hk
    simp only [Bool.false_eq_true, if_false] at hk ⊢
    have he : (digL.contains c || (c == 45 && beg (m.take k ++ r) digL)) = (digL.contains c || (c == 45 && beg m digL)) := by
      by_cases hc : c = 45
      · rw [hb hl hc]
      · rw [show (c == 45) = false by simpa using hc]; rfl
    rw [he]
    refine ⟨?_, rfl⟩
    cases hd : (digL.contains c || (c == 45 && beg m digL))
    · rfl
    · rw [hd] at hk
      simp only [if_true] at hk ⊢
      rw [rn_cut m r inNL k (by omega) hr.2.1]
  · rw [hl] at hk
    simp only [if_true] at hk ⊢
    rw [rn_cut m r inWL k (by omega) hr.1]
    exact ⟨rfl, trivial⟩
theorem join_cons {c : UInt8} {m r : List UInt8} (hr : stops r) : sz (c :: (m ++ r)) = sz (c :: m) ∧ kd (c :: (m ++ r)) = kd (c :: m) := by
  have := cut_cons (c := c) (m := m) (r := r) (k := m.length) (by have := sz_le (c :: m); simpa using this) hr
  rwa [List.take_length] at this
theorem wh_sgn {c : UInt8} {m : List UInt8} (h : 0 < sz (c :: m)) : ∀ r, wh false (c :: r) = 0 := by
  intro r
  have hb : blankL.contains c = false ∧ c ≠ 35 := by
    rw [sz_cons] at h
    have h1 := byte_all (fun c => !(letL.contains c || digL.contains c || c == 45 || sgnL.contains c) || (!blankL.contains c && c != 35)) (by decide +kernel) c
    have h2 : (letL.contains c || digL.contains c || c == 45 || sgnL.contains c) = true := by
      cases h3 : letL.contains c
      · cases h4 : digL.contains c
        · cases h5 : (c == 45)
          · cases h6 : sgnL.contains c
            · rw [h3, h4, h5, h6] at h; simp at h
            · simp
          · simp
        · simp
      · simp
    rw [h2] at h1
    simp only [Bool.not_true, Bool.false_or, Bool.and_eq_true, Bool.not_eq_true', bne_iff_ne] at h1
    exact h1
  rw [wh, if_neg (by rw [hb.1]; simp), if_neg hb.2]
theorem wh_all : ∀ (b : Bool) (l t : List UInt8), wh b l = l.length → wh b (l ++ 10 :: t) = l.length + 1 + wh false t
  | false, [], t, _ => by simp [wh, blankL]
  | true, [], t, _ => by simp [wh]
  | false, c :: l, t, h => by
    rw [wh] at h
    rw [List.cons_append, wh]
    simp only [List.length_cons] at h ⊢
    split
    · rename_i h1; rw [if_pos h1] at h; rw [wh_all false l t (by omega)]; omega
    · rename_i h1; rw [if_neg h1] at h
      split
      · rename_i h2; rw [if_pos h2] at h; rw [wh_all true l t (by omega)]; omega
      · rename_i h2; rw [if_neg h2] at h; omega
  | true, c :: l, t, h => by
    rw [wh] at h
    rw [List.cons_append, wh]
    simp only [List.length_cons] at h ⊢
    split
    · rename_i h1; rw [if_pos h1] at h; rw [wh_all false l t (by omega)]; omega
    · rename_i h1; rw [if_neg h1] at h; rw [wh_all true l t (by omega)]; omega
theorem wh_part : ∀ (b : Bool) (l t : List UInt8), wh b l < l.length → wh b (l ++ t) = wh b l
  | b, [], t, h => by simp at h
  | false, c :: l, t, h => by
    rw [wh] at h ⊢
    rw [List.cons_append, wh]
    simp only [List.length_cons] at h
    split
    · rename_i h1; rw [if_pos h1] at h; rw [wh_part false l t (by omega)]
    · rename_i h1; rw [if_neg h1] at h
      split
      · rename_i h2; rw [if_pos h2] at h; rw [wh_part true l t (by omega)]
      · rfl
  | true, c :: l, t, h => by
    rw [wh] at h ⊢
    rw [List.cons_append, wh]
    simp only [List.length_cons] at h
    split
    · rename_i h1; rw [if_pos h1] at h; rw [wh_part false l t (by omega)]
    · rename_i h1; rw [if_neg h1] at h; rw [wh_part true l t (by omega)]
/-- Two texts, a line each. -/
theorem lex_join (t : List UInt8) : ∀ (n p : Nat) (l : List UInt8), l.length ≤ n → lex p (l ++ 10 :: t) =
    ((lex p l).1 ++ (if (lex p l).2.isSome then [] else (lex (p + l.length + 1) t).1), if (lex p l).2.isSome then (lex p l).2 else (lex (p + l.length + 1) t).2) := by
  intro n
  induction n with
  | zero =>
    intro p l h
    obtain rfl : l = [] := List.eq_nil_of_length_eq_zero (by omega)
    rw [lex_end (l := []) rfl]
    rw [List.nil_append, lex_skip (n := 1) (by simp [wh, blankL])]
    simp
  | succ n ih =>
    intro p l h
    by_cases hw : wh false l = l.length
    · rw [lex_end hw]
      rw [lex_skip (n := l.length + 1) (l := l ++ 10 :: t) (by rw [wh_all false l t hw]; simp)]
      simp [Nat.add_assoc]
    · have hlt : wh false l < l.length := by have := wh_le false l; omega
      rw [lex_def p (l ++ 10 :: t), lex_def p l, wh_part false l _ hlt, List.drop_append_of_le_length (by omega)]
      cases hm : l.drop (wh false l) with
      | nil => have := congrArg List.length hm; simp at this; omega
      | cons c m =>
        have hlen : l.length = wh false l + (m.length + 1) := by have := congrArg List.length hm; simp at this; omega
        simp only [List.cons_append]
        obtain ⟨h1, h2⟩ := join_cons (c := c) (m := m) (stops_ln t)
        rw [h1, h2]
        split
        · simp
        · rename_i hs
          have hz := sz_le (c :: m)
          rw [← List.cons_append, List.take_append_of_le_length hz, List.drop_append_of_le_length hz]
          rw [ih _ _ (by rw [List.length_drop]; simp at hz ⊢; omega)]
          have hp : p + wh false l + sz (c :: m) + ((c :: m).drop (sz (c :: m))).length + 1 = p + l.length + 1 := by rw [List.length_drop]; simp at hz ⊢; omega
          rw [hp]
          simp
def shT (k : Nat) (t : Tok) : Tok := ⟨t.kind, t.at_ + k, t.text⟩
theorem lex_shift (k : Nat) : ∀ (n p : Nat) (l : List UInt8), l.length ≤ n → lex (p + k) l = ((lex p l).1.map (shT k), (lex p l).2.map (· + k)) := by
  intro n
  induction n with
  | zero =>
    intro p l h
    obtain rfl : l = [] := List.eq_nil_of_length_eq_zero (by omega)
    rw [lex_end (l := []) rfl, lex_end (l := []) rfl]; rfl
  | succ n ih =>
    intro p l h
    rw [lex_def (p + k), lex_def p]
    cases hm : l.drop (wh false l) with
    | nil => rfl
    | cons c m =>
      simp only []
      split
      · simp; omega
      · rename_i hs
        have hz := sz_le (c :: m)
        have hlen : l.length = wh false l + (m.length + 1) := by have := congrArg List.length hm; simp at this; have := wh_le false l; omega
        rw [show p + k + wh false l + sz (c :: m) = (p + wh false l + sz (c :: m)) + k by omega, ih _ _ (by rw [List.length_drop]; simp at hz ⊢; omega)]
        simp [shT]; omega
theorem lex_word {p : Nat} {c : UInt8} {m : List UInt8} (hc : letL.contains c = true) (hm : rn m inWL = m.length) : lex p (c :: m) = ([⟨1, p, c :: m⟩], none) := by
  have hs : sz (c :: m) = m.length + 1 := by rw [sz_cons, if_pos hc, hm]
  have hk : kd (c :: m) = 1 := by rw [kd_cons, if_pos hc]
  rw [lex_tok (wh_sgn (by rw [hs]; omega) m) hs (by omega), hk]
  rw [lex_end (by simp [wh])]
  simp
end Go.Proofs.YtocdkgmmnkmlpaaDoor
