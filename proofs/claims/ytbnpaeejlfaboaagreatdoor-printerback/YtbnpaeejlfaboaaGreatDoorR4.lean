/- Contracts that the proof of this law leans on: no statement of the seat is proved here. -/
import Derived.Defers
import Derived.OwnWalk
import Derived.WalkKit
import Derived.Test.YtbnpaeejlfaboaaGreatDoorR0
import Derived.Test.YtbnpaeejlfaboaaGreatDoorR1

namespace Go.Proofs.YtbnpaeejlfaboaaGreatDoor.L7
set_option linter.unusedVariables false
def blankL : List UInt8 := [32, 9, 10]
def remL : List UInt8 := [35]
def sgnL : List UInt8 := [123, 125, 59]
def digL : List UInt8 := [48, 49, 50, 51, 52, 53, 54, 55, 56, 57]
def letL : List UInt8 := [65, 66, 67, 68, 69, 70, 71, 72, 73, 74, 75, 76, 77, 78, 79, 80, 81, 82, 83, 84, 85, 86, 87, 88, 89, 90, 97, 98, 99, 100, 101, 102, 103, 104, 105, 106, 107, 108, 109, 110, 111, 112, 113, 114, 115, 116, 117, 118, 119, 120, 121, 122]
def inWL : List UInt8 := letL ++ digL ++ [45]
def inNL : List UInt8 := digL ++ [46, 45, 47, 37]
/-- Does a text begin with one of these? -/
def beg (l these : List UInt8) : Bool :=
  match l with
  | [] => false
  | c :: _ => these.contains c
/-- How many bytes at its beginning are of these. -/
def rn (l these : List UInt8) : Nat := (l.takeWhile (these.contains ·)).length
/-- White and remarks at the beginning: how many bytes; true: within a remark. -/
def wh : Bool → List UInt8 → Nat
  | _, [] => 0
  | false, c :: l => if blankL.contains c then 1 + wh false l else if c = 35 then 1 + wh true l else 0
  | true, c :: l => if c = 10 then 1 + wh false l else 1 + wh true l
/-- Behind a hyphen, if there is one at the beginning. -/
def unhy : List UInt8 → List UInt8
  | [] => []
  | c :: l => if c = 45 then l else c :: l
/-- Of which kind the sign is with which a text begins. -/
def kd (l : List UInt8) : Nat := if beg l letL then 1 else if beg (unhy l) digL then 2 else if beg l sgnL then 3 else 0
/-- How long it is; 0: it is none. -/
def sz (l : List UInt8) : Nat := if beg l letL then rn l inWL else if beg (unhy l) digL then rn l inNL else if beg l sgnL then 1 else 0
structure Tok where
  kind : Nat
  at_ : Nat
  text : List UInt8
/-- All signs of a text that stands at a place, but for the end, and the place of what is none. -/
def lexF : Nat → Nat → List UInt8 → List Tok × Option Nat
  | 0, _, _ => ([], none)
  | f + 1, p, l =>
    let m := l.drop (wh false l)
    let q := p + wh false l
    match m with
    | [] => ([], none)
    | _ :: _ => if sz m = 0 then ([], some q) else
      let r := lexF f (q + sz m) (m.drop (sz m))
      (⟨kd m, q, m.take (sz m)⟩ :: r.1, r.2)
def lex (p : Nat) (l : List UInt8) : List Tok × Option Nat := lexF (l.length + 1) p l
theorem wh_le : ∀ (b : Bool) (l : List UInt8), wh b l ≤ l.length
  | _, [] => by cases ‹Bool› <;> simp [wh]
  | false, c :: l => by
    have h1 := wh_le false l; have h2 := wh_le true l
    rw [wh]; simp only [List.length_cons]; split <;> (try split) <;> omega
  | true, c :: l => by
    have h1 := wh_le false l; have h2 := wh_le true l
    rw [wh]; simp only [List.length_cons]; split <;> omega
theorem rn_le (l t : List UInt8) : rn l t ≤ l.length := (List.takeWhile_prefix _).length_le
theorem sz_le (l : List UInt8) : sz l ≤ l.length := by
  have h1 := rn_le l inWL; have h2 := rn_le l inNL
  unfold sz
  split
  · exact h1
  · split
    · exact h2
    · split
      · rename_i h; cases l with
        | nil => simp [beg] at h
        | cons c l => simp
      · omega
theorem lexF_fuel : ∀ (f g p : Nat) (l : List UInt8), l.length < f → l.length < g → lexF f p l = lexF g p l
  | 0, _, _, l, h, _ => by omega
  | _, 0, _, l, _, h => by omega
  | f + 1, g + 1, p, l, hf, hg => by
    rw [lexF, lexF]
    have hd : (l.drop (wh false l)).length ≤ l.length := by simp
    cases hm : l.drop (wh false l) with
    | nil => rfl
    | cons c m =>
      simp only []
      split
      · rfl
      · rename_i hs
        rw [hm] at hd
        have hlt : ((c :: m).drop (sz (c :: m))).length < l.length := by
          rw [List.length_drop]
          have := sz_le (c :: m)
          omega
        rw [lexF_fuel f g _ _ (by omega) (by omega)]
theorem lex_def (p : Nat) (l : List UInt8) : lex p l =
    match l.drop (wh false l) with
    | [] => ([], none)
    | c :: m => if sz (c :: m) = 0 then ([], some (p + wh false l)) else
      (⟨kd (c :: m), p + wh false l, (c :: m).take (sz (c :: m))⟩ :: (lex (p + wh false l + sz (c :: m)) ((c :: m).drop (sz (c :: m)))).1, (lex (p + wh false l + sz (c :: m)) ((c :: m).drop (sz (c :: m)))).2) := by
  show lexF (l.length + 1) p l = _
  rw [lexF]
  have hd : (l.drop (wh false l)).length ≤ l.length := by simp
  cases hm : l.drop (wh false l) with
  | nil => rfl
  | cons c m =>
    simp only []
    split
    · rfl
    · rename_i hs
      rw [hm] at hd
      have hlt : ((c :: m).drop (sz (c :: m))).length < l.length := by
        rw [List.length_drop]
        have := sz_le (c :: m)
        omega
      rw [lexF_fuel l.length (((c :: m).drop (sz (c :: m))).length + 1) _ _ hlt (by omega)]
      rfl
/-- What is passed over may be passed over ahead. -/
theorem lex_skip {p n : Nat} {l : List UInt8} (h : wh false l = n + wh false (l.drop n)) : lex p l = lex (p + n) (l.drop n) := by
  rw [lex_def, lex_def]
  rw [h, List.drop_drop]
  rw [Nat.add_assoc]
theorem wh_drop : ∀ (b : Bool) (l : List UInt8), wh false (l.drop (wh b l)) = 0
  | b, [] => by cases b <;> simp [wh]
  | false, c :: l => by
    rw [wh]
    split
    · rw [Nat.add_comm, List.drop_succ_cons]; exact wh_drop false l
    · split
      · rw [Nat.add_comm, List.drop_succ_cons]; exact wh_drop true l
      · rename_i h1 h2
        rw [List.drop_zero, wh, if_neg h1, if_neg h2]
  | true, c :: l => by
    rw [wh]
    split
    · rw [Nat.add_comm, List.drop_succ_cons]; exact wh_drop false l
    · rw [Nat.add_comm, List.drop_succ_cons]; exact wh_drop true l
theorem lex_pass (p : Nat) (l : List UInt8) : lex p l = lex (p + wh false l) (l.drop (wh false l)) :=
  lex_skip (by rw [wh_drop]; rfl)
theorem lex_end {p : Nat} {l : List UInt8} (h : wh false l = l.length) : lex p l = ([], none) := by
  rw [lex_def, h, List.drop_length]
theorem lex_bad {p : Nat} {c : UInt8} {m : List UInt8} (h : wh false (c :: m) = 0) (hs : sz (c :: m) = 0) : lex p (c :: m) = ([], some p) := by
  rw [lex_def, h]; simp [hs]
theorem lex_tok {p n : Nat} {c : UInt8} {m : List UInt8} (h : wh false (c :: m) = 0) (hs : sz (c :: m) = n) (h0 : 0 < n) :
    lex p (c :: m) = (⟨kd (c :: m), p, (c :: m).take n⟩ :: (lex (p + n) ((c :: m).drop n)).1, (lex (p + n) ((c :: m).drop n)).2) := by
  rw [lex_def, h]; simp [hs, show ¬ n = 0 by omega]
/-- What All answers: signs, place, error. -/
def aT (l : List UInt8) : List Tok := if 20000 < l.length then [] else match (lex 0 l).2 with
  | some _ => []
  | none => (lex 0 l).1 ++ [⟨0, l.length, []⟩]
def aP (l : List UInt8) : Nat := if 20000 < l.length then 0 else ((lex 0 l).2).getD 0
def aE (l : List UInt8) : Nat := if 20000 < l.length then 3 else if (lex 0 l).2.isSome then 6 else 0
end Go.Proofs.YtbnpaeejlfaboaaGreatDoor.L7

namespace Go.Proofs.YtbnpaeejlfaboaaGreatDoor.L7
set_option linter.unusedVariables false
theorem byte_all (p : UInt8 → Bool) (h : ((List.range 256).all fun n => p (UInt8.ofNat n)) = true) (c : UInt8) : p c = true := by
  have := List.all_eq_true.1 h c.toNat (List.mem_range.2 c.toNat_lt)
  simpa using this
theorem let_inW (c : UInt8) (h : letL.contains c = true) : inWL.contains c = true := by
  have := byte_all (fun c => !letL.contains c || inWL.contains c) (by decide +kernel) c
  rw [h] at this; simpa using this
theorem dig_inN (c : UInt8) (h : digL.contains c = true) : inNL.contains c = true := by
  have := byte_all (fun c => !digL.contains c || inNL.contains c) (by decide +kernel) c
  rw [h] at this; simpa using this
theorem hy_inN : inNL.contains 45 = true := by decide
theorem hy_dig : digL.contains 45 = false := by decide
theorem sgn_let (c : UInt8) (h : sgnL.contains c = true) : letL.contains c = false ∧ digL.contains c = false ∧ c ≠ 45 := by
  have h1 := byte_all (fun c => !sgnL.contains c || (!letL.contains c && !digL.contains c && c != 45)) (by decide +kernel) c
  rw [h] at h1
  simp only [Bool.not_true, Bool.false_or, Bool.and_eq_true, Bool.not_eq_true', bne_iff_ne] at h1
  exact ⟨h1.1.1, h1.1.2, h1.2⟩
theorem beg_cons (c : UInt8) (m t : List UInt8) : beg (c :: m) t = t.contains c := rfl
theorem rn_nil (t : List UInt8) : rn [] t = 0 := rfl
theorem rn_in {c : UInt8} {l t : List UInt8} (h : t.contains c = true) : rn (c :: l) t = rn l t + 1 := by
  unfold rn; rw [List.takeWhile_cons, if_pos h]; simp
theorem rn_out {c : UInt8} {l t : List UInt8} (h : t.contains c = false) : rn (c :: l) t = 0 := by
  unfold rn; rw [List.takeWhile_cons, if_neg (by rw [h]; simp)]; rfl
theorem rn_none {l t : List UInt8} (h : beg l t = false) : rn l t = 0 := by
  cases l with
  | nil => rfl
  | cons c l => exact rn_out h
theorem beg_rn : ∀ (l t : List UInt8), beg (l.drop (rn l t)) t = false
  | [], t => by simp [beg]
  | c :: l, t => by
    cases h : t.contains c
    · rw [rn_out h]; simpa [beg] using h
    · rw [rn_in h, List.drop_succ_cons]; exact beg_rn l t
theorem rn_dw (l t : List UInt8) : l.length - (l.dropWhile (t.contains ·)).length = rn l t := by
  have h := congrArg List.length (List.takeWhile_append_dropWhile (p := (t.contains ·)) (l := l))
  rw [List.length_append] at h
  unfold rn
  omega
theorem wh_run : ∀ (l : List UInt8), wh false l = rn l blankL + wh false (l.drop (rn l blankL))
  | [] => by simp [wh, rn]
  | c :: l => by
    cases h : blankL.contains c
    · rw [rn_out h]; simp
    · rw [rn_in h, List.drop_succ_cons, wh, if_pos h, wh_run l]; omega
theorem wh_none {l : List UInt8} (h : beg l blankL = false) (k : beg l remL = false) : wh false l = 0 := by
  cases l with
  | nil => rfl
  | cons c l =>
    simp only [beg] at h k
    rw [wh, if_neg (by rw [h]; simp), if_neg (by intro e; subst e; revert k; decide)]
/-- The bytes ahead of the next line. -/
def ln (l : List UInt8) : Nat := (l.takeWhile (· != 10)).length
theorem ln_le (l : List UInt8) : ln l ≤ l.length := (List.takeWhile_prefix _).length_le
theorem ln_in {c : UInt8} {l : List UInt8} (h : c ≠ 10) : ln (c :: l) = ln l + 1 := by
  unfold ln; rw [List.takeWhile_cons, if_pos (by simpa using h)]; simp
theorem ln_out {l : List UInt8} : ln (10 :: l) = 0 := by
  unfold ln; rw [List.takeWhile_cons, if_neg (by decide)]; rfl
theorem wh_true : ∀ (l : List UInt8), wh true l = ln l + wh false (l.drop (ln l))
  | [] => by simp [wh, ln]
  | c :: l => by
    by_cases h : c = 10
    · subst h; rw [ln_out, wh]; simp [wh, blankL]
    · rw [ln_in h, List.drop_succ_cons, wh, if_neg h, wh_true l]; omega
theorem wh_line {l : List UInt8} (h : beg l remL = true) : wh false l = ln l + wh false (l.drop (ln l)) ∧ 0 < ln l := by
  cases l with
  | nil => simp [beg] at h
  | cons c l =>
    obtain rfl : c = 35 := by simpa [beg, remL] using h
    rw [ln_in (by decide), List.drop_succ_cons]
    refine ⟨?_, by omega⟩
    rw [wh, if_neg (by decide), if_pos rfl, wh_true l]; omega
theorem rn_cut : ∀ (m r t : List UInt8) (k : Nat), rn m t ≤ k → beg r t = false → rn (m.take k ++ r) t = rn m t
  | [], r, t, k, h, hr => by simp [rn_none hr, rn_nil]
  | c :: m, r, t, k, h, hr => by
    cases hc : t.contains c
    · rw [rn_out hc]
      cases k with
      | zero => simpa using rn_none hr
      | succ k => rw [List.take_succ_cons, List.cons_append, rn_out hc]
    · rw [rn_in hc] at h ⊢
      obtain ⟨j, rfl⟩ : ∃ j, k = j + 1 := ⟨k - 1, by omega⟩
      rw [List.take_succ_cons, List.cons_append, rn_in hc, rn_cut m r t j (by omega) hr]
theorem sz_cons (c : UInt8) (m : List UInt8) : sz (c :: m) = if letL.contains c then rn m inWL + 1 else if digL.contains c || (c == 45 && beg m digL) then rn m inNL + 1 else if sgnL.contains c then 1 else 0 := by
  unfold sz
  rw [beg_cons, beg_cons]
  cases hl : letL.contains c
  · simp only [Bool.false_eq_true, if_false]
    by_cases hc : c = 45
    · subst hc
      simp only [unhy, if_true, hy_dig, Bool.false_or, beq_self_eq_true, Bool.true_and]
      cases hb : beg m digL
      · rfl
      · simp only [if_true]; exact rn_in hy_inN
    · simp only [unhy, if_neg hc, beg_cons]
      rw [show (c == 45) = false by simpa using hc]
      simp only [Bool.false_and, Bool.or_false]
      cases hd : digL.contains c
      · rfl
      · simp only [if_true]; exact rn_in (dig_inN c hd)
  · simp only [if_true]; exact rn_in (let_inW c hl)
theorem kd_cons (c : UInt8) (m : List UInt8) : kd (c :: m) = if letL.contains c then 1 else if digL.contains c || (c == 45 && beg m digL) then 2 else if sgnL.contains c then 3 else 0 := by
  unfold kd
  rw [beg_cons, beg_cons]
  cases hl : letL.contains c
  · simp only [Bool.false_eq_true, if_false]
    by_cases hc : c = 45
    · subst hc
      simp only [unhy, if_true, hy_dig, Bool.false_or, beq_self_eq_true, Bool.true_and]
    · simp only [unhy, if_neg hc, beg_cons]
      rw [show (c == 45) = false by simpa using hc]
      simp only [Bool.false_and, Bool.or_false]
  · simp only [if_true]
/-- What begins so goes on with no sign. -/
def stops (r : List UInt8) : Prop := beg r inWL = false ∧ beg r inNL = false ∧ beg r digL = false
theorem stops_ln (r : List UInt8) : stops (10 :: r) := by refine ⟨?_, ?_, ?_⟩ <;> simp only [beg] <;> decide
theorem cut_cons {c : UInt8} {m r : List UInt8} {k : Nat} (hk : sz (c :: m) ≤ k + 1) (hr : stops r) :
    sz (c :: (m.take k ++ r)) = sz (c :: m) ∧ kd (c :: (m.take k ++ r)) = kd (c :: m) := by
  have hb : letL.contains c = false → c = 45 → beg (m.take k ++ r) digL = beg m digL := by
    intro hl hc
    cases m with
    | nil => simpa [beg] using hr.2.2
    | cons d m =>
      cases k with
      | zero =>
        simp only [List.take_zero, List.nil_append, hr.2.2]
        cases hd : beg (d :: m) digL
        · rfl
        · exfalso
          rw [sz_cons, hl, hc, hd] at hk
          simp only [beg] at hd
          rw [rn_in (dig_inN d hd)] at hk
          simp at hk
      | succ k => rfl
  rw [sz_cons, sz_cons, kd_cons, kd_cons]
  rw [sz_cons] at hk
  cases hl : letL.contains c
  · rw [hl] at hk
    simp only [Bool.false_eq_true, if_false] at hk ⊢
    have he : (digL.contains c || (c == 45 && beg (m.take k ++ r) digL)) = (digL.contains c || (c == 45 && beg m digL)) := by
      by_cases hc : c = 45
      · rw [hb hl hc]
      · rw [show (c == 45) = false by simpa using hc]; rfl
    rw [he]
    refine ⟨?_, rfl⟩
    cases hd : (digL.contains c || (c == 45 && beg m digL))
    · rfl
    · rw [hd] at hk
      simp only [if_true] at hk ⊢
      rw [rn_cut m r inNL k (by omega) hr.2.1]
  · rw [hl] at hk
    simp only [if_true] at hk ⊢
    rw [rn_cut m r inWL k (by omega) hr.1]
    exact ⟨rfl, trivial⟩
theorem join_cons {c : UInt8} {m r : List UInt8} (hr : stops r) : sz (c :: (m ++ r)) = sz (c :: m) ∧ kd (c :: (m ++ r)) = kd (c :: m) := by
  have := cut_cons (c := c) (m := m) (r := r) (k := m.length) (by have := sz_le (c :: m); simpa using this) hr
  rwa [List.take_length] at this
theorem wh_sgn {c : UInt8} {m : List UInt8} (h : 0 < sz (c :: m)) : ∀ r, wh false (c :: r) = 0 := by
  intro r
  have hb : blankL.contains c = false ∧ c ≠ 35 := by
    rw [sz_cons] at h
    have h1 := byte_all (fun c => !(letL.contains c || digL.contains c || c == 45 || sgnL.contains c) || (!blankL.contains c && c != 35)) (by decide +kernel) c
    have h2 : (letL.contains c || digL.contains c || c == 45 || sgnL.contains c) = true := by
      cases h3 : letL.contains c
      · cases h4 : digL.contains c
        · cases h5 : (c == 45)
          · cases h6 : sgnL.contains c
            · rw [h3, h4, h5, h6] at h; simp at h
            · simp
          · simp
        · simp
      · simp
    rw [h2] at h1
    simp only [Bool.not_true, Bool.false_or, Bool.and_eq_true, Bool.not_eq_true', bne_iff_ne] at h1
    exact h1
  rw [wh, if_neg (by rw [hb.1]; simp), if_neg hb.2]
theorem wh_all : ∀ (b : Bool) (l t : List UInt8), wh b l = l.length → wh b (l ++ 10 :: t) = l.length + 1 + wh false t
  | false, [], t, _ => by simp [wh, blankL]
  | true, [], t, _ => by simp [wh]
  | false, c :: l, t, h => by
    rw [wh] at h
    rw [List.cons_append, wh]
    simp only [List.length_cons] at h ⊢
    split
    · rename_i h1; rw [if_pos h1] at h; rw [wh_all false l t (by omega)]; omega
    · rename_i h1; rw [if_neg h1] at h
      split
      · rename_i h2; rw [if_pos h2] at h; rw [wh_all true l t (by omega)]; omega
      · rename_i h2; rw [if_neg h2] at h; omega
  | true, c :: l, t, h => by
    rw [wh] at h
    rw [List.cons_append, wh]
    simp only [List.length_cons] at h ⊢
    split
    · rename_i h1; rw [if_pos h1] at h; rw [wh_all false l t (by omega)]; omega
    · rename_i h1; rw [if_neg h1] at h; rw [wh_all true l t (by omega)]; omega
theorem wh_part : ∀ (b : Bool) (l t : List UInt8), wh b l < l.length → wh b (l ++ t) = wh b l
  | b, [], t, h => by simp at h
  | false, c :: l, t, h => by
    rw [wh] at h ⊢
    rw [List.cons_append, wh]
    simp only [List.length_cons] at h
    split
    · rename_i h1; rw [if_pos h1] at h; rw [wh_part false l t (by omega)]
    · rename_i h1; rw [if_neg h1] at h
      split
      · rename_i h2; rw [if_pos h2] at h; rw [wh_part true l t (by omega)]
      · rfl
  | true, c :: l, t, h => by
    rw [wh] at h ⊢
    rw [List.cons_append, wh]
    simp only [List.length_cons] at h
    split
    · rename_i h1; rw [if_pos h1] at h; rw [wh_part false l t (by omega)]
    · rename_i h1; rw [if_neg h1] at h; rw [wh_part true l t (by omega)]
/-- Two texts, a line each. -/
theorem lex_join (t : List UInt8) : ∀ (n p : Nat) (l : List UInt8), l.length ≤ n → lex p (l ++ 10 :: t) =
    ((lex p l).1 ++ (if (lex p l).2.isSome then [] else (lex (p + l.length + 1) t).1), if (lex p l).2.isSome then (lex p l).2 else (lex (p + l.length + 1) t).2) := by
  intro n
  induction n with
  | zero =>
    intro p l h
    obtain rfl : l = [] := List.eq_nil_of_length_eq_zero (by omega)
    rw [lex_end (l := []) rfl]
    rw [List.nil_append, lex_skip (n := 1) (by simp [wh, blankL])]
    simp
  | succ n ih =>
    intro p l h
    by_cases hw : wh false l = l.length
    · rw [lex_end hw]
      rw [lex_skip (n := l.length + 1) (l := l ++ 10 :: t) (by rw [wh_all false l t hw]; simp)]
      simp [Nat.add_assoc]
    · have hlt : wh false l < l.length := by have := wh_le false l; omega
      rw [lex_def p (l ++ 10 :: t), lex_def p l, wh_part false l _ hlt, List.drop_append_of_le_length (by omega)]
      cases hm : l.drop (wh false l) with
      | nil => have := congrArg List.length hm; simp at this; omega
      | cons c m =>
        have hlen : l.length = wh false l + (m.length + 1) := by have := congrArg List.length hm; simp at this; omega
        simp only [List.cons_append]
        obtain ⟨h1, h2⟩ := join_cons (c := c) (m := m) (stops_ln t)
        rw [h1, h2]
        split
        · simp
        · rename_i hs
          have hz := sz_le (c :: m)
          rw [← List.cons_append, List.take_append_of_le_length hz, List.drop_append_of_le_length hz]
          rw [ih _ _ (by rw [List.length_drop]; simp at hz ⊢; omega)]
          have hp : p + wh false l + sz (c :: m) + ((c :: m).drop (sz (c :: m))).length + 1 = p + l.length + 1 := by rw [List.length_drop]; simp at hz ⊢; omega
          rw [hp]
          simp
def shT (k : Nat) (t : Tok) : Tok := ⟨t.kind, t.at_ + k, t.text⟩
theorem lex_shift (k : Nat) : ∀ (n p : Nat) (l : List UInt8), l.length ≤ n → lex (p + k) l = ((lex p l).1.map (shT k), (lex p l).2.map (· + k)) := by
  intro n
  induction n with
  | zero =>
    intro p l h
    obtain rfl : l = [] := List.eq_nil_of_length_eq_zero (by omega)
    rw [lex_end (l := []) rfl, lex_end (l := []) rfl]; rfl
  | succ n ih =>
    intro p l h
    rw [lex_def (p + k), lex_def p]
    cases hm : l.drop (wh false l) with
    | nil => rfl
    | cons c m =>
      simp only []
      split
      · simp; omega
      · rename_i hs
        have hz := sz_le (c :: m)
        have hlen : l.length = wh false l + (m.length + 1) := by have := congrArg List.length hm; simp at this; have := wh_le false l; omega
        rw [show p + k + wh false l + sz (c :: m) = (p + wh false l + sz (c :: m)) + k by omega, ih _ _ (by rw [List.length_drop]; simp at hz ⊢; omega)]
        simp [shT]; omega
end Go.Proofs.YtbnpaeejlfaboaaGreatDoor.L7

namespace Go.Proofs.YtbnpaeejlfaboaaGreatDoor.L7
open Go.RowKit Go.Lib
set_option linter.unusedVariables false
/-- What is read of the package variables: the one of the library holds some int. -/
def Env (w : World) : Prop := ∃ m, w.cell? ⟨7, 0, none⟩ = some (.int .i64 m)
theorem Env.ext {w w' : World} (h : Env w) (hx : Ext w w') : Env w' := by
  obtain ⟨m, hm⟩ := h
  exact ⟨m, hx.cell_of hm⟩
theorem ret_int {k : IntKind} {a b : Int} (h : a = b) : Ending.returned (.int k a) = .returned (.int k b) := by rw [h]
theorem ret_bool {a b : Bool} (h : a = b) : Ending.returned (.bool a) = .returned (.bool b) := by rw [h]
theorem idx_in : ∀ (t : List UInt8) (c : UInt8), decide (0 ≤ indexByte t c) = t.contains c
  | [], c => rfl
  | b :: t, c => by
    have ih := idx_in t c
    have hg := indexByte_ge t c
    unfold indexByte
    by_cases h : b = c
    · subst h; simp
    · rw [if_neg (by simpa using h), List.contains_cons, show (c == b) = false by simpa using fun e => h e.symm, Bool.false_or, ← ih]
      split
      · rename_i h1
        have h1' : indexByte t c = -1 := by simpa using h1
        rw [h1']
      · rename_i h1
        have h1' : ¬ indexByte t c = -1 := by simpa using h1
        have : 0 ≤ indexByte t c := by omega
        rw [decide_eq_true this, decide_eq_true (by omega)]
theorem idxByte_c (t : List UInt8) (c : UInt8) (w : World) :
    Calls Tryz.prog 146 #[.string ⟨t.toArray⟩, .int .u8 c.toNat] w fun e w' => e = .returned (.int .i64 (indexByte t c)) ∧ w' = w := by
  refine (Tryz.strings_IndexByte ⟨t.toArray⟩ c.toNat w).mono ?_
  rintro e w' ⟨rfl, rfl⟩
  have : (c.toNat : Int).toNat.toUInt8 = c := by simp
  rw [this]
  exact ⟨rfl, rfl⟩
theorem begins_c (l t : List UInt8) (w : World) :
    Calls Tryz.prog 119 #[.string ⟨l.toArray⟩, .string ⟨t.toArray⟩] w fun e w' => e = .returned (.bool (beg l t)) ∧ w' = w := by
  cases l with
  | nil =>
    go_enter Tryz.func119, Tryz.ntmps119
    go_wp2
    go_ret
    exact ⟨rfl, rfl⟩
  | cons c l =>
    have h0 : ∀ h, (⟨(c :: l).toArray⟩ : ByteArray)[0]'h = c := fun _ => rfl
    have hi := idx_in t c
    replace hi := show Hid _ from hi
    go_enter Tryz.func119, Tryz.ntmps119
    go_wp2_with fail
    refine (idxByte_c t c _).mono ?_
    rintro e w1 ⟨rfl, rfl⟩
    go_wp2
    go_ret
    exact ⟨ret_bool hi.out, rfl⟩
theorem begins_x (l t : List UInt8) (b : Bool) (h : beg l t = b) (w : World) :
    Calls Tryz.prog 119 #[.string ⟨l.toArray⟩, .string ⟨t.toArray⟩] w fun e w' => e = .returned (.bool b) ∧ w' = w := h ▸ begins_c l t w
theorem run_c (l t : List UInt8) (w : World) (hl : l.length ≤ 20000) (ht : t.length < 1000) (ha : ∀ (j : Nat) b, t[j]? = some b → b.toNat < 128) :
    Calls Tryz.prog 118 #[.string ⟨l.toArray⟩, .string ⟨t.toArray⟩] w fun e w' => e = .returned (.int .i64 (rn l t)) ∧ Ext w w' := by
  have hcall : Hid (Calls Tryz.prog 145 #[.string ⟨l.toArray⟩, .string ⟨t.toArray⟩] w fun e w' => e = .returned (.string ⟨(trimLeftS l t).toArray⟩) ∧ Below w.heap.size w w') :=
    Tryz.strings_TrimLeft ⟨l.toArray⟩ ⟨t.toArray⟩ w (by rw [Lib.size_mk]; omega) ha
  have hle : (trimLeftS l t).length ≤ l.length := (List.dropWhile_suffix _).length_le
  have hrn : rn l t = l.length - (trimLeftS l t).length := (rn_dw l t).symm
  rw [hrn]
  clear hrn ha
  generalize trimLeftS l t = R at *
  go_enter Tryz.func118, Tryz.ntmps118
  go_wp2_with fail
  refine hcall.out.mono ?_
  rintro e w1 ⟨rfl, hx⟩
  replace hx := show Hid _ from hx
  clear hcall
  go_wp2
  go_ret
  exact ⟨ret_int (by omega), ⟨hx.out⟩⟩
theorem run_x (l t : List UInt8) (n : Nat) (h : rn l t = n) (w : World) (hl : l.length ≤ 20000) (ht : t.length < 1000) (ha : ∀ (j : Nat) b, t[j]? = some b → b.toNat < 128) :
    Calls Tryz.prog 118 #[.string ⟨l.toArray⟩, .string ⟨t.toArray⟩] w fun e w' => e = .returned (.int .i64 n) ∧ Ext w w' := h ▸ run_c l t w hl ht ha
theorem ascii_of (t : List UInt8) (h : t.all (fun b => decide (b.toNat < 128)) = true) : ∀ (j : Nat) b, t[j]? = some b → b.toNat < 128 := fun j b hb =>
  of_decide_eq_true (List.all_eq_true.1 h b (List.mem_of_getElem? hb))
theorem idx_ln : ∀ (l : List UInt8), (index l [10] = -1 ∧ ln l = l.length) ∨ index l [10] = (ln l : Int) 
  | [] => Or.inl ⟨rfl, rfl⟩
  | c :: l => by
    by_cases h : c = 10
    · subst h
      right
      rw [ln_out]; unfold index; simp
    · have hp : List.isPrefixOf [10] (c :: l) = false := by simp [List.isPrefixOf]; exact fun e => h e.symm
      rw [ln_in h]
      unfold index
      rw [hp]
      rcases idx_ln l with ⟨h1, h2⟩ | h1
      · left; rw [h1, h2]; simp
      · right
        rw [h1]
        have : ((ln l : Int) == -1) = false := by rw [beq_eq_false_iff_ne]; omega
        simp [this]
theorem cut_ln (l : List UInt8) : (cut l [10]).1 = l.take (ln l) := by
  unfold cut
  rcases idx_ln l with ⟨h1, h2⟩ | h1
  · rw [h1, h2, if_neg (by omega), List.take_length]
  · rw [h1, if_pos (by omega)]; simp
theorem ext_drop (l : List UInt8) (j : Nat) : (⟨l.toArray⟩ : ByteArray).extract j l.length = ⟨(l.drop j).toArray⟩ := by
  apply ByteArray.ext
  simp [ByteArray.data_extract]
  exact List.take_of_length_le (by simp)
theorem ext_part (l : List UInt8) (j k : Nat) : (⟨l.toArray⟩ : ByteArray).extract j k = ⟨((l.drop j).take (k - j)).toArray⟩ := by
  apply ByteArray.ext
  simp [ByteArray.data_extract, List.extract_eq_take_drop]
theorem cut_x (l m : List UInt8) (hm : l.take (ln l) = m) (w : World) (hl : l.length ≤ 20000) (he : Hid (Env w)) :
    Calls Tryz.prog 120 #[.string ⟨l.toArray⟩, .string ⟨#[10]⟩] w fun e w' => (∃ r f, e = .returned (.tuple #[.string ⟨m.toArray⟩, .string ⟨r⟩, .bool f])) ∧ Ext w w' := by
  obtain ⟨n, hn⟩ := he.out
  refine (Tryz.strings_Cut ⟨l.toArray⟩ ⟨#[10]⟩ n w (by rw [Lib.size_mk]; omega) hn).mono ?_
  rintro e w' ⟨rfl, n, rfl⟩
  have h' : (cut (⟨l.toArray⟩ : ByteArray).data.toList (⟨#[10]⟩ : ByteArray).data.toList).1 = m := (cut_ln l).trans hm
  rw [h']
  exact ⟨⟨_, _, rfl⟩, (Ext.refl w).drewN n⟩
theorem pass_c (l : List UInt8) (k : Nat) (w : World) (hl : l.length ≤ 20000) (hk : k ≤ l.length) (he : Hid (Env w)) :
    Calls Tryz.prog 83 #[.string ⟨l.toArray⟩, .int .i64 k] w fun e w' => e = .returned (.int .i64 ((k + wh false (l.drop k) : Nat) : Int)) ∧ Ext w w' := by
  obtain ⟨Z, hZ⟩ : ∃ Z, k + wh false (l.drop k) = Z := ⟨_, rfl⟩
  rw [hZ]
  replace hZ := show Hid _ from hZ
  go_enter Tryz.func83, Tryz.ntmps83
  go_wp2_with fail
  go_loopw [1] (fun i wr => ∃ j : Nat, j ≤ l.length ∧ i = .int .i64 (j : Int) ∧ Hid (j + wh false (l.drop j) = Z) ∧ Hid (Ext w wr)) (fun i _ => l.length - (RowKit.intOf i).toNat)
  case atStart => exact ⟨k, hk, rfl, hZ, Ext.refl w⟩
  case round =>
    obtain ⟨j, hj, rfl, hz, hx⟩ := hrel
    clear hZ hk
    obtain ⟨M, hM⟩ : ∃ M, l.drop j = M := ⟨_, rfl⟩
    have hE := ext_drop l j
    obtain ⟨n, hn⟩ : ∃ n, rn M blankL = n := ⟨_, rfl⟩
    obtain ⟨J, hJ⟩ : ∃ J, j + n = J := ⟨_, rfl⟩
    have hE2 := ext_drop l J
    have hMl : M.length = l.length - j := by rw [← hM, List.length_drop]
    have hn2 : n ≤ M.length := hn ▸ rn_le M blankL
    obtain ⟨M2, hM2⟩ : ∃ M2, l.drop J = M2 := ⟨_, rfl⟩
    have hw1 := wh_run M
    have hb := beg_rn M blankL
    have hMd : M.drop n = M2 := by rw [← hM, List.drop_drop, hJ, hM2]
    rw [hn, hMd] at hw1 hb
    rw [hM] at hz hE
    rw [hM2] at hE2
    have hM2l : M2.length = l.length - J := by rw [← hM2, List.length_drop]
    have hJl : J ≤ l.length := by omega
    have hsum : (j : Int) + (n : Int) = (J : Int) := by omega
    have hMle : M.length ≤ 20000 := by omega
    have hM2le : M2.length ≤ 20000 := by omega
    replace hw1 := show Hid _ from hw1
    replace hb := show Hid _ from hb
    replace hMd := show Hid _ from hMd
    replace hn := show Hid _ from hn
    replace hJ := show Hid _ from hJ
    replace hM := show Hid _ from hM
    replace hM2 := show Hid _ from hM2
    replace hMl := show Hid _ from hMl
    replace hM2l := show Hid _ from hM2l
    have he1 : Hid (Env wr) := he.out.ext hx.out
    go_wp2_with fail
    refine (run_x M blankL n hn.out _ hMle (by decide) (ascii_of _ (by decide))).mono ?_
    rintro e w1 ⟨rfl, hx1⟩
    replace hx : Hid (Ext w w1) := hx.out.trans hx1
    replace he1 : Hid (Env w1) := he1.out.ext hx1
    clear hx1
    go_wp2_with fail
    cases hr : beg M2 remL
    · refine (begins_x M2 remL false hr _).mono ?_
      rintro e w2 ⟨rfl, rfl⟩
      replace hr := show Hid _ from hr
      go_wp2
      go_ret
      refine ⟨ret_int ?_, hx.out⟩
      have h1 := hz.out; have h2 := hw1.out; have h3 := wh_none hb.out hr.out; have h4 := hJ.out
      omega
    · refine (begins_x M2 remL true hr _).mono ?_
      rintro e w2 ⟨rfl, rfl⟩
      obtain ⟨h1, h2⟩ := wh_line hr
      obtain ⟨q, hq⟩ : ∃ q, ln M2 = q := ⟨_, rfl⟩
      obtain ⟨LN, hLN⟩ : ∃ LN, M2.take (ln M2) = LN := ⟨_, rfl⟩
      have hql : LN.length = q := by rw [← hLN, List.length_take, Nat.min_eq_left (ln_le M2), hq]
      have hqM : q ≤ M2.length := hq ▸ ln_le M2
      rw [hq] at h1 h2
      obtain ⟨J3, hJ3⟩ : ∃ J3, J + q = J3 := ⟨_, rfl⟩
      have hd3 : M2.drop q = l.drop J3 := by rw [← hM2.out, List.drop_drop, hJ3]
      rw [hd3] at h1
      have hsum2 : (J : Int) + (q : Int) = (J3 : Int) := by omega
      replace h1 := show Hid _ from h1
      replace hd3 := show Hid _ from hd3
      replace hq := show Hid _ from hq
      replace hJ3 := show Hid _ from hJ3
      replace hLN := show Hid _ from hLN
      clear hr
      go_wp2_with fail
      refine (cut_x M2 LN hLN.out _ hM2le he1).mono ?_
      rintro e w3 ⟨⟨r, f, rfl⟩, hx1⟩
      replace hx : Hid (Ext w w3) := hx.out.trans hx1
      clear hx1 he1
      go_wp2
      go_roundw
      case rel =>
        refine ⟨J3, ?_, rfl, ?_, hx⟩
        · have := hM2l.out; have := hJ3.out; omega
        · have h4 := hz.out; have h5 := hw1.out; have h6 := hJ.out; have h7 := hJ3.out; have h8 := h1.out
          show J3 + _ = Z
          omega
      case measure => have := hM2l.out; have := hJ3.out; have := hJ.out; simp [RowKit.intOf]; omega
theorem unhy_eq (l : List UInt8) : trimPrefix l [45] = unhy l := by
  cases l with
  | nil => rfl
  | cons c l =>
    unfold trimPrefix hasPrefix unhy
    by_cases h : c = 45
    · subst h; simp
    · show _ = (if c = 45 then l else c :: l)
      rw [if_neg h]
      have : List.isPrefixOf [45] (c :: l) = false := by simp [List.isPrefixOf]; exact fun e => h e.symm
      simp [this]
theorem trimPrefix_x (l m : List UInt8) (h : unhy l = m) (w : World) :
    Calls Tryz.prog 148 #[.string ⟨l.toArray⟩, .string ⟨#[45]⟩] w fun e w' => e = .returned (.string ⟨m.toArray⟩) ∧ w' = w := by
  refine (Tryz.strings_TrimPrefix ⟨l.toArray⟩ ⟨#[45]⟩ w).mono ?_
  rintro e w' ⟨rfl, rfl⟩
  have h' : trimPrefix (⟨l.toArray⟩ : ByteArray).data.toList (⟨#[45]⟩ : ByteArray).data.toList = m := (unhy_eq l).trans h
  rw [h']
  exact ⟨rfl, rfl⟩
theorem measure_c (l : List UInt8) (w : World) (hl : l.length ≤ 20000) :
    Calls Tryz.prog 121 #[.string ⟨l.toArray⟩] w fun e w' => e = .returned (.tuple #[.int .i64 (kd l), .int .i64 (sz l)]) ∧ Ext w w' := by
  unfold kd sz
  obtain ⟨m, hm⟩ : ∃ m, unhy l = m := ⟨_, rfl⟩
  obtain ⟨n1, hn1⟩ : ∃ n, rn l inWL = n := ⟨_, rfl⟩
  obtain ⟨n2, hn2⟩ : ∃ n, rn l inNL = n := ⟨_, rfl⟩
  rw [hm, hn1, hn2]
  replace hm := show Hid _ from hm
  replace hn1 := show Hid _ from hn1
  replace hn2 := show Hid _ from hn2
  cases h1 : beg l letL
  · cases h2 : beg m digL
    · cases h3 : beg l sgnL
      · replace h1 := show Hid _ from h1
        replace h2 := show Hid _ from h2
        replace h3 := show Hid _ from h3
        go_enter Tryz.func121, Tryz.ntmps121
        go_wp2_with fail
        refine (begins_x l letL false h1.out _).mono ?_
        rintro e w1 ⟨rfl, rfl⟩
        go_wp2_with fail
        refine (trimPrefix_x l m hm.out _).mono ?_
        rintro e w2 ⟨rfl, rfl⟩
        go_wp2_with fail
        refine (begins_x m digL false h2.out _).mono ?_
        rintro e w3 ⟨rfl, rfl⟩
        go_wp2_with fail
        refine (begins_x l sgnL false h3.out _).mono ?_
        rintro e w4 ⟨rfl, rfl⟩
        go_wp2
        go_ret2
        exact ⟨rfl, Ext.refl _⟩
      · replace h1 := show Hid _ from h1
        replace h2 := show Hid _ from h2
        replace h3 := show Hid _ from h3
        go_enter Tryz.func121, Tryz.ntmps121
        go_wp2_with fail
        refine (begins_x l letL false h1.out _).mono ?_
        rintro e w1 ⟨rfl, rfl⟩
        go_wp2_with fail
        refine (trimPrefix_x l m hm.out _).mono ?_
        rintro e w2 ⟨rfl, rfl⟩
        go_wp2_with fail
        refine (begins_x m digL false h2.out _).mono ?_
        rintro e w3 ⟨rfl, rfl⟩
        go_wp2_with fail
        refine (begins_x l sgnL true h3.out _).mono ?_
        rintro e w4 ⟨rfl, rfl⟩
        go_wp2
        go_ret2
        exact ⟨rfl, Ext.refl _⟩
    · replace h1 := show Hid _ from h1
      replace h2 := show Hid _ from h2
      go_enter Tryz.func121, Tryz.ntmps121
      go_wp2_with fail
      refine (begins_x l letL false h1.out _).mono ?_
      rintro e w1 ⟨rfl, rfl⟩
      go_wp2_with fail
      refine (trimPrefix_x l m hm.out _).mono ?_
      rintro e w2 ⟨rfl, rfl⟩
      go_wp2_with fail
      refine (begins_x m digL true h2.out _).mono ?_
      rintro e w3 ⟨rfl, rfl⟩
      go_wp2_with fail
      refine (run_x l inNL n2 hn2.out _ hl (by decide) (ascii_of _ (by decide))).mono ?_
      rintro e w4 ⟨rfl, hx⟩
      replace hx := show Hid _ from hx
      go_wp2
      go_ret2
      exact ⟨rfl, hx.out⟩
  · replace h1 := show Hid _ from h1
    go_enter Tryz.func121, Tryz.ntmps121
    go_wp2_with fail
    refine (begins_x l letL true h1.out _).mono ?_
    rintro e w1 ⟨rfl, rfl⟩
    go_wp2_with fail
    refine (run_x l inWL n1 hn1.out _ hl (by decide) (ascii_of _ (by decide))).mono ?_
    rintro e w4 ⟨rfl, hx⟩
    replace hx := show Hid _ from hx
    go_wp2
    go_ret2
    exact ⟨rfl, hx.out⟩
end Go.Proofs.YtbnpaeejlfaboaaGreatDoor.L7

namespace Go.Proofs.YtbnpaeejlfaboaaGreatDoor.L7
open Go.RowKit Go.Lib
set_option linter.unusedVariables false
theorem box3f (w : World) (x y z : Value) (t : TypeId) : ∃ W b, w.alloc (.cells #[x, y, z] t) = W ∧ w.heap.size = b ∧ Ext w W ∧ W.cell? ⟨b, 0, none⟩ = some x ∧ W.cell? ⟨b, 1, none⟩ = some y ∧ W.cell? ⟨b, 2, none⟩ = some z ∧
    W.frozen? ⟨b, 0, none⟩ = false ∧ W.frozen? ⟨b, 1, none⟩ = false ∧ W.frozen? ⟨b, 2, none⟩ = false :=
  ⟨_, _, rfl, rfl, (Ext.refl w).alloc _ _, by simp [go_sem], by simp [go_sem], by simp [go_sem], by simp [go_sem], by simp [go_sem], by simp [go_sem]⟩
/-- A struct of three fields in a block of its own, behind w. -/
structure Bx (w W : World) (b : Nat) (x y z : Value) : Prop where
  ext : Ext w W
  lo : w.heap.size ≤ b
  c0 : W.cell? ⟨b, 0, none⟩ = some x
  c1 : W.cell? ⟨b, 1, none⟩ = some y
  c2 : W.cell? ⟨b, 2, none⟩ = some z
  z0 : W.frozen? ⟨b, 0, none⟩ = false
  z1 : W.frozen? ⟨b, 1, none⟩ = false
  z2 : W.frozen? ⟨b, 2, none⟩ = false
theorem other {w : World} {b o b' o' : Nat} (x : Value) (h : b ≠ b' ∨ o ≠ o') : (w.setCell ⟨b, o, none⟩ x).cell? ⟨b', o', none⟩ = w.cell? ⟨b', o', none⟩ :=
  by
    apply World.cell?_setCell_other
    intro e
    injection e with e1 e2
    omega
theorem same {w : World} {a : Addr} {v u : Value} (h : w.cell? a = some u) : (w.setCell a v).cell? a = some v := by
  apply World.cell?_setCell_same
  exact h
theorem Bx.on {w W W' : World} {b : Nat} {x y z : Value} (h : Bx w W b x y z) (hx : Ext W W') : Bx w W' b x y z :=
  ⟨h.ext.trans hx, h.lo, hx.cell_of h.c0, hx.cell_of h.c1, hx.cell_of h.c2, by rw [hx.froz _ _ (lt_of_cell h.c0)]; exact h.z0, by rw [hx.froz _ _ (lt_of_cell h.c1)]; exact h.z1, by rw [hx.froz _ _ (lt_of_cell h.c2)]; exact h.z2⟩
theorem Bx.set {w W : World} {b : Nat} {x y z : Value} (h : Bx w W b x y z) (x' y' z' : Value) : Bx w (((W.setCell ⟨b, 0, none⟩ x').setCell ⟨b, 1, none⟩ y').setCell ⟨b, 2, none⟩ z') b x' y' z' := by
  have h1 : (W.setCell ⟨b, 0, none⟩ x').cell? ⟨b, 1, none⟩ = some y := by rw [other _ (Or.inr (by omega))]; exact h.c1
  have h2 : ((W.setCell ⟨b, 0, none⟩ x').setCell ⟨b, 1, none⟩ y').cell? ⟨b, 2, none⟩ = some z := by rw [other _ (Or.inr (by omega)), other _ (Or.inr (by omega))]; exact h.c2
  refine ⟨((h.ext.setCell h.lo _).setCell h.lo _).setCell h.lo _, h.lo, ?_, ?_, same h2, by simp [go_sem, h.z0], by simp [go_sem, h.z1], by simp [go_sem, h.z2]⟩
  · rw [other _ (Or.inr (by omega)), other _ (Or.inr (by omega))]; exact same h.c0
  · rw [other _ (Or.inr (by omega))]; exact same h1
theorem needAt_ok (c k : Int) (w : World) :
    Calls Tryz.prog 24 #[.bool true, .int .i64 c, .int .i64 k] w fun e w' => e = .returned (.tuple #[]) ∧ w' = w := by
  go_enter Tryz.func24, Tryz.ntmps24
  go_wp2
  go_end0
  exact ⟨rfl, rfl⟩
theorem needAt_no (c k : Int) (w : World) :
    Calls Tryz.prog 24 #[.bool false, .int .i64 c, .int .i64 k] w fun e w' => e = .panicked [{ v := .iface 85 (.agg #[.int .i64 c, .int .i64 k]), recovered := false }] ∧ w' = w := by
  go_enter Tryz.func24, Tryz.ntmps24
  go_wp2
  exact ⟨rfl, rfl, rfl⟩
theorem clone_c (l : List UInt8) (w : World) (hl : l.length ≤ 20000) :
    Calls Tryz.prog 122 #[.string ⟨l.toArray⟩] w fun e w' => e = .returned (.string ⟨l.toArray⟩) ∧ Ext w w' := by
  go_enter Tryz.func122, Tryz.ntmps122
  go_wp2_with fail
  refine (Tryz.stringslite_Clone ⟨l.toArray⟩ w (by rw [Lib.size_mk]; omega)).mono ?_
  rintro e w1 ⟨rfl, hx⟩
  replace hx := show Hid _ from hx
  go_wp2
  go_ret
  exact ⟨rfl, ⟨hx.out⟩⟩
theorem measure_x (l : List UInt8) (k n : Nat) (h1 : kd l = k) (h2 : sz l = n) (w : World) (hl : l.length ≤ 20000) :
    Calls Tryz.prog 121 #[.string ⟨l.toArray⟩] w fun e w' => e = .returned (.tuple #[.int .i64 k, .int .i64 n]) ∧ Ext w w' := by
  rw [← h1, ← h2]; exact measure_c l w hl
theorem next_no (l m : List UInt8) (k : Nat) (w : World) (hm : l.drop k = m) (hs : sz m = 0) (hl : l.length ≤ 20000) (hk : k ≤ l.length) :
    Calls Tryz.prog 84 #[.string ⟨l.toArray⟩, .int .i64 k] w fun e w' => e = .panicked [{ v := .iface 85 (.agg #[.int .i64 6, .int .i64 k]), recovered := false }] ∧ Ext w w' := by
  have hE := ext_drop l k
  rw [hm] at hE
  have hml : m.length ≤ 20000 := by rw [← hm, List.length_drop]; omega
  replace hm := show Hid _ from hm
  replace hs := show Hid _ from hs
  obtain ⟨q, hq⟩ : ∃ q, kd m = q := ⟨_, rfl⟩
  replace hq := show Hid _ from hq
  go_enter Tryz.func84, Tryz.ntmps84
  go_wp2_with fail
  refine (measure_x m q 0 hq.out hs.out _ hml).mono ?_
  rintro e w1 ⟨rfl, hx⟩
  replace hx : Hid (Ext w w1) := (by exact (Ext.refl w).alloc _ _ : Ext w _).trans hx
  go_wp2_with fail
  refine (needAt_no _ _ _).mono ?_
  rintro e w2 ⟨rfl, rfl⟩
  go_wp2
  exact ⟨rfl, rfl, hx.out⟩
theorem next_ok (l m t : List UInt8) (k n q : Nat) (w : World) (hm : l.drop k = m) (hs : sz m = n) (hq : kd m = q) (hn : 0 < n) (ht : m.take n = t) (hl : l.length ≤ 20000) (hk : k ≤ l.length) :
    Calls Tryz.prog 84 #[.string ⟨l.toArray⟩, .int .i64 k] w fun e w' => e = .returned (.agg #[.int .i64 q, .int .i64 k, .string ⟨t.toArray⟩]) ∧ Ext w w' := by
  have hE := ext_drop l k
  have hE2 := ext_part l k (k + n)
  rw [show k + n - k = n by omega, hm, ht] at hE2
  rw [hm] at hE
  have hml : m.length = l.length - k := by rw [← hm, List.length_drop]
  have hnm : n ≤ m.length := hs ▸ sz_le m
  have hml2 : m.length ≤ 20000 := by omega
  have htl : t.length ≤ 20000 := by rw [← ht, List.length_take]; omega
  obtain ⟨K, hK⟩ : ∃ K, k + n = K := ⟨_, rfl⟩
  rw [hK] at hE2
  have hsum : (k : Int) + (n : Int) = (K : Int) := by omega
  have hKl : K ≤ l.length := by omega
  have hkK : k ≤ K := by omega
  replace hm := show Hid _ from hm
  replace hs := show Hid _ from hs
  replace hq := show Hid _ from hq
  replace ht := show Hid _ from ht
  replace hK := show Hid _ from hK
  replace hml := show Hid _ from hml
  go_enter Tryz.func84, Tryz.ntmps84
  go_wp2_with fail
  obtain ⟨W0, b, hW0, hb, hx0, c0, c1, c2, z0, z1, z2⟩ := box3f w (.int .i64 0) (.int .i64 0) (.string ⟨#[]⟩) 93
  have hB : Bx w W0 b (.int .i64 0) (.int .i64 0) (.string ⟨#[]⟩) := ⟨hx0, by omega, c0, c1, c2, z0, z1, z2⟩
  rw [hW0, hb]
  clear hW0 hb hx0 c0 c1 c2 z0 z1 z2
  refine (measure_x m q n hq.out hs.out _ hml2).mono ?_
  rintro e w1 ⟨rfl, hx⟩
  replace hB := hB.on hx
  clear hx
  replace hB := show Hid _ from hB
  have hd : decide (0 < (n : Int)) = true := by simpa using hn
  go_wp2_with fail
  refine (needAt_ok _ _ _).mono ?_
  rintro e w2 ⟨rfl, rfl⟩
  go_wp2_with fail
  refine (clone_c t _ htl).mono ?_
  rintro e w3 ⟨rfl, hx⟩
  replace hB := show Hid _ from hB.out.on hx
  clear hx
  have c0 := hB.out.c0; have c1 := hB.out.c1; have c2 := hB.out.c2; have z0 := hB.out.z0; have z1 := hB.out.z1; have z2 := hB.out.z2
  go_wp2
  replace hB := hB.out.set (.int .i64 (q : Int)) (.int .i64 (k : Int)) (.string ⟨t.toArray⟩)
  clear c0 c1 c2 z0 z1 z2
  generalize ((w3.setCell ⟨b, 0, none⟩ (.int .i64 (q : Int))).setCell ⟨b, 1, none⟩ (.int .i64 (k : Int))).setCell ⟨b, 2, none⟩ (.string ⟨t.toArray⟩) = Wf at *
  exact bodyPost_ret (v := .agg #[.int .i64 q, .int .i64 k, .string ⟨t.toArray⟩]) (by simp [results, Tryz.results84, go_sem, hB.c0, hB.c1, hB.c2]) rfl ⟨rfl, hB.ext⟩
/-- A sign's cells; a row's. -/
def cellT (t : Tok) : List Value := [.int .i64 t.kind, .int .i64 t.at_, .string ⟨t.text.toArray⟩]
def cellsT (ts : List Tok) : List Value := ts.flatMap cellT
theorem cellsT_snoc (ts : List Tok) (t : Tok) : cellsT (ts ++ [t]) = cellsT ts ++ cellT t := by simp [cellsT]
theorem info_tok : (Tryz.prog.info? 93).map (fun i => (i.zero, i.size, i.bytes)) = some (some (.agg #[.int .i64 0, .int .i64 0, .string ⟨#[]⟩]), 3, 32) := by kernel_rfl
theorem own_ext {w w' : World} {B : Nat} {e : TypeId} {z : Nat} {v : Value} {T : Nat} {xs : List Value} (h : w.ownsRow B e z v T xs) (hx : Ext w w') : w'.ownsRow B e z v T xs := by
  refine ⟨h.1, ?_⟩
  rcases h.2 with h0 | ⟨g, c, cur, h1, h2, h3, h4⟩
  · exact Or.inl h0
  · refine Or.inr ⟨g, c, cur, h1, h2, ?_, h4⟩
    rw [hx.below.block g (Array.getElem?_eq_some_iff.1 h3).1]
    exact h3
theorem own_lo {w : World} {B : Nat} {e : TypeId} {z : Nat} {v : Value} {T : Nat} {xs : List Value} (h : w.ownsRow B e z v T xs) : ∀ k, v.ownBlock = some k → B ≤ k := fun k hk => (h.lt k hk).1
/-- A row of signs that was made behind the block B. -/
structure Own (B : Nat) (w : World) (v : Value) (ts : List Tok) : Prop where
  row : w.ownsRow B 93 3 v ts.length (cellsT ts)
theorem Own.ext {B : Nat} {w w' : World} {v : Value} {ts : List Tok} (h : Own B w v ts) (hx : Ext w w') : Own B w' v ts := ⟨own_ext h.row hx⟩
theorem Own.nil (B : Nat) (w : World) : Own B w (.slice none 0 0) [] := ⟨World.ownsRow_nil _ _ _ _⟩
theorem Own.snoc {B : Nat} {w : World} {v : Value} {ts : List Tok} {t : Tok} (h : w.ownsRow B 93 3 v (ts.length + 1) (cellsT ts ++ cellT t)) : Own B w v (ts ++ [t]) :=
  ⟨by rw [cellsT_snoc]; simpa using h⟩
theorem pass_x (l : List UInt8) (k Z : Nat) (hZ : k + wh false (l.drop k) = Z) (w : World) (hl : l.length ≤ 20000) (hk : k ≤ l.length) (he : Hid (Env w)) :
    Calls Tryz.prog 83 #[.string ⟨l.toArray⟩, .int .i64 k] w fun e w' => e = .returned (.int .i64 Z) ∧ Ext w w' := hZ ▸ pass_c l k w hl hk he
/-- How far the signs of l have been told, at the place j. -/
structure Told (l : List UInt8) (j : Nat) (ts : List Tok) : Prop where
  le : j ≤ l.length
  few : ts.length ≤ j
  white : wh false (l.drop j) = 0
  all : lex 0 l = (ts ++ (lex j (l.drop j)).1, (lex j (l.drop j)).2)
theorem Told.start (l : List UInt8) : Told l (wh false l) [] :=
  ⟨wh_le false l, Nat.zero_le _, wh_drop false l, by have h := lex_pass 0 l; simpa using h⟩
theorem Told.fin {l : List UInt8} {j : Nat} {ts : List Tok} (h : Told l j ts) (hj : ¬ j < l.length) : lex 0 l = (ts, none) := by
  have hd : l.drop j = [] := List.drop_of_length_le (by omega)
  rw [h.all, hd, lex_end (l := []) rfl]; simp
theorem Told.bad {l : List UInt8} {j : Nat} {ts : List Tok} (h : Told l j ts) (hj : j < l.length) (hs : sz (l.drop j) = 0) : lex 0 l = (ts, some j) := by
  cases hm : l.drop j with
  | nil => have := congrArg List.length hm; simp at this; omega
  | cons c m =>
    have hw := h.white
    rw [hm] at hw hs
    rw [h.all, hm, lex_bad hw hs]; simp
theorem Told.step {l : List UInt8} {j n : Nat} {ts : List Tok} (h : Told l j ts) (hj : j < l.length) (hs : sz (l.drop j) = n) (hn : 0 < n) :
    j + n ≤ l.length ∧ Told l (j + n + wh false (l.drop (j + n))) (ts ++ [⟨kd (l.drop j), j, (l.drop j).take n⟩]) := by
  have hz := sz_le (l.drop j)
  rw [List.length_drop] at hz
  have hle : j + n ≤ l.length := by omega
  have hw2 := wh_le false (l.drop (j + n))
  rw [List.length_drop] at hw2
  refine ⟨hle, by omega, by have := h.few; simp; omega, by rw [← List.drop_drop]; exact wh_drop false _, ?_⟩
  cases hm : l.drop j with
  | nil => have := congrArg List.length hm; simp at this; omega
  | cons c m =>
    have hw := h.white
    rw [hm] at hw hs
    have hd : (c :: m).drop n = l.drop (j + n) := by rw [← hm, List.drop_drop]
    rw [h.all, hm, lex_tok hw hs hn, hd, lex_pass (j + n) (l.drop (j + n)), List.drop_drop]
    simp
theorem scan_ok (l : List UInt8) (ts : List Tok) (w : World) (hl : l.length ≤ 20000) (hlex : lex 0 l = (ts, none)) (he : Hid (Env w)) :
    Calls Tryz.prog 42 #[.string ⟨l.toArray⟩] w fun e w' => (∃ v, e = .returned v ∧ Own w.heap.size w' v (ts ++ [⟨0, l.length, []⟩])) ∧ Ext w w' := by
  obtain ⟨i0, hi, hz0, hz1, hz2⟩ := info_parts info_tok
  have hst := Told.start l
  obtain ⟨j0, hj0⟩ : ∃ j, wh false l = j := ⟨_, rfl⟩
  rw [hj0] at hst
  replace hlex := show Hid _ from hlex
  replace hst := show Hid _ from hst
  replace hj0 := show Hid _ from hj0
  go_enter Tryz.func42, Tryz.ntmps42
  go_wp2_with fail
  refine (pass_x l 0 j0 (by simpa using hj0.out) _ hl (Nat.zero_le _) he).mono ?_
  rintro e w1 ⟨rfl, hx⟩
  replace hx := show Hid _ from hx
  go_wp2_with fail
  go_loopw [3, 4] (fun v i wr => ∃ (j : Nat) (us : List Tok), j ≤ l.length ∧ us.length ≤ j ∧ i = .int .i64 (j : Int) ∧ Hid (Told l j us) ∧ Hid (Own w.heap.size wr v us) ∧ Hid (Ext w wr)) (fun _ i _ => l.length - (RowKit.intOf i).toNat)
  case atStart => exact ⟨j0, [], hst.out.le, Nat.zero_le _, rfl, hst, Own.nil _ _, hx⟩
  case round =>
    obtain ⟨j, us, hjl, huj, rfl, htold, hr, hx⟩ := hrel
    clear hst hj0
    have he1 : Hid (Env wr) := he.out.ext hx.out
    by_cases hlt : j < l.length
    · obtain ⟨m, hm⟩ : ∃ m, l.drop j = m := ⟨_, rfl⟩
      obtain ⟨n, hn⟩ : ∃ n, sz m = n := ⟨_, rfl⟩
      obtain ⟨q, hq⟩ : ∃ q, kd m = q := ⟨_, rfl⟩
      obtain ⟨t, ht⟩ : ∃ t, m.take n = t := ⟨_, rfl⟩
      have hpos : 0 < n := by
        rcases Nat.eq_zero_or_pos n with h0 | h0
        · exfalso
          have h1 := htold.out.bad hlt (by rw [hm, hn, h0])
          have h2 := hlex.out
          rw [h1] at h2
          simp at h2
        · exact h0
      obtain ⟨hle, hnew⟩ := htold.out.step hlt (by rw [hm]; exact hn) hpos
      obtain ⟨J, hJ⟩ : ∃ J, j + n + wh false (l.drop (j + n)) = J := ⟨_, rfl⟩
      rw [hm, hJ, hq, ht] at hnew
      obtain ⟨K, hK⟩ : ∃ K, j + n = K := ⟨_, rfl⟩
      rw [hK] at hJ hle
      have htl : t.length = n := by rw [← ht, List.length_take]; have := sz_le m; omega
      have hsum : (j : Int) + (n : Int) = (K : Int) := by omega
      replace hm := show Hid _ from hm
      replace hn := show Hid _ from hn
      replace hq := show Hid _ from hq
      replace ht := show Hid _ from ht
      replace hJ := show Hid _ from hJ
      replace hK := show Hid _ from hK
      replace hnew := show Hid _ from hnew
      go_wp2_with fail
      refine (next_ok l m t j n q _ hm.out hn.out hq.out hpos ht.out hl hjl).mono ?_
      rintro e w2 ⟨rfl, hx1⟩
      replace hr : Hid (Own _ w2 _ us) := hr.out.ext hx1
      replace hx : Hid (Ext w w2) := hx.out.trans hx1
      replace he1 : Hid (Env w2) := he1.out.ext hx1
      clear hx1
      have hsz := hx.out.size
      have hown := hr.out.row.lt
      replace hown := show Hid _ from hown
      go_wp2_with (at_builtin; refine wpList_append_own _ rfl (.tmp 15) (.tmp 17) 49 rfl w.heap.size 93 i0 (.agg #[.int .i64 0, .int .i64 0, .string ⟨#[]⟩]) 3 32 Tryz.underlying49 hi hz0 hz1 hz2 rfl (by decide) _ _ _ rfl ((hr.out.row.alloc _).alloc _) ⟨w2.heap.size + 1, 0, none⟩ 1 1 (cellT ⟨q, j, t⟩) rfl rfl ?c1 ?c2 ?c3 ?c4 ?c5 ?_)
      case c1 =>
        intro p u hp
        match p, hp with
        | 0, hp => simp [cellT] at hp; subst hp; simp [Addr.add, go_sem]
        | 1, hp => simp [cellT] at hp; subst hp; simp [Addr.add, go_sem]
        | 2, hp => simp [cellT] at hp; subst hp; simp [Addr.add, go_sem]
        | p + 3, hp => simp [cellT] at hp
      case c2 => intro u hu; simp [cellT] at hu; rcases hu with rfl | rfl | rfl <;> rfl
      case c3 => unfold maxLen; omega
      case c4 => omega
      case c5 => simp; omega
      intro v' w3 hown' hgrow _
      have hx3 : Hid (Ext w w3) := ⟨(((hx.out.alloc _ _).alloc _ _).below).grown hgrow (by simp; omega) (own_lo hr.out.row)⟩
      have hr3 : Hid (Own w.heap.size w3 v' (us ++ [⟨q, j, t⟩])) := Own.snoc hown'
      have hc : w3.cell? ⟨w2.heap.size, 2, none⟩ = some (.string ⟨t.toArray⟩) := by
        refine hgrow.cell (a := ⟨w2.heap.size, 2, none⟩) (by simp [go_sem]) ?_
        intro e
        exact absurd (hown.out _ e.symm).2 (Nat.lt_irrefl _)
      have he3 : Hid (Env w3) := he.out.ext hx3.out
      clear hown' hgrow hr hx he1 hown
      go_wp2_with fail
      refine (pass_x l K J hJ.out _ hl hle he3).mono ?_
      rintro e w4 ⟨rfl, hx1⟩
      have hx4 : Hid (Ext w w4) := hx3.out.trans hx1
      have hr4 : Hid (Own w.heap.size w4 v' (us ++ [⟨q, j, t⟩])) := hr3.out.ext hx1
      clear hx1 hr3 hx3 he3 hc
      go_wp2
      go_roundw
      case rel => exact ⟨J, us ++ [⟨q, j, t⟩], hnew.out.le, hnew.out.few, rfl, hnew, hr4, hx4⟩
      case measure => have := hJ.out; have := hK.out; have := hnew.out.le; simp [RowKit.intOf]; omega
    · have hf := htold.out.fin hlt
      obtain rfl : us = ts := by have h := hlex.out; rw [hf] at h; exact (Prod.mk.inj h).1
      clear hf
      have hsz := hx.out.size
      have hd : decide ((j : Int) < (l.length : Int)) = false := by simpa using hlt
      go_wp2_with (at_builtin; refine wpList_append_own _ rfl (.tmp 26) (.tmp 30) 49 rfl w.heap.size 93 i0 (.agg #[.int .i64 0, .int .i64 0, .string ⟨#[]⟩]) 3 32 Tryz.underlying49 hi hz0 hz1 hz2 rfl (by decide) _ _ _ rfl (hr.out.row.alloc _) ⟨wr.heap.size, 0, none⟩ 1 1 (cellT ⟨0, l.length, []⟩) rfl rfl ?c1 ?c2 ?c3 ?c4 ?c5 ?_)
      case c1 =>
        intro p u hp
        match p, hp with
        | 0, hp => simp [cellT] at hp; subst hp; simp [Addr.add, go_sem]
        | 1, hp => simp [cellT] at hp; subst hp; simp [Addr.add, go_sem]
        | 2, hp => simp [cellT] at hp; subst hp; simp [Addr.add, go_sem]
        | p + 3, hp => simp [cellT] at hp
      case c2 => intro u hu; simp [cellT] at hu; rcases hu with rfl | rfl | rfl <;> rfl
      case c3 => unfold maxLen; omega
      case c4 => omega
      case c5 => simp; omega
      intro v' w3 hown' hgrow _
      have hx3 : Hid (Ext w w3) := ⟨((hx.out.alloc _ _).below).grown hgrow (by simp; omega) (own_lo hr.out.row)⟩
      have hr3 : Hid (Own w.heap.size w3 v' (us ++ [⟨0, l.length, []⟩])) := Own.snoc hown'
      clear hown' hgrow hr hx he1
      go_wp2
      go_ret
      exact ⟨⟨_, rfl, hr3.out⟩, hx3.out⟩
theorem scan_no (l : List UInt8) (ts : List Tok) (P : Nat) (w : World) (hl : l.length ≤ 20000) (hlex : lex 0 l = (ts, some P)) (he : Hid (Env w)) :
    Calls Tryz.prog 42 #[.string ⟨l.toArray⟩] w fun e w' => e = .panicked [{ v := .iface 85 (.agg #[.int .i64 6, .int .i64 P]), recovered := false }] ∧ Ext w w' := by
  obtain ⟨i0, hi, hz0, hz1, hz2⟩ := info_parts info_tok
  have hst := Told.start l
  obtain ⟨j0, hj0⟩ : ∃ j, wh false l = j := ⟨_, rfl⟩
  rw [hj0] at hst
  replace hlex := show Hid _ from hlex
  replace hst := show Hid _ from hst
  replace hj0 := show Hid _ from hj0
  go_enter Tryz.func42, Tryz.ntmps42
  go_wp2_with fail
  refine (pass_x l 0 j0 (by simpa using hj0.out) _ hl (Nat.zero_le _) he).mono ?_
  rintro e w1 ⟨rfl, hx⟩
  replace hx := show Hid _ from hx
  go_wp2_with fail
  go_loopw [3, 4] (fun v i wr => ∃ (j : Nat) (us : List Tok), j ≤ l.length ∧ us.length ≤ j ∧ i = .int .i64 (j : Int) ∧ Hid (Told l j us) ∧ Hid (Own w.heap.size wr v us) ∧ Hid (Ext w wr)) (fun _ i _ => l.length - (RowKit.intOf i).toNat)
  case atStart => exact ⟨j0, [], hst.out.le, Nat.zero_le _, rfl, hst, Own.nil _ _, hx⟩
  case round =>
    obtain ⟨j, us, hjl, huj, rfl, htold, hr, hx⟩ := hrel
    clear hst hj0
    have he1 : Hid (Env wr) := he.out.ext hx.out
    by_cases hlt : j < l.length
    · obtain ⟨m, hm⟩ : ∃ m, l.drop j = m := ⟨_, rfl⟩
      obtain ⟨n, hn⟩ : ∃ n, sz m = n := ⟨_, rfl⟩
      obtain ⟨q, hq⟩ : ∃ q, kd m = q := ⟨_, rfl⟩
      obtain ⟨t, ht⟩ : ∃ t, m.take n = t := ⟨_, rfl⟩
      rcases Nat.eq_zero_or_pos n with h0 | hpos
      · have h1 := htold.out.bad hlt (by rw [hm, hn, h0])
        have h2 := hlex.out
        rw [h1] at h2
        obtain rfl : j = P := by simpa using (Prod.mk.inj h2).2
        subst h0
        clear h1 h2 ht
        replace hm := show Hid _ from hm
        replace hn := show Hid _ from hn
        replace hq := show Hid _ from hq
        go_wp2_with fail
        refine (next_no l m j _ hm.out hn.out hl hjl).mono ?_
        rintro e w2 ⟨rfl, hx1⟩
        replace hx : Hid (Ext w w2) := hx.out.trans hx1
        clear hx1
        go_wp2
        exact ⟨rfl, rfl, hx.out⟩
      obtain ⟨hle, hnew⟩ := htold.out.step hlt (by rw [hm]; exact hn) hpos
      obtain ⟨J, hJ⟩ : ∃ J, j + n + wh false (l.drop (j + n)) = J := ⟨_, rfl⟩
      rw [hm, hJ, hq, ht] at hnew
      obtain ⟨K, hK⟩ : ∃ K, j + n = K := ⟨_, rfl⟩
      rw [hK] at hJ hle
      have htl : t.length = n := by rw [← ht, List.length_take]; have := sz_le m; omega
      have hsum : (j : Int) + (n : Int) = (K : Int) := by omega
      replace hm := show Hid _ from hm
      replace hn := show Hid _ from hn
      replace hq := show Hid _ from hq
      replace ht := show Hid _ from ht
      replace hJ := show Hid _ from hJ
      replace hK := show Hid _ from hK
      replace hnew := show Hid _ from hnew
      go_wp2_with fail
      refine (next_ok l m t j n q _ hm.out hn.out hq.out hpos ht.out hl hjl).mono ?_
      rintro e w2 ⟨rfl, hx1⟩
      replace hr : Hid (Own _ w2 _ us) := hr.out.ext hx1
      replace hx : Hid (Ext w w2) := hx.out.trans hx1
      replace he1 : Hid (Env w2) := he1.out.ext hx1
      clear hx1
      have hsz := hx.out.size
      have hown := hr.out.row.lt
      replace hown := show Hid _ from hown
      go_wp2_with (at_builtin; refine wpList_append_own _ rfl (.tmp 15) (.tmp 17) 49 rfl w.heap.size 93 i0 (.agg #[.int .i64 0, .int .i64 0, .string ⟨#[]⟩]) 3 32 Tryz.underlying49 hi hz0 hz1 hz2 rfl (by decide) _ _ _ rfl ((hr.out.row.alloc _).alloc _) ⟨w2.heap.size + 1, 0, none⟩ 1 1 (cellT ⟨q, j, t⟩) rfl rfl ?c1 ?c2 ?c3 ?c4 ?c5 ?_)
      case c1 =>
        intro p u hp
        match p, hp with
        | 0, hp => simp [cellT] at hp; subst hp; simp [Addr.add, go_sem]
        | 1, hp => simp [cellT] at hp; subst hp; simp [Addr.add, go_sem]
        | 2, hp => simp [cellT] at hp; subst hp; simp [Addr.add, go_sem]
        | p + 3, hp => simp [cellT] at hp
      case c2 => intro u hu; simp [cellT] at hu; rcases hu with rfl | rfl | rfl <;> rfl
      case c3 => unfold maxLen; omega
      case c4 => omega
      case c5 => simp; omega
      intro v' w3 hown' hgrow _
      have hx3 : Hid (Ext w w3) := ⟨(((hx.out.alloc _ _).alloc _ _).below).grown hgrow (by simp; omega) (own_lo hr.out.row)⟩
      have hr3 : Hid (Own w.heap.size w3 v' (us ++ [⟨q, j, t⟩])) := Own.snoc hown'
      have hc : w3.cell? ⟨w2.heap.size, 2, none⟩ = some (.string ⟨t.toArray⟩) := by
        refine hgrow.cell (a := ⟨w2.heap.size, 2, none⟩) (by simp [go_sem]) ?_
        intro e
        exact absurd (hown.out _ e.symm).2 (Nat.lt_irrefl _)
      have he3 : Hid (Env w3) := he.out.ext hx3.out
      clear hown' hgrow hr hx he1 hown
      go_wp2_with fail
      refine (pass_x l K J hJ.out _ hl hle he3).mono ?_
      rintro e w4 ⟨rfl, hx1⟩
      have hx4 : Hid (Ext w w4) := hx3.out.trans hx1
      have hr4 : Hid (Own w.heap.size w4 v' (us ++ [⟨q, j, t⟩])) := hr3.out.ext hx1
      clear hx1 hr3 hx3 he3 hc
      go_wp2
      go_roundw
      case rel => exact ⟨J, us ++ [⟨q, j, t⟩], hnew.out.le, hnew.out.few, rfl, hnew, hr4, hx4⟩
      case measure => have := hJ.out; have := hK.out; have := hnew.out.le; simp [RowKit.intOf]; omega
    · exfalso
      have hf := htold.out.fin hlt
      have h := hlex.out
      rw [hf] at h
      simp at h
end Go.Proofs.YtbnpaeejlfaboaaGreatDoor.L7

namespace Go.Proofs.YtbnpaeejlfaboaaGreatDoor.L7
open Go.RowKit Go.Lib
set_option linter.unusedVariables false
theorem wpAnyS_three {P : Program} {ops : Array Oper} {Q : Exit → Act → List Frame → World → Prop} {md : Region.Mode} {a : Act} {cs : List Frame} {w : World} {i j k : Nat} {fuel : Nat} {listed : Array Bool} (hr : Region.ready md ops listed = [i, j, k])
    (h1 : wpOpS P ops Q i (wpAnyS P md ops Q fuel (listed.setIfInBounds i true)) a cs w)
    (h2 : wpOpS P ops Q j (wpAnyS P md ops Q fuel (listed.setIfInBounds j true)) a cs w)
    (h3 : wpOpS P ops Q k (wpAnyS P md ops Q fuel (listed.setIfInBounds k true)) a cs w) : wpAnyS P md ops Q (fuel + 1) listed a cs w :=
  wpAnyS_all hr (by simp) (by simpa using ⟨h1, h2, h3⟩)
/-- A slice, whichever. -/
def Slc1 (v : Value) : Prop := ∃ ao n c, v = .slice ao n c
theorem need_ok (c : Int) (w : World) :
    Calls Tryz.prog 33 #[.bool true, .int .i64 c] w fun e w' => e = .returned (.tuple #[]) ∧ w' = w := by
  go_enter Tryz.func33, Tryz.ntmps33
  go_wp2
  go_end0
  exact ⟨rfl, rfl⟩
theorem need_no (c : Int) (w : World) :
    Calls Tryz.prog 33 #[.bool false, .int .i64 c] w fun e w' => e = .panicked [{ v := .iface 29 (.int .i64 c), recovered := false }] ∧ w' = w := by
  go_enter Tryz.func33, Tryz.ntmps33
  go_wp2
  exact ⟨rfl, rfl, rfl⟩
theorem assert_errno (W : World) (x : Value) : (Instr.typeAssert (.iface 29 x) 20 29 true).run Tryz.prog W = .ok (.tuple #[x, .bool true]) W := by kernel_rfl
theorem assert_other (W : World) (x : Value) : (Instr.typeAssert (.iface 85 x) 20 29 true).run Tryz.prog W = .ok (.tuple #[.int .i64 0, .bool false]) W := by kernel_rfl
theorem assert_placed (W : World) (x : Value) : (Instr.typeAssert (.iface 85 x) 20 85 true).run Tryz.prog W = .ok (.tuple #[x, .bool true]) W := by kernel_rfl
theorem settleAt_nil (v : Value) (w : World) :
    Calls Tryz.prog 41 #[.nilIface, v] w fun e w' => e = .returned (.tuple #[v, .int .i64 0, .int .i64 0]) ∧ Ext w w' := by
  go_enter Tryz.func41, Tryz.ntmps41
  go_wp2
  exact bodyPost_ret (v := .tuple #[v, .int .i64 0, .int .i64 0]) (by simp [results, Tryz.results41, go_sem]) rfl ⟨rfl, Ext.refl _⟩
theorem settleAt_errno (c : Int) (v : Value) (w : World) :
    Calls Tryz.prog 41 #[.iface 29 (.int .i64 c), v] w fun e w' => e = .returned (.tuple #[.slice none 0 0, .int .i64 0, .int .i64 c]) ∧ Ext w w' := by
  have hta := assert_errno
  go_enter Tryz.func41, Tryz.ntmps41
  go_wp2
  exact bodyPost_ret (v := .tuple #[.slice none 0 0, .int .i64 0, .int .i64 c]) (by simp [results, Tryz.results41, go_sem]) rfl ⟨rfl, Ext.refl _⟩
theorem settleAt_placed (c k : Int) (v : Value) (w : World) :
    Calls Tryz.prog 41 #[.iface 85 (.agg #[.int .i64 c, .int .i64 k]), v] w fun e w' => e = .returned (.tuple #[.slice none 0 0, .int .i64 k, .int .i64 c]) ∧ Ext w w' := by
  have hta := assert_placed
  have htb := assert_other
  go_enter Tryz.func41, Tryz.ntmps41
  go_wp2
  go_quiet (fail)
  go_wp2
  exact bodyPost_ret (v := .tuple #[.slice none 0 0, .int .i64 k, .int .i64 c]) (by simp [results, Tryz.results41, go_sem]) rfl ⟨rfl, by first | exact ((Ext.refl w).alloc _ _).drewN _ | exact ((Ext.refl w).alloc _ _).drew⟩
set_option maxHeartbeats 2000000 in
theorem all_idle (b : Nat) (V : Value) (y z : Int) (w : World) (hp : w.cell? ⟨b, 0, none⟩ = some V) (h1 : Slc1 V) (hq : w.cell? ⟨b + 1, 0, none⟩ = some (.int .i64 y)) (hr : w.cell? ⟨b + 2, 0, none⟩ = some (.int .i64 z)) (hpz : w.frozen? ⟨b, 0, none⟩ = false) (hqz : w.frozen? ⟨b + 1, 0, none⟩ = false) (hrz : w.frozen? ⟨b + 2, 0, none⟩ = false) :
    CallsD Tryz.prog 40 #[.pointer (some ⟨b, 0, none⟩), .pointer (some ⟨b + 1, 0, none⟩), .pointer (some ⟨b + 2, 0, none⟩)] .returning w fun e u' w' => e = .returned (.tuple #[]) ∧ u' = .returning ∧ ∃ w1, Ext w w1 ∧ w' = (((w1.setCell ⟨b, 0, none⟩ V).setCell ⟨b + 1, 0, none⟩ (.int .i64 0)).setCell ⟨b + 2, 0, none⟩ (.int .i64 0)) := by
  obtain ⟨ao, n, m, rfl⟩ := h1
  have hb0 := lt_of_cell hp
  have hb1 := lt_of_cell hq
  have hb2 := lt_of_cell hr
  refine callsD_of_wpS Tryz.func40 rfl fun c₀ cs hu => ?_
  refine wpS_region_any 10 rfl (by kernel_rfl) ?_
  refine wpAnyS_two (i := 0) (j := 1) (by decide +kernel) ?_ ?_
  · simp [wpOpS, go_sem, recoverD, hu, Tryz.ntmps40]
    refine wpAnyS_one (i := 1) (by decide +kernel) ?_
    simp [wpOpS, go_sem, hp]
    refine wpAnyS_one (i := 2) (by decide +kernel) ?_
    simp [wpOpS, go_sem]
    refine (settleAt_nil _ _).mono ?_
    rintro e w1 ⟨rfl, hx⟩
    have gp : w1.cell? ⟨b, 0, none⟩ = some (.slice ao n m) := by rw [hx.cell b 0 (by simpa using hb0)]; simpa using hp
    have gq : w1.cell? ⟨b + 1, 0, none⟩ = some (.int .i64 y) := by rw [hx.cell (b + 1) 0 (by simpa using hb1)]; simpa using hq
    have gr : w1.cell? ⟨b + 2, 0, none⟩ = some (.int .i64 z) := by rw [hx.cell (b + 2) 0 (by simpa using hb2)]; simpa using hr
    have gpz : w1.frozen? ⟨b, 0, none⟩ = false := by rw [hx.froz b 0 (by simpa using hb0)]; simpa using hpz
    have gqz : w1.frozen? ⟨b + 1, 0, none⟩ = false := by rw [hx.froz (b + 1) 0 (by simpa using hb1)]; simpa using hqz
    have grz : w1.frozen? ⟨b + 2, 0, none⟩ = false := by rw [hx.froz (b + 2) 0 (by simpa using hb2)]; simpa using hrz
    refine wpAnyS_one (i := 3) (by decide +kernel) ?_
    simp [wpOpS, go_sem]
    refine wpAnyS_three (i := 4) (j := 5) (k := 6) (by decide +kernel) ?_ ?_ ?_
    · simp [wpOpS, go_sem]
      refine wpAnyS_three (i := 5) (j := 6) (k := 7) (by decide +kernel) ?_ ?_ ?_
      · simp [wpOpS, go_sem]
        refine wpAnyS_two (i := 6) (j := 7) (by decide +kernel) ?_ ?_
        · simp [wpOpS, go_sem]
          refine wpAnyS_one (i := 7) (by decide +kernel) ?_
          simp [wpOpS, go_sem, gp, gpz]
          refine wpAnyS_one (i := 8) (by decide +kernel) ?_
          simp [wpOpS, go_sem, gq, gqz]
          refine wpAnyS_one (i := 9) (by decide +kernel) ?_
          simp [wpOpS, go_sem, gr, grz]
          refine wpAnyS_done (by decide +kernel) ?_ _
          exact ⟨rfl, .returning, by rw [← hu], .tuple #[], results_none (by rfl) _ _ _, rfl, rfl, w1, (Ext.refl w).drew.trans hx, rfl⟩
        · simp [wpOpS, go_sem, gp, gpz]
          refine wpAnyS_two (i := 6) (j := 8) (by decide +kernel) ?_ ?_
          · simp [wpOpS, go_sem]
            refine wpAnyS_one (i := 8) (by decide +kernel) ?_
            simp [wpOpS, go_sem, gq, gqz]
            refine wpAnyS_one (i := 9) (by decide +kernel) ?_
            simp [wpOpS, go_sem, gr, grz]
            refine wpAnyS_done (by decide +kernel) ?_ _
            exact ⟨rfl, .returning, by rw [← hu], .tuple #[], results_none (by rfl) _ _ _, rfl, rfl, w1, (Ext.refl w).drew.trans hx, rfl⟩
          · simp [wpOpS, go_sem, gq, gqz]
            refine wpAnyS_one (i := 6) (by decide +kernel) ?_
            simp [wpOpS, go_sem]
            refine wpAnyS_one (i := 9) (by decide +kernel) ?_
            simp [wpOpS, go_sem, gr, grz]
            refine wpAnyS_done (by decide +kernel) ?_ _
            exact ⟨rfl, .returning, by rw [← hu], .tuple #[], results_none (by rfl) _ _ _, rfl, rfl, w1, (Ext.refl w).drew.trans hx, rfl⟩
      · simp [wpOpS, go_sem]
        refine wpAnyS_two (i := 5) (j := 7) (by decide +kernel) ?_ ?_
        · simp [wpOpS, go_sem]
          refine wpAnyS_one (i := 7) (by decide +kernel) ?_
          simp [wpOpS, go_sem, gp, gpz]
          refine wpAnyS_one (i := 8) (by decide +kernel) ?_
          simp [wpOpS, go_sem, gq, gqz]
          refine wpAnyS_one (i := 9) (by decide +kernel) ?_
          simp [wpOpS, go_sem, gr, grz]
          refine wpAnyS_done (by decide +kernel) ?_ _
          exact ⟨rfl, .returning, by rw [← hu], .tuple #[], results_none (by rfl) _ _ _, rfl, rfl, w1, (Ext.refl w).drew.trans hx, rfl⟩
        · simp [wpOpS, go_sem, gp, gpz]
          refine wpAnyS_one (i := 5) (by decide +kernel) ?_
          simp [wpOpS, go_sem]
          refine wpAnyS_one (i := 8) (by decide +kernel) ?_
          simp [wpOpS, go_sem, gq, gqz]
          refine wpAnyS_one (i := 9) (by decide +kernel) ?_
          simp [wpOpS, go_sem, gr, grz]
          refine wpAnyS_done (by decide +kernel) ?_ _
          exact ⟨rfl, .returning, by rw [← hu], .tuple #[], results_none (by rfl) _ _ _, rfl, rfl, w1, (Ext.refl w).drew.trans hx, rfl⟩
      · simp [wpOpS, go_sem, gp, gpz]
        refine wpAnyS_two (i := 5) (j := 6) (by decide +kernel) ?_ ?_
        · simp [wpOpS, go_sem]
          refine wpAnyS_two (i := 6) (j := 8) (by decide +kernel) ?_ ?_
          · simp [wpOpS, go_sem]
            refine wpAnyS_one (i := 8) (by decide +kernel) ?_
            simp [wpOpS, go_sem, gq, gqz]
            refine wpAnyS_one (i := 9) (by decide +kernel) ?_
            simp [wpOpS, go_sem, gr, grz]
            refine wpAnyS_done (by decide +kernel) ?_ _
            exact ⟨rfl, .returning, by rw [← hu], .tuple #[], results_none (by rfl) _ _ _, rfl, rfl, w1, (Ext.refl w).drew.trans hx, rfl⟩
          · simp [wpOpS, go_sem, gq, gqz]
            refine wpAnyS_one (i := 6) (by decide +kernel) ?_
            simp [wpOpS, go_sem]
            refine wpAnyS_one (i := 9) (by decide +kernel) ?_
            simp [wpOpS, go_sem, gr, grz]
            refine wpAnyS_done (by decide +kernel) ?_ _
            exact ⟨rfl, .returning, by rw [← hu], .tuple #[], results_none (by rfl) _ _ _, rfl, rfl, w1, (Ext.refl w).drew.trans hx, rfl⟩
        · simp [wpOpS, go_sem]
          refine wpAnyS_one (i := 5) (by decide +kernel) ?_
          simp [wpOpS, go_sem]
          refine wpAnyS_one (i := 8) (by decide +kernel) ?_
          simp [wpOpS, go_sem, gq, gqz]
          refine wpAnyS_one (i := 9) (by decide +kernel) ?_
          simp [wpOpS, go_sem, gr, grz]
          refine wpAnyS_done (by decide +kernel) ?_ _
          exact ⟨rfl, .returning, by rw [← hu], .tuple #[], results_none (by rfl) _ _ _, rfl, rfl, w1, (Ext.refl w).drew.trans hx, rfl⟩
    · simp [wpOpS, go_sem]
      refine wpAnyS_two (i := 4) (j := 6) (by decide +kernel) ?_ ?_
      · simp [wpOpS, go_sem]
        refine wpAnyS_two (i := 6) (j := 7) (by decide +kernel) ?_ ?_
        · simp [wpOpS, go_sem]
          refine wpAnyS_one (i := 7) (by decide +kernel) ?_
          simp [wpOpS, go_sem, gp, gpz]
          refine wpAnyS_one (i := 8) (by decide +kernel) ?_
          simp [wpOpS, go_sem, gq, gqz]
          refine wpAnyS_one (i := 9) (by decide +kernel) ?_
          simp [wpOpS, go_sem, gr, grz]
          refine wpAnyS_done (by decide +kernel) ?_ _
          exact ⟨rfl, .returning, by rw [← hu], .tuple #[], results_none (by rfl) _ _ _, rfl, rfl, w1, (Ext.refl w).drew.trans hx, rfl⟩
        · simp [wpOpS, go_sem, gp, gpz]
          refine wpAnyS_two (i := 6) (j := 8) (by decide +kernel) ?_ ?_
          · simp [wpOpS, go_sem]
            refine wpAnyS_one (i := 8) (by decide +kernel) ?_
            simp [wpOpS, go_sem, gq, gqz]
            refine wpAnyS_one (i := 9) (by decide +kernel) ?_
            simp [wpOpS, go_sem, gr, grz]
            refine wpAnyS_done (by decide +kernel) ?_ _
            exact ⟨rfl, .returning, by rw [← hu], .tuple #[], results_none (by rfl) _ _ _, rfl, rfl, w1, (Ext.refl w).drew.trans hx, rfl⟩
          · simp [wpOpS, go_sem, gq, gqz]
            refine wpAnyS_one (i := 6) (by decide +kernel) ?_
            simp [wpOpS, go_sem]
            refine wpAnyS_one (i := 9) (by decide +kernel) ?_
            simp [wpOpS, go_sem, gr, grz]
            refine wpAnyS_done (by decide +kernel) ?_ _
            exact ⟨rfl, .returning, by rw [← hu], .tuple #[], results_none (by rfl) _ _ _, rfl, rfl, w1, (Ext.refl w).drew.trans hx, rfl⟩
      · simp [wpOpS, go_sem]
        refine wpAnyS_one (i := 4) (by decide +kernel) ?_
        simp [wpOpS, go_sem]
        refine wpAnyS_one (i := 7) (by decide +kernel) ?_
        simp [wpOpS, go_sem, gp, gpz]
        refine wpAnyS_one (i := 8) (by decide +kernel) ?_
        simp [wpOpS, go_sem, gq, gqz]
        refine wpAnyS_one (i := 9) (by decide +kernel) ?_
        simp [wpOpS, go_sem, gr, grz]
        refine wpAnyS_done (by decide +kernel) ?_ _
        exact ⟨rfl, .returning, by rw [← hu], .tuple #[], results_none (by rfl) _ _ _, rfl, rfl, w1, (Ext.refl w).drew.trans hx, rfl⟩
    · simp [wpOpS, go_sem]
      refine wpAnyS_two (i := 4) (j := 5) (by decide +kernel) ?_ ?_
      · simp [wpOpS, go_sem]
        refine wpAnyS_two (i := 5) (j := 7) (by decide +kernel) ?_ ?_
        · simp [wpOpS, go_sem]
          refine wpAnyS_one (i := 7) (by decide +kernel) ?_
          simp [wpOpS, go_sem, gp, gpz]
          refine wpAnyS_one (i := 8) (by decide +kernel) ?_
          simp [wpOpS, go_sem, gq, gqz]
          refine wpAnyS_one (i := 9) (by decide +kernel) ?_
          simp [wpOpS, go_sem, gr, grz]
          refine wpAnyS_done (by decide +kernel) ?_ _
          exact ⟨rfl, .returning, by rw [← hu], .tuple #[], results_none (by rfl) _ _ _, rfl, rfl, w1, (Ext.refl w).drew.trans hx, rfl⟩
        · simp [wpOpS, go_sem, gp, gpz]
          refine wpAnyS_one (i := 5) (by decide +kernel) ?_
          simp [wpOpS, go_sem]
          refine wpAnyS_one (i := 8) (by decide +kernel) ?_
          simp [wpOpS, go_sem, gq, gqz]
          refine wpAnyS_one (i := 9) (by decide +kernel) ?_
          simp [wpOpS, go_sem, gr, grz]
          refine wpAnyS_done (by decide +kernel) ?_ _
          exact ⟨rfl, .returning, by rw [← hu], .tuple #[], results_none (by rfl) _ _ _, rfl, rfl, w1, (Ext.refl w).drew.trans hx, rfl⟩
      · simp [wpOpS, go_sem]
        refine wpAnyS_one (i := 4) (by decide +kernel) ?_
        simp [wpOpS, go_sem]
        refine wpAnyS_one (i := 7) (by decide +kernel) ?_
        simp [wpOpS, go_sem, gp, gpz]
        refine wpAnyS_one (i := 8) (by decide +kernel) ?_
        simp [wpOpS, go_sem, gq, gqz]
        refine wpAnyS_one (i := 9) (by decide +kernel) ?_
        simp [wpOpS, go_sem, gr, grz]
        refine wpAnyS_done (by decide +kernel) ?_ _
        exact ⟨rfl, .returning, by rw [← hu], .tuple #[], results_none (by rfl) _ _ _, rfl, rfl, w1, (Ext.refl w).drew.trans hx, rfl⟩
  · simp [wpOpS, go_sem, hp, Tryz.ntmps40]
    refine wpAnyS_one (i := 0) (by decide +kernel) ?_
    simp [wpOpS, go_sem, recoverD, hu]
    refine wpAnyS_one (i := 2) (by decide +kernel) ?_
    simp [wpOpS, go_sem]
    refine (settleAt_nil _ _).mono ?_
    rintro e w1 ⟨rfl, hx⟩
    have gp : w1.cell? ⟨b, 0, none⟩ = some (.slice ao n m) := by rw [hx.cell b 0 (by simpa using hb0)]; simpa using hp
    have gq : w1.cell? ⟨b + 1, 0, none⟩ = some (.int .i64 y) := by rw [hx.cell (b + 1) 0 (by simpa using hb1)]; simpa using hq
    have gr : w1.cell? ⟨b + 2, 0, none⟩ = some (.int .i64 z) := by rw [hx.cell (b + 2) 0 (by simpa using hb2)]; simpa using hr
    have gpz : w1.frozen? ⟨b, 0, none⟩ = false := by rw [hx.froz b 0 (by simpa using hb0)]; simpa using hpz
    have gqz : w1.frozen? ⟨b + 1, 0, none⟩ = false := by rw [hx.froz (b + 1) 0 (by simpa using hb1)]; simpa using hqz
    have grz : w1.frozen? ⟨b + 2, 0, none⟩ = false := by rw [hx.froz (b + 2) 0 (by simpa using hb2)]; simpa using hrz
    refine wpAnyS_one (i := 3) (by decide +kernel) ?_
    simp [wpOpS, go_sem]
    refine wpAnyS_three (i := 4) (j := 5) (k := 6) (by decide +kernel) ?_ ?_ ?_
    · simp [wpOpS, go_sem]
      refine wpAnyS_three (i := 5) (j := 6) (k := 7) (by decide +kernel) ?_ ?_ ?_
      · simp [wpOpS, go_sem]
        refine wpAnyS_two (i := 6) (j := 7) (by decide +kernel) ?_ ?_
        · simp [wpOpS, go_sem]
          refine wpAnyS_one (i := 7) (by decide +kernel) ?_
          simp [wpOpS, go_sem, gp, gpz]
          refine wpAnyS_one (i := 8) (by decide +kernel) ?_
          simp [wpOpS, go_sem, gq, gqz]
          refine wpAnyS_one (i := 9) (by decide +kernel) ?_
          simp [wpOpS, go_sem, gr, grz]
          refine wpAnyS_done (by decide +kernel) ?_ _
          exact ⟨rfl, .returning, by rw [← hu], .tuple #[], results_none (by rfl) _ _ _, rfl, rfl, w1, (Ext.refl w).drew.trans hx, rfl⟩
        · simp [wpOpS, go_sem, gp, gpz]
          refine wpAnyS_two (i := 6) (j := 8) (by decide +kernel) ?_ ?_
          · simp [wpOpS, go_sem]
            refine wpAnyS_one (i := 8) (by decide +kernel) ?_
            simp [wpOpS, go_sem, gq, gqz]
            refine wpAnyS_one (i := 9) (by decide +kernel) ?_
            simp [wpOpS, go_sem, gr, grz]
            refine wpAnyS_done (by decide +kernel) ?_ _
            exact ⟨rfl, .returning, by rw [← hu], .tuple #[], results_none (by rfl) _ _ _, rfl, rfl, w1, (Ext.refl w).drew.trans hx, rfl⟩
          · simp [wpOpS, go_sem, gq, gqz]
            refine wpAnyS_one (i := 6) (by decide +kernel) ?_
            simp [wpOpS, go_sem]
            refine wpAnyS_one (i := 9) (by decide +kernel) ?_
            simp [wpOpS, go_sem, gr, grz]
            refine wpAnyS_done (by decide +kernel) ?_ _
            exact ⟨rfl, .returning, by rw [← hu], .tuple #[], results_none (by rfl) _ _ _, rfl, rfl, w1, (Ext.refl w).drew.trans hx, rfl⟩
      · simp [wpOpS, go_sem]
        refine wpAnyS_two (i := 5) (j := 7) (by decide +kernel) ?_ ?_
        · simp [wpOpS, go_sem]
          refine wpAnyS_one (i := 7) (by decide +kernel) ?_
          simp [wpOpS, go_sem, gp, gpz]
          refine wpAnyS_one (i := 8) (by decide +kernel) ?_
          simp [wpOpS, go_sem, gq, gqz]
          refine wpAnyS_one (i := 9) (by decide +kernel) ?_
          simp [wpOpS, go_sem, gr, grz]
          refine wpAnyS_done (by decide +kernel) ?_ _
          exact ⟨rfl, .returning, by rw [← hu], .tuple #[], results_none (by rfl) _ _ _, rfl, rfl, w1, (Ext.refl w).drew.trans hx, rfl⟩
        · simp [wpOpS, go_sem, gp, gpz]
          refine wpAnyS_one (i := 5) (by decide +kernel) ?_
          simp [wpOpS, go_sem]
          refine wpAnyS_one (i := 8) (by decide +kernel) ?_
          simp [wpOpS, go_sem, gq, gqz]
          refine wpAnyS_one (i := 9) (by decide +kernel) ?_
          simp [wpOpS, go_sem, gr, grz]
          refine wpAnyS_done (by decide +kernel) ?_ _
          exact ⟨rfl, .returning, by rw [← hu], .tuple #[], results_none (by rfl) _ _ _, rfl, rfl, w1, (Ext.refl w).drew.trans hx, rfl⟩
      · simp [wpOpS, go_sem, gp, gpz]
        refine wpAnyS_two (i := 5) (j := 6) (by decide +kernel) ?_ ?_
        · simp [wpOpS, go_sem]
          refine wpAnyS_two (i := 6) (j := 8) (by decide +kernel) ?_ ?_
          · simp [wpOpS, go_sem]
            refine wpAnyS_one (i := 8) (by decide +kernel) ?_
            simp [wpOpS, go_sem, gq, gqz]
            refine wpAnyS_one (i := 9) (by decide +kernel) ?_
            simp [wpOpS, go_sem, gr, grz]
            refine wpAnyS_done (by decide +kernel) ?_ _
            exact ⟨rfl, .returning, by rw [← hu], .tuple #[], results_none (by rfl) _ _ _, rfl, rfl, w1, (Ext.refl w).drew.trans hx, rfl⟩
          · simp [wpOpS, go_sem, gq, gqz]
            refine wpAnyS_one (i := 6) (by decide +kernel) ?_
            simp [wpOpS, go_sem]
            refine wpAnyS_one (i := 9) (by decide +kernel) ?_
            simp [wpOpS, go_sem, gr, grz]
            refine wpAnyS_done (by decide +kernel) ?_ _
            exact ⟨rfl, .returning, by rw [← hu], .tuple #[], results_none (by rfl) _ _ _, rfl, rfl, w1, (Ext.refl w).drew.trans hx, rfl⟩
        · simp [wpOpS, go_sem]
          refine wpAnyS_one (i := 5) (by decide +kernel) ?_
          simp [wpOpS, go_sem]
          refine wpAnyS_one (i := 8) (by decide +kernel) ?_
          simp [wpOpS, go_sem, gq, gqz]
          refine wpAnyS_one (i := 9) (by decide +kernel) ?_
          simp [wpOpS, go_sem, gr, grz]
          refine wpAnyS_done (by decide +kernel) ?_ _
          exact ⟨rfl, .returning, by rw [← hu], .tuple #[], results_none (by rfl) _ _ _, rfl, rfl, w1, (Ext.refl w).drew.trans hx, rfl⟩
    · simp [wpOpS, go_sem]
      refine wpAnyS_two (i := 4) (j := 6) (by decide +kernel) ?_ ?_
      · simp [wpOpS, go_sem]
        refine wpAnyS_two (i := 6) (j := 7) (by decide +kernel) ?_ ?_
        · simp [wpOpS, go_sem]
          refine wpAnyS_one (i := 7) (by decide +kernel) ?_
          simp [wpOpS, go_sem, gp, gpz]
          refine wpAnyS_one (i := 8) (by decide +kernel) ?_
          simp [wpOpS, go_sem, gq, gqz]
          refine wpAnyS_one (i := 9) (by decide +kernel) ?_
          simp [wpOpS, go_sem, gr, grz]
          refine wpAnyS_done (by decide +kernel) ?_ _
          exact ⟨rfl, .returning, by rw [← hu], .tuple #[], results_none (by rfl) _ _ _, rfl, rfl, w1, (Ext.refl w).drew.trans hx, rfl⟩
        · simp [wpOpS, go_sem, gp, gpz]
          refine wpAnyS_two (i := 6) (j := 8) (by decide +kernel) ?_ ?_
          · simp [wpOpS, go_sem]
            refine wpAnyS_one (i := 8) (by decide +kernel) ?_
            simp [wpOpS, go_sem, gq, gqz]
            refine wpAnyS_one (i := 9) (by decide +kernel) ?_
            simp [wpOpS, go_sem, gr, grz]
            refine wpAnyS_done (by decide +kernel) ?_ _
            exact ⟨rfl, .returning, by rw [← hu], .tuple #[], results_none (by rfl) _ _ _, rfl, rfl, w1, (Ext.refl w).drew.trans hx, rfl⟩
          · simp [wpOpS, go_sem, gq, gqz]
            refine wpAnyS_one (i := 6) (by decide +kernel) ?_
            simp [wpOpS, go_sem]
            refine wpAnyS_one (i := 9) (by decide +kernel) ?_
            simp [wpOpS, go_sem, gr, grz]
            refine wpAnyS_done (by decide +kernel) ?_ _
            exact ⟨rfl, .returning, by rw [← hu], .tuple #[], results_none (by rfl) _ _ _, rfl, rfl, w1, (Ext.refl w).drew.trans hx, rfl⟩
      · simp [wpOpS, go_sem]
        refine wpAnyS_one (i := 4) (by decide +kernel) ?_
        simp [wpOpS, go_sem]
        refine wpAnyS_one (i := 7) (by decide +kernel) ?_
        simp [wpOpS, go_sem, gp, gpz]
        refine wpAnyS_one (i := 8) (by decide +kernel) ?_
        simp [wpOpS, go_sem, gq, gqz]
        refine wpAnyS_one (i := 9) (by decide +kernel) ?_
        simp [wpOpS, go_sem, gr, grz]
        refine wpAnyS_done (by decide +kernel) ?_ _
        exact ⟨rfl, .returning, by rw [← hu], .tuple #[], results_none (by rfl) _ _ _, rfl, rfl, w1, (Ext.refl w).drew.trans hx, rfl⟩
    · simp [wpOpS, go_sem]
      refine wpAnyS_two (i := 4) (j := 5) (by decide +kernel) ?_ ?_
      · simp [wpOpS, go_sem]
        refine wpAnyS_two (i := 5) (j := 7) (by decide +kernel) ?_ ?_
        · simp [wpOpS, go_sem]
          refine wpAnyS_one (i := 7) (by decide +kernel) ?_
          simp [wpOpS, go_sem, gp, gpz]
          refine wpAnyS_one (i := 8) (by decide +kernel) ?_
          simp [wpOpS, go_sem, gq, gqz]
          refine wpAnyS_one (i := 9) (by decide +kernel) ?_
          simp [wpOpS, go_sem, gr, grz]
          refine wpAnyS_done (by decide +kernel) ?_ _
          exact ⟨rfl, .returning, by rw [← hu], .tuple #[], results_none (by rfl) _ _ _, rfl, rfl, w1, (Ext.refl w).drew.trans hx, rfl⟩
        · simp [wpOpS, go_sem, gp, gpz]
          refine wpAnyS_one (i := 5) (by decide +kernel) ?_
          simp [wpOpS, go_sem]
          refine wpAnyS_one (i := 8) (by decide +kernel) ?_
          simp [wpOpS, go_sem, gq, gqz]
          refine wpAnyS_one (i := 9) (by decide +kernel) ?_
          simp [wpOpS, go_sem, gr, grz]
          refine wpAnyS_done (by decide +kernel) ?_ _
          exact ⟨rfl, .returning, by rw [← hu], .tuple #[], results_none (by rfl) _ _ _, rfl, rfl, w1, (Ext.refl w).drew.trans hx, rfl⟩
      · simp [wpOpS, go_sem]
        refine wpAnyS_one (i := 4) (by decide +kernel) ?_
        simp [wpOpS, go_sem]
        refine wpAnyS_one (i := 7) (by decide +kernel) ?_
        simp [wpOpS, go_sem, gp, gpz]
        refine wpAnyS_one (i := 8) (by decide +kernel) ?_
        simp [wpOpS, go_sem, gq, gqz]
        refine wpAnyS_one (i := 9) (by decide +kernel) ?_
        simp [wpOpS, go_sem, gr, grz]
        refine wpAnyS_done (by decide +kernel) ?_ _
        exact ⟨rfl, .returning, by rw [← hu], .tuple #[], results_none (by rfl) _ _ _, rfl, rfl, w1, (Ext.refl w).drew.trans hx, rfl⟩
set_option maxHeartbeats 2000000 in
theorem all_placed (b : Nat) (V : Value) (c k : Int) (older : List PanicEntry) (y z : Int) (w : World) (hp : w.cell? ⟨b, 0, none⟩ = some V) (h1 : Slc1 V) (hq : w.cell? ⟨b + 1, 0, none⟩ = some (.int .i64 y)) (hr : w.cell? ⟨b + 2, 0, none⟩ = some (.int .i64 z)) (hpz : w.frozen? ⟨b, 0, none⟩ = false) (hqz : w.frozen? ⟨b + 1, 0, none⟩ = false) (hrz : w.frozen? ⟨b + 2, 0, none⟩ = false) :
    CallsD Tryz.prog 40 #[.pointer (some ⟨b, 0, none⟩), .pointer (some ⟨b + 1, 0, none⟩), .pointer (some ⟨b + 2, 0, none⟩)] (.panicking ({ v := .iface 85 (.agg #[.int .i64 c, .int .i64 k]), recovered := false } :: older)) w fun e u' w' => e = .returned (.tuple #[]) ∧ u' = .panicking ({ v := .iface 85 (.agg #[.int .i64 c, .int .i64 k]), recovered := true } :: older) ∧ ∃ w1, Ext w w1 ∧ w' = (((w1.setCell ⟨b, 0, none⟩ (.slice none 0 0)).setCell ⟨b + 1, 0, none⟩ (.int .i64 k)).setCell ⟨b + 2, 0, none⟩ (.int .i64 c)) := by
  obtain ⟨ao, n, m, rfl⟩ := h1
  have hb0 := lt_of_cell hp
  have hb1 := lt_of_cell hq
  have hb2 := lt_of_cell hr
  refine callsD_of_wpS Tryz.func40 rfl fun c₀ cs hu => ?_
  refine wpS_region_any 10 rfl (by kernel_rfl) ?_
  refine wpAnyS_two (i := 0) (j := 1) (by decide +kernel) ?_ ?_
  · simp [wpOpS, go_sem, recoverD, hu, Tryz.ntmps40]
    refine wpAnyS_one (i := 1) (by decide +kernel) ?_
    simp [wpOpS, go_sem, hp]
    refine wpAnyS_one (i := 2) (by decide +kernel) ?_
    simp [wpOpS, go_sem]
    refine (settleAt_placed _ _ _ _).mono ?_
    rintro e w1 ⟨rfl, hx⟩
    have gp : w1.cell? ⟨b, 0, none⟩ = some (.slice ao n m) := by rw [hx.cell b 0 (by simpa using hb0)]; simpa using hp
    have gq : w1.cell? ⟨b + 1, 0, none⟩ = some (.int .i64 y) := by rw [hx.cell (b + 1) 0 (by simpa using hb1)]; simpa using hq
    have gr : w1.cell? ⟨b + 2, 0, none⟩ = some (.int .i64 z) := by rw [hx.cell (b + 2) 0 (by simpa using hb2)]; simpa using hr
    have gpz : w1.frozen? ⟨b, 0, none⟩ = false := by rw [hx.froz b 0 (by simpa using hb0)]; simpa using hpz
    have gqz : w1.frozen? ⟨b + 1, 0, none⟩ = false := by rw [hx.froz (b + 1) 0 (by simpa using hb1)]; simpa using hqz
    have grz : w1.frozen? ⟨b + 2, 0, none⟩ = false := by rw [hx.froz (b + 2) 0 (by simpa using hb2)]; simpa using hrz
    refine wpAnyS_one (i := 3) (by decide +kernel) ?_
    simp [wpOpS, go_sem]
    refine wpAnyS_three (i := 4) (j := 5) (k := 6) (by decide +kernel) ?_ ?_ ?_
    · simp [wpOpS, go_sem]
      refine wpAnyS_three (i := 5) (j := 6) (k := 7) (by decide +kernel) ?_ ?_ ?_
      · simp [wpOpS, go_sem]
        refine wpAnyS_two (i := 6) (j := 7) (by decide +kernel) ?_ ?_
        · simp [wpOpS, go_sem]
          refine wpAnyS_one (i := 7) (by decide +kernel) ?_
          simp [wpOpS, go_sem, gp, gpz]
          refine wpAnyS_one (i := 8) (by decide +kernel) ?_
          simp [wpOpS, go_sem, gq, gqz]
          refine wpAnyS_one (i := 9) (by decide +kernel) ?_
          simp [wpOpS, go_sem, gr, grz]
          refine wpAnyS_done (by decide +kernel) ?_ _
          exact ⟨rfl, _, rfl, .tuple #[], results_none (by rfl) _ _ _, rfl, rfl, w1, (Ext.refl w).drew.trans hx, rfl⟩
        · simp [wpOpS, go_sem, gp, gpz]
          refine wpAnyS_two (i := 6) (j := 8) (by decide +kernel) ?_ ?_
          · simp [wpOpS, go_sem]
            refine wpAnyS_one (i := 8) (by decide +kernel) ?_
            simp [wpOpS, go_sem, gq, gqz]
            refine wpAnyS_one (i := 9) (by decide +kernel) ?_
            simp [wpOpS, go_sem, gr, grz]
            refine wpAnyS_done (by decide +kernel) ?_ _
            exact ⟨rfl, _, rfl, .tuple #[], results_none (by rfl) _ _ _, rfl, rfl, w1, (Ext.refl w).drew.trans hx, rfl⟩
          · simp [wpOpS, go_sem, gq, gqz]
            refine wpAnyS_one (i := 6) (by decide +kernel) ?_
            simp [wpOpS, go_sem]
            refine wpAnyS_one (i := 9) (by decide +kernel) ?_
            simp [wpOpS, go_sem, gr, grz]
            refine wpAnyS_done (by decide +kernel) ?_ _
            exact ⟨rfl, _, rfl, .tuple #[], results_none (by rfl) _ _ _, rfl, rfl, w1, (Ext.refl w).drew.trans hx, rfl⟩
      · simp [wpOpS, go_sem]
        refine wpAnyS_two (i := 5) (j := 7) (by decide +kernel) ?_ ?_
        · simp [wpOpS, go_sem]
          refine wpAnyS_one (i := 7) (by decide +kernel) ?_
          simp [wpOpS, go_sem, gp, gpz]
          refine wpAnyS_one (i := 8) (by decide +kernel) ?_
          simp [wpOpS, go_sem, gq, gqz]
          refine wpAnyS_one (i := 9) (by decide +kernel) ?_
          simp [wpOpS, go_sem, gr, grz]
          refine wpAnyS_done (by decide +kernel) ?_ _
          exact ⟨rfl, _, rfl, .tuple #[], results_none (by rfl) _ _ _, rfl, rfl, w1, (Ext.refl w).drew.trans hx, rfl⟩
        · simp [wpOpS, go_sem, gp, gpz]
          refine wpAnyS_one (i := 5) (by decide +kernel) ?_
          simp [wpOpS, go_sem]
          refine wpAnyS_one (i := 8) (by decide +kernel) ?_
          simp [wpOpS, go_sem, gq, gqz]
          refine wpAnyS_one (i := 9) (by decide +kernel) ?_
          simp [wpOpS, go_sem, gr, grz]
          refine wpAnyS_done (by decide +kernel) ?_ _
          exact ⟨rfl, _, rfl, .tuple #[], results_none (by rfl) _ _ _, rfl, rfl, w1, (Ext.refl w).drew.trans hx, rfl⟩
      · simp [wpOpS, go_sem, gp, gpz]
        refine wpAnyS_two (i := 5) (j := 6) (by decide +kernel) ?_ ?_
        · simp [wpOpS, go_sem]
          refine wpAnyS_two (i := 6) (j := 8) (by decide +kernel) ?_ ?_
          · simp [wpOpS, go_sem]
            refine wpAnyS_one (i := 8) (by decide +kernel) ?_
            simp [wpOpS, go_sem, gq, gqz]
            refine wpAnyS_one (i := 9) (by decide +kernel) ?_
            simp [wpOpS, go_sem, gr, grz]
            refine wpAnyS_done (by decide +kernel) ?_ _
            exact ⟨rfl, _, rfl, .tuple #[], results_none (by rfl) _ _ _, rfl, rfl, w1, (Ext.refl w).drew.trans hx, rfl⟩
          · simp [wpOpS, go_sem, gq, gqz]
            refine wpAnyS_one (i := 6) (by decide +kernel) ?_
            simp [wpOpS, go_sem]
            refine wpAnyS_one (i := 9) (by decide +kernel) ?_
            simp [wpOpS, go_sem, gr, grz]
            refine wpAnyS_done (by decide +kernel) ?_ _
            exact ⟨rfl, _, rfl, .tuple #[], results_none (by rfl) _ _ _, rfl, rfl, w1, (Ext.refl w).drew.trans hx, rfl⟩
        · simp [wpOpS, go_sem]
          refine wpAnyS_one (i := 5) (by decide +kernel) ?_
          simp [wpOpS, go_sem]
          refine wpAnyS_one (i := 8) (by decide +kernel) ?_
          simp [wpOpS, go_sem, gq, gqz]
          refine wpAnyS_one (i := 9) (by decide +kernel) ?_
          simp [wpOpS, go_sem, gr, grz]
          refine wpAnyS_done (by decide +kernel) ?_ _
          exact ⟨rfl, _, rfl, .tuple #[], results_none (by rfl) _ _ _, rfl, rfl, w1, (Ext.refl w).drew.trans hx, rfl⟩
    · simp [wpOpS, go_sem]
      refine wpAnyS_two (i := 4) (j := 6) (by decide +kernel) ?_ ?_
      · simp [wpOpS, go_sem]
        refine wpAnyS_two (i := 6) (j := 7) (by decide +kernel) ?_ ?_
        · simp [wpOpS, go_sem]
          refine wpAnyS_one (i := 7) (by decide +kernel) ?_
          simp [wpOpS, go_sem, gp, gpz]
          refine wpAnyS_one (i := 8) (by decide +kernel) ?_
          simp [wpOpS, go_sem, gq, gqz]
          refine wpAnyS_one (i := 9) (by decide +kernel) ?_
          simp [wpOpS, go_sem, gr, grz]
          refine wpAnyS_done (by decide +kernel) ?_ _
          exact ⟨rfl, _, rfl, .tuple #[], results_none (by rfl) _ _ _, rfl, rfl, w1, (Ext.refl w).drew.trans hx, rfl⟩
        · simp [wpOpS, go_sem, gp, gpz]
          refine wpAnyS_two (i := 6) (j := 8) (by decide +kernel) ?_ ?_
          · simp [wpOpS, go_sem]
            refine wpAnyS_one (i := 8) (by decide +kernel) ?_
            simp [wpOpS, go_sem, gq, gqz]
            refine wpAnyS_one (i := 9) (by decide +kernel) ?_
            simp [wpOpS, go_sem, gr, grz]
            refine wpAnyS_done (by decide +kernel) ?_ _
            exact ⟨rfl, _, rfl, .tuple #[], results_none (by rfl) _ _ _, rfl, rfl, w1, (Ext.refl w).drew.trans hx, rfl⟩
          · simp [wpOpS, go_sem, gq, gqz]
            refine wpAnyS_one (i := 6) (by decide +kernel) ?_
            simp [wpOpS, go_sem]
            refine wpAnyS_one (i := 9) (by decide +kernel) ?_
            simp [wpOpS, go_sem, gr, grz]
            refine wpAnyS_done (by decide +kernel) ?_ _
            exact ⟨rfl, _, rfl, .tuple #[], results_none (by rfl) _ _ _, rfl, rfl, w1, (Ext.refl w).drew.trans hx, rfl⟩
      · simp [wpOpS, go_sem]
        refine wpAnyS_one (i := 4) (by decide +kernel) ?_
        simp [wpOpS, go_sem]
        refine wpAnyS_one (i := 7) (by decide +kernel) ?_
        simp [wpOpS, go_sem, gp, gpz]
        refine wpAnyS_one (i := 8) (by decide +kernel) ?_
        simp [wpOpS, go_sem, gq, gqz]
        refine wpAnyS_one (i := 9) (by decide +kernel) ?_
        simp [wpOpS, go_sem, gr, grz]
        refine wpAnyS_done (by decide +kernel) ?_ _
        exact ⟨rfl, _, rfl, .tuple #[], results_none (by rfl) _ _ _, rfl, rfl, w1, (Ext.refl w).drew.trans hx, rfl⟩
    · simp [wpOpS, go_sem]
      refine wpAnyS_two (i := 4) (j := 5) (by decide +kernel) ?_ ?_
      · simp [wpOpS, go_sem]
        refine wpAnyS_two (i := 5) (j := 7) (by decide +kernel) ?_ ?_
        · simp [wpOpS, go_sem]
          refine wpAnyS_one (i := 7) (by decide +kernel) ?_
          simp [wpOpS, go_sem, gp, gpz]
          refine wpAnyS_one (i := 8) (by decide +kernel) ?_
          simp [wpOpS, go_sem, gq, gqz]
          refine wpAnyS_one (i := 9) (by decide +kernel) ?_
          simp [wpOpS, go_sem, gr, grz]
          refine wpAnyS_done (by decide +kernel) ?_ _
          exact ⟨rfl, _, rfl, .tuple #[], results_none (by rfl) _ _ _, rfl, rfl, w1, (Ext.refl w).drew.trans hx, rfl⟩
        · simp [wpOpS, go_sem, gp, gpz]
          refine wpAnyS_one (i := 5) (by decide +kernel) ?_
          simp [wpOpS, go_sem]
          refine wpAnyS_one (i := 8) (by decide +kernel) ?_
          simp [wpOpS, go_sem, gq, gqz]
          refine wpAnyS_one (i := 9) (by decide +kernel) ?_
          simp [wpOpS, go_sem, gr, grz]
          refine wpAnyS_done (by decide +kernel) ?_ _
          exact ⟨rfl, _, rfl, .tuple #[], results_none (by rfl) _ _ _, rfl, rfl, w1, (Ext.refl w).drew.trans hx, rfl⟩
      · simp [wpOpS, go_sem]
        refine wpAnyS_one (i := 4) (by decide +kernel) ?_
        simp [wpOpS, go_sem]
        refine wpAnyS_one (i := 7) (by decide +kernel) ?_
        simp [wpOpS, go_sem, gp, gpz]
        refine wpAnyS_one (i := 8) (by decide +kernel) ?_
        simp [wpOpS, go_sem, gq, gqz]
        refine wpAnyS_one (i := 9) (by decide +kernel) ?_
        simp [wpOpS, go_sem, gr, grz]
        refine wpAnyS_done (by decide +kernel) ?_ _
        exact ⟨rfl, _, rfl, .tuple #[], results_none (by rfl) _ _ _, rfl, rfl, w1, (Ext.refl w).drew.trans hx, rfl⟩
  · simp [wpOpS, go_sem, hp, Tryz.ntmps40]
    refine wpAnyS_one (i := 0) (by decide +kernel) ?_
    simp [wpOpS, go_sem, recoverD, hu]
    refine wpAnyS_one (i := 2) (by decide +kernel) ?_
    simp [wpOpS, go_sem]
    refine (settleAt_placed _ _ _ _).mono ?_
    rintro e w1 ⟨rfl, hx⟩
    have gp : w1.cell? ⟨b, 0, none⟩ = some (.slice ao n m) := by rw [hx.cell b 0 (by simpa using hb0)]; simpa using hp
    have gq : w1.cell? ⟨b + 1, 0, none⟩ = some (.int .i64 y) := by rw [hx.cell (b + 1) 0 (by simpa using hb1)]; simpa using hq
    have gr : w1.cell? ⟨b + 2, 0, none⟩ = some (.int .i64 z) := by rw [hx.cell (b + 2) 0 (by simpa using hb2)]; simpa using hr
    have gpz : w1.frozen? ⟨b, 0, none⟩ = false := by rw [hx.froz b 0 (by simpa using hb0)]; simpa using hpz
    have gqz : w1.frozen? ⟨b + 1, 0, none⟩ = false := by rw [hx.froz (b + 1) 0 (by simpa using hb1)]; simpa using hqz
    have grz : w1.frozen? ⟨b + 2, 0, none⟩ = false := by rw [hx.froz (b + 2) 0 (by simpa using hb2)]; simpa using hrz
    refine wpAnyS_one (i := 3) (by decide +kernel) ?_
    simp [wpOpS, go_sem]
    refine wpAnyS_three (i := 4) (j := 5) (k := 6) (by decide +kernel) ?_ ?_ ?_
    · simp [wpOpS, go_sem]
      refine wpAnyS_three (i := 5) (j := 6) (k := 7) (by decide +kernel) ?_ ?_ ?_
      · simp [wpOpS, go_sem]
        refine wpAnyS_two (i := 6) (j := 7) (by decide +kernel) ?_ ?_
        · simp [wpOpS, go_sem]
          refine wpAnyS_one (i := 7) (by decide +kernel) ?_
          simp [wpOpS, go_sem, gp, gpz]
          refine wpAnyS_one (i := 8) (by decide +kernel) ?_
          simp [wpOpS, go_sem, gq, gqz]
          refine wpAnyS_one (i := 9) (by decide +kernel) ?_
          simp [wpOpS, go_sem, gr, grz]
          refine wpAnyS_done (by decide +kernel) ?_ _
          exact ⟨rfl, _, rfl, .tuple #[], results_none (by rfl) _ _ _, rfl, rfl, w1, (Ext.refl w).drew.trans hx, rfl⟩
        · simp [wpOpS, go_sem, gp, gpz]
          refine wpAnyS_two (i := 6) (j := 8) (by decide +kernel) ?_ ?_
          · simp [wpOpS, go_sem]
            refine wpAnyS_one (i := 8) (by decide +kernel) ?_
            simp [wpOpS, go_sem, gq, gqz]
            refine wpAnyS_one (i := 9) (by decide +kernel) ?_
            simp [wpOpS, go_sem, gr, grz]
            refine wpAnyS_done (by decide +kernel) ?_ _
            exact ⟨rfl, _, rfl, .tuple #[], results_none (by rfl) _ _ _, rfl, rfl, w1, (Ext.refl w).drew.trans hx, rfl⟩
          · simp [wpOpS, go_sem, gq, gqz]
            refine wpAnyS_one (i := 6) (by decide +kernel) ?_
            simp [wpOpS, go_sem]
            refine wpAnyS_one (i := 9) (by decide +kernel) ?_
            simp [wpOpS, go_sem, gr, grz]
            refine wpAnyS_done (by decide +kernel) ?_ _
            exact ⟨rfl, _, rfl, .tuple #[], results_none (by rfl) _ _ _, rfl, rfl, w1, (Ext.refl w).drew.trans hx, rfl⟩
      · simp [wpOpS, go_sem]
        refine wpAnyS_two (i := 5) (j := 7) (by decide +kernel) ?_ ?_
        · simp [wpOpS, go_sem]
          refine wpAnyS_one (i := 7) (by decide +kernel) ?_
          simp [wpOpS, go_sem, gp, gpz]
          refine wpAnyS_one (i := 8) (by decide +kernel) ?_
          simp [wpOpS, go_sem, gq, gqz]
          refine wpAnyS_one (i := 9) (by decide +kernel) ?_
          simp [wpOpS, go_sem, gr, grz]
          refine wpAnyS_done (by decide +kernel) ?_ _
          exact ⟨rfl, _, rfl, .tuple #[], results_none (by rfl) _ _ _, rfl, rfl, w1, (Ext.refl w).drew.trans hx, rfl⟩
        · simp [wpOpS, go_sem, gp, gpz]
          refine wpAnyS_one (i := 5) (by decide +kernel) ?_
          simp [wpOpS, go_sem]
          refine wpAnyS_one (i := 8) (by decide +kernel) ?_
          simp [wpOpS, go_sem, gq, gqz]
          refine wpAnyS_one (i := 9) (by decide +kernel) ?_
          simp [wpOpS, go_sem, gr, grz]
          refine wpAnyS_done (by decide +kernel) ?_ _
          exact ⟨rfl, _, rfl, .tuple #[], results_none (by rfl) _ _ _, rfl, rfl, w1, (Ext.refl w).drew.trans hx, rfl⟩
      · simp [wpOpS, go_sem, gp, gpz]
        refine wpAnyS_two (i := 5) (j := 6) (by decide +kernel) ?_ ?_
        · simp [wpOpS, go_sem]
          refine wpAnyS_two (i := 6) (j := 8) (by decide +kernel) ?_ ?_
          · simp [wpOpS, go_sem]
            refine wpAnyS_one (i := 8) (by decide +kernel) ?_
            simp [wpOpS, go_sem, gq, gqz]
            refine wpAnyS_one (i := 9) (by decide +kernel) ?_
            simp [wpOpS, go_sem, gr, grz]
            refine wpAnyS_done (by decide +kernel) ?_ _
            exact ⟨rfl, _, rfl, .tuple #[], results_none (by rfl) _ _ _, rfl, rfl, w1, (Ext.refl w).drew.trans hx, rfl⟩
          · simp [wpOpS, go_sem, gq, gqz]
            refine wpAnyS_one (i := 6) (by decide +kernel) ?_
            simp [wpOpS, go_sem]
            refine wpAnyS_one (i := 9) (by decide +kernel) ?_
            simp [wpOpS, go_sem, gr, grz]
            refine wpAnyS_done (by decide +kernel) ?_ _
            exact ⟨rfl, _, rfl, .tuple #[], results_none (by rfl) _ _ _, rfl, rfl, w1, (Ext.refl w).drew.trans hx, rfl⟩
        · simp [wpOpS, go_sem]
          refine wpAnyS_one (i := 5) (by decide +kernel) ?_
          simp [wpOpS, go_sem]
          refine wpAnyS_one (i := 8) (by decide +kernel) ?_
          simp [wpOpS, go_sem, gq, gqz]
          refine wpAnyS_one (i := 9) (by decide +kernel) ?_
          simp [wpOpS, go_sem, gr, grz]
          refine wpAnyS_done (by decide +kernel) ?_ _
          exact ⟨rfl, _, rfl, .tuple #[], results_none (by rfl) _ _ _, rfl, rfl, w1, (Ext.refl w).drew.trans hx, rfl⟩
    · simp [wpOpS, go_sem]
      refine wpAnyS_two (i := 4) (j := 6) (by decide +kernel) ?_ ?_
      · simp [wpOpS, go_sem]
        refine wpAnyS_two (i := 6) (j := 7) (by decide +kernel) ?_ ?_
        · simp [wpOpS, go_sem]
          refine wpAnyS_one (i := 7) (by decide +kernel) ?_
          simp [wpOpS, go_sem, gp, gpz]
          refine wpAnyS_one (i := 8) (by decide +kernel) ?_
          simp [wpOpS, go_sem, gq, gqz]
          refine wpAnyS_one (i := 9) (by decide +kernel) ?_
          simp [wpOpS, go_sem, gr, grz]
          refine wpAnyS_done (by decide +kernel) ?_ _
          exact ⟨rfl, _, rfl, .tuple #[], results_none (by rfl) _ _ _, rfl, rfl, w1, (Ext.refl w).drew.trans hx, rfl⟩
        · simp [wpOpS, go_sem, gp, gpz]
          refine wpAnyS_two (i := 6) (j := 8) (by decide +kernel) ?_ ?_
          · simp [wpOpS, go_sem]
            refine wpAnyS_one (i := 8) (by decide +kernel) ?_
            simp [wpOpS, go_sem, gq, gqz]
            refine wpAnyS_one (i := 9) (by decide +kernel) ?_
            simp [wpOpS, go_sem, gr, grz]
            refine wpAnyS_done (by decide +kernel) ?_ _
            exact ⟨rfl, _, rfl, .tuple #[], results_none (by rfl) _ _ _, rfl, rfl, w1, (Ext.refl w).drew.trans hx, rfl⟩
          · simp [wpOpS, go_sem, gq, gqz]
            refine wpAnyS_one (i := 6) (by decide +kernel) ?_
            simp [wpOpS, go_sem]
            refine wpAnyS_one (i := 9) (by decide +kernel) ?_
            simp [wpOpS, go_sem, gr, grz]
            refine wpAnyS_done (by decide +kernel) ?_ _
            exact ⟨rfl, _, rfl, .tuple #[], results_none (by rfl) _ _ _, rfl, rfl, w1, (Ext.refl w).drew.trans hx, rfl⟩
      · simp [wpOpS, go_sem]
        refine wpAnyS_one (i := 4) (by decide +kernel) ?_
        simp [wpOpS, go_sem]
        refine wpAnyS_one (i := 7) (by decide +kernel) ?_
        simp [wpOpS, go_sem, gp, gpz]
        refine wpAnyS_one (i := 8) (by decide +kernel) ?_
        simp [wpOpS, go_sem, gq, gqz]
        refine wpAnyS_one (i := 9) (by decide +kernel) ?_
        simp [wpOpS, go_sem, gr, grz]
        refine wpAnyS_done (by decide +kernel) ?_ _
        exact ⟨rfl, _, rfl, .tuple #[], results_none (by rfl) _ _ _, rfl, rfl, w1, (Ext.refl w).drew.trans hx, rfl⟩
    · simp [wpOpS, go_sem]
      refine wpAnyS_two (i := 4) (j := 5) (by decide +kernel) ?_ ?_
      · simp [wpOpS, go_sem]
        refine wpAnyS_two (i := 5) (j := 7) (by decide +kernel) ?_ ?_
        · simp [wpOpS, go_sem]
          refine wpAnyS_one (i := 7) (by decide +kernel) ?_
          simp [wpOpS, go_sem, gp, gpz]
          refine wpAnyS_one (i := 8) (by decide +kernel) ?_
          simp [wpOpS, go_sem, gq, gqz]
          refine wpAnyS_one (i := 9) (by decide +kernel) ?_
          simp [wpOpS, go_sem, gr, grz]
          refine wpAnyS_done (by decide +kernel) ?_ _
          exact ⟨rfl, _, rfl, .tuple #[], results_none (by rfl) _ _ _, rfl, rfl, w1, (Ext.refl w).drew.trans hx, rfl⟩
        · simp [wpOpS, go_sem, gp, gpz]
          refine wpAnyS_one (i := 5) (by decide +kernel) ?_
          simp [wpOpS, go_sem]
          refine wpAnyS_one (i := 8) (by decide +kernel) ?_
          simp [wpOpS, go_sem, gq, gqz]
          refine wpAnyS_one (i := 9) (by decide +kernel) ?_
          simp [wpOpS, go_sem, gr, grz]
          refine wpAnyS_done (by decide +kernel) ?_ _
          exact ⟨rfl, _, rfl, .tuple #[], results_none (by rfl) _ _ _, rfl, rfl, w1, (Ext.refl w).drew.trans hx, rfl⟩
      · simp [wpOpS, go_sem]
        refine wpAnyS_one (i := 4) (by decide +kernel) ?_
        simp [wpOpS, go_sem]
        refine wpAnyS_one (i := 7) (by decide +kernel) ?_
        simp [wpOpS, go_sem, gp, gpz]
        refine wpAnyS_one (i := 8) (by decide +kernel) ?_
        simp [wpOpS, go_sem, gq, gqz]
        refine wpAnyS_one (i := 9) (by decide +kernel) ?_
        simp [wpOpS, go_sem, gr, grz]
        refine wpAnyS_done (by decide +kernel) ?_ _
        exact ⟨rfl, _, rfl, .tuple #[], results_none (by rfl) _ _ _, rfl, rfl, w1, (Ext.refl w).drew.trans hx, rfl⟩
set_option maxHeartbeats 2000000 in
theorem all_errno (b : Nat) (V : Value) (c : Int) (older : List PanicEntry) (y z : Int) (w : World) (hp : w.cell? ⟨b, 0, none⟩ = some V) (h1 : Slc1 V) (hq : w.cell? ⟨b + 1, 0, none⟩ = some (.int .i64 y)) (hr : w.cell? ⟨b + 2, 0, none⟩ = some (.int .i64 z)) (hpz : w.frozen? ⟨b, 0, none⟩ = false) (hqz : w.frozen? ⟨b + 1, 0, none⟩ = false) (hrz : w.frozen? ⟨b + 2, 0, none⟩ = false) :
    CallsD Tryz.prog 40 #[.pointer (some ⟨b, 0, none⟩), .pointer (some ⟨b + 1, 0, none⟩), .pointer (some ⟨b + 2, 0, none⟩)] (.panicking ({ v := .iface 29 (.int .i64 c), recovered := false } :: older)) w fun e u' w' => e = .returned (.tuple #[]) ∧ u' = .panicking ({ v := .iface 29 (.int .i64 c), recovered := true } :: older) ∧ ∃ w1, Ext w w1 ∧ w' = (((w1.setCell ⟨b, 0, none⟩ (.slice none 0 0)).setCell ⟨b + 1, 0, none⟩ (.int .i64 0)).setCell ⟨b + 2, 0, none⟩ (.int .i64 c)) := by
  obtain ⟨ao, n, m, rfl⟩ := h1
  have hb0 := lt_of_cell hp
  have hb1 := lt_of_cell hq
  have hb2 := lt_of_cell hr
  refine callsD_of_wpS Tryz.func40 rfl fun c₀ cs hu => ?_
  refine wpS_region_any 10 rfl (by kernel_rfl) ?_
  refine wpAnyS_two (i := 0) (j := 1) (by decide +kernel) ?_ ?_
  · simp [wpOpS, go_sem, recoverD, hu, Tryz.ntmps40]
    refine wpAnyS_one (i := 1) (by decide +kernel) ?_
    simp [wpOpS, go_sem, hp]
    refine wpAnyS_one (i := 2) (by decide +kernel) ?_
    simp [wpOpS, go_sem]
    refine (settleAt_errno _ _ _).mono ?_
    rintro e w1 ⟨rfl, hx⟩
    have gp : w1.cell? ⟨b, 0, none⟩ = some (.slice ao n m) := by rw [hx.cell b 0 (by simpa using hb0)]; simpa using hp
    have gq : w1.cell? ⟨b + 1, 0, none⟩ = some (.int .i64 y) := by rw [hx.cell (b + 1) 0 (by simpa using hb1)]; simpa using hq
    have gr : w1.cell? ⟨b + 2, 0, none⟩ = some (.int .i64 z) := by rw [hx.cell (b + 2) 0 (by simpa using hb2)]; simpa using hr
    have gpz : w1.frozen? ⟨b, 0, none⟩ = false := by rw [hx.froz b 0 (by simpa using hb0)]; simpa using hpz
    have gqz : w1.frozen? ⟨b + 1, 0, none⟩ = false := by rw [hx.froz (b + 1) 0 (by simpa using hb1)]; simpa using hqz
    have grz : w1.frozen? ⟨b + 2, 0, none⟩ = false := by rw [hx.froz (b + 2) 0 (by simpa using hb2)]; simpa using hrz
    refine wpAnyS_one (i := 3) (by decide +kernel) ?_
    simp [wpOpS, go_sem]
    refine wpAnyS_three (i := 4) (j := 5) (k := 6) (by decide +kernel) ?_ ?_ ?_
    · simp [wpOpS, go_sem]
      refine wpAnyS_three (i := 5) (j := 6) (k := 7) (by decide +kernel) ?_ ?_ ?_
      · simp [wpOpS, go_sem]
        refine wpAnyS_two (i := 6) (j := 7) (by decide +kernel) ?_ ?_
        · simp [wpOpS, go_sem]
          refine wpAnyS_one (i := 7) (by decide +kernel) ?_
          simp [wpOpS, go_sem, gp, gpz]
          refine wpAnyS_one (i := 8) (by decide +kernel) ?_
          simp [wpOpS, go_sem, gq, gqz]
          refine wpAnyS_one (i := 9) (by decide +kernel) ?_
          simp [wpOpS, go_sem, gr, grz]
          refine wpAnyS_done (by decide +kernel) ?_ _
          exact ⟨rfl, _, rfl, .tuple #[], results_none (by rfl) _ _ _, rfl, rfl, w1, (Ext.refl w).drew.trans hx, rfl⟩
        · simp [wpOpS, go_sem, gp, gpz]
          refine wpAnyS_two (i := 6) (j := 8) (by decide +kernel) ?_ ?_
          · simp [wpOpS, go_sem]
            refine wpAnyS_one (i := 8) (by decide +kernel) ?_
            simp [wpOpS, go_sem, gq, gqz]
            refine wpAnyS_one (i := 9) (by decide +kernel) ?_
            simp [wpOpS, go_sem, gr, grz]
            refine wpAnyS_done (by decide +kernel) ?_ _
            exact ⟨rfl, _, rfl, .tuple #[], results_none (by rfl) _ _ _, rfl, rfl, w1, (Ext.refl w).drew.trans hx, rfl⟩
          · simp [wpOpS, go_sem, gq, gqz]
            refine wpAnyS_one (i := 6) (by decide +kernel) ?_
            simp [wpOpS, go_sem]
            refine wpAnyS_one (i := 9) (by decide +kernel) ?_
            simp [wpOpS, go_sem, gr, grz]
            refine wpAnyS_done (by decide +kernel) ?_ _
            exact ⟨rfl, _, rfl, .tuple #[], results_none (by rfl) _ _ _, rfl, rfl, w1, (Ext.refl w).drew.trans hx, rfl⟩
      · simp [wpOpS, go_sem]
        refine wpAnyS_two (i := 5) (j := 7) (by decide +kernel) ?_ ?_
        · simp [wpOpS, go_sem]
          refine wpAnyS_one (i := 7) (by decide +kernel) ?_
          simp [wpOpS, go_sem, gp, gpz]
          refine wpAnyS_one (i := 8) (by decide +kernel) ?_
          simp [wpOpS, go_sem, gq, gqz]
          refine wpAnyS_one (i := 9) (by decide +kernel) ?_
          simp [wpOpS, go_sem, gr, grz]
          refine wpAnyS_done (by decide +kernel) ?_ _
          exact ⟨rfl, _, rfl, .tuple #[], results_none (by rfl) _ _ _, rfl, rfl, w1, (Ext.refl w).drew.trans hx, rfl⟩
        · simp [wpOpS, go_sem, gp, gpz]
          refine wpAnyS_one (i := 5) (by decide +kernel) ?_
          simp [wpOpS, go_sem]
          refine wpAnyS_one (i := 8) (by decide +kernel) ?_
          simp [wpOpS, go_sem, gq, gqz]
          refine wpAnyS_one (i := 9) (by decide +kernel) ?_
          simp [wpOpS, go_sem, gr, grz]
          refine wpAnyS_done (by decide +kernel) ?_ _
          exact ⟨rfl, _, rfl, .tuple #[], results_none (by rfl) _ _ _, rfl, rfl, w1, (Ext.refl w).drew.trans hx, rfl⟩
      · simp [wpOpS, go_sem, gp, gpz]
        refine wpAnyS_two (i := 5) (j := 6) (by decide +kernel) ?_ ?_
        · simp [wpOpS, go_sem]
          refine wpAnyS_two (i := 6) (j := 8) (by decide +kernel) ?_ ?_
          · simp [wpOpS, go_sem]
            refine wpAnyS_one (i := 8) (by decide +kernel) ?_
            simp [wpOpS, go_sem, gq, gqz]
            refine wpAnyS_one (i := 9) (by decide +kernel) ?_
            simp [wpOpS, go_sem, gr, grz]
            refine wpAnyS_done (by decide +kernel) ?_ _
            exact ⟨rfl, _, rfl, .tuple #[], results_none (by rfl) _ _ _, rfl, rfl, w1, (Ext.refl w).drew.trans hx, rfl⟩
          · simp [wpOpS, go_sem, gq, gqz]
            refine wpAnyS_one (i := 6) (by decide +kernel) ?_
            simp [wpOpS, go_sem]
            refine wpAnyS_one (i := 9) (by decide +kernel) ?_
            simp [wpOpS, go_sem, gr, grz]
            refine wpAnyS_done (by decide +kernel) ?_ _
            exact ⟨rfl, _, rfl, .tuple #[], results_none (by rfl) _ _ _, rfl, rfl, w1, (Ext.refl w).drew.trans hx, rfl⟩
        · simp [wpOpS, go_sem]
          refine wpAnyS_one (i := 5) (by decide +kernel) ?_
          simp [wpOpS, go_sem]
          refine wpAnyS_one (i := 8) (by decide +kernel) ?_
          simp [wpOpS, go_sem, gq, gqz]
          refine wpAnyS_one (i := 9) (by decide +kernel) ?_
          simp [wpOpS, go_sem, gr, grz]
          refine wpAnyS_done (by decide +kernel) ?_ _
          exact ⟨rfl, _, rfl, .tuple #[], results_none (by rfl) _ _ _, rfl, rfl, w1, (Ext.refl w).drew.trans hx, rfl⟩
    · simp [wpOpS, go_sem]
      refine wpAnyS_two (i := 4) (j := 6) (by decide +kernel) ?_ ?_
      · simp [wpOpS, go_sem]
        refine wpAnyS_two (i := 6) (j := 7) (by decide +kernel) ?_ ?_
        · simp [wpOpS, go_sem]
          refine wpAnyS_one (i := 7) (by decide +kernel) ?_
          simp [wpOpS, go_sem, gp, gpz]
          refine wpAnyS_one (i := 8) (by decide +kernel) ?_
          simp [wpOpS, go_sem, gq, gqz]
          refine wpAnyS_one (i := 9) (by decide +kernel) ?_
          simp [wpOpS, go_sem, gr, grz]
          refine wpAnyS_done (by decide +kernel) ?_ _
          exact ⟨rfl, _, rfl, .tuple #[], results_none (by rfl) _ _ _, rfl, rfl, w1, (Ext.refl w).drew.trans hx, rfl⟩
        · simp [wpOpS, go_sem, gp, gpz]
          refine wpAnyS_two (i := 6) (j := 8) (by decide +kernel) ?_ ?_
          · simp [wpOpS, go_sem]
            refine wpAnyS_one (i := 8) (by decide +kernel) ?_
            simp [wpOpS, go_sem, gq, gqz]
            refine wpAnyS_one (i := 9) (by decide +kernel) ?_
            simp [wpOpS, go_sem, gr, grz]
            refine wpAnyS_done (by decide +kernel) ?_ _
            exact ⟨rfl, _, rfl, .tuple #[], results_none (by rfl) _ _ _, rfl, rfl, w1, (Ext.refl w).drew.trans hx, rfl⟩
          · simp [wpOpS, go_sem, gq, gqz]
            refine wpAnyS_one (i := 6) (by decide +kernel) ?_
            simp [wpOpS, go_sem]
            refine wpAnyS_one (i := 9) (by decide +kernel) ?_
            simp [wpOpS, go_sem, gr, grz]
            refine wpAnyS_done (by decide +kernel) ?_ _
            exact ⟨rfl, _, rfl, .tuple #[], results_none (by rfl) _ _ _, rfl, rfl, w1, (Ext.refl w).drew.trans hx, rfl⟩
      · simp [wpOpS, go_sem]
        refine wpAnyS_one (i := 4) (by decide +kernel) ?_
        simp [wpOpS, go_sem]
        refine wpAnyS_one (i := 7) (by decide +kernel) ?_
        simp [wpOpS, go_sem, gp, gpz]
        refine wpAnyS_one (i := 8) (by decide +kernel) ?_
        simp [wpOpS, go_sem, gq, gqz]
        refine wpAnyS_one (i := 9) (by decide +kernel) ?_
        simp [wpOpS, go_sem, gr, grz]
        refine wpAnyS_done (by decide +kernel) ?_ _
        exact ⟨rfl, _, rfl, .tuple #[], results_none (by rfl) _ _ _, rfl, rfl, w1, (Ext.refl w).drew.trans hx, rfl⟩
    · simp [wpOpS, go_sem]
      refine wpAnyS_two (i := 4) (j := 5) (by decide +kernel) ?_ ?_
      · simp [wpOpS, go_sem]
        refine wpAnyS_two (i := 5) (j := 7) (by decide +kernel) ?_ ?_
        · simp [wpOpS, go_sem]
          refine wpAnyS_one (i := 7) (by decide +kernel) ?_
          simp [wpOpS, go_sem, gp, gpz]
          refine wpAnyS_one (i := 8) (by decide +kernel) ?_
          simp [wpOpS, go_sem, gq, gqz]
          refine wpAnyS_one (i := 9) (by decide +kernel) ?_
          simp [wpOpS, go_sem, gr, grz]
          refine wpAnyS_done (by decide +kernel) ?_ _
          exact ⟨rfl, _, rfl, .tuple #[], results_none (by rfl) _ _ _, rfl, rfl, w1, (Ext.refl w).drew.trans hx, rfl⟩
        · simp [wpOpS, go_sem, gp, gpz]
          refine wpAnyS_one (i := 5) (by decide +kernel) ?_
          simp [wpOpS, go_sem]
          refine wpAnyS_one (i := 8) (by decide +kernel) ?_
          simp [wpOpS, go_sem, gq, gqz]
          refine wpAnyS_one (i := 9) (by decide +kernel) ?_
          simp [wpOpS, go_sem, gr, grz]
          refine wpAnyS_done (by decide +kernel) ?_ _
          exact ⟨rfl, _, rfl, .tuple #[], results_none (by rfl) _ _ _, rfl, rfl, w1, (Ext.refl w).drew.trans hx, rfl⟩
      · simp [wpOpS, go_sem]
        refine wpAnyS_one (i := 4) (by decide +kernel) ?_
        simp [wpOpS, go_sem]
        refine wpAnyS_one (i := 7) (by decide +kernel) ?_
        simp [wpOpS, go_sem, gp, gpz]
        refine wpAnyS_one (i := 8) (by decide +kernel) ?_
        simp [wpOpS, go_sem, gq, gqz]
        refine wpAnyS_one (i := 9) (by decide +kernel) ?_
        simp [wpOpS, go_sem, gr, grz]
        refine wpAnyS_done (by decide +kernel) ?_ _
        exact ⟨rfl, _, rfl, .tuple #[], results_none (by rfl) _ _ _, rfl, rfl, w1, (Ext.refl w).drew.trans hx, rfl⟩
  · simp [wpOpS, go_sem, hp, Tryz.ntmps40]
    refine wpAnyS_one (i := 0) (by decide +kernel) ?_
    simp [wpOpS, go_sem, recoverD, hu]
    refine wpAnyS_one (i := 2) (by decide +kernel) ?_
    simp [wpOpS, go_sem]
    refine (settleAt_errno _ _ _).mono ?_
    rintro e w1 ⟨rfl, hx⟩
    have gp : w1.cell? ⟨b, 0, none⟩ = some (.slice ao n m) := by rw [hx.cell b 0 (by simpa using hb0)]; simpa using hp
    have gq : w1.cell? ⟨b + 1, 0, none⟩ = some (.int .i64 y) := by rw [hx.cell (b + 1) 0 (by simpa using hb1)]; simpa using hq
    have gr : w1.cell? ⟨b + 2, 0, none⟩ = some (.int .i64 z) := by rw [hx.cell (b + 2) 0 (by simpa using hb2)]; simpa using hr
    have gpz : w1.frozen? ⟨b, 0, none⟩ = false := by rw [hx.froz b 0 (by simpa using hb0)]; simpa using hpz
    have gqz : w1.frozen? ⟨b + 1, 0, none⟩ = false := by rw [hx.froz (b + 1) 0 (by simpa using hb1)]; simpa using hqz
    have grz : w1.frozen? ⟨b + 2, 0, none⟩ = false := by rw [hx.froz (b + 2) 0 (by simpa using hb2)]; simpa using hrz
    refine wpAnyS_one (i := 3) (by decide +kernel) ?_
    simp [wpOpS, go_sem]
    refine wpAnyS_three (i := 4) (j := 5) (k := 6) (by decide +kernel) ?_ ?_ ?_
    · simp [wpOpS, go_sem]
      refine wpAnyS_three (i := 5) (j := 6) (k := 7) (by decide +kernel) ?_ ?_ ?_
      · simp [wpOpS, go_sem]
        refine wpAnyS_two (i := 6) (j := 7) (by decide +kernel) ?_ ?_
        · simp [wpOpS, go_sem]
          refine wpAnyS_one (i := 7) (by decide +kernel) ?_
          simp [wpOpS, go_sem, gp, gpz]
          refine wpAnyS_one (i := 8) (by decide +kernel) ?_
          simp [wpOpS, go_sem, gq, gqz]
          refine wpAnyS_one (i := 9) (by decide +kernel) ?_
          simp [wpOpS, go_sem, gr, grz]
          refine wpAnyS_done (by decide +kernel) ?_ _
          exact ⟨rfl, _, rfl, .tuple #[], results_none (by rfl) _ _ _, rfl, rfl, w1, (Ext.refl w).drew.trans hx, rfl⟩
        · simp [wpOpS, go_sem, gp, gpz]
          refine wpAnyS_two (i := 6) (j := 8) (by decide +kernel) ?_ ?_
          · simp [wpOpS, go_sem]
            refine wpAnyS_one (i := 8) (by decide +kernel) ?_
            simp [wpOpS, go_sem, gq, gqz]
            refine wpAnyS_one (i := 9) (by decide +kernel) ?_
            simp [wpOpS, go_sem, gr, grz]
            refine wpAnyS_done (by decide +kernel) ?_ _
            exact ⟨rfl, _, rfl, .tuple #[], results_none (by rfl) _ _ _, rfl, rfl, w1, (Ext.refl w).drew.trans hx, rfl⟩
          · simp [wpOpS, go_sem, gq, gqz]
            refine wpAnyS_one (i := 6) (by decide +kernel) ?_
            simp [wpOpS, go_sem]
            refine wpAnyS_one (i := 9) (by decide +kernel) ?_
            simp [wpOpS, go_sem, gr, grz]
            refine wpAnyS_done (by decide +kernel) ?_ _
            exact ⟨rfl, _, rfl, .tuple #[], results_none (by rfl) _ _ _, rfl, rfl, w1, (Ext.refl w).drew.trans hx, rfl⟩
      · simp [wpOpS, go_sem]
        refine wpAnyS_two (i := 5) (j := 7) (by decide +kernel) ?_ ?_
        · simp [wpOpS, go_sem]
          refine wpAnyS_one (i := 7) (by decide +kernel) ?_
          simp [wpOpS, go_sem, gp, gpz]
          refine wpAnyS_one (i := 8) (by decide +kernel) ?_
          simp [wpOpS, go_sem, gq, gqz]
          refine wpAnyS_one (i := 9) (by decide +kernel) ?_
          simp [wpOpS, go_sem, gr, grz]
          refine wpAnyS_done (by decide +kernel) ?_ _
          exact ⟨rfl, _, rfl, .tuple #[], results_none (by rfl) _ _ _, rfl, rfl, w1, (Ext.refl w).drew.trans hx, rfl⟩
        · simp [wpOpS, go_sem, gp, gpz]
          refine wpAnyS_one (i := 5) (by decide +kernel) ?_
          simp [wpOpS, go_sem]
          refine wpAnyS_one (i := 8) (by decide +kernel) ?_
          simp [wpOpS, go_sem, gq, gqz]
          refine wpAnyS_one (i := 9) (by decide +kernel) ?_
          simp [wpOpS, go_sem, gr, grz]
          refine wpAnyS_done (by decide +kernel) ?_ _
          exact ⟨rfl, _, rfl, .tuple #[], results_none (by rfl) _ _ _, rfl, rfl, w1, (Ext.refl w).drew.trans hx, rfl⟩
      · simp [wpOpS, go_sem, gp, gpz]
        refine wpAnyS_two (i := 5) (j := 6) (by decide +kernel) ?_ ?_
        · simp [wpOpS, go_sem]
          refine wpAnyS_two (i := 6) (j := 8) (by decide +kernel) ?_ ?_
          · simp [wpOpS, go_sem]
            refine wpAnyS_one (i := 8) (by decide +kernel) ?_
            simp [wpOpS, go_sem, gq, gqz]
            refine wpAnyS_one (i := 9) (by decide +kernel) ?_
            simp [wpOpS, go_sem, gr, grz]
            refine wpAnyS_done (by decide +kernel) ?_ _
            exact ⟨rfl, _, rfl, .tuple #[], results_none (by rfl) _ _ _, rfl, rfl, w1, (Ext.refl w).drew.trans hx, rfl⟩
          · simp [wpOpS, go_sem, gq, gqz]
            refine wpAnyS_one (i := 6) (by decide +kernel) ?_
            simp [wpOpS, go_sem]
            refine wpAnyS_one (i := 9) (by decide +kernel) ?_
            simp [wpOpS, go_sem, gr, grz]
            refine wpAnyS_done (by decide +kernel) ?_ _
            exact ⟨rfl, _, rfl, .tuple #[], results_none (by rfl) _ _ _, rfl, rfl, w1, (Ext.refl w).drew.trans hx, rfl⟩
        · simp [wpOpS, go_sem]
          refine wpAnyS_one (i := 5) (by decide +kernel) ?_
          simp [wpOpS, go_sem]
          refine wpAnyS_one (i := 8) (by decide +kernel) ?_
          simp [wpOpS, go_sem, gq, gqz]
          refine wpAnyS_one (i := 9) (by decide +kernel) ?_
          simp [wpOpS, go_sem, gr, grz]
          refine wpAnyS_done (by decide +kernel) ?_ _
          exact ⟨rfl, _, rfl, .tuple #[], results_none (by rfl) _ _ _, rfl, rfl, w1, (Ext.refl w).drew.trans hx, rfl⟩
    · simp [wpOpS, go_sem]
      refine wpAnyS_two (i := 4) (j := 6) (by decide +kernel) ?_ ?_
      · simp [wpOpS, go_sem]
        refine wpAnyS_two (i := 6) (j := 7) (by decide +kernel) ?_ ?_
        · simp [wpOpS, go_sem]
          refine wpAnyS_one (i := 7) (by decide +kernel) ?_
          simp [wpOpS, go_sem, gp, gpz]
          refine wpAnyS_one (i := 8) (by decide +kernel) ?_
          simp [wpOpS, go_sem, gq, gqz]
          refine wpAnyS_one (i := 9) (by decide +kernel) ?_
          simp [wpOpS, go_sem, gr, grz]
          refine wpAnyS_done (by decide +kernel) ?_ _
          exact ⟨rfl, _, rfl, .tuple #[], results_none (by rfl) _ _ _, rfl, rfl, w1, (Ext.refl w).drew.trans hx, rfl⟩
        · simp [wpOpS, go_sem, gp, gpz]
          refine wpAnyS_two (i := 6) (j := 8) (by decide +kernel) ?_ ?_
          · simp [wpOpS, go_sem]
            refine wpAnyS_one (i := 8) (by decide +kernel) ?_
            simp [wpOpS, go_sem, gq, gqz]
            refine wpAnyS_one (i := 9) (by decide +kernel) ?_
            simp [wpOpS, go_sem, gr, grz]
            refine wpAnyS_done (by decide +kernel) ?_ _
            exact ⟨rfl, _, rfl, .tuple #[], results_none (by rfl) _ _ _, rfl, rfl, w1, (Ext.refl w).drew.trans hx, rfl⟩
          · simp [wpOpS, go_sem, gq, gqz]
            refine wpAnyS_one (i := 6) (by decide +kernel) ?_
            simp [wpOpS, go_sem]
            refine wpAnyS_one (i := 9) (by decide +kernel) ?_
            simp [wpOpS, go_sem, gr, grz]
            refine wpAnyS_done (by decide +kernel) ?_ _
            exact ⟨rfl, _, rfl, .tuple #[], results_none (by rfl) _ _ _, rfl, rfl, w1, (Ext.refl w).drew.trans hx, rfl⟩
      · simp [wpOpS, go_sem]
        refine wpAnyS_one (i := 4) (by decide +kernel) ?_
        simp [wpOpS, go_sem]
        refine wpAnyS_one (i := 7) (by decide +kernel) ?_
        simp [wpOpS, go_sem, gp, gpz]
        refine wpAnyS_one (i := 8) (by decide +kernel) ?_
        simp [wpOpS, go_sem, gq, gqz]
        refine wpAnyS_one (i := 9) (by decide +kernel) ?_
        simp [wpOpS, go_sem, gr, grz]
        refine wpAnyS_done (by decide +kernel) ?_ _
        exact ⟨rfl, _, rfl, .tuple #[], results_none (by rfl) _ _ _, rfl, rfl, w1, (Ext.refl w).drew.trans hx, rfl⟩
    · simp [wpOpS, go_sem]
      refine wpAnyS_two (i := 4) (j := 5) (by decide +kernel) ?_ ?_
      · simp [wpOpS, go_sem]
        refine wpAnyS_two (i := 5) (j := 7) (by decide +kernel) ?_ ?_
        · simp [wpOpS, go_sem]
          refine wpAnyS_one (i := 7) (by decide +kernel) ?_
          simp [wpOpS, go_sem, gp, gpz]
          refine wpAnyS_one (i := 8) (by decide +kernel) ?_
          simp [wpOpS, go_sem, gq, gqz]
          refine wpAnyS_one (i := 9) (by decide +kernel) ?_
          simp [wpOpS, go_sem, gr, grz]
          refine wpAnyS_done (by decide +kernel) ?_ _
          exact ⟨rfl, _, rfl, .tuple #[], results_none (by rfl) _ _ _, rfl, rfl, w1, (Ext.refl w).drew.trans hx, rfl⟩
        · simp [wpOpS, go_sem, gp, gpz]
          refine wpAnyS_one (i := 5) (by decide +kernel) ?_
          simp [wpOpS, go_sem]
          refine wpAnyS_one (i := 8) (by decide +kernel) ?_
          simp [wpOpS, go_sem, gq, gqz]
          refine wpAnyS_one (i := 9) (by decide +kernel) ?_
          simp [wpOpS, go_sem, gr, grz]
          refine wpAnyS_done (by decide +kernel) ?_ _
          exact ⟨rfl, _, rfl, .tuple #[], results_none (by rfl) _ _ _, rfl, rfl, w1, (Ext.refl w).drew.trans hx, rfl⟩
      · simp [wpOpS, go_sem]
        refine wpAnyS_one (i := 4) (by decide +kernel) ?_
        simp [wpOpS, go_sem]
        refine wpAnyS_one (i := 7) (by decide +kernel) ?_
        simp [wpOpS, go_sem, gp, gpz]
        refine wpAnyS_one (i := 8) (by decide +kernel) ?_
        simp [wpOpS, go_sem, gq, gqz]
        refine wpAnyS_one (i := 9) (by decide +kernel) ?_
        simp [wpOpS, go_sem, gr, grz]
        refine wpAnyS_done (by decide +kernel) ?_ _
        exact ⟨rfl, _, rfl, .tuple #[], results_none (by rfl) _ _ _, rfl, rfl, w1, (Ext.refl w).drew.trans hx, rfl⟩
end Go.Proofs.YtbnpaeejlfaboaaGreatDoor.L7

namespace Go.Proofs.YtbnpaeejlfaboaaGreatDoor.L7
open Go.RowKit Go.Lib
set_option linter.unusedVariables false
theorem make_func (fn : Fn) (first cap : Array Value) (w : World) : (Instr.makeFunc fn first cap).run Tryz.prog w = .ok (.func fn first cap) w := rfl
/-- What All has deferred. -/
def dfr (Z : Nat) : List Deferred := [{ target := .fn (.func 40) #[.pointer (some ⟨Z, 0, none⟩), .pointer (some ⟨Z + 1, 0, none⟩), .pointer (some ⟨Z + 2, 0, none⟩)], args := #[] }]
/-- The world of a face at its end: the three results' blocks, and all that was there. -/
structure Fac (w W : World) (V : Value) (y z : Int) : Prop where
  p : W.cell? ⟨w.heap.size, 0, none⟩ = some V
  q : W.cell? ⟨w.heap.size + 1, 0, none⟩ = some (.int .i64 y)
  r : W.cell? ⟨w.heap.size + 2, 0, none⟩ = some (.int .i64 z)
  pz : W.frozen? ⟨w.heap.size, 0, none⟩ = false
  qz : W.frozen? ⟨w.heap.size + 1, 0, none⟩ = false
  rz : W.frozen? ⟨w.heap.size + 2, 0, none⟩ = false
  ext : Ext w W
theorem Fac.begin (w : World) (t s r : TypeId) : Fac w (((w.alloc (.cells #[.slice none 0 0] t)).alloc (.cells #[.int .i64 0] s)).alloc (.cells #[.int .i64 0] r)) (.slice none 0 0) 0 0 :=
  ⟨by simp [go_sem], by simp [go_sem], by simp [go_sem], by simp [go_sem], by simp [go_sem], by simp [go_sem], (((Ext.refl w).alloc _ _).alloc _ _).alloc _ _⟩
theorem Fac.on {w W W' : World} {V : Value} {y z : Int} (h : Fac w W V y z) (hx : Ext W W') : Fac w W' V y z :=
  ⟨hx.cell_of h.p, hx.cell_of h.q, hx.cell_of h.r, by rw [hx.froz _ _ (lt_of_cell h.p)]; exact h.pz, by rw [hx.froz _ _ (lt_of_cell h.q)]; exact h.qz, by rw [hx.froz _ _ (lt_of_cell h.r)]; exact h.rz, h.ext.trans hx⟩
theorem Fac.set1 {w W : World} {V : Value} {y z : Int} (h : Fac w W V y z) (x : Value) : Fac w (W.setCell ⟨w.heap.size, 0, none⟩ x) x y z :=
  ⟨same h.p, by rw [other _ (Or.inl (by omega))]; exact h.q, by rw [other _ (Or.inl (by omega))]; exact h.r, by simp [go_sem, h.pz], by simp [go_sem, h.qz], by simp [go_sem, h.rz], h.ext.setCell (Nat.le_refl _) _⟩
theorem Fac.set2 {w W : World} {V : Value} {y z : Int} (h : Fac w W V y z) (x : Int) : Fac w (W.setCell ⟨w.heap.size + 1, 0, none⟩ (.int .i64 x)) V x z :=
  ⟨by rw [other _ (Or.inl (by omega))]; exact h.p, same h.q, by rw [other _ (Or.inl (by omega))]; exact h.r, by simp [go_sem, h.pz], by simp [go_sem, h.qz], by simp [go_sem, h.rz], h.ext.setCell (by show w.heap.size ≤ w.heap.size + 1; omega) _⟩
theorem Fac.set3 {w W : World} {V : Value} {y z : Int} (h : Fac w W V y z) (x : Int) : Fac w (W.setCell ⟨w.heap.size + 2, 0, none⟩ (.int .i64 x)) V y x :=
  ⟨by rw [other _ (Or.inl (by omega))]; exact h.p, by rw [other _ (Or.inl (by omega))]; exact h.q, same h.r, by simp [go_sem, h.pz], by simp [go_sem, h.qz], by simp [go_sem, h.rz], h.ext.setCell (by show w.heap.size ≤ w.heap.size + 2; omega) _⟩
theorem Own.set {B : Nat} {w : World} {v : Value} {ts : List Tok} (h : Own B w v ts) {b : Nat} (hb : b < B) (x : Value) : Own B (w.setCell ⟨b, 0, none⟩ x) v ts :=
  ⟨ownsRow_setCell_below h.row (a := ⟨b, 0, none⟩) hb x⟩
theorem Own.mono {A B : Nat} {w : World} {v : Value} {ts : List Tok} (h : Own B w v ts) (hb : A ≤ B) : Own A w v ts := by
  refine ⟨h.row.1, ?_⟩
  rcases h.row.2 with h0 | ⟨g, c, cur, h1, h2, h3⟩
  · exact Or.inl h0
  · exact Or.inr ⟨g, c, cur, h1, Nat.le_trans hb h2, h3⟩
theorem Own.slc {B : Nat} {w : World} {v : Value} {ts : List Tok} (h : Own B w v ts) : Slc1 v := by
  rcases h.row.2 with ⟨rfl, _⟩ | ⟨g, c, cur, rfl, _⟩
  · exact ⟨_, _, _, rfl⟩
  · exact ⟨_, _, _, rfl⟩
theorem all_leave_idle (w W : World) (tm : Array Value) (V : Value) (y z : Int) (B : Nat) (ts : List Tok) (h1 : tm[2]? = some (.pointer (some ⟨w.heap.size, 0, none⟩))) (h2 : tm[3]? = some (.pointer (some ⟨w.heap.size + 1, 0, none⟩))) (h3 : tm[4]? = some (.pointer (some ⟨w.heap.size + 2, 0, none⟩))) (hf : Fac w W V y z) (ho : Own B W V ts) (hB : w.heap.size + 2 < B) :
    Leaves Tryz.prog Tryz.f23 tm (fun e w' => (∃ v, e = .returned (.tuple #[v, .int .i64 0, .int .i64 0]) ∧ Own w.heap.size w' v ts) ∧ Ext w w') (dfr w.heap.size) .returning W := by
  refine leaves_cons (f := 40) (args := #[.pointer (some ⟨w.heap.size, 0, none⟩), .pointer (some ⟨w.heap.size + 1, 0, none⟩), .pointer (some ⟨w.heap.size + 2, 0, none⟩)]) (by simp) (by simp [go_sem]) ?_
  refine (all_idle w.heap.size V y z _ hf.p ho.slc hf.q hf.r hf.pz hf.qz hf.rz).mono ?_
  rintro e u' w'' ⟨rfl, rfl, w2, hy, rfl⟩
  have hg := (((hf.on hy).set1 V).set2 0).set3 0
  have ho2 : Own B (((w2.setCell ⟨w.heap.size, 0, none⟩ V).setCell ⟨w.heap.size + 1, 0, none⟩ (.int .i64 0)).setCell ⟨w.heap.size + 2, 0, none⟩ (.int .i64 0)) V ts := (((ho.ext hy).set (by omega) _).set (by omega) _).set hB _
  generalize ((w2.setCell ⟨w.heap.size, 0, none⟩ V).setCell ⟨w.heap.size + 1, 0, none⟩ (.int .i64 0)).setCell ⟨w.heap.size + 2, 0, none⟩ (.int .i64 0) = Wf at *
  obtain ⟨ao, n, c, rfl⟩ := ho.slc
  simp [Leaves, settle, results, Tryz.results23, go_sem, h1, h2, h3, hg.p, hg.q, hg.r]
  exact ⟨ho2.mono (by omega), hg.ext⟩
theorem all_leave_placed (w W : World) (tm : Array Value) (V : Value) (c k : Int) (y z : Int) (hs : Slc1 V) (h1 : tm[2]? = some (.pointer (some ⟨w.heap.size, 0, none⟩))) (h2 : tm[3]? = some (.pointer (some ⟨w.heap.size + 1, 0, none⟩))) (h3 : tm[4]? = some (.pointer (some ⟨w.heap.size + 2, 0, none⟩))) (hf : Fac w W V y z) :
    Leaves Tryz.prog Tryz.f23 tm (fun e w' => (∃ v, e = .returned (.tuple #[v, .int .i64 k, .int .i64 c]) ∧ Own w.heap.size w' v []) ∧ Ext w w') (dfr w.heap.size) (.panicking [{ v := .iface 85 (.agg #[.int .i64 c, .int .i64 k]), recovered := false }]) W := by
  refine leaves_cons (f := 40) (args := #[.pointer (some ⟨w.heap.size, 0, none⟩), .pointer (some ⟨w.heap.size + 1, 0, none⟩), .pointer (some ⟨w.heap.size + 2, 0, none⟩)]) (by simp) (by simp [go_sem]) ?_
  refine (all_placed w.heap.size V c k [] y z _ hf.p hs hf.q hf.r hf.pz hf.qz hf.rz).mono ?_
  rintro e u' w'' ⟨rfl, rfl, w2, hy, rfl⟩
  have hg := (((hf.on hy).set1 (.slice none 0 0)).set2 k).set3 c
  generalize ((w2.setCell ⟨w.heap.size, 0, none⟩ (.slice none 0 0)).setCell ⟨w.heap.size + 1, 0, none⟩ (.int .i64 k)).setCell ⟨w.heap.size + 2, 0, none⟩ (.int .i64 c) = Wf at *
  simp [Leaves, settle, results, Tryz.results23, go_sem, h1, h2, h3, hg.p, hg.q, hg.r]
  exact ⟨Own.nil _ _, hg.ext⟩
theorem all_leave_errno (w W : World) (tm : Array Value) (V : Value) (c : Int) (y z : Int) (hs : Slc1 V) (h1 : tm[2]? = some (.pointer (some ⟨w.heap.size, 0, none⟩))) (h2 : tm[3]? = some (.pointer (some ⟨w.heap.size + 1, 0, none⟩))) (h3 : tm[4]? = some (.pointer (some ⟨w.heap.size + 2, 0, none⟩))) (hf : Fac w W V y z) :
    Leaves Tryz.prog Tryz.f23 tm (fun e w' => (∃ v, e = .returned (.tuple #[v, .int .i64 0, .int .i64 c]) ∧ Own w.heap.size w' v []) ∧ Ext w w') (dfr w.heap.size) (.panicking [{ v := .iface 29 (.int .i64 c), recovered := false }]) W := by
  refine leaves_cons (f := 40) (args := #[.pointer (some ⟨w.heap.size, 0, none⟩), .pointer (some ⟨w.heap.size + 1, 0, none⟩), .pointer (some ⟨w.heap.size + 2, 0, none⟩)]) (by simp) (by simp [go_sem]) ?_
  refine (all_errno w.heap.size V c [] y z _ hf.p hs hf.q hf.r hf.pz hf.qz hf.rz).mono ?_
  rintro e u' w'' ⟨rfl, rfl, w2, hy, rfl⟩
  have hg := (((hf.on hy).set1 (.slice none 0 0)).set2 0).set3 c
  generalize ((w2.setCell ⟨w.heap.size, 0, none⟩ (.slice none 0 0)).setCell ⟨w.heap.size + 1, 0, none⟩ (.int .i64 0)).setCell ⟨w.heap.size + 2, 0, none⟩ (.int .i64 c) = Wf at *
  simp [Leaves, settle, results, Tryz.results23, go_sem, h1, h2, h3, hg.p, hg.q, hg.r]
  exact ⟨Own.nil _ _, hg.ext⟩
theorem All_long (l : List UInt8) (w : World) (hl : 20000 < l.length) (hm : l.length ≤ 9223372036854775807) :
    Calls Tryz.prog 23 #[.string ⟨l.toArray⟩] w fun e w' => (∃ v, e = .returned (.tuple #[v, .int .i64 0, .int .i64 3]) ∧ Own w.heap.size w' v []) ∧ Ext w w' := by
  have hmf := make_func
  have hd : decide ((l.length : Int) ≤ 20000) = false := decide_eq_false (by omega)
  go_enter_defers Tryz.func23, Tryz.ntmps23
  go_wp2_with fail
  refine (need_no _ _).mono ?_
  rintro e w1 ⟨rfl, hw1⟩
  have hf := Fac.begin w 49 3 29
  rw [← hw1] at hf
  clear hw1
  replace hf := show Hid _ from hf
  go_wp2
  refine all_leave_errno w _ _ _ _ _ _ ⟨_, _, _, rfl⟩ ?_ ?_ ?_ hf.out
  · rfl
  · rfl
  · rfl
theorem All_ok (l : List UInt8) (ts : List Tok) (w : World) (hl : l.length ≤ 20000) (hlex : lex 0 l = (ts, none)) (he : Hid (Env w)) :
    Calls Tryz.prog 23 #[.string ⟨l.toArray⟩] w fun e w' => (∃ v, e = .returned (.tuple #[v, .int .i64 0, .int .i64 0]) ∧ Own w.heap.size w' v (ts ++ [⟨0, l.length, []⟩])) ∧ Ext w w' := by
  have hmf := make_func
  have hd : decide ((l.length : Int) ≤ 20000) = true := decide_eq_true (by omega)
  replace hlex := show Hid _ from hlex
  go_enter_defers Tryz.func23, Tryz.ntmps23
  go_wp2_with fail
  refine (need_ok _ _).mono ?_
  rintro e w1 ⟨rfl, hw1⟩
  have hf := Fac.begin w 49 3 29
  rw [← hw1] at hf
  clear hw1
  have he1 : Hid (Env w1) := he.out.ext hf.ext
  have hB : Hid (w.heap.size + 2 < w1.heap.size) := lt_of_cell hf.r
  replace hf := show Hid _ from hf
  go_wp2_with fail
  refine (scan_ok l ts _ hl hlex.out he1).mono ?_
  rintro e w2 ⟨⟨V, rfl, ho⟩, hx⟩
  obtain ⟨ao, n, c, rfl⟩ := ho.slc
  replace hf := hf.out.on hx
  have gp := hf.p; have gq := hf.q; have gr := hf.r; have gpz := hf.pz; have gqz := hf.qz; have grz := hf.rz
  replace hf := show Hid _ from hf
  replace ho := show Hid _ from ho
  clear hx he1
  go_wp2
  refine all_leave_idle w _ _ _ _ _ _ _ ?_ ?_ ?_ (((hf.out.set1 _).set2 _).set3 _) (((ho.out.set (by have := hB.out; omega) _).set (by have := hB.out; omega) _).set hB.out _) hB.out
  · rfl
  · rfl
  · rfl
theorem All_no (l : List UInt8) (ts : List Tok) (P : Nat) (w : World) (hl : l.length ≤ 20000) (hlex : lex 0 l = (ts, some P)) (he : Hid (Env w)) :
    Calls Tryz.prog 23 #[.string ⟨l.toArray⟩] w fun e w' => (∃ v, e = .returned (.tuple #[v, .int .i64 P, .int .i64 6]) ∧ Own w.heap.size w' v []) ∧ Ext w w' := by
  have hmf := make_func
  have hd : decide ((l.length : Int) ≤ 20000) = true := decide_eq_true (by omega)
  replace hlex := show Hid _ from hlex
  go_enter_defers Tryz.func23, Tryz.ntmps23
  go_wp2_with fail
  refine (need_ok _ _).mono ?_
  rintro e w1 ⟨rfl, hw1⟩
  have hf := Fac.begin w 49 3 29
  rw [← hw1] at hf
  clear hw1
  have he1 : Hid (Env w1) := he.out.ext hf.ext
  replace hf := show Hid _ from hf
  go_wp2_with fail
  refine (scan_no l ts P _ hl hlex.out he1).mono ?_
  rintro e w2 ⟨rfl, hx⟩
  replace hf := hf.out.on hx
  replace hf := show Hid _ from hf
  clear hx he1
  go_wp2
  refine all_leave_placed w _ _ _ _ _ _ _ ⟨_, _, _, rfl⟩ ?_ ?_ ?_ hf.out
  · rfl
  · rfl
  · rfl
theorem All_c (l : List UInt8) (w : World) (hm : l.length ≤ 9223372036854775807) (he : Hid (Env w)) :
    Calls Tryz.prog 23 #[.string ⟨l.toArray⟩] w fun e w' => (∃ v, e = .returned (.tuple #[v, .int .i64 (aP l), .int .i64 (aE l)]) ∧ Own w.heap.size w' v (aT l)) ∧ Ext w w' := by
  unfold aP aE aT
  by_cases hl : 20000 < l.length
  · rw [if_pos hl, if_pos hl, if_pos hl]; exact All_long l w hl hm
  · rw [if_neg hl, if_neg hl, if_neg hl]
    cases hlex : lex 0 l with
    | mk ts o =>
      cases o with
      | none => exact All_ok l ts w (by omega) hlex he
      | some P => exact All_no l ts P w (by omega) hlex he
end Go.Proofs.YtbnpaeejlfaboaaGreatDoor.L7
