/- Contracts that the proof of this law leans on: no statement of the seat is proved here. -/
import Derived.Defers
import Derived.OwnWalk
import Derived.WalkKit
import Derived.Test.YtaafagggjnemgaaGreatDoorQ0
import Derived.Test.YtaafagggjnemgaaGreatDoorQ1

namespace Go.Proofs.YtaafagggjnemgaaGreatDoor.L7
set_option linter.unusedVariables false
def blankL : List UInt8 := [32, 9, 10]
def sgnL : List UInt8 := [123, 125, 59]
def digL : List UInt8 := [48, 49, 50, 51, 52, 53, 54, 55, 56, 57]
def letL : List UInt8 := [65, 66, 67, 68, 69, 70, 71, 72, 73, 74, 75, 76, 77, 78, 79, 80, 81, 82, 83, 84, 85, 86, 87, 88, 89, 90, 97, 98, 99, 100, 101, 102, 103, 104, 105, 106, 107, 108, 109, 110, 111, 112, 113, 114, 115, 116, 117, 118, 119, 120, 121, 122]
def inWL : List UInt8 := letL ++ digL ++ [45]
def inNL : List UInt8 := digL ++ [46, 45, 47, 37]
/-- Does a text begin with one of these? -/
def beg (l these : List UInt8) : Bool :=
  match l with
  | [] => false
  | c :: _ => these.contains c
/-- How many bytes at its beginning are of these. -/
def rn (l these : List UInt8) : Nat := (l.takeWhile (these.contains ·)).length
/-- White and remarks at the beginning: how many bytes; true: within a remark. -/
def wh : Bool → List UInt8 → Nat
  | _, [] => 0
  | false, c :: l => if blankL.contains c then 1 + wh false l else if c = 35 then 1 + wh true l else 0
  | true, c :: l => if c = 10 then 1 + wh false l else 1 + wh true l
/-- Behind a hyphen, if there is one at the beginning. -/
def unhy : List UInt8 → List UInt8
  | [] => []
  | c :: l => if c = 45 then l else c :: l
/-- Of which kind the sign is with which a text begins. -/
def kd (l : List UInt8) : Nat := if beg l letL then 1 else if beg (unhy l) digL then 2 else if beg l sgnL then 3 else 0
/-- How long it is; 0: it is none. -/
def sz (l : List UInt8) : Nat := if beg l letL then rn l inWL else if beg (unhy l) digL then rn l inNL else if beg l sgnL then 1 else 0
structure Tok where
  kind : Nat
  at_ : Nat
  text : List UInt8
/-- All signs of a text that stands at a place, but for the end, and the place of what is none. -/
def lexF : Nat → Nat → List UInt8 → List Tok × Option Nat
  | 0, _, _ => ([], none)
  | f + 1, p, l =>
    let m := l.drop (wh false l)
    let q := p + wh false l
    match m with
    | [] => ([], none)
    | _ :: _ => if sz m = 0 then ([], some q) else
      let r := lexF f (q + sz m) (m.drop (sz m))
      (⟨kd m, q, m.take (sz m)⟩ :: r.1, r.2)
def lex (p : Nat) (l : List UInt8) : List Tok × Option Nat := lexF (l.length + 1) p l
theorem wh_le : ∀ (b : Bool) (l : List UInt8), wh b l ≤ l.length
  | _, [] => by cases ‹Bool› <;> simp [wh]
  | false, c :: l => by
    have h1 := wh_le false l; have h2 := wh_le true l
    rw [wh]; simp only [List.length_cons]; split <;> (try split) <;> omega
  | true, c :: l => by
    have h1 := wh_le false l; have h2 := wh_le true l
    rw [wh]; simp only [List.length_cons]; split <;> omega
theorem rn_le (l t : List UInt8) : rn l t ≤ l.length := (List.takeWhile_prefix _).length_le
theorem sz_le (l : List UInt8) : sz l ≤ l.length := by
  have h1 := rn_le l inWL; have h2 := rn_le l inNL
  unfold sz
  split
  · exact h1
  · split
    · exact h2
    · split
      · rename_i h; cases l with
        | nil => simp [beg] at h
        | cons c l => simp
      · omega
theorem lexF_fuel : ∀ (f g p : Nat) (l : List UInt8), l.length < f → l.length < g → lexF f p l = lexF g p l
  | 0, _, _, l, h, _ => by omega
  | _, 0, _, l, _, h => by omega
  | f + 1, g + 1, p, l, hf, hg => by
    rw [lexF, lexF]
    have hd : (l.drop (wh false l)).length ≤ l.length := by simp
    cases hm : l.drop (wh false l) with
    | nil => rfl
    | cons c m =>
      simp only []
      split
      · rfl
      · rename_i hs
        rw [hm] at hd
        have hlt : ((c :: m).drop (sz (c :: m))).length < l.length := by
          rw [List.length_drop]
          have := sz_le (c :: m)
          omega
        rw [lexF_fuel f g _ _ (by omega) (by omega)]
theorem lex_def (p : Nat) (l : List UInt8) : lex p l =
    match l.drop (wh false l) with
    | [] => ([], none)
    | c :: m => if sz (c :: m) = 0 then ([], some (p + wh false l)) else
      (⟨kd (c :: m), p + wh false l, (c :: m).take (sz (c :: m))⟩ :: (lex (p + wh false l + sz (c :: m)) ((c :: m).drop (sz (c :: m)))).1, (lex (p + wh false l + sz (c :: m)) ((c :: m).drop (sz (c :: m)))).2) := by
  show lexF (l.length + 1) p l = _
  rw [lexF]
  have hd : (l.drop (wh false l)).length ≤ l.length := by simp
  cases hm : l.drop (wh false l) with
  | nil => rfl
  | cons c m =>
    simp only []
    split
    · rfl
    · rename_i hs
      rw [hm] at hd
      have hlt : ((c :: m).drop (sz (c :: m))).length < l.length := by
        rw [List.length_drop]
        have := sz_le (c :: m)
        omega
      rw [lexF_fuel l.length (((c :: m).drop (sz (c :: m))).length + 1) _ _ hlt (by omega)]
      rfl
/-- What is passed over may be passed over ahead. -/
theorem lex_skip {p n : Nat} {l : List UInt8} (h : wh false l = n + wh false (l.drop n)) : lex p l = lex (p + n) (l.drop n) := by
  rw [lex_def, lex_def]
  rw [h, List.drop_drop]
  rw [Nat.add_assoc]
theorem wh_drop : ∀ (b : Bool) (l : List UInt8), wh false (l.drop (wh b l)) = 0
  | b, [] => by cases b <;> simp [wh]
  | false, c :: l => by
    rw [wh]
    split
    · rw [Nat.add_comm, List.drop_succ_cons]; exact wh_drop false l
    · split
      · rw [Nat.add_comm, List.drop_succ_cons]; exact wh_drop true l
      · rename_i h1 h2
        rw [List.drop_zero, wh, if_neg h1, if_neg h2]
  | true, c :: l => by
    rw [wh]
    split
    · rw [Nat.add_comm, List.drop_succ_cons]; exact wh_drop false l
    · rw [Nat.add_comm, List.drop_succ_cons]; exact wh_drop true l
theorem lex_pass (p : Nat) (l : List UInt8) : lex p l = lex (p + wh false l) (l.drop (wh false l)) :=
  lex_skip (by rw [wh_drop]; rfl)
theorem lex_end {p : Nat} {l : List UInt8} (h : wh false l = l.length) : lex p l = ([], none) := by
  rw [lex_def, h, List.drop_length]
theorem lex_tok {p n : Nat} {c : UInt8} {m : List UInt8} (h : wh false (c :: m) = 0) (hs : sz (c :: m) = n) (h0 : 0 < n) :
    lex p (c :: m) = (⟨kd (c :: m), p, (c :: m).take n⟩ :: (lex (p + n) ((c :: m).drop n)).1, (lex (p + n) ((c :: m).drop n)).2) := by
  rw [lex_def, h]; simp [hs, show ¬ n = 0 by omega]
/-- What All answers: signs, place, error. -/
def aT (l : List UInt8) : List Tok := if 20000 < l.length then [] else match (lex 0 l).2 with
  | some _ => []
  | none => (lex 0 l).1 ++ [⟨0, l.length, []⟩]
def aP (l : List UInt8) : Nat := if 20000 < l.length then 0 else ((lex 0 l).2).getD 0
def aE (l : List UInt8) : Nat := if 20000 < l.length then 3 else if (lex 0 l).2.isSome then 6 else 0
end Go.Proofs.YtaafagggjnemgaaGreatDoor.L7

namespace Go.Proofs.YtaafagggjnemgaaGreatDoor.L7
set_option linter.unusedVariables false
theorem byte_all (p : UInt8 → Bool) (h : ((List.range 256).all fun n => p (UInt8.ofNat n)) = true) (c : UInt8) : p c = true := by
  have := List.all_eq_true.1 h c.toNat (List.mem_range.2 c.toNat_lt)
  simpa using this
theorem let_inW (c : UInt8) (h : letL.contains c = true) : inWL.contains c = true := by
  have := byte_all (fun c => !letL.contains c || inWL.contains c) (by decide +kernel) c
  rw [h] at this; simpa using this
theorem dig_inN (c : UInt8) (h : digL.contains c = true) : inNL.contains c = true := by
  have := byte_all (fun c => !digL.contains c || inNL.contains c) (by decide +kernel) c
  rw [h] at this; simpa using this
theorem hy_inN : inNL.contains 45 = true := by decide
theorem hy_dig : digL.contains 45 = false := by decide
theorem sgn_let (c : UInt8) (h : sgnL.contains c = true) : letL.contains c = false ∧ digL.contains c = false ∧ c ≠ 45 := by
  have h1 := byte_all (fun c => !sgnL.contains c || (!letL.contains c && !digL.contains c && c != 45)) (by decide +kernel) c
  rw [h] at h1
  simp only [Bool.not_true, Bool.false_or, Bool.and_eq_true, Bool.not_eq_true', bne_iff_ne] at h1
  exact ⟨h1.1.1, h1.1.2, h1.2⟩
theorem beg_cons (c : UInt8) (m t : List UInt8) : beg (c :: m) t = t.contains c := rfl
theorem rn_nil (t : List UInt8) : rn [] t = 0 := rfl
theorem rn_in {c : UInt8} {l t : List UInt8} (h : t.contains c = true) : rn (c :: l) t = rn l t + 1 := by
  unfold rn; rw [List.takeWhile_cons, if_pos h]; simp
theorem rn_out {c : UInt8} {l t : List UInt8} (h : t.contains c = false) : rn (c :: l) t = 0 := by
  unfold rn; rw [List.takeWhile_cons, if_neg (by rw [h]; simp)]; rfl
theorem rn_none {l t : List UInt8} (h : beg l t = false) : rn l t = 0 := by
  cases l with
  | nil => rfl
  | cons c l => exact rn_out h
theorem rn_cut : ∀ (m r t : List UInt8) (k : Nat), rn m t ≤ k → beg r t = false → rn (m.take k ++ r) t = rn m t
  | [], r, t, k, h, hr => by simp [rn_none hr, rn_nil]
  | c :: m, r, t, k, h, hr => by
    cases hc : t.contains c
    · rw [rn_out hc]
      cases k with
      | zero => simpa using rn_none hr
      | succ k => rw [List.take_succ_cons, List.cons_append, rn_out hc]
    · rw [rn_in hc] at h ⊢
      obtain ⟨j, rfl⟩ : ∃ j, k = j + 1 := ⟨k - 1, by omega⟩
      rw [List.take_succ_cons, List.cons_append, rn_in hc, rn_cut m r t j (by omega) hr]
theorem sz_cons (c : UInt8) (m : List UInt8) : sz (c :: m) = if letL.contains c then rn m inWL + 1 else if digL.contains c || (c == 45 && beg m digL) then rn m inNL + 1 else if sgnL.contains c then 1 else 0 := by
  unfold sz
  rw [beg_cons, beg_cons]
  cases hl : letL.contains c
  · simp only [Bool.false_eq_true, if_false]
    by_cases hc : c = 45
    · subst hc
      simp only [unhy, if_true, hy_dig, Bool.false_or, beq_self_eq_true, Bool.true_and]
      cases hb : beg m digL
      · rfl
      · simp only [if_true]; exact rn_in hy_inN
    · simp only [unhy, if_neg hc, beg_cons]
      rw [show (c == 45) = false by simpa using hc]
      simp only [Bool.false_and, Bool.or_false]
      cases hd : digL.contains c
      · rfl
      · simp only [if_true]; exact rn_in (dig_inN c hd)
  · simp only [if_true]; exact rn_in (let_inW c hl)
theorem kd_cons (c : UInt8) (m : List UInt8) : kd (c :: m) = if letL.contains c then 1 else if digL.contains c || (c == 45 && beg m digL) then 2 else if sgnL.contains c then 3 else 0 := by
  unfold kd
  rw [beg_cons, beg_cons]
  cases hl : letL.contains c
  · simp only [Bool.false_eq_true, if_false]
    by_cases hc : c = 45
    · subst hc
      simp only [unhy, if_true, hy_dig, Bool.false_or, beq_self_eq_true, Bool.true_and]
    · simp only [unhy, if_neg hc, beg_cons]
      rw [show (c == 45) = false by simpa using hc]
      simp only [Bool.false_and, Bool.or_false]
  · simp only [if_true]
/-- What begins so goes on with no sign. -/
def stops (r : List UInt8) : Prop := beg r inWL = false ∧ beg r inNL = false ∧ beg r digL = false
theorem stops_ln (r : List UInt8) : stops (10 :: r) := by refine ⟨?_, ?_, ?_⟩ <;> simp only [beg] <;> decide
theorem cut_cons {c : UInt8} {m r : List UInt8} {k : Nat} (hk : sz (c :: m) ≤ k + 1) (hr : stops r) :
    sz (c :: (m.take k ++ r)) = sz (c :: m) ∧ kd (c :: (m.take k ++ r)) = kd (c :: m) := by
  have hb : letL.contains c = false → c = 45 → beg (m.take k ++ r) digL = beg m digL := by
    intro hl hc
    cases m with
    | nil => simpa [beg] using hr.2.2
    | cons d m =>
      cases k with
      | zero =>
        simp only [List.take_zero, List.nil_append, hr.2.2]
        cases hd : beg (d :: m) digL
        · rfl
        · exfalso
          rw [sz_cons, hl, hc, hd] at hk
          simp only [beg] at hd
          rw [rn_in (dig_inN d hd)] at hk
          simp at hk
      | succ k => rfl
  rw [sz_cons, sz_cons, kd_cons, kd_cons]
  rw [sz_cons] at hk
  cases hl : letL.contains c
  · rw [hl] at hk
    simp only [Bool.false_eq_true, if_false] at hk ⊢
    have he : (digL.contains c || (c == 45 && beg (m.take k ++ r) digL)) = (digL.contains c || (c == 45 && beg m digL)) := by
      by_cases hc : c = 45
      · rw [hb hl hc]
      · rw [show (c == 45) = false by simpa using hc]; rfl
    rw [he]
    refine ⟨?_, rfl⟩
    cases hd : (digL.contains c || (c == 45 && beg m digL))
    · rfl
    · rw [hd] at hk
      simp only [if_true] at hk ⊢
      rw [rn_cut m r inNL k (by omega) hr.2.1]
  · rw [hl] at hk
    simp only [if_true] at hk ⊢
    rw [rn_cut m r inWL k (by omega) hr.1]
    exact ⟨rfl, trivial⟩
theorem join_cons {c : UInt8} {m r : List UInt8} (hr : stops r) : sz (c :: (m ++ r)) = sz (c :: m) ∧ kd (c :: (m ++ r)) = kd (c :: m) := by
  have := cut_cons (c := c) (m := m) (r := r) (k := m.length) (by have := sz_le (c :: m); simpa using this) hr
  rwa [List.take_length] at this
theorem wh_sgn {c : UInt8} {m : List UInt8} (h : 0 < sz (c :: m)) : ∀ r, wh false (c :: r) = 0 := by
  intro r
  have hb : blankL.contains c = false ∧ c ≠ 35 := by
    rw [sz_cons] at h
    have h1 := byte_all (fun c => !(letL.contains c || digL.contains c || c == 45 || sgnL.contains c) || (!blankL.contains c && c != 35)) (by decide +kernel) c
    have h2 : (letL.contains c || digL.contains c || c == 45 || sgnL.contains c) = true := by
      cases h3 : letL.contains c
      · cases h4 : digL.contains c
        · cases h5 : (c == 45)
          · cases h6 : sgnL.contains c
            · rw [h3, h4, h5, h6] at h; simp at h
            · simp
          · simp
        · simp
      · simp
    rw [h2] at h1
    simp only [Bool.not_true, Bool.false_or, Bool.and_eq_true, Bool.not_eq_true', bne_iff_ne] at h1
    exact h1
  rw [wh, if_neg (by rw [hb.1]; simp), if_neg hb.2]
theorem wh_all : ∀ (b : Bool) (l t : List UInt8), wh b l = l.length → wh b (l ++ 10 :: t) = l.length + 1 + wh false t
  | false, [], t, _ => by simp [wh, blankL]
  | true, [], t, _ => by simp [wh]
  | false, c :: l, t, h => by
    rw [wh] at h
    rw [List.cons_append, wh]
    simp only [List.length_cons] at h ⊢
    split
    · rename_i h1; rw [if_pos h1] at h; rw [wh_all false l t (by omega)]; omega
    · rename_i h1; rw [if_neg h1] at h
      split
      · rename_i h2; rw [if_pos h2] at h; rw [wh_all true l t (by omega)]; omega
      · rename_i h2; rw [if_neg h2] at h; omega
  | true, c :: l, t, h => by
    rw [wh] at h
    rw [List.cons_append, wh]
    simp only [List.length_cons] at h ⊢
    split
    · rename_i h1; rw [if_pos h1] at h; rw [wh_all false l t (by omega)]; omega
    · rename_i h1; rw [if_neg h1] at h; rw [wh_all true l t (by omega)]; omega
theorem wh_part : ∀ (b : Bool) (l t : List UInt8), wh b l < l.length → wh b (l ++ t) = wh b l
  | b, [], t, h => by simp at h
  | false, c :: l, t, h => by
    rw [wh] at h ⊢
    rw [List.cons_append, wh]
    simp only [List.length_cons] at h
    split
    · rename_i h1; rw [if_pos h1] at h; rw [wh_part false l t (by omega)]
    · rename_i h1; rw [if_neg h1] at h
      split
      · rename_i h2; rw [if_pos h2] at h; rw [wh_part true l t (by omega)]
      · rfl
  | true, c :: l, t, h => by
    rw [wh] at h ⊢
    rw [List.cons_append, wh]
    simp only [List.length_cons] at h
    split
    · rename_i h1; rw [if_pos h1] at h; rw [wh_part false l t (by omega)]
    · rename_i h1; rw [if_neg h1] at h; rw [wh_part true l t (by omega)]
/-- Two texts, a line each. -/
theorem lex_join (t : List UInt8) : ∀ (n p : Nat) (l : List UInt8), l.length ≤ n → lex p (l ++ 10 :: t) =
    ((lex p l).1 ++ (if (lex p l).2.isSome then [] else (lex (p + l.length + 1) t).1), if (lex p l).2.isSome then (lex p l).2 else (lex (p + l.length + 1) t).2) := by
  intro n
  induction n with
  | zero =>
    intro p l h
    obtain rfl : l = [] := List.eq_nil_of_length_eq_zero (by omega)
    rw [lex_end (l := []) rfl]
    rw [List.nil_append, lex_skip (n := 1) (by simp [wh, blankL])]
    simp
  | succ n ih =>
    intro p l h
    by_cases hw : wh false l = l.length
    · rw [lex_end hw]
      rw [lex_skip (n := l.length + 1) (l := l ++ 10 :: t) (by rw [wh_all false l t hw]; simp)]
      simp [Nat.add_assoc]
    · have hlt : wh false l < l.length := by have := wh_le false l; omega
      rw [lex_def p (l ++ 10 :: t), lex_def p l, wh_part false l _ hlt, List.drop_append_of_le_length (by omega)]
      cases hm : l.drop (wh false l) with
      | nil => have := congrArg List.length hm; simp at this; omega
      | cons c m =>
        have hlen : l.length = wh false l + (m.length + 1) := by have := congrArg List.length hm; simp at this; omega
        simp only [List.cons_append]
        obtain ⟨h1, h2⟩ := join_cons (c := c) (m := m) (stops_ln t)
        rw [h1, h2]
        split
        · simp
        · rename_i hs
          have hz := sz_le (c :: m)
          rw [← List.cons_append, List.take_append_of_le_length hz, List.drop_append_of_le_length hz]
          rw [ih _ _ (by rw [List.length_drop]; simp at hz ⊢; omega)]
          have hp : p + wh false l + sz (c :: m) + ((c :: m).drop (sz (c :: m))).length + 1 = p + l.length + 1 := by rw [List.length_drop]; simp at hz ⊢; omega
          rw [hp]
          simp
def shT (k : Nat) (t : Tok) : Tok := ⟨t.kind, t.at_ + k, t.text⟩
theorem lex_shift (k : Nat) : ∀ (n p : Nat) (l : List UInt8), l.length ≤ n → lex (p + k) l = ((lex p l).1.map (shT k), (lex p l).2.map (· + k)) := by
  intro n
  induction n with
  | zero =>
    intro p l h
    obtain rfl : l = [] := List.eq_nil_of_length_eq_zero (by omega)
    rw [lex_end (l := []) rfl, lex_end (l := []) rfl]; rfl
  | succ n ih =>
    intro p l h
    rw [lex_def (p + k), lex_def p]
    cases hm : l.drop (wh false l) with
    | nil => rfl
    | cons c m =>
      simp only []
      split
      · simp; omega
      · rename_i hs
        have hz := sz_le (c :: m)
        have hlen : l.length = wh false l + (m.length + 1) := by have := congrArg List.length hm; simp at this; have := wh_le false l; omega
        rw [show p + k + wh false l + sz (c :: m) = (p + wh false l + sz (c :: m)) + k by omega, ih _ _ (by rw [List.length_drop]; simp at hz ⊢; omega)]
        simp [shT]; omega
end Go.Proofs.YtaafagggjnemgaaGreatDoor.L7

namespace Go.Proofs.YtaafagggjnemgaaGreatDoor.L7
open Go.RowKit Go.Lib
set_option linter.unusedVariables false
theorem ext_part (l : List UInt8) (j k : Nat) : (⟨l.toArray⟩ : ByteArray).extract j k = ⟨((l.drop j).take (k - j)).toArray⟩ := by
  apply ByteArray.ext
  simp [ByteArray.data_extract, List.extract_eq_take_drop]
end Go.Proofs.YtaafagggjnemgaaGreatDoor.L7

namespace Go.Proofs.YtaafagggjnemgaaGreatDoor.L7
open Go.RowKit Go.Lib
set_option linter.unusedVariables false
theorem own_ext {w w' : World} {B : Nat} {e : TypeId} {z : Nat} {v : Value} {T : Nat} {xs : List Value} (h : w.ownsRow B e z v T xs) (hx : Ext w w') : w'.ownsRow B e z v T xs := by
  refine ⟨h.1, ?_⟩
  rcases h.2 with h0 | ⟨g, c, cur, h1, h2, h3, h4⟩
  · exact Or.inl h0
  · refine Or.inr ⟨g, c, cur, h1, h2, ?_, h4⟩
    rw [hx.below.block g (Array.getElem?_eq_some_iff.1 h3).1]
    exact h3
end Go.Proofs.YtaafagggjnemgaaGreatDoor.L7

namespace Go.Proofs.YtaafagggjnemgaaGreatDoor.L7
open Go.RowKit Go.Lib
set_option linter.unusedVariables false
end Go.Proofs.YtaafagggjnemgaaGreatDoor.L7

namespace Go.Proofs.YtaafagggjnemgaaGreatDoor.L7
open Go.RowKit Go.Lib
set_option linter.unusedVariables false
end Go.Proofs.YtaafagggjnemgaaGreatDoor.L7
