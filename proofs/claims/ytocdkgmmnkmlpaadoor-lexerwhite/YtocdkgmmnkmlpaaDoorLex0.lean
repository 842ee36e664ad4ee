/- Texts as lists of bytes: what is passed over, of which kind a sign is and how long, and all signs of a text, as functions: no program is spoken of here. -/
import Derived.WalkKit
namespace Go.Proofs.YtocdkgmmnkmlpaaDoor
set_option linter.unusedVariables false

def blankL : List UInt8 := [32, 9, 10]
def remL : List UInt8 := [35]
def sgnL : List UInt8 := [123, 125, 59]
def digL : List UInt8 := [48, 49, 50, 51, 52, 53, 54, 55, 56, 57]
def letL : List UInt8 := [65, 66, 67, 68, 69, 70, 71, 72, 73, 74, 75, 76, 77, 78, 79, 80, 81, 82, 83, 84, 85, 86, 87, 88, 89, 90, 97, 98, 99, 100, 101, 102, 103, 104, 105, 106, 107, 108, 109, 110, 111, 112, 113, 114, 115, 116, 117, 118, 119, 120, 121, 122]
def inWL : List UInt8 := letL ++ digL ++ [45]
def inNL : List UInt8 := digL ++ [46, 45, 47, 37]

/-- Does a text begin with one of these? -/
def beg (l these : List UInt8) : Bool :=
  match l with
  | [] => false
  | c :: _ => these.contains c
/-- How many bytes at its beginning are of these. -/
def rn (l these : List UInt8) : Nat := (l.takeWhile (these.contains ·)).length
/-- White and remarks at the beginning: how many bytes; true: within a remark. -/
def wh : Bool → List UInt8 → Nat
  | _, [] => 0
  | false, c :: l => if blankL.contains c then 1 + wh false l else if c = 35 then 1 + wh true l else 0
  | true, c :: l => if c = 10 then 1 + wh false l else 1 + wh true l
/-- Behind a hyphen, if there is one at the beginning. -/
def unhy : List UInt8 → List UInt8
  | [] => []
  | c :: l => if c = 45 then l else c :: l
/-- Of which kind the sign is with which a text begins. -/
def kd (l : List UInt8) : Nat := if beg l letL then 1 else if beg (unhy l) digL then 2 else if beg l sgnL then 3 else 0
/-- How long it is; 0: it is none. -/
def sz (l : List UInt8) : Nat := if beg l letL then rn l inWL else if beg (unhy l) digL then rn l inNL else if beg l sgnL then 1 else 0

structure Tok where
  kind : Nat
  at_ : Nat
  text : List UInt8

/-- All signs of a text that stands at a place, but for the end, and the place of what is none. -/
def lexF : Nat → Nat → List UInt8 → List Tok × Option Nat
  | 0, _, _ => ([], none)
  | f + 1, p, l =>
    let m := l.drop (wh false l)
    let q := p + wh false l
    match m with
    | [] => ([], none)
    | _ :: _ => if sz m = 0 then ([], some q) else
      let r := lexF f (q + sz m) (m.drop (sz m))
      (⟨kd m, q, m.take (sz m)⟩ :: r.1, r.2)
def lex (p : Nat) (l : List UInt8) : List Tok × Option Nat := lexF (l.length + 1) p l

theorem wh_le : ∀ (b : Bool) (l : List UInt8), wh b l ≤ l.length
  | _, [] => by cases ‹Bool› <;> simp [wh]
  | false, c :: l => by
    have h1 := wh_le false l; have h2 := wh_le true l
    rw [wh]; simp only [List.length_cons]; split <;> (try split) <;> omega
  | true, c :: l => by
    have h1 := wh_le false l; have h2 := wh_le true l
    rw [wh]; simp only [List.length_cons]; split <;> omega
theorem rn_le (l t : List UInt8) : rn l t ≤ l.length := (List.takeWhile_prefix _).length_le
theorem rn_pos {l t : List UInt8} (h : beg l t = true) : 0 < rn l t := by
  cases l with
  | nil => simp [beg] at h
  | cons c l => simp only [beg] at h; unfold rn; rw [List.takeWhile_cons, if_pos h]; simp
theorem sz_le (l : List UInt8) : sz l ≤ l.length := by
  have h1 := rn_le l inWL; have h2 := rn_le l inNL
  unfold sz
  split
  · exact h1
  · split
    · exact h2
    · split
      · rename_i h; cases l with
        | nil => simp [beg] at h
        | cons c l => simp
      · omega
theorem kd_le (l : List UInt8) : kd l ≤ 3 := by
  unfold kd; split <;> (try split) <;> (try split) <;> omega
theorem lexF_fuel : ∀ (f g p : Nat) (l : List UInt8), l.length < f → l.length < g → lexF f p l = lexF g p l
  | 0, _, _, l, h, _ => by omega
  | _, 0, _, l, _, h => by omega
  | f + 1, g + 1, p, l, hf, hg => by
    rw [lexF, lexF]
    have hd : (l.drop (wh false l)).length ≤ l.length := by simp
    cases hm : l.drop (wh false l) with
    | nil => rfl
    | cons c m =>
      simp only []
      split
      · rfl
      · rename_i hs
        rw [hm] at hd
        have hlt : ((c :: m).drop (sz (c :: m))).length < l.length := by
          rw [List.length_drop]
          have := sz_le (c :: m)
          omega
        rw [lexF_fuel f g _ _ (by omega) (by omega)]
theorem lex_def (p : Nat) (l : List UInt8) : lex p l =
    match l.drop (wh false l) with
    | [] => ([], none)
    | c :: m => if sz (c :: m) = 0 then ([], some (p + wh false l)) else
      (⟨kd (c :: m), p + wh false l, (c :: m).take (sz (c :: m))⟩ :: (lex (p + wh false l + sz (c :: m)) ((c :: m).drop (sz (c :: m)))).1, (lex (p + wh false l + sz (c :: m)) ((c :: m).drop (sz (c :: m)))).2) := by
  show lexF (l.length + 1) p l = _
  rw [lexF]
  have hd : (l.drop (wh false l)).length ≤ l.length := by simp
  cases hm : l.drop (wh false l) with
  | nil => rfl
  | cons c m =>
    simp only []
    split
    · rfl
    · rename_i hs
      rw [hm] at hd
      have hlt : ((c :: m).drop (sz (c :: m))).length < l.length := by
        rw [List.length_drop]
        have := sz_le (c :: m)
        omega
      rw [lexF_fuel l.length (((c :: m).drop (sz (c :: m))).length + 1) _ _ hlt (by omega)]
      rfl
/-- What is passed over may be passed over ahead. -/
theorem lex_skip {p n : Nat} {l : List UInt8} (h : wh false l = n + wh false (l.drop n)) : lex p l = lex (p + n) (l.drop n) := by
  rw [lex_def, lex_def]
  rw [h, List.drop_drop]
  rw [Nat.add_assoc]
theorem wh_drop : ∀ (b : Bool) (l : List UInt8), wh false (l.drop (wh b l)) = 0
  | b, [] => by cases b <;> simp [wh]
  | false, c :: l => by
    rw [wh]
    split
    · rw [Nat.add_comm, List.drop_succ_cons]; exact wh_drop false l
    · split
      · rw [Nat.add_comm, List.drop_succ_cons]; exact wh_drop true l
      · rename_i h1 h2
        rw [List.drop_zero, wh, if_neg h1, if_neg h2]
  | true, c :: l => by
    rw [wh]
    split
    · rw [Nat.add_comm, List.drop_succ_cons]; exact wh_drop false l
    · rw [Nat.add_comm, List.drop_succ_cons]; exact wh_drop true l
theorem lex_pass (p : Nat) (l : List UInt8) : lex p l = lex (p + wh false l) (l.drop (wh false l)) :=
  lex_skip (by rw [wh_drop]; rfl)
theorem lex_end {p : Nat} {l : List UInt8} (h : wh false l = l.length) : lex p l = ([], none) := by
  rw [lex_def, h, List.drop_length]
theorem lex_bad {p : Nat} {c : UInt8} {m : List UInt8} (h : wh false (c :: m) = 0) (hs : sz (c :: m) = 0) : lex p (c :: m) = ([], some p) := by
  rw [lex_def, h]; simp [hs]
theorem lex_tok {p n : Nat} {c : UInt8} {m : List UInt8} (h : wh false (c :: m) = 0) (hs : sz (c :: m) = n) (h0 : 0 < n) :
    lex p (c :: m) = (⟨kd (c :: m), p, (c :: m).take n⟩ :: (lex (p + n) ((c :: m).drop n)).1, (lex (p + n) ((c :: m).drop n)).2) := by
  rw [lex_def, h]; simp [hs, show ¬ n = 0 by omega]
/-- What All answers: signs, place, error. -/
def aT (l : List UInt8) : List Tok := if 20000 < l.length then [] else match (lex 0 l).2 with
  | some _ => []
  | none => (lex 0 l).1 ++ [⟨0, l.length, []⟩]
def aP (l : List UInt8) : Nat := if 20000 < l.length then 0 else ((lex 0 l).2).getD 0
def aE (l : List UInt8) : Nat := if 20000 < l.length then 3 else if (lex 0 l).2.isSome then 6 else 0
end Go.Proofs.YtocdkgmmnkmlpaaDoor
