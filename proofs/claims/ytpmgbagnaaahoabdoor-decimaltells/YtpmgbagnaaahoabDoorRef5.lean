/- The document's own TakeRate of layer 2, in plain lists: what its loops come to: no statement of the seat is proved here. -/
import Derived.Test.YtpmgbagnaaahoabDoorRef4
namespace Go.Proofs.YtpmgbagnaaahoabDoor
open Go.RowKit Go.Lib
set_option linter.unusedVariables false

/-- A byte read: the number so far, how many digits, how many ahead of the point (none: -1). -/
def stepR (n k : Nat) (c : UInt8) (v d : Nat) (p : Int) : Option (Nat × Nat × Int) :=
  if c = 45 ∧ k = 0 then some (v, d, p)
  else if c = 37 ∧ k + 1 = n then some (v, d, p)
  else if c = 46 ∧ p < 0 then some (v, d, (d : Int))
  else if isD c = true ∧ d < 12 then some (10 * v + (c.toNat - 48), d + 1, p)
  else none
def runR (n : Nat) : Nat → List UInt8 → Nat → Nat → Int → Option (Nat × Nat × Int)
  | _, [], v, d, p => some (v, d, p)
  | k, c :: t, v, d, p => (stepR n k c v d p).bind fun σ => runR n (k + 1) t σ.1 σ.2.1 σ.2.2
/-- So many noughts more, in int64. -/
def tens : Nat → Int → Int
  | 0, v => v
  | m + 1, v => tens m (wrap64 (10 * v))
def pt (d : Nat) (p : Int) : Int := if p < 0 then (d : Int) else p

theorem runR_digits (n : Nat) (X : List UInt8) (t : List UInt8) (hX : X.all isD = true) : ∀ k v d p, d + X.length ≤ 12 →
    runR n k (X ++ t) v d p = runR n (k + X.length) t (v * 10 ^ X.length + valL X) (d + X.length) p := by
  induction X with
  | nil => intro k v d p _; simp [valL]
  | cons x X ih =>
    intro k v d p hd
    simp only [List.all_cons, Bool.and_eq_true] at hX
    have hr := isD_range hX.1
    have n45 : x ≠ 45 := fun e => by rw [e] at hr; revert hr; decide
    have n37 : x ≠ 37 := fun e => by rw [e] at hr; revert hr; decide
    have n46 : x ≠ 46 := fun e => by rw [e] at hr; revert hr; decide
    simp only [List.length_cons] at hd
    have hs : stepR n k x v d p = some (10 * v + (x.toNat - 48), d + 1, p) := by
      unfold stepR
      rw [if_neg (fun h => n45 h.1), if_neg (fun h => n37 h.1), if_neg (fun h => n46 h.1), if_pos ⟨hX.1, by omega⟩]
    rw [List.cons_append, runR, hs, Option.bind_some]
    dsimp only
    rw [ih hX.2 _ _ _ _ (by omega), List.length_cons, valL_cons, Nat.pow_succ]
    have e1 : (10 * v + (x.toNat - 48)) * 10 ^ X.length + valL X = v * (10 ^ X.length * 10) + ((x.toNat - 48) * 10 ^ X.length + valL X) := by
      rw [Nat.add_mul, Nat.mul_comm 10 v, Nat.mul_assoc, Nat.mul_comm 10]; omega
    rw [e1, show k + 1 + X.length = k + (X.length + 1) by omega, show d + 1 + X.length = d + (X.length + 1) by omega]
theorem runR_end (n k v d : Nat) (p : Int) (h : k + 1 = n) (hk : k ≠ 0 ∨ True) : runR n k [37] v d p = some (v, d, p) := by
  have hs : stepR n k 37 v d p = some (v, d, p) := by
    unfold stepR
    rw [if_neg (fun h => absurd h.1 (by decide)), if_pos ⟨rfl, h⟩]
  rw [runR, hs, Option.bind_some, runR]
theorem runR_dot (n k v d : Nat) (p : Int) (t : List UInt8) (hp : p < 0) : runR n k (46 :: t) v d p = runR n (k + 1) t v d (d : Int) := by
  have hs : stepR n k 46 v d p = some (v, d, (d : Int)) := by
    unfold stepR
    rw [if_neg (fun h => absurd h.1 (by decide)), if_neg (fun h => absurd h.1 (by decide)), if_pos ⟨rfl, hp⟩]
  rw [runR, hs, Option.bind_some]
theorem runR_sign (n : Nat) (t : List UInt8) (v d : Nat) (p : Int) : runR n 0 (45 :: t) v d p = runR n 1 t v d p := by
  have hs : stepR n 0 45 v d p = some (v, d, p) := by
    unfold stepR
    rw [if_pos ⟨rfl, rfl⟩]
  rw [runR, hs, Option.bind_some]
theorem tens_small : ∀ (m : Nat) (v : Nat), v * 10 ^ m ≤ 100000000000 → tens m (v : Int) = ((v * 10 ^ m : Nat) : Int)
  | 0, v, _ => by simp [tens]
  | m + 1, v, h => by
    have e : v * 10 ^ (m + 1) = (10 * v) * 10 ^ m := by rw [Nat.pow_succ, Nat.mul_comm 10 v, Nat.mul_assoc, Nat.mul_comm 10]
    rw [e] at h ⊢
    have h1 : 10 * v * 1 ≤ 10 * v * 10 ^ m := Nat.mul_le_mul_left _ (Nat.pos_of_ne_zero (by simp))
    have hw : wrap64 (10 * (v : Int)) = ((10 * v : Nat) : Int) := by unfold wrap64; omega
    rw [tens, hw, tens_small m (10 * v) h]

theorem dec_len4 (u : Nat) (h : u ≤ 1000) : (decDigits u).length ≤ 4 := by
  rw [Lib.decDigits_length]
  by_cases h2 : u < 10
  · rw [nDigits_small h2]; omega
  · rw [nDigits_big h2]
    by_cases h3 : u / 10 < 10
    · rw [nDigits_small h3]; omega
    · rw [nDigits_big h3]
      by_cases h4 : u / 10 / 10 < 10
      · rw [nDigits_small h4]; omega
      · rw [nDigits_big h4, nDigits_small (by omega)]; omega
/-- The loops, over the text of a rate. -/
theorem runR_rate (c : Int) (hc : c.natAbs ≤ 10000000000) : ∃ V d p, runR (rateL c).length 0 (rateL c) 0 0 (-1) = some (V, d, p) ∧ (d : Int) - pt d p ≤ 7 ∧ 0 ≤ (d : Int) - pt d p ∧ tens (7 - ((d : Int) - pt d p)).toNat (V : Int) = (c.natAbs : Int) := by
  obtain ⟨t1, t2⟩ := tail_zeros c.natAbs
  have t3 := tail_len c.natAbs
  have t4 := tail_all c.natAbs
  have hval : valL (decDigits (c.natAbs / 10000000) ++ fix 7 c.natAbs) = c.natAbs := by
    rw [valL_append, valL_decDigits, valL_fix, fix_length]; omega
  rw [← t1, ← List.append_assoc, valL_append, valL_zeros', zeros_len, Nat.add_zero] at hval
  have hD := decDigits_all (c.natAbs / 10000000)
  have hDl := dec_len4 (c.natAbs / 10000000) (by omega)
  have main : ∀ k n, n = k + (decDigits (c.natAbs / 10000000)).length + (dotL (tailL c.natAbs)).length + 1 →
      ∃ V d p, runR n k (decDigits (c.natAbs / 10000000) ++ (dotL (tailL c.natAbs) ++ [37])) 0 0 (-1) = some (V, d, p) ∧ (d : Int) - pt d p ≤ 7 ∧ 0 ≤ (d : Int) - pt d p ∧ tens (7 - ((d : Int) - pt d p)).toNat (V : Int) = (c.natAbs : Int) := by
    intro k n hn
    rw [runR_digits n _ _ hD k 0 0 (-1) (by omega)]
    cases hq : tailL c.natAbs with
    | nil =>
      rw [hq] at hval hn
      simp only [dotL, List.isEmpty_nil, if_true, List.nil_append, List.length_nil] at hn ⊢
      refine ⟨_, _, _, runR_end _ _ _ _ _ (by omega) (Or.inr trivial), ?_, ?_, ?_⟩
      · simp [pt]
      · simp [pt]
      · have e : pt (0 + (decDigits (c.natAbs / 10000000)).length) (-1) = ((0 + (decDigits (c.natAbs / 10000000)).length : Nat) : Int) := by simp [pt]
        rw [e, show (7 - (((0 + (decDigits (c.natAbs / 10000000)).length : Nat) : Int) - ((0 + (decDigits (c.natAbs / 10000000)).length : Nat) : Int))).toNat = 7 by omega]
        simp only [Nat.zero_mul, Nat.zero_add, List.append_nil, List.length_nil, Nat.sub_zero] at hval ⊢
        rw [tens_small 7 _ (by omega), hval]
    | cons a b =>
      rw [hq] at hval hn t3 t4
      simp only [dotL, List.isEmpty_cons, Bool.false_eq_true, if_false, List.cons_append] at hn ⊢
      rw [runR_dot _ _ _ _ _ _ (by omega)]
      rw [show a :: (b ++ [37]) = (a :: b) ++ [37] from rfl, runR_digits n (a :: b) [37] t4 _ _ _ _ (by omega)]
      refine ⟨_, _, _, runR_end _ _ _ _ _ (by simp at hn ⊢; omega) (Or.inr trivial), ?_, ?_, ?_⟩
      · simp [pt] at t3 ⊢; omega
      · simp [pt]; omega
      · have e : pt (0 + (decDigits (c.natAbs / 10000000)).length + (a :: b).length) ((0 + (decDigits (c.natAbs / 10000000)).length : Nat) : Int) = ((0 + (decDigits (c.natAbs / 10000000)).length : Nat) : Int) := by
          unfold pt; rw [if_neg (by omega)]
        rw [e, show (7 - (((0 + (decDigits (c.natAbs / 10000000)).length + (a :: b).length : Nat) : Int) - ((0 + (decDigits (c.natAbs / 10000000)).length : Nat) : Int))).toNat = 7 - (a :: b).length by omega]
        rw [valL_append] at hval
        simp only [Nat.zero_mul, Nat.zero_add] at hval ⊢
        rw [tens_small _ _ (by omega), hval]
  unfold rateL signL
  by_cases hneg : c < 0
  · rw [if_pos hneg]
    simp only [List.cons_append, List.nil_append]
    rw [runR_sign]
    apply main 1
    simp; omega
  · rw [if_neg hneg]
    simp only [List.nil_append]
    apply main 0
    simp; omega

theorem takeR_cases (l : List UInt8) : (∃ c, takeR l = (c, 0)) ∨ takeR l = (0, 4) := by
  unfold takeR
  dsimp only
  split
  · split
    · unfold sgnV
      split
      · split
        · exact Or.inr rfl
        · exact Or.inl ⟨_, rfl⟩
      · exact Or.inl ⟨_, rfl⟩
    · exact Or.inr rfl
  · exact Or.inr rfl
def signV (l : List UInt8) (t : Int) : Int := if l.head? = some 45 then wrap64 (-t) else t
theorem rate_head (c : Int) : (rateL c).head? = some 45 ↔ c < 0 := by
  unfold rateL signL
  by_cases h : c < 0
  · simp [h]
  · simp only [h, if_false, List.nil_append, iff_false]
    have h1 := decDigits_all (c.natAbs / 10000000)
    cases hd : decDigits (c.natAbs / 10000000) with
    | nil => exact absurd hd (decDigits_ne _)
    | cons a b =>
      rw [hd] at h1
      simp only [List.all_cons, Bool.and_eq_true] at h1
      simp
      intro e
      rw [e] at h1
      have := h1.1
      revert this; decide
/-- What the document's way comes to. -/
theorem takeR_ref (l : List UInt8) : takeR l = match runR l.length 0 l 0 0 (-1) with
    | none => (0, 4)
    | some (V, d, p) =>
      if (d : Int) - pt d p ≤ 7 ∧ signV l (tens (7 - ((d : Int) - pt d p)).toNat (V : Int)) ≤ 10000000000 ∧ -10000000000 ≤ signV l (tens (7 - ((d : Int) - pt d p)).toNat (V : Int)) ∧ rateL (signV l (tens (7 - ((d : Int) - pt d p)).toNat (V : Int))) = l
      then (signV l (tens (7 - ((d : Int) - pt d p)).toNat (V : Int)), 0) else (0, 4) := by
  rcases takeR_cases l with ⟨c, hc⟩ | h4
  · obtain ⟨h1, h2⟩ := rate_take l c hc
    obtain ⟨V, d, p, r1, r2, r3, r4⟩ := runR_rate c h2
    rw [h1] at r1
    rw [r1, hc]
    dsimp only
    have hG : signV l (tens (7 - ((d : Int) - pt d p)).toNat (V : Int)) = c := by
      unfold signV
      have hh := rate_head c
      rw [h1] at hh
      rw [r4]
      by_cases hn : c < 0
      · rw [if_pos (hh.mpr hn)]; unfold wrap64; omega
      · rw [if_neg (fun e => hn (hh.mp e))]; omega
    rw [hG, if_pos ⟨r2, by omega, by omega, h1⟩]
  · rw [h4]
    split
    · rfl
    · rename_i V d p hr
      split
      · rename_i hcond
        exfalso
        obtain ⟨c1, c2, c3, c4⟩ := hcond
        have := take_rate (signV l (tens (7 - ((d : Int) - pt d p)).toNat (V : Int)))
        rw [c4, h4, if_pos (by omega)] at this
        have := congrArg Prod.snd this
        simp at this
      · rfl
end Go.Proofs.YtpmgbagnaaahoabDoor
