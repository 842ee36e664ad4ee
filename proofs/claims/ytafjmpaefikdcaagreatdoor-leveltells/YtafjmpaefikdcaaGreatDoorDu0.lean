
/- When instalments are due, and how many parts lie between, by themselves: plain functions of a product and a day; no statement of the seat is proved here. -/
import Derived.Test.YtafjmpaefikdcaaGreatDoorPly
import Derived.Test.YtafjmpaefikdcaaGreatDoorM4
import Derived.Test.YtafjmpaefikdcaaGreatDoorM5
import Derived.Test.YtafjmpaefikdcaaGreatDoorM6
namespace Go.Proofs.YtafjmpaefikdcaaGreatDoor
open Go.RowKit
set_option linter.unusedVariables false

/-- What lies ahead of place k: the beginning, or the one before. -/
def pv (s : Int) (f : Nat → Int) : Nat → Int
  | 0 => s
  | k + 1 => f k
/-- Where the k-th day is rolled. -/
def duF (p : Prd) (s : Int) (k : Nat) : Int := L5.rlA p.hd (L4.serA s p.ev k) p.rl
def duT (p : Prd) : Nat := p.tm.toNat
def fst (T : Nat) (f : Nat → Int) : List Int := (List.range T).map f
theorem fst_length (T : Nat) (f : Nat → Int) : (fst T f).length = T := by simp [fst]
theorem fst_at {T : Nat} {f : Nat → Int} {k : Nat} {x : Int} (h : (fst T f)[k]? = some x) : k < T ∧ f k = x := by
  have hk : k < T := by have := (List.getElem?_eq_some_iff.1 h).1; rwa [fst_length] at this
  refine ⟨hk, ?_⟩
  simp [fst, hk] at h
  exact h
/-- How many parts lie between a day and the one ahead of it. -/
def paF (c s : Int) (f : Nat → Int) (k : Nat) : Int := L6.plc c (f k) - L6.plc c (pv s f k)
/-- Every day of the series is one. -/
structure Dat (p : Prd) (s : Int) : Prop where
  n1 : -25567 ≤ s
  n2 : s ≤ 84370
  all : ∀ j, j < duT p → L4.serE s p.ev j = 0
/-- Which error tells why there are no days; 0: there are. -/
inductive Due (p : Prd) (s : Int) : Int → Prop
  | bad (h : okP p = false) : Due p s 9
  | day (h : okP p = true) (k : ¬ Dat p s) : Due p s 5
  | roll (h : okP p = true) (k1 : Dat p s) (k2 : ¬ ∀ j, j < duT p → L5.rlE p.hd (L4.serA s p.ev j) p.rl = 0) : Due p s 5
  | dates (h : okP p = true) (k1 : Dat p s) (k2 : ∀ j, j < duT p → L5.rlE p.hd (L4.serA s p.ev j) p.rl = 0) (k3 : ¬ ∀ j, j < duT p → pv s (duF p s) j < duF p s j) : Due p s 11
  | ok (h : okP p = true) (k1 : Dat p s) (k2 : ∀ j, j < duT p → L5.rlE p.hd (L4.serA s p.ev j) p.rl = 0) (k3 : ∀ j, j < duT p → pv s (duF p s) j < duF p s j) : Due p s 0
theorem due_ex (p : Prd) (s : Int) : ∃ E, Due p s E := by
  cases h : okP p
  · exact ⟨_, .bad h⟩
  · by_cases k1 : Dat p s
    · by_cases k2 : ∀ j, j < duT p → L5.rlE p.hd (L4.serA s p.ev j) p.rl = 0
      · by_cases k3 : ∀ j, j < duT p → pv s (duF p s) j < duF p s j
        · exact ⟨_, .ok h k1 k2 k3⟩
        · exact ⟨_, .dates h k1 k2 k3⟩
      · exact ⟨_, .roll h k1 k2⟩
    · exact ⟨_, .day h k1⟩
/-- What is answered beside an error: nothing. -/
def anL (E : Int) (l : List Int) : List Int := if E = 0 then l else []
theorem rgt_of {p : Prd} (h : okP p = true) : L5.rgt p.hd = true := by
  have h10 := (ok_parts h).2.2.2.2.2.2.2.2.2.2
  unfold L8.r10B at h10
  split at h10
  · have h0 : p.hd.length = 0 := of_decide_eq_true h10
    rw [List.eq_nil_of_length_eq_zero h0]; rfl
  · have e : ∀ (l : List Int) (a : Int), L8.rsg a l = L5.rsg a l := by
      intro l
      induction l with
      | nil => intro a; rfl
      | cons x t ih => intro a; show (_ && L8.rsg x t) = (_ && L5.rsg x t); rw [ih x]
    have h10' := h10
    unfold L8.rgt at h10'
    unfold L5.rgt
    rwa [e] at h10'
theorem tm_T {p : Prd} (h : okP p = true) : p.tm = ((duT p : Nat) : Int) ∧ 1 ≤ duT p ∧ duT p ≤ 600 := by
  have := (okf h).tm
  unfold duT; omega
theorem serA_bd (s ev : Int) (k : Nat) : -25567 ≤ L4.serA s ev k ∧ L4.serA s ev k ≤ 84370 := L3.nA_bd _ _
theorem inD_of {n : Int} (h1 : -25567 ≤ n) (h2 : n ≤ 84370) : L3.inD n = true := (L5.inD_iff n).2 ⟨h1, h2⟩
/-- Where a day is rolled is a day. -/
theorem rlA_in (l : List Int) (n how : Int) (h : L5.rlE l n how = 0) : -25567 ≤ L5.rlA l n how ∧ L5.rlA l n how ≤ 84370 := by
  unfold L5.rlE at h
  unfold L5.rlA
  by_cases hn : L3.inD n = true
  · have hb := (L5.inD_iff n).1 hn
    rw [if_pos hn] at h
    by_cases hh : 1 ≤ how ∧ how ≤ 4
    · rw [if_pos hh] at h
      rw [if_pos ⟨hn, hh.1, hh.2⟩]
      by_cases h1 : how = 1
      · rw [if_pos h1]; exact hb
      · rw [if_neg h1] at h ⊢
        by_cases h2 : (L5.rolP l n how).2 = true
        · rw [if_pos h2]
          have hu := L5.sk_up l (84371 - n).toNat n rfl hb.1
          have hd := L5.sk_dn l (n + 25568).toNat n rfl hb.2
          have key : ∀ x : Int × Bool, x.2 = true → (x = L5.sk l 1 n ∨ x = L5.sk l (-1) n) → -25567 ≤ x.1 ∧ x.1 ≤ 84370 := by
            rintro x hx (rfl | rfl)
            · rcases hu with ⟨_, b, _, _⟩ | ⟨b, _⟩
              · have := (L5.opn_iff l _).1 b; omega
              · rw [b] at hx; cases hx
            · rcases hd with ⟨_, b, _, _⟩ | ⟨b, _⟩
              · have := (L5.opn_iff l _).1 b; omega
              · rw [b] at hx; cases hx
          refine key _ h2 ?_
          unfold L5.rolP
          split
          · exact Or.inr rfl
          · split
            · exact Or.inl rfl
            · exact Or.inr rfl
        · rw [if_neg h2] at h; omega
    · rw [if_neg hh] at h; omega
  · rw [if_neg hn] at h; omega
theorem rlE_two (l : List Int) (n how : Int) (h : -25567 ≤ n ∧ n ≤ 84370) (k : 1 ≤ how ∧ how ≤ 4) : L5.rlE l n how = 0 ∨ L5.rlE l n how = 5 := by
  unfold L5.rlE
  rw [if_pos (inD_of h.1 h.2), if_pos k]
  split
  · exact Or.inl rfl
  · split
    · exact Or.inl rfl
    · exact Or.inr rfl
end Go.Proofs.YtafjmpaefikdcaaGreatDoor
