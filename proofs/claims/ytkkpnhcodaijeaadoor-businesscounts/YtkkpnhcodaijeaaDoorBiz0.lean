/- Days of business by themselves: which are open, the first open one forwards or back, where a day is rolled, how many are open, which lists rise: plain arithmetic, no program is spoken of here. -/
import Derived.Test.YtkkpnhcodaijeaaDoorCiv1
import Derived.Test.YtkkpnhcodaijeaaDoorMon0
namespace Go.Proofs.YtkkpnhcodaijeaaDoor

/-- Is it a day of business? -/
def opn (l : List Int) (n : Int) : Bool := inD n && (decide (wday n < 5) && !(decide (n ∈ l)))
theorem inD_iff (n : Int) : inD n = true ↔ -25567 ≤ n ∧ n ≤ 84370 := by unfold inD; simp
theorem inD_no (n : Int) : inD n = false ↔ n < -25567 ∨ 84370 < n := by unfold inD; simp; omega
theorem opn_iff (l : List Int) (n : Int) : opn l n = true ↔ -25567 ≤ n ∧ n ≤ 84370 ∧ wday n < 5 ∧ n ∉ l := by
  unfold opn
  simp only [Bool.and_eq_true, inD_iff, decide_eq_true_eq, Bool.not_eq_true', decide_eq_false_iff_not]
  exact ⟨fun ⟨⟨a, b⟩, c, d⟩ => ⟨a, b, c, d⟩, fun ⟨a, b, c, d⟩ => ⟨⟨a, b⟩, c, d⟩⟩
theorem opn_in {l : List Int} {n : Int} (h : opn l n = true) : inD n = true := by
  have := (opn_iff l n).1 h
  exact (inD_iff n).2 ⟨this.1, this.2.1⟩
theorem opn_out {l : List Int} {n : Int} (h : inD n = false) : opn l n = false := by unfold opn; rw [h]; rfl

/-- The first open day from d on, by steps of s, and is there one? -/
def skF (l : List Int) (s : Int) : Nat → Int → Int × Bool
  | 0, _ => (0, false)
  | k + 1, d => if inD d = true then (if opn l d = true then (d, true) else skF l s k (d + s)) else (0, false)
def skM (s d : Int) : Nat := if s = 1 then (84371 - d).toNat else (d + 25568).toNat
def sk (l : List Int) (s d : Int) : Int × Bool := skF l s (skM s d) d
theorem sk_out (l : List Int) (s d : Int) (h : inD d = false) : sk l s d = (0, false) := by
  unfold sk
  cases skM s d with
  | zero => rfl
  | succ k => simp only [skF]; rw [if_neg (by rw [h]; simp)]
theorem skM_pos (s d : Int) (h : inD d = true) : ∃ k, skM s d = k + 1 := by
  have := (inD_iff d).1 h
  unfold skM
  split
  · exact ⟨(84371 - d).toNat - 1, by omega⟩
  · exact ⟨(d + 25568).toNat - 1, by omega⟩
theorem sk_hit (l : List Int) (s d : Int) (h : opn l d = true) : sk l s d = (d, true) := by
  obtain ⟨k, hk⟩ := skM_pos s d (opn_in h)
  unfold sk
  rw [hk]
  simp only [skF]
  rw [if_pos (opn_in h), if_pos h]
theorem skM_step (s d : Int) (hs : s = 1 ∨ s = -1) (h : inD d = true) : skM s d = skM s (d + s) + 1 := by
  have := (inD_iff d).1 h
  unfold skM
  rcases hs with rfl | rfl
  · simp; omega
  · simp; omega
theorem sk_step (l : List Int) (s d : Int) (hs : s = 1 ∨ s = -1) (h : inD d = true) (ho : opn l d = false) : sk l s d = sk l s (d + s) := by
  unfold sk
  rw [skM_step s d hs h]
  simp only [skF]
  rw [if_pos h, if_neg (by rw [ho]; simp)]
theorem sk_up (l : List Int) : ∀ (n : Nat) (d : Int), (84371 - d).toNat = n → -25567 ≤ d →
    ((sk l 1 d).2 = true ∧ opn l (sk l 1 d).1 = true ∧ d ≤ (sk l 1 d).1 ∧ ∀ k, d ≤ k → k < (sk l 1 d).1 → opn l k = false) ∨ (sk l 1 d = (0, false) ∧ ∀ k, d ≤ k → opn l k = false) := by
  intro n
  induction n with
  | zero =>
    intro d hd h1
    right
    exact ⟨sk_out _ _ _ ((inD_no d).2 (by omega)), fun k hk => opn_out ((inD_no k).2 (by omega))⟩
  | succ n ih =>
    intro d hd h1
    cases ho : opn l d
    · have e := sk_step l 1 d (Or.inl rfl) ((inD_iff d).2 (by omega)) ho
      rw [e]
      rcases ih (d + 1) (by omega) (by omega) with ⟨a, b, c, f⟩ | ⟨a, b⟩
      · refine Or.inl ⟨a, b, by omega, fun k k1 k2 => ?_⟩
        by_cases hk : k = d
        · rw [hk]; exact ho
        · exact f k (by omega) k2
      · refine Or.inr ⟨a, fun k k1 => ?_⟩
        by_cases hk : k = d
        · rw [hk]; exact ho
        · exact b k (by omega)
    · rw [sk_hit l 1 d ho]
      exact Or.inl ⟨rfl, ho, Int.le_refl _, fun k k1 k2 => by simp only at k2; omega⟩
theorem sk_dn (l : List Int) : ∀ (n : Nat) (d : Int), (d + 25568).toNat = n → d ≤ 84370 →
    ((sk l (-1) d).2 = true ∧ opn l (sk l (-1) d).1 = true ∧ (sk l (-1) d).1 ≤ d ∧ ∀ k, k ≤ d → (sk l (-1) d).1 < k → opn l k = false) ∨ (sk l (-1) d = (0, false) ∧ ∀ k, k ≤ d → opn l k = false) := by
  intro n
  induction n with
  | zero =>
    intro d hd h1
    right
    exact ⟨sk_out _ _ _ ((inD_no d).2 (by omega)), fun k hk => opn_out ((inD_no k).2 (by omega))⟩
  | succ n ih =>
    intro d hd h1
    cases ho : opn l d
    · have e := sk_step l (-1) d (Or.inr rfl) ((inD_iff d).2 (by omega)) ho
      rw [e]
      rcases ih (d + -1) (by omega) (by omega) with ⟨a, b, c, f⟩ | ⟨a, b⟩
      · refine Or.inl ⟨a, b, by omega, fun k k1 k2 => ?_⟩
        by_cases hk : k = d
        · rw [hk]; exact ho
        · exact f k (by omega) k2
      · refine Or.inr ⟨a, fun k k1 => ?_⟩
        by_cases hk : k = d
        · rw [hk]; exact ho
        · exact b k (by omega)
    · rw [sk_hit l (-1) d ho]
      exact Or.inl ⟨rfl, ho, Int.le_refl _, fun k k1 k2 => by simp only at k2; omega⟩

/-- Of one month of one year? -/
def sameM (a b : Int) : Bool := decide (yOf a = yOf b) && decide (mOf a = mOf b)
theorem sameM_self (a : Int) : sameM a a = true := by unfold sameM; simp
/-- Where a day is moved, and is there such a day? -/
def rolP (l : List Int) (n how : Int) : Int × Bool :=
  if how = 4 then sk l (-1) n else if how = 2 ∨ ((sk l 1 n).2 = true ∧ sameM n (sk l 1 n).1 = true) then sk l 1 n else sk l (-1) n
def rlA (l : List Int) (n how : Int) : Int :=
  if inD n = true ∧ 1 ≤ how ∧ how ≤ 4 then (if how = 1 then n else if (rolP l n how).2 = true then (rolP l n how).1 else 0) else 0
def rlE (l : List Int) (n how : Int) : Int :=
  if inD n = true then (if 1 ≤ how ∧ how ≤ 4 then (if how = 1 then 0 else if (rolP l n how).2 = true then 0 else 5) else 1) else 5
theorem rolP_open {l : List Int} {n how : Int} (h : opn l n = true) : rolP l n how = (n, true) := by
  unfold rolP
  rw [sk_hit _ _ _ h, sk_hit _ _ _ h]
  simp
/-- How many are open, of k days from a on. -/
def cnt (l : List Int) (a : Int) : Nat → Int
  | 0 => 0
  | k + 1 => cnt l a k + (if opn l (a + (k : Int)) = true then 1 else 0)
def ctA (l : List Int) (a b : Int) : Int := if inD a = true ∧ inD b = true ∧ a ≤ b then cnt l a (b - a + 1).toNat else 0
def ctE (a b : Int) : Int := if inD a = true ∧ inD b = true ∧ a ≤ b then 0 else 5
theorem cnt_bd (l : List Int) (a : Int) (k : Nat) : 0 ≤ cnt l a k ∧ cnt l a k ≤ k := by
  induction k with
  | zero => simp [cnt]
  | succ k ih => simp only [cnt]; split <;> omega
theorem cnt_yes {l : List Int} {a : Int} {k : Nat} (h : opn l (a + (k : Int)) = true) : cnt l a (k + 1) = cnt l a k + 1 := by simp [cnt, h]
theorem cnt_not {l : List Int} {a : Int} {k : Nat} (h : opn l (a + (k : Int)) = false) : cnt l a (k + 1) = cnt l a k := by simp [cnt, h]

/-- Each is a day, and above the one ahead of it. -/
def rsg : Int → List Int → Bool
  | _, [] => true
  | a, x :: t => decide (a < x ∧ x ≤ 84370) && rsg x t
def rgt (l : List Int) : Bool := rsg (-25568) l && decide (l.length ≤ 200)
theorem rsg_spec : ∀ (l : List Int) (a : Int), rsg a l = true → l.Pairwise (· < ·) ∧ ∀ x ∈ l, a < x ∧ x ≤ 84370
  | [], a, _ => ⟨List.Pairwise.nil, fun x h => by cases h⟩
  | y :: t, a, h => by
    simp only [rsg, Bool.and_eq_true, decide_eq_true_eq] at h
    obtain ⟨⟨h1, h2⟩, h3⟩ := h
    obtain ⟨p, q⟩ := rsg_spec t y h3
    refine ⟨List.pairwise_cons.2 ⟨fun x hx => (q x hx).1, p⟩, fun x hx => ?_⟩
    rcases List.mem_cons.1 hx with rfl | hx
    · exact ⟨h1, h2⟩
    · have := q x hx; omega
theorem rsg_yes {a x : Int} {t : List Int} (h1 : a < x) (h2 : x ≤ 84370) : rsg a (x :: t) = rsg x t := by simp [rsg, h1, h2]
theorem rsg_no {a x : Int} {t : List Int} (h : x ≤ a ∨ 84370 < x) : rsg a (x :: t) = false := by
  simp only [rsg]
  rw [decide_eq_false (by omega)]; rfl
theorem rsg_of : ∀ (l : List Int) (a : Int), l.Pairwise (· < ·) → (∀ x ∈ l, a < x ∧ x ≤ 84370) → rsg a l = true
  | [], _, _, _ => rfl
  | y :: t, a, hp, h => by
    obtain ⟨p, q⟩ := List.pairwise_cons.1 hp
    obtain ⟨h1, h2⟩ := h y (.head _)
    rw [rsg_yes h1 h2]
    exact rsg_of t y q (fun x hx => ⟨p x hx, (h x (.tail _ hx)).2⟩)
/-- A list without its first k, from its element k on. -/
theorem drop_at {l : List Int} {k : Nat} {v : Int} (h : l[k]? = some v) : l.drop k = v :: l.drop (k + 1) := by
  obtain ⟨hk, e⟩ := List.getElem?_eq_some_iff.1 h
  rw [List.drop_eq_getElem_cons hk, e]
theorem drop_end {l : List Int} {k : Nat} (h : l.length ≤ k) : l.drop k = [] := List.drop_eq_nil_of_le h
end Go.Proofs.YtkkpnhcodaijeaaDoor
