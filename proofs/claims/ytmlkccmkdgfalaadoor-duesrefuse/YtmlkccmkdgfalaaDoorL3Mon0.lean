
/- Months further on, by themselves: which date a day is, which month lies so many months behind, which day is answered: plain arithmetic, no program is spoken of here. -/
import Derived.Test.YtmlkccmkdgfalaaDoorL3Cal
namespace Go.Proofs.YtmlkccmkdgfalaaDoor.L3
/-- The greatest of the first k + 1 places at which f is at most n. -/
def lastLe (f : Int → Int) (n a : Int) : Nat → Int
  | 0 => a
  | k + 1 => if f (a + ((k + 1 : Nat) : Int)) ≤ n then a + ((k + 1 : Nat) : Int) else lastLe f n a k
theorem lastLe_spec (f : Int → Int) (n a : Int) (h : f a ≤ n) : ∀ (k : Nat), n < f (a + k + 1) → a ≤ lastLe f n a k ∧ lastLe f n a k ≤ a + k ∧ f (lastLe f n a k) ≤ n ∧ n < f (lastLe f n a k + 1)
  | 0, hn => by
    simp only [lastLe]
    have e : a + ((0 : Nat) : Int) = a := by omega
    rw [e] at hn ⊢
    exact ⟨Int.le_refl _, Int.le_refl _, h, hn⟩
  | k + 1, hn => by
    simp only [lastLe]
    by_cases c : f (a + ((k + 1 : Nat) : Int)) ≤ n
    · rw [if_pos c]; exact ⟨by omega, Int.le_refl _, c, hn⟩
    · rw [if_neg c]
      obtain ⟨p, q, r, s⟩ := lastLe_spec f n a h k (by rw [show a + (k : Int) + 1 = a + ((k + 1 : Nat) : Int) by omega]; omega)
      exact ⟨p, by omega, r, s⟩
/-- The date of a day. -/
def yOf (n : Int) : Int := lastLe st n 1900 300
def mOf (n : Int) : Int := lastLe (cum (yOf n)) (n - st (yOf n)) 1 11
def dOf (n : Int) : Int := n - st (yOf n) - cum (yOf n) (mOf n) + 1
theorem ofDay (n : Int) (h1 : -25567 ≤ n) (h2 : n ≤ 84370) : Vld (yOf n) (mOf n) (dOf n) ∧ num (yOf n) (mOf n) (dOf n) = n := by
  have s0 : st 1900 = -25567 := by decide
  have s1 : st 2201 = 84371 := by decide
  obtain ⟨a, b, c, d⟩ := lastLe_spec st n 1900 (by omega) 300 (by rw [show (1900 : Int) + ((300 : Nat) : Int) + 1 = 2201 by decide]; omega)
  change 1900 ≤ yOf n at a
  change yOf n ≤ 1900 + ((300 : Nat) : Int) at b
  change st (yOf n) ≤ n at c
  change n < st (yOf n + 1) at d
  have ss := st_succ (yOf n)
  have ce := cum_end (yOf n)
  obtain ⟨p, q, r, s⟩ := lastLe_spec (cum (yOf n)) (n - st (yOf n)) 1 (by rw [cum_one]; omega) 11 (by rw [show (1 : Int) + ((11 : Nat) : Int) + 1 = 13 by decide, ce]; omega)
  change 1 ≤ mOf n at p
  change mOf n ≤ 1 + ((11 : Nat) : Int) at q
  change cum (yOf n) (mOf n) ≤ n - st (yOf n) at r
  change n - st (yOf n) < cum (yOf n) (mOf n + 1) at s
  have cs := cum_succ (yOf n) (mOf n) p (by omega)
  have hd : dOf n = n - st (yOf n) - cum (yOf n) (mOf n) + 1 := rfl
  refine ⟨⟨a, by omega, by omega, by omega⟩, ?_⟩
  unfold num
  omega
theorem ofDay_of {n y m d : Int} (h : Vld y m d) (k : num y m d = n) : y = yOf n ∧ m = mOf n ∧ d = dOf n := by
  have b := num_bd h
  have o := ofDay n (by omega) (by omega)
  exact num_inj h o.1 (by rw [o.2, k])
def inD (n : Int) : Bool := decide (-25567 ≤ n ∧ n ≤ 84370)

/-- Which month it is, from January of 1900 on. -/
def mi (y m : Int) : Int := (y - 1900) * 12 + m - 1
def yO (t : Int) : Int := 1900 + t / 12
def mO (t : Int) : Int := t % 12 + 1
/-- The same day of the month, or its last one. -/
def dO (t d : Int) : Int := if dim (yO t) (mO t) < d then dim (yO t) (mO t) else d
def inM (t : Int) : Bool := decide (0 ≤ t ∧ t ≤ 3611)
theorem mi_bd {y m d : Int} (h : Vld y m d) : 0 ≤ mi y m ∧ mi y m ≤ 3611 := by
  have := h.y1; have := h.y2; have := h.m1; have := h.m2
  unfold mi; omega
theorem mi_O (t : Int) : mi (yO t) (mO t) = t := by unfold mi yO mO; omega
theorem O_mi {y m d : Int} (h : Vld y m d) : yO (mi y m) = y ∧ mO (mi y m) = m := by
  have := h.m1; have := h.m2
  unfold mi yO mO; omega
theorem O_bd (t : Int) (h1 : 0 ≤ t) (h2 : t ≤ 3611) : 1900 ≤ yO t ∧ yO t ≤ 2200 ∧ 1 ≤ mO t ∧ mO t ≤ 12 := by unfold yO mO; omega
theorem dO_bd (t d : Int) (h1 : 0 ≤ t) (h2 : t ≤ 3611) (hd : 1 ≤ d) : 1 ≤ dO t d ∧ dO t d ≤ dim (yO t) (mO t) ∧ dO t d ≤ d ∧ (dO t d = d ∨ dO t d = dim (yO t) (mO t)) ∧ (d ≤ 28 → dO t d = d) := by
  obtain ⟨a, b, c, e⟩ := O_bd t h1 h2
  have f := dim_bd (yO t) (mO t) c e
  unfold dO; split <;> omega
theorem O_vld (t d : Int) (h1 : 0 ≤ t) (h2 : t ≤ 3611) (hd : 1 ≤ d) : Vld (yO t) (mO t) (dO t d) := by
  obtain ⟨a, b, c, e⟩ := O_bd t h1 h2
  obtain ⟨p, q, _⟩ := dO_bd t d h1 h2 hd
  exact ⟨a, b, p, q⟩
theorem mi_lt {y m d y' m' d' : Int} (h : Vld y m d) (h' : Vld y' m' d') (k : mi y m < mi y' m') : num y m d < num y' m' d' := by
  apply num_lt h h'
  have := h.m1; have := h.m2; have := h'.m1; have := h'.m2
  unfold mi at k; omega
/-- What Add answers of a day, and of so many months. -/
def nA (n k : Int) : Int := if inD n = true ∧ inM (mi (yOf n) (mOf n) + k) = true then num (yO (mi (yOf n) (mOf n) + k)) (mO (mi (yOf n) (mOf n) + k)) (dO (mi (yOf n) (mOf n) + k) (dOf n)) else 0
def nE (n k : Int) : Int := if inD n = true ∧ inM (mi (yOf n) (mOf n) + k) = true then 0 else 5
/-- Is there an answer? -/
structure Has (n k : Int) : Prop where
  n1 : -25567 ≤ n
  n2 : n ≤ 84370
  t1 : 0 ≤ mi (yOf n) (mOf n) + k
  t2 : mi (yOf n) (mOf n) + k ≤ 3611
theorem has_iff (n k : Int) : (inD n = true ∧ inM (mi (yOf n) (mOf n) + k) = true) ↔ Has n k := by
  unfold inD inM
  simp only [decide_eq_true_eq]
  exact ⟨fun ⟨⟨a, b⟩, ⟨c, d⟩⟩ => ⟨a, b, c, d⟩, fun ⟨a, b, c, d⟩ => ⟨⟨a, b⟩, ⟨c, d⟩⟩⟩
theorem nE_ok {n k : Int} (h : Has n k) : nE n k = 0 := by unfold nE; rw [if_pos ((has_iff n k).2 h)]
theorem nE_no {n k : Int} (h : ¬ Has n k) : nE n k = 5 := by unfold nE; rw [if_neg (mt (has_iff n k).1 h)]
theorem nA_no {n k : Int} (h : ¬ Has n k) : nA n k = 0 := by unfold nA; rw [if_neg (mt (has_iff n k).1 h)]
theorem nA_ok {n k : Int} (h : Has n k) : nA n k = num (yO (mi (yOf n) (mOf n) + k)) (mO (mi (yOf n) (mOf n) + k)) (dO (mi (yOf n) (mOf n) + k) (dOf n)) := by unfold nA; rw [if_pos ((has_iff n k).2 h)]
theorem nE_two (n k : Int) : nE n k = 0 ∨ nE n k = 5 := by unfold nE; split <;> simp
theorem has_of {n k : Int} (h : nE n k = 0) : Has n k := by
  by_cases c : Has n k
  · exact c
  · rw [nE_no c] at h; omega
/-- What is answered, as a date. -/
theorem nA_date {n k : Int} (h : Has n k) : Vld (yOf (nA n k)) (mOf (nA n k)) (dOf (nA n k)) ∧ mi (yOf (nA n k)) (mOf (nA n k)) = mi (yOf n) (mOf n) + k ∧ dOf (nA n k) = dO (mi (yOf n) (mOf n) + k) (dOf n) ∧ -25567 ≤ nA n k ∧ nA n k ≤ 84370 := by
  obtain ⟨v, e⟩ := ofDay n h.n1 h.n2
  have V := O_vld _ _ h.t1 h.t2 v.d1
  obtain ⟨a, b, c⟩ := ofDay_of V (nA_ok h).symm
  have B := num_bd V
  rw [← nA_ok h] at B
  refine ⟨by rw [← a, ← b, ← c]; exact V, by rw [← a, ← b, mi_O], c.symm, B.1, B.2⟩
theorem nA_bd (n k : Int) : -25567 ≤ nA n k ∧ nA n k ≤ 84370 := by
  by_cases h : Has n k
  · exact ⟨(nA_date h).2.2.2.1, (nA_date h).2.2.2.2⟩
  · rw [nA_no h]; omega
end Go.Proofs.YtmlkccmkdgfalaaDoor.L3