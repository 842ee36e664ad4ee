/- Days of instalments of a product without holidays: they exist, they rise, each is open if it is rolled, and parts of a year lie between: plain arithmetic; no statement of the seat is proved here. -/
import Derived.Test.YtmlkccmkdgfalaaGreatDoorDu7
import Derived.Test.YtmlkccmkdgfalaaGreatDoorM4
namespace Go.Proofs.YtmlkccmkdgfalaaGreatDoor
open Go.RowKit
open L3 (inD yOf mOf dOf mi yO mO dO num st cum dim Has nA nE lp ofDay O_mi mi_lt nA_ok Vld)
open L4 (serA serE)
open L5 (opn sk rolP rlA rlE)
open L6 (plc plT plA d30)
set_option linter.unusedVariables false

/-- The first day of a month, by its place. -/
def fstM (t : Int) : Int := st (yO t) + cum (yO t) (mO t)
theorem fstM_next (t : Int) (h1 : 0 ≤ t) (h2 : t ≤ 3611) : fstM (t + 1) = fstM t + dim (yO t) (mO t) := by
  obtain ⟨a, b, c, e⟩ := L3.O_bd t h1 h2
  unfold fstM
  by_cases h : t % 12 = 11
  · have e1 : yO (t + 1) = yO t + 1 := by unfold yO; omega
    have e2 : mO (t + 1) = 1 := by unfold mO; omega
    have e3 : mO t = 12 := by unfold mO; omega
    rw [e1, e2, e3, L3.st_succ, L3.cum_one]
    have := L3.cum_succ (yO t) 12 (by omega) (by omega)
    rw [show (12 : Int) + 1 = 13 by rfl, L3.cum_end] at this
    omega
  · have e1 : yO (t + 1) = yO t := by unfold yO; omega
    have e2 : mO (t + 1) = mO t + 1 := by unfold mO; omega
    rw [e1, e2, L3.cum_succ (yO t) (mO t) c e]
    omega
def atM (t d : Int) : Int := num (yO t) (mO t) (dO t d)
theorem atM_eq (t d : Int) : atM t d = fstM t + dO t d - 1 := by unfold atM num fstM; omega
theorem atM_next (t d : Int) (h1 : 0 ≤ t) (h2 : t + 1 ≤ 3611) (hd : 1 ≤ d) : atM t d + 28 ≤ atM (t + 1) d := by
  rw [atM_eq, atM_eq, fstM_next t h1 (by omega)]
  obtain ⟨a, b, c, e⟩ := L3.O_bd t h1 (by omega)
  obtain ⟨a', b', c', e'⟩ := L3.O_bd (t + 1) (by omega) h2
  have f := L3.dim_bd (yO t) (mO t) c e
  have f' := L3.dim_bd (yO (t + 1)) (mO (t + 1)) c' e'
  unfold dO
  split <;> split <;> omega
theorem atM_up (t d : Int) (h1 : 0 ≤ t) (hd : 1 ≤ d) : ∀ k : Nat, t + ((k + 1 : Nat) : Int) ≤ 3611 → atM t d + 28 ≤ atM (t + ((k + 1 : Nat) : Int)) d
  | 0, h => atM_next t d h1 (by omega) hd
  | k + 1, h => by
    have ih := atM_up t d h1 hd k (by omega)
    have := atM_next (t + ((k + 1 : Nat) : Int)) d (by omega) (by omega) hd
    rw [show t + ((k + 1 : Nat) : Int) + 1 = t + ((k + 1 + 1 : Nat) : Int) by omega] at this
    omega
theorem gapA (n a b : Int) (h : Has n a) (k : Has n b) (hab : a < b) : nA n a + 28 ≤ nA n b := by
  rw [nA_ok h, nA_ok k]
  have v := (ofDay n h.n1 h.n2).1
  obtain ⟨j, hj⟩ : ∃ j : Nat, b = a + ((j + 1 : Nat) : Int) := ⟨(b - a - 1).toNat, by omega⟩
  have := atM_up (mi (yOf n) (mOf n) + a) (dOf n) h.t1 v.d1 j (by have := k.t2; omega)
  rw [show mi (yOf n) (mOf n) + a + ((j + 1 : Nat) : Int) = mi (yOf n) (mOf n) + b by omega] at this
  exact this
/-- Without holidays an open day is never far. -/
theorem open_of (n : Int) (h1 : -25567 ≤ n) (h2 : n ≤ 84370) (h : L3.wday n < 5) : opn [] n = true := (L5.opn_iff [] n).2 ⟨h1, h2, h, by simp⟩
theorem wk (n : Int) : ∃ a b, 0 ≤ a ∧ a ≤ 2 ∧ 0 ≤ b ∧ b ≤ 2 ∧ L3.wday (n + a) < 5 ∧ L3.wday (n - b) < 5 := by
  unfold L3.wday
  by_cases c : (n + 3) % 7 = 5
  · exact ⟨2, 1, by omega, by omega, by omega, by omega, by omega, by omega⟩
  · by_cases c' : (n + 3) % 7 = 6
    · exact ⟨1, 2, by omega, by omega, by omega, by omega, by omega, by omega⟩
    · exact ⟨0, 0, by omega, by omega, by omega, by omega, by omega, by omega⟩
theorem sk_near (n : Int) (h1 : -25500 ≤ n) (h2 : n ≤ 84300) : ((sk [] 1 n).2 = true ∧ opn [] (sk [] 1 n).1 = true ∧ n ≤ (sk [] 1 n).1 ∧ (sk [] 1 n).1 ≤ n + 2) ∧ ((sk [] (-1) n).2 = true ∧ opn [] (sk [] (-1) n).1 = true ∧ n - 2 ≤ (sk [] (-1) n).1 ∧ (sk [] (-1) n).1 ≤ n) := by
  obtain ⟨a, b, a1, a2, b1, b2, ha, hb⟩ := wk n
  have oa := open_of (n + a) (by omega) (by omega) ha
  have ob := open_of (n - b) (by omega) (by omega) hb
  constructor
  · rcases L5.sk_up [] (84371 - n).toNat n rfl (by omega) with ⟨x, y, z, u⟩ | ⟨x, y⟩
    · refine ⟨x, y, z, ?_⟩
      by_cases c : (sk [] 1 n).1 ≤ n + a
      · omega
      · rw [u (n + a) (by omega) (by omega)] at oa; cases oa
    · rw [y (n + a) (by omega)] at oa; cases oa
  · rcases L5.sk_dn [] (n + 25568).toNat n rfl (by omega) with ⟨x, y, z, u⟩ | ⟨x, y⟩
    · refine ⟨x, y, ?_, z⟩
      by_cases c : n - b ≤ (sk [] (-1) n).1
      · omega
      · rw [u (n - b) (by omega) (by omega)] at ob; cases ob
    · rw [y (n - b) (by omega)] at ob; cases ob
theorem rl_near (n how : Int) (h1 : -25500 ≤ n) (h2 : n ≤ 84300) (k1 : 1 ≤ how) (k2 : how ≤ 4) : rlE [] n how = 0 ∧ n - 2 ≤ rlA [] n how ∧ rlA [] n how ≤ n + 2 ∧ (how ≠ 1 → opn [] (rlA [] n how) = true) := by
  obtain ⟨⟨a1, a2, a3, a4⟩, ⟨b1, b2, b3, b4⟩⟩ := sk_near n h1 h2
  have hn := inD_of (n := n) (by omega) (by omega)
  have hE : rlE [] n how = if how = 1 then 0 else if (rolP [] n how).2 = true then 0 else 5 := by unfold rlE; rw [if_pos hn, if_pos ⟨k1, k2⟩]
  have hA : rlA [] n how = if how = 1 then n else if (rolP [] n how).2 = true then (rolP [] n how).1 else 0 := by unfold rlA; rw [if_pos ⟨hn, k1, k2⟩]
  by_cases e1 : how = 1
  · rw [if_pos e1] at hE hA
    rw [hE, hA]
    exact ⟨rfl, by omega, by omega, fun h => absurd e1 h⟩
  · have key : (rolP [] n how).2 = true ∧ n - 2 ≤ (rolP [] n how).1 ∧ (rolP [] n how).1 ≤ n + 2 ∧ opn [] (rolP [] n how).1 = true := by
      unfold rolP
      split
      · exact ⟨b1, b3, by omega, b2⟩
      · split
        · exact ⟨a1, by omega, a4, a2⟩
        · exact ⟨b1, b3, by omega, b2⟩
    rw [if_neg e1, if_pos key.1] at hE hA
    rw [hE, hA]
    exact ⟨rfl, key.2.1, key.2.2.1, fun _ => key.2.2.2⟩
/-- Some weeks further on there are more parts. -/
theorem plA_up (n : Int) (h1 : -25567 ≤ n) : ∀ k : Nat, n + ((k + 1 : Nat) : Int) ≤ 84370 → plA n < plA (n + ((k + 1 : Nat) : Int))
  | 0, h => by
    have := L6.plA_next n h1 (by omega)
    have p := L6.dpt_lp (yOf n)
    have l := L3.lp_01 (yOf n)
    rw [show n + ((0 + 1 : Nat) : Int) = n + 1 by omega]
    omega
  | k + 1, h => by
    have ih := plA_up n h1 k (by omega)
    have := L6.plA_next (n + ((k + 1 : Nat) : Int)) (by omega) (by omega)
    have p := L6.dpt_lp (yOf (n + ((k + 1 : Nat) : Int)))
    have l := L3.lp_01 (yOf (n + ((k + 1 : Nat) : Int)))
    rw [show n + ((k + 1 + 1 : Nat) : Int) = n + ((k + 1 : Nat) : Int) + 1 by omega]
    omega
theorem plT_up (a b : Int) (h1 : -25567 ≤ a) (h2 : b ≤ 84370) (h : a + 24 ≤ b) : plT a < plT b := by
  obtain ⟨v, e⟩ := ofDay a h1 (by omega)
  obtain ⟨u, f⟩ := ofDay b (by omega) h2
  have c1 : ¬ mi (yOf b) (mOf b) < mi (yOf a) (mOf a) := fun k => by
    have := mi_lt u v k
    omega
  have x1 := v.d1; have x2 := u.d1
  have y1 := v.d31; have y2 := u.d31
  have m1 := v.m1; have m2 := v.m2; have m3 := u.m1; have m4 := u.m2
  unfold mi at c1
  unfold plT d30
  by_cases c2 : (yOf b - 1900) * 12 + mOf b - 1 = (yOf a - 1900) * 12 + mOf a - 1
  · have hy : yOf b = yOf a := by omega
    have hm : mOf b = mOf a := by omega
    rw [hy, hm] at f ⊢
    unfold num at e f
    split <;> split <;> omega
  · split <;> split <;> omega
theorem plc_up (c a b : Int) (k1 : 1 ≤ c) (k2 : c ≤ 3) (h1 : -25567 ≤ a) (h2 : b ≤ 84370) (h : a + 24 ≤ b) : plc c a < plc c b := by
  obtain rfl | rfl | rfl : c = 1 ∨ c = 2 ∨ c = 3 := by omega
  · rw [L6.plc_1, L6.plc_1]; exact plT_up a b h1 h2 h
  · rw [L6.plc_2, L6.plc_2]; omega
  · rw [L6.plc_3, L6.plc_3]
    have := plA_up a h1 (b - a - 1).toNat (by omega)
    rwa [show a + (((b - a - 1).toNat + 1 : Nat) : Int) = b by omega] at this
theorem has_k (n x : Int) (h1 : 10000 ≤ n) (h2 : n ≤ 19999) (a1 : 0 ≤ x) (a2 : x ≤ 480) : Has n x ∧ nA n x ≤ 60000 := by
  have s : st (2030 + 1) = 22280 := by decide
  have m := L4.mi_of n 2030 (by omega) (by omega) (by omega)
  have b := L3.mi_bd (ofDay n (by omega) (by omega)).1
  have h : Has n x := ⟨by omega, by omega, by omega, by omega⟩
  refine ⟨h, ?_⟩
  obtain ⟨V, e1, e2, c1, c2⟩ := L3.nA_date h
  have hv := (ofDay _ c1 c2).2
  by_cases hb : nA n x ≤ 60000
  · exact hb
  · exfalso
    have s2 : st (2100 + 1) = 47847 := by decide
    have y := L6.yOf_sp (nA n x) c1 c2
    have hy : ¬ yOf (nA n x) ≤ 2100 := fun k => by
      have := L3.st_mono (yOf (nA n x) + 1) (2100 + 1) (by omega)
      omega
    have := V.m1; have := V.m2
    unfold mi at e1 m b
    omega
/-- What is known of the days of a product without holidays. -/
structure Far (q : Prd) (s : Int) : Prop where
  due : Due q s 0
  far : ∀ k, k < duT q → pv s (duF q s) k + 24 ≤ duF q s k
  opn : q.rl ≠ 1 → ∀ k, k < duT q → opn [] (duF q s k) = true
  lo : ∀ k, k < duT q → -25567 ≤ duF q s k ∧ duF q s k ≤ 84370
  pos : ∀ k, k < duT q → 0 < paF q.cn s (duF q s) k
theorem far_of (q : Prd) (s : Int) (hok : okP q = true) (ht : q.tm ≤ 40) (hh : q.hd = []) (h1 : 10000 ≤ s) (h2 : s ≤ 19999) : Far q s := by
  have hev := (okf hok).ev
  have hrl := (okf hok).rl
  have hcn := (okf hok).cn
  obtain ⟨t0, t1, t2⟩ := tm_T hok
  have hT : duT q ≤ 40 := by omega
  have hx : ∀ k : Nat, k ≤ duT q → 0 ≤ q.ev * (k : Int) ∧ q.ev * (k : Int) ≤ 480 := fun k hk => by
    have a : q.ev * 0 ≤ q.ev * (k : Int) := Int.mul_le_mul_of_nonneg_left (by omega) (by omega)
    have c : q.ev * (k : Int) ≤ 12 * (k : Int) := Int.mul_le_mul_of_nonneg_right hev.2 (by omega)
    omega
  have hH : ∀ k : Nat, k ≤ duT q → Has s (q.ev * (k : Int)) ∧ nA s (q.ev * (k : Int)) ≤ 60000 := fun k hk => has_k s _ h1 h2 (hx k hk).1 (hx k hk).2
  have h0 : nA s (q.ev * ((0 : Nat) : Int)) = s := by
    have e : q.ev * ((0 : Nat) : Int) = 0 := by simp
    rw [e]
    exact L4.nA_zero s (L4.has_zero s (by omega) (by omega))
  have hgap : ∀ k : Nat, k < duT q → nA s (q.ev * (k : Int)) + 28 ≤ nA s (q.ev * ((k + 1 : Nat) : Int)) := fun k hk => by
    refine gapA s _ _ (hH k (by omega)).1 (hH (k + 1) hk).1 ?_
    exact Int.mul_lt_mul_of_pos_left (by omega) (by omega)
  have hlow : ∀ k : Nat, k ≤ duT q → s ≤ nA s (q.ev * (k : Int)) := by
    intro k
    induction k with
    | zero => intro _; rw [h0]; exact Int.le_refl _
    | succ k ih => intro hk; have := ih (by omega); have := hgap k hk; omega
  have hser : ∀ k : Nat, serA s q.ev k = nA s (q.ev * ((k + 1 : Nat) : Int)) := fun k => by
    unfold serA
    rw [show ((k + 1 : Nat) : Int) = (k : Int) + 1 by omega]
  have hnear : ∀ k : Nat, k < duT q → rlE q.hd (serA s q.ev k) q.rl = 0 ∧ serA s q.ev k - 2 ≤ duF q s k ∧ duF q s k ≤ serA s q.ev k + 2 ∧ (q.rl ≠ 1 → opn [] (duF q s k) = true) := fun k hk => by
    have a := hlow (k + 1) hk
    have b := (hH (k + 1) hk).2
    have := rl_near (serA s q.ev k) q.rl (by rw [hser]; omega) (by rw [hser]; omega) hrl.1 hrl.2
    unfold duF
    rw [hh]
    exact this
  have hfar : ∀ k, k < duT q → pv s (duF q s) k + 24 ≤ duF q s k := fun k hk => by
    have a := hnear k hk
    have g := hgap k hk
    rw [hser k] at a
    cases k with
    | zero =>
      show s + 24 ≤ _
      rw [h0] at g
      omega
    | succ k =>
      show duF q s k + 24 ≤ _
      have b := hnear k (by omega)
      rw [hser k] at b
      omega
  have hlo : ∀ k, k < duT q → -25567 ≤ duF q s k ∧ duF q s k ≤ 84370 := fun k hk => by
    have a := hnear k hk
    have b := (hH (k + 1) hk).2
    have c := hlow (k + 1) hk
    rw [hser k] at a
    omega
  refine ⟨.ok hok ⟨by omega, by omega, fun j hj => ?_⟩ (fun j hj => (hnear j hj).1) (fun j hj => by have := hfar j hj; omega), hfar, fun hr k hk => (hnear k hk).2.2.2 hr, hlo, fun k hk => ?_⟩
  · have := (hH (j + 1) hj).1
    unfold serE
    rw [show (j : Int) + 1 = ((j + 1 : Nat) : Int) by omega]
    exact L3.nE_ok this
  · have := plc_up q.cn (pv s (duF q s) k) (duF q s k) hcn.1 hcn.2 (by
      cases k with
      | zero => show -25567 ≤ s; omega
      | succ k => exact (hlo k (by omega)).1) (hlo k hk).2 (hfar k hk)
    unfold paF
    omega
theorem ok_roll {q : Prd} (h : okP q = true) {r : Int} (h1 : 1 ≤ r) (h2 : r ≤ 4) : okP { q with rl := r, hd := [] } = true := by
  obtain ⟨a0, a1, a2, a3, a4, a5, a6, a7, a8, a9, a10⟩ := ok_parts h
  obtain ⟨b0, b1, b2, b3, b4⟩ := r1_parts a1
  exact ok_of ⟨a0, r1_of ⟨b0, b1, b2, b3, lz_of h1 h2⟩, a2, a3, a4, a5, a6, a7, a8, a9, by show L8.r10B r [] = true; unfold L8.r10B; split <;> rfl⟩
/-- The parts up to a day, all in all. -/
def suP (c s : Int) (f : Nat → Int) : Nat → Int
  | 0 => 0
  | k + 1 => suP c s f k + paF c s f k
theorem suP_eq (c s : Int) (f : Nat → Int) : ∀ k, suP c s f k = plc c (pv s f k) - plc c s
  | 0 => by show 0 = plc c s - plc c s; omega
  | k + 1 => by
    show suP c s f k + (plc c (f k) - plc c (pv s f k)) = plc c (f k) - plc c s
    rw [suP_eq c s f k]; omega
theorem pv_in {q : Prd} {s : Int} (h : Far q s) (h1 : 10000 ≤ s) (h2 : s ≤ 19999) (k : Nat) (hk : k ≤ duT q) : -25567 ≤ pv s (duF q s) k ∧ pv s (duF q s) k ≤ 84370 := by
  cases k with
  | zero => show -25567 ≤ s ∧ s ≤ 84370; omega
  | succ k => exact h.lo k hk
theorem suP_bd {q : Prd} {s : Int} (h : Far q s) (h1 : 10000 ≤ s) (h2 : s ≤ 19999) (k : Nat) (hk : k ≤ duT q) : -800000000 ≤ suP q.cn s (duF q s) k ∧ suP q.cn s (duF q s) k ≤ 800000000 := by
  rw [suP_eq]
  have a := pv_in h h1 h2 k hk
  have b := L6.plc_bd q.cn a.1 a.2
  have c := L6.plc_bd q.cn (n := s) (by omega) (by omega)
  omega
theorem far_s {q : Prd} {s : Int} (h : Far q s) : ∀ k, k < duT q → s < duF q s k
  | 0, hk => by have := h.far 0 hk; change s + 24 ≤ _ at this; omega
  | k + 1, hk => by
    have a := far_s h k (by omega)
    have := h.far (k + 1) hk
    change duF q s k + 24 ≤ _ at this
    omega
end Go.Proofs.YtmlkccmkdgfalaaGreatDoor
