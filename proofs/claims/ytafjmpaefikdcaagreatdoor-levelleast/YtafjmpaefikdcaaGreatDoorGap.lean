
/- How many parts of a year lie between two days of instalments, at most: plain arithmetic; no program is spoken of here. -/
import Derived.Test.YtafjmpaefikdcaaGreatDoorDu0
import Derived.Test.YtafjmpaefikdcaaGreatDoorM6
import Derived.Test.YtafjmpaefikdcaaGreatDoorM4
namespace Go.Proofs.YtafjmpaefikdcaaGreatDoor
open L3 (inD yOf mOf dOf mi yO mO dO num st cum dim Has nA nE lp ofDay nA_ok Vld)
open L4 (serA serE)
open L5 (opn sk rolP rlA rlE)
open L6 (plc plT plA d30)
set_option linter.unusedVariables false

/-- What is told apart, and lies in a list, is no more than the list has. -/
theorem sub_len : ∀ (a b : List Int), a.Pairwise (· ≠ ·) → (∀ x ∈ a, x ∈ b) → a.length ≤ b.length
  | [], b, _, _ => Nat.zero_le _
  | x :: t, b, hp, hm => by
    have hx := hm x (List.mem_cons_self ..)
    have hp' := List.pairwise_cons.1 hp
    have := sub_len t (b.erase x) hp'.2 (fun y hy => (List.mem_erase_of_ne (fun e => hp'.1 y hy e.symm)).2 (hm y (List.mem_cons_of_mem _ hy)))
    have e := List.length_erase_of_mem hx
    have p : 0 < b.length := List.length_pos_of_mem hx
    simp only [List.length_cons]
    omega
/-- The days of a week's first five, from a Monday on. -/
def wkd (n : Int) (k : Nat) : Int := n + 7 * ((k / 5 : Nat) : Int) + ((k % 5 : Nat) : Int)
theorem few_shut (l : List Int) (hl : l.length ≤ 200) (n : Int) (h1 : -25567 ≤ n) (h2 : n + 286 ≤ 84370) (h : ∀ k, n ≤ k → k ≤ n + 286 → opn l k = false) : False := by
  obtain ⟨m, hm1, hm2, hm3⟩ : ∃ m, n ≤ m ∧ m ≤ n + 6 ∧ L3.wday m = 0 := ⟨n + (7 - (n + 3) % 7) % 7, by omega, by omega, by unfold L3.wday; omega⟩
  unfold L3.wday at hm3
  have hk : ∀ k : Nat, k < 201 → wkd m k ∈ l := fun k hk => by
    have a1 : n ≤ wkd m k := by unfold wkd; omega
    have a2 : wkd m k ≤ n + 286 := by unfold wkd; omega
    have a3 : L3.wday (wkd m k) < 5 := by unfold L3.wday wkd; omega
    have := h (wkd m k) a1 a2
    by_cases c : wkd m k ∈ l
    · exact c
    · have := (L5.opn_iff l (wkd m k)).2 ⟨by omega, by omega, a3, c⟩
      rw [h (wkd m k) a1 a2] at this
      cases this
  have := sub_len ((List.range 201).map (wkd m)) l (by
    refine List.pairwise_map.2 (List.pairwise_lt_range.imp fun {a b} hab => ?_)
    unfold wkd
    omega) (fun x hx => by
      obtain ⟨k, hk1, rfl⟩ := List.mem_map.1 hx
      exact hk k (List.mem_range.1 hk1))
  simp only [List.length_map, List.length_range] at this
  omega
theorem sk_far_up (l : List Int) (hl : l.length ≤ 200) (n : Int) (h1 : -25567 ≤ n) (h : (sk l 1 n).2 = true) : n ≤ (sk l 1 n).1 ∧ (sk l 1 n).1 ≤ n + 286 := by
  rcases L5.sk_up l (84371 - n).toNat n rfl h1 with ⟨x, y, z, u⟩ | ⟨x, y⟩
  · refine ⟨z, ?_⟩
    by_cases c : (sk l 1 n).1 ≤ n + 286
    · exact c
    · have := (L5.opn_iff l _).1 y
      exact (few_shut l hl n h1 (by omega) fun k k1 k2 => u k k1 (by omega)).elim
  · rw [x] at h; cases h
theorem sk_far_dn (l : List Int) (hl : l.length ≤ 200) (n : Int) (h1 : n ≤ 84370) (h : (sk l (-1) n).2 = true) : (sk l (-1) n).1 ≤ n ∧ n - 286 ≤ (sk l (-1) n).1 := by
  rcases L5.sk_dn l (n + 25568).toNat n rfl h1 with ⟨x, y, z, u⟩ | ⟨x, y⟩
  · refine ⟨z, ?_⟩
    by_cases c : n - 286 ≤ (sk l (-1) n).1
    · exact c
    · have := (L5.opn_iff l _).1 y
      exact (few_shut l hl (n - 286) (by omega) (by omega) fun k k1 k2 => u k (by omega) (by omega)).elim
  · rw [x] at h; cases h
theorem same_near {a b : Int} (ha1 : -25567 ≤ a) (ha2 : a ≤ 84370) (hb1 : -25567 ≤ b) (hb2 : b ≤ 84370) (h : L5.sameM a b = true) : b ≤ a + 30 := by
  obtain ⟨v, e⟩ := ofDay a ha1 ha2
  obtain ⟨u, f⟩ := ofDay b hb1 hb2
  have x1 := v.d1; have x2 := u.d1
  have m1 := u.m1; have m2 := u.m2
  have := L3.dim_bd (yOf b) (mOf b) m1 m2
  have d2 := u.d2
  unfold L5.sameM at h
  simp only [Bool.and_eq_true, decide_eq_true_eq] at h
  rw [h.1, h.2] at e
  unfold num at e f
  omega
/-- What is rolled lies between these, by how it is rolled. -/
theorem rl_bd (l : List Int) (hl : l.length ≤ 200) (how : Int) (k1 : 1 ≤ how) (k2 : how ≤ 4) : ∃ lo hi : Int, lo ≤ 0 ∧ hi ≤ 286 ∧ hi - lo ≤ 316 ∧ ∀ n, rlE l n how = 0 → n + lo ≤ rlA l n how ∧ rlA l n how ≤ n + hi := by
  have key : ∀ n, rlE l n how = 0 → (-25567 ≤ n ∧ n ≤ 84370) ∧ ((how = 1 ∧ rlA l n how = n) ∨ (how ≠ 1 ∧ (rolP l n how).2 = true ∧ rlA l n how = (rolP l n how).1)) := fun n h => by
    have hA : rlA l n how = if inD n = true ∧ 1 ≤ how ∧ how ≤ 4 then (if how = 1 then n else if (rolP l n how).2 = true then (rolP l n how).1 else 0) else 0 := rfl
    unfold rlE at h
    split at h
    · rename_i hi
      rw [if_pos ⟨k1, k2⟩] at h
      rw [if_pos ⟨hi, k1, k2⟩] at hA
      refine ⟨(L6.inD_iff n).1 hi, ?_⟩
      split at h
      · rename_i e
        rw [if_pos e] at hA
        exact Or.inl ⟨e, hA⟩
      · rename_i e
        rw [if_neg e] at hA
        split at h
        · rename_i r
          rw [if_pos r] at hA
          exact Or.inr ⟨e, r, hA⟩
        · omega
    · omega
  obtain rfl | rfl | rfl | rfl : how = 1 ∨ how = 2 ∨ how = 3 ∨ how = 4 := by omega
  · refine ⟨0, 0, by omega, by omega, by omega, fun n h => ?_⟩
    rcases (key n h).2 with ⟨_, e⟩ | ⟨e, _⟩
    · omega
    · exact absurd rfl e
  · refine ⟨0, 286, by omega, by omega, by omega, fun n h => ?_⟩
    obtain ⟨hn, ⟨e, _⟩ | ⟨_, r, e⟩⟩ := key n h
    · omega
    · have p : rolP l n 2 = sk l 1 n := by unfold rolP; rw [if_neg (by omega), if_pos (Or.inl rfl)]
      rw [p] at r e
      have := sk_far_up l hl n hn.1 r
      omega
  · refine ⟨-286, 30, by omega, by omega, by omega, fun n h => ?_⟩
    obtain ⟨hn, ⟨e, _⟩ | ⟨_, r, e⟩⟩ := key n h
    · omega
    · by_cases c : (sk l 1 n).2 = true ∧ L5.sameM n (sk l 1 n).1 = true
      · have p : rolP l n 3 = sk l 1 n := by unfold rolP; rw [if_neg (by omega), if_pos (Or.inr c)]
        rw [p] at r e
        have q := sk_far_up l hl n hn.1 r
        have b : (sk l 1 n).1 ≤ 84370 := by
          rcases L5.sk_up l (84371 - n).toNat n rfl hn.1 with ⟨x, y, z, u⟩ | ⟨x, y⟩
          · exact ((L5.opn_iff l _).1 y).2.1
          · rw [x] at r; cases r
        have := same_near hn.1 hn.2 (by omega) b c.2
        omega
      · have p : rolP l n 3 = sk l (-1) n := by unfold rolP; rw [if_neg (by omega), if_neg (by rintro (h | h); omega; exact c h)]
        rw [p] at r e
        have := sk_far_dn l hl n hn.2 r
        omega
  · refine ⟨-286, 0, by omega, by omega, by omega, fun n h => ?_⟩
    obtain ⟨hn, ⟨e, _⟩ | ⟨_, r, e⟩⟩ := key n h
    · omega
    · have p : rolP l n 4 = sk l (-1) n := by unfold rolP; rw [if_pos rfl]
      rw [p] at r e
      have := sk_far_dn l hl n hn.2 r
      omega
/-- The first day of a month, by its place. -/
def fsM (t : Int) : Int := st (yO t) + cum (yO t) (mO t)
theorem fsM_next (t : Int) (h1 : 0 ≤ t) (h2 : t ≤ 3611) : fsM (t + 1) = fsM t + dim (yO t) (mO t) := by
  obtain ⟨a, b, c, e⟩ := L3.O_bd t h1 h2
  unfold fsM
  by_cases h : t % 12 = 11
  · have e1 : yO (t + 1) = yO t + 1 := by unfold yO; omega
    have e2 : mO (t + 1) = 1 := by unfold mO; omega
    have e3 : mO t = 12 := by unfold mO; omega
    rw [e1, e2, e3, L3.st_succ, L3.cum_one]
    have := L3.cum_succ (yO t) 12 (by omega) (by omega)
    rw [show (12 : Int) + 1 = 13 by rfl, L3.cum_end] at this
    omega
  · have e1 : yO (t + 1) = yO t := by unfold yO; omega
    have e2 : mO (t + 1) = mO t + 1 := by unfold mO; omega
    rw [e1, e2, L3.cum_succ (yO t) (mO t) c e]
    omega
def atN (t d : Int) : Int := num (yO t) (mO t) (dO t d)
theorem atN_eq (t d : Int) : atN t d = fsM t + dO t d - 1 := by unfold atN num fsM; omega
theorem atN_next (t d : Int) (h1 : 0 ≤ t) (h2 : t + 1 ≤ 3611) (hd : 1 ≤ d) : atN (t + 1) d ≤ atN t d + 31 := by
  rw [atN_eq, atN_eq, fsM_next t h1 (by omega)]
  obtain ⟨a, b, c, e⟩ := L3.O_bd t h1 (by omega)
  obtain ⟨a', b', c', e'⟩ := L3.O_bd (t + 1) (by omega) h2
  have f := L3.dim_bd (yO t) (mO t) c e
  have f' := L3.dim_bd (yO (t + 1)) (mO (t + 1)) c' e'
  unfold dO
  split <;> split <;> omega
theorem atN_up (t d : Int) (h1 : 0 ≤ t) (hd : 1 ≤ d) : ∀ k : Nat, t + (k : Int) ≤ 3611 → atN (t + (k : Int)) d ≤ atN t d + 31 * (k : Int)
  | 0, h => by rw [show t + ((0 : Nat) : Int) = t by omega]; omega
  | k + 1, h => by
    have ih := atN_up t d h1 hd k (by omega)
    have := atN_next (t + (k : Int)) d (by omega) (by omega) hd
    rw [show t + (k : Int) + 1 = t + ((k + 1 : Nat) : Int) by omega] at this
    omega
theorem gapN (n a b : Int) (h : Has n a) (k : Has n b) (hab : a ≤ b) (h12 : b ≤ a + 12) : nA n b ≤ nA n a + 372 := by
  rw [nA_ok h, nA_ok k]
  have v := (ofDay n h.n1 h.n2).1
  obtain ⟨j, hj⟩ : ∃ j : Nat, b = a + (j : Int) := ⟨(b - a).toNat, by omega⟩
  have := atN_up (mi (yOf n) (mOf n) + a) (dOf n) h.t1 v.d1 j (by have := k.t2; omega)
  rw [show mi (yOf n) (mOf n) + a + (j : Int) = mi (yOf n) (mOf n) + b by omega] at this
  unfold atN at this
  omega
theorem plA_most (n : Int) (h1 : -25567 ≤ n) : ∀ k : Nat, n + (k : Int) ≤ 84370 → plA n ≤ plA (n + (k : Int)) ∧ plA (n + (k : Int)) ≤ plA n + 366 * (k : Int)
  | 0, h => by rw [show n + ((0 : Nat) : Int) = n by omega]; omega
  | k + 1, h => by
    have ih := plA_most n h1 k (by omega)
    have := L6.plA_next (n + (k : Int)) (by omega) (by omega)
    have p := L6.dpt_lp (yOf (n + (k : Int)))
    have l := L3.lp_01 (yOf (n + (k : Int)))
    rw [show n + ((k + 1 : Nat) : Int) = n + (k : Int) + 1 by omega]
    omega
theorem plT_most (a b : Int) (h1 : -25567 ≤ a) (h2 : b ≤ 84370) (h : a ≤ b) : plT a ≤ plT b ∧ plT b ≤ plT a + 200000 := by
  obtain ⟨v, e⟩ := ofDay a h1 (by omega)
  obtain ⟨u, f⟩ := ofDay b (by omega) h2
  have c1 : ¬ mi (yOf b) (mOf b) < mi (yOf a) (mOf a) := fun k => by
    have := L3.mi_lt u v k
    omega
  have x1 := v.d1; have x2 := u.d1
  have y1 := v.d31; have y2 := u.d31
  have m1 := v.m1; have m2 := v.m2; have m3 := u.m1; have m4 := u.m2
  have n1 := v.y1; have n2 := v.y2; have n3 := u.y1; have n4 := u.y2
  unfold mi at c1
  unfold plT d30
  by_cases c2 : (yOf b - 1900) * 12 + mOf b - 1 = (yOf a - 1900) * 12 + mOf a - 1
  · have hy : yOf b = yOf a := by omega
    have hm : mOf b = mOf a := by omega
    rw [hy, hm] at f ⊢
    unfold num at e f
    split <;> split <;> omega
  · split <;> split <;> omega
theorem plc_most (c a b : Int) (k1 : 1 ≤ c) (k2 : c ≤ 3) (h1 : -25567 ≤ a) (h2 : b ≤ 84370) (h : a ≤ b) (h3 : b ≤ a + 730) : 0 ≤ plc c b - plc c a ∧ plc c b - plc c a ≤ 267180 := by
  obtain rfl | rfl | rfl : c = 1 ∨ c = 2 ∨ c = 3 := by omega
  · rw [L6.plc_1, L6.plc_1]; have := plT_most a b h1 h2 h; omega
  · rw [L6.plc_2, L6.plc_2]; omega
  · rw [L6.plc_3, L6.plc_3]
    have := plA_most a h1 (b - a).toNat (by omega)
    rw [show a + (((b - a).toNat : Nat) : Int) = b by omega] at this
    omega
theorem nA_nil (n : Int) (h : Has n 0) : nA n 0 = n := by
  obtain ⟨v, e⟩ := ofDay n h.n1 h.n2
  obtain ⟨o1, o2⟩ := L3.O_mi v
  rw [nA_ok h, Int.add_zero, o1, o2]
  have d2 := v.d2
  have : dO (mi (yOf n) (mOf n)) (dOf n) = dOf n := by unfold dO; rw [o1, o2, if_neg (by omega)]
  rw [this, e]
theorem has_nil (n : Int) (h1 : -25567 ≤ n) (h2 : n ≤ 84370) : Has n 0 := by
  have b := L3.mi_bd (ofDay n h1 h2).1
  exact ⟨h1, h2, by omega, by omega⟩
/-- What lies between two days of instalments may be asked of a bearer. -/
theorem paF_bd (q : Prd) (s : Int) (h : Due q s 0) (k : Nat) (hk : k < duT q) : 0 ≤ paF q.cn s (duF q s) k ∧ paF q.cn s (duF q s) k ≤ 267180 := by
  cases h with
  | ok hok hD hR hn =>
    have hev := (okf hok).ev
    have hrl := (okf hok).rl
    have hcn := (okf hok).cn
    have hl : q.hd.length ≤ 200 := by
      have := rgt_of hok
      unfold L5.rgt at this
      simp only [Bool.and_eq_true, decide_eq_true_eq] at this
      exact this.2
    obtain ⟨lo, hi, l1, l2, l3, hB⟩ := rl_bd q.hd hl q.rl hrl.1 hrl.2
    have hin : ∀ j, j < duT q → -25567 ≤ duF q s j ∧ duF q s j ≤ 84370 := fun j hj => rlA_in q.hd (serA s q.ev j) q.rl (hR j hj)
    have hH : ∀ j, j < duT q → Has s (q.ev * ((j : Int) + 1)) := fun j hj => L3.has_of (hD.all j hj)
    have hr := hB (serA s q.ev k) (hR k hk)
    have hpos := hn k hk
    have hgap : pv s (duF q s) k < duF q s k ∧ duF q s k ≤ pv s (duF q s) k + 730 ∧ -25567 ≤ pv s (duF q s) k := by
      refine ⟨hpos, ?_⟩
      cases k with
      | zero =>
        have h0 : nA s 0 = s := nA_nil s (has_nil s hD.n1 hD.n2)
        have g := gapN s 0 (q.ev * (((0 : Nat) : Int) + 1)) (has_nil s hD.n1 hD.n2) (hH 0 hk) (by omega) (by omega)
        rw [h0] at g
        have e : serA s q.ev 0 = nA s (q.ev * (((0 : Nat) : Int) + 1)) := rfl
        have e2 : duF q s 0 = rlA q.hd (serA s q.ev 0) q.rl := rfl
        have := hD.n1
        show duF q s 0 ≤ s + 730 ∧ -25567 ≤ s
        omega
      | succ j =>
        have hj : j < duT q := by omega
        have r2 := hB (serA s q.ev j) (hR j hj)
        have x1 : q.ev * (((j + 1 : Nat) : Int) + 1) = q.ev * ((j : Int) + 1) + q.ev := by
          rw [show (((j + 1 : Nat) : Int) + 1) = ((j : Int) + 1) + 1 by omega, Int.mul_add, Int.mul_one]
        have g := gapN s (q.ev * ((j : Int) + 1)) (q.ev * (((j + 1 : Nat) : Int) + 1)) (hH j hj) (hH (j + 1) hk) (by rw [x1]; omega) (by rw [x1]; omega)
        have e : serA s q.ev (j + 1) = nA s (q.ev * (((j + 1 : Nat) : Int) + 1)) := rfl
        have e1 : serA s q.ev j = nA s (q.ev * ((j : Int) + 1)) := rfl
        have e2 : duF q s (j + 1) = rlA q.hd (serA s q.ev (j + 1)) q.rl := rfl
        have e3 : duF q s j = rlA q.hd (serA s q.ev j) q.rl := rfl
        have := (hin j hj).1
        show duF q s (j + 1) ≤ duF q s j + 730 ∧ -25567 ≤ duF q s j
        omega
    exact plc_most q.cn _ _ hcn.1 hcn.2 hgap.2.2 (hin k hk).2 (by omega) hgap.2.1
end Go.Proofs.YtafjmpaefikdcaaGreatDoor
