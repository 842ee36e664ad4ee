
/- The walk of an instalment, in plain numbers, and the least instalment that leaves nothing: no program is spoken of here. -/
import Derived.Test.YtafjmpaefikdcaaGreatDoorL12Bp
namespace Go.Proofs.YtafjmpaefikdcaaGreatDoor
open L12 (Rst bq br rnd)
set_option linter.unusedVariables false

/-- Where a walk ends: from the k-th part on, with the balance B and the rest R; the first g parts leave the balance as it is. -/
def wk (m W rt x g : Int) : List Int → Nat → Int → Int → Int
  | [], _, B, _ => B
  | n :: l, k, B, R =>
    if bq m W R (B * (rt * n)) ≤ 1000000000000000 then
      if (k : Int) < g then wk m W rt x g l (k + 1) B (br m W R (B * (rt * n)))
      else if B + bq m W R (B * (rt * n)) - x ≤ 0 then B + bq m W R (B * (rt * n)) - x
      else if B + bq m W R (B * (rt * n)) - x ≤ 1000000000000000 then wk m W rt x g l (k + 1) (B + bq m W R (B * (rt * n)) - x) (br m W R (B * (rt * n)))
      else 1000000000000001
    else 1000000000000001

/-- The balance that a total is: of HalfUp the nearest one, of Down the one below. -/
theorem tot_le {m W A B r s : Int} (hr : Rst m W r) (hs : Rst m W s) (hW : 0 < W) (h : A * W + r ≤ B * W + s) : A ≤ B := by
  by_cases c : A ≤ B
  · exact c
  · exfalso
    have h1 : (B + 1) * W ≤ A * W := Int.mul_le_mul_of_nonneg_right (by omega) (by omega)
    rw [Int.add_mul] at h1
    rcases hr with ⟨rfl, a, b⟩ | ⟨rfl, a, b⟩ <;> rcases hs with ⟨e, c, d⟩ | ⟨e, c, d⟩ <;> omega
theorem tot_lt {m W A B r s : Int} (hr : Rst m W r) (hs : Rst m W s) (hW : 0 < W) (h : A < B) : A * W + r ≤ B * W + s := by
  have h1 : (A + 1) * W ≤ B * W := Int.mul_le_mul_of_nonneg_right (by omega) (by omega)
  rw [Int.add_mul] at h1
  rcases hr with ⟨rfl, a, b⟩ | ⟨rfl, a, b⟩ <;> rcases hs with ⟨e, c, d⟩ | ⟨e, c, d⟩ <;> omega
theorem bq_r {m W r s E : Int} (hr : Rst m W r) (hs : Rst m W s) (hW : 0 < W) : bq m W r E ≤ bq m W s E + 1 ∧ (r ≤ s → bq m W r E ≤ bq m W s E) := by
  have h1 := L12.br_rst (E := E) hr hW
  have h2 := L12.br_rst (E := E) hs hW
  have e1 : br m W r E = E + r - W * bq m W r E := rfl
  have e2 : br m W s E = E + s - W * bq m W s E := rfl
  rw [e1] at h1
  rw [e2] at h2
  obtain ⟨u, hu⟩ : ∃ u, bq m W r E = u := ⟨_, rfl⟩
  obtain ⟨v, hv⟩ : ∃ v, bq m W s E = v := ⟨_, rfl⟩
  rw [hu] at h1 ⊢
  rw [hv] at h2 ⊢
  constructor
  · by_cases c : u ≤ v + 1
    · exact c
    · exfalso
      have h3 : W * (v + 2) ≤ W * u := Int.mul_le_mul_of_nonneg_left (by omega) (by omega)
      rw [Int.mul_add] at h3
      rcases hr with ⟨rfl, a, b⟩ | ⟨rfl, a, b⟩ <;> rcases hs with ⟨e, c, d⟩ | ⟨e, c, d⟩ <;> rcases h1 with ⟨e3, a1, b1⟩ | ⟨e3, a1, b1⟩ <;> rcases h2 with ⟨e4, a2, b2⟩ | ⟨e4, a2, b2⟩ <;> omega
  · intro hrs
    by_cases c : u ≤ v
    · exact c
    · exfalso
      have h3 : W * (v + 1) ≤ W * u := Int.mul_le_mul_of_nonneg_left (by omega) (by omega)
      rw [Int.mul_add] at h3
      rcases hr with ⟨rfl, a, b⟩ | ⟨rfl, a, b⟩ <;> rcases hs with ⟨e, c, d⟩ | ⟨e, c, d⟩ <;> rcases h1 with ⟨e3, a1, b1⟩ | ⟨e3, a1, b1⟩ <;> rcases h2 with ⟨e4, a2, b2⟩ | ⟨e4, a2, b2⟩ <;> omega
theorem bq_sub {m W r E : Int} (hr : Rst m W r) (hW : 0 < W) : bq m W r (E - W) = bq m W r E - 1 := by
  have h := L12.rnd_add m (E - W + r) 1 W hW hr.way
  unfold bq
  rw [show E - W + r + W * 1 = E + r by omega] at h
  omega
/-- Of a lesser total no more is borne than fits, if of the greater one it fits. -/
theorem bq_fit {m W A B r s c : Int} (hr : Rst m W r) (hs : Rst m W s) (hW : 0 < W) (c0 : 0 ≤ c) (hA : 1 ≤ A) (h : A * W + r ≤ B * W + s) (hB : B ≤ 1000000000000000) (hq : bq m W s (B * c) ≤ 1000000000000000) : bq m W r (A * c) ≤ 1000000000000000 := by
  have hAB := tot_le hr hs hW h
  rcases Int.lt_or_eq_of_le hAB with hlt | rfl
  · by_cases hc : W ≤ c
    · have h1 : A * c ≤ (B - 1) * c := Int.mul_le_mul_of_nonneg_right (by omega) c0
      rw [Int.sub_mul] at h1
      have h2 := L12.bq_mono hr hW (show A * c ≤ B * c - W by omega)
      rw [bq_sub hr hW] at h2
      have := (bq_r (E := B * c) hr hs hW).1
      omega
    · have h1 : A * c ≤ A * (W - 1) := Int.mul_le_mul_of_nonneg_left (by omega) (by omega)
      have h2 := L12.bq_mono hr hW h1
      have h3 : bq m W r (A * (W - 1)) ≤ A := by
        have e : A * (W - 1) + r = (r - A) + W * A := by rw [Int.mul_sub, Int.mul_comm A W]; omega
        have : bq m W r (A * (W - 1)) = L12.rnd m (r - A) W + A := by
          unfold bq
          rw [e, L12.rnd_add _ _ _ _ hW hr.way]
        have k : L12.rnd m (r - A) W ≤ 0 := by
          have k2 := L12.bq_mono hr hW (show -A ≤ 0 by omega)
          rw [L12.bq_zero hr hW] at k2
          unfold bq at k2
          rwa [show -A + r = r - A by omega] at k2
        omega
      omega
  · have hrs : r ≤ s := by omega
    have := (bq_r (E := A * c) hr hs hW).2 hrs
    omega
/-- What a lesser total comes to is a lesser one. -/
theorem wk_mono {m W rt g x y : Int} (hW : 0 < W) (h0 : 0 ≤ rt) (hxy : y ≤ x) : ∀ (l : List Int) (k : Nat) (A B r s : Int), (∀ n ∈ l, 0 ≤ n) → Rst m W r → Rst m W s → A ≤ 1000000000000000 → B ≤ 1000000000000000 → 1 ≤ A →
    A * W + r ≤ B * W + s → ((k : Int) < g → A < B ∨ (A = B ∧ r = s)) → wk m W rt y g l k B s ≤ 0 → wk m W rt x g l k A r ≤ 0
  | [], k, A, B, r, s, hl, hr, hs, hA, hB, a1, ht, hg, h => by
    have := tot_le hr hs hW ht
    change B ≤ 0 at h
    show A ≤ 0
    omega
  | n :: l, k, A, B, r, s, hl, hr, hs, hA, hB, a1, ht, hg, h => by
    have n0 := hl n (List.mem_cons_self ..)
    have c0 : 0 ≤ rt * n := Int.mul_nonneg h0 n0
    have hl' : ∀ n ∈ l, 0 ≤ n := fun x hx => hl x (List.mem_cons_of_mem _ hx)
    have hAB := tot_le hr hs hW ht
    unfold wk at h ⊢
    split at h
    · rename_i hq
      have hq' := bq_fit hr hs hW c0 a1 ht hB hq
      rw [if_pos hq']
      have R1 := L12.br_rst (E := A * (rt * n)) hr hW
      have R2 := L12.br_rst (E := B * (rt * n)) hs hW
      by_cases hk : (k : Int) < g
      · rw [if_pos hk] at h ⊢
        refine wk_mono hW h0 hxy l (k + 1) A B _ _ hl' R1 R2 hA hB a1 ?_ ?_ h
        · rcases hg hk with hlt | ⟨rfl, rfl⟩
          · exact tot_lt R1 R2 hW hlt
          · exact Int.le_refl _
        · intro _
          rcases hg hk with hlt | ⟨rfl, rfl⟩
          · exact Or.inl hlt
          · exact Or.inr ⟨rfl, rfl⟩
      · rw [if_neg hk] at h ⊢
        have hE : A * (rt * n) ≤ B * (rt * n) := Int.mul_le_mul_of_nonneg_right hAB c0
        have ht' : (A + bq m W r (A * (rt * n)) - x) * W + br m W r (A * (rt * n)) ≤ (B + bq m W s (B * (rt * n)) - y) * W + br m W s (B * (rt * n)) := by
          have e1 : br m W r (A * (rt * n)) = A * (rt * n) + r - W * bq m W r (A * (rt * n)) := rfl
          have e2 : br m W s (B * (rt * n)) = B * (rt * n) + s - W * bq m W s (B * (rt * n)) := rfl
          have hx : y * W ≤ x * W := Int.mul_le_mul_of_nonneg_right hxy (by omega)
          rw [e1, e2, Int.sub_mul, Int.sub_mul, Int.add_mul, Int.add_mul, Int.mul_comm W (bq m W r _), Int.mul_comm W (bq m W s _)]
          omega
        have hAB' := tot_le R1 R2 hW ht'
        by_cases cA : A + bq m W r (A * (rt * n)) - x ≤ 0
        · rw [if_pos cA]; exact cA
        · rw [if_neg cA]
          have cB : ¬ B + bq m W s (B * (rt * n)) - y ≤ 0 := by omega
          rw [if_neg cB] at h
          split at h
          · rename_i fB
            have fA : A + bq m W r (A * (rt * n)) - x ≤ 1000000000000000 := by omega
            rw [if_pos fA]
            exact wk_mono hW h0 hxy l (k + 1) _ _ _ _ hl' R1 R2 fA fB (by omega) ht' (fun h => absurd h (by omega)) h
          · omega
    · omega
/-- An instalment of 0 leaves something. -/
theorem wk_zero {m W rt g : Int} (hW : 0 < W) (h0 : 0 ≤ rt) : ∀ (l : List Int) (k : Nat) (B s : Int), (∀ n ∈ l, 0 ≤ n) → Rst m W s → 1 ≤ B → 0 < wk m W rt 0 g l k B s
  | [], k, B, s, hl, hs, hB => by show 0 < B; omega
  | n :: l, k, B, s, hl, hs, hB => by
    have n0 := hl n (List.mem_cons_self ..)
    have c0 : 0 ≤ rt * n := Int.mul_nonneg h0 n0
    have hl' : ∀ n ∈ l, 0 ≤ n := fun x hx => hl x (List.mem_cons_of_mem _ hx)
    have hq := L12.bq_nn hs hW (Int.mul_nonneg (show 0 ≤ B by omega) c0)
    have R2 := L12.br_rst (E := B * (rt * n)) hs hW
    unfold wk
    split
    · split
      · exact wk_zero hW h0 l _ _ _ hl' R2 hB
      · rw [if_neg (by omega)]
        split
        · exact wk_zero hW h0 l _ _ _ hl' R2 (by omega)
        · omega
    · omega
/-- What a walk comes to lies within these bounds. -/
theorem wk_bd {m W rt g x : Int} (hW : 0 < W) (h0 : 0 ≤ rt) (hx : 0 ≤ x) (hx2 : x ≤ 1000000000000000) : ∀ (l : List Int) (k : Nat) (B s : Int), (∀ n ∈ l, 0 ≤ n) → Rst m W s → 1 ≤ B → B ≤ 1000000000000000 → -1000000000000000 ≤ wk m W rt x g l k B s ∧ wk m W rt x g l k B s ≤ 1000000000000001
  | [], k, B, s, hl, hs, hB, hB2 => by show -1000000000000000 ≤ B ∧ B ≤ 1000000000000001; omega
  | n :: l, k, B, s, hl, hs, hB, hB2 => by
    have n0 := hl n (List.mem_cons_self ..)
    have c0 : 0 ≤ rt * n := Int.mul_nonneg h0 n0
    have hl' : ∀ n ∈ l, 0 ≤ n := fun x hx => hl x (List.mem_cons_of_mem _ hx)
    have hq := L12.bq_nn hs hW (Int.mul_nonneg (show 0 ≤ B by omega) c0)
    have R2 := L12.br_rst (E := B * (rt * n)) hs hW
    unfold wk
    split
    · split
      · exact wk_bd hW h0 hx hx2 l _ _ _ hl' R2 hB hB2
      · split
        · omega
        · split
          · exact wk_bd hW h0 hx hx2 l _ _ _ hl' R2 (by omega) (by omega)
          · omega
    · omega
/-- The least number at which f is 0, or below: f is so from it on. -/
structure Lst (f : Int → Int) (v : Int) : Prop where
  v1 : 1 ≤ v
  v2 : v ≤ 1000000000000000
  at_ : f v ≤ 0
  less : 0 < f (v - 1)
/-- What is 0, or below, at a number, is so at each greater one. -/
def Fal (f : Int → Int) : Prop := 0 < f 0 ∧ ∀ x y, 0 ≤ y → y ≤ x → x ≤ 1000000000000000 → f y ≤ 0 → f x ≤ 0
theorem Lst.iff {f : Int → Int} {v : Int} (h : Lst f v) (hf : Fal f) (x : Int) (h1 : 0 ≤ x) (h2 : x ≤ 1000000000000000) : f x ≤ 0 ↔ v ≤ x := by
  constructor
  · intro k
    by_cases c : v ≤ x
    · exact c
    · have := hf.2 (v - 1) x h1 (by omega) (by have := h.v2; omega) k
      have := h.less
      omega
  · intro k
    exact hf.2 x v (by have := h.v1; omega) k h2 h.at_
theorem Lst.uniq {f : Int → Int} {v u : Int} (h : Lst f v) (k : Lst f u) (hf : Fal f) : v = u := by
  have a := (h.iff hf u (by have := k.v1; omega) k.v2).1 k.at_
  have b := (k.iff hf v (by have := h.v1; omega) h.v2).1 h.at_
  omega
theorem lst_ex {f : Int → Int} (hf : Fal f) (h : f 1000000000000000 ≤ 0) : ∃ v, Lst f v := by
  have key : ∀ (n : Nat) (lo hi : Int), hi - lo = (n : Int) + 1 → 0 ≤ lo → hi ≤ 1000000000000000 → 0 < f lo → f hi ≤ 0 → ∃ v, Lst f v := by
    intro n
    induction n with
    | zero => intro lo hi e l1 l2 l3 l4; exact ⟨hi, ⟨by omega, l2, l4, by rwa [show hi - 1 = lo by omega]⟩⟩
    | succ n ih =>
      intro lo hi e l1 l2 l3 l4
      by_cases c : f (lo + 1) ≤ 0
      · exact ⟨lo + 1, ⟨by omega, by omega, c, by rwa [show lo + 1 - 1 = lo by omega]⟩⟩
      · exact ih (lo + 1) hi (by omega) (by omega) l2 (by omega) l4
  exact key 999999999999999 0 1000000000000000 rfl (by omega) (by omega) hf.1 h
theorem wk_fal {m W rt g : Int} (hm : m = 1 ∨ m = 3) (hW : 0 < W) (h0 : 0 ≤ rt) (l : List Int) (hl : ∀ n ∈ l, 0 ≤ n) (a : Int) (a1 : 1 ≤ a) (a2 : a ≤ 1000000000000000) : Fal fun x => wk m W rt x g l 0 a 0 :=
  ⟨wk_zero hW h0 l 0 a 0 hl (L12.rst_zero hm hW) a1, fun x y hy hxy hx => wk_mono hW h0 hxy l 0 a a 0 0 hl (L12.rst_zero hm hW) (L12.rst_zero hm hW) a2 a2 a1 (Int.le_refl _) fun _ => Or.inr ⟨rfl, rfl⟩⟩
/-- Of a greater amount the least instalment is no lesser one. -/
theorem lst_amount {m W rt g : Int} (hm : m = 1 ∨ m = 3) (hW : 0 < W) (h0 : 0 ≤ rt) (l : List Int) (hl : ∀ n ∈ l, 0 ≤ n) (a b u v : Int) (a1 : 1 ≤ a) (hab : a < b) (b2 : b ≤ 1000000000000000)
    (hu : Lst (fun x => wk m W rt x g l 0 a 0) u) (hv : Lst (fun x => wk m W rt x g l 0 b 0) v) : u ≤ v := by
  refine (hu.iff (wk_fal hm hW h0 l hl a a1 (by omega)) v (by have := hv.v1; omega) hv.v2).1 ?_
  refine wk_mono hW h0 (Int.le_refl _) l 0 a b 0 0 hl (L12.rst_zero hm hW) (L12.rst_zero hm hW) (by omega) b2 a1 ?_ (fun _ => Or.inl hab) hv.at_
  have : a * W ≤ b * W := Int.mul_le_mul_of_nonneg_right (by omega) (by omega)
  omega
end Go.Proofs.YtafjmpaefikdcaaGreatDoor
