/- What the statements of this layer lean on besides: which of two texts stands ahead, which date comes next, structs in new blocks: no statement of the seat is proved here. -/
import Derived.Test.YtbdninnopfdnbaaDoorCiv7
namespace Go.Proofs.YtbdninnopfdnbaaDoor
open Go.RowKit Go.Lib
set_option linter.unusedVariables false

theorem bl_append : ∀ (x x' y y' : List UInt8), x.length = x'.length → Op.bytesLess (x ++ y) (x' ++ y') = (Op.bytesLess x x' || (x == x' && Op.bytesLess y y'))
  | [], [], y, y', _ => by simp [Op.bytesLess]
  | [], _ :: _, _, _, h => by simp at h
  | _ :: _, [], _, _, h => by simp at h
  | a :: x, b :: x', y, y', h => by
    have ih := bl_append x x' y y' (by simpa using h)
    simp only [List.cons_append, Op.bytesLess, ih]
    by_cases hab : a = b
    · subst hab
      simp
    · have h2 : (a == b) = false := by simpa using hab
      simp [h2]
theorem bl_digits : ∀ (x y : List UInt8), x.length = y.length → x.all isD = true → y.all isD = true → Op.bytesLess x y = decide (valL x < valL y)
  | [], [], _, _, _ => by simp [Op.bytesLess, valL]
  | [], _ :: _, h, _, _ => by simp at h
  | _ :: _, [], h, _, _ => by simp at h
  | a :: x, b :: y, h, hx, hy => by
    simp only [List.all_cons, Bool.and_eq_true] at hx hy
    have hl : x.length = y.length := by simpa using h
    have ih := bl_digits x y hl hx.2 hy.2
    have ra := isD_range hx.1
    have rb := isD_range hy.1
    have vx := valL_lt x hx.2
    have vy := valL_lt y hy.2
    rw [valL_cons, valL_cons, ← hl]
    rw [← hl] at vy
    generalize 10 ^ x.length = p at *
    simp only [Op.bytesLess, ih]
    have lt_iff : (a < b) ↔ a.toNat < b.toNat := UInt8.lt_iff_toNat_lt
    by_cases hab : a.toNat < b.toNat
    · have h1 : (a.toNat - 48) * p + valL x < (b.toNat - 48) * p + valL y := by
        have : (a.toNat - 48 + 1) * p ≤ (b.toNat - 48) * p := Nat.mul_le_mul_right _ (by omega)
        rw [Nat.add_mul] at this
        omega
      simp [lt_iff, hab, h1]
    · by_cases he : a = b
      · subst he
        simp
      · have hne : b.toNat < a.toNat := by
          have : a.toNat ≠ b.toNat := fun e => he (UInt8.toNat_inj.mp e)
          omega
        have h1 : ¬ (a.toNat - 48) * p + valL x < (b.toNat - 48) * p + valL y := by
          have : (b.toNat - 48 + 1) * p ≤ (a.toNat - 48) * p := Nat.mul_le_mul_right _ (by omega)
          rw [Nat.add_mul] at this
          omega
        simp [lt_iff, hab, h1, he]


theorem bl_fix (k a b : Nat) (ha : a < 10 ^ k) (hb : b < 10 ^ k) : Op.bytesLess (fix k a) (fix k b) = decide (a < b) := by
  rw [bl_digits _ _ (by rw [fix_length, fix_length]) (fix_all _ _) (fix_all _ _), valL_fix, valL_fix, Nat.mod_eq_of_lt ha, Nat.mod_eq_of_lt hb]
theorem beq_fix (k a b : Nat) (ha : a < 10 ^ k) (hb : b < 10 ^ k) : (fix k a == fix k b) = decide (a = b) := by
  by_cases h : a = b
  · subst h; simp
  · have : ¬ fix k a = fix k b := fun e => by
      have := congrArg valL e
      rw [valL_fix, valL_fix, Nat.mod_eq_of_lt ha, Nat.mod_eq_of_lt hb] at this
      exact h this
    simp [h, this]
theorem bl_cons (c : UInt8) (x y : List UInt8) : Op.bytesLess (c :: x) (c :: y) = Op.bytesLess x y := by
  simp [Op.bytesLess]
theorem text_less (y m d y' m' d' : Int) (h : Vld y m d) (h' : Vld y' m' d') : Op.bytesLess (textL y m d) (textL y' m' d') = decide (num y m d < num y' m' d') := by
  have a1 := h.y1; have a2 := h.y2; have a3 := h.m1; have a4 := h.m2; have a5 := h.d1; have a6 := h.d31
  have b1 := h'.y1; have b2 := h'.y2; have b3 := h'.m1; have b4 := h'.m2; have b5 := h'.d1; have b6 := h'.d31
  have k := num_iff h h'
  unfold textL
  rw [bl_append _ _ _ _ (by rw [fix_length, fix_length]), bl_cons, bl_append _ _ _ _ (by rw [fix_length, fix_length]), bl_cons, bl_fix _ _ _ (by omega) (by omega), bl_fix _ _ _ (by omega) (by omega), bl_fix _ _ _ (by omega) (by omega),
    beq_fix _ _ _ (by omega) (by omega), beq_fix _ _ _ (by omega) (by omega), Bool.eq_iff_iff]
  simp only [Bool.or_eq_true, Bool.and_eq_true, decide_eq_true_eq, ← k]
  omega
theorem next_date {y m d y' m' d' : Int} (h : Vld y m d) (h' : Vld y' m' d') (hn : num y' m' d' = num y m d + 1) :
    (¬ dim y m < d + 1 ∧ ¬ 12 < m ∧ y' = y ∧ m' = m ∧ d' = d + 1) ∨ (dim y m < d + 1 ∧ ¬ 12 < m + 1 ∧ y' = y ∧ m' = m + 1 ∧ d' = 1) ∨ (dim y m < d + 1 ∧ m = 12 ∧ y' = y + 1 ∧ m' = 1 ∧ d' = 1) := by
  have a1 := h.y1; have a2 := h.y2; have a3 := h.m1; have a4 := h.m2; have a5 := h.d1; have a6 := h.d2
  have cs := cum_succ y m a3 a4
  by_cases c : dim y m < d + 1
  · right
    by_cases e : 12 < m + 1
    · right
      have hm : m = 12 := by omega
      subst hm
      have ce := cum_end y
      have ss := st_succ y
      simp only [show (12 : Int) + 1 = 13 from rfl] at cs
      have bd := num_bd h'
      have hy : y + 1 ≤ 2200 := by
        rcases Int.lt_or_le y 2200 with k | k
        · omega
        · have e2 : y = 2200 := by omega
          subst e2
          have : st (2200 + 1) = 84371 := by decide
          unfold num at hn bd
          omega
      have d1 := dim_bd (y + 1) 1 (by omega) (by omega)
      have v : Vld (y + 1) 1 1 := ⟨by omega, hy, by omega, by omega⟩
      obtain ⟨p, q, r⟩ := num_inj h' v (by rw [hn]; unfold num; rw [cum_one]; omega)
      exact ⟨c, rfl, p, q, r⟩
    · left
      have d1 := dim_bd y (m + 1) (by omega) (by omega)
      have v : Vld y (m + 1) 1 := ⟨a1, a2, by omega, by omega⟩
      obtain ⟨p, q, r⟩ := num_inj h' v (by rw [hn]; unfold num; omega)
      exact ⟨c, e, p, q, r⟩
  · left
    have v : Vld y m (d + 1) := ⟨a1, a2, by omega, by omega⟩
    obtain ⟨p, q, r⟩ := num_inj h' v (by rw [hn]; unfold num; omega)
    exact ⟨c, by omega, p, q, r⟩
theorem wday_bd (n : Int) : 0 ≤ wday n ∧ wday n ≤ 6 := by unfold wday; omega
theorem wday_next (n : Int) : wday (n + 1) = (wday n + 1) % 7 := by unfold wday; omega
theorem lng_400 (y : Int) : lng (y + 400) = lng y := by
  unfold lng
  rw [show (y + 400) % 4 = y % 4 by omega, show (y + 400) % 100 = y % 100 by omega, show (y + 400) % 400 = y % 400 by omega]
/-- A struct of three numbers, laid in a new block that may be written. -/
theorem box3f (w : World) (x y z : Value) (t : TypeId) : ∃ W b, w.alloc (.cells #[x, y, z] t) = W ∧ w.heap.size = b ∧ Ext w W ∧ W.cell? ⟨b, 0, none⟩ = some x ∧ W.cell? ⟨b, 1, none⟩ = some y ∧ W.cell? ⟨b, 2, none⟩ = some z ∧
    W.frozen? ⟨b, 0, none⟩ = false ∧ W.frozen? ⟨b, 1, none⟩ = false ∧ W.frozen? ⟨b, 2, none⟩ = false :=
  ⟨_, _, rfl, rfl, (Ext.refl w).alloc _ _, by simp [go_sem], by simp [go_sem], by simp [go_sem], by simp [go_sem], by simp [go_sem], by simp [go_sem]⟩
theorem Ext.froz_of {w w' : World} {b o : Nat} {v : Value} (hx : Ext w w') (h : w.cell? ⟨b, o, none⟩ = some v) (k : w.frozen? ⟨b, o, none⟩ = false) : w'.frozen? ⟨b, o, none⟩ = false := by
  rw [hx.froz b o (lt_of_cell h)]; exact k
theorem day_x (n : Int) (w : World) : Calls Tryd.prog 24 #[.int .i64 n] w fun e w' => e = .returned (.int .i64 (dayN n)) ∧ Ext w w' :=
  (day_c n w).mono fun _ _ ⟨h, k⟩ => ⟨h, k ▸ Ext.refl _⟩
theorem numA_bd (y m d : Int) : -25567 ≤ numA y m d ∧ numA y m d ≤ 84370 := by
  by_cases h : Vld y m d
  · rw [(numA_ok y m d h).1]; exact num_bd h
  · rw [(numA_no y m d h).1]; omega
theorem takA_bd (l : List UInt8) : -25567 ≤ takA l ∧ takA l ≤ 84370 := by
  unfold takA
  split
  · exact numA_bd _ _ _
  · omega
theorem numE_back {y m d y' m' d' : Int} (h : Vld y' m' d') (k : num y' m' d' = numA y m d) (e : numE y m d = 0) : y' = y ∧ m' = m ∧ d' = d := by
  by_cases hv : Vld y m d
  · rw [(numA_ok y m d hv).1] at k; exact num_inj h hv k
  · rw [(numA_no y m d hv).2] at e; omega
theorem takE_back {l : List UInt8} {y m d : Int} (h : Vld y m d) (k : num y m d = takA l) (e : takE l = 0) : textL y m d = l := by
  by_cases hf : formL l = true
  · rw [(tak_form l hf).1] at k
    rw [(tak_form l hf).2] at e
    obtain ⟨rfl, rfl, rfl⟩ := numE_back h k e
    exact take_text l hf
  · rw [(tak_not l (by simpa using hf)).2] at e; omega
end Go.Proofs.YtbdninnopfdnbaaDoor
