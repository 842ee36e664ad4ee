
/- What the document's Check answers, as a contract: no statement of the seat is proved here. -/
import Derived.Test.YtafjmpaefikdcaaDoorL8Pr11
import Derived.Test.YtafjmpaefikdcaaDoorL8Bnd
import Derived.Deep.Cut
namespace Go.Proofs.YtafjmpaefikdcaaDoor.L8
open Go.RowKit
set_option linter.unusedVariables false

theorem every_in (ev : Int) : decide (ev ∈ [1, 2, 3, 4, 6, 12]) = r2B ev := by
  unfold r2B
  by_cases h : ev ∈ [1, 2, 3, 4, 6, 12]
  · simp at h; rcases h with rfl | rfl | rfl | rfl | rfl | rfl <;> rfl
  · rw [decide_eq_false h]; simp at h; simp [h]
/-- The row of months that may lie between instalments. -/
theorem lay_every (w : World) : ∃ W, w.alloc (.cells #[.int .i64 1, .int .i64 2, .int .i64 3, .int .i64 4, .int .i64 6, .int .i64 12] 3) = W ∧ Ext w W ∧ Slc W (.slice (some ⟨w.heap.size, 0, none⟩) 6 6) [1, 2, 3, 4, 6, 12] := by
  refine ⟨_, rfl, (Ext.refl w).alloc _ _, Or.inr ⟨_, 0, 6, rfl, fun k x hk => ?_⟩⟩
  match k, hk with
  | 0, hk => simp at hk; subst hk; simp [go_sem]
  | 1, hk => simp at hk; subst hk; simp [go_sem]
  | 2, hk => simp at hk; subst hk; simp [go_sem]
  | 3, hk => simp at hk; subst hk; simp [go_sem]
  | 4, hk => simp at hk; subst hk; simp [go_sem]
  | 5, hk => simp at hk; subst hk; simp [go_sem]
  | k + 6, hk => simp at hk
theorem chk_ref (nm : List UInt8) (cn rd kd ev tm gr rt : Int) (rs : List (Int × Int)) (pn o0 o1 o2 o3 ov : Int) (lt : List (Int × Int)) (cp rl : Int) (hd : List Int) : ((((nmb nm && (lz cn 1 3 && ((rd == 1 || rd == 3) && lz kd 1 3))) && (r2B ev && (lz tm 1 600 && (lz gr 0 (tm - 1) && (kd != 3 || gr == 0))))) && (lz rt 0 1000000000 && (lz pn 0 1000000000 && (r6B tm rs && (r7B o0 o1 o2 o3 && (lz ov 1 3 && (r8B lt && r9B lt.length cp))))))) && (lz rl 1 4 && (rgt hd && (rl != 1 || hd.length == 0)))) = chkB nm cn rd kd ev tm gr rt rs pn o0 o1 o2 o3 ov lt cp rl hd := by
  unfold chkB r1B r4B r5B r10B
  cases htm : lz tm 1 600
  · simp
  · have h := (lz_iff _ _ _).1 htm
    have hg : (lz gr 0 (tm - 1) && (kd != 3 || gr == 0)) = (gr == 0 || (kd != 3 && (decide (0 < gr) && decide (gr < tm)))) := by
      unfold lz
      by_cases h0 : gr = 0
      · subst h0; simp; omega
      · have e0 : (gr == 0) = false := by simpa using h0
        rw [e0]
        by_cases h1 : 0 < gr
        · rw [decide_eq_true h1, decide_eq_true (show 0 ≤ gr by omega)]
          by_cases h2 : gr < tm
          · rw [decide_eq_true h2, decide_eq_true (show gr ≤ tm - 1 by omega)]; simp
          · rw [decide_eq_false h2, decide_eq_false (show ¬ gr ≤ tm - 1 by omega)]; simp
        · rw [decide_eq_false h1, decide_eq_false (show ¬ 0 ≤ gr by omega)]; simp
    have hh : (rgt hd && (rl != 1 || hd.length == 0)) = (if rl = 1 then decide (hd.length = 0) else rgt hd) := by
      by_cases h0 : rl = 1
      · subst h0
        rw [if_pos rfl]
        cases hd with
        | nil => rfl
        | cons x t => simp
      · rw [if_neg h0]
        have : (rl != 1) = true := by simpa using h0
        rw [this]; simp
    rw [← hh, ← hg]
    simp only [Bool.true_and]
    ac_rfl
theorem tm_of {A : Bool} {tm : Int} {E G : Bool} (h : (A && (E && (lz tm 1 600 && G))) = true) : 1 ≤ tm ∧ tm ≤ 600 := by
  simp only [Bool.and_eq_true] at h
  exact (lz_iff _ _ _).1 h.2.2.1
end Go.Proofs.YtafjmpaefikdcaaDoor.L8