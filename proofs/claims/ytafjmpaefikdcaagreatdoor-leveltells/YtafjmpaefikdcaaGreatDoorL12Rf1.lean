
/- The document's own Bear of layer 12, as a contract: no statement of the seat is proved here. -/
import Derived.Test.YtafjmpaefikdcaaGreatDoorL12Rf0
import Derived.Deep.DeepCutAuto
import Derived.StillTailTactics
namespace Go.Proofs.YtafjmpaefikdcaaGreatDoor.L12
open Go.RowKit
set_option linter.unusedVariables false

theorem rBear_arg (C : Nat) (b rt p : Int) (w : World) (h : ¬ Ask b rt p) :
    Calls Tryz.prog 43 #[.pointer (some ⟨C, 0, none⟩), .int .i64 b, .int .i64 rt, .int .i64 p] w fun e w' => e = .returned (.tuple #[.int .i64 0, .int .i64 1]) ∧ Ext w w' := by
  unfold Ask at h
  by_cases h1 : b < 0
  · have d1 := decide_eq_true h1
    clear h
    go_enter Tryz.func43, Tryz.ntmps43
    go_wp2
    go_ret2
    exact ⟨rfl, Ext.refl _⟩
  have d1 := decide_eq_false h1
  by_cases h2 : 1000000000000000 < b
  · have d2 := decide_eq_true h2
    clear h
    go_enter Tryz.func43, Tryz.ntmps43
    go_wp2
    go_ret2
    exact ⟨rfl, Ext.refl _⟩
  have d2 := decide_eq_false h2
  by_cases h3 : rt < 0
  · have d3 := decide_eq_true h3
    clear h
    go_enter Tryz.func43, Tryz.ntmps43
    go_wp2
    go_ret2
    exact ⟨rfl, Ext.refl _⟩
  have d3 := decide_eq_false h3
  by_cases h4 : 1000000000 < rt
  · have d4 := decide_eq_true h4
    clear h
    go_enter Tryz.func43, Tryz.ntmps43
    go_wp2
    go_ret2
    exact ⟨rfl, Ext.refl _⟩
  have d4 := decide_eq_false h4
  by_cases h5 : p < 0
  · have d5 := decide_eq_true h5
    clear h
    go_enter Tryz.func43, Tryz.ntmps43
    go_wp2
    go_ret2
    exact ⟨rfl, Ext.refl _⟩
  have d5 := decide_eq_false h5
  have h6 : 53436000 < p := by omega
  have d6 := decide_eq_true h6
  clear h
  go_enter Tryz.func43, Tryz.ntmps43
  go_wp2
  go_ret2
  exact ⟨rfl, Ext.refl _⟩
theorem fin_rest {W r E q s : Int} (hW : 0 < W) (h : E + (r + W) = q * W + s) (s0 : 0 ≤ s) (s1 : s < W) : (E + r) / W = q - 1 ∧ (E + r) % W = s := by
  refine (Int.ediv_emod_unique hW).2 ⟨?_, s0, s1⟩
  rw [Int.mul_sub, Int.mul_one, Int.mul_comm W q]; omega
theorem fin_up {W r E q s : Int} (hW : 0 < W) (h : E + (r + W) = q * W + s) (s0 : 0 ≤ s) (s1 : s < W) (hu : W - s ≤ s) : bq 1 W r E = q - 1 + 1 ∧ br 1 W r E = s - W := by
  obtain ⟨e1, e2⟩ := fin_rest hW h s0 s1
  have e : bq 1 W r E = q - 1 + 1 := by unfold bq; rw [rnd_one, e1, e2, if_pos hu]
  refine ⟨e, ?_⟩
  unfold br
  rw [e, show q - 1 + 1 = q by omega, Int.mul_comm W q]; omega
theorem fin_down {W r E q s : Int} (hW : 0 < W) (h : E + (r + W) = q * W + s) (s0 : 0 ≤ s) (s1 : s < W) (hu : ¬ W - s ≤ s) : bq 1 W r E = q - 1 ∧ br 1 W r E = s := by
  obtain ⟨e1, e2⟩ := fin_rest hW h s0 s1
  have e : bq 1 W r E = q - 1 := by unfold bq; rw [rnd_one, e1, e2, if_neg hu]; omega
  refine ⟨e, ?_⟩
  unfold br
  rw [e, Int.mul_sub, Int.mul_one, Int.mul_comm W q]; omega
theorem fin_three {W r E q s : Int} (hW : 0 < W) (h : E + (r + W) = q * W + s) (s0 : 0 ≤ s) (s1 : s < W) : bq 3 W r E = q - 1 ∧ br 3 W r E = s := by
  obtain ⟨e1, e2⟩ := fin_rest hW h s0 s1
  have e : bq 3 W r E = q - 1 := by unfold bq; rw [rnd_three, e1]
  refine ⟨e, ?_⟩
  unfold br
  rw [e, Int.mul_sub, Int.mul_one, Int.mul_comm W q]; omega
/-- What is too great in the middle is too great in the end. -/
theorem fin_over {m P r E q s : Int} {i : Nat} {o : List Int} (P0 : 0 < P) (P1 : P ≤ 133590) (hr : Rst m (1000000000 * P) r) (hV : val o = E + (r + 1000000000 * P)) (hd : Dgs o) (hi : 1 ≤ i) (hl : i + 1 ≤ o.length) (hq : val (o.drop (i + 1)) = q * P + s) (s0 : 0 ≤ s) (q1 : 4000000 < q) :
    ¬ bq m (1000000000 * P) r E ≤ 1000000000000000 := by
  have h1 := val_le_drop hd (i + 1) hl
  have h2 := pw_two i hi
  have hW : 0 < 1000000000 * P := by omega
  have h3 : 4000001 * P ≤ q * P := Int.mul_le_mul_of_nonneg_right (by omega) (by omega)
  have h4 : 1000000000000000000 * (4000001 * P) ≤ pw (i + 1) * val (o.drop (i + 1)) := mul_le2 (by omega) (by omega) h2 (by omega)
  have hb := hr.bd hW
  have hE : 4000000000000000 * (1000000000 * P) ≤ E := by omega
  have h5 := (bq_near (E := E) hr hW).1
  have h6 : 4000000000000000 ≤ E / (1000000000 * P) := (Int.le_ediv_iff_mul_le hW).2 hE
  omega
end Go.Proofs.YtafjmpaefikdcaaGreatDoor.L12