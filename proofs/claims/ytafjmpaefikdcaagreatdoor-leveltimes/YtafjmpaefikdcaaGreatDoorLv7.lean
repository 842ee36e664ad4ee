
/- What a program that does nothing doesn't answer (layer 13), as a contract; no statement of the seat is proved here. -/
import Derived.Test.YtafjmpaefikdcaaGreatDoorLv6
import Derived.Test.YtafjmpaefikdcaaGreatDoorL8Pr10
namespace Go.Proofs.YtafjmpaefikdcaaGreatDoor
open Go.RowKit
open L8 (Slc)
set_option linter.unusedVariables false
set_option maxRecDepth 100000

theorem ints_alloc (w : World) (l : List Int) (t : TypeId) (k : Nat) (x : Int) (h : l[k]? = some x) : (w.alloc (.cells (l.map (.int .i64)).toArray t)).cell? ⟨w.heap.size, 0 + k, none⟩ = some (.int .i64 x) := by
  rw [Nat.zero_add]
  exact (cell_of_row _ w.heap.size k _ _ _ (heap_alloc_last w _)).trans (by simp [h])
theorem inp_nil (w : World) (q : Prd) (hn : q.nm.length ≤ 9223372036854775807) (h1 : q.rs = []) (h2 : q.lt = []) (h3 : q.hd = []) : Inp w q (.slice none 0 0) (.slice none 0 0) (.slice none 0 0) :=
  ⟨hn, by rw [h1]; exact Nat.zero_le _, by rw [h2]; exact Nat.zero_le _, by rw [h3]; exact Nat.zero_le _, by rw [h1]; exact L8.nilr w, by rw [h2]; exact L8.nilr w, by rw [h3]; exact L8.nilh w⟩
def plW : Prd := { pl0 with rt := 0, tm := 3 }
theorem ok_W : okP plW = true := by decide +kernel
theorem okl_W : Okl plW.tm [31, 28, 31] 100 := ⟨by decide, by decide, by decide, by decide⟩
theorem lst_W : Lst (lvl plW [31, 28, 31] 100) 34 := ⟨by decide, by decide, by decide +kernel, by decide +kernel⟩
theorem plain_cells : L8.plainA = pcells pl0 (.slice none 0 0) (.slice none 0 0) (.slice none 0 0) := rfl
set_option maxHeartbeats 1000000 in
theorem awake_w (w : World) : Calls Tryz.prog 6 #[] w fun e w' => e = .returned (.bool true) ∧ Ext w w' := by
  have hpo : (pcells pl0 (.slice none 0 0) (.slice none 0 0) (.slice none 0 0)).all (·.oneCell') = true := one_of (w := w) (L8.nilr w) (L8.nilr w) (L8.nilh w)
  go_enter Tryz.func6, Tryz.ntmps6
  go_wp2_with fail
  refine (L8.Plain_c _).mono ?_
  rintro e w1 ⟨rfl, hx1⟩
  obtain ⟨W2, ba, hW2, hba, hx2, hB2⟩ := layZ w1
  have hla : w.heap.size ≤ ba := by have := hx1.size; omega
  go_wp2_with (refine store27 (cs := pcells pl0 (.slice none 0 0) (.slice none 0 0) (.slice none 0 0)) hB2 rfl rfl hpo rfl rfl rfl rfl ?_)
  intro W3 hB3 hx3
  replace hx3 : Hid (Ext w W3) := hx3.ext (hx1.trans hx2) hla
  have z7 := frozen_of_row W3 ba 7 _ _ hB3
  have c7 := (cell_of_row W3 ba 7 _ _ _ hB3).trans (show _ = some (.int .i64 60000000) from rfl)
  have z5 := frozen_of_row W3 ba 5 _ _ hB3
  have c5 := (cell_of_row W3 ba 5 _ _ _ hB3).trans (show _ = some (.int .i64 12) from rfl)
  have hB4 : Blk ((W3.setCell ⟨ba, 7, none⟩ (.int .i64 0)).setCell ⟨ba, 5, none⟩ (.int .i64 3)) ba (pcells plW (.slice none 0 0) (.slice none 0 0) (.slice none 0 0)) := L8.Blk.set (L8.Blk.set hB3 7 _) 5 _
  have hx4 : Hid (Ext w ((W3.setCell ⟨ba, 7, none⟩ (.int .i64 0)).setCell ⟨ba, 5, none⟩ (.int .i64 3))) := (hx3.out.setCell hla _).setCell hla _
  obtain ⟨W4, hW4⟩ : ∃ W, (W3.setCell ⟨ba, 7, none⟩ (.int .i64 0)).setCell ⟨ba, 5, none⟩ (.int .i64 3) = W := ⟨_, rfl⟩
  rw [hW4] at hB4 hx4
  have hcl : Hid (∀ (k : Nat) (x : Int), ([31, 28, 31] : List Int)[k]? = some x → (W4.alloc (.cells #[.int .i64 31, .int .i64 28, .int .i64 31] 2)).cell? ⟨W4.heap.size, 0 + k, none⟩ = some (.int .i64 x)) := ints_alloc W4 [31, 28, 31] _
  have hx5 : Hid (Ext w (W4.alloc (.cells #[.int .i64 31, .int .i64 28, .int .i64 31] 2))) := hx4.out.alloc _ _
  clear hB2 hx2 hB3 hx1 hW2 hba
  go_wp2_with (refine load27 hB4 rfl rfl rfl rfl ?_)
  refine (Of_yes plW (.slice none 0 0) (.slice none 0 0) (.slice none 0 0) W4.heap.size 0 3 [31, 28, 31] 100 34 _ (inp_nil _ plW (by decide) rfl rfl rfl) hcl.out ok_W okl_W lst_W).mono ?_
  rintro e w6 ⟨rfl, hx6⟩
  have hx : Hid (Ext w w6) := hx5.out.trans hx6
  clear hcl hx5 hx6 hB4 hx4 hx3 z7 c7 z5 c5 hW4
  go_wp2
  go_ret
  exact ⟨rfl, hx.out⟩
end Go.Proofs.YtafjmpaefikdcaaGreatDoor
