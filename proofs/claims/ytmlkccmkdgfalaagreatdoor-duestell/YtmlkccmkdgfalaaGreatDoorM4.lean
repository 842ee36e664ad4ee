/- Texts of an elder layer, one behind the other (layer 4), as contracts: no statement of the seat is proved here. -/
import Derived.Test.YtmlkccmkdgfalaaGreatDoorL3Civ5
import Derived.Test.YtmlkccmkdgfalaaGreatDoorL3Mon0
import Derived.StillTailTactics
/- Add of package monthly, and the document's own, as contracts: no statement of the seat is proved here. -/
namespace Go.Proofs.YtmlkccmkdgfalaaGreatDoor.L4
open Go.Proofs.YtmlkccmkdgfalaaGreatDoor.L3
open Go.RowKit
set_option linter.unusedVariables false
set_option maxRecDepth 100000

/-- A struct of three numbers, laid in a new block that may be written. -/
theorem box3f (w : World) (x y z : Value) (t : TypeId) : ∃ W b, w.alloc (.cells #[x, y, z] t) = W ∧ w.heap.size = b ∧ Ext w W ∧ W.cell? ⟨b, 0, none⟩ = some x ∧ W.cell? ⟨b, 1, none⟩ = some y ∧ W.cell? ⟨b, 2, none⟩ = some z ∧
    W.frozen? ⟨b, 0, none⟩ = false ∧ W.frozen? ⟨b, 1, none⟩ = false ∧ W.frozen? ⟨b, 2, none⟩ = false :=
  ⟨_, _, rfl, rfl, (Ext.refl w).alloc _ _, by simp [go_sem], by simp [go_sem], by simp [go_sem], by simp [go_sem], by simp [go_sem], by simp [go_sem]⟩
/-- A region that draws its order, whose first n operations leave the world as it is, and whose others come in their order behind them. -/
theorem wp_region_tail {P : Program} {id : Nat} {Q : Exit → Act → World → Prop} {a : Act} {w : World} {l : List Oper} (n : Nat) (hm : P.follows .mixedOrders = true) (hB : Region.lexTailB .any l.toArray n = true)
    (h : ∀ W, Ext w W → wpStill P l.toArray W (fun a' => wpList P l.toArray Q (l.drop n) a' W) (l.take n) a) : (Code.region id l.toArray true).wp P Q a w :=
  wp_region_still_tail n hm hB (h _ ((Ext.refl w).drew))
theorem Date_f (n : Int) (w : World) (h1 : -25567 ≤ n) (h2 : n ≤ 84370) (he : Hid (Env w)) :
    Calls Tryz.prog 62 #[.int .i64 n] w fun e w' => e = .returned (.tuple #[.agg #[.int .i64 (yOf n), .int .i64 (mOf n), .int .i64 (dOf n)], .int .i64 0]) ∧ Ext w w' :=
  (Date_ok n w h1 h2 he).mono fun e w' ⟨⟨y, m, d, he, hv, hn⟩, hx⟩ => by
    obtain ⟨rfl, rfl, rfl⟩ := ofDay_of hv hn
    exact ⟨he, hx⟩
theorem rDate_f (n : Int) (w : World) (h1 : -25567 ≤ n) (h2 : n ≤ 84370) :
    Calls Tryz.prog 52 #[.int .i64 n] w fun e w' => e = .returned (.tuple #[.agg #[.int .i64 (yOf n), .int .i64 (mOf n), .int .i64 (dOf n)], .int .i64 0]) ∧ Ext w w' :=
  (rDate_ok n w h1 h2).mono fun e w' ⟨⟨y, m, d, he, hv, hn⟩, hx⟩ => by
    obtain ⟨rfl, rfl, rfl⟩ := ofDay_of hv hn
    exact ⟨he, hx⟩

theorem dmonth_c (y m d : Int) (w : World) (y1 : 1900 ≤ y) (y2 : y ≤ 2200) (m1 : 1 ≤ m) (m2 : m ≤ 12) :
    Calls Tryz.prog 93 #[.agg #[.int .i64 y, .int .i64 m, .int .i64 d]] w fun e w' => e = .returned (.int .i64 (mi y m)) ∧ Ext w w' := by
  unfold mi
  go_enter Tryz.func93, Tryz.ntmps93
  go_wp2
  go_ret
  exact ⟨rfl, (Ext.refl _).alloc _ _⟩
end Go.Proofs.YtmlkccmkdgfalaaGreatDoor.L4
/- The method add of package monthly's date, as a contract: no statement of the seat is proved here. -/
namespace Go.Proofs.YtmlkccmkdgfalaaGreatDoor.L4
open Go.Proofs.YtmlkccmkdgfalaaGreatDoor.L3
open Go.RowKit
set_option linter.unusedVariables false
set_option maxRecDepth 100000

theorem dadd_lo (y m d k : Int) (w : World) (hv : Vld y m d) (hk : I64 k) (h : mi y m + k < 0) :
    Calls Tryz.prog 64 #[.agg #[.int .i64 y, .int .i64 m, .int .i64 d], .int .i64 k] w fun e w' => e = .returned (.tuple #[.int .i64 0, .int .i64 5]) ∧ Ext w w' := by
  have hmo : Hid (∀ w, Calls Tryz.prog 93 #[.agg #[.int .i64 y, .int .i64 m, .int .i64 d]] w fun e w' => e = .returned (.int .i64 (mi y m)) ∧ Ext w w') := fun w => dmonth_c y m d w hv.y1 hv.y2 hv.m1 hv.m2
  obtain ⟨b1, b2⟩ := mi_bd hv
  obtain ⟨k1, k2⟩ := hk
  generalize mi y m = M at *
  clear hv
  have e1 : decide (k < -M) = true := decide_eq_true (by omega)
  go_enter Tryz.func64, Tryz.ntmps64
  go_wp2_with fail
  obtain ⟨W0, b, hW0, hb, hx, k0, k1, k2⟩ := box3 w (.int .i64 y) (.int .i64 m) (.int .i64 d) 103
  rw [hW0, hb]
  clear hW0 hb
  replace hx := show Hid _ from hx
  refine (hmo.out _).mono ?_
  rintro e w1 ⟨rfl, hx1⟩
  replace hx : Hid (Ext w w1) := hx.out.trans hx1
  clear hx1
  go_wp2
  go_ret2
  exact ⟨rfl, hx.out⟩
theorem dadd_hi (y m d k : Int) (w : World) (hv : Vld y m d) (hk : I64 k) (h : 3611 < mi y m + k) :
    Calls Tryz.prog 64 #[.agg #[.int .i64 y, .int .i64 m, .int .i64 d], .int .i64 k] w fun e w' => e = .returned (.tuple #[.int .i64 0, .int .i64 5]) ∧ Ext w w' := by
  have hmo : Hid (∀ w, Calls Tryz.prog 93 #[.agg #[.int .i64 y, .int .i64 m, .int .i64 d]] w fun e w' => e = .returned (.int .i64 (mi y m)) ∧ Ext w w') := fun w => dmonth_c y m d w hv.y1 hv.y2 hv.m1 hv.m2
  obtain ⟨b1, b2⟩ := mi_bd hv
  obtain ⟨k1, k2⟩ := hk
  generalize mi y m = M at *
  clear hv
  have e1 : decide (k < -M) = false := decide_eq_false (by omega)
  have e2 : decide (3611 - M < k) = true := decide_eq_true (by omega)
  go_enter Tryz.func64, Tryz.ntmps64
  go_wp2_with fail
  obtain ⟨W0, b, hW0, hb, hx, k0, k1, k2⟩ := box3 w (.int .i64 y) (.int .i64 m) (.int .i64 d) 103
  rw [hW0, hb]
  clear hW0 hb
  replace hx := show Hid _ from hx
  refine (hmo.out _).mono ?_
  rintro e w1 ⟨rfl, hx1⟩
  replace k0 := hx1.cell_of k0; replace k1 := hx1.cell_of k1; replace k2 := hx1.cell_of k2
  replace hx : Hid (Ext w w1) := hx.out.trans hx1
  clear hx1
  go_wp2_with fail
  refine (hmo.out _).mono ?_
  rintro e w2 ⟨rfl, hx1⟩
  replace hx : Hid (Ext w w2) := hx.out.trans hx1
  clear hx1
  go_wp2
  go_ret2
  exact ⟨rfl, hx.out⟩
theorem dadd_ok (y m d k : Int) (w : World) (hv : Vld y m d) (hk : I64 k) (h1 : 0 ≤ mi y m + k) (h2 : mi y m + k ≤ 3611) (he : Hid (Env w)) :
    Calls Tryz.prog 64 #[.agg #[.int .i64 y, .int .i64 m, .int .i64 d], .int .i64 k] w
      fun e w' => e = .returned (.tuple #[.int .i64 (num (yO (mi y m + k)) (mO (mi y m + k)) (dO (mi y m + k) d)), .int .i64 0]) ∧ Ext w w' := by
  have he0 := he
  have hmo : Hid (∀ w, Calls Tryz.prog 93 #[.agg #[.int .i64 y, .int .i64 m, .int .i64 d]] w fun e w' => e = .returned (.int .i64 (mi y m)) ∧ Ext w w') := fun w => dmonth_c y m d w hv.y1 hv.y2 hv.m1 hv.m2
  have hV := show Hid _ from O_vld (mi y m + k) d h1 h2 hv.d1
  obtain ⟨b1, b2⟩ := mi_bd hv
  obtain ⟨k1, k2⟩ := hk
  have d1 := hv.d1; have d2 := hv.d31
  generalize mi y m = M at *
  clear hv
  have e1 : decide (k < -M) = false := decide_eq_false (by omega)
  have e2 : decide (3611 - M < k) = false := decide_eq_false (by omega)
  go_enter Tryz.func64, Tryz.ntmps64
  go_wp2_with fail
  obtain ⟨W0, b, hW0, hb, hx, k0, k1, k2⟩ := box3 w (.int .i64 y) (.int .i64 m) (.int .i64 d) 103
  rw [hW0, hb]
  clear hW0 hb
  replace he : Hid (Env W0) := he.out.ext hx
  replace hx := show Hid _ from hx
  refine (hmo.out _).mono ?_
  rintro e w1 ⟨rfl, hx1⟩
  replace k0 := hx1.cell_of k0; replace k1 := hx1.cell_of k1; replace k2 := hx1.cell_of k2
  replace he : Hid (Env w1) := he.out.ext hx1
  replace hx : Hid (Ext w w1) := hx.out.trans hx1
  clear hx1
  go_wp2_with fail
  refine (hmo.out _).mono ?_
  rintro e w2 ⟨rfl, hx1⟩
  replace k0 := hx1.cell_of k0; replace k1 := hx1.cell_of k1; replace k2 := hx1.cell_of k2
  replace he : Hid (Env w2) := he.out.ext hx1
  replace hx : Hid (Ext w w2) := hx.out.trans hx1
  clear hx1
  go_wp2_with fail
  refine (hmo.out _).mono ?_
  rintro e w3 ⟨rfl, hx1⟩
  replace k0 := hx1.cell_of k0; replace k1 := hx1.cell_of k1; replace k2 := hx1.cell_of k2
  replace he : Hid (Env w3) := he.out.ext hx1
  replace hx : Hid (Ext w w3) := hx.out.trans hx1
  clear hx1 hmo
  go_wp2_with fail
  obtain ⟨W1, c, hW1, hc, hxb, j0, j1, j2, f0, f1, f2⟩ := box3f w3 (.int .i64 (1900 + (M + k) / 12)) (.int .i64 ((M + k) % 12 + 1)) (.int .i64 0) 81
  rw [hW1, hc]
  have lo : w.heap.size ≤ c := by have := hx.out.size; omega
  clear hW1 hc
  replace k0 := hxb.cell_of k0; replace k1 := hxb.cell_of k1; replace k2 := hxb.cell_of k2
  replace he : Hid (Env W1) := he.out.ext hxb
  replace hx : Hid (Ext w W1) := hx.out.trans hxb
  clear hxb
  refine wp_region_tail 8 (by kernel_rfl) (by kernel_rfl) ?_
  intro W2 hxb
  replace k0 := hxb.cell_of k0; replace k1 := hxb.cell_of k1; replace k2 := hxb.cell_of k2
  replace f0 := hxb.froz_of j0 f0; replace f1 := hxb.froz_of j1 f1; replace f2 := hxb.froz_of j2 f2
  replace j0 := hxb.cell_of j0; replace j1 := hxb.cell_of j1; replace j2 := hxb.cell_of j2
  replace he : Hid (Env W2) := he.out.ext hxb
  replace hx : Hid (Ext w W2) := hx.out.trans hxb
  clear hxb
  simp only [List.take_succ_cons, List.take_zero, List.drop_succ_cons, List.drop_zero]
  still_step
  still_step
  still_step
  still_step
  still_step
  still_step
  still_call (Month_c _ _ _ (by unfold I64; omega) he)
  still_step
  refine wpStill_nil ?_
  have hV2 : Hid (Vld (1900 + (M + k) / 12) ((M + k) % 12 + 1) (if dim (1900 + (M + k) / 12) ((M + k) % 12 + 1) < d then dim (1900 + (M + k) / 12) ((M + k) % 12 + 1) else d)) := hV
  obtain ⟨D, hD⟩ : ∃ D, (if dim (1900 + (M + k) / 12) ((M + k) % 12 + 1) < d then dim (1900 + (M + k) / 12) ((M + k) % 12 + 1) else d) = D := ⟨_, rfl⟩
  rw [hD]
  rw [hD] at hV2
  have hD' : Hid (dO (M + k) d = D) := hD
  clear hD hV
  have lo' : Hid (Ext w (W2.setCell ⟨c, 2, none⟩ (.int .i64 D))) := hx.out.setCell lo _
  have he' : Hid (Env (W2.setCell ⟨c, 2, none⟩ (.int .i64 D))) := he0.out.ext lo'.out
  go_wp2_with fail
  refine (Number_ok _ _ _ _ hV2.out he').mono ?_
  rintro e w4 ⟨rfl, hx1⟩
  replace lo' : Hid (Ext w w4) := lo'.out.trans hx1
  clear hx1
  go_wp2
  go_ret2
  exact ⟨by rw [hD'.out]; rfl, lo'.out⟩
/-- What add answers, whatever the months. -/
theorem dadd_c (n k : Int) (w : World) (n1 : -25567 ≤ n) (n2 : n ≤ 84370) (hk : I64 k) (he : Hid (Env w)) :
    Calls Tryz.prog 64 #[.agg #[.int .i64 (yOf n), .int .i64 (mOf n), .int .i64 (dOf n)], .int .i64 k] w fun e w' => e = .returned (.tuple #[.int .i64 (nA n k), .int .i64 (nE n k)]) ∧ Ext w w' := by
  obtain ⟨hv, hn⟩ := ofDay n n1 n2
  by_cases h1 : mi (yOf n) (mOf n) + k < 0
  · have no : ¬ Has n k := fun h => by have := h.t1; omega
    rw [nA_no no, nE_no no]
    exact dadd_lo _ _ _ k w hv hk h1
  · by_cases h2 : 3611 < mi (yOf n) (mOf n) + k
    · have no : ¬ Has n k := fun h => by have := h.t2; omega
      rw [nA_no no, nE_no no]
      exact dadd_hi _ _ _ k w hv hk h2
    · have ok : Has n k := ⟨n1, n2, by omega, by omega⟩
      rw [nA_ok ok, nE_ok ok]
      exact dadd_ok _ _ _ k w hv hk (by omega) (by omega) he
end Go.Proofs.YtmlkccmkdgfalaaGreatDoor.L4
/- The document's own Add, and awake, as contracts: no statement of the seat is proved here. -/
namespace Go.Proofs.YtmlkccmkdgfalaaGreatDoor.L4
open Go.Proofs.YtmlkccmkdgfalaaGreatDoor.L3
open Go.RowKit
set_option linter.unusedVariables false
set_option maxRecDepth 100000

theorem rO (y m k : Int) : (12 * y + m - 1 + k) / 12 = yO (mi y m + k) ∧ (12 * y + m - 1 + k) % 12 + 1 = mO (mi y m + k) := by unfold yO mO mi; omega
/-- The document's Add, from a date on, where there is an answer. -/
theorem rAdd_ok (n k : Int) (w : World) (h : Has n k) (hk : I64 k) (he : Hid (Env w)) :
    Calls Tryz.prog 50 #[.int .i64 n, .int .i64 k] w fun e w' => e = .returned (.tuple #[.int .i64 (nA n k), .int .i64 (nE n k)]) ∧ Ext w w' := by
  have n1 := h.n1; have n2 := h.n2
  obtain ⟨hv, hn⟩ := ofDay n n1 n2
  have hD : Hid (∀ w : World, Calls Tryz.prog 52 #[.int .i64 n] w fun e w' => e = .returned (.tuple #[.agg #[.int .i64 (yOf n), .int .i64 (mOf n), .int .i64 (dOf n)], .int .i64 0]) ∧ Ext w w') := fun w => rDate_f n w n1 n2
  have hV := O_vld _ _ h.t1 h.t2 hv.d1
  have t1 := h.t1; have t2 := h.t2
  obtain ⟨b1, b2⟩ := mi_bd hv
  rw [nA_ok h, nE_ok h]
  have y1 := hv.y1; have y2 := hv.y2; have m1 := hv.m1; have m2 := hv.m2; have d1 := hv.d1; have d2 := hv.d31
  have hr := rO (yOf n) (mOf n) k
  have hm : mi (yOf n) (mOf n) = (yOf n - 1900) * 12 + mOf n - 1 := rfl
  have hdO : dO (mi (yOf n) (mOf n) + k) (dOf n) = if dim (yO (mi (yOf n) (mOf n) + k)) (mO (mi (yOf n) (mOf n) + k)) < dOf n then dim (yO (mi (yOf n) (mOf n) + k)) (mO (mi (yOf n) (mOf n) + k)) else dOf n := rfl
  rw [hdO] at hV ⊢
  clear hdO
  rw [← hr.1, ← hr.2] at hV ⊢
  clear hr hn hv h
  generalize yOf n = y at *
  generalize mOf n = m at *
  generalize dOf n = d at *
  rw [hm] at t1 t2 b1 b2
  clear hm
  have e1 : decide (k < -4000) = false := decide_eq_false (by omega)
  have e2 : decide (4000 < k) = false := decide_eq_false (by omega)
  have e3 : decide (12 * y + m - 1 + k < 22800) = false := decide_eq_false (by omega)
  have e4 : decide (26412 ≤ 12 * y + m - 1 + k) = false := decide_eq_false (by omega)
  replace hV := show Hid _ from hV
  go_enter Tryz.func50, Tryz.ntmps50
  go_wp2_with fail
  refine (hD.out _).mono ?_
  rintro e w1 ⟨rfl, hx1⟩
  replace he : Hid (Env w1) := he.out.ext hx1
  have hx := show Hid (Ext w w1) from hx1
  clear hx1 hD
  go_wp2_with fail
  obtain ⟨W0, b, hW0, hb, hxb, k0, k1, k2⟩ := box3 w1 (.int .i64 y) (.int .i64 m) (.int .i64 d) 81
  rw [hW0, hb]
  clear hW0 hb
  replace he : Hid (Env W0) := he.out.ext hxb
  replace hx : Hid (Ext w W0) := hx.out.trans hxb
  clear hxb
  have hm2 : Hid (I64 ((12 * y + m - 1 + k) % 12 + 1)) := by show I64 _; unfold I64; omega
  have j2 := Late.cell k2
  have hE : Hid (∀ s : Late W0, Hid (Env s.to)) := fun s => he.out.ext s.ext
  have hNe1 : Nonempty (Late W0) := ⟨⟨_, Ext.refl _⟩⟩
  refine wp_region_late (by kernel_rfl) (by kernel_rfl) ?_
  repeat (go_big_quiet_step ((first
    | (go_at_call 71; exact late_same (rMonth_c _ _ _ hm2.out))
    | (go_at_call 70; exact late_of (rNumber_ok _ _ _ _ hV.out (hE.out _))))))
  refine wpQuiet_nil ?_
  intro W1 hw'
  have hx1 := late_ext hw'
  clear hw'
  go_wp2
  all_goals (go_ret2; exact ⟨rfl, hx.out.trans hx1⟩)
theorem rAdd_far (n k : Int) (w : World) (n1 : -25567 ≤ n) (n2 : n ≤ 84370) (h : k < -4000 ∨ 4000 < k) (hk : I64 k) :
    Calls Tryz.prog 50 #[.int .i64 n, .int .i64 k] w fun e w' => e = .returned (.tuple #[.int .i64 0, .int .i64 5]) ∧ Ext w w' := by
  have hD : Hid (∀ w : World, Calls Tryz.prog 52 #[.int .i64 n] w fun e w' => e = .returned (.tuple #[.agg #[.int .i64 (yOf n), .int .i64 (mOf n), .int .i64 (dOf n)], .int .i64 0]) ∧ Ext w w') := fun w => rDate_f n w n1 n2
  obtain ⟨k1, k2⟩ := hk
  generalize yOf n = y at *
  generalize mOf n = m at *
  generalize dOf n = d at *
  rcases h with h | h
  · have e1 : decide (k < -4000) = true := decide_eq_true h
    go_enter Tryz.func50, Tryz.ntmps50
    go_wp2_with fail
    refine (hD.out _).mono ?_
    rintro e w1 ⟨rfl, hx1⟩
    have hx := show Hid (Ext w w1) from hx1
    clear hx1 hD
    go_wp2
    go_ret2
    exact ⟨rfl, hx.out.trans ((Ext.refl _).alloc _ _)⟩
  · have e1 : decide (k < -4000) = false := decide_eq_false (by omega)
    have e2 : decide (4000 < k) = true := decide_eq_true h
    go_enter Tryz.func50, Tryz.ntmps50
    go_wp2_with fail
    refine (hD.out _).mono ?_
    rintro e w1 ⟨rfl, hx1⟩
    have hx := show Hid (Ext w w1) from hx1
    clear hx1 hD
    go_wp2
    go_ret2
    exact ⟨rfl, hx.out.trans ((Ext.refl _).alloc _ _)⟩
theorem rAdd_out (n k : Int) (w : World) (n1 : -25567 ≤ n) (n2 : n ≤ 84370) (h1 : -4000 ≤ k) (h2 : k ≤ 4000) (h : mi (yOf n) (mOf n) + k < 0 ∨ 3611 < mi (yOf n) (mOf n) + k) :
    Calls Tryz.prog 50 #[.int .i64 n, .int .i64 k] w fun e w' => e = .returned (.tuple #[.int .i64 0, .int .i64 5]) ∧ Ext w w' := by
  have hD : Hid (∀ w : World, Calls Tryz.prog 52 #[.int .i64 n] w fun e w' => e = .returned (.tuple #[.agg #[.int .i64 (yOf n), .int .i64 (mOf n), .int .i64 (dOf n)], .int .i64 0]) ∧ Ext w w') := fun w => rDate_f n w n1 n2
  obtain ⟨hv, hn⟩ := ofDay n n1 n2
  have y1 := hv.y1; have y2 := hv.y2; have m1 := hv.m1; have m2 := hv.m2
  clear hv hn
  unfold mi at h
  generalize yOf n = y at *
  generalize mOf n = m at *
  generalize dOf n = d at *
  have e1 : decide (k < -4000) = false := decide_eq_false (by omega)
  have e2 : decide (4000 < k) = false := decide_eq_false (by omega)
  rcases h with h | h
  · have e3 : decide (12 * y + m - 1 + k < 22800) = true := decide_eq_true (by omega)
    go_enter Tryz.func50, Tryz.ntmps50
    go_wp2_with fail
    refine (hD.out _).mono ?_
    rintro e w1 ⟨rfl, hx1⟩
    have hx := show Hid (Ext w w1) from hx1
    clear hx1 hD
    go_wp2
    go_ret2
    exact ⟨rfl, hx.out.trans ((Ext.refl _).alloc _ _)⟩
  · have e3 : decide (12 * y + m - 1 + k < 22800) = false := decide_eq_false (by omega)
    have e4 : decide (26412 ≤ 12 * y + m - 1 + k) = true := decide_eq_true (by omega)
    go_enter Tryz.func50, Tryz.ntmps50
    go_wp2_with fail
    refine (hD.out _).mono ?_
    rintro e w1 ⟨rfl, hx1⟩
    have hx := show Hid (Ext w w1) from hx1
    clear hx1 hD
    go_wp2
    go_ret2
    exact ⟨rfl, hx.out.trans ((Ext.refl _).alloc _ _)⟩
theorem rAdd_day (n k : Int) (w : World) (h : n < -25567 ∨ 84370 < n) :
    Calls Tryz.prog 50 #[.int .i64 n, .int .i64 k] w fun e w' => e = .returned (.tuple #[.int .i64 0, .int .i64 5]) ∧ Ext w w' := by
  replace h := show Hid _ from h
  go_enter Tryz.func50, Tryz.ntmps50
  go_wp2_with fail
  refine (rDate_no n _ h.out).mono ?_
  rintro e w1 ⟨rfl, hx1⟩
  have hx := show Hid (Ext w w1) from hx1
  clear hx1
  go_wp2
  go_ret2
  exact ⟨rfl, hx.out.trans ((Ext.refl _).alloc _ _)⟩
theorem rAdd_c (n k : Int) (w : World) (hk : Hid (I64 k)) (he : Hid (Env w)) :
    Calls Tryz.prog 50 #[.int .i64 n, .int .i64 k] w fun e w' => e = .returned (.tuple #[.int .i64 (nA n k), .int .i64 (nE n k)]) ∧ Ext w w' := by
  by_cases h : Has n k
  · exact rAdd_ok n k w h hk.out he
  · rw [nA_no h, nE_no h]
    by_cases hn : n < -25567 ∨ 84370 < n
    · exact rAdd_day n k w hn
    · by_cases hf : k < -4000 ∨ 4000 < k
      · exact rAdd_far n k w (by omega) (by omega) hf hk.out
      · refine rAdd_out n k w (by omega) (by omega) (by omega) (by omega) ?_
        rcases Int.lt_or_le (mi (yOf n) (mOf n) + k) 0 with a | a
        · exact Or.inl a
        · rcases Int.lt_or_le 3611 (mi (yOf n) (mOf n) + k) with b | b
          · exact Or.inr b
          · exact absurd ⟨by omega, by omega, a, b⟩ h
theorem nA_awake : nA 19753 1 = 19782 ∧ nE 19753 1 = 0 := by decide
end Go.Proofs.YtmlkccmkdgfalaaGreatDoor.L4
/- A row of numbers in new memory; series and Dates of package monthly, as contracts: no statement of the seat is proved here. -/
namespace Go.Proofs.YtmlkccmkdgfalaaGreatDoor.L4
open Go.Proofs.YtmlkccmkdgfalaaGreatDoor.L3
open Go.RowKit
set_option linter.unusedVariables false
set_option maxRecDepth 100000

/-- A block's first T cells are the numbers f 0, f 1 .. -/
structure Arr (w : World) (g T : Nat) (f : Nat → Int) : Prop where
  cell : ∀ j, j < T → w.cell? ⟨g, j, none⟩ = some (.int .i64 (f j))
  free : ∀ j, j < T → w.frozen? ⟨g, j, none⟩ = false
theorem Arr.ext {w w' : World} {g T : Nat} {f : Nat → Int} (h : Arr w g T f) (hx : Ext w w') : Arr w' g T f :=
  ⟨fun j hj => hx.cell_of (h.cell j hj), fun j hj => hx.froz_of (h.cell j hj) (h.free j hj)⟩
/-- The first k are f's, the others 0. -/
def upTo (f : Nat → Int) (k : Nat) : Nat → Int := fun j => if j < k then f j else 0
theorem Arr.store {w : World} {g T : Nat} {f : Nat → Int} {k : Nat} (h : Arr w g T (upTo f k)) (v : Int) (hv : f k = v) : Arr (w.setCell ⟨g, k, none⟩ (.int .i64 v)) g T (upTo f (k + 1)) := by
  refine ⟨fun j hj => ?_, fun j hj => by simpa using h.free j hj⟩
  by_cases hjk : j = k
  · subst hjk
    rw [same (h.cell j hj)]
    simp [upTo, hv]
  · rw [other _ (Or.inr (fun e => hjk e.symm)), h.cell j hj]
    unfold upTo
    by_cases c : j < k
    · rw [if_pos c, if_pos (by omega)]
    · rw [if_neg c, if_neg (by omega)]
theorem Arr.full {w : World} {g T : Nat} {f : Nat → Int} (h : Arr w g T (upTo f T)) : Arr w g T f :=
  ⟨fun j hj => by rw [h.cell j hj]; unfold upTo; rw [if_pos hj], h.free⟩
theorem Arr.made {w' : World} {B g T : Nat} {e : TypeId} {f : Nat → Int} (h : w'.ownsRow B e 1 (.slice (some ⟨g, 0, none⟩) T T) T (madeCells #[Value.int .i64 0] T).toList) : Arr w' g T (upTo f 0) := by
  refine ⟨fun j hj => ?_, fun j _ => h.frozenAt j⟩
  rw [h.cellAt j (by omega)]
  have : (madeCells #[Value.int .i64 0] T).toList = List.replicate T (.int .i64 0) := toList_madeCells_one _ _
  rw [this]
  simp [upTo, hj]
theorem info_int : (Tryz.prog.info? 3).map (fun i => (i.zero, i.size, i.bytes)) = some (some (.int .i64 0), 1, 8) := by kernel_rfl
theorem mul_bd (ev : Int) (k : Nat) (e1 : 1 ≤ ev) (e2 : ev ≤ 12) (hk : k < 600) : 1 ≤ ev * ((k : Int) + 1) ∧ ev * ((k : Int) + 1) ≤ 7200 := by
  have h1 : ev * 1 ≤ ev * ((k : Int) + 1) := Int.mul_le_mul_of_nonneg_left (by omega) (by omega)
  have h2 : ev * ((k : Int) + 1) ≤ 12 * ((k : Int) + 1) := Int.mul_le_mul_of_nonneg_right e2 (by omega)
  omega
/-- The k-th day of the series, from 0 on. -/
def serA (n ev : Int) (k : Nat) : Int := nA n (ev * ((k : Int) + 1))
def serE (n ev : Int) (k : Nat) : Int := nE n (ev * ((k : Int) + 1))

theorem series_ok (n ev : Int) (T : Nat) (w : World) (n1 : -25567 ≤ n) (n2 : n ≤ 84370) (e1 : 1 ≤ ev) (e2 : ev ≤ 12) (t1 : 1 ≤ T) (t2 : T ≤ 600) (hall : ∀ j, j < T → serE n ev j = 0) (he : Hid (Env w)) :
    Calls Tryz.prog 63 #[.func (.func 64) #[.agg #[.int .i64 (yOf n), .int .i64 (mOf n), .int .i64 (dOf n)]] #[], .int .i64 ev, .int .i64 T] w
      fun e w' => (∃ g, e = .returned (.tuple #[.slice (some ⟨g, 0, none⟩) T T, .int .i64 0]) ∧ Arr w' g T (serA n ev)) ∧ Ext w w' := by
  have hA : Hid (∀ (k : Nat), k < T → ∀ w : World, Hid (Env w) → Calls Tryz.prog 64 #[.agg #[.int .i64 (yOf n), .int .i64 (mOf n), .int .i64 (dOf n)], .int .i64 (ev * ((k : Int) + 1))] w fun e w' => e = .returned (.tuple #[.int .i64 (serA n ev k), .int .i64 0]) ∧ Ext w w') := fun k hk w he => by
    have b := mul_bd ev k e1 e2 (by omega)
    have := dadd_c n (ev * ((k : Int) + 1)) w n1 n2 (by unfold I64; omega) he
    rwa [show nE n (ev * ((k : Int) + 1)) = 0 from hall k hk] at this
  clear hall
  obtain ⟨i0, hi, hz0, hz1, hz2⟩ := info_parts info_int
  generalize yOf n = y at *
  generalize mOf n = m at *
  generalize dOf n = d at *
  generalize serA n ev = F at *
  go_enter Tryz.func63, Tryz.ntmps63
  go_wp2_with (at_make; refine wpList_make_full w rfl (.tmp 12) (.tmp 12) 25 rfl w.heap.size 3 i0 (.int .i64 0) 1 Tryz.underlying25 hi hz0 hz1 .i64 .i64 T T T rfl rfl rfl rfl (by rw [hz2]; omega) (by unfold maxLen; omega) (Nat.le_refl _) ?_)
  intro w1 hown hg
  have hx := show Hid (Ext w w1) from Ext.grown hg
  have hr := show Hid (Arr w1 w.heap.size T (upTo F 0)) from Arr.made hown
  obtain ⟨g, hgg⟩ : ∃ g, w.heap.size = g := ⟨_, rfl⟩
  have lo : w.heap.size ≤ g := by omega
  rw [hgg] at hr ⊢
  clear hown hg hi hz0 hz1 hz2 hgg
  go_wp2_with fail
  go_loopw [16] (fun i wr => ∃ k : Nat, k ≤ T ∧ i = .int .i64 k ∧ Hid (Arr wr g T (upTo F k)) ∧ Hid (Ext w wr)) (fun i _ => T - (intOf i).toNat)
  case atStart => exact ⟨0, Nat.zero_le _, rfl, hr, hx⟩
  case round =>
    clear hr hx
    obtain ⟨k, hk, rfl, hr, hx⟩ := hrel
    by_cases hlt : k < T
    · obtain ⟨X, hX⟩ : ∃ X, ev * ((k : Int) + 1) = X := ⟨_, rfl⟩
      have hA1 := hA.out k hlt
      have b := mul_bd ev k e1 e2 (by omega)
      rw [hX] at hA1 b
      obtain ⟨x1, x2⟩ := b
      replace hA1 := show Hid _ from hA1
      obtain ⟨V, hV⟩ : ∃ V, F k = V := ⟨_, rfl⟩
      rw [hV] at hA1
      replace hV := show Hid _ from hV
      have he1 : Hid (Env wr) := he.out.ext hx.out
      go_wp2_with fail
      refine (hA1.out _ he1).mono ?_
      rintro e w2 ⟨rfl, hx1⟩
      replace hr : Hid (Arr w2 g T (upTo F k)) := hr.out.ext hx1
      replace hx : Hid (Ext w w2) := hx.out.trans hx1
      clear hx1 he1 hA1
      have c1 := hr.out.cell k hlt
      have c2 := hr.out.free k hlt
      go_wp2
      go_roundw
      case rel => exact ⟨k + 1, by omega, by go_num, hr.out.store V hV.out, hx.out.setCell lo _⟩
      case measure => simp [intOf]; omega
    · obtain rfl : k = T := by omega
      go_wp2
      go_ret2
      exact ⟨⟨g, rfl, hr.out.full⟩, hx.out⟩
theorem series_no (n ev : Int) (T J : Nat) (w : World) (n1 : -25567 ≤ n) (n2 : n ≤ 84370) (e1 : 1 ≤ ev) (e2 : ev ≤ 12) (t1 : 1 ≤ T) (t2 : T ≤ 600) (hJ : J < T) (hall : ∀ j, j < J → serE n ev j = 0) (hno : serE n ev J = 5) (he : Hid (Env w)) :
    Calls Tryz.prog 63 #[.func (.func 64) #[.agg #[.int .i64 (yOf n), .int .i64 (mOf n), .int .i64 (dOf n)]] #[], .int .i64 ev, .int .i64 T] w
      fun e w' => e = .returned (.tuple #[.slice none 0 0, .int .i64 5]) ∧ Ext w w' := by
  have hA : Hid (∀ (k : Nat), k < J → ∀ w : World, Hid (Env w) → Calls Tryz.prog 64 #[.agg #[.int .i64 (yOf n), .int .i64 (mOf n), .int .i64 (dOf n)], .int .i64 (ev * ((k : Int) + 1))] w fun e w' => e = .returned (.tuple #[.int .i64 (serA n ev k), .int .i64 0]) ∧ Ext w w') := fun k hk w he => by
    have b := mul_bd ev k e1 e2 (by omega)
    have := dadd_c n (ev * ((k : Int) + 1)) w n1 n2 (by unfold I64; omega) he
    rwa [show nE n (ev * ((k : Int) + 1)) = 0 from hall k hk] at this
  have hB : Hid (∀ w : World, Hid (Env w) → Calls Tryz.prog 64 #[.agg #[.int .i64 (yOf n), .int .i64 (mOf n), .int .i64 (dOf n)], .int .i64 (ev * ((J : Int) + 1))] w fun e w' => e = .returned (.tuple #[.int .i64 (serA n ev J), .int .i64 5]) ∧ Ext w w') := fun w he => by
    have b := mul_bd ev J e1 e2 (by omega)
    have := dadd_c n (ev * ((J : Int) + 1)) w n1 n2 (by unfold I64; omega) he
    rwa [show nE n (ev * ((J : Int) + 1)) = 5 from hno] at this
  clear hall hno
  obtain ⟨i0, hi, hz0, hz1, hz2⟩ := info_parts info_int
  generalize yOf n = y at *
  generalize mOf n = m at *
  generalize dOf n = d at *
  generalize serA n ev = F at *
  go_enter Tryz.func63, Tryz.ntmps63
  go_wp2_with (at_make; refine wpList_make_full w rfl (.tmp 12) (.tmp 12) 25 rfl w.heap.size 3 i0 (.int .i64 0) 1 Tryz.underlying25 hi hz0 hz1 .i64 .i64 T T T rfl rfl rfl rfl (by rw [hz2]; omega) (by unfold maxLen; omega) (Nat.le_refl _) ?_)
  intro w1 hown hg
  have hx := show Hid (Ext w w1) from Ext.grown hg
  have hr := show Hid (Arr w1 w.heap.size T (upTo F 0)) from Arr.made hown
  obtain ⟨g, hgg⟩ : ∃ g, w.heap.size = g := ⟨_, rfl⟩
  have lo : w.heap.size ≤ g := by omega
  rw [hgg] at hr ⊢
  clear hown hg hi hz0 hz1 hz2 hgg
  go_wp2_with fail
  go_loopw [16] (fun i wr => ∃ k : Nat, k ≤ J ∧ i = .int .i64 k ∧ Hid (Arr wr g T (upTo F k)) ∧ Hid (Ext w wr)) (fun i _ => T - (intOf i).toNat)
  case atStart => exact ⟨0, Nat.zero_le _, rfl, hr, hx⟩
  case round =>
    clear hr hx
    obtain ⟨k, hk, rfl, hr, hx⟩ := hrel
    have hkT : k < T := by omega
    obtain ⟨X, hX⟩ : ∃ X, ev * ((k : Int) + 1) = X := ⟨_, rfl⟩
    have b := mul_bd ev k e1 e2 (by omega)
    rw [hX] at b
    obtain ⟨x1, x2⟩ := b
    have he1 : Hid (Env wr) := he.out.ext hx.out
    by_cases hlt : k < J
    · have hA1 := hA.out k hlt
      rw [hX] at hA1
      replace hA1 := show Hid _ from hA1
      obtain ⟨V, hV⟩ : ∃ V, F k = V := ⟨_, rfl⟩
      rw [hV] at hA1
      replace hV := show Hid _ from hV
      go_wp2_with fail
      refine (hA1.out _ he1).mono ?_
      rintro e w2 ⟨rfl, hx1⟩
      replace hr : Hid (Arr w2 g T (upTo F k)) := hr.out.ext hx1
      replace hx : Hid (Ext w w2) := hx.out.trans hx1
      clear hx1 he1 hA1
      have c1 := hr.out.cell k hkT
      have c2 := hr.out.free k hkT
      go_wp2
      go_roundw
      case rel => exact ⟨k + 1, by omega, by go_num, hr.out.store V hV.out, hx.out.setCell lo _⟩
      case measure => simp [intOf]; omega
    · obtain rfl : k = J := by omega
      have hB1 := hB.out
      rw [hX] at hB1
      replace hB1 := show Hid _ from hB1
      go_wp2_with fail
      refine (hB1.out _ he1).mono ?_
      rintro e w2 ⟨rfl, hx1⟩
      replace hx : Hid (Ext w w2) := hx.out.trans hx1
      clear hx1 he1 hB1 hB hA
      go_wp2
      go_ret2
      exact ⟨rfl, hx.out⟩
end Go.Proofs.YtmlkccmkdgfalaaGreatDoor.L4
/- Dates of package monthly, as a contract: no statement of the seat is proved here. -/
namespace Go.Proofs.YtmlkccmkdgfalaaGreatDoor.L4
open Go.Proofs.YtmlkccmkdgfalaaGreatDoor.L3
open Go.RowKit
set_option linter.unusedVariables false
set_option maxRecDepth 100000

/-- The first of T places at which it does not hold. -/
theorem first_not (p : Nat → Prop) : ∀ T : Nat, (∀ j, j < T → p j) ∨ ∃ J, J < T ∧ ¬ p J ∧ ∀ j, j < J → p j
  | 0 => Or.inl fun j hj => absurd hj (Nat.not_lt_zero _)
  | T + 1 => by
    rcases first_not p T with h | ⟨J, h1, h2, h3⟩
    · by_cases c : p T
      · exact Or.inl fun j hj => by
          by_cases e : j = T
          · exact e ▸ c
          · exact h j (by omega)
      · exact Or.inr ⟨T, by omega, c, h⟩
    · exact Or.inr ⟨J, by omega, h2, h3⟩
theorem serE_two (n ev : Int) (k : Nat) : serE n ev k = 0 ∨ serE n ev k = 5 := nE_two _ _

theorem Dates_arg (n ev tm : Int) (w : World) (h : ev < 1 ∨ 12 < ev ∨ tm < 1 ∨ 600 < tm) :
    Calls Tryz.prog 44 #[.int .i64 n, .int .i64 ev, .int .i64 tm] w fun e w' => e = .returned (.tuple #[.slice none 0 0, .int .i64 1]) ∧ w' = w := by
  by_cases h1 : ev < 1
  · have d1 : decide (ev < 1) = true := decide_eq_true h1
    go_enter Tryz.func44, Tryz.ntmps44
    go_wp2
    go_ret2
    exact ⟨rfl, rfl⟩
  · have d1 : decide (ev < 1) = false := decide_eq_false h1
    by_cases h2 : 12 < ev
    · have d2 : decide (12 < ev) = true := decide_eq_true h2
      go_enter Tryz.func44, Tryz.ntmps44
      go_wp2
      go_ret2
      exact ⟨rfl, rfl⟩
    · have d2 : decide (12 < ev) = false := decide_eq_false h2
      by_cases h3 : tm < 1
      · have d3 : decide (tm < 1) = true := decide_eq_true h3
        go_enter Tryz.func44, Tryz.ntmps44
        go_wp2
        go_ret2
        exact ⟨rfl, rfl⟩
      · have d3 : decide (tm < 1) = false := decide_eq_false h3
        have h4 : 600 < tm := by omega
        have d4 : decide (600 < tm) = true := decide_eq_true h4
        go_enter Tryz.func44, Tryz.ntmps44
        go_wp2
        go_ret2
        exact ⟨rfl, rfl⟩
theorem Dates_day (n ev tm : Int) (w : World) (h : n < -25567 ∨ 84370 < n) (e1 : 1 ≤ ev) (e2 : ev ≤ 12) (t1 : 1 ≤ tm) (t2 : tm ≤ 600) :
    Calls Tryz.prog 44 #[.int .i64 n, .int .i64 ev, .int .i64 tm] w fun e w' => e = .returned (.tuple #[.slice none 0 0, .int .i64 5]) ∧ Ext w w' := by
  replace h := show Hid _ from h
  have d1 : decide (ev < 1) = false := decide_eq_false (by omega)
  have d2 : decide (12 < ev) = false := decide_eq_false (by omega)
  have d3 : decide (tm < 1) = false := decide_eq_false (by omega)
  have d4 : decide (600 < tm) = false := decide_eq_false (by omega)
  go_enter Tryz.func44, Tryz.ntmps44
  go_wp2_with fail
  refine (Date_no n _ h.out).mono ?_
  rintro e w1 ⟨rfl, hx1⟩
  replace hx1 := show Hid _ from hx1
  go_wp2
  go_ret2
  exact ⟨rfl, hx1.out.trans ((Ext.refl _).alloc _ _)⟩
theorem Dates_ok (n ev : Int) (T : Nat) (w : World) (n1 : -25567 ≤ n) (n2 : n ≤ 84370) (e1 : 1 ≤ ev) (e2 : ev ≤ 12) (t1 : 1 ≤ T) (t2 : T ≤ 600) (hall : ∀ j, j < T → serE n ev j = 0) (he : Hid (Env w)) :
    Calls Tryz.prog 44 #[.int .i64 n, .int .i64 ev, .int .i64 T] w
      fun e w' => (∃ g, e = .returned (.tuple #[.slice (some ⟨g, 0, none⟩) T T, .int .i64 0]) ∧ Arr w' g T (serA n ev)) ∧ Ext w w' := by
  have hS : Hid (∀ w : World, Hid (Env w) → Calls Tryz.prog 63 #[.func (.func 64) #[.agg #[.int .i64 (yOf n), .int .i64 (mOf n), .int .i64 (dOf n)]] #[], .int .i64 ev, .int .i64 T] w
      fun e w' => (∃ g, e = .returned (.tuple #[.slice (some ⟨g, 0, none⟩) T T, .int .i64 0]) ∧ Arr w' g T (serA n ev)) ∧ Ext w w') := fun w he => series_ok n ev T w n1 n2 e1 e2 t1 t2 hall he
  have hD : Hid (∀ w : World, Hid (Env w) → Calls Tryz.prog 62 #[.int .i64 n] w fun e w' => e = .returned (.tuple #[.agg #[.int .i64 (yOf n), .int .i64 (mOf n), .int .i64 (dOf n)], .int .i64 0]) ∧ Ext w w') := fun w he => Date_f n w n1 n2 he
  generalize yOf n = y at *
  generalize mOf n = m at *
  generalize dOf n = d at *
  clear hall
  generalize serA n ev = F at *
  have d1 : decide (ev < 1) = false := decide_eq_false (by omega)
  have d2 : decide (12 < ev) = false := decide_eq_false (by omega)
  have d3 : decide ((T : Int) < 1) = false := decide_eq_false (by omega)
  have d4 : decide (600 < (T : Int)) = false := decide_eq_false (by omega)
  go_enter Tryz.func44, Tryz.ntmps44
  go_wp2_with fail
  refine (hD.out _ he).mono ?_
  rintro e w1 ⟨rfl, hx1⟩
  replace he : Hid (Env w1) := he.out.ext hx1
  have hx := show Hid (Ext w w1) from hx1
  clear hx1 hD
  go_wp2_with fail
  obtain ⟨W0, b, hW0, hb, hxb, k0, k1, k2⟩ := box3 w1 (.int .i64 y) (.int .i64 m) (.int .i64 d) 81
  rw [hW0, hb]
  clear hW0 hb
  replace he : Hid (Env W0) := he.out.ext hxb
  replace hx : Hid (Ext w W0) := hx.out.trans hxb
  clear hxb
  refine (hS.out _ he).mono ?_
  rintro e w2 ⟨⟨g, rfl, hr⟩, hx1⟩
  replace hx : Hid (Ext w w2) := hx.out.trans hx1
  replace hr := show Hid _ from hr
  clear hx1 hS
  go_wp2
  go_ret2
  exact ⟨⟨g, rfl, hr.out⟩, hx.out⟩
theorem Dates_no (n ev : Int) (T : Nat) (w : World) (n1 : -25567 ≤ n) (n2 : n ≤ 84370) (e1 : 1 ≤ ev) (e2 : ev ≤ 12) (t1 : 1 ≤ T) (t2 : T ≤ 600) (hall : ¬ ∀ j, j < T → serE n ev j = 0) (he : Hid (Env w)) :
    Calls Tryz.prog 44 #[.int .i64 n, .int .i64 ev, .int .i64 T] w fun e w' => e = .returned (.tuple #[.slice none 0 0, .int .i64 5]) ∧ Ext w w' := by
  have hS : Hid (∀ w : World, Hid (Env w) → Calls Tryz.prog 63 #[.func (.func 64) #[.agg #[.int .i64 (yOf n), .int .i64 (mOf n), .int .i64 (dOf n)]] #[], .int .i64 ev, .int .i64 T] w
      fun e w' => e = .returned (.tuple #[.slice none 0 0, .int .i64 5]) ∧ Ext w w') := fun w he => by
    rcases first_not (fun j => serE n ev j = 0) T with h | ⟨J, h1, h2, h3⟩
    · exact absurd h hall
    · exact series_no n ev T J w n1 n2 e1 e2 t1 t2 h1 h3 ((serE_two n ev J).resolve_left h2) he
  have hD : Hid (∀ w : World, Hid (Env w) → Calls Tryz.prog 62 #[.int .i64 n] w fun e w' => e = .returned (.tuple #[.agg #[.int .i64 (yOf n), .int .i64 (mOf n), .int .i64 (dOf n)], .int .i64 0]) ∧ Ext w w') := fun w he => Date_f n w n1 n2 he
  generalize yOf n = y at *
  generalize mOf n = m at *
  generalize dOf n = d at *
  clear hall
  have d1 : decide (ev < 1) = false := decide_eq_false (by omega)
  have d2 : decide (12 < ev) = false := decide_eq_false (by omega)
  have d3 : decide ((T : Int) < 1) = false := decide_eq_false (by omega)
  have d4 : decide (600 < (T : Int)) = false := decide_eq_false (by omega)
  go_enter Tryz.func44, Tryz.ntmps44
  go_wp2_with fail
  refine (hD.out _ he).mono ?_
  rintro e w1 ⟨rfl, hx1⟩
  replace he : Hid (Env w1) := he.out.ext hx1
  have hx := show Hid (Ext w w1) from hx1
  clear hx1 hD
  go_wp2_with fail
  obtain ⟨W0, b, hW0, hb, hxb, k0, k1, k2⟩ := box3 w1 (.int .i64 y) (.int .i64 m) (.int .i64 d) 81
  rw [hW0, hb]
  clear hW0 hb
  replace he : Hid (Env W0) := he.out.ext hxb
  replace hx : Hid (Ext w W0) := hx.out.trans hxb
  clear hxb
  refine (hS.out _ he).mono ?_
  rintro e w2 ⟨rfl, hx1⟩
  replace hx : Hid (Ext w w2) := hx.out.trans hx1
  clear hx1 hS
  go_wp2
  go_ret2
  exact ⟨rfl, hx.out⟩
end Go.Proofs.YtmlkccmkdgfalaaGreatDoor.L4
/- The document's own Dates, as a contract: no statement of the seat is proved here. -/
namespace Go.Proofs.YtmlkccmkdgfalaaGreatDoor.L4
open Go.Proofs.YtmlkccmkdgfalaaGreatDoor.L3
open Go.RowKit
set_option linter.unusedVariables false
set_option maxRecDepth 100000

/-- The first k of f, as values. -/
def ints (f : Nat → Int) (k : Nat) : List Value := (List.range k).map fun j => .int .i64 (f j)
theorem ints_succ (f : Nat → Int) (k : Nat) : ints f (k + 1) = ints f k ++ [.int .i64 (f k)] := by simp [ints, List.range_succ]
theorem ints_length (f : Nat → Int) (k : Nat) : (ints f k).length = k := by simp [ints]
theorem Arr.of_own {w : World} {B : Nat} {e : TypeId} {v : Value} {T : Nat} {f : Nat → Int} (hT : 1 ≤ T) (h : w.ownsRow B e 1 v T (ints f T)) : ∃ g c, v = .slice (some ⟨g, 0, none⟩) T c ∧ Arr w g T f := by
  have h' := h
  rcases h'.2 with ⟨_, h0⟩ | ⟨g, c, cur, rfl, _⟩
  · omega
  · refine ⟨g, c, rfl, fun j hj => ?_, fun j _ => h.frozenAt j⟩
    rw [h.cellAt j (by omega)]
    simp [ints, hj]
theorem own_ext {w w' : World} {B : Nat} {e : TypeId} {z : Nat} {v : Value} {T : Nat} {xs : List Value} (h : w.ownsRow B e z v T xs) (hx : Ext w w') : w'.ownsRow B e z v T xs := by
  refine ⟨h.1, ?_⟩
  rcases h.2 with h0 | ⟨g, c, cur, h1, h2, h3, h4⟩
  · exact Or.inl h0
  · refine Or.inr ⟨g, c, cur, h1, h2, ?_, h4⟩
    rw [hx.below.block g (Array.getElem?_eq_some_iff.1 h3).1]
    exact h3
theorem own_lo {w : World} {B : Nat} {e : TypeId} {z : Nat} {v : Value} {T : Nat} {xs : List Value} (h : w.ownsRow B e z v T xs) : ∀ k, v.ownBlock = some k → B ≤ k := fun k hk => (h.lt k hk).1
theorem rDates_arg (n ev tm : Int) (w : World) (h : ev < 1 ∨ 12 < ev ∨ tm < 1 ∨ 600 < tm) :
    Calls Tryz.prog 22 #[.int .i64 n, .int .i64 ev, .int .i64 tm] w fun e w' => e = .returned (.tuple #[.slice none 0 0, .int .i64 1]) ∧ w' = w := by
  by_cases h1 : ev < 1
  · have d1 : decide (ev < 1) = true := decide_eq_true h1
    go_enter Tryz.func22, Tryz.ntmps22
    go_wp2
    go_ret2
    exact ⟨rfl, rfl⟩
  · have d1 : decide (ev < 1) = false := decide_eq_false h1
    by_cases h2 : 12 < ev
    · have d2 : decide (12 < ev) = true := decide_eq_true h2
      go_enter Tryz.func22, Tryz.ntmps22
      go_wp2
      go_ret2
      exact ⟨rfl, rfl⟩
    · have d2 : decide (12 < ev) = false := decide_eq_false h2
      by_cases h3 : tm < 1
      · have d3 : decide (tm < 1) = true := decide_eq_true h3
        go_enter Tryz.func22, Tryz.ntmps22
        go_wp2
        go_ret2
        exact ⟨rfl, rfl⟩
      · have d3 : decide (tm < 1) = false := decide_eq_false h3
        have h4 : 600 < tm := by omega
        have d4 : decide (600 < tm) = true := decide_eq_true h4
        go_enter Tryz.func22, Tryz.ntmps22
        go_wp2
        go_ret2
        exact ⟨rfl, rfl⟩
theorem mul_comm' (ev : Int) (k : Nat) : ((k : Int) + 1) * ev = ev * ((k : Int) + 1) := Int.mul_comm _ _
theorem rDates_ok (n ev : Int) (T : Nat) (w : World) (e1 : 1 ≤ ev) (e2 : ev ≤ 12) (t1 : 1 ≤ T) (t2 : T ≤ 600) (hall : ∀ j, j < T → serE n ev j = 0) (he : Hid (Env w)) :
    Calls Tryz.prog 22 #[.int .i64 n, .int .i64 ev, .int .i64 T] w
      fun e w' => (∃ g c, e = .returned (.tuple #[.slice (some ⟨g, 0, none⟩) T c, .int .i64 0]) ∧ Arr w' g T (serA n ev)) ∧ Ext w w' := by
  have hA : Hid (∀ (k : Nat), k < T → ∀ w : World, Hid (Env w) → Calls Tryz.prog 50 #[.int .i64 n, .int .i64 (((k : Int) + 1) * ev)] w fun e w' => e = .returned (.tuple #[.int .i64 (serA n ev k), .int .i64 0]) ∧ Ext w w') := fun k hk w he => by
    have b := mul_bd ev k e1 e2 (by omega)
    rw [mul_comm']
    have := rAdd_c n (ev * ((k : Int) + 1)) w (by show I64 _; unfold I64; omega) he
    rwa [show nE n (ev * ((k : Int) + 1)) = 0 from hall k hk] at this
  clear hall
  obtain ⟨i0, hi, hz0, hz1, hz2⟩ := info_parts info_int
  generalize serA n ev = F at *
  have d1 : decide (ev < 1) = false := decide_eq_false (by omega)
  have d2 : decide (12 < ev) = false := decide_eq_false (by omega)
  have d3 : decide ((T : Int) < 1) = false := decide_eq_false (by omega)
  have d4 : decide (600 < (T : Int)) = false := decide_eq_false (by omega)
  go_enter Tryz.func22, Tryz.ntmps22
  go_wp2_with fail
  go_loopw [8, 9] (fun v i wr => ∃ k : Nat, k ≤ T ∧ i = .int .i64 ((k : Int) + 1) ∧ Hid (wr.ownsRow w.heap.size 3 1 v k (ints F k)) ∧ Hid (Ext w wr)) (fun _ i _ => T + 1 - (intOf i).toNat)
  case atStart => exact ⟨0, Nat.zero_le _, rfl, World.ownsRow_nil _ _ _ _, Ext.refl w⟩
  case round =>
    obtain ⟨k, hk, rfl, hr, hx⟩ := hrel
    by_cases hlt : k < T
    · obtain ⟨X, hX⟩ : ∃ X, ((k : Int) + 1) * ev = X := ⟨_, rfl⟩
      have hA1 := hA.out k hlt
      have b := mul_bd ev k e1 e2 (by omega)
      rw [← mul_comm'] at b
      rw [hX] at hA1 b
      obtain ⟨x1, x2⟩ := b
      replace hA1 := show Hid _ from hA1
      obtain ⟨V, hV⟩ : ∃ V, F k = V := ⟨_, rfl⟩
      rw [hV] at hA1
      replace hV := show Hid _ from hV
      have he1 : Hid (Env wr) := he.out.ext hx.out
      go_wp2_with fail
      refine (hA1.out _ he1).mono ?_
      rintro e w2 ⟨rfl, hx1⟩
      replace hr := own_ext hr.out hx1
      replace hx : Hid (Ext w w2) := hx.out.trans hx1
      clear hx1 he1 hA1
      have hsz := hx.out.size
      go_wp2_with (at_builtin; refine wpList_append_own _ rfl (.tmp 42) (.tmp 44) 25 rfl w.heap.size 3 i0 (.int .i64 0) 1 8 Tryz.underlying25 hi hz0 hz1 hz2 rfl (by decide) _ _ _ rfl (hr.alloc _) ⟨w2.heap.size, 0, none⟩ 1 1 [.int .i64 V] rfl rfl ?c1 ?c2 ?c3 ?c4 ?c5 ?_)
      case c1 =>
        intro j u hj
        match j, hj with
        | 0, hj => simp at hj; subst hj; simp [Addr.add]
      case c2 => intro u hu; simp at hu; subst hu; rfl
      case c3 => unfold maxLen; omega
      case c4 => omega
      case c5 => simp; omega
      intro v' w3 hown' hgrow _
      have hx3 : Hid (Ext w w3) := ⟨((hx.out.alloc _ _).below).grown hgrow (by simp; omega) (own_lo hr)⟩
      have hr3 : Hid (w3.ownsRow w.heap.size 3 1 v' (k + 1) (ints F (k + 1))) := by
        show w3.ownsRow _ _ _ _ _ _
        rw [ints_succ, hV.out]; exact hown'
      clear hown' hgrow hr hx
      go_wp2
      go_roundw
      case rel => exact ⟨k + 1, by omega, by go_num, hr3, hx3⟩
      case measure => simp [intOf]; omega
    · obtain rfl : k = T := by omega
      obtain ⟨g, c, rfl, hr2⟩ := Arr.of_own t1 hr.out
      replace hr2 := show Hid _ from hr2
      clear hr
      go_wp2
      go_ret2
      exact ⟨⟨g, c, rfl, hr2.out⟩, hx.out⟩
theorem rDates_at (n ev : Int) (T J : Nat) (w : World) (e1 : 1 ≤ ev) (e2 : ev ≤ 12) (t1 : 1 ≤ T) (t2 : T ≤ 600) (hJ : J < T) (hall : ∀ j, j < J → serE n ev j = 0) (hno : serE n ev J = 5) (he : Hid (Env w)) :
    Calls Tryz.prog 22 #[.int .i64 n, .int .i64 ev, .int .i64 T] w
      fun e w' => e = .returned (.tuple #[.slice none 0 0, .int .i64 5]) ∧ Ext w w' := by
  have hA : Hid (∀ (k : Nat), k < J → ∀ w : World, Hid (Env w) → Calls Tryz.prog 50 #[.int .i64 n, .int .i64 (((k : Int) + 1) * ev)] w fun e w' => e = .returned (.tuple #[.int .i64 (serA n ev k), .int .i64 0]) ∧ Ext w w') := fun k hk w he => by
    have b := mul_bd ev k e1 e2 (by omega)
    rw [mul_comm']
    have := rAdd_c n (ev * ((k : Int) + 1)) w (by show I64 _; unfold I64; omega) he
    rwa [show nE n (ev * ((k : Int) + 1)) = 0 from hall k hk] at this
  have hB : Hid (∀ w : World, Hid (Env w) → Calls Tryz.prog 50 #[.int .i64 n, .int .i64 (((J : Int) + 1) * ev)] w fun e w' => e = .returned (.tuple #[.int .i64 (serA n ev J), .int .i64 5]) ∧ Ext w w') := fun w he => by
    have b := mul_bd ev J e1 e2 (by omega)
    rw [mul_comm']
    have := rAdd_c n (ev * ((J : Int) + 1)) w (by show I64 _; unfold I64; omega) he
    rwa [show nE n (ev * ((J : Int) + 1)) = 5 from hno] at this
  clear hall hno
  obtain ⟨i0, hi, hz0, hz1, hz2⟩ := info_parts info_int
  generalize serA n ev = F at *
  have d1 : decide (ev < 1) = false := decide_eq_false (by omega)
  have d2 : decide (12 < ev) = false := decide_eq_false (by omega)
  have d3 : decide ((T : Int) < 1) = false := decide_eq_false (by omega)
  have d4 : decide (600 < (T : Int)) = false := decide_eq_false (by omega)
  go_enter Tryz.func22, Tryz.ntmps22
  go_wp2_with fail
  go_loopw [8, 9] (fun v i wr => ∃ k : Nat, k ≤ J ∧ i = .int .i64 ((k : Int) + 1) ∧ Hid (wr.ownsRow w.heap.size 3 1 v k (ints F k)) ∧ Hid (Ext w wr)) (fun _ i _ => T + 1 - (intOf i).toNat)
  case atStart => exact ⟨0, Nat.zero_le _, rfl, World.ownsRow_nil _ _ _ _, Ext.refl w⟩
  case round =>
    obtain ⟨k, hk, rfl, hr, hx⟩ := hrel
    by_cases hlt : k < J
    · obtain ⟨X, hX⟩ : ∃ X, ((k : Int) + 1) * ev = X := ⟨_, rfl⟩
      have hA1 := hA.out k hlt
      have b := mul_bd ev k e1 e2 (by omega)
      rw [← mul_comm'] at b
      rw [hX] at hA1 b
      obtain ⟨x1, x2⟩ := b
      replace hA1 := show Hid _ from hA1
      obtain ⟨V, hV⟩ : ∃ V, F k = V := ⟨_, rfl⟩
      rw [hV] at hA1
      replace hV := show Hid _ from hV
      have he1 : Hid (Env wr) := he.out.ext hx.out
      go_wp2_with fail
      refine (hA1.out _ he1).mono ?_
      rintro e w2 ⟨rfl, hx1⟩
      replace hr := own_ext hr.out hx1
      replace hx : Hid (Ext w w2) := hx.out.trans hx1
      clear hx1 he1 hA1
      have hsz := hx.out.size
      go_wp2_with (at_builtin; refine wpList_append_own _ rfl (.tmp 42) (.tmp 44) 25 rfl w.heap.size 3 i0 (.int .i64 0) 1 8 Tryz.underlying25 hi hz0 hz1 hz2 rfl (by decide) _ _ _ rfl (hr.alloc _) ⟨w2.heap.size, 0, none⟩ 1 1 [.int .i64 V] rfl rfl ?c1 ?c2 ?c3 ?c4 ?c5 ?_)
      case c1 =>
        intro j u hj
        match j, hj with
        | 0, hj => simp at hj; subst hj; simp [Addr.add]
      case c2 => intro u hu; simp at hu; subst hu; rfl
      case c3 => unfold maxLen; omega
      case c4 => omega
      case c5 => simp; omega
      intro v' w3 hown' hgrow _
      have hx3 : Hid (Ext w w3) := ⟨((hx.out.alloc _ _).below).grown hgrow (by simp; omega) (own_lo hr)⟩
      have hr3 : Hid (w3.ownsRow w.heap.size 3 1 v' (k + 1) (ints F (k + 1))) := by
        show w3.ownsRow _ _ _ _ _ _
        rw [ints_succ, hV.out]; exact hown'
      clear hown' hgrow hr hx
      go_wp2
      go_roundw
      case rel => exact ⟨k + 1, by omega, by go_num, hr3, hx3⟩
      case measure => simp [intOf]; omega
    · obtain rfl : k = J := by omega
      obtain ⟨X, hX⟩ : ∃ X, ((k : Int) + 1) * ev = X := ⟨_, rfl⟩
      have hB1 := hB.out
      have b := mul_bd ev k e1 e2 (by omega)
      rw [← mul_comm'] at b
      rw [hX] at hB1 b
      obtain ⟨x1, x2⟩ := b
      replace hB1 := show Hid _ from hB1
      have he1 : Hid (Env wr) := he.out.ext hx.out
      go_wp2_with fail
      refine (hB1.out _ he1).mono ?_
      rintro e w2 ⟨rfl, hx1⟩
      replace hx : Hid (Ext w w2) := hx.out.trans hx1
      clear hx1 he1 hB1 hB hA hr
      go_wp2
      go_ret2
      exact ⟨rfl, hx.out⟩
theorem rDates_no (n ev : Int) (T : Nat) (w : World) (e1 : 1 ≤ ev) (e2 : ev ≤ 12) (t1 : 1 ≤ T) (t2 : T ≤ 600) (hall : ¬ ∀ j, j < T → serE n ev j = 0) (he : Hid (Env w)) :
    Calls Tryz.prog 22 #[.int .i64 n, .int .i64 ev, .int .i64 T] w fun e w' => e = .returned (.tuple #[.slice none 0 0, .int .i64 5]) ∧ Ext w w' := by
  rcases first_not (fun j => serE n ev j = 0) T with h | ⟨J, h1, h2, h3⟩
  · exact absurd h hall
  · exact rDates_at n ev T J w e1 e2 t1 t2 h1 h3 ((serE_two n ev J).resolve_left h2) he
end Go.Proofs.YtmlkccmkdgfalaaGreatDoor.L4
/- Months in two steps and in one, by themselves; plain arithmetic, no program is spoken of here. -/
namespace Go.Proofs.YtmlkccmkdgfalaaGreatDoor.L4
open Go.Proofs.YtmlkccmkdgfalaaGreatDoor.L3
set_option linter.unusedVariables false
set_option maxRecDepth 100000

theorem mi_of (n : Int) (y : Int) (h1 : -25567 ≤ n) (h2 : n ≤ 84370) (h : n < st (y + 1)) : mi (yOf n) (mOf n) ≤ (y - 1900) * 12 + 11 := by
  obtain ⟨v, e⟩ := ofDay n h1 h2
  have b := cum_bd (yOf n) (mOf n) v.m1 (by have := v.m2; omega)
  have d1 := v.d1
  have m2 := v.m2
  have hy : yOf n ≤ y := by
    rcases Int.lt_or_le y (yOf n) with k | k
    · have := st_mono (y + 1) (yOf n) (by omega)
      unfold num at e
      omega
    · exact k
  unfold mi
  omega
/-- In one step never earlier than in two, and at most three days behind. -/
theorem two (n a b : Int) (h1 : Has n a) (h2 : Has n (a + b)) :
    Has (nA n a) b ∧ nA (nA n a) b ≤ nA n (a + b) ∧ nA n (a + b) - nA (nA n a) b ≤ 3 ∧ (dOf n ≤ 28 → nA (nA n a) b = nA n (a + b)) ∧ yOf (nA (nA n a) b) = yOf (nA n (a + b)) ∧ mOf (nA (nA n a) b) = mOf (nA n (a + b)) := by
  obtain ⟨V, e1, e2, c1, c2⟩ := nA_date h1
  have h3 : Has (nA n a) b := ⟨c1, c2, by rw [e1, Int.add_assoc]; exact h2.t1, by rw [e1, Int.add_assoc]; exact h2.t2⟩
  obtain ⟨v, en⟩ := ofDay n h1.n1 h1.n2
  have d1 := v.d1; have d2 := v.d31
  have k3 := nA_ok h3
  have k2 := nA_ok h2
  rw [e1, e2, Int.add_assoc] at k3
  have q1 := dO_bd (mi (yOf n) (mOf n) + a) (dOf n) h1.t1 h1.t2 d1
  have q2 := dO_bd (mi (yOf n) (mOf n) + (a + b)) (dOf n) h2.t1 h2.t2 d1
  have q3 := dO_bd (mi (yOf n) (mOf n) + (a + b)) (dO (mi (yOf n) (mOf n) + a) (dOf n)) h2.t1 h2.t2 q1.1
  obtain ⟨o1, o2, o3, o4⟩ := O_bd _ h1.t1 h1.t2
  obtain ⟨p1, p2, p3, p4⟩ := O_bd _ h2.t1 h2.t2
  have r1 := dim_bd (yO (mi (yOf n) (mOf n) + a)) _ o3 o4
  have r2 := dim_bd (yO (mi (yOf n) (mOf n) + (a + b))) _ p3 p4
  have V3 := O_vld _ _ h2.t1 h2.t2 q1.1
  have V2 := O_vld _ _ h2.t1 h2.t2 d1
  have s3 := ofDay_of V3 k3.symm
  have s2 := ofDay_of V2 k2.symm
  refine ⟨h3, ?_, ?_, ?_, by rw [← s3.1, ← s2.1], by rw [← s3.2.1, ← s2.2.1]⟩
  · rw [k3, k2]; unfold num; omega
  · rw [k3, k2]; unfold num; omega
  · intro hd; rw [k3, k2]; unfold num; omega
theorem nA_zero (n : Int) (h : Has n 0) : nA n 0 = n := by
  obtain ⟨v, e⟩ := ofDay n h.n1 h.n2
  obtain ⟨o1, o2⟩ := O_mi v
  rw [nA_ok h, Int.add_zero, o1, o2]
  have d2 := v.d2
  have : dO (mi (yOf n) (mOf n)) (dOf n) = dOf n := by unfold dO; rw [o1, o2, if_neg (by omega)]
  rw [this, e]
theorem has_zero (n : Int) (h1 : -25567 ≤ n) (h2 : n ≤ 84370) : Has n 0 := by
  have b := mi_bd (ofDay n h1 h2).1
  exact ⟨h1, h2, by omega, by omega⟩
/-- Forwards, and back again. -/
theorem back4 (n k : Int) (h : Has n k) : nE (nA n k) (-k) = 0 ∧ (dOf n ≤ 28 → nA (nA n k) (-k) = n) ∧ nA (nA n k) (-k) ≤ n ∧ n - nA (nA n k) (-k) ≤ 3 := by
  have z := has_zero n h.n1 h.n2
  have hz : k + -k = 0 := by omega
  have t := two n k (-k) h (by rw [hz]; exact z)
  rw [hz, nA_zero n z] at t
  exact ⟨nE_ok t.1, t.2.2.2.1, t.2.1, t.2.2.1⟩
theorem ends4 (n a b : Int) (h1 : 10000 ≤ n) (h2 : n ≤ 49999) (a1 : 0 ≤ a) (a2 : a ≤ 299) (b1 : 0 ≤ b) (b2 : b ≤ 299) : Has n a ∧ Has n (a + b) := by
  have s : st (2106 + 1) = 50038 := by decide
  have m := mi_of n 2106 (by omega) (by omega) (by omega)
  have b := mi_bd (ofDay n (by omega) (by omega)).1
  exact ⟨⟨by omega, by omega, by omega, by omega⟩, ⟨by omega, by omega, by omega, by omega⟩⟩
end Go.Proofs.YtmlkccmkdgfalaaGreatDoor.L4
