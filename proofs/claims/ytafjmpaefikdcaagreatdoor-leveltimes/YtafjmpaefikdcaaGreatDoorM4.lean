/- Texts of an elder layer, one behind the other (layer 4), as contracts: no statement of the seat is proved here. -/
import Derived.Test.YtafjmpaefikdcaaGreatDoorM3
import Derived.StillTailTactics
/- Add of package monthly, and the document's own, as contracts: no statement of the seat is proved here. -/
namespace Go.Proofs.YtafjmpaefikdcaaGreatDoor.L4
open Go.Proofs.YtafjmpaefikdcaaGreatDoor.L3
open Go.RowKit
set_option linter.unusedVariables false
set_option maxRecDepth 100000

/-- A struct of three numbers, laid in a new block that may be written. -/
theorem box3f (w : World) (x y z : Value) (t : TypeId) : ∃ W b, w.alloc (.cells #[x, y, z] t) = W ∧ w.heap.size = b ∧ Ext w W ∧ W.cell? ⟨b, 0, none⟩ = some x ∧ W.cell? ⟨b, 1, none⟩ = some y ∧ W.cell? ⟨b, 2, none⟩ = some z ∧
    W.frozen? ⟨b, 0, none⟩ = false ∧ W.frozen? ⟨b, 1, none⟩ = false ∧ W.frozen? ⟨b, 2, none⟩ = false :=
  ⟨_, _, rfl, rfl, (Ext.refl w).alloc _ _, by simp [go_sem], by simp [go_sem], by simp [go_sem], by simp [go_sem], by simp [go_sem], by simp [go_sem]⟩
/-- A region that draws its order, whose first n operations leave the world as it is, and whose others come in their order behind them. -/
theorem wp_region_tail {P : Program} {id : Nat} {Q : Exit → Act → World → Prop} {a : Act} {w : World} {l : List Oper} (n : Nat) (hm : P.follows .mixedOrders = true) (hB : Region.lexTailB .any l.toArray n = true)
    (h : ∀ W, Ext w W → wpStill P l.toArray W (fun a' => wpList P l.toArray Q (l.drop n) a' W) (l.take n) a) : (Code.region id l.toArray true).wp P Q a w :=
  wp_region_still_tail n hm hB (h _ ((Ext.refl w).drew))
theorem rDate_f (n : Int) (w : World) (h1 : -25567 ≤ n) (h2 : n ≤ 84370) :
    Calls Tryz.prog 71 #[.int .i64 n] w fun e w' => e = .returned (.tuple #[.agg #[.int .i64 (yOf n), .int .i64 (mOf n), .int .i64 (dOf n)], .int .i64 0]) ∧ Ext w w' :=
  (rDate_ok n w h1 h2).mono fun e w' ⟨⟨y, m, d, he, hv, hn⟩, hx⟩ => by
    obtain ⟨rfl, rfl, rfl⟩ := ofDay_of hv hn
    exact ⟨he, hx⟩

end Go.Proofs.YtafjmpaefikdcaaGreatDoor.L4
/- The method add of package monthly's date, as a contract: no statement of the seat is proved here. -/
namespace Go.Proofs.YtafjmpaefikdcaaGreatDoor.L4
open Go.Proofs.YtafjmpaefikdcaaGreatDoor.L3
open Go.RowKit
set_option linter.unusedVariables false
set_option maxRecDepth 100000

end Go.Proofs.YtafjmpaefikdcaaGreatDoor.L4
/- The document's own Add, and awake, as contracts: no statement of the seat is proved here. -/
namespace Go.Proofs.YtafjmpaefikdcaaGreatDoor.L4
open Go.Proofs.YtafjmpaefikdcaaGreatDoor.L3
open Go.RowKit
set_option linter.unusedVariables false
set_option maxRecDepth 100000

theorem rO (y m k : Int) : (12 * y + m - 1 + k) / 12 = yO (mi y m + k) ∧ (12 * y + m - 1 + k) % 12 + 1 = mO (mi y m + k) := by unfold yO mO mi; omega
/-- The document's Add, from a date on, where there is an answer. -/
theorem rAdd_ok (n k : Int) (w : World) (h : Has n k) (hk : I64 k) (he : Hid (Env w)) :
    Calls Tryz.prog 68 #[.int .i64 n, .int .i64 k] w fun e w' => e = .returned (.tuple #[.int .i64 (nA n k), .int .i64 (nE n k)]) ∧ Ext w w' := by
  have n1 := h.n1; have n2 := h.n2
  obtain ⟨hv, hn⟩ := ofDay n n1 n2
  have hD : Hid (∀ w : World, Calls Tryz.prog 71 #[.int .i64 n] w fun e w' => e = .returned (.tuple #[.agg #[.int .i64 (yOf n), .int .i64 (mOf n), .int .i64 (dOf n)], .int .i64 0]) ∧ Ext w w') := fun w => rDate_f n w n1 n2
  have hV := O_vld _ _ h.t1 h.t2 hv.d1
  have t1 := h.t1; have t2 := h.t2
  obtain ⟨b1, b2⟩ := mi_bd hv
  rw [nA_ok h, nE_ok h]
  have y1 := hv.y1; have y2 := hv.y2; have m1 := hv.m1; have m2 := hv.m2; have d1 := hv.d1; have d2 := hv.d31
  have hr := rO (yOf n) (mOf n) k
  have hm : mi (yOf n) (mOf n) = (yOf n - 1900) * 12 + mOf n - 1 := rfl
  have hdO : dO (mi (yOf n) (mOf n) + k) (dOf n) = if dim (yO (mi (yOf n) (mOf n) + k)) (mO (mi (yOf n) (mOf n) + k)) < dOf n then dim (yO (mi (yOf n) (mOf n) + k)) (mO (mi (yOf n) (mOf n) + k)) else dOf n := rfl
  rw [hdO] at hV ⊢
  clear hdO
  rw [← hr.1, ← hr.2] at hV ⊢
  clear hr hn hv h
  generalize yOf n = y at *
  generalize mOf n = m at *
  generalize dOf n = d at *
  rw [hm] at t1 t2 b1 b2
  clear hm
  have e1 : decide (k < -4000) = false := decide_eq_false (by omega)
  have e2 : decide (4000 < k) = false := decide_eq_false (by omega)
  have e3 : decide (12 * y + m - 1 + k < 22800) = false := decide_eq_false (by omega)
  have e4 : decide (26412 ≤ 12 * y + m - 1 + k) = false := decide_eq_false (by omega)
  replace hV := show Hid _ from hV
  go_enter Tryz.func68, Tryz.ntmps68
  go_wp2_with fail
  refine (hD.out _).mono ?_
  rintro e w1 ⟨rfl, hx1⟩
  replace he : Hid (Env w1) := he.out.ext hx1
  have hx := show Hid (Ext w w1) from hx1
  clear hx1 hD
  go_wp2_with fail
  obtain ⟨W0, b, hW0, hb, hxb, k0, k1, k2⟩ := box3 w1 (.int .i64 y) (.int .i64 m) (.int .i64 d) 116
  rw [hW0, hb]
  clear hW0 hb
  replace he : Hid (Env W0) := he.out.ext hxb
  replace hx : Hid (Ext w W0) := hx.out.trans hxb
  clear hxb
  have hm2 : Hid (I64 ((12 * y + m - 1 + k) % 12 + 1)) := by show I64 _; unfold I64; omega
  have j2 := Late.cell k2
  have hE : Hid (∀ s : Late W0, Hid (Env s.to)) := fun s => he.out.ext s.ext
  have hNe1 : Nonempty (Late W0) := ⟨⟨_, Ext.refl _⟩⟩
  refine wp_region_late (by kernel_rfl) (by kernel_rfl) ?_
  repeat (go_big_quiet_step ((first
    | (go_at_call 95; exact late_same (rMonth_c _ _ _ hm2.out))
    | (go_at_call 94; exact late_of (rNumber_ok _ _ _ _ hV.out (hE.out _))))))
  refine wpQuiet_nil ?_
  intro W1 hw'
  have hx1 := late_ext hw'
  clear hw'
  go_wp2
  all_goals (go_ret2; exact ⟨rfl, hx.out.trans hx1⟩)
theorem rAdd_far (n k : Int) (w : World) (n1 : -25567 ≤ n) (n2 : n ≤ 84370) (h : k < -4000 ∨ 4000 < k) (hk : I64 k) :
    Calls Tryz.prog 68 #[.int .i64 n, .int .i64 k] w fun e w' => e = .returned (.tuple #[.int .i64 0, .int .i64 5]) ∧ Ext w w' := by
  have hD : Hid (∀ w : World, Calls Tryz.prog 71 #[.int .i64 n] w fun e w' => e = .returned (.tuple #[.agg #[.int .i64 (yOf n), .int .i64 (mOf n), .int .i64 (dOf n)], .int .i64 0]) ∧ Ext w w') := fun w => rDate_f n w n1 n2
  obtain ⟨k1, k2⟩ := hk
  generalize yOf n = y at *
  generalize mOf n = m at *
  generalize dOf n = d at *
  rcases h with h | h
  · have e1 : decide (k < -4000) = true := decide_eq_true h
    go_enter Tryz.func68, Tryz.ntmps68
    go_wp2_with fail
    refine (hD.out _).mono ?_
    rintro e w1 ⟨rfl, hx1⟩
    have hx := show Hid (Ext w w1) from hx1
    clear hx1 hD
    go_wp2
    go_ret2
    exact ⟨rfl, hx.out.trans ((Ext.refl _).alloc _ _)⟩
  · have e1 : decide (k < -4000) = false := decide_eq_false (by omega)
    have e2 : decide (4000 < k) = true := decide_eq_true h
    go_enter Tryz.func68, Tryz.ntmps68
    go_wp2_with fail
    refine (hD.out _).mono ?_
    rintro e w1 ⟨rfl, hx1⟩
    have hx := show Hid (Ext w w1) from hx1
    clear hx1 hD
    go_wp2
    go_ret2
    exact ⟨rfl, hx.out.trans ((Ext.refl _).alloc _ _)⟩
theorem rAdd_out (n k : Int) (w : World) (n1 : -25567 ≤ n) (n2 : n ≤ 84370) (h1 : -4000 ≤ k) (h2 : k ≤ 4000) (h : mi (yOf n) (mOf n) + k < 0 ∨ 3611 < mi (yOf n) (mOf n) + k) :
    Calls Tryz.prog 68 #[.int .i64 n, .int .i64 k] w fun e w' => e = .returned (.tuple #[.int .i64 0, .int .i64 5]) ∧ Ext w w' := by
  have hD : Hid (∀ w : World, Calls Tryz.prog 71 #[.int .i64 n] w fun e w' => e = .returned (.tuple #[.agg #[.int .i64 (yOf n), .int .i64 (mOf n), .int .i64 (dOf n)], .int .i64 0]) ∧ Ext w w') := fun w => rDate_f n w n1 n2
  obtain ⟨hv, hn⟩ := ofDay n n1 n2
  have y1 := hv.y1; have y2 := hv.y2; have m1 := hv.m1; have m2 := hv.m2
  clear hv hn
  unfold mi at h
  generalize yOf n = y at *
  generalize mOf n = m at *
  generalize dOf n = d at *
  have e1 : decide (k < -4000) = false := decide_eq_false (by omega)
  have e2 : decide (4000 < k) = false := decide_eq_false (by omega)
  rcases h with h | h
  · have e3 : decide (12 * y + m - 1 + k < 22800) = true := decide_eq_true (by omega)
    go_enter Tryz.func68, Tryz.ntmps68
    go_wp2_with fail
    refine (hD.out _).mono ?_
    rintro e w1 ⟨rfl, hx1⟩
    have hx := show Hid (Ext w w1) from hx1
    clear hx1 hD
    go_wp2
    go_ret2
    exact ⟨rfl, hx.out.trans ((Ext.refl _).alloc _ _)⟩
  · have e3 : decide (12 * y + m - 1 + k < 22800) = false := decide_eq_false (by omega)
    have e4 : decide (26412 ≤ 12 * y + m - 1 + k) = true := decide_eq_true (by omega)
    go_enter Tryz.func68, Tryz.ntmps68
    go_wp2_with fail
    refine (hD.out _).mono ?_
    rintro e w1 ⟨rfl, hx1⟩
    have hx := show Hid (Ext w w1) from hx1
    clear hx1 hD
    go_wp2
    go_ret2
    exact ⟨rfl, hx.out.trans ((Ext.refl _).alloc _ _)⟩
theorem rAdd_day (n k : Int) (w : World) (h : n < -25567 ∨ 84370 < n) :
    Calls Tryz.prog 68 #[.int .i64 n, .int .i64 k] w fun e w' => e = .returned (.tuple #[.int .i64 0, .int .i64 5]) ∧ Ext w w' := by
  replace h := show Hid _ from h
  go_enter Tryz.func68, Tryz.ntmps68
  go_wp2_with fail
  refine (rDate_no n _ h.out).mono ?_
  rintro e w1 ⟨rfl, hx1⟩
  have hx := show Hid (Ext w w1) from hx1
  clear hx1
  go_wp2
  go_ret2
  exact ⟨rfl, hx.out.trans ((Ext.refl _).alloc _ _)⟩
theorem rAdd_c (n k : Int) (w : World) (hk : Hid (I64 k)) (he : Hid (Env w)) :
    Calls Tryz.prog 68 #[.int .i64 n, .int .i64 k] w fun e w' => e = .returned (.tuple #[.int .i64 (nA n k), .int .i64 (nE n k)]) ∧ Ext w w' := by
  by_cases h : Has n k
  · exact rAdd_ok n k w h hk.out he
  · rw [nA_no h, nE_no h]
    by_cases hn : n < -25567 ∨ 84370 < n
    · exact rAdd_day n k w hn
    · by_cases hf : k < -4000 ∨ 4000 < k
      · exact rAdd_far n k w (by omega) (by omega) hf hk.out
      · refine rAdd_out n k w (by omega) (by omega) (by omega) (by omega) ?_
        rcases Int.lt_or_le (mi (yOf n) (mOf n) + k) 0 with a | a
        · exact Or.inl a
        · rcases Int.lt_or_le 3611 (mi (yOf n) (mOf n) + k) with b | b
          · exact Or.inr b
          · exact absurd ⟨by omega, by omega, a, b⟩ h
theorem nA_awake : nA 19753 1 = 19782 ∧ nE 19753 1 = 0 := by decide
end Go.Proofs.YtafjmpaefikdcaaGreatDoor.L4
/- A row of numbers in new memory; series and Dates of package monthly, as contracts: no statement of the seat is proved here. -/
namespace Go.Proofs.YtafjmpaefikdcaaGreatDoor.L4
open Go.Proofs.YtafjmpaefikdcaaGreatDoor.L3
open Go.RowKit
set_option linter.unusedVariables false
set_option maxRecDepth 100000

/-- A block's first T cells are the numbers f 0, f 1 .. -/
structure Arr (w : World) (g T : Nat) (f : Nat → Int) : Prop where
  cell : ∀ j, j < T → w.cell? ⟨g, j, none⟩ = some (.int .i64 (f j))
  free : ∀ j, j < T → w.frozen? ⟨g, j, none⟩ = false
theorem Arr.ext {w w' : World} {g T : Nat} {f : Nat → Int} (h : Arr w g T f) (hx : Ext w w') : Arr w' g T f :=
  ⟨fun j hj => hx.cell_of (h.cell j hj), fun j hj => hx.froz_of (h.cell j hj) (h.free j hj)⟩
/-- The first k are f's, the others 0. -/
def upTo (f : Nat → Int) (k : Nat) : Nat → Int := fun j => if j < k then f j else 0
theorem Arr.store {w : World} {g T : Nat} {f : Nat → Int} {k : Nat} (h : Arr w g T (upTo f k)) (v : Int) (hv : f k = v) : Arr (w.setCell ⟨g, k, none⟩ (.int .i64 v)) g T (upTo f (k + 1)) := by
  refine ⟨fun j hj => ?_, fun j hj => by simpa using h.free j hj⟩
  by_cases hjk : j = k
  · subst hjk
    rw [same (h.cell j hj)]
    simp [upTo, hv]
  · rw [other _ (Or.inr (fun e => hjk e.symm)), h.cell j hj]
    unfold upTo
    by_cases c : j < k
    · rw [if_pos c, if_pos (by omega)]
    · rw [if_neg c, if_neg (by omega)]
theorem Arr.full {w : World} {g T : Nat} {f : Nat → Int} (h : Arr w g T (upTo f T)) : Arr w g T f :=
  ⟨fun j hj => by rw [h.cell j hj]; unfold upTo; rw [if_pos hj], h.free⟩
theorem Arr.made {w' : World} {B g T : Nat} {e : TypeId} {f : Nat → Int} (h : w'.ownsRow B e 1 (.slice (some ⟨g, 0, none⟩) T T) T (madeCells #[Value.int .i64 0] T).toList) : Arr w' g T (upTo f 0) := by
  refine ⟨fun j hj => ?_, fun j _ => h.frozenAt j⟩
  rw [h.cellAt j (by omega)]
  have : (madeCells #[Value.int .i64 0] T).toList = List.replicate T (.int .i64 0) := toList_madeCells_one _ _
  rw [this]
  simp [upTo, hj]
theorem info_int : (Tryz.prog.info? 3).map (fun i => (i.zero, i.size, i.bytes)) = some (some (.int .i64 0), 1, 8) := by kernel_rfl
theorem mul_bd (ev : Int) (k : Nat) (e1 : 1 ≤ ev) (e2 : ev ≤ 12) (hk : k < 600) : 1 ≤ ev * ((k : Int) + 1) ∧ ev * ((k : Int) + 1) ≤ 7200 := by
  have h1 : ev * 1 ≤ ev * ((k : Int) + 1) := Int.mul_le_mul_of_nonneg_left (by omega) (by omega)
  have h2 : ev * ((k : Int) + 1) ≤ 12 * ((k : Int) + 1) := Int.mul_le_mul_of_nonneg_right e2 (by omega)
  omega
/-- The k-th day of the series, from 0 on. -/
def serA (n ev : Int) (k : Nat) : Int := nA n (ev * ((k : Int) + 1))
def serE (n ev : Int) (k : Nat) : Int := nE n (ev * ((k : Int) + 1))

end Go.Proofs.YtafjmpaefikdcaaGreatDoor.L4
/- Dates of package monthly, as a contract: no statement of the seat is proved here. -/
namespace Go.Proofs.YtafjmpaefikdcaaGreatDoor.L4
open Go.Proofs.YtafjmpaefikdcaaGreatDoor.L3
open Go.RowKit
set_option linter.unusedVariables false
set_option maxRecDepth 100000

/-- The first of T places at which it does not hold. -/
theorem first_not (p : Nat → Prop) : ∀ T : Nat, (∀ j, j < T → p j) ∨ ∃ J, J < T ∧ ¬ p J ∧ ∀ j, j < J → p j
  | 0 => Or.inl fun j hj => absurd hj (Nat.not_lt_zero _)
  | T + 1 => by
    rcases first_not p T with h | ⟨J, h1, h2, h3⟩
    · by_cases c : p T
      · exact Or.inl fun j hj => by
          by_cases e : j = T
          · exact e ▸ c
          · exact h j (by omega)
      · exact Or.inr ⟨T, by omega, c, h⟩
    · exact Or.inr ⟨J, by omega, h2, h3⟩
theorem serE_two (n ev : Int) (k : Nat) : serE n ev k = 0 ∨ serE n ev k = 5 := nE_two _ _

end Go.Proofs.YtafjmpaefikdcaaGreatDoor.L4
/- The document's own Dates, as a contract: no statement of the seat is proved here. -/
namespace Go.Proofs.YtafjmpaefikdcaaGreatDoor.L4
open Go.Proofs.YtafjmpaefikdcaaGreatDoor.L3
open Go.RowKit
set_option linter.unusedVariables false
set_option maxRecDepth 100000

/-- The first k of f, as values. -/
def ints (f : Nat → Int) (k : Nat) : List Value := (List.range k).map fun j => .int .i64 (f j)
theorem ints_succ (f : Nat → Int) (k : Nat) : ints f (k + 1) = ints f k ++ [.int .i64 (f k)] := by simp [ints, List.range_succ]
theorem ints_length (f : Nat → Int) (k : Nat) : (ints f k).length = k := by simp [ints]
theorem Arr.of_own {w : World} {B : Nat} {e : TypeId} {v : Value} {T : Nat} {f : Nat → Int} (hT : 1 ≤ T) (h : w.ownsRow B e 1 v T (ints f T)) : ∃ g c, v = .slice (some ⟨g, 0, none⟩) T c ∧ Arr w g T f := by
  have h' := h
  rcases h'.2 with ⟨_, h0⟩ | ⟨g, c, cur, rfl, _⟩
  · omega
  · refine ⟨g, c, rfl, fun j hj => ?_, fun j _ => h.frozenAt j⟩
    rw [h.cellAt j (by omega)]
    simp [ints, hj]
theorem own_ext {w w' : World} {B : Nat} {e : TypeId} {z : Nat} {v : Value} {T : Nat} {xs : List Value} (h : w.ownsRow B e z v T xs) (hx : Ext w w') : w'.ownsRow B e z v T xs := by
  refine ⟨h.1, ?_⟩
  rcases h.2 with h0 | ⟨g, c, cur, h1, h2, h3, h4⟩
  · exact Or.inl h0
  · refine Or.inr ⟨g, c, cur, h1, h2, ?_, h4⟩
    rw [hx.below.block g (Array.getElem?_eq_some_iff.1 h3).1]
    exact h3
theorem own_lo {w : World} {B : Nat} {e : TypeId} {z : Nat} {v : Value} {T : Nat} {xs : List Value} (h : w.ownsRow B e z v T xs) : ∀ k, v.ownBlock = some k → B ≤ k := fun k hk => (h.lt k hk).1
theorem rDates_arg (n ev tm : Int) (w : World) (h : ev < 1 ∨ 12 < ev ∨ tm < 1 ∨ 600 < tm) :
    Calls Tryz.prog 46 #[.int .i64 n, .int .i64 ev, .int .i64 tm] w fun e w' => e = .returned (.tuple #[.slice none 0 0, .int .i64 1]) ∧ w' = w := by
  by_cases h1 : ev < 1
  · have d1 : decide (ev < 1) = true := decide_eq_true h1
    go_enter Tryz.func46, Tryz.ntmps46
    go_wp2
    go_ret2
    exact ⟨rfl, rfl⟩
  · have d1 : decide (ev < 1) = false := decide_eq_false h1
    by_cases h2 : 12 < ev
    · have d2 : decide (12 < ev) = true := decide_eq_true h2
      go_enter Tryz.func46, Tryz.ntmps46
      go_wp2
      go_ret2
      exact ⟨rfl, rfl⟩
    · have d2 : decide (12 < ev) = false := decide_eq_false h2
      by_cases h3 : tm < 1
      · have d3 : decide (tm < 1) = true := decide_eq_true h3
        go_enter Tryz.func46, Tryz.ntmps46
        go_wp2
        go_ret2
        exact ⟨rfl, rfl⟩
      · have d3 : decide (tm < 1) = false := decide_eq_false h3
        have h4 : 600 < tm := by omega
        have d4 : decide (600 < tm) = true := decide_eq_true h4
        go_enter Tryz.func46, Tryz.ntmps46
        go_wp2
        go_ret2
        exact ⟨rfl, rfl⟩
theorem mul_comm' (ev : Int) (k : Nat) : ((k : Int) + 1) * ev = ev * ((k : Int) + 1) := Int.mul_comm _ _
theorem rDates_ok (n ev : Int) (T : Nat) (w : World) (e1 : 1 ≤ ev) (e2 : ev ≤ 12) (t1 : 1 ≤ T) (t2 : T ≤ 600) (hall : ∀ j, j < T → serE n ev j = 0) (he : Hid (Env w)) :
    Calls Tryz.prog 46 #[.int .i64 n, .int .i64 ev, .int .i64 T] w
      fun e w' => (∃ g c, e = .returned (.tuple #[.slice (some ⟨g, 0, none⟩) T c, .int .i64 0]) ∧ Arr w' g T (serA n ev)) ∧ Ext w w' := by
  have hA : Hid (∀ (k : Nat), k < T → ∀ w : World, Hid (Env w) → Calls Tryz.prog 68 #[.int .i64 n, .int .i64 (((k : Int) + 1) * ev)] w fun e w' => e = .returned (.tuple #[.int .i64 (serA n ev k), .int .i64 0]) ∧ Ext w w') := fun k hk w he => by
    have b := mul_bd ev k e1 e2 (by omega)
    rw [mul_comm']
    have := rAdd_c n (ev * ((k : Int) + 1)) w (by show I64 _; unfold I64; omega) he
    rwa [show nE n (ev * ((k : Int) + 1)) = 0 from hall k hk] at this
  clear hall
  obtain ⟨i0, hi, hz0, hz1, hz2⟩ := info_parts info_int
  generalize serA n ev = F at *
  have d1 : decide (ev < 1) = false := decide_eq_false (by omega)
  have d2 : decide (12 < ev) = false := decide_eq_false (by omega)
  have d3 : decide ((T : Int) < 1) = false := decide_eq_false (by omega)
  have d4 : decide (600 < (T : Int)) = false := decide_eq_false (by omega)
  go_enter Tryz.func46, Tryz.ntmps46
  go_wp2_with fail
  go_loopw [8, 9] (fun v i wr => ∃ k : Nat, k ≤ T ∧ i = .int .i64 ((k : Int) + 1) ∧ Hid (wr.ownsRow w.heap.size 3 1 v k (ints F k)) ∧ Hid (Ext w wr)) (fun _ i _ => T + 1 - (intOf i).toNat)
  case atStart => exact ⟨0, Nat.zero_le _, rfl, World.ownsRow_nil _ _ _ _, Ext.refl w⟩
  case round =>
    obtain ⟨k, hk, rfl, hr, hx⟩ := hrel
    by_cases hlt : k < T
    · obtain ⟨X, hX⟩ : ∃ X, ((k : Int) + 1) * ev = X := ⟨_, rfl⟩
      have hA1 := hA.out k hlt
      have b := mul_bd ev k e1 e2 (by omega)
      rw [← mul_comm'] at b
      rw [hX] at hA1 b
      obtain ⟨x1, x2⟩ := b
      replace hA1 := show Hid _ from hA1
      obtain ⟨V, hV⟩ : ∃ V, F k = V := ⟨_, rfl⟩
      rw [hV] at hA1
      replace hV := show Hid _ from hV
      have he1 : Hid (Env wr) := he.out.ext hx.out
      go_wp2_with fail
      refine (hA1.out _ he1).mono ?_
      rintro e w2 ⟨rfl, hx1⟩
      replace hr := own_ext hr.out hx1
      replace hx : Hid (Ext w w2) := hx.out.trans hx1
      clear hx1 he1 hA1
      have hsz := hx.out.size
      go_wp2_with (at_builtin; refine wpList_append_own _ rfl (.tmp 42) (.tmp 44) 25 rfl w.heap.size 3 i0 (.int .i64 0) 1 8 Tryz.underlying25 hi hz0 hz1 hz2 rfl (by decide) _ _ _ rfl (hr.alloc _) ⟨w2.heap.size, 0, none⟩ 1 1 [.int .i64 V] rfl rfl ?c1 ?c2 ?c3 ?c4 ?c5 ?_)
      case c1 =>
        intro j u hj
        match j, hj with
        | 0, hj => simp at hj; subst hj; simp [Addr.add]
      case c2 => intro u hu; simp at hu; subst hu; rfl
      case c3 => unfold maxLen; omega
      case c4 => omega
      case c5 => simp; omega
      intro v' w3 hown' hgrow _
      have hx3 : Hid (Ext w w3) := ⟨((hx.out.alloc _ _).below).grown hgrow (by simp; omega) (own_lo hr)⟩
      have hr3 : Hid (w3.ownsRow w.heap.size 3 1 v' (k + 1) (ints F (k + 1))) := by
        show w3.ownsRow _ _ _ _ _ _
        rw [ints_succ, hV.out]; exact hown'
      clear hown' hgrow hr hx
      go_wp2
      go_roundw
      case rel => exact ⟨k + 1, by omega, by go_num, hr3, hx3⟩
      case measure => simp [intOf]; omega
    · obtain rfl : k = T := by omega
      obtain ⟨g, c, rfl, hr2⟩ := Arr.of_own t1 hr.out
      replace hr2 := show Hid _ from hr2
      clear hr
      go_wp2
      go_ret2
      exact ⟨⟨g, c, rfl, hr2.out⟩, hx.out⟩
theorem rDates_at (n ev : Int) (T J : Nat) (w : World) (e1 : 1 ≤ ev) (e2 : ev ≤ 12) (t1 : 1 ≤ T) (t2 : T ≤ 600) (hJ : J < T) (hall : ∀ j, j < J → serE n ev j = 0) (hno : serE n ev J = 5) (he : Hid (Env w)) :
    Calls Tryz.prog 46 #[.int .i64 n, .int .i64 ev, .int .i64 T] w
      fun e w' => e = .returned (.tuple #[.slice none 0 0, .int .i64 5]) ∧ Ext w w' := by
  have hA : Hid (∀ (k : Nat), k < J → ∀ w : World, Hid (Env w) → Calls Tryz.prog 68 #[.int .i64 n, .int .i64 (((k : Int) + 1) * ev)] w fun e w' => e = .returned (.tuple #[.int .i64 (serA n ev k), .int .i64 0]) ∧ Ext w w') := fun k hk w he => by
    have b := mul_bd ev k e1 e2 (by omega)
    rw [mul_comm']
    have := rAdd_c n (ev * ((k : Int) + 1)) w (by show I64 _; unfold I64; omega) he
    rwa [show nE n (ev * ((k : Int) + 1)) = 0 from hall k hk] at this
  have hB : Hid (∀ w : World, Hid (Env w) → Calls Tryz.prog 68 #[.int .i64 n, .int .i64 (((J : Int) + 1) * ev)] w fun e w' => e = .returned (.tuple #[.int .i64 (serA n ev J), .int .i64 5]) ∧ Ext w w') := fun w he => by
    have b := mul_bd ev J e1 e2 (by omega)
    rw [mul_comm']
    have := rAdd_c n (ev * ((J : Int) + 1)) w (by show I64 _; unfold I64; omega) he
    rwa [show nE n (ev * ((J : Int) + 1)) = 5 from hno] at this
  clear hall hno
  obtain ⟨i0, hi, hz0, hz1, hz2⟩ := info_parts info_int
  generalize serA n ev = F at *
  have d1 : decide (ev < 1) = false := decide_eq_false (by omega)
  have d2 : decide (12 < ev) = false := decide_eq_false (by omega)
  have d3 : decide ((T : Int) < 1) = false := decide_eq_false (by omega)
  have d4 : decide (600 < (T : Int)) = false := decide_eq_false (by omega)
  go_enter Tryz.func46, Tryz.ntmps46
  go_wp2_with fail
  go_loopw [8, 9] (fun v i wr => ∃ k : Nat, k ≤ J ∧ i = .int .i64 ((k : Int) + 1) ∧ Hid (wr.ownsRow w.heap.size 3 1 v k (ints F k)) ∧ Hid (Ext w wr)) (fun _ i _ => T + 1 - (intOf i).toNat)
  case atStart => exact ⟨0, Nat.zero_le _, rfl, World.ownsRow_nil _ _ _ _, Ext.refl w⟩
  case round =>
    obtain ⟨k, hk, rfl, hr, hx⟩ := hrel
    by_cases hlt : k < J
    · obtain ⟨X, hX⟩ : ∃ X, ((k : Int) + 1) * ev = X := ⟨_, rfl⟩
      have hA1 := hA.out k hlt
      have b := mul_bd ev k e1 e2 (by omega)
      rw [← mul_comm'] at b
      rw [hX] at hA1 b
      obtain ⟨x1, x2⟩ := b
      replace hA1 := show Hid _ from hA1
      obtain ⟨V, hV⟩ : ∃ V, F k = V := ⟨_, rfl⟩
      rw [hV] at hA1
      replace hV := show Hid _ from hV
      have he1 : Hid (Env wr) := he.out.ext hx.out
      go_wp2_with fail
      refine (hA1.out _ he1).mono ?_
      rintro e w2 ⟨rfl, hx1⟩
      replace hr := own_ext hr.out hx1
      replace hx : Hid (Ext w w2) := hx.out.trans hx1
      clear hx1 he1 hA1
      have hsz := hx.out.size
      go_wp2_with (at_builtin; refine wpList_append_own _ rfl (.tmp 42) (.tmp 44) 25 rfl w.heap.size 3 i0 (.int .i64 0) 1 8 Tryz.underlying25 hi hz0 hz1 hz2 rfl (by decide) _ _ _ rfl (hr.alloc _) ⟨w2.heap.size, 0, none⟩ 1 1 [.int .i64 V] rfl rfl ?c1 ?c2 ?c3 ?c4 ?c5 ?_)
      case c1 =>
        intro j u hj
        match j, hj with
        | 0, hj => simp at hj; subst hj; simp [Addr.add]
      case c2 => intro u hu; simp at hu; subst hu; rfl
      case c3 => unfold maxLen; omega
      case c4 => omega
      case c5 => simp; omega
      intro v' w3 hown' hgrow _
      have hx3 : Hid (Ext w w3) := ⟨((hx.out.alloc _ _).below).grown hgrow (by simp; omega) (own_lo hr)⟩
      have hr3 : Hid (w3.ownsRow w.heap.size 3 1 v' (k + 1) (ints F (k + 1))) := by
        show w3.ownsRow _ _ _ _ _ _
        rw [ints_succ, hV.out]; exact hown'
      clear hown' hgrow hr hx
      go_wp2
      go_roundw
      case rel => exact ⟨k + 1, by omega, by go_num, hr3, hx3⟩
      case measure => simp [intOf]; omega
    · obtain rfl : k = J := by omega
      obtain ⟨X, hX⟩ : ∃ X, ((k : Int) + 1) * ev = X := ⟨_, rfl⟩
      have hB1 := hB.out
      have b := mul_bd ev k e1 e2 (by omega)
      rw [← mul_comm'] at b
      rw [hX] at hB1 b
      obtain ⟨x1, x2⟩ := b
      replace hB1 := show Hid _ from hB1
      have he1 : Hid (Env wr) := he.out.ext hx.out
      go_wp2_with fail
      refine (hB1.out _ he1).mono ?_
      rintro e w2 ⟨rfl, hx1⟩
      replace hx : Hid (Ext w w2) := hx.out.trans hx1
      clear hx1 he1 hB1 hB hA hr
      go_wp2
      go_ret2
      exact ⟨rfl, hx.out⟩
theorem rDates_no (n ev : Int) (T : Nat) (w : World) (e1 : 1 ≤ ev) (e2 : ev ≤ 12) (t1 : 1 ≤ T) (t2 : T ≤ 600) (hall : ¬ ∀ j, j < T → serE n ev j = 0) (he : Hid (Env w)) :
    Calls Tryz.prog 46 #[.int .i64 n, .int .i64 ev, .int .i64 T] w fun e w' => e = .returned (.tuple #[.slice none 0 0, .int .i64 5]) ∧ Ext w w' := by
  rcases first_not (fun j => serE n ev j = 0) T with h | ⟨J, h1, h2, h3⟩
  · exact absurd h hall
  · exact rDates_at n ev T J w e1 e2 t1 t2 h1 h3 ((serE_two n ev J).resolve_left h2) he
end Go.Proofs.YtafjmpaefikdcaaGreatDoor.L4
