/- The document's own Dates, as a contract: no statement of the seat is proved here. -/
import Derived.Test.YtnpclkkjhbljbaaDoorMon6
namespace Go.Proofs.YtnpclkkjhbljbaaDoor
open Go.RowKit
set_option linter.unusedVariables false

/-- The first k of f, as values. -/
def ints (f : Nat → Int) (k : Nat) : List Value := (List.range k).map fun j => .int .i64 (f j)
theorem ints_succ (f : Nat → Int) (k : Nat) : ints f (k + 1) = ints f k ++ [.int .i64 (f k)] := by simp [ints, List.range_succ]
theorem ints_length (f : Nat → Int) (k : Nat) : (ints f k).length = k := by simp [ints]
theorem Arr.of_own {w : World} {B : Nat} {e : TypeId} {v : Value} {T : Nat} {f : Nat → Int} (hT : 1 ≤ T) (h : w.ownsRow B e 1 v T (ints f T)) : ∃ g c, v = .slice (some ⟨g, 0, none⟩) T c ∧ Arr w g T f := by
  have h' := h
  rcases h'.2 with ⟨_, h0⟩ | ⟨g, c, cur, rfl, _⟩
  · omega
  · refine ⟨g, c, rfl, fun j hj => ?_, fun j _ => h.frozenAt j⟩
    rw [h.cellAt j (by omega)]
    simp [ints, hj]
theorem own_ext {w w' : World} {B : Nat} {e : TypeId} {z : Nat} {v : Value} {T : Nat} {xs : List Value} (h : w.ownsRow B e z v T xs) (hx : Ext w w') : w'.ownsRow B e z v T xs := by
  refine ⟨h.1, ?_⟩
  rcases h.2 with h0 | ⟨g, c, cur, h1, h2, h3, h4⟩
  · exact Or.inl h0
  · refine Or.inr ⟨g, c, cur, h1, h2, ?_, h4⟩
    rw [hx.below.block g (Array.getElem?_eq_some_iff.1 h3).1]
    exact h3
theorem own_lo {w : World} {B : Nat} {e : TypeId} {z : Nat} {v : Value} {T : Nat} {xs : List Value} (h : w.ownsRow B e z v T xs) : ∀ k, v.ownBlock = some k → B ≤ k := fun k hk => (h.lt k hk).1
theorem rDates_arg (n ev tm : Int) (w : World) (h : ev < 1 ∨ 12 < ev ∨ tm < 1 ∨ 600 < tm) :
    Calls Tryd.prog 10 #[.int .i64 n, .int .i64 ev, .int .i64 tm] w fun e w' => e = .returned (.tuple #[.slice none 0 0, .int .i64 1]) ∧ w' = w := by
  by_cases h1 : ev < 1
  · have d1 : decide (ev < 1) = true := decide_eq_true h1
    go_enter Tryd.func10, Tryd.ntmps10
    go_wp2
    go_ret2
    exact ⟨rfl, rfl⟩
  · have d1 : decide (ev < 1) = false := decide_eq_false h1
    by_cases h2 : 12 < ev
    · have d2 : decide (12 < ev) = true := decide_eq_true h2
      go_enter Tryd.func10, Tryd.ntmps10
      go_wp2
      go_ret2
      exact ⟨rfl, rfl⟩
    · have d2 : decide (12 < ev) = false := decide_eq_false h2
      by_cases h3 : tm < 1
      · have d3 : decide (tm < 1) = true := decide_eq_true h3
        go_enter Tryd.func10, Tryd.ntmps10
        go_wp2
        go_ret2
        exact ⟨rfl, rfl⟩
      · have d3 : decide (tm < 1) = false := decide_eq_false h3
        have h4 : 600 < tm := by omega
        have d4 : decide (600 < tm) = true := decide_eq_true h4
        go_enter Tryd.func10, Tryd.ntmps10
        go_wp2
        go_ret2
        exact ⟨rfl, rfl⟩
theorem mul_comm' (ev : Int) (k : Nat) : ((k : Int) + 1) * ev = ev * ((k : Int) + 1) := Int.mul_comm _ _
theorem rDates_ok (n ev : Int) (T : Nat) (w : World) (e1 : 1 ≤ ev) (e2 : ev ≤ 12) (t1 : 1 ≤ T) (t2 : T ≤ 600) (hall : ∀ j, j < T → serE n ev j = 0) (he : Hid (Env w)) :
    Calls Tryd.prog 10 #[.int .i64 n, .int .i64 ev, .int .i64 T] w
      fun e w' => (∃ g c, e = .returned (.tuple #[.slice (some ⟨g, 0, none⟩) T c, .int .i64 0]) ∧ Arr w' g T (serA n ev)) ∧ Ext w w' := by
  have hA : Hid (∀ (k : Nat), k < T → ∀ w : World, Hid (Env w) → Calls Tryd.prog 8 #[.int .i64 n, .int .i64 (((k : Int) + 1) * ev)] w fun e w' => e = .returned (.tuple #[.int .i64 (serA n ev k), .int .i64 0]) ∧ Ext w w') := fun k hk w he => by
    have b := mul_bd ev k e1 e2 (by omega)
    rw [mul_comm']
    have := rAdd_c n (ev * ((k : Int) + 1)) w (by show I64 _; unfold I64; omega) he
    rwa [show nE n (ev * ((k : Int) + 1)) = 0 from hall k hk] at this
  clear hall
  obtain ⟨i0, hi, hz0, hz1, hz2⟩ := info_parts info_int
  generalize serA n ev = F at *
  have d1 : decide (ev < 1) = false := decide_eq_false (by omega)
  have d2 : decide (12 < ev) = false := decide_eq_false (by omega)
  have d3 : decide ((T : Int) < 1) = false := decide_eq_false (by omega)
  have d4 : decide (600 < (T : Int)) = false := decide_eq_false (by omega)
  go_enter Tryd.func10, Tryd.ntmps10
  go_wp2_with fail
  go_loopw [8, 9] (fun v i wr => ∃ k : Nat, k ≤ T ∧ i = .int .i64 ((k : Int) + 1) ∧ Hid (wr.ownsRow w.heap.size 3 1 v k (ints F k)) ∧ Hid (Ext w wr)) (fun _ i _ => T + 1 - (intOf i).toNat)
  case atStart => exact ⟨0, Nat.zero_le _, rfl, World.ownsRow_nil _ _ _ _, Ext.refl w⟩
  case round =>
    obtain ⟨k, hk, rfl, hr, hx⟩ := hrel
    by_cases hlt : k < T
    · obtain ⟨X, hX⟩ : ∃ X, ((k : Int) + 1) * ev = X := ⟨_, rfl⟩
      have hA1 := hA.out k hlt
      have b := mul_bd ev k e1 e2 (by omega)
      rw [← mul_comm'] at b
      rw [hX] at hA1 b
      obtain ⟨x1, x2⟩ := b
      replace hA1 := show Hid _ from hA1
      obtain ⟨V, hV⟩ : ∃ V, F k = V := ⟨_, rfl⟩
      rw [hV] at hA1
      replace hV := show Hid _ from hV
      have he1 : Hid (Env wr) := he.out.ext hx.out
      go_wp2_with fail
      refine (hA1.out _ he1).mono ?_
      rintro e w2 ⟨rfl, hx1⟩
      replace hr := own_ext hr.out hx1
      replace hx : Hid (Ext w w2) := hx.out.trans hx1
      clear hx1 he1 hA1
      have hsz := hx.out.size
      go_wp2_with (at_builtin; refine wpList_append_own _ rfl (.tmp 42) (.tmp 44) 25 rfl w.heap.size 3 i0 (.int .i64 0) 1 8 Tryd.underlying25 hi hz0 hz1 hz2 rfl (by decide) _ _ _ rfl (hr.alloc _) ⟨w2.heap.size, 0, none⟩ 1 1 [.int .i64 V] rfl rfl ?c1 ?c2 ?c3 ?c4 ?c5 ?_)
      case c1 =>
        intro j u hj
        match j, hj with
        | 0, hj => simp at hj; subst hj; simp [Addr.add]
      case c2 => intro u hu; simp at hu; subst hu; rfl
      case c3 => unfold maxLen; omega
      case c4 => omega
      case c5 => simp; omega
      intro v' w3 hown' hgrow _
      have hx3 : Hid (Ext w w3) := ⟨((hx.out.alloc _ _).below).grown hgrow (by simp; omega) (own_lo hr)⟩
      have hr3 : Hid (w3.ownsRow w.heap.size 3 1 v' (k + 1) (ints F (k + 1))) := by
        show w3.ownsRow _ _ _ _ _ _
        rw [ints_succ, hV.out]; exact hown'
      clear hown' hgrow hr hx
      go_wp2
      go_roundw
      case rel => exact ⟨k + 1, by omega, by go_num, hr3, hx3⟩
      case measure => simp [intOf]; omega
    · obtain rfl : k = T := by omega
      obtain ⟨g, c, rfl, hr2⟩ := Arr.of_own t1 hr.out
      replace hr2 := show Hid _ from hr2
      clear hr
      go_wp2
      go_ret2
      exact ⟨⟨g, c, rfl, hr2.out⟩, hx.out⟩
theorem rDates_at (n ev : Int) (T J : Nat) (w : World) (e1 : 1 ≤ ev) (e2 : ev ≤ 12) (t1 : 1 ≤ T) (t2 : T ≤ 600) (hJ : J < T) (hall : ∀ j, j < J → serE n ev j = 0) (hno : serE n ev J = 5) (he : Hid (Env w)) :
    Calls Tryd.prog 10 #[.int .i64 n, .int .i64 ev, .int .i64 T] w
      fun e w' => e = .returned (.tuple #[.slice none 0 0, .int .i64 5]) ∧ Ext w w' := by
  have hA : Hid (∀ (k : Nat), k < J → ∀ w : World, Hid (Env w) → Calls Tryd.prog 8 #[.int .i64 n, .int .i64 (((k : Int) + 1) * ev)] w fun e w' => e = .returned (.tuple #[.int .i64 (serA n ev k), .int .i64 0]) ∧ Ext w w') := fun k hk w he => by
    have b := mul_bd ev k e1 e2 (by omega)
    rw [mul_comm']
    have := rAdd_c n (ev * ((k : Int) + 1)) w (by show I64 _; unfold I64; omega) he
    rwa [show nE n (ev * ((k : Int) + 1)) = 0 from hall k hk] at this
  have hB : Hid (∀ w : World, Hid (Env w) → Calls Tryd.prog 8 #[.int .i64 n, .int .i64 (((J : Int) + 1) * ev)] w fun e w' => e = .returned (.tuple #[.int .i64 (serA n ev J), .int .i64 5]) ∧ Ext w w') := fun w he => by
    have b := mul_bd ev J e1 e2 (by omega)
    rw [mul_comm']
    have := rAdd_c n (ev * ((J : Int) + 1)) w (by show I64 _; unfold I64; omega) he
    rwa [show nE n (ev * ((J : Int) + 1)) = 5 from hno] at this
  clear hall hno
  obtain ⟨i0, hi, hz0, hz1, hz2⟩ := info_parts info_int
  generalize serA n ev = F at *
  have d1 : decide (ev < 1) = false := decide_eq_false (by omega)
  have d2 : decide (12 < ev) = false := decide_eq_false (by omega)
  have d3 : decide ((T : Int) < 1) = false := decide_eq_false (by omega)
  have d4 : decide (600 < (T : Int)) = false := decide_eq_false (by omega)
  go_enter Tryd.func10, Tryd.ntmps10
  go_wp2_with fail
  go_loopw [8, 9] (fun v i wr => ∃ k : Nat, k ≤ J ∧ i = .int .i64 ((k : Int) + 1) ∧ Hid (wr.ownsRow w.heap.size 3 1 v k (ints F k)) ∧ Hid (Ext w wr)) (fun _ i _ => T + 1 - (intOf i).toNat)
  case atStart => exact ⟨0, Nat.zero_le _, rfl, World.ownsRow_nil _ _ _ _, Ext.refl w⟩
  case round =>
    obtain ⟨k, hk, rfl, hr, hx⟩ := hrel
    by_cases hlt : k < J
    · obtain ⟨X, hX⟩ : ∃ X, ((k : Int) + 1) * ev = X := ⟨_, rfl⟩
      have hA1 := hA.out k hlt
      have b := mul_bd ev k e1 e2 (by omega)
      rw [← mul_comm'] at b
      rw [hX] at hA1 b
      obtain ⟨x1, x2⟩ := b
      replace hA1 := show Hid _ from hA1
      obtain ⟨V, hV⟩ : ∃ V, F k = V := ⟨_, rfl⟩
      rw [hV] at hA1
      replace hV := show Hid _ from hV
      have he1 : Hid (Env wr) := he.out.ext hx.out
      go_wp2_with fail
      refine (hA1.out _ he1).mono ?_
      rintro e w2 ⟨rfl, hx1⟩
      replace hr := own_ext hr.out hx1
      replace hx : Hid (Ext w w2) := hx.out.trans hx1
      clear hx1 he1 hA1
      have hsz := hx.out.size
      go_wp2_with (at_builtin; refine wpList_append_own _ rfl (.tmp 42) (.tmp 44) 25 rfl w.heap.size 3 i0 (.int .i64 0) 1 8 Tryd.underlying25 hi hz0 hz1 hz2 rfl (by decide) _ _ _ rfl (hr.alloc _) ⟨w2.heap.size, 0, none⟩ 1 1 [.int .i64 V] rfl rfl ?c1 ?c2 ?c3 ?c4 ?c5 ?_)
      case c1 =>
        intro j u hj
        match j, hj with
        | 0, hj => simp at hj; subst hj; simp [Addr.add]
      case c2 => intro u hu; simp at hu; subst hu; rfl
      case c3 => unfold maxLen; omega
      case c4 => omega
      case c5 => simp; omega
      intro v' w3 hown' hgrow _
      have hx3 : Hid (Ext w w3) := ⟨((hx.out.alloc _ _).below).grown hgrow (by simp; omega) (own_lo hr)⟩
      have hr3 : Hid (w3.ownsRow w.heap.size 3 1 v' (k + 1) (ints F (k + 1))) := by
        show w3.ownsRow _ _ _ _ _ _
        rw [ints_succ, hV.out]; exact hown'
      clear hown' hgrow hr hx
      go_wp2
      go_roundw
      case rel => exact ⟨k + 1, by omega, by go_num, hr3, hx3⟩
      case measure => simp [intOf]; omega
    · obtain rfl : k = J := by omega
      obtain ⟨X, hX⟩ : ∃ X, ((k : Int) + 1) * ev = X := ⟨_, rfl⟩
      have hB1 := hB.out
      have b := mul_bd ev k e1 e2 (by omega)
      rw [← mul_comm'] at b
      rw [hX] at hB1 b
      obtain ⟨x1, x2⟩ := b
      replace hB1 := show Hid _ from hB1
      have he1 : Hid (Env wr) := he.out.ext hx.out
      go_wp2_with fail
      refine (hB1.out _ he1).mono ?_
      rintro e w2 ⟨rfl, hx1⟩
      replace hx : Hid (Ext w w2) := hx.out.trans hx1
      clear hx1 he1 hB1 hB hA hr
      go_wp2
      go_ret2
      exact ⟨rfl, hx.out⟩
theorem rDates_no (n ev : Int) (T : Nat) (w : World) (e1 : 1 ≤ ev) (e2 : ev ≤ 12) (t1 : 1 ≤ T) (t2 : T ≤ 600) (hall : ¬ ∀ j, j < T → serE n ev j = 0) (he : Hid (Env w)) :
    Calls Tryd.prog 10 #[.int .i64 n, .int .i64 ev, .int .i64 T] w fun e w' => e = .returned (.tuple #[.slice none 0 0, .int .i64 5]) ∧ Ext w w' := by
  rcases first_not (fun j => serE n ev j = 0) T with h | ⟨J, h1, h2, h3⟩
  · exact absurd h hall
  · exact rDates_at n ev T J w e1 e2 t1 t2 h1 h3 ((serE_two n ev J).resolve_left h2) he
end Go.Proofs.YtnpclkkjhbljbaaDoor
