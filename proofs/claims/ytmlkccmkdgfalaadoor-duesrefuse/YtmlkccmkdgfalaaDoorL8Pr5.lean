
/- What the rules of package product answer, each by itself, as contracts: no statement of the seat is proved here. -/
import Derived.Test.YtmlkccmkdgfalaaDoorL8Pr4
namespace Go.Proofs.YtmlkccmkdgfalaaDoor.L8
open Go.RowKit
set_option linter.unusedVariables false

/-- A slice of these pairs: of none whatever its address, else cells, two a pair. -/
def Slp (w : World) (v : Value) (l : List (Int × Int)) : Prop :=
  (∃ a c, v = .slice a 0 c ∧ (a = none → c = 0) ∧ l = []) ∨ ∃ b off c, v = .slice (some ⟨b, off, none⟩) l.length c ∧ ∀ (k : Nat) (x y : Int), l[k]? = some (x, y) → w.cell? ⟨b, off + k * 2, none⟩ = some (.int .i64 x) ∧ w.cell? ⟨b, off + k * 2 + 1, none⟩ = some (.int .i64 y)
theorem Slp.ext {w w' : World} {v : Value} {l : List (Int × Int)} (h : Slp w v l) (hx : Ext w w') : Slp w' v l := by
  rcases h with h | ⟨b, off, c, e, hc⟩
  · exact Or.inl h
  · exact Or.inr ⟨b, off, c, e, fun k x y hk => ⟨hx.cell_of (hc k x y hk).1, hx.cell_of (hc k x y hk).2⟩⟩
theorem Slp.len {w : World} {v : Value} {l : List (Int × Int)} (h : Slp w v l) : ∃ a c, v = .slice a l.length c := by
  rcases h with ⟨a, c, rfl, _, rfl⟩ | ⟨b, off, c, rfl, _⟩
  · exact ⟨_, _, rfl⟩
  · exact ⟨_, _, rfl⟩
theorem name_c (b : Nat) (nm : List UInt8) (w : World) (hm : nm.length ≤ 9223372036854775807) (h0 : w.cell? ⟨b, 0, none⟩ = some (.string ⟨nm.toArray⟩)) :
    Calls Tryd.prog 43 #[.pointer (some ⟨b, 0, none⟩)] w fun e w' => e = .returned (.bool (nmb nm)) ∧ w' = w := by
  go_enter Tryd.func43, Tryd.ntmps43
  go_wp2_with fail
  refine (Name_c _ _ hm).mono ?_
  rintro e w1 ⟨rfl, rfl⟩
  go_wp2
  go_ret
  exact ⟨rfl, rfl⟩
set_option maxHeartbeats 2000000 in
theorem choices_c (b : Nat) (cn rd kd ov rl : Int) (w : World) (c0 : w.cell? ⟨b, 1, none⟩ = some (.int .i64 cn)) (c1 : w.cell? ⟨b, 2, none⟩ = some (.int .i64 rd)) (c2 : w.cell? ⟨b, 3, none⟩ = some (.int .i64 kd)) (c3 : w.cell? ⟨b, 14, none⟩ = some (.int .i64 ov)) (c4 : w.cell? ⟨b, 17, none⟩ = some (.int .i64 rl)) :
    Calls Tryd.prog 44 #[.pointer (some ⟨b, 0, none⟩)] w fun e w' => e = .returned (.bool (r1B cn rd kd ov rl)) ∧ w' = w := by
  unfold r1B
  cases h0 : lz cn 1 3
  · replace h0 := show Hid _ from h0
    go_enter Tryd.func44, Tryd.ntmps44
    go_wp2_with fail
    refine (liesI_x cn 1 3 false h0.out _).mono ?_
    rintro e w1 ⟨rfl, rfl⟩
    go_wp2
    go_ret
    exact ⟨rfl, rfl⟩
  · replace h0 := show Hid _ from h0
    cases h1 : (rd == 1)
    · cases h1b : (rd == 3)
      · go_enter Tryd.func44, Tryd.ntmps44
        go_wp2_with fail
        refine (liesI_x cn 1 3 true h0.out _).mono ?_
        rintro e w1 ⟨rfl, rfl⟩
        go_wp2
        go_ret
        exact ⟨rfl, rfl⟩
      · cases h2 : lz kd 1 3
        · replace h2 := show Hid _ from h2
          go_enter Tryd.func44, Tryd.ntmps44
          go_wp2_with fail
          refine (liesI_x cn 1 3 true h0.out _).mono ?_
          rintro e w1 ⟨rfl, rfl⟩
          go_wp2_with fail
          refine (liesI_x kd 1 3 false h2.out _).mono ?_
          rintro e w1 ⟨rfl, rfl⟩
          go_wp2
          go_ret
          exact ⟨rfl, rfl⟩
        · replace h2 := show Hid _ from h2
          cases h3 : lz ov 1 3
          · replace h3 := show Hid _ from h3
            go_enter Tryd.func44, Tryd.ntmps44
            go_wp2_with fail
            refine (liesI_x cn 1 3 true h0.out _).mono ?_
            rintro e w1 ⟨rfl, rfl⟩
            go_wp2_with fail
            refine (liesI_x kd 1 3 true h2.out _).mono ?_
            rintro e w1 ⟨rfl, rfl⟩
            go_wp2_with fail
            refine (liesI_x ov 1 3 false h3.out _).mono ?_
            rintro e w1 ⟨rfl, rfl⟩
            go_wp2
            go_ret
            exact ⟨rfl, rfl⟩
          · replace h3 := show Hid _ from h3
            cases h4 : lz rl 1 4
            · replace h4 := show Hid _ from h4
              go_enter Tryd.func44, Tryd.ntmps44
              go_wp2_with fail
              refine (liesI_x cn 1 3 true h0.out _).mono ?_
              rintro e w1 ⟨rfl, rfl⟩
              go_wp2_with fail
              refine (liesI_x kd 1 3 true h2.out _).mono ?_
              rintro e w1 ⟨rfl, rfl⟩
              go_wp2_with fail
              refine (liesI_x ov 1 3 true h3.out _).mono ?_
              rintro e w1 ⟨rfl, rfl⟩
              go_wp2_with fail
              refine (liesI_x rl 1 4 false h4.out _).mono ?_
              rintro e w1 ⟨rfl, rfl⟩
              go_wp2
              go_ret
              exact ⟨rfl, rfl⟩
            · replace h4 := show Hid _ from h4
              go_enter Tryd.func44, Tryd.ntmps44
              go_wp2_with fail
              refine (liesI_x cn 1 3 true h0.out _).mono ?_
              rintro e w1 ⟨rfl, rfl⟩
              go_wp2_with fail
              refine (liesI_x kd 1 3 true h2.out _).mono ?_
              rintro e w1 ⟨rfl, rfl⟩
              go_wp2_with fail
              refine (liesI_x ov 1 3 true h3.out _).mono ?_
              rintro e w1 ⟨rfl, rfl⟩
              go_wp2_with fail
              refine (liesI_x rl 1 4 true h4.out _).mono ?_
              rintro e w1 ⟨rfl, rfl⟩
              go_wp2
              go_ret
              exact ⟨rfl, rfl⟩
    · cases h2 : lz kd 1 3
      · replace h2 := show Hid _ from h2
        go_enter Tryd.func44, Tryd.ntmps44
        go_wp2_with fail
        refine (liesI_x cn 1 3 true h0.out _).mono ?_
        rintro e w1 ⟨rfl, rfl⟩
        go_wp2_with fail
        refine (liesI_x kd 1 3 false h2.out _).mono ?_
        rintro e w1 ⟨rfl, rfl⟩
        go_wp2
        go_ret
        exact ⟨rfl, rfl⟩
      · replace h2 := show Hid _ from h2
        cases h3 : lz ov 1 3
        · replace h3 := show Hid _ from h3
          go_enter Tryd.func44, Tryd.ntmps44
          go_wp2_with fail
          refine (liesI_x cn 1 3 true h0.out _).mono ?_
          rintro e w1 ⟨rfl, rfl⟩
          go_wp2_with fail
          refine (liesI_x kd 1 3 true h2.out _).mono ?_
          rintro e w1 ⟨rfl, rfl⟩
          go_wp2_with fail
          refine (liesI_x ov 1 3 false h3.out _).mono ?_
          rintro e w1 ⟨rfl, rfl⟩
          go_wp2
          go_ret
          exact ⟨rfl, rfl⟩
        · replace h3 := show Hid _ from h3
          cases h4 : lz rl 1 4
          · replace h4 := show Hid _ from h4
            go_enter Tryd.func44, Tryd.ntmps44
            go_wp2_with fail
            refine (liesI_x cn 1 3 true h0.out _).mono ?_
            rintro e w1 ⟨rfl, rfl⟩
            go_wp2_with fail
            refine (liesI_x kd 1 3 true h2.out _).mono ?_
            rintro e w1 ⟨rfl, rfl⟩
            go_wp2_with fail
            refine (liesI_x ov 1 3 true h3.out _).mono ?_
            rintro e w1 ⟨rfl, rfl⟩
            go_wp2_with fail
            refine (liesI_x rl 1 4 false h4.out _).mono ?_
            rintro e w1 ⟨rfl, rfl⟩
            go_wp2
            go_ret
            exact ⟨rfl, rfl⟩
          · replace h4 := show Hid _ from h4
            go_enter Tryd.func44, Tryd.ntmps44
            go_wp2_with fail
            refine (liesI_x cn 1 3 true h0.out _).mono ?_
            rintro e w1 ⟨rfl, rfl⟩
            go_wp2_with fail
            refine (liesI_x kd 1 3 true h2.out _).mono ?_
            rintro e w1 ⟨rfl, rfl⟩
            go_wp2_with fail
            refine (liesI_x ov 1 3 true h3.out _).mono ?_
            rintro e w1 ⟨rfl, rfl⟩
            go_wp2_with fail
            refine (liesI_x rl 1 4 true h4.out _).mono ?_
            rintro e w1 ⟨rfl, rfl⟩
            go_wp2
            go_ret
            exact ⟨rfl, rfl⟩
theorem every_c (b : Nat) (ev : Int) (w : World) (c0 : w.cell? ⟨b, 4, none⟩ = some (.int .i64 ev)) :
    Calls Tryd.prog 45 #[.pointer (some ⟨b, 0, none⟩)] w fun e w' => e = .returned (.bool (r2B ev)) ∧ w' = w := by
  unfold r2B
  cases h0 : (ev == 1)
  · cases h1 : (ev == 2)
    · cases h2 : (ev == 3)
      · cases h3 : (ev == 4)
        · cases h4 : (ev == 6)
          · cases h5 : (ev == 12)
            · go_enter Tryd.func45, Tryd.ntmps45
              go_wp2
              go_ret
              exact ⟨rfl, rfl⟩
            · go_enter Tryd.func45, Tryd.ntmps45
              go_wp2
              go_ret
              exact ⟨rfl, rfl⟩
          · go_enter Tryd.func45, Tryd.ntmps45
            go_wp2
            go_ret
            exact ⟨rfl, rfl⟩
        · go_enter Tryd.func45, Tryd.ntmps45
          go_wp2
          go_ret
          exact ⟨rfl, rfl⟩
      · go_enter Tryd.func45, Tryd.ntmps45
        go_wp2
        go_ret
        exact ⟨rfl, rfl⟩
    · go_enter Tryd.func45, Tryd.ntmps45
      go_wp2
      go_ret
      exact ⟨rfl, rfl⟩
  · go_enter Tryd.func45, Tryd.ntmps45
    go_wp2
    go_ret
    exact ⟨rfl, rfl⟩
theorem times_c (b : Nat) (tm : Int) (w : World) (c0 : w.cell? ⟨b, 5, none⟩ = some (.int .i64 tm)) :
    Calls Tryd.prog 46 #[.pointer (some ⟨b, 0, none⟩)] w fun e w' => e = .returned (.bool (lz tm 1 600)) ∧ w' = w := by
  go_enter Tryd.func46, Tryd.ntmps46
  go_wp2_with fail
  refine (liesI_c _ _ _ _).mono ?_
  rintro e w1 ⟨rfl, rfl⟩
  go_wp2
  go_ret
  exact ⟨rfl, rfl⟩
theorem grace_c (b : Nat) (kd tm gr : Int) (w : World) (c0 : w.cell? ⟨b, 3, none⟩ = some (.int .i64 kd)) (c1 : w.cell? ⟨b, 5, none⟩ = some (.int .i64 tm)) (c2 : w.cell? ⟨b, 6, none⟩ = some (.int .i64 gr)) :
    Calls Tryd.prog 47 #[.pointer (some ⟨b, 0, none⟩)] w fun e w' => e = .returned (.bool (r4B kd tm gr)) ∧ Ext w w' := by
  unfold r4B
  have j0 := Late.cell c0; have j1 := Late.cell c1; have j2 := Late.cell c2
  have hNe1 : Nonempty (Late w) := ⟨⟨_, Ext.refl _⟩⟩
  cases h0 : (gr == 0)
  · cases h1 : (kd != 3)
    · go_enter Tryd.func47, Tryd.ntmps47
      go_wp2_with fail
      refine wp_region_late (by kernel_rfl) (by kernel_rfl) ?_
      repeat (go_big_quiet_step (fail))
      refine wpQuiet_nil ?_
      intro W1 hw'
      have hx : Hid (Ext w W1) := late_ext hw'
      clear hw' j0 j1 j2
      go_wp2
      go_ret
      exact ⟨rfl, hx.out⟩
    · cases h2 : decide (0 < gr)
      · go_enter Tryd.func47, Tryd.ntmps47
        go_wp2_with fail
        refine wp_region_late (by kernel_rfl) (by kernel_rfl) ?_
        repeat (go_big_quiet_step (fail))
        refine wpQuiet_nil ?_
        intro W1 hw'
        have hx : Hid (Ext w W1) := late_ext hw'
        clear hw' j0 j1 j2
        go_wp2
        go_ret
        exact ⟨rfl, hx.out⟩
      · cases h3 : decide (gr < tm)
        · go_enter Tryd.func47, Tryd.ntmps47
          go_wp2_with fail
          refine wp_region_late (by kernel_rfl) (by kernel_rfl) ?_
          repeat (go_big_quiet_step (fail))
          refine wpQuiet_nil ?_
          intro W1 hw'
          have hx : Hid (Ext w W1) := late_ext hw'
          clear hw' j0 j1 j2
          go_wp2
          go_ret
          exact ⟨rfl, hx.out⟩
        · go_enter Tryd.func47, Tryd.ntmps47
          go_wp2_with fail
          refine wp_region_late (by kernel_rfl) (by kernel_rfl) ?_
          repeat (go_big_quiet_step (fail))
          refine wpQuiet_nil ?_
          intro W1 hw'
          have hx : Hid (Ext w W1) := late_ext hw'
          clear hw' j0 j1 j2
          go_wp2
          go_ret
          exact ⟨rfl, hx.out⟩
  · go_enter Tryd.func47, Tryd.ntmps47
    go_wp2_with fail
    refine wp_region_late (by kernel_rfl) (by kernel_rfl) ?_
    repeat (go_big_quiet_step (fail))
    refine wpQuiet_nil ?_
    intro W1 hw'
    have hx : Hid (Ext w W1) := late_ext hw'
    clear hw' j0 j1 j2
    go_wp2
    go_ret
    exact ⟨rfl, hx.out⟩
theorem rates_c (b : Nat) (rt pn : Int) (w : World) (c0 : w.cell? ⟨b, 7, none⟩ = some (.int .i64 rt)) (c1 : w.cell? ⟨b, 9, none⟩ = some (.int .i64 pn)) :
    Calls Tryd.prog 48 #[.pointer (some ⟨b, 0, none⟩)] w fun e w' => e = .returned (.bool (r5B rt pn)) ∧ w' = w := by
  unfold r5B
  cases h0 : lz rt 0 1000000000
  · replace h0 := show Hid _ from h0
    go_enter Tryd.func48, Tryd.ntmps48
    go_wp2_with fail
    refine (rate_x _ false h0.out _).mono ?_
    rintro e w1 ⟨rfl, rfl⟩
    go_wp2
    go_ret
    exact ⟨rfl, rfl⟩
  · replace h0 := show Hid _ from h0
    go_enter Tryd.func48, Tryd.ntmps48
    go_wp2_with fail
    refine (rate_x _ true h0.out _).mono ?_
    rintro e w1 ⟨rfl, rfl⟩
    go_wp2_with fail
    refine (rate_c _ _).mono ?_
    rintro e w1 ⟨rfl, rfl⟩
    go_wp2
    go_ret
    exact ⟨rfl, rfl⟩
theorem order_c (b : Nat) (o0 o1 o2 o3 : Int) (w : World) (c0 : w.cell? ⟨b, 10, none⟩ = some (.int .i64 o0)) (c1 : w.cell? ⟨b, 11, none⟩ = some (.int .i64 o1)) (c2 : w.cell? ⟨b, 12, none⟩ = some (.int .i64 o2)) (c3 : w.cell? ⟨b, 13, none⟩ = some (.int .i64 o3)) :
    Calls Tryd.prog 50 #[.pointer (some ⟨b, 0, none⟩)] w fun e w' => e = .returned (.bool (r7B o0 o1 o2 o3)) ∧ w' = w := by
  have hC : Hid (∀ (x : Int) (B : Bool), decide (x ∈ [o0, o1, o2, o3]) = B → Calls Tryd.prog 74 #[.slice (some ⟨b, 10, none⟩) 4 4, .int .i64 x] w fun e w' => e = .returned (.bool B) ∧ w' = w) := fun x B h =>
    Contains_c b 10 4 [o0, o1, o2, o3] x B h w (by simp) (fun k v hk => by
      match k, hk with
      | 0, hk => simp at hk; subst hk; exact c0
      | 1, hk => simp at hk; subst hk; exact c1
      | 2, hk => simp at hk; subst hk; exact c2
      | 3, hk => simp at hk; subst hk; exact c3
      | k + 4, hk => simp at hk)
  unfold r7B
  obtain ⟨B1, h1⟩ : ∃ B, decide (1 ∈ [o0, o1, o2, o3]) = B := ⟨_, rfl⟩
  obtain ⟨B2, h2⟩ : ∃ B, decide (2 ∈ [o0, o1, o2, o3]) = B := ⟨_, rfl⟩
  obtain ⟨B3, h3⟩ : ∃ B, decide (3 ∈ [o0, o1, o2, o3]) = B := ⟨_, rfl⟩
  obtain ⟨B4, h4⟩ : ∃ B, decide (4 ∈ [o0, o1, o2, o3]) = B := ⟨_, rfl⟩
  rw [h1, h2, h3, h4]
  replace h1 := show Hid _ from hC.out 1 B1 h1
  replace h2 := show Hid _ from hC.out 2 B2 h2
  replace h3 := show Hid _ from hC.out 3 B3 h3
  replace h4 := show Hid _ from hC.out 4 B4 h4
  clear hC
  cases B1
  · go_enter Tryd.func50, Tryd.ntmps50
    go_wp2_with fail
    refine wp_loop_rounds 5 ?_
    rw [rounds_succ]
    go_wp2_with fail
    refine Calls.mono h1.out ?_
    rintro e w1 ⟨rfl, rfl⟩
    go_wp2
    go_ret
    exact ⟨rfl, rfl⟩
  cases B2
  · go_enter Tryd.func50, Tryd.ntmps50
    go_wp2_with fail
    refine wp_loop_rounds 5 ?_
    rw [rounds_succ]
    go_wp2_with fail
    refine Calls.mono h1.out ?_
    rintro e w1 ⟨rfl, rfl⟩
    go_wp2
    rw [rounds_succ]
    go_wp2_with fail
    refine Calls.mono h2.out ?_
    rintro e w1 ⟨rfl, rfl⟩
    go_wp2
    go_ret
    exact ⟨rfl, rfl⟩
  cases B3
  · go_enter Tryd.func50, Tryd.ntmps50
    go_wp2_with fail
    refine wp_loop_rounds 5 ?_
    rw [rounds_succ]
    go_wp2_with fail
    refine Calls.mono h1.out ?_
    rintro e w1 ⟨rfl, rfl⟩
    go_wp2
    rw [rounds_succ]
    go_wp2_with fail
    refine Calls.mono h2.out ?_
    rintro e w1 ⟨rfl, rfl⟩
    go_wp2
    rw [rounds_succ]
    go_wp2_with fail
    refine Calls.mono h3.out ?_
    rintro e w1 ⟨rfl, rfl⟩
    go_wp2
    go_ret
    exact ⟨rfl, rfl⟩
  cases B4
  · go_enter Tryd.func50, Tryd.ntmps50
    go_wp2_with fail
    refine wp_loop_rounds 5 ?_
    rw [rounds_succ]
    go_wp2_with fail
    refine Calls.mono h1.out ?_
    rintro e w1 ⟨rfl, rfl⟩
    go_wp2
    rw [rounds_succ]
    go_wp2_with fail
    refine Calls.mono h2.out ?_
    rintro e w1 ⟨rfl, rfl⟩
    go_wp2
    rw [rounds_succ]
    go_wp2_with fail
    refine Calls.mono h3.out ?_
    rintro e w1 ⟨rfl, rfl⟩
    go_wp2
    rw [rounds_succ]
    go_wp2_with fail
    refine Calls.mono h4.out ?_
    rintro e w1 ⟨rfl, rfl⟩
    go_wp2
    go_ret
    exact ⟨rfl, rfl⟩
  go_enter Tryd.func50, Tryd.ntmps50
  go_wp2_with fail
  refine wp_loop_rounds 5 ?_
  rw [rounds_succ]
  go_wp2_with fail
  refine Calls.mono h1.out ?_
  rintro e w1 ⟨rfl, rfl⟩
  go_wp2
  rw [rounds_succ]
  go_wp2_with fail
  refine Calls.mono h2.out ?_
  rintro e w1 ⟨rfl, rfl⟩
  go_wp2
  rw [rounds_succ]
  go_wp2_with fail
  refine Calls.mono h3.out ?_
  rintro e w1 ⟨rfl, rfl⟩
  go_wp2
  rw [rounds_succ]
  go_wp2_with fail
  refine Calls.mono h4.out ?_
  rintro e w1 ⟨rfl, rfl⟩
  go_wp2
  rw [rounds_succ]
  go_wp2
  go_ret
  exact ⟨rfl, rfl⟩
theorem cap_c (b : Nat) (a : Option Addr) (n c : Nat) (cp : Int) (w : World) (hn : n ≤ 9223372036854775807) (c0 : w.cell? ⟨b, 15, none⟩ = some (.slice a n c)) (c1 : w.cell? ⟨b, 16, none⟩ = some (.int .i64 cp)) :
    Calls Tryd.prog 52 #[.pointer (some ⟨b, 0, none⟩)] w fun e w' => e = .returned (.bool (r9B n cp)) ∧ w' = w := by
  unfold r9B
  cases h0 : (cp == 0)
  · by_cases h1 : 0 < n
    · have h1' : decide (0 < n) = true := decide_eq_true h1
      have h1'' : (0 : Int) < (n : Int) := by omega
      rw [h1']
      go_enter Tryd.func52, Tryd.ntmps52
      go_wp2_with fail
      refine (liesL_c _ _ _ _).mono ?_
      rintro e w1 ⟨rfl, rfl⟩
      go_wp2
      go_ret
      exact ⟨rfl, rfl⟩
    · have h1' : decide (0 < n) = false := decide_eq_false h1
      have h1'' : ¬ (0 : Int) < (n : Int) := by omega
      rw [h1']
      go_enter Tryd.func52, Tryd.ntmps52
      go_wp2
      go_ret
      exact ⟨rfl, rfl⟩
  · go_enter Tryd.func52, Tryd.ntmps52
    go_wp2
    go_ret
    exact ⟨rfl, rfl⟩
theorem holidays_c (b : Nat) (v : Value) (l : List Int) (rl : Int) (w : World) (hl : l.length ≤ 9223372036854775807) (hv : Slc w v l) (c0 : w.cell? ⟨b, 17, none⟩ = some (.int .i64 rl)) (c1 : w.cell? ⟨b, 18, none⟩ = some (v)) :
    Calls Tryd.prog 53 #[.pointer (some ⟨b, 0, none⟩)] w fun e w' => e = .returned (.bool (r10B rl l)) ∧ Ext w w' := by
  obtain ⟨a, c, hval⟩ := hv.len
  unfold r10B
  by_cases h0 : rl = 1
  · subst h0
    rw [if_pos rfl]
    subst hval
    clear hv
    generalize l.length = n at *
    have hb : Hid (((n : Int) == 0) = decide (n = 0)) := by show _ = _; by_cases h : n = 0 <;> simp [h]
    go_enter Tryd.func53, Tryd.ntmps53
    go_wp2
    go_ret
    exact ⟨ret_bool (by first | exact hb.out | rfl), Ext.refl _⟩
  · rw [if_neg h0]
    have h0' : (rl == 1) = false := by simpa using h0
    cases hr : rgt l
    · have hN : Hid (Calls Tryd.prog 20 #[v] w fun e w' => e = .returned (.tuple #[.pointer none, .int .i64 1]) ∧ w' = w) := New_no v l w hv hl hr
      subst hval
      clear hv hr h0 hl
      generalize l.length = n at *
      go_enter Tryd.func53, Tryd.ntmps53
      go_wp2_with fail
      refine Calls.mono hN.out ?_
      rintro e w1 ⟨rfl, rfl⟩
      go_wp2
      go_ret
      exact ⟨rfl, Ext.refl _⟩
    · have hN : Hid (Calls Tryd.prog 20 #[v] w fun e w' => (∃ p, e = .returned (.tuple #[p, .int .i64 0])) ∧ Ext w w') := New_ok v l w hv hr
      subst hval
      clear hv hr h0 hl
      generalize l.length = n at *
      go_enter Tryd.func53, Tryd.ntmps53
      go_wp2_with fail
      refine Calls.mono hN.out ?_
      rintro e w1 ⟨⟨p, rfl⟩, hx⟩
      replace hx := show Hid _ from hx
      go_wp2
      go_ret
      exact ⟨rfl, hx.out⟩
end Go.Proofs.YtmlkccmkdgfalaaDoor.L8