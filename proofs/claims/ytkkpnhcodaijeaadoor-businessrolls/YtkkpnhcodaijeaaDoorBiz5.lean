/- The document's own Open, seek, Roll and Count, as contracts: no statement of the seat is proved here. -/
import Derived.Test.YtkkpnhcodaijeaaDoorBiz4
namespace Go.Proofs.YtkkpnhcodaijeaaDoor
open Go.RowKit
set_option linter.unusedVariables false

theorem rOpen_c (v : Value) (l : List Int) (n : Int) (w : World) (hn : I64 n) (hl : l.length ≤ 1000) (hc : Hid (Slc w v l)) :
    Calls Tryd.prog 19 #[v, .int .i64 n] w fun e w' => e = .returned (.bool (opn l n)) ∧ w' = w := by
  replace hn := show Hid _ from hn
  cases h : inD n
  · rw [opn_out h]
    go_enter Tryd.func19, Tryd.ntmps19
    go_wp2_with (go_at_call 22; refine (Is_c _ _).mono ?_; rintro e w' ⟨rfl, rfl⟩; rw [h])
    go_ret
    exact ⟨rfl, rfl⟩
  · rw [show opn l n = (decide (wday n < 5) && !(decide (n ∈ l))) by unfold opn; rw [h]; simp]
    have hI : Hid (∀ w : World, Hid (Slc w v l) → Calls Tryd.prog 31 #[v, .int .i64 n] w fun e w' => e = .returned (.bool (decide (n ∈ l))) ∧ w' = w) := fun w hc => In_c v l n w hl hc.out
    have hW : Hid (∀ w : World, Calls Tryd.prog 30 #[.int .i64 n] w fun e w' => e = .returned (.int .i64 (wday n)) ∧ w' = w) := fun w => rWeekday_c n w hn.out
    generalize wday n = D at *
    by_cases h5 : D < 5
    · rw [show (decide (D < 5) && !(decide (n ∈ l))) = !(decide (n ∈ l)) by rw [decide_eq_true h5]; simp]
      generalize decide (n ∈ l) = B at *
      go_enter Tryd.func19, Tryd.ntmps19
      go_wp2_with (first
        | (go_at_call 22; refine (Is_c _ _).mono ?_; rintro e w' ⟨rfl, rfl⟩; rw [h])
        | (go_at_call 30; refine (hW.out _).mono ?_; rintro e w' ⟨rfl, rfl⟩)
        | (go_at_call 31; refine (hI.out _ hc).mono ?_; rintro e w' ⟨rfl, rfl⟩))
      go_ret
      exact ⟨rfl, rfl⟩
    · rw [show (decide (D < 5) && !(decide (n ∈ l))) = false by rw [decide_eq_false h5]; simp]
      go_enter Tryd.func19, Tryd.ntmps19
      go_wp2_with (first
        | (go_at_call 22; refine (Is_c _ _).mono ?_; rintro e w' ⟨rfl, rfl⟩; rw [h])
        | (go_at_call 30; refine (hW.out _).mono ?_; rintro e w' ⟨rfl, rfl⟩))
      go_ret
      exact ⟨rfl, rfl⟩
theorem rseek_c (v : Value) (l : List Int) (d s : Int) (w : World) (hl : l.length ≤ 1000) (hs : s = 1 ∨ s = -1) (hc : Hid (Slc w v l)) :
    Calls Tryd.prog 26 #[v, .int .i64 d, .int .i64 s] w
      fun e w' => e = .returned (.tuple #[.int .i64 (sk l s d).1, .bool (sk l s d).2]) ∧ w' = w := by
  have s1 : -1 ≤ s := by omega
  have s2 : s ≤ 1 := by omega
  replace hs := show Hid _ from hs
  go_enter Tryd.func26, Tryd.ntmps26
  go_wp2_with fail
  go_loop [8] (fun u => ∃ D : Int, u = .int .i64 D ∧ Hid (sk l s d = sk l s D)) (fun u => skM s (RowKit.intOf u))
  case atStart => exact ⟨d, rfl, rfl⟩
  case round =>
    obtain ⟨D, rfl, hD⟩ := hrel
    cases h : inD D
    · have hf : Hid (sk l s d = (0, false)) := by show _ = _; rw [hD.out]; exact sk_out _ _ _ h
      clear hD
      go_wp2_with (go_at_call 22; refine (Is_c _ _).mono ?_; rintro e w' ⟨rfl, rfl⟩; rw [h])
      go_ret2
      exact ⟨by rw [hf.out]; rfl, rfl⟩
    · obtain ⟨d1, d2⟩ := (inD_iff D).1 h
      have hO : Hid (∀ w : World, Hid (Slc w v l) → Calls Tryd.prog 19 #[v, .int .i64 D] w fun e w' => e = .returned (.bool (opn l D)) ∧ w' = w) := fun w hc => rOpen_c v l D w (by unfold I64; omega) hl hc
      cases ho : opn l D
      · have hf : Hid (sk l s d = sk l s (D + s)) := by show _ = _; rw [hD.out]; exact sk_step _ _ _ hs.out h ho
        have hm : Hid (skM s D = skM s (D + s) + 1) := skM_step s D hs.out h
        rw [ho] at hO
        clear hD
        go_wp2_with (first
          | (go_at_call 22; refine (Is_c _ _).mono ?_; rintro e w' ⟨rfl, rfl⟩; rw [h])
          | (go_at_call 19; refine (hO.out _ hc).mono ?_; rintro e w' ⟨rfl, rfl⟩))
        go_round
        case rel => exact ⟨D + s, by go_num, hf⟩
        case measure => simp [RowKit.intOf]; have := hm.out; omega
      · have hf : Hid (sk l s d = (D, true)) := by show _ = _; rw [hD.out]; exact sk_hit _ _ _ ho
        rw [ho] at hO
        clear hD
        go_wp2_with (first
          | (go_at_call 22; refine (Is_c _ _).mono ?_; rintro e w' ⟨rfl, rfl⟩; rw [h])
          | (go_at_call 19; refine (hO.out _ hc).mono ?_; rintro e w' ⟨rfl, rfl⟩))
        go_ret2
        exact ⟨by rw [hf.out]; rfl, rfl⟩
theorem rCount_c (v : Value) (l : List Int) (a b : Int) (w : World) (hl : l.length ≤ 1000) (hc : Hid (Slc w v l)) :
    Calls Tryd.prog 17 #[v, .int .i64 a, .int .i64 b] w
      fun e w' => e = .returned (.tuple #[.int .i64 (ctA l a b), .int .i64 (ctE a b)]) ∧ w' = w := by
  cases ha : inD a
  · rw [show ctA l a b = 0 by unfold ctA; rw [ha]; simp, show ctE a b = 5 by unfold ctE; rw [ha]; simp]
    go_enter Tryd.func17, Tryd.ntmps17
    go_wp2_with (go_at_call 22; refine (Is_c _ _).mono ?_; rintro e w' ⟨rfl, rfl⟩; rw [ha])
    go_ret2
    exact ⟨rfl, rfl⟩
  · cases hb : inD b
    · rw [show ctA l a b = 0 by unfold ctA; rw [hb]; simp, show ctE a b = 5 by unfold ctE; rw [hb]; simp]
      go_enter Tryd.func17, Tryd.ntmps17
      go_wp2_with (go_at_call 22; refine (Is_c _ _).mono ?_; rintro e w' ⟨rfl, rfl⟩; first | rw [ha] | rw [hb])
      go_ret2
      exact ⟨rfl, rfl⟩
    · by_cases hab : b < a
      · rw [show ctA l a b = 0 by unfold ctA; rw [if_neg (by omega)], show ctE a b = 5 by unfold ctE; rw [if_neg (by omega)]]
        go_enter Tryd.func17, Tryd.ntmps17
        go_wp2_with (go_at_call 22; refine (Is_c _ _).mono ?_; rintro e w' ⟨rfl, rfl⟩; first | rw [ha] | rw [hb])
        go_ret2
        exact ⟨rfl, rfl⟩
      · rw [show ctE a b = 0 by unfold ctE; rw [if_pos ⟨ha, hb, by omega⟩], show ctA l a b = cnt l a (b - a + 1).toNat by unfold ctA; rw [if_pos ⟨ha, hb, by omega⟩]]
        obtain ⟨a1, a2⟩ := (inD_iff a).1 ha
        obtain ⟨b1, b2⟩ := (inD_iff b).1 hb
        go_enter Tryd.func17, Tryd.ntmps17
        go_wp2_with (go_at_call 22; refine (Is_c _ _).mono ?_; rintro e w' ⟨rfl, rfl⟩; first | rw [ha] | rw [hb])
        clear ha hb
        go_loop [8, 9] (fun u i => ∃ (k : Nat) (C : Int), a + k ≤ b + 1 ∧ i = .int .i64 (a + k) ∧ u = .int .i64 C ∧ 0 ≤ C ∧ C ≤ k ∧ Hid (cnt l a k = C)) (fun _ i => (b + 1 - RowKit.intOf i).toNat)
        case atStart => exact ⟨0, 0, by omega, by simp, rfl, by omega, by omega, rfl⟩
        case round =>
          obtain ⟨k, C, hk, rfl, rfl, c1, c2, hC⟩ := hrel
          by_cases hlt : a + k ≤ b
          · have hO : Hid (∀ w : World, Hid (Slc w v l) → Calls Tryd.prog 19 #[v, .int .i64 (a + k)] w fun e w' => e = .returned (.bool (opn l (a + k))) ∧ w' = w) := fun w hc => rOpen_c v l (a + k) w (by unfold I64; omega) hl hc
            cases ho : opn l (a + k)
            · have hf : Hid (cnt l a (k + 1) = C) := by show _ = _; rw [cnt_not ho, hC.out]
              rw [ho] at hO
              clear hC ho
              go_wp2_with (go_at_call 19; refine (hO.out _ hc).mono ?_; rintro e w' ⟨rfl, rfl⟩)
              go_round
              case rel => exact ⟨k + 1, C, by omega, by go_num, rfl, c1, by omega, hf⟩
              case measure => simp [RowKit.intOf]; omega
            · have hf : Hid (cnt l a (k + 1) = C + 1) := by show _ = _; rw [cnt_yes ho, hC.out]
              rw [ho] at hO
              clear hC ho
              go_wp2_with (go_at_call 19; refine (hO.out _ hc).mono ?_; rintro e w' ⟨rfl, rfl⟩)
              go_round
              case rel => exact ⟨k + 1, C + 1, by omega, by go_num, by go_num, by omega, by omega, hf⟩
              case measure => simp [RowKit.intOf]; omega
          · have hf : Hid (cnt l a (b - a + 1).toNat = C) := by show _ = _; rw [← hC.out, show (b - a + 1).toNat = k by omega]
            clear hC
            go_wp2
            go_ret2
            exact ⟨ret_ii hf.out.symm rfl, rfl⟩
theorem sk_inD (l : List Int) (n s : Int) (hs : s = 1 ∨ s = -1) (hn : inD n = true) : inD (sk l s n).1 = true := by
  have := (inD_iff n).1 hn
  rcases hs with rfl | rfl
  · rcases sk_up l _ n rfl (by omega) with ⟨_, a, _⟩ | ⟨a, _⟩
    · exact opn_in a
    · rw [a]; rfl
  · rcases sk_dn l _ n rfl (by omega) with ⟨_, a, _⟩ | ⟨a, _⟩
    · exact opn_in a
    · rw [a]; rfl
theorem rRoll_2 (v : Value) (l : List Int) (n X Y : Int) (F G : Bool) (w : World) (hl : l.length ≤ 1000) (hn : inD n = true) (ho : opn l n = false) (hX : sk l 1 n = (X, F)) (hY : sk l (-1) n = (Y, G)) (hc : Hid (Slc w v l)) :
    Calls Tryd.prog 15 #[v, .int .i64 n, .int .i64 2] w fun e w' => e = .returned (.tuple #[.int .i64 (if F = true then X else 0), .int .i64 (if F = true then 0 else 5)]) ∧ Ext w w' := by
  have hU : Hid (∀ w : World, Hid (Slc w v l) → Calls Tryd.prog 26 #[v, .int .i64 n, .int .i64 1] w
      fun e w' => e = .returned (.tuple #[.int .i64 X, .bool F]) ∧ w' = w) := fun w hc => by have := rseek_c v l n 1 w hl (Or.inl rfl) hc; rwa [hX] at this
  have hD : Hid (∀ w : World, Hid (Slc w v l) → Calls Tryd.prog 26 #[v, .int .i64 n, .int .i64 (-1)] w
      fun e w' => e = .returned (.tuple #[.int .i64 Y, .bool G]) ∧ w' = w) := fun w hc => by have := rseek_c v l n (-1) w hl (Or.inr rfl) hc; rwa [hY] at this
  have hO : Hid (∀ w : World, Hid (Slc w v l) → Calls Tryd.prog 19 #[v, .int .i64 n] w fun e w' => e = .returned (.bool false) ∧ w' = w) := fun w hc => by
    have := rOpen_c v l n w (by have := (inD_iff n).1 hn; unfold I64; omega) hl hc; rwa [ho] at this
  clear hX hY ho
  cases F
  · rw [if_neg (by simp), if_neg (by simp)]
    go_enter Tryd.func15, Tryd.ntmps15
    go_wp2_with (first
      | (go_at_call 22; refine (Is_c _ _).mono ?_; rintro e w' ⟨rfl, rfl⟩; rw [hn])
      | (go_at_call 19; refine (hO.out _ hc).mono ?_; rintro e w' ⟨rfl, rfl⟩))
    refine (hU.out _ hc).mono ?_
    rintro e w' ⟨rfl, rfl⟩
    go_wp2_with fail
    refine (hD.out _ hc).mono ?_
    rintro e w'' ⟨rfl, rfl⟩
    go_wp2
    go_ret2
    exact ⟨rfl, Ext.refl _⟩
  · rw [if_pos rfl, if_pos rfl]
    go_enter Tryd.func15, Tryd.ntmps15
    go_wp2_with (first
      | (go_at_call 22; refine (Is_c _ _).mono ?_; rintro e w' ⟨rfl, rfl⟩; rw [hn])
      | (go_at_call 19; refine (hO.out _ hc).mono ?_; rintro e w' ⟨rfl, rfl⟩))
    refine (hU.out _ hc).mono ?_
    rintro e w' ⟨rfl, rfl⟩
    go_wp2_with fail
    refine (hD.out _ hc).mono ?_
    rintro e w'' ⟨rfl, rfl⟩
    go_wp2
    go_ret2
    exact ⟨rfl, Ext.refl _⟩
theorem rRoll_4 (v : Value) (l : List Int) (n X Y : Int) (F G : Bool) (w : World) (hl : l.length ≤ 1000) (hn : inD n = true) (ho : opn l n = false) (hX : sk l 1 n = (X, F)) (hY : sk l (-1) n = (Y, G)) (hc : Hid (Slc w v l)) :
    Calls Tryd.prog 15 #[v, .int .i64 n, .int .i64 4] w fun e w' => e = .returned (.tuple #[.int .i64 (if G = true then Y else 0), .int .i64 (if G = true then 0 else 5)]) ∧ Ext w w' := by
  have hU : Hid (∀ w : World, Hid (Slc w v l) → Calls Tryd.prog 26 #[v, .int .i64 n, .int .i64 1] w
      fun e w' => e = .returned (.tuple #[.int .i64 X, .bool F]) ∧ w' = w) := fun w hc => by have := rseek_c v l n 1 w hl (Or.inl rfl) hc; rwa [hX] at this
  have hD : Hid (∀ w : World, Hid (Slc w v l) → Calls Tryd.prog 26 #[v, .int .i64 n, .int .i64 (-1)] w
      fun e w' => e = .returned (.tuple #[.int .i64 Y, .bool G]) ∧ w' = w) := fun w hc => by have := rseek_c v l n (-1) w hl (Or.inr rfl) hc; rwa [hY] at this
  have hO : Hid (∀ w : World, Hid (Slc w v l) → Calls Tryd.prog 19 #[v, .int .i64 n] w fun e w' => e = .returned (.bool false) ∧ w' = w) := fun w hc => by
    have := rOpen_c v l n w (by have := (inD_iff n).1 hn; unfold I64; omega) hl hc; rwa [ho] at this
  clear hX hY ho
  cases G
  · rw [if_neg (by simp), if_neg (by simp)]
    go_enter Tryd.func15, Tryd.ntmps15
    go_wp2_with (first
      | (go_at_call 22; refine (Is_c _ _).mono ?_; rintro e w' ⟨rfl, rfl⟩; rw [hn])
      | (go_at_call 19; refine (hO.out _ hc).mono ?_; rintro e w' ⟨rfl, rfl⟩))
    refine (hU.out _ hc).mono ?_
    rintro e w' ⟨rfl, rfl⟩
    go_wp2_with fail
    refine (hD.out _ hc).mono ?_
    rintro e w'' ⟨rfl, rfl⟩
    go_wp2
    go_ret2
    exact ⟨rfl, Ext.refl _⟩
  · rw [if_pos rfl, if_pos rfl]
    go_enter Tryd.func15, Tryd.ntmps15
    go_wp2_with (first
      | (go_at_call 22; refine (Is_c _ _).mono ?_; rintro e w' ⟨rfl, rfl⟩; rw [hn])
      | (go_at_call 19; refine (hO.out _ hc).mono ?_; rintro e w' ⟨rfl, rfl⟩))
    refine (hU.out _ hc).mono ?_
    rintro e w' ⟨rfl, rfl⟩
    go_wp2_with fail
    refine (hD.out _ hc).mono ?_
    rintro e w'' ⟨rfl, rfl⟩
    go_wp2
    go_ret2
    exact ⟨rfl, Ext.refl _⟩
set_option maxHeartbeats 1000000 in
theorem rRoll_3a (v : Value) (l : List Int) (n X Y : Int) (F G : Bool) (w : World) (hl : l.length ≤ 1000) (hn : inD n = true) (ho : opn l n = false) (hX : sk l 1 n = (X, F)) (hY : sk l (-1) n = (Y, G)) (hc : Hid (Slc w v l)) (hF : F = false) :
    Calls Tryd.prog 15 #[v, .int .i64 n, .int .i64 3] w fun e w' => e = .returned (.tuple #[.int .i64 (if G = true then Y else 0), .int .i64 (if G = true then 0 else 5)]) ∧ Ext w w' := by
  have hU : Hid (∀ w : World, Hid (Slc w v l) → Calls Tryd.prog 26 #[v, .int .i64 n, .int .i64 1] w
      fun e w' => e = .returned (.tuple #[.int .i64 X, .bool F]) ∧ w' = w) := fun w hc => by have := rseek_c v l n 1 w hl (Or.inl rfl) hc; rwa [hX] at this
  have hD : Hid (∀ w : World, Hid (Slc w v l) → Calls Tryd.prog 26 #[v, .int .i64 n, .int .i64 (-1)] w
      fun e w' => e = .returned (.tuple #[.int .i64 Y, .bool G]) ∧ w' = w) := fun w hc => by have := rseek_c v l n (-1) w hl (Or.inr rfl) hc; rwa [hY] at this
  have hO : Hid (∀ w : World, Hid (Slc w v l) → Calls Tryd.prog 19 #[v, .int .i64 n] w fun e w' => e = .returned (.bool false) ∧ w' = w) := fun w hc => by
    have := rOpen_c v l n w (by have := (inD_iff n).1 hn; unfold I64; omega) hl hc; rwa [ho] at this
  have dA : Hid (∀ w : World, Calls Tryd.prog 20 #[.int .i64 n] w fun e w' => e = .returned (.tuple #[.agg #[.int .i64 (yOf n), .int .i64 (mOf n), .int .i64 (dOf n)], .int .i64 0]) ∧ Ext w w') := fun w => rDate_f n w ((inD_iff n).1 hn).1 ((inD_iff n).1 hn).2
  have dB : Hid (∀ w : World, Calls Tryd.prog 20 #[.int .i64 X] w fun e w' => e = .returned (.tuple #[.agg #[.int .i64 (yOf X), .int .i64 (mOf X), .int .i64 (dOf X)], .int .i64 0]) ∧ Ext w w') := fun w => by
    have hX' : inD X = true := by have := sk_inD l n 1 (Or.inl rfl) hn; rwa [hX] at this
    exact rDate_f X w ((inD_iff X).1 hX').1 ((inD_iff X).1 hX').2
  clear hX hY ho
  subst hF
  generalize yOf n = ya at *
  generalize yOf X = yb at *
  generalize mOf n = ma at *
  generalize mOf X = mb at *
  generalize dOf n = da at *
  generalize dOf X = db at *
  cases G
  · rw [if_neg (by simp), if_neg (by simp)]
    go_enter Tryd.func15, Tryd.ntmps15
    go_wp2_with (first
      | (go_at_call 22; refine (Is_c _ _).mono ?_; rintro e w' ⟨rfl, rfl⟩; rw [hn])
      | (go_at_call 19; refine (hO.out _ hc).mono ?_; rintro e w' ⟨rfl, rfl⟩))
    refine (hU.out _ hc).mono ?_
    rintro e w' ⟨rfl, rfl⟩
    go_wp2_with fail
    refine (hD.out _ hc).mono ?_
    rintro e w'' ⟨rfl, rfl⟩
    go_wp2_with fail
    refine (dA.out _).mono ?_
    rintro e w1 ⟨rfl, hx1⟩
    have hx := show Hid (Ext _ w1) from hx1
    clear hx1
    go_wp2_with fail
    obtain ⟨W2, r2, hW, hr, hx2, c0, c1, c2⟩ := box3 w1 (.int .i64 ya) (.int .i64 ma) (.int .i64 da) 40
    rw [hW, hr]
    clear hW hr
    replace hx := show Hid (Ext _ W2) from hx.out.trans hx2
    clear hx2
    refine (dB.out _).mono ?_
    rintro e w3 ⟨rfl, hx1⟩
    replace c0 := hx1.cell_of c0
    replace c1 := hx1.cell_of c1
    replace hx := show Hid (Ext _ w3) from hx.out.trans hx1
    clear hx1 c2 dA dB
    have k0 : ∀ cs t, (w3.alloc (.cells cs t)).cell? ⟨r2, 0, none⟩ = some (.int .i64 ya) := fun cs t => ((Ext.refl w3).alloc cs t).cell_of c0
    have k1 : ∀ cs t, (w3.alloc (.cells cs t)).cell? ⟨r2, 1, none⟩ = some (.int .i64 ma) := fun cs t => ((Ext.refl w3).alloc cs t).cell_of c1
    clear c0 c1
    go_wp2
    go_ret2
    exact ⟨rfl, hx.out.alloc _ _⟩
  · rw [if_pos rfl, if_pos rfl]
    go_enter Tryd.func15, Tryd.ntmps15
    go_wp2_with (first
      | (go_at_call 22; refine (Is_c _ _).mono ?_; rintro e w' ⟨rfl, rfl⟩; rw [hn])
      | (go_at_call 19; refine (hO.out _ hc).mono ?_; rintro e w' ⟨rfl, rfl⟩))
    refine (hU.out _ hc).mono ?_
    rintro e w' ⟨rfl, rfl⟩
    go_wp2_with fail
    refine (hD.out _ hc).mono ?_
    rintro e w'' ⟨rfl, rfl⟩
    go_wp2_with fail
    refine (dA.out _).mono ?_
    rintro e w1 ⟨rfl, hx1⟩
    have hx := show Hid (Ext _ w1) from hx1
    clear hx1
    go_wp2_with fail
    obtain ⟨W2, r2, hW, hr, hx2, c0, c1, c2⟩ := box3 w1 (.int .i64 ya) (.int .i64 ma) (.int .i64 da) 40
    rw [hW, hr]
    clear hW hr
    replace hx := show Hid (Ext _ W2) from hx.out.trans hx2
    clear hx2
    refine (dB.out _).mono ?_
    rintro e w3 ⟨rfl, hx1⟩
    replace c0 := hx1.cell_of c0
    replace c1 := hx1.cell_of c1
    replace hx := show Hid (Ext _ w3) from hx.out.trans hx1
    clear hx1 c2 dA dB
    have k0 : ∀ cs t, (w3.alloc (.cells cs t)).cell? ⟨r2, 0, none⟩ = some (.int .i64 ya) := fun cs t => ((Ext.refl w3).alloc cs t).cell_of c0
    have k1 : ∀ cs t, (w3.alloc (.cells cs t)).cell? ⟨r2, 1, none⟩ = some (.int .i64 ma) := fun cs t => ((Ext.refl w3).alloc cs t).cell_of c1
    clear c0 c1
    go_wp2
    go_ret2
    exact ⟨rfl, hx.out.alloc _ _⟩
set_option maxHeartbeats 1000000 in
theorem rRoll_3b (v : Value) (l : List Int) (n X Y : Int) (F G : Bool) (w : World) (hl : l.length ≤ 1000) (hn : inD n = true) (ho : opn l n = false) (hX : sk l 1 n = (X, F)) (hY : sk l (-1) n = (Y, G)) (hc : Hid (Slc w v l)) (hF : F = true) (hS : sameM n X = false) :
    Calls Tryd.prog 15 #[v, .int .i64 n, .int .i64 3] w fun e w' => e = .returned (.tuple #[.int .i64 (if G = true then Y else 0), .int .i64 (if G = true then 0 else 5)]) ∧ Ext w w' := by
  have hU : Hid (∀ w : World, Hid (Slc w v l) → Calls Tryd.prog 26 #[v, .int .i64 n, .int .i64 1] w
      fun e w' => e = .returned (.tuple #[.int .i64 X, .bool F]) ∧ w' = w) := fun w hc => by have := rseek_c v l n 1 w hl (Or.inl rfl) hc; rwa [hX] at this
  have hD : Hid (∀ w : World, Hid (Slc w v l) → Calls Tryd.prog 26 #[v, .int .i64 n, .int .i64 (-1)] w
      fun e w' => e = .returned (.tuple #[.int .i64 Y, .bool G]) ∧ w' = w) := fun w hc => by have := rseek_c v l n (-1) w hl (Or.inr rfl) hc; rwa [hY] at this
  have hO : Hid (∀ w : World, Hid (Slc w v l) → Calls Tryd.prog 19 #[v, .int .i64 n] w fun e w' => e = .returned (.bool false) ∧ w' = w) := fun w hc => by
    have := rOpen_c v l n w (by have := (inD_iff n).1 hn; unfold I64; omega) hl hc; rwa [ho] at this
  have dA : Hid (∀ w : World, Calls Tryd.prog 20 #[.int .i64 n] w fun e w' => e = .returned (.tuple #[.agg #[.int .i64 (yOf n), .int .i64 (mOf n), .int .i64 (dOf n)], .int .i64 0]) ∧ Ext w w') := fun w => rDate_f n w ((inD_iff n).1 hn).1 ((inD_iff n).1 hn).2
  have dB : Hid (∀ w : World, Calls Tryd.prog 20 #[.int .i64 X] w fun e w' => e = .returned (.tuple #[.agg #[.int .i64 (yOf X), .int .i64 (mOf X), .int .i64 (dOf X)], .int .i64 0]) ∧ Ext w w') := fun w => by
    have hX' : inD X = true := by have := sk_inD l n 1 (Or.inl rfl) hn; rwa [hX] at this
    exact rDate_f X w ((inD_iff X).1 hX').1 ((inD_iff X).1 hX').2
  clear hX hY ho
  subst hF
  have hM : Hid ((mOf n != mOf X) = true ∨ ((mOf n != mOf X) = false ∧ (yOf n != yOf X) = true)) := by
    unfold sameM at hS
    show _ ∨ _
    by_cases h1 : mOf n = mOf X
    · right
      refine ⟨by simp [h1], ?_⟩
      rw [decide_eq_true h1] at hS
      simpa using hS
    · left; simpa using h1
  clear hS
  generalize yOf n = ya at *
  generalize yOf X = yb at *
  generalize mOf n = ma at *
  generalize mOf X = mb at *
  generalize dOf n = da at *
  generalize dOf X = db at *
  cases G
  · rw [if_neg (by simp), if_neg (by simp)]
    rcases hM.out with m1 | ⟨m1, m2⟩
    · clear hM
      go_enter Tryd.func15, Tryd.ntmps15
      go_wp2_with (first
        | (go_at_call 22; refine (Is_c _ _).mono ?_; rintro e w' ⟨rfl, rfl⟩; rw [hn])
        | (go_at_call 19; refine (hO.out _ hc).mono ?_; rintro e w' ⟨rfl, rfl⟩))
      refine (hU.out _ hc).mono ?_
      rintro e w' ⟨rfl, rfl⟩
      go_wp2_with fail
      refine (hD.out _ hc).mono ?_
      rintro e w'' ⟨rfl, rfl⟩
      go_wp2_with fail
      refine (dA.out _).mono ?_
      rintro e w1 ⟨rfl, hx1⟩
      have hx := show Hid (Ext _ w1) from hx1
      clear hx1
      go_wp2_with fail
      obtain ⟨W2, r2, hW, hr, hx2, c0, c1, c2⟩ := box3 w1 (.int .i64 ya) (.int .i64 ma) (.int .i64 da) 40
      rw [hW, hr]
      clear hW hr
      replace hx := show Hid (Ext _ W2) from hx.out.trans hx2
      clear hx2
      refine (dB.out _).mono ?_
      rintro e w3 ⟨rfl, hx1⟩
      replace c0 := hx1.cell_of c0
      replace c1 := hx1.cell_of c1
      replace hx := show Hid (Ext _ w3) from hx.out.trans hx1
      clear hx1 c2 dA dB
      have k0 : ∀ cs t, (w3.alloc (.cells cs t)).cell? ⟨r2, 0, none⟩ = some (.int .i64 ya) := fun cs t => ((Ext.refl w3).alloc cs t).cell_of c0
      have k1 : ∀ cs t, (w3.alloc (.cells cs t)).cell? ⟨r2, 1, none⟩ = some (.int .i64 ma) := fun cs t => ((Ext.refl w3).alloc cs t).cell_of c1
      clear c0 c1
      go_wp2
      go_ret2
      exact ⟨rfl, hx.out.alloc _ _⟩
    · clear hM
      go_enter Tryd.func15, Tryd.ntmps15
      go_wp2_with (first
        | (go_at_call 22; refine (Is_c _ _).mono ?_; rintro e w' ⟨rfl, rfl⟩; rw [hn])
        | (go_at_call 19; refine (hO.out _ hc).mono ?_; rintro e w' ⟨rfl, rfl⟩))
      refine (hU.out _ hc).mono ?_
      rintro e w' ⟨rfl, rfl⟩
      go_wp2_with fail
      refine (hD.out _ hc).mono ?_
      rintro e w'' ⟨rfl, rfl⟩
      go_wp2_with fail
      refine (dA.out _).mono ?_
      rintro e w1 ⟨rfl, hx1⟩
      have hx := show Hid (Ext _ w1) from hx1
      clear hx1
      go_wp2_with fail
      obtain ⟨W2, r2, hW, hr, hx2, c0, c1, c2⟩ := box3 w1 (.int .i64 ya) (.int .i64 ma) (.int .i64 da) 40
      rw [hW, hr]
      clear hW hr
      replace hx := show Hid (Ext _ W2) from hx.out.trans hx2
      clear hx2
      refine (dB.out _).mono ?_
      rintro e w3 ⟨rfl, hx1⟩
      replace c0 := hx1.cell_of c0
      replace c1 := hx1.cell_of c1
      replace hx := show Hid (Ext _ w3) from hx.out.trans hx1
      clear hx1 c2 dA dB
      have k0 : ∀ cs t, (w3.alloc (.cells cs t)).cell? ⟨r2, 0, none⟩ = some (.int .i64 ya) := fun cs t => ((Ext.refl w3).alloc cs t).cell_of c0
      have k1 : ∀ cs t, (w3.alloc (.cells cs t)).cell? ⟨r2, 1, none⟩ = some (.int .i64 ma) := fun cs t => ((Ext.refl w3).alloc cs t).cell_of c1
      clear c0 c1
      go_wp2
      go_ret2
      exact ⟨rfl, hx.out.alloc _ _⟩
  · rw [if_pos rfl, if_pos rfl]
    rcases hM.out with m1 | ⟨m1, m2⟩
    · clear hM
      go_enter Tryd.func15, Tryd.ntmps15
      go_wp2_with (first
        | (go_at_call 22; refine (Is_c _ _).mono ?_; rintro e w' ⟨rfl, rfl⟩; rw [hn])
        | (go_at_call 19; refine (hO.out _ hc).mono ?_; rintro e w' ⟨rfl, rfl⟩))
      refine (hU.out _ hc).mono ?_
      rintro e w' ⟨rfl, rfl⟩
      go_wp2_with fail
      refine (hD.out _ hc).mono ?_
      rintro e w'' ⟨rfl, rfl⟩
      go_wp2_with fail
      refine (dA.out _).mono ?_
      rintro e w1 ⟨rfl, hx1⟩
      have hx := show Hid (Ext _ w1) from hx1
      clear hx1
      go_wp2_with fail
      obtain ⟨W2, r2, hW, hr, hx2, c0, c1, c2⟩ := box3 w1 (.int .i64 ya) (.int .i64 ma) (.int .i64 da) 40
      rw [hW, hr]
      clear hW hr
      replace hx := show Hid (Ext _ W2) from hx.out.trans hx2
      clear hx2
      refine (dB.out _).mono ?_
      rintro e w3 ⟨rfl, hx1⟩
      replace c0 := hx1.cell_of c0
      replace c1 := hx1.cell_of c1
      replace hx := show Hid (Ext _ w3) from hx.out.trans hx1
      clear hx1 c2 dA dB
      have k0 : ∀ cs t, (w3.alloc (.cells cs t)).cell? ⟨r2, 0, none⟩ = some (.int .i64 ya) := fun cs t => ((Ext.refl w3).alloc cs t).cell_of c0
      have k1 : ∀ cs t, (w3.alloc (.cells cs t)).cell? ⟨r2, 1, none⟩ = some (.int .i64 ma) := fun cs t => ((Ext.refl w3).alloc cs t).cell_of c1
      clear c0 c1
      go_wp2
      go_ret2
      exact ⟨rfl, hx.out.alloc _ _⟩
    · clear hM
      go_enter Tryd.func15, Tryd.ntmps15
      go_wp2_with (first
        | (go_at_call 22; refine (Is_c _ _).mono ?_; rintro e w' ⟨rfl, rfl⟩; rw [hn])
        | (go_at_call 19; refine (hO.out _ hc).mono ?_; rintro e w' ⟨rfl, rfl⟩))
      refine (hU.out _ hc).mono ?_
      rintro e w' ⟨rfl, rfl⟩
      go_wp2_with fail
      refine (hD.out _ hc).mono ?_
      rintro e w'' ⟨rfl, rfl⟩
      go_wp2_with fail
      refine (dA.out _).mono ?_
      rintro e w1 ⟨rfl, hx1⟩
      have hx := show Hid (Ext _ w1) from hx1
      clear hx1
      go_wp2_with fail
      obtain ⟨W2, r2, hW, hr, hx2, c0, c1, c2⟩ := box3 w1 (.int .i64 ya) (.int .i64 ma) (.int .i64 da) 40
      rw [hW, hr]
      clear hW hr
      replace hx := show Hid (Ext _ W2) from hx.out.trans hx2
      clear hx2
      refine (dB.out _).mono ?_
      rintro e w3 ⟨rfl, hx1⟩
      replace c0 := hx1.cell_of c0
      replace c1 := hx1.cell_of c1
      replace hx := show Hid (Ext _ w3) from hx.out.trans hx1
      clear hx1 c2 dA dB
      have k0 : ∀ cs t, (w3.alloc (.cells cs t)).cell? ⟨r2, 0, none⟩ = some (.int .i64 ya) := fun cs t => ((Ext.refl w3).alloc cs t).cell_of c0
      have k1 : ∀ cs t, (w3.alloc (.cells cs t)).cell? ⟨r2, 1, none⟩ = some (.int .i64 ma) := fun cs t => ((Ext.refl w3).alloc cs t).cell_of c1
      clear c0 c1
      go_wp2
      go_ret2
      exact ⟨rfl, hx.out.alloc _ _⟩
set_option maxHeartbeats 1000000 in
theorem rRoll_3c (v : Value) (l : List Int) (n X Y : Int) (F G : Bool) (w : World) (hl : l.length ≤ 1000) (hn : inD n = true) (ho : opn l n = false) (hX : sk l 1 n = (X, F)) (hY : sk l (-1) n = (Y, G)) (hc : Hid (Slc w v l)) (hF : F = true) (hS : sameM n X = true) :
    Calls Tryd.prog 15 #[v, .int .i64 n, .int .i64 3] w fun e w' => e = .returned (.tuple #[.int .i64 X, .int .i64 0]) ∧ Ext w w' := by
  have hU : Hid (∀ w : World, Hid (Slc w v l) → Calls Tryd.prog 26 #[v, .int .i64 n, .int .i64 1] w
      fun e w' => e = .returned (.tuple #[.int .i64 X, .bool F]) ∧ w' = w) := fun w hc => by have := rseek_c v l n 1 w hl (Or.inl rfl) hc; rwa [hX] at this
  have hD : Hid (∀ w : World, Hid (Slc w v l) → Calls Tryd.prog 26 #[v, .int .i64 n, .int .i64 (-1)] w
      fun e w' => e = .returned (.tuple #[.int .i64 Y, .bool G]) ∧ w' = w) := fun w hc => by have := rseek_c v l n (-1) w hl (Or.inr rfl) hc; rwa [hY] at this
  have hO : Hid (∀ w : World, Hid (Slc w v l) → Calls Tryd.prog 19 #[v, .int .i64 n] w fun e w' => e = .returned (.bool false) ∧ w' = w) := fun w hc => by
    have := rOpen_c v l n w (by have := (inD_iff n).1 hn; unfold I64; omega) hl hc; rwa [ho] at this
  have dA : Hid (∀ w : World, Calls Tryd.prog 20 #[.int .i64 n] w fun e w' => e = .returned (.tuple #[.agg #[.int .i64 (yOf n), .int .i64 (mOf n), .int .i64 (dOf n)], .int .i64 0]) ∧ Ext w w') := fun w => rDate_f n w ((inD_iff n).1 hn).1 ((inD_iff n).1 hn).2
  have dB : Hid (∀ w : World, Calls Tryd.prog 20 #[.int .i64 X] w fun e w' => e = .returned (.tuple #[.agg #[.int .i64 (yOf X), .int .i64 (mOf X), .int .i64 (dOf X)], .int .i64 0]) ∧ Ext w w') := fun w => by
    have hX' : inD X = true := by have := sk_inD l n 1 (Or.inl rfl) hn; rwa [hX] at this
    exact rDate_f X w ((inD_iff X).1 hX').1 ((inD_iff X).1 hX').2
  clear hX hY ho
  subst hF
  have m1 : (mOf n != mOf X) = false := by unfold sameM at hS; simp only [Bool.and_eq_true, decide_eq_true_eq] at hS; simp [hS.2]
  have m2 : (yOf n != yOf X) = false := by unfold sameM at hS; simp only [Bool.and_eq_true, decide_eq_true_eq] at hS; simp [hS.1]
  clear hS
  generalize yOf n = ya at *
  generalize yOf X = yb at *
  generalize mOf n = ma at *
  generalize mOf X = mb at *
  generalize dOf n = da at *
  generalize dOf X = db at *
  go_enter Tryd.func15, Tryd.ntmps15
  go_wp2_with (first
    | (go_at_call 22; refine (Is_c _ _).mono ?_; rintro e w' ⟨rfl, rfl⟩; rw [hn])
    | (go_at_call 19; refine (hO.out _ hc).mono ?_; rintro e w' ⟨rfl, rfl⟩))
  refine (hU.out _ hc).mono ?_
  rintro e w' ⟨rfl, rfl⟩
  go_wp2_with fail
  refine (hD.out _ hc).mono ?_
  rintro e w'' ⟨rfl, rfl⟩
  go_wp2_with fail
  refine (dA.out _).mono ?_
  rintro e w1 ⟨rfl, hx1⟩
  have hx := show Hid (Ext _ w1) from hx1
  clear hx1
  go_wp2_with fail
  obtain ⟨W2, r2, hW, hr, hx2, c0, c1, c2⟩ := box3 w1 (.int .i64 ya) (.int .i64 ma) (.int .i64 da) 40
  rw [hW, hr]
  clear hW hr
  replace hx := show Hid (Ext _ W2) from hx.out.trans hx2
  clear hx2
  refine (dB.out _).mono ?_
  rintro e w3 ⟨rfl, hx1⟩
  replace c0 := hx1.cell_of c0
  replace c1 := hx1.cell_of c1
  replace hx := show Hid (Ext _ w3) from hx.out.trans hx1
  clear hx1 c2 dA dB
  have k0 : ∀ cs t, (w3.alloc (.cells cs t)).cell? ⟨r2, 0, none⟩ = some (.int .i64 ya) := fun cs t => ((Ext.refl w3).alloc cs t).cell_of c0
  have k1 : ∀ cs t, (w3.alloc (.cells cs t)).cell? ⟨r2, 1, none⟩ = some (.int .i64 ma) := fun cs t => ((Ext.refl w3).alloc cs t).cell_of c1
  clear c0 c1
  go_wp2
  go_ret2
  exact ⟨rfl, hx.out.alloc _ _⟩
theorem rRoll_c (v : Value) (l : List Int) (n how : Int) (w : World) (hl : l.length ≤ 1000) (hc : Hid (Slc w v l)) :
    Calls Tryd.prog 15 #[v, .int .i64 n, .int .i64 how] w
      fun e w' => e = .returned (.tuple #[.int .i64 (rlA l n how), .int .i64 (rlE l n how)]) ∧ Ext w w' := by
  cases hn : inD n
  · rw [show rlA l n how = 0 by unfold rlA; rw [hn]; simp, show rlE l n how = 5 by unfold rlE; rw [hn]; simp]
    go_enter Tryd.func15, Tryd.ntmps15
    go_wp2_with (go_at_call 22; refine (Is_c _ _).mono ?_; rintro e w' ⟨rfl, rfl⟩; rw [hn])
    go_ret2
    exact ⟨rfl, Ext.refl _⟩
  · by_cases h1 : how < 1
    · rw [show rlA l n how = 0 by unfold rlA; rw [if_neg (by omega)], show rlE l n how = 1 by unfold rlE; rw [hn, if_pos rfl, if_neg (by omega)]]
      go_enter Tryd.func15, Tryd.ntmps15
      go_wp2_with (go_at_call 22; refine (Is_c _ _).mono ?_; rintro e w' ⟨rfl, rfl⟩; rw [hn])
      go_ret2
      exact ⟨rfl, Ext.refl _⟩
    · by_cases h4 : 4 < how
      · rw [show rlA l n how = 0 by unfold rlA; rw [if_neg (by omega)], show rlE l n how = 1 by unfold rlE; rw [hn, if_pos rfl, if_neg (by omega)]]
        go_enter Tryd.func15, Tryd.ntmps15
        go_wp2_with (go_at_call 22; refine (Is_c _ _).mono ?_; rintro e w' ⟨rfl, rfl⟩; rw [hn])
        go_ret2
        exact ⟨rfl, Ext.refl _⟩
      · by_cases he1 : how = 1
        · subst he1
          rw [show rlA l n 1 = n by unfold rlA; rw [hn]; simp, show rlE l n 1 = 0 by unfold rlE; rw [hn]; simp]
          go_enter Tryd.func15, Tryd.ntmps15
          go_wp2_with (go_at_call 22; refine (Is_c _ _).mono ?_; rintro e w' ⟨rfl, rfl⟩; rw [hn])
          go_ret2
          exact ⟨rfl, Ext.refl _⟩
        · cases ho : opn l n
          · rw [show rlA l n how = (if (rolP l n how).2 = true then (rolP l n how).1 else 0) by unfold rlA; rw [if_pos ⟨hn, by omega, by omega⟩, if_neg he1],
              show rlE l n how = (if (rolP l n how).2 = true then 0 else 5) by unfold rlE; rw [if_pos hn, if_pos ⟨by omega, by omega⟩, if_neg he1]]
            obtain ⟨X, F, hX⟩ : ∃ X F, sk l 1 n = (X, F) := ⟨_, _, rfl⟩
            obtain ⟨Y, G, hY⟩ : ∃ Y G, sk l (-1) n = (Y, G) := ⟨_, _, rfl⟩
            obtain rfl | rfl | rfl : how = 2 ∨ how = 3 ∨ how = 4 := by omega
            · rw [show rolP l n 2 = (X, F) by unfold rolP; rw [hX]; simp]
              exact rRoll_2 v l n X Y F G w hl hn ho hX hY hc
            · cases hF : F
              · rw [show rolP l n 3 = (Y, G) by unfold rolP; rw [hX, hF, hY]; simp]
                exact rRoll_3a v l n X Y F G w hl hn ho hX hY hc hF
              · cases hS : sameM n X
                · rw [show rolP l n 3 = (Y, G) by unfold rolP; rw [hX, hF, hY]; simp [hS]]
                  exact rRoll_3b v l n X Y F G w hl hn ho hX hY hc hF hS
                · rw [show rolP l n 3 = (X, true) by unfold rolP; rw [hX, hF]; simp [hS]]
                  exact rRoll_3c v l n X Y F G w hl hn ho hX hY hc hF hS
            · rw [show rolP l n 4 = (Y, G) by unfold rolP; rw [hY]; simp]
              exact rRoll_4 v l n X Y F G w hl hn ho hX hY hc
          · rw [show rlA l n how = n by unfold rlA; rw [if_pos ⟨hn, by omega, by omega⟩, if_neg he1, rolP_open ho]; simp, show rlE l n how = 0 by unfold rlE; rw [if_pos hn, if_pos ⟨by omega, by omega⟩, if_neg he1, rolP_open ho]; simp]
            have hO : Hid (∀ w : World, Hid (Slc w v l) → Calls Tryd.prog 19 #[v, .int .i64 n] w fun e w' => e = .returned (.bool true) ∧ w' = w) := fun w hc => by
              have := rOpen_c v l n w (by have := (inD_iff n).1 hn; unfold I64; omega) hl hc; rwa [ho] at this
            have hb : (how == 1) = false := by simpa using he1
            clear ho
            go_enter Tryd.func15, Tryd.ntmps15
            go_wp2_with (first
              | (go_at_call 22; refine (Is_c _ _).mono ?_; rintro e w' ⟨rfl, rfl⟩; rw [hn])
              | (go_at_call 19; refine (hO.out _ hc).mono ?_; rintro e w' ⟨rfl, rfl⟩))
            go_ret2
            exact ⟨rfl, Ext.refl _⟩
end Go.Proofs.YtkkpnhcodaijeaaDoor
