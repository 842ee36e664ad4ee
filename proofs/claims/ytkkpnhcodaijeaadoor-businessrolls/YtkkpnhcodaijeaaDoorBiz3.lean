/- What package business does: the days sought, Roll and Count, as contracts: no statement of the seat is proved here. -/
import Derived.Test.YtkkpnhcodaijeaaDoorBiz2
namespace Go.Proofs.YtkkpnhcodaijeaaDoor
open Go.RowKit
set_option linter.unusedVariables false

theorem ret_ib2 {a b : Int} {c d : Bool} {x : Int × Bool} (h : x = (a, c)) : Ending.returned (.tuple #[.int .i64 a, .bool c]) = .returned (.tuple #[.int .i64 x.1, .bool x.2]) := by rw [h]
theorem seek_c (p : Nat) (l : List Int) (d s : Int) (w : World) (hs : s = 1 ∨ s = -1) (hc : Hid (Cld w p l)) :
    Calls Tryd.prog 36 #[.int .i64 d, .int .i64 s, .func (.func 18) #[.pointer (some ⟨p, 0, none⟩)] #[]] w
      fun e w' => e = .returned (.tuple #[.int .i64 (sk l s d).1, .bool (sk l s d).2]) ∧ w' = w := by
  have s1 : -1 ≤ s := by omega
  have s2 : s ≤ 1 := by omega
  replace hs := show Hid _ from hs
  go_enter Tryd.func36, Tryd.ntmps36
  go_wp2_with fail
  go_loop [0] (fun u => ∃ D : Int, u = .int .i64 D ∧ Hid (sk l s d = sk l s D)) (fun u => skM s (RowKit.intOf u))
  case atStart => exact ⟨d, rfl, rfl⟩
  case round =>
    obtain ⟨D, rfl, hD⟩ := hrel
    cases h : inD D
    · have hf : Hid (sk l s d = (0, false)) := by show _ = _; rw [hD.out]; exact sk_out _ _ _ h
      clear hD
      go_wp2_with (go_at_call 24; refine (bknown_c _ _).mono ?_; rintro e w' ⟨rfl, rfl⟩; rw [h])
      go_ret2
      exact ⟨by rw [hf.out]; rfl, rfl⟩
    · obtain ⟨d1, d2⟩ := (inD_iff D).1 h
      have hO : Hid (∀ w : World, Hid (Cld w p l) → Calls Tryd.prog 18 #[.pointer (some ⟨p, 0, none⟩), .int .i64 D] w fun e w' => e = .returned (.bool (opn l D)) ∧ w' = w) := fun w hc => Open_c p l D w (by unfold I64; omega) hc
      cases ho : opn l D
      · have hf : Hid (sk l s d = sk l s (D + s)) := by show _ = _; rw [hD.out]; exact sk_step _ _ _ hs.out h ho
        have hm : Hid (skM s D = skM s (D + s) + 1) := skM_step s D hs.out h
        rw [ho] at hO
        clear hD
        go_wp2_with (first
          | (go_at_call 24; refine (bknown_c _ _).mono ?_; rintro e w' ⟨rfl, rfl⟩; rw [h])
          | (go_at_call 18; refine (hO.out _ hc).mono ?_; rintro e w' ⟨rfl, rfl⟩))
        go_round
        case rel => exact ⟨D + s, by go_num, hf⟩
        case measure => simp [RowKit.intOf]; have := hm.out; omega
      · have hf : Hid (sk l s d = (D, true)) := by show _ = _; rw [hD.out]; exact sk_hit _ _ _ ho
        rw [ho] at hO
        clear hD
        go_wp2_with (first
          | (go_at_call 24; refine (bknown_c _ _).mono ?_; rintro e w' ⟨rfl, rfl⟩; rw [h])
          | (go_at_call 18; refine (hO.out _ hc).mono ?_; rintro e w' ⟨rfl, rfl⟩))
        go_ret2
        exact ⟨by rw [hf.out]; rfl, rfl⟩
theorem sameMonth_c (a b : Int) (w : World) (ha : inD a = true) (hb : inD b = true) (he : Hid (Env w)) :
    Calls Tryd.prog 37 #[.int .i64 a, .int .i64 b] w fun e w' => e = .returned (.bool (sameM a b)) ∧ Ext w w' := by
  obtain ⟨a1, a2⟩ := (inD_iff a).1 ha
  obtain ⟨b1, b2⟩ := (inD_iff b).1 hb
  have hA : Hid (∀ w : World, Hid (Env w) → Calls Tryd.prog 41 #[.int .i64 a] w fun e w' => e = .returned (.tuple #[.agg #[.int .i64 (yOf a), .int .i64 (mOf a), .int .i64 (dOf a)], .int .i64 0]) ∧ Ext w w') := fun w he => Date_f a w a1 a2 he
  have hB : Hid (∀ w : World, Hid (Env w) → Calls Tryd.prog 41 #[.int .i64 b] w fun e w' => e = .returned (.tuple #[.agg #[.int .i64 (yOf b), .int .i64 (mOf b), .int .i64 (dOf b)], .int .i64 0]) ∧ Ext w w') := fun w he => Date_f b w b1 b2 he
  clear a1 a2 b1 b2 ha hb
  have hS : Hid (sameM a b = (decide (yOf a = yOf b) && decide (mOf a = mOf b))) := rfl
  generalize sameM a b = S at *
  generalize yOf a = ya at *
  generalize mOf a = ma at *
  generalize dOf a = da at *
  generalize yOf b = yb at *
  generalize mOf b = mb at *
  generalize dOf b = db at *
  go_enter Tryd.func37, Tryd.ntmps37
  go_wp2_with fail
  refine (hA.out _ he).mono ?_
  rintro e w1 ⟨rfl, hx1⟩
  replace he : Hid (Env w1) := he.out.ext hx1
  have hx := show Hid (Ext w w1) from hx1
  clear hx1
  go_wp2_with fail
  obtain ⟨W2, r2, hW, hr, hx2, c0, c1, c2⟩ := box3 w1 (.int .i64 ya) (.int .i64 ma) (.int .i64 da) 40
  rw [hW, hr]
  clear hW hr
  replace he : Hid (Env W2) := he.out.ext hx2
  replace hx : Hid (Ext w W2) := hx.out.trans hx2
  clear hx2
  refine (hB.out _ he).mono ?_
  rintro e w3 ⟨rfl, hx1⟩
  replace he : Hid (Env w3) := he.out.ext hx1
  replace c0 := hx1.cell_of c0
  replace c1 := hx1.cell_of c1
  replace c2 := hx1.cell_of c2
  replace hx : Hid (Ext w w3) := hx.out.trans hx1
  clear hx1 hA hB
  have k0 : ∀ cs t, (w3.alloc (.cells cs t)).cell? ⟨r2, 0, none⟩ = some (.int .i64 ya) := fun cs t => ((Ext.refl w3).alloc cs t).cell_of c0
  have k1 : ∀ cs t, (w3.alloc (.cells cs t)).cell? ⟨r2, 1, none⟩ = some (.int .i64 ma) := fun cs t => ((Ext.refl w3).alloc cs t).cell_of c1
  clear c0 c1 c2
  by_cases hy : ya = yb
  · have hd : decide (ya = yb) = true := decide_eq_true hy
    have hb : (ya == yb) = true := by simpa using hy
    have hSS : Hid (S = decide (ma = mb)) := by show _ = _; rw [hS.out, hd]; rfl
    clear hS
    go_wp2
    go_ret
    exact ⟨ret_bool (by rw [hSS.out]; by_cases h : ma = mb <;> simp [h]), hx.out.alloc _ _⟩
  · have hd : decide (ya = yb) = false := decide_eq_false hy
    have hb : (ya == yb) = false := by simpa using hy
    have hSS : Hid (S = false) := by show _ = _; rw [hS.out, hd]; rfl
    clear hS
    go_wp2
    go_ret
    exact ⟨ret_bool (by rw [hSS.out]), hx.out.alloc _ _⟩
theorem sk_in {l : List Int} {n : Int} (hn : inD n = true) (h : (sk l 1 n).2 = true) : inD (sk l 1 n).1 = true := by
  have := (inD_iff n).1 hn
  rcases sk_up l _ n rfl (by omega) with ⟨_, a, _⟩ | ⟨a, _⟩
  · exact opn_in a
  · rw [a] at h; cases h
theorem roll_c (p : Nat) (l : List Int) (n how : Int) (w : World) (hn : inD n = true) (h1 : 2 ≤ how) (h2 : how ≤ 4) (hc : Hid (Cld w p l)) (he : Hid (Env w)) :
    Calls Tryd.prog 25 #[.int .i64 n, .int .i64 how, .func (.func 18) #[.pointer (some ⟨p, 0, none⟩)] #[]] w
      fun e w' => e = .returned (.tuple #[.int .i64 (rolP l n how).1, .bool (rolP l n how).2]) ∧ Ext w w' := by
  have hU : Hid (∀ w : World, Hid (Cld w p l) → Calls Tryd.prog 36 #[.int .i64 n, .int .i64 1, .func (.func 18) #[.pointer (some ⟨p, 0, none⟩)] #[]] w
      fun e w' => e = .returned (.tuple #[.int .i64 (sk l 1 n).1, .bool (sk l 1 n).2]) ∧ w' = w) := fun w hc => seek_c p l n 1 w (Or.inl rfl) hc
  have hD : Hid (∀ w : World, Hid (Cld w p l) → Calls Tryd.prog 36 #[.int .i64 n, .int .i64 (-1), .func (.func 18) #[.pointer (some ⟨p, 0, none⟩)] #[]] w
      fun e w' => e = .returned (.tuple #[.int .i64 (sk l (-1) n).1, .bool (sk l (-1) n).2]) ∧ w' = w) := fun w hc => seek_c p l n (-1) w (Or.inr rfl) hc
  obtain rfl | rfl | rfl : how = 2 ∨ how = 3 ∨ how = 4 := by omega
  · rw [show rolP l n 2 = sk l 1 n by unfold rolP; simp]
    generalize sk l 1 n = X at *
    obtain ⟨X, F⟩ := X
    dsimp only at hU ⊢
    clear hD h1 h2
    go_enter Tryd.func25, Tryd.ntmps25
    go_wp2_with (go_at_call 36; refine (hU.out _ hc).mono ?_; rintro e w' ⟨rfl, rfl⟩)
    go_ret2
    exact ⟨rfl, Ext.refl _⟩
  · cases hF : (sk l 1 n).2
    · rw [show rolP l n 3 = sk l (-1) n by unfold rolP; rw [hF]; simp]
      rw [hF] at hU
      generalize (sk l 1 n).1 = X at *
      generalize sk l (-1) n = Y at *
      obtain ⟨Y, G⟩ := Y
      dsimp only at hD ⊢
      clear hF h1 h2
      go_enter Tryd.func25, Tryd.ntmps25
      go_wp2_with fail
      refine (hU.out _ hc).mono ?_
      rintro e w' ⟨rfl, rfl⟩
      go_wp2_with fail
      refine (hD.out _ hc).mono ?_
      rintro e w'' ⟨rfl, rfl⟩
      go_wp2
      go_ret2
      exact ⟨rfl, Ext.refl _⟩
    · have hM : Hid (∀ w : World, Hid (Env w) → Calls Tryd.prog 37 #[.int .i64 n, .int .i64 (sk l 1 n).1] w fun e w' => e = .returned (.bool (sameM n (sk l 1 n).1)) ∧ Ext w w') := fun w he => sameMonth_c n (sk l 1 n).1 w hn (sk_in hn hF) he
      cases hS : sameM n (sk l 1 n).1
      · rw [show rolP l n 3 = sk l (-1) n by unfold rolP; rw [hF, hS]; simp]
        rw [hF] at hU
        rw [hS] at hM
        generalize (sk l 1 n).1 = X at *
        generalize sk l (-1) n = Y at *
        obtain ⟨Y, G⟩ := Y
        dsimp only at hD ⊢
        clear hF h1 h2
        go_enter Tryd.func25, Tryd.ntmps25
        go_wp2_with fail
        refine (hU.out _ hc).mono ?_
        rintro e w' ⟨rfl, rfl⟩
        go_wp2_with fail
        refine (hM.out _ he).mono ?_
        rintro e w1 ⟨rfl, hx1⟩
        replace hc := show Hid _ from hc.out.ext hx1
        replace hx1 := show Hid _ from hx1
        go_wp2_with fail
        refine (hD.out _ hc).mono ?_
        rintro e w2 ⟨rfl, rfl⟩
        go_wp2
        go_ret2
        exact ⟨rfl, hx1.out⟩
      · rw [show rolP l n 3 = sk l 1 n by unfold rolP; rw [hF, hS]; simp]
        rw [show (sk l 1 n).2 = true from hF]
        rw [hF] at hU
        rw [hS] at hM
        generalize (sk l 1 n).1 = X at *
        clear hF h1 h2 hD
        go_enter Tryd.func25, Tryd.ntmps25
        go_wp2_with fail
        refine (hU.out _ hc).mono ?_
        rintro e w' ⟨rfl, rfl⟩
        go_wp2_with fail
        refine (hM.out _ he).mono ?_
        rintro e w1 ⟨rfl, hx1⟩
        replace hx1 := show Hid _ from hx1
        go_wp2
        go_ret2
        exact ⟨rfl, hx1.out⟩
  · rw [show rolP l n 4 = sk l (-1) n by unfold rolP; simp]
    generalize sk l (-1) n = X at *
    obtain ⟨X, F⟩ := X
    dsimp only at hD ⊢
    clear hU h1 h2
    go_enter Tryd.func25, Tryd.ntmps25
    go_wp2_with (go_at_call 36; refine (hD.out _ hc).mono ?_; rintro e w' ⟨rfl, rfl⟩)
    go_ret2
    exact ⟨rfl, Ext.refl _⟩
theorem ret_ii {a b c d : Int} (h : a = b) (k : c = d) : Ending.returned (.tuple #[.int .i64 a, .int .i64 c]) = .returned (.tuple #[.int .i64 b, .int .i64 d]) := by rw [h, k]
theorem Roll_c (p : Nat) (l : List Int) (n how : Int) (w : World) (hc : Hid (Cld w p l)) (he : Hid (Env w)) :
    Calls Tryd.prog 14 #[.pointer (some ⟨p, 0, none⟩), .int .i64 n, .int .i64 how] w
      fun e w' => e = .returned (.tuple #[.int .i64 (rlA l n how), .int .i64 (rlE l n how)]) ∧ Ext w w' := by
  cases hn : inD n
  · rw [show rlA l n how = 0 by unfold rlA; rw [hn]; simp, show rlE l n how = 5 by unfold rlE; rw [hn]; simp]
    go_enter Tryd.func14, Tryd.ntmps14
    go_wp2_with (go_at_call 24; refine (bknown_c _ _).mono ?_; rintro e w' ⟨rfl, rfl⟩; rw [hn])
    go_ret2
    exact ⟨rfl, Ext.refl _⟩
  · by_cases h1 : how < 1
    · rw [show rlA l n how = 0 by unfold rlA; rw [if_neg (by omega)], show rlE l n how = 1 by unfold rlE; rw [hn, if_pos rfl, if_neg (by omega)]]
      go_enter Tryd.func14, Tryd.ntmps14
      go_wp2_with (go_at_call 24; refine (bknown_c _ _).mono ?_; rintro e w' ⟨rfl, rfl⟩; rw [hn])
      go_ret2
      exact ⟨rfl, Ext.refl _⟩
    · by_cases h4 : 4 < how
      · rw [show rlA l n how = 0 by unfold rlA; rw [if_neg (by omega)], show rlE l n how = 1 by unfold rlE; rw [hn, if_pos rfl, if_neg (by omega)]]
        go_enter Tryd.func14, Tryd.ntmps14
        go_wp2_with (go_at_call 24; refine (bknown_c _ _).mono ?_; rintro e w' ⟨rfl, rfl⟩; rw [hn])
        go_ret2
        exact ⟨rfl, Ext.refl _⟩
      · by_cases he1 : how = 1
        · subst he1
          rw [show rlA l n 1 = n by unfold rlA; rw [hn]; simp, show rlE l n 1 = 0 by unfold rlE; rw [hn]; simp]
          go_enter Tryd.func14, Tryd.ntmps14
          go_wp2_with (go_at_call 24; refine (bknown_c _ _).mono ?_; rintro e w' ⟨rfl, rfl⟩; rw [hn])
          go_ret2
          exact ⟨rfl, Ext.refl _⟩
        · have hR : Hid (∀ w : World, Hid (Cld w p l) → Hid (Env w) → Calls Tryd.prog 25 #[.int .i64 n, .int .i64 how, .func (.func 18) #[.pointer (some ⟨p, 0, none⟩)] #[]] w
              fun e w' => e = .returned (.tuple #[.int .i64 (rolP l n how).1, .bool (rolP l n how).2]) ∧ Ext w w') := fun w hc he => roll_c p l n how w hn (by omega) (by omega) hc he
          have hb : (how == 1) = false := by simpa using he1
          cases hF : (rolP l n how).2
          · rw [show rlA l n how = 0 by unfold rlA; rw [if_pos ⟨hn, by omega, by omega⟩, if_neg he1, hF]; simp, show rlE l n how = 5 by unfold rlE; rw [if_pos hn, if_pos ⟨by omega, by omega⟩, if_neg he1, hF]; simp]
            rw [hF] at hR
            generalize (rolP l n how).1 = X at *
            clear hF
            go_enter Tryd.func14, Tryd.ntmps14
            go_wp2_with (go_at_call 24; refine (bknown_c _ _).mono ?_; rintro e w' ⟨rfl, rfl⟩; rw [hn])
            refine (hR.out _ hc he).mono ?_
            rintro e w1 ⟨rfl, hx1⟩
            replace hx1 := show Hid _ from hx1
            go_wp2
            go_ret2
            exact ⟨rfl, hx1.out⟩
          · rw [show rlA l n how = (rolP l n how).1 by unfold rlA; rw [if_pos ⟨hn, by omega, by omega⟩, if_neg he1, hF]; simp, show rlE l n how = 0 by unfold rlE; rw [if_pos hn, if_pos ⟨by omega, by omega⟩, if_neg he1, hF]; simp]
            rw [hF] at hR
            generalize (rolP l n how).1 = X at *
            clear hF
            go_enter Tryd.func14, Tryd.ntmps14
            go_wp2_with (go_at_call 24; refine (bknown_c _ _).mono ?_; rintro e w' ⟨rfl, rfl⟩; rw [hn])
            refine (hR.out _ hc he).mono ?_
            rintro e w1 ⟨rfl, hx1⟩
            replace hx1 := show Hid _ from hx1
            go_wp2
            go_ret2
            exact ⟨rfl, hx1.out⟩
theorem count_c (p : Nat) (l : List Int) (a b : Int) (w : World) (ha : inD a = true) (hb : inD b = true) (hab : a ≤ b) (hc : Hid (Cld w p l)) :
    Calls Tryd.prog 27 #[.int .i64 a, .int .i64 b, .func (.func 18) #[.pointer (some ⟨p, 0, none⟩)] #[]] w
      fun e w' => e = .returned (.int .i64 (cnt l a (b - a + 1).toNat)) ∧ w' = w := by
  obtain ⟨a1, a2⟩ := (inD_iff a).1 ha
  obtain ⟨b1, b2⟩ := (inD_iff b).1 hb
  clear ha hb
  go_enter Tryd.func27, Tryd.ntmps27
  go_wp2_with fail
  go_loop [7, 8] (fun u i => ∃ (k : Nat) (C : Int), a + k ≤ b + 1 ∧ i = .int .i64 (a + k) ∧ u = .int .i64 C ∧ 0 ≤ C ∧ C ≤ k ∧ Hid (cnt l a k = C)) (fun _ i => (b + 1 - RowKit.intOf i).toNat)
  case atStart => exact ⟨0, 0, by omega, by simp, rfl, by omega, by omega, rfl⟩
  case round =>
    obtain ⟨k, C, hk, rfl, rfl, c1, c2, hC⟩ := hrel
    by_cases hlt : a + k ≤ b
    · have hO : Hid (∀ w : World, Hid (Cld w p l) → Calls Tryd.prog 18 #[.pointer (some ⟨p, 0, none⟩), .int .i64 (a + k)] w fun e w' => e = .returned (.bool (opn l (a + k))) ∧ w' = w) := fun w hc => Open_c p l (a + k) w (by unfold I64; omega) hc
      cases ho : opn l (a + k)
      · have hf : Hid (cnt l a (k + 1) = C) := by show _ = _; rw [cnt_not ho, hC.out]
        rw [ho] at hO
        clear hC ho
        go_wp2_with (go_at_call 18; refine (hO.out _ hc).mono ?_; rintro e w' ⟨rfl, rfl⟩)
        go_round
        case rel => exact ⟨k + 1, C, by omega, by go_num, rfl, c1, by omega, hf⟩
        case measure => simp [RowKit.intOf]; omega
      · have hf : Hid (cnt l a (k + 1) = C + 1) := by show _ = _; rw [cnt_yes ho, hC.out]
        rw [ho] at hO
        clear hC ho
        go_wp2_with (go_at_call 18; refine (hO.out _ hc).mono ?_; rintro e w' ⟨rfl, rfl⟩)
        go_round
        case rel => exact ⟨k + 1, C + 1, by omega, by go_num, by go_num, by omega, by omega, hf⟩
        case measure => simp [RowKit.intOf]; omega
    · have hf : Hid (cnt l a (b - a + 1).toNat = C) := by show _ = _; rw [← hC.out, show (b - a + 1).toNat = k by omega]
      clear hC
      go_wp2
      go_ret
      exact ⟨ret_int hf.out.symm, rfl⟩
theorem Count_c (p : Nat) (l : List Int) (a b : Int) (w : World) (hc : Hid (Cld w p l)) :
    Calls Tryd.prog 16 #[.pointer (some ⟨p, 0, none⟩), .int .i64 a, .int .i64 b] w
      fun e w' => e = .returned (.tuple #[.int .i64 (ctA l a b), .int .i64 (ctE a b)]) ∧ w' = w := by
  cases ha : inD a
  · rw [show ctA l a b = 0 by unfold ctA; rw [ha]; simp, show ctE a b = 5 by unfold ctE; rw [ha]; simp]
    go_enter Tryd.func16, Tryd.ntmps16
    go_wp2_with (go_at_call 24; refine (bknown_c _ _).mono ?_; rintro e w' ⟨rfl, rfl⟩; rw [ha])
    go_ret2
    exact ⟨rfl, rfl⟩
  · cases hb : inD b
    · rw [show ctA l a b = 0 by unfold ctA; rw [hb]; simp, show ctE a b = 5 by unfold ctE; rw [hb]; simp]
      go_enter Tryd.func16, Tryd.ntmps16
      go_wp2_with (go_at_call 24; refine (bknown_c _ _).mono ?_; rintro e w' ⟨rfl, rfl⟩; first | rw [ha] | rw [hb])
      go_ret2
      exact ⟨rfl, rfl⟩
    · by_cases hab : b < a
      · rw [show ctA l a b = 0 by unfold ctA; rw [if_neg (by omega)], show ctE a b = 5 by unfold ctE; rw [if_neg (by omega)]]
        go_enter Tryd.func16, Tryd.ntmps16
        go_wp2_with (go_at_call 24; refine (bknown_c _ _).mono ?_; rintro e w' ⟨rfl, rfl⟩; first | rw [ha] | rw [hb])
        go_ret2
        exact ⟨rfl, rfl⟩
      · have hC : Hid (∀ w : World, Hid (Cld w p l) → Calls Tryd.prog 27 #[.int .i64 a, .int .i64 b, .func (.func 18) #[.pointer (some ⟨p, 0, none⟩)] #[]] w fun e w' => e = .returned (.int .i64 (ctA l a b)) ∧ w' = w) := fun w hc => by
          have := count_c p l a b w ha hb (by omega) hc
          rwa [show cnt l a (b - a + 1).toNat = ctA l a b by unfold ctA; rw [if_pos ⟨ha, hb, by omega⟩]] at this
        rw [show ctE a b = 0 by unfold ctE; rw [if_pos ⟨ha, hb, by omega⟩]]
        generalize ctA l a b = X at *
        go_enter Tryd.func16, Tryd.ntmps16
        go_wp2_with (first
          | (go_at_call 24; refine (bknown_c _ _).mono ?_; rintro e w' ⟨rfl, rfl⟩; first | rw [ha] | rw [hb])
          | (go_at_call 27; refine (hC.out _ hc).mono ?_; rintro e w' ⟨rfl, rfl⟩))
        go_ret2
        exact ⟨rfl, rfl⟩
theorem Roll_nil (n how : Int) (w : World) :
    Calls Tryd.prog 14 #[.pointer none, .int .i64 n, .int .i64 how] w fun e w' => e = .returned (.tuple #[.int .i64 0, .int .i64 2]) ∧ w' = w := by
  go_enter Tryd.func14, Tryd.ntmps14
  go_wp2
  go_ret2
  exact ⟨rfl, rfl⟩
theorem Count_nil (a b : Int) (w : World) :
    Calls Tryd.prog 16 #[.pointer none, .int .i64 a, .int .i64 b] w fun e w' => e = .returned (.tuple #[.int .i64 0, .int .i64 2]) ∧ w' = w := by
  go_enter Tryd.func16, Tryd.ntmps16
  go_wp2
  go_ret2
  exact ⟨rfl, rfl⟩
theorem Open_nil (n : Int) (w : World) :
    Calls Tryd.prog 18 #[.pointer none, .int .i64 n] w fun e w' => e = .returned (.bool false) ∧ w' = w := by
  go_enter Tryd.func18, Tryd.ntmps18
  go_wp2
  go_ret
  exact ⟨rfl, rfl⟩
end Go.Proofs.YtkkpnhcodaijeaaDoor
