/- The small functions of texts of package civil, and the document's own Digits, as contracts: no statement of the seat is proved here. -/
import Derived.Test.YtbdninnopfdnbaaDoorCiv5
import Derived.Lib.AtoiErrMem
import Derived.Lib.TrimByte
import Derived.Laws.IdiomStrings
namespace Go.Proofs.YtbdninnopfdnbaaDoor
open Go.RowKit Go.Lib
set_option linter.unusedVariables false

@[go_sem] theorem app_mk (a b : List UInt8) : (⟨a.toArray⟩ : ByteArray) ++ (⟨b.toArray⟩ : ByteArray) = ⟨(a ++ b).toArray⟩ := by
  apply ByteArray.ext
  simp
theorem digit_t (c : UInt8) (w : World) (h : isD c = true) :
    Calls Tryd.prog 41 #[.int .u8 (c.toNat : Int)] w fun e w' => e = .returned (.bool true) ∧ w' = w := by
  obtain ⟨h1, h2⟩ := isD_range h
  have k1 : (48 : Int) ≤ (c.toNat : Int) := by omega
  have k2 : (c.toNat : Int) ≤ 57 := by omega
  clear h h1 h2
  generalize (c.toNat : Int) = x at *
  go_enter Tryd.func41, Tryd.ntmps41
  go_wp2
  go_ret
  exact ⟨rfl, rfl⟩
theorem digit_f (c : UInt8) (w : World) (h : isD c = false) :
    Calls Tryd.prog 41 #[.int .u8 (c.toNat : Int)] w fun e w' => e = .returned (.bool false) ∧ w' = w := by
  by_cases k1 : (48 : Int) ≤ (c.toNat : Int)
  · have k2 : ¬ (c.toNat : Int) ≤ 57 := fun k2 => by
      have : isD c = true := by unfold isD; simp; omega
      rw [this] at h; cases h
    clear h
    generalize (c.toNat : Int) = x at *
    go_enter Tryd.func41, Tryd.ntmps41
    go_wp2
    go_ret
    exact ⟨rfl, rfl⟩
  · clear h
    generalize (c.toNat : Int) = x at *
    go_enter Tryd.func41, Tryd.ntmps41
    go_wp2
    go_ret
    exact ⟨rfl, rfl⟩
theorem number_c (l : List UInt8) (w : World) (hne : l ≠ []) (h : l.all isD = true) (hl : l.length ≤ 18) :
    Calls Tryd.prog 37 #[.string ⟨l.toArray⟩] w fun e w' => e = .returned (.int .i64 (valL l : Nat)) ∧ Ext w w' := by
  have ha := show Hid _ from atoi_digits l hne h
  go_enter Tryd.func37, Tryd.ntmps37
  go_wp2_with fail
  refine (Tryd.strconv_Atoi ⟨l.toArray⟩ _ (by rw [Lib.size_mk]; exact hl) ha.out _).mono ?_
  rintro e w1 ⟨rfl, t, rfl⟩
  have hx : Hid (Ext w (Lib.bytesWorld w 5 t)) := ⟨Lib.bytesWorld_below w 5 t⟩
  generalize Lib.bytesWorld w 5 t = w1 at *
  go_wp2
  go_ret
  exact ⟨rfl, hx.out⟩
theorem twoDigits_c (n : Nat) (w : World) (h : n < 100) :
    Calls Tryd.prog 34 #[.int .i64 (n : Int)] w fun e w' => e = .returned (.string ⟨(fix 2 n).toArray⟩) ∧ w' = w := by
  by_cases h1 : n < 10
  · have e := dec_one n h1
    rw [← e]
    clear e
    have hl : (decDigits n).length = 1 := by rw [decDigits_small h1]; rfl
    have hn : (n : Int) < 10 := by omega
    have hi := show Hid _ from fun w => Tryd.strconv_Itoa_small n h w
    generalize decDigits n = l at *
    go_enter Tryd.func34, Tryd.ntmps34
    go_wp2_with (go_at_call 33; refine (hi.out _).mono ?_; rintro e w' ⟨rfl, rfl⟩)
    go_ret
    exact ⟨rfl, rfl⟩
  · rw [← dec_two n h1 h]
    have hn : ¬ (n : Int) < 10 := by omega
    have hi := show Hid _ from fun w => Tryd.strconv_Itoa_small n h w
    generalize decDigits n = l at *
    go_enter Tryd.func34, Tryd.ntmps34
    go_wp2_with (go_at_call 33; refine (hi.out _).mono ?_; rintro e w' ⟨rfl, rfl⟩)
    go_ret
    exact ⟨rfl, rfl⟩
theorem itoaYear_c (n : Nat) (w : World) (h1 : 1000 ≤ n) (h2 : n < 10000) (he : Hid (Env w)) :
    Calls Tryd.prog 33 #[.int .i64 (n : Int)] w fun e w' => e = .returned (.string ⟨(fix 4 n).toArray⟩) ∧ Ext w w' := by
  refine (Tryd.strconv_Itoa n (by omega) (by omega) w he.out.pow).mono ?_
  rintro e w' ⟨rfl, k, os, rfl⟩
  refine ⟨?_, ((Ext.refl w).drewN k).grow os⟩
  have : Lib.itoa (n : Int) = fix 4 n := by
    unfold Lib.itoa
    rw [if_neg (by omega), Int.toNat_natCast, dec_four n h1 h2]
  rw [this]

theorem formed_no (l : List UInt8) (w : World) (h : l.length ≠ 10) (hl : l.length ≤ 1000000) :
    Calls Tryd.prog 36 #[.string ⟨l.toArray⟩] w fun e w' => e = .returned (.bool false) ∧ w' = w := by
  have k : ¬ (l.length : Int) = 10 := by omega
  go_enter Tryd.func36, Tryd.ntmps36
  go_wp2
  go_ret
  exact ⟨rfl, rfl⟩
set_option maxHeartbeats 4000000 in
theorem formed_c (c0 c1 c2 c3 c4 c5 c6 c7 c8 c9 : UInt8) (w : World) :
    Calls Tryd.prog 36 #[.string ⟨#[c0, c1, c2, c3, c4, c5, c6, c7, c8, c9]⟩] w fun e w' => e = .returned (.bool (formL [c0, c1, c2, c3, c4, c5, c6, c7, c8, c9])) ∧ w' = w := by
  have hfi := show Hid _ from form_iff c0 c1 c2 c3 c4 c5 c6 c7 c8 c9
  generalize formL [c0, c1, c2, c3, c4, c5, c6, c7, c8, c9] = B at *
  go_enter Tryd.func36, Tryd.ntmps36
  go_wp2
  go_loop [7] (fun t => ∃ k : Nat, k ≤ 10 ∧ t = .int .i64 (k : Int) ∧ Hid (∀ j, j < k → okAt [c0, c1, c2, c3, c4, c5, c6, c7, c8, c9] j = true)) (fun t => (10 - RowKit.intOf t).toNat)
  case atStart => exact ⟨0, by omega, rfl, fun j hj => absurd hj (Nat.not_lt_zero j)⟩
  case round =>
    obtain ⟨k, hk, rfl, hall⟩ := hrel
    have hkc : k = 0 ∨ k = 1 ∨ k = 2 ∨ k = 3 ∨ k = 4 ∨ k = 5 ∨ k = 6 ∨ k = 7 ∨ k = 8 ∨ k = 9 ∨ k = 10 := by omega
    rcases hkc with rfl | rfl | rfl | rfl | rfl | rfl | rfl | rfl | rfl | rfl | rfl
    · cases hc : isD c0
      · go_wp2_with (go_at_call 41; refine (digit_f _ _ hc).mono ?_; rintro e w' ⟨rfl, rfl⟩)
        go_ret
        refine ⟨ret_bool ?_, rfl⟩
        cases B
        · rfl
        · exact absurd (hfi.out.1 rfl).d0 (by rw [hc]; decide)
      · go_wp2_with (go_at_call 41; refine (digit_t _ _ hc).mono ?_; rintro e w' ⟨rfl, rfl⟩)
        go_round
        case rel => exact ⟨1, by omega, by go_num, fun j hj => by
          by_cases e : j = 0
          · subst e
            show (if (0 : Nat) = 4 ∨ (0 : Nat) = 7 then c0 == 45 else isD c0) = true
            simp [hc]
          · exact hall.out j (by omega)⟩
        case measure => simp [RowKit.intOf]
    · cases hc : isD c1
      · go_wp2_with (go_at_call 41; refine (digit_f _ _ hc).mono ?_; rintro e w' ⟨rfl, rfl⟩)
        go_ret
        refine ⟨ret_bool ?_, rfl⟩
        cases B
        · rfl
        · exact absurd (hfi.out.1 rfl).d1 (by rw [hc]; decide)
      · go_wp2_with (go_at_call 41; refine (digit_t _ _ hc).mono ?_; rintro e w' ⟨rfl, rfl⟩)
        go_round
        case rel => exact ⟨2, by omega, by go_num, fun j hj => by
          by_cases e : j = 1
          · subst e
            show (if (1 : Nat) = 4 ∨ (1 : Nat) = 7 then c1 == 45 else isD c1) = true
            simp [hc]
          · exact hall.out j (by omega)⟩
        case measure => simp [RowKit.intOf]
    · cases hc : isD c2
      · go_wp2_with (go_at_call 41; refine (digit_f _ _ hc).mono ?_; rintro e w' ⟨rfl, rfl⟩)
        go_ret
        refine ⟨ret_bool ?_, rfl⟩
        cases B
        · rfl
        · exact absurd (hfi.out.1 rfl).d2 (by rw [hc]; decide)
      · go_wp2_with (go_at_call 41; refine (digit_t _ _ hc).mono ?_; rintro e w' ⟨rfl, rfl⟩)
        go_round
        case rel => exact ⟨3, by omega, by go_num, fun j hj => by
          by_cases e : j = 2
          · subst e
            show (if (2 : Nat) = 4 ∨ (2 : Nat) = 7 then c2 == 45 else isD c2) = true
            simp [hc]
          · exact hall.out j (by omega)⟩
        case measure => simp [RowKit.intOf]
    · cases hc : isD c3
      · go_wp2_with (go_at_call 41; refine (digit_f _ _ hc).mono ?_; rintro e w' ⟨rfl, rfl⟩)
        go_ret
        refine ⟨ret_bool ?_, rfl⟩
        cases B
        · rfl
        · exact absurd (hfi.out.1 rfl).d3 (by rw [hc]; decide)
      · go_wp2_with (go_at_call 41; refine (digit_t _ _ hc).mono ?_; rintro e w' ⟨rfl, rfl⟩)
        go_round
        case rel => exact ⟨4, by omega, by go_num, fun j hj => by
          by_cases e : j = 3
          · subst e
            show (if (3 : Nat) = 4 ∨ (3 : Nat) = 7 then c3 == 45 else isD c3) = true
            simp [hc]
          · exact hall.out j (by omega)⟩
        case measure => simp [RowKit.intOf]
    · by_cases hc : (c4.toNat : Int) = 45
      · go_wp2
        go_round
        case rel => exact ⟨5, by omega, by go_num, fun j hj => by
          by_cases e : j = 4
          · subst e
            show (if (4 : Nat) = 4 ∨ (4 : Nat) = 7 then c4 == 45 else isD c4) = true
            have : c4 = 45 := by apply UInt8.toNat_inj.mp; exact Int.ofNat_inj.mp hc
            simp [this]
          · exact hall.out j (by omega)⟩
        case measure => simp [RowKit.intOf]
      · go_wp2
        go_ret
        refine ⟨ret_bool ?_, rfl⟩
        cases B
        · rfl
        · exact absurd (by rw [(hfi.out.1 rfl).h4]; rfl) hc
    · cases hc : isD c5
      · go_wp2_with (go_at_call 41; refine (digit_f _ _ hc).mono ?_; rintro e w' ⟨rfl, rfl⟩)
        go_ret
        refine ⟨ret_bool ?_, rfl⟩
        cases B
        · rfl
        · exact absurd (hfi.out.1 rfl).d5 (by rw [hc]; decide)
      · go_wp2_with (go_at_call 41; refine (digit_t _ _ hc).mono ?_; rintro e w' ⟨rfl, rfl⟩)
        go_round
        case rel => exact ⟨6, by omega, by go_num, fun j hj => by
          by_cases e : j = 5
          · subst e
            show (if (5 : Nat) = 4 ∨ (5 : Nat) = 7 then c5 == 45 else isD c5) = true
            simp [hc]
          · exact hall.out j (by omega)⟩
        case measure => simp [RowKit.intOf]
    · cases hc : isD c6
      · go_wp2_with (go_at_call 41; refine (digit_f _ _ hc).mono ?_; rintro e w' ⟨rfl, rfl⟩)
        go_ret
        refine ⟨ret_bool ?_, rfl⟩
        cases B
        · rfl
        · exact absurd (hfi.out.1 rfl).d6 (by rw [hc]; decide)
      · go_wp2_with (go_at_call 41; refine (digit_t _ _ hc).mono ?_; rintro e w' ⟨rfl, rfl⟩)
        go_round
        case rel => exact ⟨7, by omega, by go_num, fun j hj => by
          by_cases e : j = 6
          · subst e
            show (if (6 : Nat) = 4 ∨ (6 : Nat) = 7 then c6 == 45 else isD c6) = true
            simp [hc]
          · exact hall.out j (by omega)⟩
        case measure => simp [RowKit.intOf]
    · by_cases hc : (c7.toNat : Int) = 45
      · go_wp2
        go_round
        case rel => exact ⟨8, by omega, by go_num, fun j hj => by
          by_cases e : j = 7
          · subst e
            show (if (7 : Nat) = 4 ∨ (7 : Nat) = 7 then c7 == 45 else isD c7) = true
            have : c7 = 45 := by apply UInt8.toNat_inj.mp; exact Int.ofNat_inj.mp hc
            simp [this]
          · exact hall.out j (by omega)⟩
        case measure => simp [RowKit.intOf]
      · go_wp2
        go_ret
        refine ⟨ret_bool ?_, rfl⟩
        cases B
        · rfl
        · exact absurd (by rw [(hfi.out.1 rfl).h7]; rfl) hc
    · cases hc : isD c8
      · go_wp2_with (go_at_call 41; refine (digit_f _ _ hc).mono ?_; rintro e w' ⟨rfl, rfl⟩)
        go_ret
        refine ⟨ret_bool ?_, rfl⟩
        cases B
        · rfl
        · exact absurd (hfi.out.1 rfl).d8 (by rw [hc]; decide)
      · go_wp2_with (go_at_call 41; refine (digit_t _ _ hc).mono ?_; rintro e w' ⟨rfl, rfl⟩)
        go_round
        case rel => exact ⟨9, by omega, by go_num, fun j hj => by
          by_cases e : j = 8
          · subst e
            show (if (8 : Nat) = 4 ∨ (8 : Nat) = 7 then c8 == 45 else isD c8) = true
            simp [hc]
          · exact hall.out j (by omega)⟩
        case measure => simp [RowKit.intOf]
    · cases hc : isD c9
      · go_wp2_with (go_at_call 41; refine (digit_f _ _ hc).mono ?_; rintro e w' ⟨rfl, rfl⟩)
        go_ret
        refine ⟨ret_bool ?_, rfl⟩
        cases B
        · rfl
        · exact absurd (hfi.out.1 rfl).d9 (by rw [hc]; decide)
      · go_wp2_with (go_at_call 41; refine (digit_t _ _ hc).mono ?_; rintro e w' ⟨rfl, rfl⟩)
        go_round
        case rel => exact ⟨10, by omega, by go_num, fun j hj => by
          by_cases e : j = 9
          · subst e
            show (if (9 : Nat) = 4 ∨ (9 : Nat) = 7 then c9 == 45 else isD c9) = true
            simp [hc]
          · exact hall.out j (by omega)⟩
        case measure => simp [RowKit.intOf]
    · go_wp2
      go_ret
      refine ⟨ret_bool ?_, rfl⟩
      have h := hall.out
      refine Eq.symm (hfi.out.2 ⟨?_, ?_, ?_, ?_, ?_, ?_, ?_, ?_, ?_, ?_⟩)
      · have := h 0 (by omega); simpa [okAt] using this
      · have := h 1 (by omega); simpa [okAt] using this
      · have := h 2 (by omega); simpa [okAt] using this
      · have := h 3 (by omega); simpa [okAt] using this
      · have := h 4 (by omega); simpa [okAt] using this
      · have := h 5 (by omega); simpa [okAt] using this
      · have := h 6 (by omega); simpa [okAt] using this
      · have := h 7 (by omega); simpa [okAt] using this
      · have := h 8 (by omega); simpa [okAt] using this
      · have := h 9 (by omega); simpa [okAt] using this
end Go.Proofs.YtbdninnopfdnbaaDoor
