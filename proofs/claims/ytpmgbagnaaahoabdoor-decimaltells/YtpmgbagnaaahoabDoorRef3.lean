/- The document's own TakeMoney of layer 2, as a contract: no statement of the seat is proved here. -/
import Derived.Test.YtpmgbagnaaahoabDoorRef2
namespace Go.Proofs.YtpmgbagnaaahoabDoor
open Go.RowKit Go.Lib
set_option linter.unusedVariables false

theorem rdigit_c (c : UInt8) (w : World) :
    Calls Tryd.prog 26 #[.int .u8 (c.toNat : Int)] w fun e w' => e = .returned (.bool (isD c)) ∧ w' = w := by
  unfold isD
  by_cases h1 : 48 ≤ c.toNat
  · have h1I : (48 : Int) ≤ (c.toNat : Int) := by omega
    by_cases h2 : c.toNat ≤ 57
    · have h2I : (c.toNat : Int) ≤ 57 := by omega
      rw [decide_eq_true h1, decide_eq_true h2]
      go_enter Tryd.func26, Tryd.ntmps26
      go_wp2
      go_ret
      exact ⟨rfl, rfl⟩
    · have h2I : decide ((c.toNat : Int) ≤ 57) = false := decide_eq_false (by omega)
      have h2J : ¬ (c.toNat : Int) ≤ 57 := by omega
      rw [decide_eq_true h1, decide_eq_false h2]
      go_enter Tryd.func26, Tryd.ntmps26
      go_wp2
      go_ret
      exact ⟨rfl, rfl⟩
  · have h1I : ¬ (48 : Int) ≤ (c.toNat : Int) := by omega
    rw [decide_eq_false h1]
    go_enter Tryd.func26, Tryd.ntmps26
    go_wp2
    go_ret
    exact ⟨rfl, rfl⟩
theorem rdigit_x (c : UInt8) (b : Bool) (h : isD c = b) (w : World) :
    Calls Tryd.prog 26 #[.int .u8 (c.toNat : Int)] w fun e w' => e = .returned (.bool b) ∧ w' = w := h ▸ rdigit_c c w

theorem takeM_none (l : List UInt8) (h : ¬ ∃ D F, trimPrefix l [45] = D ++ 46 :: F ∧ F.length = 2 ∧ okWhole D 20 = true ∧ digOnly F = true) : takeM l = (0, 4) := by
  unfold takeM
  rcases hcd : cutD (trimPrefix l [45]) with ⟨W, P, B⟩
  dsimp only
  split
  · rename_i hc
    exfalso
    simp only [Bool.and_eq_true, decide_eq_true_eq] at hc
    obtain ⟨_, j1, j2⟩ := cutD_join _ _ _ _ hcd
    have hB : B = true := by
      cases B
      · have := (j2 rfl).2; rw [this] at hc; simp at hc
      · rfl
    exact h ⟨W, P, j1 hB, hc.2.1, hc.1, hc.2.2⟩
  · rfl
theorem takeM_some (l D F : List UInt8) (ht : trimPrefix l [45] = D ++ 46 :: F) (hF : F.length = 2) (hD : okWhole D 20 = true) (hd : F.all isD = true) :
    takeM l = if valL (D ++ F) ≤ 1000000000000000 then sgnV (hasPrefix l [45]) (valL (D ++ F)) else (0, 3) := by
  unfold takeM
  rw [ht, cutD_hit D F (dot_not (okWhole_spec D 20 hD).2.2.1)]
  have : digOnly F = true := by
    unfold digOnly; rw [hd]
    cases F with
    | nil => simp at hF
    | cons a b => rfl
  simp only [hD, hF, this, decide_true, Bool.and_self, if_true]
theorem same_parts {D D' F F' : List UInt8} {c c' : UInt8} (h : D ++ c :: F = D' ++ c' :: F') (hl : F.length = F'.length) : D = D' ∧ c = c' ∧ F = F' := by
  have h1 := congrArg List.length h
  simp at h1
  obtain ⟨e1, e2⟩ := List.append_inj h (by omega)
  simp at e2
  exact ⟨e1, e2.1, e2.2⟩
/-- What has been read of t: all ahead of place k, but for the one at N. -/
def proc (t : List UInt8) (N k : Nat) : List UInt8 := if k ≤ N then t.take k else t.take N ++ (t.drop (N + 1)).take (k - (N + 1))
theorem proc_zero (t : List UInt8) (N : Nat) : proc t N 0 = [] := by simp [proc]
theorem proc_skip (t : List UInt8) (N : Nat) : proc t N (N + 1) = proc t N N := by
  unfold proc
  rw [if_neg (by omega), if_pos (by omega)]; simp
theorem proc_step (t : List UInt8) (N k : Nat) (c : UInt8) (hk : k ≠ N) (hc : t[k]? = some c) : proc t N (k + 1) = proc t N k ++ [c] := by
  unfold proc
  by_cases h : k < N
  · rw [if_pos (by omega), if_pos (by omega), List.take_add_one, hc]; rfl
  · rw [if_neg (by omega), if_neg (by omega), show k + 1 - (N + 1) = (k - (N + 1)) + 1 by omega, List.take_add_one]
    have : (t.drop (N + 1))[k - (N + 1)]? = some c := by rw [List.getElem?_drop, show N + 1 + (k - (N + 1)) = k by omega]; exact hc
    rw [this, List.append_assoc]; rfl
theorem proc_all (D F : List UInt8) (c : UInt8) (hF : F.length = 2) : proc (D ++ c :: F) D.length (D.length + 3) = D ++ F := by
  unfold proc
  rw [if_neg (by omega)]
  have e1 : (D ++ c :: F).take D.length = D := by simp
  have e2 : (D ++ c :: F).drop (D.length + 1) = F := by
    rw [List.drop_append]; simp
  rw [e1, e2, show D.length + 3 - (D.length + 1) = 2 by omega, ← hF, List.take_length]
theorem valL_more (X : List UInt8) (c : UInt8) : valL X ≤ valL (X ++ [c]) := by rw [valL_snoc]; omega

theorem rtm_nil (w : World) :
    Calls Tryd.prog 10 #[.string ⟨#[]⟩] w fun e w' => e = .returned (.tuple #[.int .i64 0, .int .i64 4]) ∧ w' = w := by
  go_enter Tryd.func10, Tryd.ntmps10
  go_wp2
  go_ret2
  exact ⟨rfl, rfl⟩
theorem rtm_short_n (t : List UInt8) (w : World) (h : t.length < 4) (h0 : 0 < t.length) :
    Calls Tryd.prog 10 #[.string ⟨(45 :: t).toArray⟩] w fun e w' => e = .returned (.tuple #[.int .i64 0, .int .i64 4]) ∧ w' = w := by
  have hex : (⟨(45 :: t).toArray⟩ : ByteArray).extract 1 (t.length + 1) = ⟨t.toArray⟩ := by rw [Lib.extract_mk]; simp
  have hI : (t.length : Int) - 3 < 1 := by omega
  have h0I : (0 : Int) < (t.length : Int) := by omega
  have hw : wrap64 ((t.length : Int) - 3) = (t.length : Int) - 3 := by unfold wrap64; omega
  go_enter Tryd.func10, Tryd.ntmps10
  go_wp2
  go_ret2
  exact ⟨rfl, rfl⟩
theorem rtm_empty_n (w : World) :
    Calls Tryd.prog 10 #[.string ⟨#[45]⟩] w fun e w' => e = .returned (.tuple #[.int .i64 0, .int .i64 4]) ∧ w' = w := by
  go_enter Tryd.func10, Tryd.ntmps10
  go_wp2
  go_ret2
  exact ⟨rfl, rfl⟩
theorem rtm_long_n (t : List UInt8) (w : World) (h : 23 < t.length) (h2 : t.length ≤ 1000) :
    Calls Tryd.prog 10 #[.string ⟨(45 :: t).toArray⟩] w fun e w' => e = .returned (.tuple #[.int .i64 0, .int .i64 4]) ∧ w' = w := by
  have hex : (⟨(45 :: t).toArray⟩ : ByteArray).extract 1 (t.length + 1) = ⟨t.toArray⟩ := by rw [Lib.extract_mk]; simp
  have hI : ¬ (t.length : Int) - 3 < 1 := by omega
  have h0I : (0 : Int) < (t.length : Int) := by omega
  have hJ : (20 : Int) < (t.length : Int) - 3 := by omega
  have hw : wrap64 ((t.length : Int) - 3) = (t.length : Int) - 3 := by unfold wrap64; omega
  go_enter Tryd.func10, Tryd.ntmps10
  go_wp2
  go_ret2
  exact ⟨rfl, rfl⟩
theorem rtm_nodot_n (t : List UInt8) (w : World) (N : Nat) (htl : t.length = N + 3) (hN1 : 1 ≤ N) (hN20 : N ≤ 20) (c : UInt8) (hixN : ∀ h, (⟨t.toArray⟩ : ByteArray)[N]'h = c) (hc : ((c.toNat : Int) != 46) = true) :
    Calls Tryd.prog 10 #[.string ⟨(45 :: t).toArray⟩] w fun e w' => e = .returned (.tuple #[.int .i64 0, .int .i64 4]) ∧ w' = w := by
  have hex : (⟨(45 :: t).toArray⟩ : ByteArray).extract 1 (N + 3 + 1) = ⟨t.toArray⟩ := by rw [← htl, Lib.extract_mk]; simp
  have hI : ¬ (N : Int) < 1 := by omega
  have hJ : ¬ (20 : Int) < (N : Int) := by omega
  have hNN : N < N + 3 := by omega
  have hNI : (N : Int) < (N : Int) + 3 := by omega
  have h03 : (0 : Int) < (N : Int) + 3 := by omega
  go_enter Tryd.func10, Tryd.ntmps10
  go_wp2
  go_ret2
  exact ⟨rfl, rfl⟩
theorem rtm_nought_n (t : List UInt8) (w : World) (N : Nat) (htl : t.length = N + 3) (hN1 : 1 ≤ N) (hN20 : N ≤ 20) (x : UInt8) (hix0 : ∀ h, (⟨t.toArray⟩ : ByteArray)[0]'h = x) (hixN : ∀ h, (⟨t.toArray⟩ : ByteArray)[N]'h = 46) (h1 : 1 < N) (hx48 : ((x.toNat : Int) == 48) = true) :
    Calls Tryd.prog 10 #[.string ⟨(45 :: t).toArray⟩] w fun e w' => e = .returned (.tuple #[.int .i64 0, .int .i64 4]) ∧ w' = w := by
  have hex : (⟨(45 :: t).toArray⟩ : ByteArray).extract 1 (N + 3 + 1) = ⟨t.toArray⟩ := by rw [← htl, Lib.extract_mk]; simp
  have hI : ¬ (N : Int) < 1 := by omega
  have hJ : ¬ (20 : Int) < (N : Int) := by omega
  have hNN : N < N + 3 := by omega
  have hNI : (N : Int) < (N : Int) + 3 := by omega
  have h03 : (0 : Int) < (N : Int) + 3 := by omega
  have h1I : (1 : Int) < (N : Int) := by omega
  go_enter Tryd.func10, Tryd.ntmps10
  go_wp2
  go_ret2
  exact ⟨rfl, rfl⟩
set_option maxHeartbeats 4000000 in
theorem rtm_loop_na (t : List UInt8) (w : World) (N : Nat) (htl : t.length = N + 3) (hN1 : 1 ≤ N) (hN20 : N ≤ 20) (x : UInt8) (hix0 : ∀ h, (⟨t.toArray⟩ : ByteArray)[0]'h = x) (hixN : ∀ h, (⟨t.toArray⟩ : ByteArray)[N]'h = 46) (hk1 : ¬ 1 < N)
    (RV RC : Int) (hbad : ∀ k c, k ≠ N → t[k]? = some c → isD c = false → RV = 0 ∧ RC = 4)
    (hend : (∀ j c, j ≠ N → t[j]? = some c → isD c = true) → (RV, RC) = if valL (proc t N (N + 3)) ≤ 1000000000000000 then sgnV true (valL (proc t N (N + 3))) else (0, 3)) :
    Calls Tryd.prog 10 #[.string ⟨(45 :: t).toArray⟩] w fun e w' => e = .returned (.tuple #[.int .i64 RV, .int .i64 RC]) ∧ w' = w := by
  replace hbad := show Hid _ from hbad
  replace hend := show Hid _ from hend
  have hex : (⟨(45 :: t).toArray⟩ : ByteArray).extract 1 (N + 3 + 1) = ⟨t.toArray⟩ := by rw [← htl, Lib.extract_mk]; simp
  have hI : ¬ (N : Int) < 1 := by omega
  have hJ : ¬ (20 : Int) < (N : Int) := by omega
  have hNN : N < N + 3 := by omega
  have hNI : (N : Int) < (N : Int) + 3 := by omega
  have h03 : (0 : Int) < (N : Int) + 3 := by omega
  have h1I : ¬ (1 : Int) < (N : Int) := by omega
  go_enter Tryd.func10, Tryd.ntmps10
  go_wp2
  go_loop [6, 7, 8] (fun v o i => ∃ (k V : Nat) (O : Bool), k ≤ N + 3 ∧ i = .int .i64 (k : Int) ∧ v = .int .i64 (V : Int) ∧ o = .bool O ∧ V ≤ 10000000000000009 ∧ Hid (∀ j c, j < k → j ≠ N → t[j]? = some c → isD c = true) ∧ Hid ((O = false ∧ V = valL (proc t N k)) ∨ (O = true ∧ 1000000000000000 < valL (proc t N k)))) (fun _ _ i => N + 3 - (RowKit.intOf i).toNat)
  case atStart => exact ⟨0, 0, false, Nat.zero_le _, rfl, rfl, rfl, Nat.zero_le _, fun j c hj => absurd hj (Nat.not_lt_zero _), Or.inl ⟨rfl, by rw [proc_zero]; rfl⟩⟩
  case round =>
    obtain ⟨k, V, O, hk, rfl, rfl, rfl, hV, hall, hrel⟩ := hrel
    by_cases hkl : k < N + 3
    · have hkI : (k : Int) < (N : Int) + 3 := by omega
      have hk0 : (0 : Int) ≤ (k : Int) := by omega
      have hwk : wrap64 ((k : Int) + 1) = (k : Int) + 1 := by unfold wrap64; omega
      by_cases hkN : k = N
      · subst hkN
        go_wp2
        go_round
        case rel => exact ⟨k + 1, V, O, by omega, by go_num, rfl, rfl, hV, (fun j c h1 h2 h3 => hall.out j c (by omega) h2 h3), by rw [proc_skip]; exact hrel.out⟩
        case measure => simp [RowKit.intOf] <;> omega
      · have hkNb : ((k : Int) == (N : Int)) = false := by simp; omega
        obtain ⟨c, hc⟩ : ∃ c, t[k]? = some c := ⟨t[k]'(by omega), List.getElem?_eq_getElem _⟩
        have hixk : ∀ h, (⟨t.toArray⟩ : ByteArray)[k]'h = c := by
          intro h
          have h2 := Lib.getElem_mk t k h
          rw [hc] at h2
          exact (Option.some.inj h2).symm
        cases hd : isD c
        · obtain ⟨rfl, rfl⟩ := hbad.out k c hkN hc hd
          replace hd := show Hid _ from hd
          replace hc := show Hid _ from hc
          go_wp2_with fail
          refine (rdigit_x c false hd.out _).mono ?_
          rintro e w1 ⟨rfl, rfl⟩
          go_wp2
          go_ret2
          exact ⟨rfl, rfl⟩
        · have hps := proc_step t N k c hkN hc
          have hr := isD_range hd
          have hmore := valL_more (proc t N k) c
          have hall2 : ∀ j c', j < k + 1 → j ≠ N → t[j]? = some c' → isD c' = true := fun j c' h1 h2 h3 => by
            by_cases h4 : j = k
            · subst h4; rw [hc] at h3; rw [← Option.some.inj h3]; exact hd
            · exact hall.out j c' (by omega) h2 h3
          have hsn := valL_snoc (proc t N k) c
          rw [← hps] at hmore hsn
          replace hd := show Hid _ from hd
          replace hc := show Hid _ from hc
          replace hps := show Hid _ from hps
          replace hall2 := show Hid _ from hall2
          replace hmore := show Hid _ from hmore
          replace hsn := show Hid _ from hsn
          cases O
          · have hVv : V = valL (proc t N k) := by
              rcases hrel.out with h | h
              · exact h.2
              · cases h.1
            by_cases hVM : V ≤ 1000000000000000
            · have hVI : ¬ (1000000000000000 : Int) < (V : Int) := by omega
              have hVd : decide ((1000000000000000 : Int) < (V : Int)) = false := decide_eq_false hVI
              obtain ⟨Y, hY⟩ : ∃ Y : Nat, Y = 10 * V + (c.toNat - 48) := ⟨_, rfl⟩
              have hw8 : IntKind.u8.wrap ((c.toNat : Int) - 48) = ((c.toNat - 48 : Nat) : Int) := by rw [IntKind.wrap_u8]; omega
              obtain ⟨Z, hZ⟩ : ∃ Z : Nat, Z = c.toNat - 48 := ⟨_, rfl⟩
              rw [← hZ] at hw8 hY
              have hZ9 : Z ≤ 9 := by omega
              have hwY : wrap64 (10 * (V : Int) + (Z : Int)) = (Y : Int) := by unfold wrap64; omega
              have hw10 : wrap64 (10 * (V : Int)) = 10 * (V : Int) := by unfold wrap64; omega
              have hYI : 10 * (V : Int) + (Z : Int) = (Y : Int) := by omega
              have hYv : Y = valL (proc t N (k + 1)) := by rw [hsn.out, hY, hVv, hZ]
              replace hYv := show Hid _ from hYv
              replace hY := show Hid _ from hY
              replace hVv := show Hid _ from hVv
              replace hZ := show Hid _ from hZ
              go_wp2_with fail
              refine (rdigit_x c true hd.out _).mono ?_
              rintro e w1 ⟨rfl, rfl⟩
              go_wp2
              go_round
              case rel => exact ⟨k + 1, Y, false, by omega, by go_num, rfl, rfl, by have := hY.out; omega, hall2.out, Or.inl ⟨rfl, hYv.out⟩⟩
              case measure => simp [RowKit.intOf] <;> omega
            · have hVI : (1000000000000000 : Int) < (V : Int) := by omega
              have hgt : 1000000000000000 < valL (proc t N (k + 1)) := by have := hmore.out; omega
              replace hVv := show Hid _ from hVv
              replace hgt := show Hid _ from hgt
              go_wp2_with fail
              refine (rdigit_x c true hd.out _).mono ?_
              rintro e w1 ⟨rfl, rfl⟩
              go_wp2
              go_round
              case rel => exact ⟨k + 1, V, true, by omega, by go_num, rfl, rfl, hV, hall2.out, Or.inr ⟨rfl, hgt.out⟩⟩
              case measure => simp [RowKit.intOf] <;> omega
          · have hgt : 1000000000000000 < valL (proc t N (k + 1)) := by
              have := hmore.out
              rcases hrel.out with h | h
              · cases h.1
              · have := h.2; omega
            replace hgt := show Hid _ from hgt
            go_wp2_with fail
            refine (rdigit_x c true hd.out _).mono ?_
            rintro e w1 ⟨rfl, rfl⟩
            go_wp2
            go_round
            case rel => exact ⟨k + 1, V, true, by omega, by go_num, rfl, rfl, hV, hall2.out, Or.inr ⟨rfl, hgt.out⟩⟩
            case measure => simp [RowKit.intOf] <;> omega
    · obtain rfl : k = N + 3 := by omega
      have hkI : ¬ ((N + 3 : Nat) : Int) < (N : Int) + 3 := by omega
      have hR := hend.out (fun j c h1 h2 => hall.out j c (by have := (List.getElem?_eq_some_iff.mp h2).1; omega) h1 h2)
      cases O
      · have hVv : V = valL (proc t N (N + 3)) := by
          rcases hrel.out with h | h
          · exact h.2
          · cases h.1
        rw [← hVv] at hR
        by_cases hVM : V ≤ 1000000000000000
        · rw [if_pos hVM] at hR
          have hVI : ¬ (1000000000000000 : Int) < (V : Int) := by omega
          have hVd : decide ((1000000000000000 : Int) < (V : Int)) = false := decide_eq_false hVI
          replace hVv := show Hid _ from hVv
          unfold sgnV at hR
          by_cases hV0 : V = 0
          · subst hV0
            simp only [if_true] at hR
            obtain ⟨rfl, rfl⟩ := Prod.mk.inj hR
            go_wp2
            go_ret2
            exact ⟨rfl, rfl⟩
          · simp only [if_true, if_neg hV0] at hR
            obtain ⟨rfl, rfl⟩ := Prod.mk.inj hR
            have hV0I : ((V : Int) == 0) = false := by simp; omega
            have hwn : wrap64 (-(V : Int)) = -(V : Int) := by unfold wrap64; omega
            go_wp2
            go_ret2
            exact ⟨rfl, rfl⟩
        · rw [if_neg hVM] at hR
          obtain ⟨rfl, rfl⟩ := Prod.mk.inj hR
          have hVI : (1000000000000000 : Int) < (V : Int) := by omega
          replace hVv := show Hid _ from hVv
          go_wp2
          go_ret2
          exact ⟨rfl, rfl⟩
      · have hgt : ¬ valL (proc t N (N + 3)) ≤ 1000000000000000 := by
          rcases hrel.out with h | h
          · cases h.1
          · have := h.2; omega
        rw [if_neg hgt] at hR
        obtain ⟨rfl, rfl⟩ := Prod.mk.inj hR
        replace hgt : Hid True := trivial
        go_wp2
        go_ret2
        exact ⟨rfl, rfl⟩
set_option maxHeartbeats 4000000 in
theorem rtm_loop_nb (t : List UInt8) (w : World) (N : Nat) (htl : t.length = N + 3) (hN1 : 1 ≤ N) (hN20 : N ≤ 20) (x : UInt8) (hix0 : ∀ h, (⟨t.toArray⟩ : ByteArray)[0]'h = x) (hixN : ∀ h, (⟨t.toArray⟩ : ByteArray)[N]'h = 46) (h1 : 1 < N) (hx48 : ((x.toNat : Int) == 48) = false)
    (RV RC : Int) (hbad : ∀ k c, k ≠ N → t[k]? = some c → isD c = false → RV = 0 ∧ RC = 4)
    (hend : (∀ j c, j ≠ N → t[j]? = some c → isD c = true) → (RV, RC) = if valL (proc t N (N + 3)) ≤ 1000000000000000 then sgnV true (valL (proc t N (N + 3))) else (0, 3)) :
    Calls Tryd.prog 10 #[.string ⟨(45 :: t).toArray⟩] w fun e w' => e = .returned (.tuple #[.int .i64 RV, .int .i64 RC]) ∧ w' = w := by
  replace hbad := show Hid _ from hbad
  replace hend := show Hid _ from hend
  have hex : (⟨(45 :: t).toArray⟩ : ByteArray).extract 1 (N + 3 + 1) = ⟨t.toArray⟩ := by rw [← htl, Lib.extract_mk]; simp
  have hI : ¬ (N : Int) < 1 := by omega
  have hJ : ¬ (20 : Int) < (N : Int) := by omega
  have hNN : N < N + 3 := by omega
  have hNI : (N : Int) < (N : Int) + 3 := by omega
  have h03 : (0 : Int) < (N : Int) + 3 := by omega
  have h1I : (1 : Int) < (N : Int) := by omega
  go_enter Tryd.func10, Tryd.ntmps10
  go_wp2
  go_loop [6, 7, 8] (fun v o i => ∃ (k V : Nat) (O : Bool), k ≤ N + 3 ∧ i = .int .i64 (k : Int) ∧ v = .int .i64 (V : Int) ∧ o = .bool O ∧ V ≤ 10000000000000009 ∧ Hid (∀ j c, j < k → j ≠ N → t[j]? = some c → isD c = true) ∧ Hid ((O = false ∧ V = valL (proc t N k)) ∨ (O = true ∧ 1000000000000000 < valL (proc t N k)))) (fun _ _ i => N + 3 - (RowKit.intOf i).toNat)
  case atStart => exact ⟨0, 0, false, Nat.zero_le _, rfl, rfl, rfl, Nat.zero_le _, fun j c hj => absurd hj (Nat.not_lt_zero _), Or.inl ⟨rfl, by rw [proc_zero]; rfl⟩⟩
  case round =>
    obtain ⟨k, V, O, hk, rfl, rfl, rfl, hV, hall, hrel⟩ := hrel
    by_cases hkl : k < N + 3
    · have hkI : (k : Int) < (N : Int) + 3 := by omega
      have hk0 : (0 : Int) ≤ (k : Int) := by omega
      have hwk : wrap64 ((k : Int) + 1) = (k : Int) + 1 := by unfold wrap64; omega
      by_cases hkN : k = N
      · subst hkN
        go_wp2
        go_round
        case rel => exact ⟨k + 1, V, O, by omega, by go_num, rfl, rfl, hV, (fun j c h1 h2 h3 => hall.out j c (by omega) h2 h3), by rw [proc_skip]; exact hrel.out⟩
        case measure => simp [RowKit.intOf] <;> omega
      · have hkNb : ((k : Int) == (N : Int)) = false := by simp; omega
        obtain ⟨c, hc⟩ : ∃ c, t[k]? = some c := ⟨t[k]'(by omega), List.getElem?_eq_getElem _⟩
        have hixk : ∀ h, (⟨t.toArray⟩ : ByteArray)[k]'h = c := by
          intro h
          have h2 := Lib.getElem_mk t k h
          rw [hc] at h2
          exact (Option.some.inj h2).symm
        cases hd : isD c
        · obtain ⟨rfl, rfl⟩ := hbad.out k c hkN hc hd
          replace hd := show Hid _ from hd
          replace hc := show Hid _ from hc
          go_wp2_with fail
          refine (rdigit_x c false hd.out _).mono ?_
          rintro e w1 ⟨rfl, rfl⟩
          go_wp2
          go_ret2
          exact ⟨rfl, rfl⟩
        · have hps := proc_step t N k c hkN hc
          have hr := isD_range hd
          have hmore := valL_more (proc t N k) c
          have hall2 : ∀ j c', j < k + 1 → j ≠ N → t[j]? = some c' → isD c' = true := fun j c' h1 h2 h3 => by
            by_cases h4 : j = k
            · subst h4; rw [hc] at h3; rw [← Option.some.inj h3]; exact hd
            · exact hall.out j c' (by omega) h2 h3
          have hsn := valL_snoc (proc t N k) c
          rw [← hps] at hmore hsn
          replace hd := show Hid _ from hd
          replace hc := show Hid _ from hc
          replace hps := show Hid _ from hps
          replace hall2 := show Hid _ from hall2
          replace hmore := show Hid _ from hmore
          replace hsn := show Hid _ from hsn
          cases O
          · have hVv : V = valL (proc t N k) := by
              rcases hrel.out with h | h
              · exact h.2
              · cases h.1
            by_cases hVM : V ≤ 1000000000000000
            · have hVI : ¬ (1000000000000000 : Int) < (V : Int) := by omega
              have hVd : decide ((1000000000000000 : Int) < (V : Int)) = false := decide_eq_false hVI
              obtain ⟨Y, hY⟩ : ∃ Y : Nat, Y = 10 * V + (c.toNat - 48) := ⟨_, rfl⟩
              have hw8 : IntKind.u8.wrap ((c.toNat : Int) - 48) = ((c.toNat - 48 : Nat) : Int) := by rw [IntKind.wrap_u8]; omega
              obtain ⟨Z, hZ⟩ : ∃ Z : Nat, Z = c.toNat - 48 := ⟨_, rfl⟩
              rw [← hZ] at hw8 hY
              have hZ9 : Z ≤ 9 := by omega
              have hwY : wrap64 (10 * (V : Int) + (Z : Int)) = (Y : Int) := by unfold wrap64; omega
              have hw10 : wrap64 (10 * (V : Int)) = 10 * (V : Int) := by unfold wrap64; omega
              have hYI : 10 * (V : Int) + (Z : Int) = (Y : Int) := by omega
              have hYv : Y = valL (proc t N (k + 1)) := by rw [hsn.out, hY, hVv, hZ]
              replace hYv := show Hid _ from hYv
              replace hY := show Hid _ from hY
              replace hVv := show Hid _ from hVv
              replace hZ := show Hid _ from hZ
              go_wp2_with fail
              refine (rdigit_x c true hd.out _).mono ?_
              rintro e w1 ⟨rfl, rfl⟩
              go_wp2
              go_round
              case rel => exact ⟨k + 1, Y, false, by omega, by go_num, rfl, rfl, by have := hY.out; omega, hall2.out, Or.inl ⟨rfl, hYv.out⟩⟩
              case measure => simp [RowKit.intOf] <;> omega
            · have hVI : (1000000000000000 : Int) < (V : Int) := by omega
              have hgt : 1000000000000000 < valL (proc t N (k + 1)) := by have := hmore.out; omega
              replace hVv := show Hid _ from hVv
              replace hgt := show Hid _ from hgt
              go_wp2_with fail
              refine (rdigit_x c true hd.out _).mono ?_
              rintro e w1 ⟨rfl, rfl⟩
              go_wp2
              go_round
              case rel => exact ⟨k + 1, V, true, by omega, by go_num, rfl, rfl, hV, hall2.out, Or.inr ⟨rfl, hgt.out⟩⟩
              case measure => simp [RowKit.intOf] <;> omega
          · have hgt : 1000000000000000 < valL (proc t N (k + 1)) := by
              have := hmore.out
              rcases hrel.out with h | h
              · cases h.1
              · have := h.2; omega
            replace hgt := show Hid _ from hgt
            go_wp2_with fail
            refine (rdigit_x c true hd.out _).mono ?_
            rintro e w1 ⟨rfl, rfl⟩
            go_wp2
            go_round
            case rel => exact ⟨k + 1, V, true, by omega, by go_num, rfl, rfl, hV, hall2.out, Or.inr ⟨rfl, hgt.out⟩⟩
            case measure => simp [RowKit.intOf] <;> omega
    · obtain rfl : k = N + 3 := by omega
      have hkI : ¬ ((N + 3 : Nat) : Int) < (N : Int) + 3 := by omega
      have hR := hend.out (fun j c h1 h2 => hall.out j c (by have := (List.getElem?_eq_some_iff.mp h2).1; omega) h1 h2)
      cases O
      · have hVv : V = valL (proc t N (N + 3)) := by
          rcases hrel.out with h | h
          · exact h.2
          · cases h.1
        rw [← hVv] at hR
        by_cases hVM : V ≤ 1000000000000000
        · rw [if_pos hVM] at hR
          have hVI : ¬ (1000000000000000 : Int) < (V : Int) := by omega
          have hVd : decide ((1000000000000000 : Int) < (V : Int)) = false := decide_eq_false hVI
          replace hVv := show Hid _ from hVv
          unfold sgnV at hR
          by_cases hV0 : V = 0
          · subst hV0
            simp only [if_true] at hR
            obtain ⟨rfl, rfl⟩ := Prod.mk.inj hR
            go_wp2
            go_ret2
            exact ⟨rfl, rfl⟩
          · simp only [if_true, if_neg hV0] at hR
            obtain ⟨rfl, rfl⟩ := Prod.mk.inj hR
            have hV0I : ((V : Int) == 0) = false := by simp; omega
            have hwn : wrap64 (-(V : Int)) = -(V : Int) := by unfold wrap64; omega
            go_wp2
            go_ret2
            exact ⟨rfl, rfl⟩
        · rw [if_neg hVM] at hR
          obtain ⟨rfl, rfl⟩ := Prod.mk.inj hR
          have hVI : (1000000000000000 : Int) < (V : Int) := by omega
          replace hVv := show Hid _ from hVv
          go_wp2
          go_ret2
          exact ⟨rfl, rfl⟩
      · have hgt : ¬ valL (proc t N (N + 3)) ≤ 1000000000000000 := by
          rcases hrel.out with h | h
          · cases h.1
          · have := h.2; omega
        rw [if_neg hgt] at hR
        obtain ⟨rfl, rfl⟩ := Prod.mk.inj hR
        replace hgt : Hid True := trivial
        go_wp2
        go_ret2
        exact ⟨rfl, rfl⟩
theorem rtm_short_p (t : List UInt8) (w : World) (h : t.length < 4) (h0 : 0 < t.length) (x : UInt8) (hix0 : ∀ h, (⟨t.toArray⟩ : ByteArray)[0]'h = x) (hx45 : ((x.toNat : Int) == 45) = false) :
    Calls Tryd.prog 10 #[.string ⟨t.toArray⟩] w fun e w' => e = .returned (.tuple #[.int .i64 0, .int .i64 4]) ∧ w' = w := by
  have hI : (t.length : Int) - 3 < 1 := by omega
  have h0I : (0 : Int) < (t.length : Int) := by omega
  have hw : wrap64 ((t.length : Int) - 3) = (t.length : Int) - 3 := by unfold wrap64; omega
  go_enter Tryd.func10, Tryd.ntmps10
  go_wp2
  go_ret2
  exact ⟨rfl, rfl⟩
theorem rtm_long_p (t : List UInt8) (w : World) (h : 23 < t.length) (h2 : t.length ≤ 1000) (x : UInt8) (hix0 : ∀ h, (⟨t.toArray⟩ : ByteArray)[0]'h = x) (hx45 : ((x.toNat : Int) == 45) = false) :
    Calls Tryd.prog 10 #[.string ⟨t.toArray⟩] w fun e w' => e = .returned (.tuple #[.int .i64 0, .int .i64 4]) ∧ w' = w := by
  have hI : ¬ (t.length : Int) - 3 < 1 := by omega
  have h0I : (0 : Int) < (t.length : Int) := by omega
  have hJ : (20 : Int) < (t.length : Int) - 3 := by omega
  have hw : wrap64 ((t.length : Int) - 3) = (t.length : Int) - 3 := by unfold wrap64; omega
  go_enter Tryd.func10, Tryd.ntmps10
  go_wp2
  go_ret2
  exact ⟨rfl, rfl⟩
theorem rtm_nodot_p (t : List UInt8) (w : World) (N : Nat) (htl : t.length = N + 3) (hN1 : 1 ≤ N) (hN20 : N ≤ 20) (x : UInt8) (hix0 : ∀ h, (⟨t.toArray⟩ : ByteArray)[0]'h = x) (hx45 : ((x.toNat : Int) == 45) = false) (c : UInt8) (hixN : ∀ h, (⟨t.toArray⟩ : ByteArray)[N]'h = c) (hc : ((c.toNat : Int) != 46) = true) :
    Calls Tryd.prog 10 #[.string ⟨t.toArray⟩] w fun e w' => e = .returned (.tuple #[.int .i64 0, .int .i64 4]) ∧ w' = w := by
  have hI : ¬ (N : Int) < 1 := by omega
  have hJ : ¬ (20 : Int) < (N : Int) := by omega
  have hNN : N < N + 3 := by omega
  have hNI : (N : Int) < (N : Int) + 3 := by omega
  have h03 : (0 : Int) < (N : Int) + 3 := by omega
  go_enter Tryd.func10, Tryd.ntmps10
  go_wp2
  go_ret2
  exact ⟨rfl, rfl⟩
theorem rtm_nought_p (t : List UInt8) (w : World) (N : Nat) (htl : t.length = N + 3) (hN1 : 1 ≤ N) (hN20 : N ≤ 20) (x : UInt8) (hix0 : ∀ h, (⟨t.toArray⟩ : ByteArray)[0]'h = x) (hx45 : ((x.toNat : Int) == 45) = false) (hixN : ∀ h, (⟨t.toArray⟩ : ByteArray)[N]'h = 46) (h1 : 1 < N) (hx48 : ((x.toNat : Int) == 48) = true) :
    Calls Tryd.prog 10 #[.string ⟨t.toArray⟩] w fun e w' => e = .returned (.tuple #[.int .i64 0, .int .i64 4]) ∧ w' = w := by
  have hI : ¬ (N : Int) < 1 := by omega
  have hJ : ¬ (20 : Int) < (N : Int) := by omega
  have hNN : N < N + 3 := by omega
  have hNI : (N : Int) < (N : Int) + 3 := by omega
  have h03 : (0 : Int) < (N : Int) + 3 := by omega
  have h1I : (1 : Int) < (N : Int) := by omega
  go_enter Tryd.func10, Tryd.ntmps10
  go_wp2
  go_ret2
  exact ⟨rfl, rfl⟩
set_option maxHeartbeats 4000000 in
theorem rtm_loop_pa (t : List UInt8) (w : World) (N : Nat) (htl : t.length = N + 3) (hN1 : 1 ≤ N) (hN20 : N ≤ 20) (x : UInt8) (hix0 : ∀ h, (⟨t.toArray⟩ : ByteArray)[0]'h = x) (hx45 : ((x.toNat : Int) == 45) = false) (hixN : ∀ h, (⟨t.toArray⟩ : ByteArray)[N]'h = 46) (hk1 : ¬ 1 < N)
    (RV RC : Int) (hbad : ∀ k c, k ≠ N → t[k]? = some c → isD c = false → RV = 0 ∧ RC = 4)
    (hend : (∀ j c, j ≠ N → t[j]? = some c → isD c = true) → (RV, RC) = if valL (proc t N (N + 3)) ≤ 1000000000000000 then sgnV false (valL (proc t N (N + 3))) else (0, 3)) :
    Calls Tryd.prog 10 #[.string ⟨t.toArray⟩] w fun e w' => e = .returned (.tuple #[.int .i64 RV, .int .i64 RC]) ∧ w' = w := by
  replace hbad := show Hid _ from hbad
  replace hend := show Hid _ from hend
  have hI : ¬ (N : Int) < 1 := by omega
  have hJ : ¬ (20 : Int) < (N : Int) := by omega
  have hNN : N < N + 3 := by omega
  have hNI : (N : Int) < (N : Int) + 3 := by omega
  have h03 : (0 : Int) < (N : Int) + 3 := by omega
  have h1I : ¬ (1 : Int) < (N : Int) := by omega
  go_enter Tryd.func10, Tryd.ntmps10
  go_wp2
  go_loop [6, 7, 8] (fun v o i => ∃ (k V : Nat) (O : Bool), k ≤ N + 3 ∧ i = .int .i64 (k : Int) ∧ v = .int .i64 (V : Int) ∧ o = .bool O ∧ V ≤ 10000000000000009 ∧ Hid (∀ j c, j < k → j ≠ N → t[j]? = some c → isD c = true) ∧ Hid ((O = false ∧ V = valL (proc t N k)) ∨ (O = true ∧ 1000000000000000 < valL (proc t N k)))) (fun _ _ i => N + 3 - (RowKit.intOf i).toNat)
  case atStart => exact ⟨0, 0, false, Nat.zero_le _, rfl, rfl, rfl, Nat.zero_le _, fun j c hj => absurd hj (Nat.not_lt_zero _), Or.inl ⟨rfl, by rw [proc_zero]; rfl⟩⟩
  case round =>
    obtain ⟨k, V, O, hk, rfl, rfl, rfl, hV, hall, hrel⟩ := hrel
    by_cases hkl : k < N + 3
    · have hkI : (k : Int) < (N : Int) + 3 := by omega
      have hk0 : (0 : Int) ≤ (k : Int) := by omega
      have hwk : wrap64 ((k : Int) + 1) = (k : Int) + 1 := by unfold wrap64; omega
      by_cases hkN : k = N
      · subst hkN
        go_wp2
        go_round
        case rel => exact ⟨k + 1, V, O, by omega, by go_num, rfl, rfl, hV, (fun j c h1 h2 h3 => hall.out j c (by omega) h2 h3), by rw [proc_skip]; exact hrel.out⟩
        case measure => simp [RowKit.intOf] <;> omega
      · have hkNb : ((k : Int) == (N : Int)) = false := by simp; omega
        obtain ⟨c, hc⟩ : ∃ c, t[k]? = some c := ⟨t[k]'(by omega), List.getElem?_eq_getElem _⟩
        have hixk : ∀ h, (⟨t.toArray⟩ : ByteArray)[k]'h = c := by
          intro h
          have h2 := Lib.getElem_mk t k h
          rw [hc] at h2
          exact (Option.some.inj h2).symm
        cases hd : isD c
        · obtain ⟨rfl, rfl⟩ := hbad.out k c hkN hc hd
          replace hd := show Hid _ from hd
          replace hc := show Hid _ from hc
          go_wp2_with fail
          refine (rdigit_x c false hd.out _).mono ?_
          rintro e w1 ⟨rfl, rfl⟩
          go_wp2
          go_ret2
          exact ⟨rfl, rfl⟩
        · have hps := proc_step t N k c hkN hc
          have hr := isD_range hd
          have hmore := valL_more (proc t N k) c
          have hall2 : ∀ j c', j < k + 1 → j ≠ N → t[j]? = some c' → isD c' = true := fun j c' h1 h2 h3 => by
            by_cases h4 : j = k
            · subst h4; rw [hc] at h3; rw [← Option.some.inj h3]; exact hd
            · exact hall.out j c' (by omega) h2 h3
          have hsn := valL_snoc (proc t N k) c
          rw [← hps] at hmore hsn
          replace hd := show Hid _ from hd
          replace hc := show Hid _ from hc
          replace hps := show Hid _ from hps
          replace hall2 := show Hid _ from hall2
          replace hmore := show Hid _ from hmore
          replace hsn := show Hid _ from hsn
          cases O
          · have hVv : V = valL (proc t N k) := by
              rcases hrel.out with h | h
              · exact h.2
              · cases h.1
            by_cases hVM : V ≤ 1000000000000000
            · have hVI : ¬ (1000000000000000 : Int) < (V : Int) := by omega
              have hVd : decide ((1000000000000000 : Int) < (V : Int)) = false := decide_eq_false hVI
              obtain ⟨Y, hY⟩ : ∃ Y : Nat, Y = 10 * V + (c.toNat - 48) := ⟨_, rfl⟩
              have hw8 : IntKind.u8.wrap ((c.toNat : Int) - 48) = ((c.toNat - 48 : Nat) : Int) := by rw [IntKind.wrap_u8]; omega
              obtain ⟨Z, hZ⟩ : ∃ Z : Nat, Z = c.toNat - 48 := ⟨_, rfl⟩
              rw [← hZ] at hw8 hY
              have hZ9 : Z ≤ 9 := by omega
              have hwY : wrap64 (10 * (V : Int) + (Z : Int)) = (Y : Int) := by unfold wrap64; omega
              have hw10 : wrap64 (10 * (V : Int)) = 10 * (V : Int) := by unfold wrap64; omega
              have hYI : 10 * (V : Int) + (Z : Int) = (Y : Int) := by omega
              have hYv : Y = valL (proc t N (k + 1)) := by rw [hsn.out, hY, hVv, hZ]
              replace hYv := show Hid _ from hYv
              replace hY := show Hid _ from hY
              replace hVv := show Hid _ from hVv
              replace hZ := show Hid _ from hZ
              go_wp2_with fail
              refine (rdigit_x c true hd.out _).mono ?_
              rintro e w1 ⟨rfl, rfl⟩
              go_wp2
              go_round
              case rel => exact ⟨k + 1, Y, false, by omega, by go_num, rfl, rfl, by have := hY.out; omega, hall2.out, Or.inl ⟨rfl, hYv.out⟩⟩
              case measure => simp [RowKit.intOf] <;> omega
            · have hVI : (1000000000000000 : Int) < (V : Int) := by omega
              have hgt : 1000000000000000 < valL (proc t N (k + 1)) := by have := hmore.out; omega
              replace hVv := show Hid _ from hVv
              replace hgt := show Hid _ from hgt
              go_wp2_with fail
              refine (rdigit_x c true hd.out _).mono ?_
              rintro e w1 ⟨rfl, rfl⟩
              go_wp2
              go_round
              case rel => exact ⟨k + 1, V, true, by omega, by go_num, rfl, rfl, hV, hall2.out, Or.inr ⟨rfl, hgt.out⟩⟩
              case measure => simp [RowKit.intOf] <;> omega
          · have hgt : 1000000000000000 < valL (proc t N (k + 1)) := by
              have := hmore.out
              rcases hrel.out with h | h
              · cases h.1
              · have := h.2; omega
            replace hgt := show Hid _ from hgt
            go_wp2_with fail
            refine (rdigit_x c true hd.out _).mono ?_
            rintro e w1 ⟨rfl, rfl⟩
            go_wp2
            go_round
            case rel => exact ⟨k + 1, V, true, by omega, by go_num, rfl, rfl, hV, hall2.out, Or.inr ⟨rfl, hgt.out⟩⟩
            case measure => simp [RowKit.intOf] <;> omega
    · obtain rfl : k = N + 3 := by omega
      have hkI : ¬ ((N + 3 : Nat) : Int) < (N : Int) + 3 := by omega
      have hR := hend.out (fun j c h1 h2 => hall.out j c (by have := (List.getElem?_eq_some_iff.mp h2).1; omega) h1 h2)
      cases O
      · have hVv : V = valL (proc t N (N + 3)) := by
          rcases hrel.out with h | h
          · exact h.2
          · cases h.1
        rw [← hVv] at hR
        by_cases hVM : V ≤ 1000000000000000
        · rw [if_pos hVM] at hR
          have hVI : ¬ (1000000000000000 : Int) < (V : Int) := by omega
          have hVd : decide ((1000000000000000 : Int) < (V : Int)) = false := decide_eq_false hVI
          replace hVv := show Hid _ from hVv
          unfold sgnV at hR
          simp only [Bool.false_eq_true, if_false] at hR
          obtain ⟨rfl, rfl⟩ := Prod.mk.inj hR
          go_wp2
          go_ret2
          exact ⟨rfl, rfl⟩
        · rw [if_neg hVM] at hR
          obtain ⟨rfl, rfl⟩ := Prod.mk.inj hR
          have hVI : (1000000000000000 : Int) < (V : Int) := by omega
          replace hVv := show Hid _ from hVv
          go_wp2
          go_ret2
          exact ⟨rfl, rfl⟩
      · have hgt : ¬ valL (proc t N (N + 3)) ≤ 1000000000000000 := by
          rcases hrel.out with h | h
          · cases h.1
          · have := h.2; omega
        rw [if_neg hgt] at hR
        obtain ⟨rfl, rfl⟩ := Prod.mk.inj hR
        replace hgt : Hid True := trivial
        go_wp2
        go_ret2
        exact ⟨rfl, rfl⟩
set_option maxHeartbeats 4000000 in
theorem rtm_loop_pb (t : List UInt8) (w : World) (N : Nat) (htl : t.length = N + 3) (hN1 : 1 ≤ N) (hN20 : N ≤ 20) (x : UInt8) (hix0 : ∀ h, (⟨t.toArray⟩ : ByteArray)[0]'h = x) (hx45 : ((x.toNat : Int) == 45) = false) (hixN : ∀ h, (⟨t.toArray⟩ : ByteArray)[N]'h = 46) (h1 : 1 < N) (hx48 : ((x.toNat : Int) == 48) = false)
    (RV RC : Int) (hbad : ∀ k c, k ≠ N → t[k]? = some c → isD c = false → RV = 0 ∧ RC = 4)
    (hend : (∀ j c, j ≠ N → t[j]? = some c → isD c = true) → (RV, RC) = if valL (proc t N (N + 3)) ≤ 1000000000000000 then sgnV false (valL (proc t N (N + 3))) else (0, 3)) :
    Calls Tryd.prog 10 #[.string ⟨t.toArray⟩] w fun e w' => e = .returned (.tuple #[.int .i64 RV, .int .i64 RC]) ∧ w' = w := by
  replace hbad := show Hid _ from hbad
  replace hend := show Hid _ from hend
  have hI : ¬ (N : Int) < 1 := by omega
  have hJ : ¬ (20 : Int) < (N : Int) := by omega
  have hNN : N < N + 3 := by omega
  have hNI : (N : Int) < (N : Int) + 3 := by omega
  have h03 : (0 : Int) < (N : Int) + 3 := by omega
  have h1I : (1 : Int) < (N : Int) := by omega
  go_enter Tryd.func10, Tryd.ntmps10
  go_wp2
  go_loop [6, 7, 8] (fun v o i => ∃ (k V : Nat) (O : Bool), k ≤ N + 3 ∧ i = .int .i64 (k : Int) ∧ v = .int .i64 (V : Int) ∧ o = .bool O ∧ V ≤ 10000000000000009 ∧ Hid (∀ j c, j < k → j ≠ N → t[j]? = some c → isD c = true) ∧ Hid ((O = false ∧ V = valL (proc t N k)) ∨ (O = true ∧ 1000000000000000 < valL (proc t N k)))) (fun _ _ i => N + 3 - (RowKit.intOf i).toNat)
  case atStart => exact ⟨0, 0, false, Nat.zero_le _, rfl, rfl, rfl, Nat.zero_le _, fun j c hj => absurd hj (Nat.not_lt_zero _), Or.inl ⟨rfl, by rw [proc_zero]; rfl⟩⟩
  case round =>
    obtain ⟨k, V, O, hk, rfl, rfl, rfl, hV, hall, hrel⟩ := hrel
    by_cases hkl : k < N + 3
    · have hkI : (k : Int) < (N : Int) + 3 := by omega
      have hk0 : (0 : Int) ≤ (k : Int) := by omega
      have hwk : wrap64 ((k : Int) + 1) = (k : Int) + 1 := by unfold wrap64; omega
      by_cases hkN : k = N
      · subst hkN
        go_wp2
        go_round
        case rel => exact ⟨k + 1, V, O, by omega, by go_num, rfl, rfl, hV, (fun j c h1 h2 h3 => hall.out j c (by omega) h2 h3), by rw [proc_skip]; exact hrel.out⟩
        case measure => simp [RowKit.intOf] <;> omega
      · have hkNb : ((k : Int) == (N : Int)) = false := by simp; omega
        obtain ⟨c, hc⟩ : ∃ c, t[k]? = some c := ⟨t[k]'(by omega), List.getElem?_eq_getElem _⟩
        have hixk : ∀ h, (⟨t.toArray⟩ : ByteArray)[k]'h = c := by
          intro h
          have h2 := Lib.getElem_mk t k h
          rw [hc] at h2
          exact (Option.some.inj h2).symm
        cases hd : isD c
        · obtain ⟨rfl, rfl⟩ := hbad.out k c hkN hc hd
          replace hd := show Hid _ from hd
          replace hc := show Hid _ from hc
          go_wp2_with fail
          refine (rdigit_x c false hd.out _).mono ?_
          rintro e w1 ⟨rfl, rfl⟩
          go_wp2
          go_ret2
          exact ⟨rfl, rfl⟩
        · have hps := proc_step t N k c hkN hc
          have hr := isD_range hd
          have hmore := valL_more (proc t N k) c
          have hall2 : ∀ j c', j < k + 1 → j ≠ N → t[j]? = some c' → isD c' = true := fun j c' h1 h2 h3 => by
            by_cases h4 : j = k
            · subst h4; rw [hc] at h3; rw [← Option.some.inj h3]; exact hd
            · exact hall.out j c' (by omega) h2 h3
          have hsn := valL_snoc (proc t N k) c
          rw [← hps] at hmore hsn
          replace hd := show Hid _ from hd
          replace hc := show Hid _ from hc
          replace hps := show Hid _ from hps
          replace hall2 := show Hid _ from hall2
          replace hmore := show Hid _ from hmore
          replace hsn := show Hid _ from hsn
          cases O
          · have hVv : V = valL (proc t N k) := by
              rcases hrel.out with h | h
              · exact h.2
              · cases h.1
            by_cases hVM : V ≤ 1000000000000000
            · have hVI : ¬ (1000000000000000 : Int) < (V : Int) := by omega
              have hVd : decide ((1000000000000000 : Int) < (V : Int)) = false := decide_eq_false hVI
              obtain ⟨Y, hY⟩ : ∃ Y : Nat, Y = 10 * V + (c.toNat - 48) := ⟨_, rfl⟩
              have hw8 : IntKind.u8.wrap ((c.toNat : Int) - 48) = ((c.toNat - 48 : Nat) : Int) := by rw [IntKind.wrap_u8]; omega
              obtain ⟨Z, hZ⟩ : ∃ Z : Nat, Z = c.toNat - 48 := ⟨_, rfl⟩
              rw [← hZ] at hw8 hY
              have hZ9 : Z ≤ 9 := by omega
              have hwY : wrap64 (10 * (V : Int) + (Z : Int)) = (Y : Int) := by unfold wrap64; omega
              have hw10 : wrap64 (10 * (V : Int)) = 10 * (V : Int) := by unfold wrap64; omega
              have hYI : 10 * (V : Int) + (Z : Int) = (Y : Int) := by omega
              have hYv : Y = valL (proc t N (k + 1)) := by rw [hsn.out, hY, hVv, hZ]
              replace hYv := show Hid _ from hYv
              replace hY := show Hid _ from hY
              replace hVv := show Hid _ from hVv
              replace hZ := show Hid _ from hZ
              go_wp2_with fail
              refine (rdigit_x c true hd.out _).mono ?_
              rintro e w1 ⟨rfl, rfl⟩
              go_wp2
              go_round
              case rel => exact ⟨k + 1, Y, false, by omega, by go_num, rfl, rfl, by have := hY.out; omega, hall2.out, Or.inl ⟨rfl, hYv.out⟩⟩
              case measure => simp [RowKit.intOf] <;> omega
            · have hVI : (1000000000000000 : Int) < (V : Int) := by omega
              have hgt : 1000000000000000 < valL (proc t N (k + 1)) := by have := hmore.out; omega
              replace hVv := show Hid _ from hVv
              replace hgt := show Hid _ from hgt
              go_wp2_with fail
              refine (rdigit_x c true hd.out _).mono ?_
              rintro e w1 ⟨rfl, rfl⟩
              go_wp2
              go_round
              case rel => exact ⟨k + 1, V, true, by omega, by go_num, rfl, rfl, hV, hall2.out, Or.inr ⟨rfl, hgt.out⟩⟩
              case measure => simp [RowKit.intOf] <;> omega
          · have hgt : 1000000000000000 < valL (proc t N (k + 1)) := by
              have := hmore.out
              rcases hrel.out with h | h
              · cases h.1
              · have := h.2; omega
            replace hgt := show Hid _ from hgt
            go_wp2_with fail
            refine (rdigit_x c true hd.out _).mono ?_
            rintro e w1 ⟨rfl, rfl⟩
            go_wp2
            go_round
            case rel => exact ⟨k + 1, V, true, by omega, by go_num, rfl, rfl, hV, hall2.out, Or.inr ⟨rfl, hgt.out⟩⟩
            case measure => simp [RowKit.intOf] <;> omega
    · obtain rfl : k = N + 3 := by omega
      have hkI : ¬ ((N + 3 : Nat) : Int) < (N : Int) + 3 := by omega
      have hR := hend.out (fun j c h1 h2 => hall.out j c (by have := (List.getElem?_eq_some_iff.mp h2).1; omega) h1 h2)
      cases O
      · have hVv : V = valL (proc t N (N + 3)) := by
          rcases hrel.out with h | h
          · exact h.2
          · cases h.1
        rw [← hVv] at hR
        by_cases hVM : V ≤ 1000000000000000
        · rw [if_pos hVM] at hR
          have hVI : ¬ (1000000000000000 : Int) < (V : Int) := by omega
          have hVd : decide ((1000000000000000 : Int) < (V : Int)) = false := decide_eq_false hVI
          replace hVv := show Hid _ from hVv
          unfold sgnV at hR
          simp only [Bool.false_eq_true, if_false] at hR
          obtain ⟨rfl, rfl⟩ := Prod.mk.inj hR
          go_wp2
          go_ret2
          exact ⟨rfl, rfl⟩
        · rw [if_neg hVM] at hR
          obtain ⟨rfl, rfl⟩ := Prod.mk.inj hR
          have hVI : (1000000000000000 : Int) < (V : Int) := by omega
          replace hVv := show Hid _ from hVv
          go_wp2
          go_ret2
          exact ⟨rfl, rfl⟩
      · have hgt : ¬ valL (proc t N (N + 3)) ≤ 1000000000000000 := by
          rcases hrel.out with h | h
          · cases h.1
          · have := h.2; omega
        rw [if_neg hgt] at hR
        obtain ⟨rfl, rfl⟩ := Prod.mk.inj hR
        replace hgt : Hid True := trivial
        go_wp2
        go_ret2
        exact ⟨rfl, rfl⟩
end Go.Proofs.YtpmgbagnaaahoabDoor
