
/- What spelt, reserved and Name of package product answer, as contracts: no statement of the seat is proved here. -/
import Derived.Test.YtmlkccmkdgfalaaGreatDoorL8Pr1
namespace Go.Proofs.YtmlkccmkdgfalaaGreatDoor.L8
open Go.RowKit
set_option linter.unusedVariables false

theorem spelt_c (l : List UInt8) (w : World) (hl : l.length ≤ 9223372036854775807) :
    Calls Tryz.prog 119 #[.string ⟨l.toArray⟩] w fun e w' => e = .returned (.bool (l.all inB)) ∧ w' = w := by
  obtain ⟨n, hn⟩ : ∃ n, l.length = n := ⟨_, rfl⟩
  rw [hn] at hl
  go_enter Tryz.func119, Tryz.ntmps119
  go_wp2_with fail
  go_loop [7] (fun i => ∃ k : Nat, k ≤ n ∧ i = .int .i64 k ∧ Hid (l.all inB = (l.drop k).all inB)) (fun i => n - (RowKit.intOf i).toNat)
  case atStart => exact ⟨0, Nat.zero_le _, rfl, rfl⟩
  case round =>
    obtain ⟨k, hk, rfl, hA⟩ := hrel
    by_cases hlt : k < n
    · obtain ⟨c, hV⟩ : ∃ c, l[k]? = some c := ⟨_, List.getElem?_eq_getElem (by omega)⟩
      have hd := show Hid _ from byte_drop hV
      have hg := byte_at hV
      clear hV
      have hf : Hid (l.all inB = (inB c && (l.drop (k + 1)).all inB)) := by show _ = _; rw [hA.out, hd.out, List.all_cons]
      clear hA hd
      cases h1 : lowB c
      · cases h2 : digB c
        · cases h3 : ((c.toNat : Int) == 45)
          · have hr : Hid (l.all inB = false) := by show _ = _; rw [hf.out]; unfold inB; rw [h1, h2, h3]; rfl
            have h3' : ((c.toNat : Int) != 45) = true := by simp [bne, h3]
            replace h1 := show Hid _ from h1
            replace h2 := show Hid _ from h2
            clear hf
            go_wp2_with fail
            refine (small_x c false h1.out _).mono ?_
            rintro e w1 ⟨rfl, rfl⟩
            go_wp2_with fail
            refine (liesB_x _ _ _ false h2.out _).mono ?_
            rintro e w1 ⟨rfl, rfl⟩
            go_wp2
            go_ret
            exact ⟨ret_bool hr.out.symm, rfl⟩
          · have hr : Hid (l.all inB = (l.drop (k + 1)).all inB) := by show _ = _; rw [hf.out]; unfold inB; rw [h1, h2, h3]; rfl
            have h3' : ((c.toNat : Int) != 45) = false := by simp [bne, h3]
            replace h1 := show Hid _ from h1
            replace h2 := show Hid _ from h2
            clear hf
            go_wp2_with fail
            refine (small_x c false h1.out _).mono ?_
            rintro e w1 ⟨rfl, rfl⟩
            go_wp2_with fail
            refine (liesB_x _ _ _ false h2.out _).mono ?_
            rintro e w1 ⟨rfl, rfl⟩
            go_wp2
            go_round
            case rel => exact ⟨k + 1, by omega, by go_num, hr⟩
            case measure => simp [RowKit.intOf]; omega
        · have hr : Hid (l.all inB = (l.drop (k + 1)).all inB) := by show _ = _; rw [hf.out]; unfold inB; rw [h1, h2]; rfl
          replace h1 := show Hid _ from h1
          replace h2 := show Hid _ from h2
          clear hf
          go_wp2_with fail
          refine (small_x c false h1.out _).mono ?_
          rintro e w1 ⟨rfl, rfl⟩
          go_wp2_with fail
          refine (liesB_x _ _ _ true h2.out _).mono ?_
          rintro e w1 ⟨rfl, rfl⟩
          go_wp2
          go_round
          case rel => exact ⟨k + 1, by omega, by go_num, hr⟩
          case measure => simp [RowKit.intOf]; omega
      · have hr : Hid (l.all inB = (l.drop (k + 1)).all inB) := by show _ = _; rw [hf.out]; unfold inB; rw [h1]; rfl
        replace h1 := show Hid _ from h1
        clear hf
        go_wp2_with fail
        refine (small_x c true h1.out _).mono ?_
        rintro e w1 ⟨rfl, rfl⟩
        go_wp2
        go_round
        case rel => exact ⟨k + 1, by omega, by go_num, hr⟩
        case measure => simp [RowKit.intOf]; omega
    · obtain rfl : k = n := by omega
      have hf : Hid (l.all inB = true) := by show _ = _; rw [hA.out, drop_end (by omega)]; rfl
      clear hA
      go_wp2
      go_ret
      exact ⟨ret_bool hf.out.symm, rfl⟩
theorem any_dec (l : List UInt8) : ∀ ws : List (List UInt8), decide (l ∈ ws) = ws.any (fun x => l == x)
  | [] => by simp
  | x :: ws => by
    rw [List.any_cons, ← any_dec l ws]
    by_cases h : l = x
    · subst h; simp
    · simp [h]
theorem word_iff (l : List UInt8) : decide (l ∈ wordsL) = (l == [112, 114, 111, 100, 117, 99, 116] || (l == [99, 111, 117, 110, 116] || (l == [116, 104, 105, 114, 116, 121] || (l == [102, 105, 120, 101, 100] || (l == [97, 99, 116, 117, 97, 108] || (l == [114, 111, 117, 110, 100] || (l == [104, 97, 108, 102, 45, 117, 112] || (l == [100, 111, 119, 110] || (l == [107, 105, 110, 100] || (l == [97, 110, 110, 117, 105, 116, 121] || (l == [101, 113, 117, 97, 108] || (l == [98, 117, 108, 108, 101, 116] || (l == [101, 118, 101, 114, 121] || (l == [116, 105, 109, 101, 115] || (l == [103, 114, 97, 99, 101] || (l == [114, 97, 116, 101] || (l == [112, 101, 110, 97, 108, 116, 121] || (l == [114, 101, 115, 101, 116] || (l == [108, 97, 116, 101] || (l == [99, 97, 112] || (l == [104, 111, 108, 105, 100, 97, 121] || (l == [111, 114, 100, 101, 114] || (l == [102, 101, 101, 115] || (l == [105, 110, 116, 101, 114, 101, 115, 116] || (l == [112, 114, 105, 110, 99, 105, 112, 97, 108] || (l == [111, 118, 101, 114] || (l == [104, 111, 108, 100] || (l == [112, 114, 101, 112, 97, 121] || (l == [114, 101, 102, 117, 110, 100] || (l == [114, 111, 108, 108] || (l == [115, 116, 97, 121] || (l == [110, 101, 120, 116] || (l == [119, 105, 116, 104, 105, 110] || (l == [112, 114, 101, 118, 105, 111, 117, 115] || false)))))))))))))))))))))))))))))))))) :=
  any_dec l wordsL
set_option maxHeartbeats 2000000 in
theorem reserved_c (l : List UInt8) (w : World) :
    Calls Tryz.prog 120 #[.string ⟨l.toArray⟩] w fun e w' => e = .returned (.bool (decide (l ∈ wordsL))) ∧ w' = w := by
  rw [word_iff]
  go_enter Tryz.func120, Tryz.ntmps120
  go_wp2
  all_goals first
    | (rename_i a b; rw [a] at b; cases b; done)
    | (go_ret; exact ⟨ret_bool (by simp only [*, Bool.true_or, Bool.or_true, Bool.or_false]), rfl⟩)
theorem reserved_x (l : List UInt8) (B : Bool) (h : decide (l ∈ wordsL) = B) (w : World) :
    Calls Tryz.prog 120 #[.string ⟨l.toArray⟩] w fun e w' => e = .returned (.bool B) ∧ w' = w := h ▸ reserved_c l w
theorem spelt_x (l : List UInt8) (B : Bool) (h : l.all inB = B) (w : World) (hl : l.length ≤ 9223372036854775807) :
    Calls Tryz.prog 119 #[.string ⟨l.toArray⟩] w fun e w' => e = .returned (.bool B) ∧ w' = w := h ▸ spelt_c l w hl
theorem Name_c (l : List UInt8) (w : World) (hm : l.length ≤ 9223372036854775807) :
    Calls Tryz.prog 106 #[.string ⟨l.toArray⟩] w fun e w' => e = .returned (.bool (nmb l)) ∧ w' = w := by
  unfold nmb
  cases h0 : lz l.length 1 20
  · replace h0 := show Hid _ from h0
    go_enter Tryz.func106, Tryz.ntmps106
    go_wp2_with fail
    refine (liesI_x _ _ _ false h0.out _).mono ?_
    rintro e w1 ⟨rfl, rfl⟩
    go_wp2
    go_ret
    exact ⟨rfl, rfl⟩
  · cases l with
    | nil => exact absurd h0 (by decide)
    | cons c m =>
      have hlen : (c :: m).length ≤ 9223372036854775807 := by have := (lz_iff _ _ _).1 h0; omega
      have hg : ∀ g, (⟨(c :: m).toArray⟩ : ByteArray)[0]'g = c := byte_at rfl
      have hp : 0 < (c :: m).length := by simp
      have h1' : headB (c :: m) = lowB c := rfl
      rw [h1']
      clear h1'
      obtain ⟨L, hL⟩ : ∃ L, c :: m = L := ⟨_, rfl⟩
      rw [hL] at h0 hlen hg hp hm ⊢
      clear hL
      replace h0 := show Hid _ from h0
      replace hlen := show Hid _ from hlen
      cases h1 : lowB c
      · replace h1 := show Hid _ from h1
        go_enter Tryz.func106, Tryz.ntmps106
        go_wp2_with fail
        refine (liesI_x _ _ _ true h0.out _).mono ?_
        rintro e w1 ⟨rfl, rfl⟩
        go_wp2_with fail
        refine (small_x c false h1.out _).mono ?_
        rintro e w1 ⟨rfl, rfl⟩
        go_wp2
        go_ret
        exact ⟨rfl, rfl⟩
      · replace h1 := show Hid _ from h1
        cases h2 : L.all inB
        · replace h2 := show Hid _ from h2
          go_enter Tryz.func106, Tryz.ntmps106
          go_wp2_with fail
          refine (liesI_x _ _ _ true h0.out _).mono ?_
          rintro e w1 ⟨rfl, rfl⟩
          go_wp2_with fail
          refine (small_x c true h1.out _).mono ?_
          rintro e w1 ⟨rfl, rfl⟩
          go_wp2_with fail
          refine (spelt_x L false h2.out _ hlen.out).mono ?_
          rintro e w1 ⟨rfl, rfl⟩
          go_wp2
          go_ret
          exact ⟨rfl, rfl⟩
        · replace h2 := show Hid _ from h2
          go_enter Tryz.func106, Tryz.ntmps106
          go_wp2_with fail
          refine (liesI_x _ _ _ true h0.out _).mono ?_
          rintro e w1 ⟨rfl, rfl⟩
          go_wp2_with fail
          refine (small_x c true h1.out _).mono ?_
          rintro e w1 ⟨rfl, rfl⟩
          go_wp2_with fail
          refine (spelt_x L true h2.out _ hlen.out).mono ?_
          rintro e w1 ⟨rfl, rfl⟩
          go_wp2_with fail
          refine (reserved_c L _).mono ?_
          rintro e w1 ⟨rfl, rfl⟩
          go_wp2
          go_ret
          exact ⟨ret_bool (by simp), rfl⟩
theorem Name_x (l : List UInt8) (B : Bool) (h : nmb l = B) (w : World) (hm : l.length ≤ 9223372036854775807) :
    Calls Tryz.prog 106 #[.string ⟨l.toArray⟩] w fun e w' => e = .returned (.bool B) ∧ w' = w := h ▸ Name_c l w hm
end Go.Proofs.YtmlkccmkdgfalaaGreatDoor.L8