/- The law of names: no statement of the seat is proved here. -/
import Derived.Test.YtipnchejhjkomaaNam0
namespace Go.Proofs.Ytipnchejhjkomaa
open Go.RowKit Go.Lib
set_option linter.unusedVariables false

/-- A text that was made so far: its first letter, and so many bytes behind it. -/
structure Mde (S : List UInt8) (k : Nat) : Prop where
  made : ∃ T, S = 110 :: T ∧ T.all inB = true
  len : S.length = k + 1
theorem Mde.snoc {S : List UInt8} {k : Nat} (h : Mde S k) {c : UInt8} (hc : inB c = true) : Mde (S ++ [c]) (k + 1) := by
  obtain ⟨⟨T, rfl, hT⟩, hl⟩ := h
  exact ⟨⟨T ++ [c], by simp, by rw [List.all_append, hT]; simp [hc]⟩, by simp at hl ⊢; omega⟩
theorem Mde.name {S : List UInt8} {k : Nat} (h : Mde S k) : nmb S = (decide (S.length ≤ 20) && !(decide (S ∈ wordsL))) := by
  obtain ⟨⟨T, rfl, hT⟩, hl⟩ := h
  exact nmb_made hT
theorem wrap_u64 (x : Int) : 0 ≤ IntKind.u64.wrap x ∧ IntKind.u64.wrap x < 18446744073709551616 := by
  simp only [IntKind.wrap, IntKind.signed, IntKind.bits]
  constructor
  · exact Int.emod_nonneg _ (by decide)
  · exact Int.emod_lt_of_pos _ (by decide)
theorem tmod34 (a : Int) : 0 ≤ (IntKind.u64.wrap a).tmod 34 ∧ (IntKind.u64.wrap a).tmod 34 < 34 :=
  ⟨Int.tmod_nonneg _ (wrap_u64 a).1, Int.tmod_lt_of_pos _ (by omega)⟩
set_option maxHeartbeats 4000000 in
theorem names_x (v : Value) (l : List Int) (a1 : Int) (w : World) (hl : l.length ≤ 9223372036854775807) (hb : ∀ x ∈ l, 0 ≤ x ∧ x ≤ 255) (hv : ∃ a c, v = .slice a l.length c ∧ ∀ (k : Nat) (x : Int), l[k]? = some x → ∃ b off, a = some ⟨b, off, none⟩ ∧ w.cell? ⟨b, off + k, none⟩ = some (.int .u8 x)) :
    Calls Try.prog 6 #[v, .int .i64 a1] w fun e w' => e = .returned (.bool true) ∧ Ext w w' := by
  obtain ⟨a, c, rfl, hc⟩ := hv
  obtain ⟨n, hn⟩ : ∃ n, l.length = n := ⟨_, rfl⟩
  rw [hn] at hl ⊢
  replace hn := show Hid _ from hn
  replace hc := show Hid _ from hc
  replace hb := show Hid _ from hb
  go_enter Try.func6, Try.ntmps6
  go_wp2_with fail
  go_loopw [5, 6] (fun s i wr => ∃ (k : Nat) (S : List UInt8), k ≤ n ∧ k ≤ 30 ∧ i = .int .i64 k ∧ s = .string ⟨S.toArray⟩ ∧ Hid (Mde S k) ∧ Hid (Ext w wr)) (fun _ i _ => 30 - (RowKit.intOf i).toNat)
  case atStart => exact ⟨0, [110], Nat.zero_le _, Nat.zero_le _, rfl, rfl, ⟨⟨[], rfl, rfl⟩, rfl⟩, Ext.refl _⟩
  case round =>
    obtain ⟨k, S, hk, hk2, rfl, rfl, hM, hx⟩ := hrel
    have hSl := hM.out.len
    by_cases hlt : k < n
    · by_cases h30 : k < 30
      · have i1 : (k : Int) < (n : Int) := by omega
        have i2 : (k : Int) < 30 := by omega
        obtain ⟨x, hV⟩ : ∃ x, l[k]? = some x := ⟨_, List.getElem?_eq_getElem (by have := hn.out; omega)⟩
        obtain ⟨b, off, rfl, hcell0⟩ := hc.out k x hV
        have hcell := hx.out.cell_of hcell0
        obtain ⟨x0, x255⟩ := hb.out x (List.mem_of_getElem? hV)
        obtain ⟨j, hj⟩ : ∃ j : Nat, x % 37 = (j : Int) := ⟨(x % 37).toNat, by omega⟩
        have hj37 : j < 37 := by omega
        have hj' : x.tmod 37 = (j : Int) := by rw [Int.tmod_eq_emod_of_nonneg x0]; exact hj
        obtain ⟨c1, hc1, hin⟩ := alph_at j hj37
        have hg : ∀ g, (⟨#[97, 98, 99, 100, 101, 102, 103, 104, 105, 106, 107, 108, 109, 110, 111, 112, 113, 114, 115, 116, 117, 118, 119, 120, 121, 122, 48, 49, 50, 51, 52, 53, 54, 55, 56, 57, 45]⟩ : ByteArray)[j]'g = c1 := byte_at (l := alphL) hc1
        have hcb := fun (W : World) (b : Nat) (h : W.cell? ⟨b, 0, none⟩ = some (.int .u8 (c1.toNat : Int))) => one_byte W b c1 h
        have hM2 := show Hid (Mde (S ++ [c1]) (k + 1)) from hM.out.snoc hin
        have hbig : ¬ 9223372036854775807 < k + 1 + 1 := by omega
        clear hV hcell0 hM hc1 hin
        go_wp2
        go_roundw
        case rel => exact ⟨k + 1, S ++ [c1], by omega, by omega, by go_num, rfl, hM2, hx.out.alloc _ _⟩
        case measure => simp [RowKit.intOf]; omega
      · have i1 : (k : Int) < (n : Int) := by omega
        have i2 : ¬ (k : Int) < 30 := by omega
        have hNm := show Hid _ from hM.out.name
        obtain ⟨r, hr⟩ : ∃ r : Nat, (IntKind.u64.wrap a1).tmod 34 = (r : Int) := ⟨((IntKind.u64.wrap a1).tmod 34).toNat, by have := tmod34 a1; omega⟩
        have hr34 : r < 34 := by have := tmod34 a1; omega
        obtain ⟨V, hV, hV1, hV2, hVl⟩ := word_at r hr34
        replace hV1 := show Hid _ from hV1
        replace hV2 := show Hid _ from hV2
        clear hM hc hb hn
        go_wp2_with fail
        refine (Words_c _).mono ?_
        rintro e w1 ⟨⟨g, rfl, hS⟩, hx1⟩
        replace hx := show Hid (Ext w w1) from hx.out.trans hx1
        have hcell := hS r V hV
        replace hS := show Hid (Strs w1 g wordsL) from hS
        clear hx1 hV
        go_wp2_with fail
        go_loop [9, 10] (fun bb i => ∃ (q : Nat) (B : Bool), q ≤ 34 ∧ i = .int .i64 q ∧ bb = .bool B ∧ Hid (decide (S ∈ wordsL) = (B || decide (S ∈ wordsL.drop q)))) (fun _ i => 34 - (RowKit.intOf i).toNat)
        case atStart => exact ⟨0, false, Nat.zero_le _, rfl, rfl, rfl⟩
        case round =>
          obtain ⟨q, B, hq, rfl, rfl, hA⟩ := hrel
          clear hcell
          by_cases hqt : q < 34
          · obtain ⟨U, hU⟩ : ∃ U, wordsL[q]? = some U := ⟨_, List.getElem?_eq_getElem (show q < wordsL.length from hqt)⟩
            have hcU := hS.out q U hU
            have hd := show Hid _ from drop_at hU
            have q1 : (q : Int) < 34 := by omega
            clear hU
            cases B
            · by_cases hUS : U = S
              · subst hUS
                have hf : Hid (decide (U ∈ wordsL) = (true || decide (U ∈ wordsL.drop (q + 1)))) := by show _ = _; rw [hA.out, hd.out]; simp
                clear hA hd
                go_wp2
                go_round
                case rel => exact ⟨q + 1, true, by omega, by go_num, by simp, hf⟩
                case measure => simp [RowKit.intOf]; omega
              · have hb1 : (U == S) = false := by simpa using hUS
                have hf : Hid (decide (S ∈ wordsL) = (false || decide (S ∈ wordsL.drop (q + 1)))) := by
                  show _ = _
                  rw [hA.out, hd.out]
                  have h1' : ¬ S = U := fun e => hUS e.symm
                  simp [h1']
                clear hA hd hUS
                go_wp2
                go_round
                case rel => exact ⟨q + 1, false, by omega, by go_num, rfl, hf⟩
                case measure => simp [RowKit.intOf]; omega
            · have hf : Hid (decide (S ∈ wordsL) = (true || decide (S ∈ wordsL.drop (q + 1)))) := by show _ = _; rw [hA.out]; simp
              clear hA hd
              go_wp2
              go_round
              case rel => exact ⟨q + 1, true, by omega, by go_num, rfl, hf⟩
              case measure => simp [RowKit.intOf]; omega
          · obtain rfl : q = 34 := by omega
            have hf : Hid (nmb S = (decide (S.length ≤ 20) && !B)) := by
              show _ = _
              rw [hNm.out, hA.out, show wordsL.drop 34 = [] from rfl]; simp
            clear hA hNm hS
            have hb2 : ¬ 9223372036854775807 < 1 + (k + 1) := by omega
            have hb3 : ¬ 9223372036854775807 < V.length + 1 := by omega
            by_cases h20 : S.length ≤ 20
            · have h20' : ((k : Int) + 1 ≤ 20) := by omega
              have hd20 : decide (S.length ≤ 20) = true := decide_eq_true h20
              cases B
              · have hN : Hid (nmb S = true) := by show _ = _; rw [hf.out, hd20]; rfl
                clear hf hd20 h20
                go_wp2_with fail
                refine (awake_c _).mono ?_
                rintro e w3 ⟨rfl, hx3⟩
                replace hx := show Hid (Ext w w3) from hx.out.trans hx3
                clear hx3
                go_wp2_with fail
                refine (Name_x S true hN.out _ (by omega)).mono ?_
                rintro e w4 ⟨rfl, rfl⟩
                go_wp2_with fail
                refine (Name_x V false hV1.out _ (by omega)).mono ?_
                rintro e w4 ⟨rfl, rfl⟩
                go_wp2_with fail
                refine (Name_x (V ++ [120]) true hV2.out _ (by simp; omega)).mono ?_
                rintro e w4 ⟨rfl, rfl⟩
                go_wp2_with fail
                refine (Name_x (49 :: S) false (nmb_head (by decide +kernel)) _ (by simp; omega)).mono ?_
                rintro e w4 ⟨rfl, rfl⟩
                go_wp2_with fail
                refine (Name_x (45 :: S) false (nmb_head (by decide +kernel)) _ (by simp; omega)).mono ?_
                rintro e w4 ⟨rfl, rfl⟩
                go_wp2_with fail
                refine (Name_x (78 :: S) false (nmb_head (by decide +kernel)) _ (by simp; omega)).mono ?_
                rintro e w4 ⟨rfl, rfl⟩
                go_wp2_with fail
                refine (Name_x [] false (by decide +kernel) _ (by decide)).mono ?_
                rintro e w4 ⟨rfl, rfl⟩
                go_wp2
                go_ret
                exact ⟨rfl, hx.out⟩
              · have hN : Hid (nmb S = false) := by show _ = _; rw [hf.out, hd20]; rfl
                clear hf hd20 h20
                go_wp2_with fail
                refine (awake_c _).mono ?_
                rintro e w3 ⟨rfl, hx3⟩
                replace hx := show Hid (Ext w w3) from hx.out.trans hx3
                clear hx3
                go_wp2_with fail
                refine (Name_x S false hN.out _ (by omega)).mono ?_
                rintro e w4 ⟨rfl, rfl⟩
                go_wp2_with fail
                refine (Name_x V false hV1.out _ (by omega)).mono ?_
                rintro e w4 ⟨rfl, rfl⟩
                go_wp2_with fail
                refine (Name_x (V ++ [120]) true hV2.out _ (by simp; omega)).mono ?_
                rintro e w4 ⟨rfl, rfl⟩
                go_wp2_with fail
                refine (Name_x (49 :: S) false (nmb_head (by decide +kernel)) _ (by simp; omega)).mono ?_
                rintro e w4 ⟨rfl, rfl⟩
                go_wp2_with fail
                refine (Name_x (45 :: S) false (nmb_head (by decide +kernel)) _ (by simp; omega)).mono ?_
                rintro e w4 ⟨rfl, rfl⟩
                go_wp2_with fail
                refine (Name_x (78 :: S) false (nmb_head (by decide +kernel)) _ (by simp; omega)).mono ?_
                rintro e w4 ⟨rfl, rfl⟩
                go_wp2_with fail
                refine (Name_x [] false (by decide +kernel) _ (by decide)).mono ?_
                rintro e w4 ⟨rfl, rfl⟩
                go_wp2
                go_ret
                exact ⟨rfl, hx.out⟩
            · have h20' : ¬ ((k : Int) + 1 ≤ 20) := by omega
              have hd20 : decide (S.length ≤ 20) = false := decide_eq_false h20
              have hN : Hid (nmb S = false) := by show _ = _; rw [hf.out, hd20]; rfl
              clear hf hd20 h20
              go_wp2_with fail
              refine (awake_c _).mono ?_
              rintro e w3 ⟨rfl, hx3⟩
              replace hx := show Hid (Ext w w3) from hx.out.trans hx3
              clear hx3
              go_wp2_with fail
              refine (Name_x S false hN.out _ (by omega)).mono ?_
              rintro e w4 ⟨rfl, rfl⟩
              go_wp2_with fail
              refine (Name_x V false hV1.out _ (by omega)).mono ?_
              rintro e w4 ⟨rfl, rfl⟩
              go_wp2_with fail
              refine (Name_x (V ++ [120]) true hV2.out _ (by simp; omega)).mono ?_
              rintro e w4 ⟨rfl, rfl⟩
              go_wp2_with fail
              refine (Name_x (49 :: S) false (nmb_head (by decide +kernel)) _ (by simp; omega)).mono ?_
              rintro e w4 ⟨rfl, rfl⟩
              go_wp2_with fail
              refine (Name_x (45 :: S) false (nmb_head (by decide +kernel)) _ (by simp; omega)).mono ?_
              rintro e w4 ⟨rfl, rfl⟩
              go_wp2_with fail
              refine (Name_x (78 :: S) false (nmb_head (by decide +kernel)) _ (by simp; omega)).mono ?_
              rintro e w4 ⟨rfl, rfl⟩
              go_wp2_with fail
              refine (Name_x [] false (by decide +kernel) _ (by decide)).mono ?_
              rintro e w4 ⟨rfl, rfl⟩
              go_wp2
              go_ret
              exact ⟨rfl, hx.out⟩
    · have i1 : ¬ (k : Int) < (n : Int) := by omega
      have hNm := show Hid _ from hM.out.name
      obtain ⟨r, hr⟩ : ∃ r : Nat, (IntKind.u64.wrap a1).tmod 34 = (r : Int) := ⟨((IntKind.u64.wrap a1).tmod 34).toNat, by have := tmod34 a1; omega⟩
      have hr34 : r < 34 := by have := tmod34 a1; omega
      obtain ⟨V, hV, hV1, hV2, hVl⟩ := word_at r hr34
      replace hV1 := show Hid _ from hV1
      replace hV2 := show Hid _ from hV2
      clear hM hc hb hn
      go_wp2_with fail
      refine (Words_c _).mono ?_
      rintro e w1 ⟨⟨g, rfl, hS⟩, hx1⟩
      replace hx := show Hid (Ext w w1) from hx.out.trans hx1
      have hcell := hS r V hV
      replace hS := show Hid (Strs w1 g wordsL) from hS
      clear hx1 hV
      go_wp2_with fail
      go_loop [9, 10] (fun bb i => ∃ (q : Nat) (B : Bool), q ≤ 34 ∧ i = .int .i64 q ∧ bb = .bool B ∧ Hid (decide (S ∈ wordsL) = (B || decide (S ∈ wordsL.drop q)))) (fun _ i => 34 - (RowKit.intOf i).toNat)
      case atStart => exact ⟨0, false, Nat.zero_le _, rfl, rfl, rfl⟩
      case round =>
        obtain ⟨q, B, hq, rfl, rfl, hA⟩ := hrel
        clear hcell
        by_cases hqt : q < 34
        · obtain ⟨U, hU⟩ : ∃ U, wordsL[q]? = some U := ⟨_, List.getElem?_eq_getElem (show q < wordsL.length from hqt)⟩
          have hcU := hS.out q U hU
          have hd := show Hid _ from drop_at hU
          have q1 : (q : Int) < 34 := by omega
          clear hU
          cases B
          · by_cases hUS : U = S
            · subst hUS
              have hf : Hid (decide (U ∈ wordsL) = (true || decide (U ∈ wordsL.drop (q + 1)))) := by show _ = _; rw [hA.out, hd.out]; simp
              clear hA hd
              go_wp2
              go_round
              case rel => exact ⟨q + 1, true, by omega, by go_num, by simp, hf⟩
              case measure => simp [RowKit.intOf]; omega
            · have hb1 : (U == S) = false := by simpa using hUS
              have hf : Hid (decide (S ∈ wordsL) = (false || decide (S ∈ wordsL.drop (q + 1)))) := by
                show _ = _
                rw [hA.out, hd.out]
                have h1' : ¬ S = U := fun e => hUS e.symm
                simp [h1']
              clear hA hd hUS
              go_wp2
              go_round
              case rel => exact ⟨q + 1, false, by omega, by go_num, rfl, hf⟩
              case measure => simp [RowKit.intOf]; omega
          · have hf : Hid (decide (S ∈ wordsL) = (true || decide (S ∈ wordsL.drop (q + 1)))) := by show _ = _; rw [hA.out]; simp
            clear hA hd
            go_wp2
            go_round
            case rel => exact ⟨q + 1, true, by omega, by go_num, rfl, hf⟩
            case measure => simp [RowKit.intOf]; omega
        · obtain rfl : q = 34 := by omega
          have hf : Hid (nmb S = (decide (S.length ≤ 20) && !B)) := by
            show _ = _
            rw [hNm.out, hA.out, show wordsL.drop 34 = [] from rfl]; simp
          clear hA hNm hS
          have hb2 : ¬ 9223372036854775807 < 1 + (k + 1) := by omega
          have hb3 : ¬ 9223372036854775807 < V.length + 1 := by omega
          by_cases h20 : S.length ≤ 20
          · have h20' : ((k : Int) + 1 ≤ 20) := by omega
            have hd20 : decide (S.length ≤ 20) = true := decide_eq_true h20
            cases B
            · have hN : Hid (nmb S = true) := by show _ = _; rw [hf.out, hd20]; rfl
              clear hf hd20 h20
              go_wp2_with fail
              refine (awake_c _).mono ?_
              rintro e w3 ⟨rfl, hx3⟩
              replace hx := show Hid (Ext w w3) from hx.out.trans hx3
              clear hx3
              go_wp2_with fail
              refine (Name_x S true hN.out _ (by omega)).mono ?_
              rintro e w4 ⟨rfl, rfl⟩
              go_wp2_with fail
              refine (Name_x V false hV1.out _ (by omega)).mono ?_
              rintro e w4 ⟨rfl, rfl⟩
              go_wp2_with fail
              refine (Name_x (V ++ [120]) true hV2.out _ (by simp; omega)).mono ?_
              rintro e w4 ⟨rfl, rfl⟩
              go_wp2_with fail
              refine (Name_x (49 :: S) false (nmb_head (by decide +kernel)) _ (by simp; omega)).mono ?_
              rintro e w4 ⟨rfl, rfl⟩
              go_wp2_with fail
              refine (Name_x (45 :: S) false (nmb_head (by decide +kernel)) _ (by simp; omega)).mono ?_
              rintro e w4 ⟨rfl, rfl⟩
              go_wp2_with fail
              refine (Name_x (78 :: S) false (nmb_head (by decide +kernel)) _ (by simp; omega)).mono ?_
              rintro e w4 ⟨rfl, rfl⟩
              go_wp2_with fail
              refine (Name_x [] false (by decide +kernel) _ (by decide)).mono ?_
              rintro e w4 ⟨rfl, rfl⟩
              go_wp2
              go_ret
              exact ⟨rfl, hx.out⟩
            · have hN : Hid (nmb S = false) := by show _ = _; rw [hf.out, hd20]; rfl
              clear hf hd20 h20
              go_wp2_with fail
              refine (awake_c _).mono ?_
              rintro e w3 ⟨rfl, hx3⟩
              replace hx := show Hid (Ext w w3) from hx.out.trans hx3
              clear hx3
              go_wp2_with fail
              refine (Name_x S false hN.out _ (by omega)).mono ?_
              rintro e w4 ⟨rfl, rfl⟩
              go_wp2_with fail
              refine (Name_x V false hV1.out _ (by omega)).mono ?_
              rintro e w4 ⟨rfl, rfl⟩
              go_wp2_with fail
              refine (Name_x (V ++ [120]) true hV2.out _ (by simp; omega)).mono ?_
              rintro e w4 ⟨rfl, rfl⟩
              go_wp2_with fail
              refine (Name_x (49 :: S) false (nmb_head (by decide +kernel)) _ (by simp; omega)).mono ?_
              rintro e w4 ⟨rfl, rfl⟩
              go_wp2_with fail
              refine (Name_x (45 :: S) false (nmb_head (by decide +kernel)) _ (by simp; omega)).mono ?_
              rintro e w4 ⟨rfl, rfl⟩
              go_wp2_with fail
              refine (Name_x (78 :: S) false (nmb_head (by decide +kernel)) _ (by simp; omega)).mono ?_
              rintro e w4 ⟨rfl, rfl⟩
              go_wp2_with fail
              refine (Name_x [] false (by decide +kernel) _ (by decide)).mono ?_
              rintro e w4 ⟨rfl, rfl⟩
              go_wp2
              go_ret
              exact ⟨rfl, hx.out⟩
          · have h20' : ¬ ((k : Int) + 1 ≤ 20) := by omega
            have hd20 : decide (S.length ≤ 20) = false := decide_eq_false h20
            have hN : Hid (nmb S = false) := by show _ = _; rw [hf.out, hd20]; rfl
            clear hf hd20 h20
            go_wp2_with fail
            refine (awake_c _).mono ?_
            rintro e w3 ⟨rfl, hx3⟩
            replace hx := show Hid (Ext w w3) from hx.out.trans hx3
            clear hx3
            go_wp2_with fail
            refine (Name_x S false hN.out _ (by omega)).mono ?_
            rintro e w4 ⟨rfl, rfl⟩
            go_wp2_with fail
            refine (Name_x V false hV1.out _ (by omega)).mono ?_
            rintro e w4 ⟨rfl, rfl⟩
            go_wp2_with fail
            refine (Name_x (V ++ [120]) true hV2.out _ (by simp; omega)).mono ?_
            rintro e w4 ⟨rfl, rfl⟩
            go_wp2_with fail
            refine (Name_x (49 :: S) false (nmb_head (by decide +kernel)) _ (by simp; omega)).mono ?_
            rintro e w4 ⟨rfl, rfl⟩
            go_wp2_with fail
            refine (Name_x (45 :: S) false (nmb_head (by decide +kernel)) _ (by simp; omega)).mono ?_
            rintro e w4 ⟨rfl, rfl⟩
            go_wp2_with fail
            refine (Name_x (78 :: S) false (nmb_head (by decide +kernel)) _ (by simp; omega)).mono ?_
            rintro e w4 ⟨rfl, rfl⟩
            go_wp2_with fail
            refine (Name_x [] false (by decide +kernel) _ (by decide)).mono ?_
            rintro e w4 ⟨rfl, rfl⟩
            go_wp2
            go_ret
            exact ⟨rfl, hx.out⟩
end Go.Proofs.Ytipnchejhjkomaa
