/- What the document's All answers, as a contract: no statement of the seat is proved here. -/
import Derived.Test.YtocdkgmmnkmlpaaDoorLex6
namespace Go.Proofs.YtocdkgmmnkmlpaaDoor
open Go.RowKit Go.Lib
set_option linter.unusedVariables false

/-- How far the signs of l have been told, at the place j, white or not. -/
structure Far (l : List UInt8) (j : Nat) (us : List Tok) : Prop where
  le : j ≤ l.length
  few : us.length ≤ j
  all : lex 0 l = (us ++ (lex j (l.drop j)).1, (lex j (l.drop j)).2)
theorem Far.start (l : List UInt8) : Far l 0 [] := ⟨Nat.zero_le _, Nat.zero_le _, by simp⟩
theorem Far.skip {l : List UInt8} {j n : Nat} {us : List Tok} (h : Far l j us) (hn : j + n ≤ l.length) (hw : wh false (l.drop j) = n + wh false (l.drop (j + n))) : Far l (j + n) us :=
  ⟨hn, by have := h.few; omega, by rw [h.all, lex_skip (n := n) (l := l.drop j) (by rw [hw, List.drop_drop]), List.drop_drop]⟩
theorem Far.fin {l : List UInt8} {j : Nat} {us : List Tok} (h : Far l j us) (hj : ¬ j < l.length) : lex 0 l = (us, none) := by
  have hd : l.drop j = [] := List.drop_of_length_le (by omega)
  rw [h.all, hd, lex_end (l := []) rfl]; simp
theorem Far.bad {l m : List UInt8} {c : UInt8} {j : Nat} {us : List Tok} (h : Far l j us) (hm : l.drop j = c :: m) (hw : wh false (c :: m) = 0) (hs : sz (c :: m) = 0) : lex 0 l = (us, some j) := by
  rw [h.all, hm, lex_bad hw hs]; simp
theorem Far.step {l m : List UInt8} {c : UInt8} {j n : Nat} {us : List Tok} (h : Far l j us) (hm : l.drop j = c :: m) (hw : wh false (c :: m) = 0) (hs : sz (c :: m) = n) (hn : 0 < n) :
    Far l (j + n) (us ++ [⟨kd (c :: m), j, (c :: m).take n⟩]) := by
  have hz := sz_le (c :: m)
  have hl := congrArg List.length hm
  rw [List.length_drop] at hl
  refine ⟨by have := h.le; omega, by have := h.few; simp; omega, ?_⟩
  have hd : (c :: m).drop n = l.drop (j + n) := by rw [← hm, List.drop_drop]
  rw [h.all, hm, lex_tok hw hs hn, hd]
  simp
/-- The bytes with which a word, or a number, goes on. -/
def Goes (k : Nat) (t : List UInt8) : Prop := (k = 1 ∧ t = inWL) ∨ (k = 2 ∧ t = inNL)
theorem kd_cases (c : UInt8) (m : List UInt8) : (kd (c :: m) = 0 ∧ sz (c :: m) = 0) ∨ (∃ k t, kd (c :: m) = k ∧ sz (c :: m) = rn m t + 1 ∧ Goes k t) ∨ (kd (c :: m) = 3 ∧ sz (c :: m) = 1) := by
  rw [sz_cons, kd_cons]
  split
  · exact Or.inr (Or.inl ⟨_, _, rfl, rfl, Or.inl ⟨rfl, rfl⟩⟩)
  · split
    · exact Or.inr (Or.inl ⟨_, _, rfl, rfl, Or.inr ⟨rfl, rfl⟩⟩)
    · split
      · exact Or.inr (Or.inr ⟨rfl, rfl⟩)
      · exact Or.inl ⟨rfl, rfl⟩
theorem goes_x (k : Nat) (t : List UInt8) (c : UInt8) (b : Bool) (h : Goes k t) (hb : t.contains c = b) (w : World) :
    Calls Tryd.prog 17 #[.int .i64 k, .int .u8 c.toNat] w fun e w' => e = .returned (.bool b) ∧ w' = w := by
  rcases h with ⟨rfl, rfl⟩ | ⟨rfl, rfl⟩
  · exact hb ▸ goesW_c c w
  · exact hb ▸ goesN_c c w
theorem kind_x (l m : List UInt8) (c : UInt8) (k : Nat) (v : Int) (hv : kdR (c :: m) = v) (w : World) (hm : l.drop k = c :: m) (hl : l.length ≤ 20000) (hk : k < l.length) :
    Calls Tryd.prog 16 #[.string ⟨l.toArray⟩, .int .i64 k] w fun e w' => e = .returned (.int .i64 v) ∧ w' = w := hv ▸ kind_c l m c k w hm hl hk
theorem bl_iff (c : UInt8) : blankL.contains c = (((c.toNat : Int) == 32) || ((c.toNat : Int) == 9) || ((c.toNat : Int) == 10)) := by
  have := byte_all (fun c => blankL.contains c == (((c.toNat : Int) == 32) || ((c.toNat : Int) == 9) || ((c.toNat : Int) == 10))) (by decide +kernel) c
  simpa using this
theorem rm_iff (c : UInt8) : (c == 35) = ((c.toNat : Int) == 35) := by
  have := byte_all (fun c => (c == 35) == ((c.toNat : Int) == 35)) (by decide +kernel) c
  simpa using this
theorem nl_iff (c : UInt8) : (c != 10) = ((c.toNat : Int) != 10) := by
  have := byte_all (fun c => (c != 10) == ((c.toNat : Int) != 10)) (by decide +kernel) c
  simpa using this
theorem drop_lt {l : List UInt8} {j : Nat} (h : j < l.length) : ∃ c m, l.drop j = c :: m := by
  cases hm : l.drop j with
  | nil => have := congrArg List.length hm; simp at this; omega
  | cons c m => exact ⟨c, m, rfl⟩
theorem bl_no {c : UInt8} (h : blankL.contains c = false) : ((c.toNat : Int) == 32) = false ∧ ((c.toNat : Int) == 9) = false ∧ ((c.toNat : Int) == 10) = false := by
  rw [bl_iff] at h
  simpa only [Bool.or_eq_false_iff, and_assoc] using h
theorem a_bad {l : List UInt8} {us : List Tok} {j : Nat} (hl : l.length ≤ 20000) (h : lex 0 l = (us, some j)) : aP l = j ∧ aE l = 6 ∧ aT l = [] := by
  have h' : ¬ 20000 < l.length := by omega
  simp [aP, aE, aT, h', h]
theorem a_fin {l : List UInt8} {us : List Tok} (hl : l.length ≤ 20000) (h : lex 0 l = (us, none)) : aP l = 0 ∧ aE l = 0 ∧ aT l = us ++ [⟨0, l.length, []⟩] := by
  have h' : ¬ 20000 < l.length := by omega
  simp [aP, aE, aT, h', h]
set_option maxHeartbeats 4000000 in
set_option maxRecDepth 100000 in
theorem rAll_le (l : List UInt8) (w : World) (hl : l.length ≤ 20000) :
    Calls Tryd.prog 10 #[.string ⟨l.toArray⟩] w fun e w' => (∃ v, e = .returned (.tuple #[v, .int .i64 (aP l), .int .i64 (aE l)]) ∧ Own w.heap.size w' v (aT l)) ∧ Ext w w' := by
  obtain ⟨i0, hi, hz0, hz1, hz2⟩ := info_parts info_tok
  go_enter Tryd.func10, Tryd.ntmps10
  go_wp2_with fail
  go_loopw [5, 6] (fun v i wr => ∃ (j : Nat) (us : List Tok), j ≤ l.length ∧ us.length ≤ j ∧ i = .int .i64 (j : Int) ∧ Hid (Far l j us) ∧ Hid (Own w.heap.size wr v us) ∧ Hid (Ext w wr)) (fun _ i _ => l.length - (RowKit.intOf i).toNat)
  case atStart => exact ⟨0, [], Nat.zero_le _, Nat.zero_le _, rfl, Far.start l, Own.nil _ _, Ext.refl w⟩
  case round =>
    obtain ⟨j, us, hjl, huj, rfl, hfar, ho, hx⟩ := hrel
    have hsz := hx.out.size
    by_cases hlt : j < l.length
    · obtain ⟨c, m, hm⟩ := drop_lt hlt
      have g0 := get_at hm
      have hlen := len_drop hm hjl
      simp only [List.length_cons] at hlen
      have hnx := drop_next hm
      replace hlen := show Hid _ from hlen
      cases hb : blankL.contains c
      · obtain ⟨b1, b2, b3⟩ := bl_no hb
        cases hr : (c == 35)
        · have b4 : ((c.toNat : Int) == 35) = false := by rw [← rm_iff]; exact hr
          have hw : wh false (c :: m) = 0 := by rw [wh, if_neg (by rw [hb]; simp), if_neg (by simpa using hr)]
          replace hw := show Hid _ from hw
          replace hm := show Hid _ from hm
          replace hnx := show Hid _ from hnx
          clear hb hr
          rcases kd_cases c m with ⟨h1, h2⟩ | ⟨k, t, h1, h2, h3⟩ | ⟨h1, h2⟩
          · have hv : kdR (c :: m) = -1 := by unfold kdR; rw [if_pos h1]
            have hbad := a_bad hl (hfar.out.bad hm.out hw.out h2)
            replace hbad := show Hid _ from hbad
            replace hv := show Hid _ from hv
            clear h1 h2
            go_wp2_with fail
            refine (kind_x l m c j (-1) hv.out _ hm.out hl hlt).mono ?_
            rintro e w1 ⟨rfl, rfl⟩
            go_wp2
            obtain ⟨e1, e2, e3⟩ := hbad.out
            rw [e1, e2, e3]
            exact bodyPost_ret (v := .tuple #[.slice none 0 0, .int .i64 j, .int .i64 6]) (by simp [results, Tryd.results10, go_sem]) rfl ⟨⟨_, rfl, Own.nil _ _⟩, hx.out⟩
          · have hv : kdR (c :: m) = k := by unfold kdR; rw [if_neg (by rw [h1]; rcases h3 with ⟨rfl, _⟩ | ⟨rfl, _⟩ <;> decide), h1]
            have hk3 : ((k : Int) != 3) = true := by rcases h3 with ⟨rfl, _⟩ | ⟨rfl, _⟩ <;> decide
            have hk0 : decide ((k : Int) < 0) = false := decide_eq_false (by omega)
            have hstep := hfar.out.step hm.out hw.out h2 (by omega)
            obtain ⟨J, hJ⟩ : ∃ J, j + (rn m t + 1) = J := ⟨_, rfl⟩
            obtain ⟨T, hT⟩ : ∃ T, (c :: m).take (rn m t + 1) = T := ⟨_, rfl⟩
            rw [hJ, h1, hT] at hstep
            have hJl := hstep.le
            have hE := ext_part l j J
            rw [hm.out, show J - j = rn m t + 1 by omega, hT] at hE
            have hjJ : j < J := by omega
            have hst : j + 1 + rn (l.drop (j + 1)) t = J := by rw [hnx.out]; omega
            replace hv := show Hid _ from hv
            replace h3 : Hid (Goes k t) := h3
            replace hstep := show Hid _ from hstep
            replace hst := show Hid _ from hst
            clear h1 h2 hJ hT
            go_wp2_with fail
            refine (kind_x l m c j k hv.out _ hm.out hl hlt).mono ?_
            rintro e w1 ⟨rfl, rfl⟩
            go_wp2_with fail
            go_loop [6] (fun i => ∃ q : Nat, q ≤ J ∧ j < q ∧ i = .int .i64 (q : Int) ∧ Hid (q + rn (l.drop q) t = J)) (fun i => l.length - (RowKit.intOf i).toNat)
            case atStart => exact ⟨j + 1, by omega, by omega, by go_num, hst⟩
            case round =>
              obtain ⟨q, hqJ, hjq, rfl, hq⟩ := hrel
              clear hst g0 b1 b2 b3 b4
              by_cases hql : q < l.length
              · obtain ⟨d, m2, hm2⟩ := drop_lt hql
                have g1 := get_at hm2
                cases hd : t.contains d
                · have hqe : J = q := by have h := hq.out; rw [hm2, rn_out hd] at h; omega
                  subst hqe
                  replace hd := show Hid _ from hd
                  replace hm2 := show Hid _ from hm2
                  clear hq
                  go_wp2_with fail
                  refine (goes_x k t d false h3.out hd.out _).mono ?_
                  rintro e w2 ⟨rfl, rfl⟩
                  go_wp2_with (at_builtin; refine wpList_append_own _ rfl (.tmp 72) (.tmp 80) 23 rfl w.heap.size 29 i0 (.agg #[.int .i64 0, .int .i64 0, .string ⟨#[]⟩]) 3 32 Tryd.underlying23 hi hz0 hz1 hz2 rfl (by decide) _ _ _ rfl (ho.out.row.alloc _) ⟨w2.heap.size, 0, none⟩ 1 1 (cellT ⟨k, j, T⟩) rfl rfl ?c1 ?c2 ?c3 ?c4 ?c5 ?_)
                  case c1 =>
                    intro p u hp
                    match p, hp with
                    | 0, hp => simp [cellT] at hp; subst hp; simp [Addr.add, go_sem]
                    | 1, hp => simp [cellT] at hp; subst hp; simp [Addr.add, go_sem]
                    | 2, hp => simp [cellT] at hp; subst hp; simp [Addr.add, go_sem]
                    | p + 3, hp => simp [cellT] at hp
                  case c2 => intro u hu; simp [cellT] at hu; rcases hu with rfl | rfl | rfl <;> rfl
                  case c3 => unfold maxLen; omega
                  case c4 => omega
                  case c5 => first | (simp; omega) | omega
                  intro v' w3 hown' hgrow _
                  have hx3 : Hid (Ext w w3) := ⟨((hx.out.alloc _ _).below).grown hgrow (by simp; omega) (own_lo ho.out.row)⟩
                  have hr3 : Hid (Own w.heap.size w3 v' (us ++ [⟨k, j, T⟩])) := Own.snoc hown'
                  clear hown' hgrow ho hx
                  go_wp2
                  go_roundw
                  case rel => exact ⟨J, us ++ [⟨k, j, T⟩], hstep.out.le, hstep.out.few, rfl, hstep, hr3, hx3⟩
                  case measure => simp [RowKit.intOf]; omega
                · have hq2 : q + 1 + rn (l.drop (q + 1)) t = J := by have h := hq.out; rw [hm2, rn_in hd] at h; rw [drop_next hm2]; omega
                  replace hq2 := show Hid _ from hq2
                  have hqJ2 : q + 1 ≤ J := by have := hq2.out; omega
                  replace hd := show Hid _ from hd
                  replace hm2 := show Hid _ from hm2
                  clear hq
                  go_wp2_with fail
                  refine (goes_x k t d true h3.out hd.out _).mono ?_
                  rintro e w2 ⟨rfl, rfl⟩
                  go_wp2
                  go_round
                  case rel => exact ⟨q + 1, hqJ2, by omega, by go_num, hq2⟩
                  case measure => simp [RowKit.intOf]; omega
              · have hqe : J = q := by omega
                subst hqe
                clear hq
                go_wp2_with (at_builtin; refine wpList_append_own _ rfl (.tmp 72) (.tmp 80) 23 rfl w.heap.size 29 i0 (.agg #[.int .i64 0, .int .i64 0, .string ⟨#[]⟩]) 3 32 Tryd.underlying23 hi hz0 hz1 hz2 rfl (by decide) _ _ _ rfl (ho.out.row.alloc _) ⟨w1.heap.size, 0, none⟩ 1 1 (cellT ⟨k, j, T⟩) rfl rfl ?c1 ?c2 ?c3 ?c4 ?c5 ?_)
                case c1 =>
                  intro p u hp
                  match p, hp with
                  | 0, hp => simp [cellT] at hp; subst hp; simp [go_sem]
                  | 1, hp => simp [cellT] at hp; subst hp; simp [go_sem]
                  | 2, hp => simp [cellT] at hp; subst hp; simp [go_sem]
                  | p + 3, hp => simp [cellT] at hp
                case c2 => intro u hu; simp [cellT] at hu; rcases hu with rfl | rfl | rfl <;> rfl
                case c3 => unfold maxLen; omega
                case c4 => omega
                case c5 => first | (simp; omega) | omega
                intro v' w3 hown' hgrow _
                have hx3 : Hid (Ext w w3) := ⟨((hx.out.alloc _ _).below).grown hgrow (by simp; omega) (own_lo ho.out.row)⟩
                have hr3 : Hid (Own w.heap.size w3 v' (us ++ [⟨k, j, T⟩])) := Own.snoc hown'
                clear hown' hgrow ho hx
                go_wp2
                go_roundw
                case rel => exact ⟨J, us ++ [⟨k, j, T⟩], hstep.out.le, hstep.out.few, rfl, hstep, hr3, hx3⟩
                case measure => simp [RowKit.intOf]; omega
          · have hv : kdR (c :: m) = 3 := by unfold kdR; rw [if_neg (by omega), h1]; rfl
            have hstep := hfar.out.step hm.out hw.out h2 (by omega)
            obtain ⟨J, hJ⟩ : ∃ J, j + 1 = J := ⟨_, rfl⟩
            obtain ⟨T, hT⟩ : ∃ T, (c :: m).take 1 = T := ⟨_, rfl⟩
            rw [hJ, h1, hT] at hstep
            have hJl := hstep.le
            have hE := ext_part l j J
            rw [hm.out, show J - j = 1 by omega, hT] at hE
            have hjJ : j < J := by omega
            have hsum : (j : Int) + 1 = (J : Int) := by omega
            replace hv := show Hid _ from hv
            replace hstep := show Hid _ from hstep
            clear h1 h2 hJ hT
            go_wp2_with fail
            refine (kind_x l m c j 3 hv.out _ hm.out hl hlt).mono ?_
            rintro e w1 ⟨rfl, rfl⟩
            go_wp2_with fail
            refine wp_loop_rounds 1 ?_
            rw [rounds_succ]
            go_wp2_with (at_builtin; refine wpList_append_own _ rfl (.tmp 72) (.tmp 80) 23 rfl w.heap.size 29 i0 (.agg #[.int .i64 0, .int .i64 0, .string ⟨#[]⟩]) 3 32 Tryd.underlying23 hi hz0 hz1 hz2 rfl (by decide) _ _ _ rfl (ho.out.row.alloc _) ⟨w1.heap.size, 0, none⟩ 1 1 (cellT ⟨3, j, T⟩) rfl rfl ?c1 ?c2 ?c3 ?c4 ?c5 ?_)
            case c1 =>
              intro p u hp
              match p, hp with
              | 0, hp => simp [cellT] at hp; subst hp; simp [Addr.add, go_sem]
              | 1, hp => simp [cellT] at hp; subst hp; simp [Addr.add, go_sem]
              | 2, hp => simp [cellT] at hp; subst hp; simp [Addr.add, go_sem]
              | p + 3, hp => simp [cellT] at hp
            case c2 => intro u hu; simp [cellT] at hu; rcases hu with rfl | rfl | rfl <;> rfl
            case c3 => unfold maxLen; omega
            case c4 => omega
            case c5 => first | (simp; omega) | omega
            intro v' w3 hown' hgrow _
            have hx3 : Hid (Ext w w3) := ⟨((hx.out.alloc _ _).below).grown hgrow (by simp; omega) (own_lo ho.out.row)⟩
            have hr3 : Hid (Own w.heap.size w3 v' (us ++ [⟨3, j, T⟩])) := Own.snoc hown'
            clear hown' hgrow ho hx
            go_wp2
            go_roundw
            case rel => exact ⟨J, us ++ [⟨3, j, T⟩], hstep.out.le, hstep.out.few, rfl, hstep, hr3, hx3⟩
            case measure => simp [RowKit.intOf]; omega
        · have b4 : ((c.toNat : Int) == 35) = true := by rw [← rm_iff]; exact hr
          have hbg : beg (l.drop j) remL = true := by rw [hm, beg_cons, show c = 35 by simpa using hr]; rfl
          obtain ⟨hw1, hw2⟩ := wh_line hbg
          obtain ⟨J, hJ⟩ : ∃ J, j + ln (l.drop j) = J := ⟨_, rfl⟩
          have hJl : J ≤ l.length := by have h := ln_le (l.drop j); rw [List.length_drop] at h; omega
          have hnew := hfar.out.skip (n := ln (l.drop j)) (by omega) (by rw [hw1, List.drop_drop])
          rw [hJ] at hnew
          have hjJ : j < J := by omega
          replace hnew := show Hid _ from hnew
          replace hJ := show Hid _ from hJ
          replace hm := show Hid _ from hm
          replace hnx := show Hid _ from hnx
          clear hb hr hbg hw1 hw2
          go_wp2_with fail
          go_loop [6] (fun i => ∃ q : Nat, q ≤ J ∧ i = .int .i64 (q : Int) ∧ Hid (q + ln (l.drop q) = J)) (fun i => l.length - (RowKit.intOf i).toNat)
          case atStart => exact ⟨j, by omega, rfl, hJ⟩
          case round =>
            obtain ⟨q, hqJ, rfl, hq⟩ := hrel
            clear g0 b1 b2 b3 b4
            by_cases hql : q < l.length
            · obtain ⟨d, m2, hm2⟩ := drop_lt hql
              have g1 := get_at hm2
              cases hd : (d != 10)
              · have hdd : ((d.toNat : Int) != 10) = false := by rw [← nl_iff]; exact hd
                have hqe : J = q := by
                  have h := hq.out
                  rw [hm2, show d = 10 by simpa using hd, ln_out] at h
                  omega
                subst hqe
                replace hd := show Hid _ from hd
                replace hm2 := show Hid _ from hm2
                clear hq
                go_wp2
                go_roundw
                case rel => exact ⟨_, us, hJl, hnew.out.few, rfl, hnew, ho, hx⟩
                case measure => simp [RowKit.intOf]; omega
              · have hdd : ((d.toNat : Int) != 10) = true := by rw [← nl_iff]; exact hd
                have hq2 : q + 1 + ln (l.drop (q + 1)) = J := by
                  have h := hq.out
                  rw [hm2, ln_in (by simpa using hd)] at h
                  rw [drop_next hm2]
                  omega
                have hqJ2 : q + 1 ≤ J := by omega
                replace hq2 := show Hid _ from hq2
                replace hd := show Hid _ from hd
                replace hm2 := show Hid _ from hm2
                clear hq
                go_wp2
                go_round
                case rel => exact ⟨q + 1, hqJ2, by go_num, hq2⟩
                case measure => simp [RowKit.intOf]; omega
            · have hqe : J = q := by omega
              subst hqe
              clear hq
              go_wp2
              go_roundw
              case rel => exact ⟨_, us, hJl, hnew.out.few, rfl, hnew, ho, hx⟩
              case measure => simp [RowKit.intOf]; omega
      · have hnew := hfar.out.skip (n := 1) (by omega) (by rw [hm, hnx, wh, if_pos hb])
        replace hnew := show Hid _ from hnew
        have hbl := bl_iff c
        rw [hb] at hbl
        replace hbl := show Hid _ from hbl
        replace hm := show Hid _ from hm
        replace hnx := show Hid _ from hnx
        clear hb
        cases b1 : ((c.toNat : Int) == 32) <;> cases b2 : ((c.toNat : Int) == 9) <;> cases b3 : ((c.toNat : Int) == 10)
        case false.false.false => exfalso; have h := hbl.out; rw [b1, b2, b3] at h; cases h
        all_goals
          go_wp2
          go_roundw
          case rel => exact ⟨j + 1, us, hnew.out.le, hnew.out.few, by go_num, hnew, ho, hx⟩
          case measure => simp [RowKit.intOf]; omega
    · have hfin := a_fin hl (hfar.out.fin hlt)
      replace hfin := show Hid _ from hfin
      go_wp2_with (at_builtin; refine wpList_append_own _ rfl (.tmp 82) (.tmp 86) 23 rfl w.heap.size 29 i0 (.agg #[.int .i64 0, .int .i64 0, .string ⟨#[]⟩]) 3 32 Tryd.underlying23 hi hz0 hz1 hz2 rfl (by decide) _ _ _ rfl (ho.out.row.alloc _) ⟨wr.heap.size, 0, none⟩ 1 1 (cellT ⟨0, l.length, []⟩) rfl rfl ?c1 ?c2 ?c3 ?c4 ?c5 ?_)
      case c1 =>
        intro p u hp
        match p, hp with
        | 0, hp => simp [cellT] at hp; subst hp; simp [Addr.add, go_sem]
        | 1, hp => simp [cellT] at hp; subst hp; simp [Addr.add, go_sem]
        | 2, hp => simp [cellT] at hp; subst hp; simp [Addr.add, go_sem]
        | p + 3, hp => simp [cellT] at hp
      case c2 => intro u hu; simp [cellT] at hu; rcases hu with rfl | rfl | rfl <;> rfl
      case c3 => unfold maxLen; omega
      case c4 => omega
      case c5 => first | (simp; omega) | omega
      intro v' w3 hown' hgrow _
      have hx3 : Hid (Ext w w3) := ⟨((hx.out.alloc _ _).below).grown hgrow (by simp; omega) (own_lo ho.out.row)⟩
      have hr3 : Hid (Own w.heap.size w3 v' (us ++ [⟨0, l.length, []⟩])) := Own.snoc hown'
      clear hown' hgrow ho hx
      go_wp2
      obtain ⟨e1, e2, e3⟩ := hfin.out
      rw [e1, e2, e3]
      exact bodyPost_ret (v := .tuple #[v', .int .i64 0, .int .i64 0]) (by simp [results, Tryd.results10, go_sem]) rfl ⟨⟨_, rfl, hr3.out⟩, hx3.out⟩
theorem rAll_long (l : List UInt8) (w : World) (hl : 20000 < l.length) (hm : l.length ≤ 9223372036854775807) :
    Calls Tryd.prog 10 #[.string ⟨l.toArray⟩] w fun e w' => (∃ v, e = .returned (.tuple #[v, .int .i64 0, .int .i64 3]) ∧ Own w.heap.size w' v []) ∧ Ext w w' := by
  go_enter Tryd.func10, Tryd.ntmps10
  go_wp2
  exact bodyPost_ret (v := .tuple #[.slice none 0 0, .int .i64 0, .int .i64 3]) (by simp [results, Tryd.results10, go_sem]) rfl ⟨⟨_, rfl, Own.nil _ _⟩, Ext.refl _⟩
theorem rAll_c (l : List UInt8) (w : World) (hm : l.length ≤ 9223372036854775807) :
    Calls Tryd.prog 10 #[.string ⟨l.toArray⟩] w fun e w' => (∃ v, e = .returned (.tuple #[v, .int .i64 (aP l), .int .i64 (aE l)]) ∧ Own w.heap.size w' v (aT l)) ∧ Ext w w' := by
  by_cases hl : 20000 < l.length
  · unfold aP aE aT
    rw [if_pos hl, if_pos hl, if_pos hl]; exact rAll_long l w hl hm
  · exact rAll_le l w (by omega)
end Go.Proofs.YtocdkgmmnkmlpaaDoor
