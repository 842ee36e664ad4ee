/- For every string s, of the project's tree at the commit that COMMIT names, LexerStand returns true and leaves its argument as it was, with the listed variables laid as the program's text lays them. -/
import Derived.Test.YtocdkgmmnkmlpaaDoorFrame
import Derived.Test.YtocdkgmmnkmlpaaDoorStand0
namespace Go.Proofs.YtocdkgmmnkmlpaaDoor.lexerStand
open Go.ChangeShapes Go.WideShapes Go.ChangeAt Go.RowKit Go.Lib
set_option linter.unusedVariables false

theorem place : ∀ (n p : Nat) (l : List UInt8) (q : Nat), l.length ≤ n → (lex p l).2 = some q → q < p + l.length := by
  intro n
  induction n with
  | zero =>
    intro p l q h hq
    obtain rfl : l = [] := List.eq_nil_of_length_eq_zero (by omega)
    rw [lex_end (l := []) rfl] at hq; simp at hq
  | succ n ih =>
    intro p l q h hq
    rw [lex_def p] at hq
    cases hm : l.drop (wh false l) with
    | nil => rw [hm] at hq; simp at hq
    | cons c m =>
      have hlen : l.length = wh false l + (m.length + 1) := by have := congrArg List.length hm; simp at this; have := wh_le false l; omega
      have hz := sz_le (c :: m)
      simp only [List.length_cons] at hz
      rw [hm] at hq
      simp only at hq
      by_cases hs : sz (c :: m) = 0
      · rw [if_pos hs] at hq
        have : p + wh false l = q := by simpa using hq
        omega
      · rw [if_neg hs] at hq
        have := ih _ _ q (by rw [List.length_drop]; simp; omega) hq
        rw [List.length_drop] at this
        simp only [List.length_cons] at this
        omega
theorem drop_get {ts us : List Tok} {t : Tok} {i : Nat} (h : ts.drop i = t :: us) : ts[i]? = some t ∧ ts.drop (i + 1) = us ∧ ts.length = i + (us.length + 1) := by
  have h1 : ts[i]? = some t := by
    have := congrArg (fun x => x[0]?) h
    simpa using this
  refine ⟨h1, by rw [← List.drop_drop, h]; rfl, ?_⟩
  have h2 := (List.getElem?_eq_some_iff.1 h1).1
  have h3 := congrArg List.length h
  rw [List.length_drop] at h3
  simp only [List.length_cons] at h3
  omega
theorem nl_eq (c : UInt8) : (c == 10) = ((c.toNat : Int) == 10) := by
  have := byte_all (fun c => (c == 10) == ((c.toNat : Int) == 10)) (by decide +kernel) c
  simpa using this
set_option maxHeartbeats 8000000 in
set_option maxRecDepth 100000 in

theorem walk (a0 : ByteArray) (w0 : a0.size ≤ maxLen) (w : World) (he : Env w) :
    Calls Tryd.prog 4 #[.string a0] w fun e w' => e = .returned (.bool true) ∧ Ext w w' := by
  replace he : Hid (Env w) := he
  unfold maxLen at w0
  obtain ⟨l, rfl⟩ : ∃ l : List UInt8, a0 = ⟨l.toArray⟩ := ⟨a0.data.toList, by cases a0; simp⟩
  rw [Lib.size_mk] at w0
  by_cases hl : 3000 < l.length
  · go_enter Tryd.func4, Tryd.ntmps4
    go_wp2_with fail
    refine (awake_c _ he).mono ?_
    rintro e w1 ⟨rfl, hx⟩
    replace hx := show Hid _ from hx
    go_wp2
    go_ret
    exact ⟨rfl, hx.out⟩
  have hl3 : l.length ≤ 3000 := by omega
  cases hlex : lex 0 l with
  | mk us o =>
    cases o with
    | some j =>
      have hj : j < l.length := by have := place l.length 0 l j (Nat.le_refl _) (by rw [hlex]); omega
      have h3 := a_bad (by omega) hlex
      replace h3 := show Hid _ from h3
      clear hlex
      go_enter Tryd.func4, Tryd.ntmps4
      go_wp2_with fail
      refine (All_x l _ _ _ h3.out.2.2 h3.out.1 h3.out.2.1 _ (by omega) he).mono ?_
      rintro e w1 ⟨⟨v, rfl, ho⟩, hx1⟩
      replace he : Hid (Env w1) := he.out.ext hx1
      have hx : Hid (Ext w w1) := hx1
      clear hx1 ho
      go_wp2_with fail
      refine (awake_c _ he).mono ?_
      rintro e w2 ⟨rfl, hx1⟩
      replace he : Hid (Env w2) := he.out.ext hx1
      replace hx : Hid (Ext w w2) := hx.out.trans hx1
      clear hx1
      go_wp2_with fail
      refine (awake_c _ he).mono ?_
      rintro e w3 ⟨rfl, hx1⟩
      replace hx : Hid (Ext w w3) := hx.out.trans hx1
      clear hx1
      go_wp2
      go_ret
      exact ⟨rfl, hx.out⟩
    | none =>
      have h3 := a_fin (by omega) hlex
      have hleft := Left.start hlex
      have hfew := lex_few l.length 0 l (Nat.le_refl _)
      rw [hlex] at hfew
      simp only at hfew
      obtain ⟨ts, hts⟩ : ∃ ts, us ++ [⟨0, l.length, []⟩] = ts := ⟨_, rfl⟩
      rw [hts] at h3 hleft
      have htsl : ts.length ≤ 3001 := by rw [← hts]; simp; omega
      have hne : ts ≠ [] := by rw [← hts]; simp
      have hpos : 1 ≤ ts.length := List.length_pos_iff.2 hne
      replace h3 := show Hid _ from h3
      replace hleft : Hid (Left l 0 ts) := hleft
      replace hne := show Hid _ from hne
      clear hlex hts hfew
      go_enter Tryd.func4, Tryd.ntmps4
      go_wp2_with fail
      refine (All_x l _ _ _ h3.out.2.2 h3.out.1 h3.out.2.1 _ (by omega) he).mono ?_
      rintro e w1 ⟨⟨v, rfl, ho⟩, hx1⟩
      replace he : Hid (Env w1) := he.out.ext hx1
      have hx : Hid (Ext w w1) := hx1
      clear hx1
      obtain ⟨g, cc, rfl, hrow⟩ := ho.some hne.out
      replace hrow : Hid (Row w1 g ts) := hrow
      clear ho
      go_wp2_with fail
      refine (awake_c _ he).mono ?_
      rintro e w2 ⟨rfl, hx1⟩
      replace hx : Hid (Ext w w2) := hx.out.trans hx1
      replace hrow : Hid (Row w2 g ts) := hrow.out.ext hx1
      clear hx1 he
      go_wp2_with fail
      go_loopw [6, 7] (fun a i wr => ∃ (p k : Nat), p ≤ l.length ∧ k ≤ ts.length ∧ a = .int .i64 (p : Int) ∧ i = .int .i64 (k : Int) ∧ Hid ((k < ts.length ∧ Left l p (ts.drop k)) ∨ (k = ts.length ∧ p = l.length)) ∧ Hid (Row wr g ts) ∧ Hid (Ext w wr)) (fun _ i _ => ts.length - (RowKit.intOf i).toNat)
      case atStart => exact ⟨0, 0, Nat.zero_le _, Nat.zero_le _, rfl, rfl, Or.inl ⟨by omega, by rw [List.drop_zero]; exact hleft.out⟩, hrow, hx⟩
      case round =>
        clear hrow hx hleft
        obtain ⟨p, k, hpl, hkl, rfl, rfl, hst, hrow, hx⟩ := hrel
        by_cases hlt : k < ts.length
        · have hL : Left l p (ts.drop k) := by
            rcases hst.out with h | h
            · exact h.2
            · omega
          obtain ⟨q, t, us2, hd, hq, hat, hql, htx, hcase⟩ := hL.next
          obtain ⟨hget, hdr, hlen⟩ := drop_get hd
          have k0 := hrow.out.k k t hget
          have k1 := hrow.out.a k t hget
          have k2 := hrow.out.s k t hget
          rw [hat] at k1
          obtain ⟨tk, ta, tx⟩ := t
          simp only at hat hql htx hcase k0 k1 k2
          subst hat
          obtain ⟨K, hK⟩ : ∃ K, ta + tx.length = K := ⟨_, rfl⟩
          have hpt : p ≤ ta := by omega
          have hd1 : decide ((ta : Int) < (p : Int)) = false := decide_eq_false (by omega)
          have hd1n : decide (ta < p) = false := decide_eq_false (by omega)
          have hsum : (ta : Int) + (tx.length : Int) = (K : Int) := by omega
          have hE := ext_part l ta K
          rw [show K - ta = tx.length by omega, htx] at hE
          rw [hK] at hql
          have htaK : ta ≤ K := by omega
          have hd2 : decide ((l.length : Int) < (K : Int)) = false := decide_eq_false (by omega)
          have hd2n : decide (l.length < K) = false := decide_eq_false (by omega)
          replace hq := show Hid _ from hq
          replace hK := show Hid _ from hK
          replace htx := show Hid _ from htx
          replace hdr := show Hid _ from hdr
          replace hlen := show Hid _ from hlen
          clear hd hget hL hst
          rcases hcase with ⟨hu, rfl, rfl, hta⟩ | ⟨hu, htk, htk3, htx0, hnext⟩
          · have hk1 : ((k : Int) == (ts.length : Int) - 1) = true := by
              have := hlen.out; rw [hu] at this; simp at this ⊢; omega
            have hnew : Hid ((k + 1 < ts.length ∧ Left l K (ts.drop (k + 1))) ∨ (k + 1 = ts.length ∧ K = l.length)) := by
              refine Or.inr ⟨?_, ?_⟩
              · have := hlen.out; rw [hu] at this; simp at this; omega
              · have := hK.out; simp at this; omega
            replace hu := show Hid _ from hu
            replace hta := show Hid _ from hta
            obtain rfl : ta = K := by have := hK.out; simpa using this
            replace k0 : wr.cell? ⟨g, k * 3, none⟩ = some (.int .i64 0) := k0
            clear hsum hK htx
            go_wp2_with fail
            obtain ⟨W0, b, hW0, hb, hx0, c0', c1', c2', z0, z1, z2⟩ := box3f wr (.int .i64 0) (.int .i64 (ta : Int)) (.string ⟨#[]⟩) 29
            rw [hW0, hb]
            replace hx : Hid (Ext w W0) := hx.out.trans hx0
            replace hrow : Hid (Row W0 g ts) := hrow.out.ext hx0
            clear hW0 hb hx0 z0 z1 z2 k0 k1 k2
            have L0 := Late.cell c0'
            have L1 := Late.cell c1'
            have L2 := Late.cell c2'
            have hNe1 : Nonempty (Late W0) := ⟨⟨_, Ext.refl _⟩⟩
            refine wp_region_late (by kernel_rfl) (by kernel_rfl) ?_
            repeat (go_big_quiet_step (fail))
            refine wpQuiet_nil ?_
            intro W1 hw'
            have c0 := (late_ext hw').cell_of c0'
            have c1 := (late_ext hw').cell_of c1'
            have c2 := (late_ext hw').cell_of c2'
            replace hx : Hid (Ext w W1) := hx.out.trans (late_ext hw')
            replace hrow : Hid (Row W1 g ts) := hrow.out.ext (late_ext hw')
            clear hw' c0' c1' c2' L0 L1 L2 hNe1
            go_wp2_with fail
            go_loop [9, 10] (fun r i => ∃ (b : Bool) (j : Nat), p ≤ j ∧ j ≤ ta ∧ r = .bool b ∧ i = .int .i64 (j : Int) ∧ Hid (j + wh b (l.drop j) = ta)) (fun _ i => ta - (RowKit.intOf i).toNat)
            case atStart => exact ⟨false, p, Nat.le_refl _, hpt, rfl, rfl, hq⟩
            case round =>
              obtain ⟨r, j, hpj, hjt, rfl, rfl, hj⟩ := hrel
              by_cases hjlt : j < ta
              · obtain ⟨c, m, hm⟩ := drop_lt (l := l) (j := j) (by omega)
                have g1 := get_at hm
                have hw : 0 < wh r (c :: m) := by rw [← hm]; have := hj.out; omega
                obtain ⟨h1, h2⟩ := wh_step hw
                have hj2 : j + 1 + wh (if c == 10 then false else if c == 35 then true else r) (l.drop (j + 1)) = ta := by
                  rw [drop_next hm]; have := hj.out; rw [hm, h1] at this; omega
                have hjl : j < l.length := by omega
                clear h1 hw
                replace hm := show Hid _ from hm
                clear hj
                cases e10 : (c == 10)
                · have x10 : ((c.toNat : Int) == 10) = false := by rw [← nl_eq]; exact e10
                  cases e35 : (c == 35)
                  · have x35 : ((c.toNat : Int) == 35) = false := by rw [← rm_iff]; exact e35
                    cases r with
                    | true =>
                      have hj3 : Hid (j + 1 + wh true (l.drop (j + 1)) = ta) := by rw [e10, e35] at hj2; exact hj2
                      clear hj2 h2 e10 e35
                      go_wp2
                      go_round
                      case rel => exact ⟨true, j + 1, by omega, by omega, rfl, by go_num, hj3⟩
                      case measure => simp [RowKit.intOf]; omega
                    | false =>
                      have hj3 : Hid (j + 1 + wh false (l.drop (j + 1)) = ta) := by rw [e10, e35] at hj2; exact hj2
                      have hbl : blankL.contains c = true := h2 (by rw [e10, e35]; rfl)
                      rw [bl_iff, x10, Bool.or_false] at hbl
                      clear hj2 h2 e10 e35
                      cases x32 : ((c.toNat : Int) == 32)
                      · rw [x32, Bool.false_or] at hbl
                        have y32 : ((c.toNat : Int) != 32) = true := by rw [bne, x32]; rfl
                        have y9 : ((c.toNat : Int) != 9) = false := by rw [bne, hbl]; rfl
                        replace hbl := show Hid _ from hbl
                        go_wp2
                        go_round
                        case rel => exact ⟨false, j + 1, by omega, by omega, rfl, by go_num, hj3⟩
                        case measure => simp [RowKit.intOf]; omega
                      · have y32 : ((c.toNat : Int) != 32) = false := by rw [bne, x32]; rfl
                        replace hbl := show Hid _ from hbl
                        go_wp2
                        go_round
                        case rel => exact ⟨false, j + 1, by omega, by omega, rfl, by go_num, hj3⟩
                        case measure => simp [RowKit.intOf]; omega
                  · have x35 : ((c.toNat : Int) == 35) = true := by rw [← rm_iff]; exact e35
                    have hj3 : Hid (j + 1 + wh true (l.drop (j + 1)) = ta) := by rw [e10, e35] at hj2; exact hj2
                    clear hj2 h2 e10 e35
                    go_wp2
                    go_round
                    case rel => exact ⟨true, j + 1, by omega, by omega, rfl, by go_num, hj3⟩
                    case measure => simp [RowKit.intOf]; omega
                · have x10 : ((c.toNat : Int) == 10) = true := by rw [← nl_eq]; exact e10
                  have hc10 : (c.toNat : Int) = 10 := by simpa using x10
                  have x35 : ((c.toNat : Int) == 35) = false := by rw [hc10]; rfl
                  have y10 : ((c.toNat : Int) != 10) = false := by rw [hc10]; rfl
                  have y9 : ((c.toNat : Int) != 9) = true := by rw [hc10]; rfl
                  have y32 : ((c.toNat : Int) != 32) = true := by rw [hc10]; rfl
                  have hj3 : Hid (j + 1 + wh false (l.drop (j + 1)) = ta) := by rw [e10] at hj2; exact hj2
                  clear hj2 h2 e10 hc10
                  go_wp2
                  go_round
                  case rel => exact ⟨false, j + 1, by omega, by omega, rfl, by go_num, hj3⟩
                  case measure => simp [RowKit.intOf]; omega
              · obtain rfl : j = ta := by omega
                clear hj
                go_wp2
                go_roundw
                case rel => exact ⟨_, k + 1, hql, by omega, rfl, by go_num, hnew, hrow, hx⟩
                case measure => simp [RowKit.intOf]; omega
          · have hk1 : ((k : Int) == (ts.length : Int) - 1) = false := by
              have := hlen.out
              have h2 : 0 < us2.length := List.length_pos_iff.2 hu
              simp; omega
            have hk0 : ((tk : Int) == 0) = false := by simpa using htk
            have hk0' : ((tk : Int) != 0) = true := by simpa using htk
            have hk0n : (tk == 0) = false := by simpa using htk
            have hk0n' : (tk != 0) = true := by simpa using htk
            have hnew : Hid ((k + 1 < ts.length ∧ Left l K (ts.drop (k + 1))) ∨ (k + 1 = ts.length ∧ K = l.length)) := by
              refine Or.inl ⟨?_, ?_⟩
              · have := hlen.out; have h2 : 0 < us2.length := List.length_pos_iff.2 hu; omega
              · rw [hdr.out, ← hK.out]; exact hnext
            have hba : ¬ ((⟨tx.toArray⟩ : ByteArray) = ⟨#[]⟩) := fun e => htx0 (by simpa using congrArg ByteArray.data e)
            have hs0 : decide ((⟨tx.toArray⟩ : ByteArray) = ⟨#[]⟩) = false := decide_eq_false hba
            have hs2 : tx.isEmpty = false := by cases tx with | nil => exact absurd rfl htx0 | cons _ _ => rfl
            replace hba := show Hid _ from hba
            replace hu := show Hid _ from hu
            replace htk := show Hid _ from htk
            replace htx0 := show Hid _ from htx0
            replace hnext := show Hid _ from hnext
            go_wp2_with fail
            obtain ⟨W0, b, hW0, hb, hx0, c0', c1', c2', z0, z1, z2⟩ := box3f wr (.int .i64 (tk : Int)) (.int .i64 (ta : Int)) (.string ⟨tx.toArray⟩) 29
            rw [hW0, hb]
            replace hx : Hid (Ext w W0) := hx.out.trans hx0
            replace hrow : Hid (Row W0 g ts) := hrow.out.ext hx0
            clear hW0 hb hx0 z0 z1 z2 k0 k1 k2
            have L0 := Late.cell c0'
            have L1 := Late.cell c1'
            have L2 := Late.cell c2'
            have hNe1 : Nonempty (Late W0) := ⟨⟨_, Ext.refl _⟩⟩
            refine wp_region_late (by kernel_rfl) (by kernel_rfl) ?_
            repeat (go_big_quiet_step (fail))
            refine wpQuiet_nil ?_
            intro W1 hw'
            have c0 := (late_ext hw').cell_of c0'
            have c1 := (late_ext hw').cell_of c1'
            have c2 := (late_ext hw').cell_of c2'
            replace hx : Hid (Ext w W1) := hx.out.trans (late_ext hw')
            replace hrow : Hid (Row W1 g ts) := hrow.out.ext (late_ext hw')
            clear hw' c0' c1' c2' L0 L1 L2 hNe1
            go_wp2_with fail
            go_loop [9, 10] (fun r i => ∃ (b : Bool) (j : Nat), p ≤ j ∧ j ≤ ta ∧ r = .bool b ∧ i = .int .i64 (j : Int) ∧ Hid (j + wh b (l.drop j) = ta)) (fun _ i => ta - (RowKit.intOf i).toNat)
            case atStart => exact ⟨false, p, Nat.le_refl _, hpt, rfl, rfl, hq⟩
            case round =>
              obtain ⟨r, j, hpj, hjt, rfl, rfl, hj⟩ := hrel
              by_cases hjlt : j < ta
              · obtain ⟨c, m, hm⟩ := drop_lt (l := l) (j := j) (by omega)
                have g1 := get_at hm
                have hw : 0 < wh r (c :: m) := by rw [← hm]; have := hj.out; omega
                obtain ⟨h1, h2⟩ := wh_step hw
                have hj2 : j + 1 + wh (if c == 10 then false else if c == 35 then true else r) (l.drop (j + 1)) = ta := by
                  rw [drop_next hm]; have := hj.out; rw [hm, h1] at this; omega
                have hjl : j < l.length := by omega
                clear h1 hw
                replace hm := show Hid _ from hm
                clear hj
                cases e10 : (c == 10)
                · have x10 : ((c.toNat : Int) == 10) = false := by rw [← nl_eq]; exact e10
                  cases e35 : (c == 35)
                  · have x35 : ((c.toNat : Int) == 35) = false := by rw [← rm_iff]; exact e35
                    cases r with
                    | true =>
                      have hj3 : Hid (j + 1 + wh true (l.drop (j + 1)) = ta) := by rw [e10, e35] at hj2; exact hj2
                      clear hj2 h2 e10 e35
                      go_wp2
                      go_round
                      case rel => exact ⟨true, j + 1, by omega, by omega, rfl, by go_num, hj3⟩
                      case measure => simp [RowKit.intOf]; omega
                    | false =>
                      have hj3 : Hid (j + 1 + wh false (l.drop (j + 1)) = ta) := by rw [e10, e35] at hj2; exact hj2
                      have hbl : blankL.contains c = true := h2 (by rw [e10, e35]; rfl)
                      rw [bl_iff, x10, Bool.or_false] at hbl
                      clear hj2 h2 e10 e35
                      cases x32 : ((c.toNat : Int) == 32)
                      · rw [x32, Bool.false_or] at hbl
                        have y32 : ((c.toNat : Int) != 32) = true := by rw [bne, x32]; rfl
                        have y9 : ((c.toNat : Int) != 9) = false := by rw [bne, hbl]; rfl
                        replace hbl := show Hid _ from hbl
                        go_wp2
                        go_round
                        case rel => exact ⟨false, j + 1, by omega, by omega, rfl, by go_num, hj3⟩
                        case measure => simp [RowKit.intOf]; omega
                      · have y32 : ((c.toNat : Int) != 32) = false := by rw [bne, x32]; rfl
                        replace hbl := show Hid _ from hbl
                        go_wp2
                        go_round
                        case rel => exact ⟨false, j + 1, by omega, by omega, rfl, by go_num, hj3⟩
                        case measure => simp [RowKit.intOf]; omega
                  · have x35 : ((c.toNat : Int) == 35) = true := by rw [← rm_iff]; exact e35
                    have hj3 : Hid (j + 1 + wh true (l.drop (j + 1)) = ta) := by rw [e10, e35] at hj2; exact hj2
                    clear hj2 h2 e10 e35
                    go_wp2
                    go_round
                    case rel => exact ⟨true, j + 1, by omega, by omega, rfl, by go_num, hj3⟩
                    case measure => simp [RowKit.intOf]; omega
                · have x10 : ((c.toNat : Int) == 10) = true := by rw [← nl_eq]; exact e10
                  have hc10 : (c.toNat : Int) = 10 := by simpa using x10
                  have x35 : ((c.toNat : Int) == 35) = false := by rw [hc10]; rfl
                  have y10 : ((c.toNat : Int) != 10) = false := by rw [hc10]; rfl
                  have y9 : ((c.toNat : Int) != 9) = true := by rw [hc10]; rfl
                  have y32 : ((c.toNat : Int) != 32) = true := by rw [hc10]; rfl
                  have hj3 : Hid (j + 1 + wh false (l.drop (j + 1)) = ta) := by rw [e10] at hj2; exact hj2
                  clear hj2 h2 e10 hc10
                  go_wp2
                  go_round
                  case rel => exact ⟨false, j + 1, by omega, by omega, rfl, by go_num, hj3⟩
                  case measure => simp [RowKit.intOf]; omega
              · obtain rfl : j = ta := by omega
                clear hj
                go_wp2
                go_roundw
                case rel => exact ⟨_, k + 1, hql, by omega, rfl, by go_num, hnew, hrow, hx⟩
                case measure => simp [RowKit.intOf]; omega
        · obtain ⟨hke, hpe⟩ : k = ts.length ∧ p = l.length := by
            rcases hst.out with h | h
            · omega
            · exact h
          subst hpe
          subst hke
          clear hst
          have hd : decide (1 ≤ (ts.length : Int)) = true := decide_eq_true (by omega)
          go_wp2
          go_ret
          exact ⟨rfl, hx.out⟩

set_option maxRecDepth 100000 in
theorem lifted (os : Os) (started : os.Started) (H : Type) (enc : TypeId × Value → H) :
    ReturnsInHanded {} Tryd.checked os 4 .any (fun w args => (Rows.lexerStandSpec.pre enc Tryd.prog Tryd.f4 [] false w args ∧ laidMetH Tryd.prog laid w) ∧ sizedMet enc Tryd.prog Tryd.f4 (OpenSpec.ofChange Rows.lexerStandSpec) false w args)
      (Rows.lexerStandSpec.post enc Tryd.prog Tryd.f4 false true false false) := by
  refine wrap started (by kernel_rfl) Tryd.func4
    (ChangeSpec.witness_shaped (enc := enc) (C := Tryd.checked) (os := os) (X := fun w _ => laidMetH Tryd.prog laid w) false (World.laidAll Tryd.prog os laid) #[.string ⟨#[]⟩] 8 (World.laidAll_os _ _ _)
      (World.shaped_of_ZipB (by kernel_rfl) (by kernel_rfl)) (by kernel_rfl) (by kernel_rfl) (by kernel_rfl)
      (by rw [MakeChecks.laidMetH_plain _ _ _ (by kernel_rfl)]; exact laidMet_laidAll _ (by kernel_rfl) (by kernel_rfl))) ?_
  intro W base args ds gs before hval0 hW hE
  have hval : ∀ (j : Nat) t v, Tryd.f4.params[j]? = some t → args[j]? = some v → Value.okWide Tryd.prog W .any base t v := hval0
  have hW' := hW
  obtain ⟨p, q, hA0, hV, rfl, _, _⟩ := hW
  have hA : DataW.TrodAll enc Tryd.prog W 0 (fun _ => true) true Tryd.f4.params.toList args.toList ds p := hA0
  rw [Tryd.params4] at hA hval
  obtain ⟨v0, vs0, d0, ds0, p0, q0, hargs, rfl, rfl, h0, r0⟩ := trodAll_cons hA
  obtain ⟨rfl, rfl, rfl⟩ := trodAll_nil r0
  obtain rfl : args = #[v0] := by cases args; simp_all
  obtain ⟨rfl, rfl⟩ := trodVars_none hV
  obtain ⟨a0, rfl, rfl, rfl, w0⟩ := Go.ChangeMaps.open_string Tryd.underlying9 (hval 0 9 v0 rfl rfl) h0
  clear hA0 hval0
  simp only [List.append_nil] at hW'
  refine (walk a0 w0 W hE).mono fun e W' ⟨he, hb⟩ => ?_
  subst he
  exact ⟨_, rfl, _, _, _, [], _, [], hW', (trodAll_cons_mk (shut_bool Tryd.underlying4 _) trodAll_mk0), (trodAll_cons_mk (Go.ChangeMaps.shut_string Tryd.underlying9 w0) trodAll_mk0), rfl, hb.below.frame _, fun h => by cases h⟩

theorem over : Rows.lexerStandRow.holds Tryd.pinned (OpenSpec.ofChange Rows.lexerStandSpec) :=
  OpenClaim.holds_of_wide 4 Tryd.f4 rfl rfl rfl rfl rfl rfl rfl ⟨rfl, rfl, rfl, rfl, rfl⟩ rfl rfl rfl rfl rfl (by kernel_rfl) Tryd.func4 (by kernel_rfl)
    (of_decide_eq_true (by kernel_rfl)) (by unfold Func.isWrapper; first | (rw [if_pos (by decide +kernel)]; kernel_rfl) | (rw [if_neg (by decide +kernel)]; exact ⟨rfl, rfl⟩))
    (fun os started H enc _ => lifted os started H enc)
end Go.Proofs.YtocdkgmmnkmlpaaDoor.lexerStand
namespace Go.Proofs.YtocdkgmmnkmlpaaDoor
theorem lexerStand_holds : Rows.LexerStandCardSaid :=
  Claim7.holds_tied_plain_at .later [] [.data, .pinned] true (true, "bb02076f46fe85bca606fee8305af3083b78a2dd3027bd5c5d7b576488f40cbf") true lexerStand.over (fun _ h => by cases h) (by kernel_rfl) (fun _ h => by cases h) lexerStand_row_tie rfl ⟨rfl, rfl⟩ (by kernel_rfl) rfl
    (fun f fn hf hfn => by
      obtain rfl : f = 4 := Option.some.inj ((show Tryd.prog.funcNamed "quittance/quittancelaw07.LexerStand" = some 4 by kernel_rfl).symm.trans hf) |>.symm
      obtain rfl : fn = Tryd.f4 := (Option.some.inj (Tryd.func4.symm.trans hfn)).symm
      exact ⟨by kernel_rfl, fun j t ht => by
        rw [Tryd.params4] at ht
        have hm : t ∈ [9] := by simpa using Array.mem_of_getElem? ht
        have hall : ([9].all fun u => !Tryd.prog.wantsStandIn u) = true := by kernel_rfl
        exact (show Tryd.prog.wantsStandIn t = false by simpa using List.all_eq_true.1 hall t hm)⟩)
    (by kernel_rfl)
#print axioms lexerStand_holds
end Go.Proofs.YtocdkgmmnkmlpaaDoor
