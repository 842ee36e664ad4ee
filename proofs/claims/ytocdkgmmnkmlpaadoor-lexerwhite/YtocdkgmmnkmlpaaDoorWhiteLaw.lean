/- For all strings s and remark, of the project's tree at the commit that COMMIT names, LexerWhite returns true and leaves its arguments as they were, with the listed variables laid as the program's text lays them. -/
import Derived.Test.YtocdkgmmnkmlpaaDoorFrame
import Derived.Test.YtocdkgmmnkmlpaaDoorWhite0
import Derived.Deep.DeepCutAuto
namespace Go.Proofs.YtocdkgmmnkmlpaaDoor.lexerWhite
open Go.ChangeShapes Go.WideShapes Go.ChangeAt Go.RowKit Go.Lib
set_option linter.unusedVariables false

theorem app2 (a b : List UInt8) : (⟨a.toArray⟩ : ByteArray) ++ ⟨b.toArray⟩ = ⟨(a ++ b).toArray⟩ := by
  apply ByteArray.ext
  simp [ByteArray.data_append]
theorem take_in {r m : List UInt8} {k : Nat} {c : UInt8} (h : r.drop k = c :: m) : r.take (k + 1) = r.take k ++ [c] := by
  have h1 : r[k]? = some c := by
    have := congrArg (fun x => x[0]?) h
    simpa using this
  rw [List.take_add_one, h1]; rfl
/-- The white, as far as it is made. -/
def wk (r : List UInt8) (k : Nat) : List UInt8 := 32 :: 35 :: (r.take k).filter (· != 10)
theorem wk_in {r m : List UInt8} {k : Nat} {c : UInt8} (h : r.drop k = c :: m) (hc : (c != 10) = true) : wk r (k + 1) = wk r k ++ [c] := by
  unfold wk; rw [take_in h]; simp [List.filter_append, hc]
theorem wk_out {r m : List UInt8} {k : Nat} {c : UInt8} (h : r.drop k = c :: m) (hc : (c != 10) = false) : wk r (k + 1) = wk r k := by
  unfold wk; rw [take_in h]; simp [List.filter_append, hc]
theorem wk_le (r : List UInt8) (k : Nat) : (wk r k).length ≤ k + 2 := by
  unfold wk
  have h1 := List.length_filter_le (· != 10) (r.take k)
  have h2 := List.length_take_le k r
  simp only [List.length_cons]
  omega
theorem wk_all (r : List UInt8) : wk r r.length ++ [10, 9] = whtOf r := by
  unfold wk whtOf; rw [List.take_length]; rfl
theorem jw_in {W : List UInt8} {ts : List Tok} {k : Nat} {t : Tok} (h : ts[k]? = some t) : joinW W (ts.take (k + 1)) = joinW W (ts.take k) ++ W ++ t.text := by
  rw [List.take_add_one, h, show (some t).toList = [t] from rfl, joinW_snoc, List.append_assoc]
theorem sig_at {xs ys : List Tok} (h : xs.map sig = ys.map sig) {k : Nat} {t : Tok} (ht : ys[k]? = some t) : ∃ u, xs[k]? = some u ∧ u.kind = t.kind ∧ u.text = t.text := by
  have h1 : (xs.map sig)[k]? = some (sig t) := by rw [h, List.getElem?_map, ht]; rfl
  rw [List.getElem?_map] at h1
  cases hu : xs[k]? with
  | none => rw [hu] at h1; simp at h1
  | some u =>
    rw [hu] at h1
    have h2 : sig u = sig t := by simpa using h1
    unfold sig at h2
    exact ⟨u, rfl, (Prod.mk.inj h2).1, (Prod.mk.inj h2).2⟩
theorem white_all {s r : List UInt8} {us : List Tok} (h : lex 0 s = (us, none)) (hl : (joinW (whtOf r) (us ++ [⟨0, s.length, []⟩])).length ≤ 20000) :
    aE (joinW (whtOf r) (us ++ [⟨0, s.length, []⟩])) = 0 ∧ (aT (joinW (whtOf r) (us ++ [⟨0, s.length, []⟩]))).map sig = (us ++ [(⟨0, s.length, []⟩ : Tok)]).map sig := by
  have h1 := lex_white (whtOf_wht r) s.length 0 0 s (Nat.le_refl _) (by rw [h])
  rw [h] at h1
  have e : joinW (whtOf r) (us ++ [⟨0, s.length, []⟩]) = joinW (whtOf r) us ++ whtOf r := by rw [joinW_snoc]; simp
  rw [e] at hl ⊢
  simp only at h1
  cases hx : lex 0 (joinW (whtOf r) us ++ whtOf r) with
  | mk xs o =>
    rw [hx] at h1
    obtain ⟨h2, h3⟩ := h1
    simp only at h2 h3
    subst h3
    obtain ⟨_, e2, e3⟩ := a_fin hl hx
    refine ⟨e2, ?_⟩
    rw [e3, List.map_append, List.map_append, h2]
    rfl
set_option maxHeartbeats 8000000 in
set_option maxRecDepth 100000 in

theorem walk (a0 : ByteArray) (w0 : a0.size ≤ maxLen) (a1 : ByteArray) (w1 : a1.size ≤ maxLen) (w : World) (he : Env w) :
    Calls Tryd.prog 5 #[.string a0, .string a1] w fun e w' => e = .returned (.bool true) ∧ Ext w w' := by
  replace he : Hid (Env w) := he
  unfold maxLen at w0 w1
  obtain ⟨s, rfl⟩ : ∃ l : List UInt8, a0 = ⟨l.toArray⟩ := ⟨a0.data.toList, by cases a0; simp⟩
  obtain ⟨r, rfl⟩ : ∃ l : List UInt8, a1 = ⟨l.toArray⟩ := ⟨a1.data.toList, by cases a1; simp⟩
  rw [Lib.size_mk] at w0 w1
  by_cases hs : 500 < s.length
  · have hd : decide (500 < (s.length : Int)) = true := decide_eq_true (by omega)
    go_enter Tryd.func5, Tryd.ntmps5
    go_wp2_with fail
    refine (awake_c _ he).mono ?_
    rintro e w1 ⟨rfl, hx⟩
    replace hx := show Hid _ from hx
    go_wp2
    go_ret
    exact ⟨rfl, hx.out⟩
  have hd1 : decide (500 < (s.length : Int)) = false := decide_eq_false (by omega)
  by_cases hr : 50 < r.length
  · have hd : decide (50 < (r.length : Int)) = true := decide_eq_true (by omega)
    go_enter Tryd.func5, Tryd.ntmps5
    go_wp2_with fail
    refine (awake_c _ he).mono ?_
    rintro e w1 ⟨rfl, hx⟩
    replace hx := show Hid _ from hx
    go_wp2
    go_ret
    exact ⟨rfl, hx.out⟩
  have hd2 : decide (50 < (r.length : Int)) = false := decide_eq_false (by omega)
  have hs1 : s.length ≤ 500 := by omega
  have hr1 : r.length ≤ 50 := by omega
  go_enter Tryd.func5, Tryd.ntmps5
  go_wp2_with fail
  go_loop [5, 6] (fun v i => ∃ (k : Nat) (X : List UInt8), k ≤ r.length ∧ X.length ≤ k + 2 ∧ v = .string ⟨X.toArray⟩ ∧ i = .int .i64 (k : Int) ∧ Hid (wk r k = X)) (fun _ i => r.length - (RowKit.intOf i).toNat)
  case atStart => exact ⟨0, [32, 35], Nat.zero_le _, Nat.le_refl _, rfl, rfl, rfl⟩
  case round =>
    obtain ⟨k, X, hk, hXl, rfl, rfl, hX⟩ := hrel
    by_cases hlt : k < r.length
    · obtain ⟨c, m, hm⟩ := drop_lt hlt
      have g1 := get_at hm
      cases hc : (c != 10)
      · have hc1 : ((c.toNat : Int) != 10) = false := by rw [← nl_iff]; exact hc
        have hX2 : Hid (wk r (k + 1) = X) := (wk_out hm hc).trans hX.out
        replace hm := show Hid _ from hm
        clear hX hc
        go_wp2
        go_round
        case rel => exact ⟨k + 1, X, by omega, by omega, rfl, by go_num, hX2⟩
        case measure => simp [RowKit.intOf]; omega
      · have hc1 : ((c.toNat : Int) != 10) = true := by rw [← nl_iff]; exact hc
        have hX2 : Hid (wk r (k + 1) = X ++ [c]) := by show _ = _; rw [wk_in hm hc, hX.out]
        have hE := ext_part r k (k + 1)
        rw [hm, show k + 1 - k = 1 by omega, show (c :: m).take 1 = [c] from rfl] at hE
        obtain ⟨X2, hX3⟩ : ∃ X2, X ++ [c] = X2 := ⟨_, rfl⟩
        rw [hX3] at hX2
        have hX2l : X2.length = X.length + 1 := by rw [← hX3]; simp
        have hap := app2 X [c]
        rw [hX3] at hap
        have hbig : ¬ 9223372036854775807 < X.length + 1 := by omega
        replace hm := show Hid _ from hm
        replace hX3 := show Hid _ from hX3
        replace hX2l := show Hid _ from hX2l
        clear hX hc
        go_wp2
        go_round
        case rel => exact ⟨k + 1, X2, by omega, by have := hX2l.out; omega, rfl, by go_num, hX2⟩
        case measure => simp [RowKit.intOf]; omega
    · obtain rfl : k = r.length := by omega
      obtain ⟨WT, hWT⟩ : ∃ WT, X ++ [10, 9] = WT := ⟨_, rfl⟩
      have hWe : Hid (WT = whtOf r) := by show _ = _; rw [← hWT, ← hX.out]; exact wk_all r
      have hWl : WT.length = X.length + 2 := by rw [← hWT]; simp
      have hap := app2 X [10, 9]
      rw [hWT] at hap
      have hbig : ¬ 9223372036854775807 < X.length + 2 := by omega
      have hWl2 : WT.length ≤ 54 := by omega
      replace hWT := show Hid _ from hWT
      replace hWl := show Hid _ from hWl
      clear hX
      cases hlex : lex 0 s with
      | mk us o =>
        cases o with
        | some p =>
          have h3 := a_bad (by omega) hlex
          replace h3 := show Hid _ from h3
          clear hlex
          go_wp2_with fail
          refine (rAll_x s _ _ _ h3.out.2.2 h3.out.1 h3.out.2.1 _ (by omega)).mono ?_
          rintro e W1 ⟨⟨v, rfl, ho⟩, hx1⟩
          replace he : Hid (Env W1) := he.out.ext hx1
          have hx : Hid (Ext w W1) := hx1
          clear hx1 ho
          go_wp2_with fail
          refine (awake_c _ he).mono ?_
          rintro e W2 ⟨rfl, hx1⟩
          replace hx : Hid (Ext w W2) := hx.out.trans hx1
          clear hx1
          go_wp2
          go_ret
          exact ⟨rfl, hx.out⟩
        | none =>
          have h3 := a_fin (by omega) hlex
          have hfew := lex_few s.length 0 s (Nat.le_refl _)
          have htxt := lex_text s.length 0 s (Nat.le_refl _)
          have hwa := white_all (r := r) hlex
          rw [hlex] at hfew htxt
          simp only at hfew htxt
          obtain ⟨ts, hts⟩ : ∃ ts, us ++ [⟨0, s.length, []⟩] = ts := ⟨_, rfl⟩
          rw [hts] at h3 hwa
          have htsl : ts.length ≤ 501 := by rw [← hts]; simp; omega
          have hne : ts ≠ [] := by rw [← hts]; simp
          have htx : ∀ t ∈ ts, t.text.length ≤ 500 := by
            rw [← hts]
            intro t ht
            rcases List.mem_append.1 ht with h | h
            · have := htxt t h; omega
            · have : t = ⟨0, s.length, []⟩ := by simpa using h
              rw [this]; simp
          have htx2 : Hid (∀ t ∈ ts, t.text.length ≤ 500) := htx
          rw [← hWe.out] at hwa
          replace h3 := show Hid _ from h3
          replace hne := show Hid _ from hne
          replace hwa := show Hid _ from hwa
          clear hlex hts hfew htxt htx
          go_wp2_with fail
          refine (rAll_x s _ _ _ h3.out.2.2 h3.out.1 h3.out.2.1 _ (by omega)).mono ?_
          rintro e W1 ⟨⟨v, rfl, ho⟩, hx1⟩
          replace he : Hid (Env W1) := he.out.ext hx1
          have hx : Hid (Ext w W1) := hx1
          obtain ⟨g, cc, rfl, hrow⟩ := ho.some hne.out
          replace hrow : Hid (Row W1 g ts) := hrow
          clear hx1 ho
          go_wp2_with fail
          go_loop [10, 11] (fun v i => ∃ (k : Nat) (Y : List UInt8), k ≤ ts.length ∧ Y.length ≤ 600 * k ∧ v = .string ⟨Y.toArray⟩ ∧ i = .int .i64 (k : Int) ∧ Hid (joinW WT (ts.take k) = Y)) (fun _ i => ts.length - (RowKit.intOf i).toNat)
          case atStart => exact ⟨0, [], Nat.zero_le _, Nat.zero_le _, rfl, rfl, rfl⟩
          case round =>
            obtain ⟨k, Y, hk, hYl, rfl, rfl, hY⟩ := hrel
            by_cases hlt : k < ts.length
            · have hget : ts[k]? = some ts[k] := List.getElem?_eq_getElem hlt
              have hlen := htx2.out _ (List.getElem_mem hlt)
              generalize ts[k] = t at hget hlen
              have k2 := hrow.out.s k t hget
              have hnew := jw_in (W := WT) hget
              obtain ⟨tk, ta, tx⟩ := t
              simp only at k2 hnew hlen
              rw [hY.out] at hnew
              obtain ⟨Y1, hY1⟩ : ∃ Y1, Y ++ WT = Y1 := ⟨_, rfl⟩
              obtain ⟨Y2, hY2⟩ : ∃ Y2, Y1 ++ tx = Y2 := ⟨_, rfl⟩
              have ap1 := app2 Y WT
              have ap2 := app2 Y1 tx
              rw [hY1] at ap1 hnew
              rw [hY2] at ap2 hnew
              have l1 : Y1.length = Y.length + WT.length := by rw [← hY1]; simp
              have l2 : Y2.length = Y1.length + tx.length := by rw [← hY2]; simp
              have big1 : ¬ 9223372036854775807 < Y.length + WT.length := by omega
              have big2 : ¬ 9223372036854775807 < Y1.length + tx.length := by omega
              have l3 : Y2.length ≤ 600 * (k + 1) := by omega
              replace hnew := show Hid _ from hnew
              replace l1 := show Hid _ from l1
              replace l2 := show Hid _ from l2
              replace hY1 := show Hid _ from hY1
              replace hY2 := show Hid _ from hY2
              clear hY hget
              go_wp2
              go_round
              case rel => exact ⟨k + 1, Y2, by omega, l3, rfl, by go_num, hnew⟩
              case measure => simp [RowKit.intOf]; omega
            · obtain rfl : k = ts.length := by omega
              have hYe : Hid (joinW WT ts = Y) := by have h := hY.out; rw [List.take_length] at h; exact h
              clear hY
              by_cases hbig : 20000 < Y.length
              · go_wp2_with fail
                refine (awake_c _ he).mono ?_
                rintro e W2 ⟨rfl, hx1⟩
                replace hx : Hid (Ext w W2) := hx.out.trans hx1
                clear hx1
                go_wp2
                go_ret
                exact ⟨rfl, hx.out⟩
              · obtain ⟨hE0, hsig⟩ := hwa.out (by rw [hYe.out]; omega)
                rw [hYe.out] at hE0 hsig
                obtain ⟨ms, hms⟩ : ∃ ms, aT Y = ms := ⟨_, rfl⟩
                obtain ⟨pp, hpp⟩ : ∃ pp, aP Y = pp := ⟨_, rfl⟩
                rw [hms] at hsig
                have hml : ms.length = ts.length := by have := congrArg List.length hsig; simpa using this
                have hmne : ms ≠ [] := by
                  intro e
                  rw [e] at hml
                  exact hne.out (List.eq_nil_of_length_eq_zero (by simpa using hml.symm))
                replace hE0 := show Hid _ from hE0
                replace hms := show Hid _ from hms
                replace hpp := show Hid _ from hpp
                replace hmne := show Hid _ from hmne
                replace hsig := show Hid _ from hsig
                replace hml := show Hid _ from hml
                go_wp2_with fail
                refine (All_x Y ms pp 0 hms.out hpp.out hE0.out _ (by omega) he).mono ?_
                rintro e W2 ⟨⟨v, rfl, ho⟩, hx1⟩
                replace he : Hid (Env W2) := he.out.ext hx1
                replace hx : Hid (Ext w W2) := hx.out.trans hx1
                replace hrow : Hid (Row W2 g ts) := hrow.out.ext hx1
                obtain ⟨g2, c2, rfl, hrow2⟩ := ho.some hmne.out
                rw [hml.out]
                replace hrow2 : Hid (Row W2 g2 ms) := hrow2
                clear hx1 ho
                go_wp2_with fail
                refine (awake_c _ he).mono ?_
                rintro e W3 ⟨rfl, hx1⟩
                replace hx : Hid (Ext w W3) := hx.out.trans hx1
                replace hrow : Hid (Row W3 g ts) := hrow.out.ext hx1
                replace hrow2 : Hid (Row W3 g2 ms) := hrow2.out.ext hx1
                clear hx1
                go_wp2_with fail
                go_loopw [15] (fun i wr => ∃ k : Nat, k ≤ ts.length ∧ i = .int .i64 (k : Int) ∧ Hid (Ext W3 wr)) (fun i _ => ts.length - (RowKit.intOf i).toNat)
                case atStart => exact ⟨0, Nat.zero_le _, rfl, Ext.refl _⟩
                case round =>
                  obtain ⟨k, hk2, rfl, hxr⟩ := hrel
                  by_cases hlt2 : k < ts.length
                  · have hget : ts[k]? = some ts[k] := List.getElem?_eq_getElem hlt2
                    generalize ts[k] = t at hget
                    obtain ⟨u, hu, hu1, hu2⟩ := sig_at hsig.out hget
                    have p0 := hxr.out.cell_of (hrow.out.k k _ hget)
                    have p2 := hxr.out.cell_of (hrow.out.s k _ hget)
                    have q0 := hxr.out.cell_of (hrow2.out.k k _ hu)
                    have q2 := hxr.out.cell_of (hrow2.out.s k _ hu)
                    rw [hu1] at q0
                    rw [hu2] at q2
                    obtain ⟨tk, ta, tx⟩ := t
                    simp only at p0 p2 q0 q2
                    clear hget hu hu1 hu2
                    have L0 := Late.cell p0
                    have L2 := Late.cell p2
                    have M0 := Late.cell q0
                    have M2 := Late.cell q2
                    have hlt3 : (k : Int) < (ts.length : Int) := by omega
                    have hNe1 : Nonempty (Late wr) := ⟨⟨_, Ext.refl _⟩⟩
                    go_wp2_with fail
                    refine wp_region_late (by kernel_rfl) (by kernel_rfl) ?_
                    repeat (go_big_quiet_step (fail))
                    refine wpQuiet_nil ?_
                    intro W8 hw'
                    have hx8 : Hid (Ext W3 W8) := hxr.out.trans (late_ext hw')
                    clear hw' L0 L2 M0 M2 p0 p2 q0 q2 hNe1
                    go_wp2
                    go_roundw
                    case rel => exact ⟨k + 1, by omega, by go_num, hx8⟩
                    case measure => simp [RowKit.intOf]; omega
                  · obtain rfl : k = ts.length := by omega
                    have hx2 : Hid (Ext w wr) := hx.out.trans hxr.out
                    go_wp2
                    go_ret
                    exact ⟨rfl, hx2.out⟩

set_option maxRecDepth 100000 in
theorem lifted (os : Os) (started : os.Started) (H : Type) (enc : TypeId × Value → H) :
    ReturnsInHanded {} Tryd.checked os 5 .any (fun w args => (Rows.lexerWhiteSpec.pre enc Tryd.prog Tryd.f5 [] false w args ∧ laidMetH Tryd.prog laid w) ∧ sizedMet enc Tryd.prog Tryd.f5 (OpenSpec.ofChange Rows.lexerWhiteSpec) false w args)
      (Rows.lexerWhiteSpec.post enc Tryd.prog Tryd.f5 false true false false) := by
  refine wrap started (by kernel_rfl) Tryd.func5
    (ChangeSpec.witness_shaped (enc := enc) (C := Tryd.checked) (os := os) (X := fun w _ => laidMetH Tryd.prog laid w) false (World.laidAll Tryd.prog os laid) #[.string ⟨#[]⟩, .string ⟨#[]⟩] 8 (World.laidAll_os _ _ _)
      (World.shaped_of_ZipB (by kernel_rfl) (by kernel_rfl)) (by kernel_rfl) (by kernel_rfl) (by kernel_rfl)
      (by rw [MakeChecks.laidMetH_plain _ _ _ (by kernel_rfl)]; exact laidMet_laidAll _ (by kernel_rfl) (by kernel_rfl))) ?_
  intro W base args ds gs before hval0 hW hE
  have hval : ∀ (j : Nat) t v, Tryd.f5.params[j]? = some t → args[j]? = some v → Value.okWide Tryd.prog W .any base t v := hval0
  have hW' := hW
  obtain ⟨p, q, hA0, hV, rfl, _, _⟩ := hW
  have hA : DataW.TrodAll enc Tryd.prog W 0 (fun _ => true) true Tryd.f5.params.toList args.toList ds p := hA0
  rw [Tryd.params5] at hA hval
  obtain ⟨v0, vs0, d0, ds0, p0, q0, hargs, rfl, rfl, h0, r0⟩ := trodAll_cons hA
  obtain ⟨v1, vs1, d1, ds1, p1, q1, rfl, rfl, rfl, h1, r1⟩ := trodAll_cons r0
  obtain ⟨rfl, rfl, rfl⟩ := trodAll_nil r1
  obtain rfl : args = #[v0, v1] := by cases args; simp_all
  obtain ⟨rfl, rfl⟩ := trodVars_none hV
  obtain ⟨a0, rfl, rfl, rfl, w0⟩ := Go.ChangeMaps.open_string Tryd.underlying9 (hval 0 9 v0 rfl rfl) h0
  obtain ⟨a1, rfl, rfl, rfl, w1⟩ := Go.ChangeMaps.open_string Tryd.underlying9 (hval 1 9 v1 rfl rfl) h1
  clear hA0 hval0
  simp only [List.append_nil] at hW'
  refine (walk a0 w0 a1 w1 W hE).mono fun e W' ⟨he, hb⟩ => ?_
  subst he
  exact ⟨_, rfl, _, _, _, [], _, [], hW', (trodAll_cons_mk (shut_bool Tryd.underlying4 _) trodAll_mk0), (trodAll_cons_mk (Go.ChangeMaps.shut_string Tryd.underlying9 w0) (trodAll_cons_mk (Go.ChangeMaps.shut_string Tryd.underlying9 w1) trodAll_mk0)), rfl, hb.below.frame _, fun h => by cases h⟩

theorem over : Rows.lexerWhiteRow.holds Tryd.pinned (OpenSpec.ofChange Rows.lexerWhiteSpec) :=
  OpenClaim.holds_of_wide 5 Tryd.f5 rfl rfl rfl rfl rfl rfl rfl ⟨rfl, rfl, rfl, rfl, rfl⟩ rfl rfl rfl rfl rfl (by kernel_rfl) Tryd.func5 (by kernel_rfl)
    (of_decide_eq_true (by kernel_rfl)) (by unfold Func.isWrapper; first | (rw [if_pos (by decide +kernel)]; kernel_rfl) | (rw [if_neg (by decide +kernel)]; exact ⟨rfl, rfl⟩))
    (fun os started H enc _ => lifted os started H enc)
end Go.Proofs.YtocdkgmmnkmlpaaDoor.lexerWhite
namespace Go.Proofs.YtocdkgmmnkmlpaaDoor
theorem lexerWhite_holds : Rows.LexerWhiteCardSaid :=
  Claim7.holds_tied_plain_at .later [] [.data, .pinned] true (true, "bb02076f46fe85bca606fee8305af3083b78a2dd3027bd5c5d7b576488f40cbf") true lexerWhite.over (fun _ h => by cases h) (by kernel_rfl) (fun _ h => by cases h) lexerWhite_row_tie rfl ⟨rfl, rfl⟩ (by kernel_rfl) rfl
    (fun f fn hf hfn => by
      obtain rfl : f = 5 := Option.some.inj ((show Tryd.prog.funcNamed "quittance/quittancelaw07.LexerWhite" = some 5 by kernel_rfl).symm.trans hf) |>.symm
      obtain rfl : fn = Tryd.f5 := (Option.some.inj (Tryd.func5.symm.trans hfn)).symm
      exact ⟨by kernel_rfl, fun j t ht => by
        rw [Tryd.params5] at ht
        have hm : t ∈ [9, 9] := by simpa using Array.mem_of_getElem? ht
        have hall : ([9, 9].all fun u => !Tryd.prog.wantsStandIn u) = true := by kernel_rfl
        exact (show Tryd.prog.wantsStandIn t = false by simpa using List.all_eq_true.1 hall t hm)⟩)
    (by kernel_rfl)
#print axioms lexerWhite_holds
end Go.Proofs.YtocdkgmmnkmlpaaDoor
