/- For all slices of ints l and all ints from, n and m, of the project's tree at the commit that COMMIT names, BusinessCounts returns true and leaves its arguments as they were, with the listed variables laid as the program's text lays them. -/
import Derived.Test.YtkkpnhcodaijeaaDoorFrame
import Derived.Test.YtkkpnhcodaijeaaDoorBiz9
import Derived.Deep.CutBlock
namespace Go.Proofs.YtkkpnhcodaijeaaDoor.businessCounts
open Go.ChangeShapes Go.WideShapes Go.ChangeAt Go.RowKit Go.Lib
set_option linter.unusedVariables false

set_option maxHeartbeats 4000000 in
set_option maxRecDepth 100000 in

theorem walk (v0 : Value) (l0 : List Int) (n0 : l0.length ≤ maxLen) (b0 : ∀ x ∈ l0, I64 x) (a1 : Int) (w1 : (Lit.int .i64 a1).wf = true) (a2 : Int) (w2 : (Lit.int .i64 a2).wf = true) (a3 : Int) (w3 : (Lit.int .i64 a3).wf = true) (w : World) (he : Env w) (s0 : Slc w v0 l0) :
    Calls Tryd.prog 6 #[v0, .int .i64 a1, .int .i64 a2, .int .i64 a3] w fun e w' => e = .returned (.bool true) ∧ Ext w w' := by
  obtain ⟨ao, c, hv, _, _⟩ := s0.src
  subst hv
  replace s0 : Hid (Slc w (.slice ao l0.length c) l0) := s0
  replace he : Hid (Env w) := he
  unfold maxLen at n0
  obtain ⟨n, hn⟩ : ∃ n, l0.length = n := ⟨_, rfl⟩
  rw [hn] at n0 s0 ⊢
  replace hn := show Hid _ from hn
  clear w1 w2 w3 b0
  obtain ⟨R, hR, R1, R2⟩ := u64_mod a1 50000 (by omega)
  obtain ⟨D, hD⟩ : ∃ D, 10000 + R = D := ⟨_, rfl⟩
  have D1 : 10000 ≤ D := by omega
  have D2 : D < 60000 := by omega
  obtain ⟨N, hNN, N1, N2⟩ := u64_mod a2 200 (by omega)
  obtain ⟨M, hMM, M1, M2⟩ := u64_mod a3 200 (by omega)
  obtain ⟨i0, hi, hz0, hz1, hz2⟩ := info_parts info_int
  go_enter Tryd.func6, Tryd.ntmps6
  go_upto_block 0 with fail
  go_cut [9] from 26 (fun v wx => ∃ L : List Int, L.length ≤ 30 ∧ Hid (wx.ownsRow w.heap.size 3 1 v L.length (L.map (.int .i64))) ∧ Hid (Gat L (D) (D + 399)) ∧ Hid (Ext w wx))
  case first =>
    go_wp2_with fail
    go_loopw [9, 10] (fun v i wr => ∃ (k : Nat) (L : List Int), k ≤ n ∧ k ≤ 30 ∧ i = .int .i64 k ∧ L.length ≤ k ∧ Hid (wr.ownsRow w.heap.size 3 1 v L.length (L.map (.int .i64))) ∧ Hid (Gat L (D) (D + 399)) ∧ Hid (Ext w wr)) (fun _ i _ => 30 - (RowKit.intOf i).toNat)
    case atStart => exact ⟨0, [], Nat.zero_le _, by omega, rfl, Nat.le_refl _, World.ownsRow_nil _ _ _ _, Gat.nil _ _, Ext.refl w⟩
    case round =>
      obtain ⟨k, L, hk, hk3, rfl, hL, hr, hG, hx⟩ := hrel
      by_cases h1 : k < n
      · by_cases h2 : k < 30
        · obtain ⟨b, off, V, rfl, hV, hcell0⟩ := s0.out.at h1
          have hcell := hx.out.cell_of hcell0
          clear hcell0 hV
          obtain ⟨S, hS, S1, S2⟩ := u64_mod V 400 (by omega)
          have hsz := hx.out.size
          by_cases hnil : L = []
          · subst hnil
            obtain ⟨ao', c', rfl⟩ := own_none hr.out
            have hr' : Hid (wr.ownsRow w.heap.size 3 1 (.slice ao' 0 c') 0 []) := hr.out
            have hG' : Hid (Gat [D + S] (D) (D + 399)) := (Gat.nil (D) (D + 399)).add (fun x hx => by cases hx) (by omega) (by omega)
            clear hr hG
            go_wp2_with (at_builtin; refine wpList_append_own _ rfl (.tmp 71) (.tmp 73) 22 rfl w.heap.size 3 i0 (.int .i64 0) 1 8 Tryd.underlying22 hi hz0 hz1 hz2 rfl (by decide) _ _ _ rfl (hr'.out.alloc _) ⟨wr.heap.size, 0, none⟩ 1 1 [.int .i64 (D + S)] rfl rfl ?c1 ?c2 ?c3 ?c4 ?c5 ?_)
            case c1 =>
              intro j u hj
              match j, hj with
              | 0, hj => simp at hj; subst hj; simp [Addr.add]
            case c2 => intro u hu; simp at hu; subst hu; rfl
            case c3 => unfold maxLen; omega
            case c4 => omega
            case c5 => simp; omega
            intro v' w3 hown' hgrow _
            have hx3 : Hid (Ext w w3) := ⟨((hx.out.alloc _ _).below).grown hgrow (by simp; omega) (own_lo hr'.out)⟩
            have hr3 : Hid (w3.ownsRow w.heap.size 3 1 v' 1 [.int .i64 (D + S)]) := hown'
            clear hown' hgrow hr' hx hcell
            go_wp2
            go_roundw
            case rel => exact ⟨k + 1, [D + S], by omega, by omega, by go_num, by simp, hr3, hG', hx3⟩
            case measure => simp [RowKit.intOf]; omega
          · obtain ⟨g, c', z, rfl, hz, hcz⟩ := own_some hr.out hnil
            have hlast := srt_last hG.out.srt hz
            have hpos : 0 < L.length := List.length_pos_iff.2 hnil
            replace hz := show Hid _ from hz
            replace hnil := show Hid _ from hnil
            obtain ⟨q, hq⟩ : ∃ q, L.length = q + 1 := ⟨L.length - 1, by omega⟩
            rw [hq] at hcz
            replace hcz : wr.cell? ⟨g, q, none⟩ = some (.int .i64 z) := hcz
            replace hr : Hid (wr.ownsRow w.heap.size 3 1 (.slice (some ⟨g, 0, none⟩) L.length c') L.length (L.map (.int .i64))) := hr
            by_cases hzk : z < D + S
            · have hG' : Hid (Gat (L ++ [D + S]) (D) (D + 399)) := hG.out.add (fun x hx => by have := hlast x hx; omega) (by omega) (by omega)
              have hr' : Hid (wr.ownsRow w.heap.size 3 1 (.slice (some ⟨g, 0, none⟩) (q + 1) c') (q + 1) (L.map (.int .i64))) := by have := hr.out; rwa [hq] at this
              rw [hq]
              have hq' := show Hid _ from hq
              have hq2 : q + 1 ≤ k := by omega
              clear hr hG hlast hz hq hpos hL
              go_wp2_with (at_builtin; refine wpList_append_own _ rfl (.tmp 71) (.tmp 73) 22 rfl w.heap.size 3 i0 (.int .i64 0) 1 8 Tryd.underlying22 hi hz0 hz1 hz2 rfl (by decide) _ _ _ rfl (hr'.out.alloc _) ⟨wr.heap.size, 0, none⟩ 1 1 [.int .i64 (D + S)] rfl rfl ?c1 ?c2 ?c3 ?c4 ?c5 ?_)
              case c1 =>
                intro j u hj
                match j, hj with
                | 0, hj => simp at hj; subst hj; simp [Addr.add]
              case c2 => intro u hu; simp at hu; subst hu; rfl
              case c3 => unfold maxLen; omega
              case c4 => omega
              case c5 => simp; omega
              intro v' w3 hown' hgrow _
              have hx3 : Hid (Ext w w3) := ⟨((hx.out.alloc _ _).below).grown hgrow (by simp; omega) (own_lo hr'.out)⟩
              have hr3 : Hid (w3.ownsRow w.heap.size 3 1 v' (L ++ [D + S]).length ((L ++ [D + S]).map (.int .i64))) := by
                show w3.ownsRow _ _ _ _ _ _
                rw [List.length_append, List.map_append, hq'.out]
                exact hown'
              clear hown' hgrow hr' hx hcell hcz
              go_wp2
              go_roundw
              case rel => exact ⟨k + 1, L ++ [D + S], by omega, by omega, by go_num, by rw [List.length_append, hq'.out]; simp; omega, hr3, hG', hx3⟩
              case measure => simp [RowKit.intOf]; omega
            · have hr' : Hid (wr.ownsRow w.heap.size 3 1 (.slice (some ⟨g, 0, none⟩) (q + 1) c') L.length (L.map (.int .i64))) := by have := hr.out; rw [hq] at this; rw [hq]; exact this
              rw [hq]
              have hq2 : Hid (L.length ≤ k + 1) := by show _ ≤ _; omega
              have hq3 : q + 1 ≤ k := by omega
              clear hr hlast hz hq hpos hL
              go_wp2
              go_roundw
              case rel => exact ⟨k + 1, L, by omega, by omega, by go_num, hq2.out, hr', hG, hx⟩
              case measure => simp [RowKit.intOf]; omega
        · have hL' : Hid (L.length ≤ 30) := by show _ ≤ _; omega
          clear hL
          go_wp2
          go_meet
          exact ⟨L, hL'.out, hr, hG, hx⟩
      · have hL' : Hid (L.length ≤ 30) := by show _ ≤ _; omega
        clear hL
        go_wp2
        go_meet
        exact ⟨L, hL'.out, hr, hG, hx⟩
  case rest =>
    clear hR R1 R2 hD hi hz0 hz1 hz2 s0 hNN hMM
    obtain ⟨L, hL, hr, hG, hx⟩ := hcut
    obtain ⟨A, B, P, hF⟩ := five_of L D N M D1 D2 N1 N2 M1 M2
    have hRgt : rgt L = true := hG.out.rgt (by omega) (by omega) (by omega)
    have hNw : Hid (∀ (v : Value) (w : World), Slc w v L → Calls Tryd.prog 10 #[v] w fun e w' => ∃ p, e = .returned (.tuple #[.pointer (some ⟨p, 0, none⟩), .int .i64 0]) ∧ Made w w' p L) := fun v w h => New_ok v L w h hRgt
    have hNz : Hid (∀ (w : World), Calls Tryd.prog 10 #[.slice none 0 0] w fun e w' => ∃ p, e = .returned (.tuple #[.pointer (some ⟨p, 0, none⟩), .int .i64 0]) ∧ Made w w' p []) := fun w => New_z w
    have hA : Hid (∀ (p : Nat) (w : World), Hid (Cld w p L) → Calls Tryd.prog 16 #[.pointer (some ⟨p, 0, none⟩), .int .i64 (D), .int .i64 (D + N)] w fun e w' => e = .returned (.tuple #[.int .i64 (A), .int .i64 0]) ∧ w' = w) := fun p w hc => by
      have := Count_c p L (D) (D + N) w hc; rwa [hF.a, hF.ea] at this
    have hB : Hid (∀ (p : Nat) (w : World), Hid (Cld w p L) → Calls Tryd.prog 16 #[.pointer (some ⟨p, 0, none⟩), .int .i64 (D + N + 1), .int .i64 (D + N + 1 + M)] w fun e w' => e = .returned (.tuple #[.int .i64 (B), .int .i64 0]) ∧ w' = w) := fun p w hc => by
      have := Count_c p L (D + N + 1) (D + N + 1 + M) w hc; rwa [hF.b, hF.eb] at this
    have hC : Hid (∀ (p : Nat) (w : World), Hid (Cld w p L) → Calls Tryd.prog 16 #[.pointer (some ⟨p, 0, none⟩), .int .i64 (D), .int .i64 (D + N + 1 + M)] w fun e w' => e = .returned (.tuple #[.int .i64 (A + B), .int .i64 0]) ∧ w' = w) := fun p w hc => by
      have := Count_c p L (D) (D + N + 1 + M) w hc; rwa [hF.all, hF.eall] at this
    have hW : Hid (∀ (p : Nat) (w : World), Hid (Cld w p []) → Calls Tryd.prog 16 #[.pointer (some ⟨p, 0, none⟩), .int .i64 (D), .int .i64 (D + 6)] w fun e w' => e = .returned (.tuple #[.int .i64 (5), .int .i64 0]) ∧ w' = w) := fun p w hc => by
      have := Count_c p [] (D) (D + 6) w hc; rwa [hF.week, hF.ew] at this
    have hP : Hid (∀ (p : Nat) (w : World), Hid (Cld w p []) → Calls Tryd.prog 16 #[.pointer (some ⟨p, 0, none⟩), .int .i64 (D), .int .i64 (D + N + 1 + M)] w fun e w' => e = .returned (.tuple #[.int .i64 (P), .int .i64 0]) ∧ w' = w) := fun p w hc => by
      have := Count_c p [] (D) (D + N + 1 + M) w hc; rwa [hF.plain, hF.eall] at this
    have A0 := hF.a0; have A1 := hF.a1; have B0 := hF.b0; have B1 := hF.b1; have P1 := hF.p1; have hle := hF.le; have hlost := hF.lost
    have hs : Hid (Slc wc _ L) := Slc.of_own hr.out (fun _ _ _ _ => rfl)
    obtain ⟨ao', c', rfl⟩ := own_len hr.out
    replace he : Hid (Env wc) := he.out.ext hx.out
    clear hr hRgt hG hF
    generalize L.length = q at *
    go_wp2_with fail
    refine (hNw.out _ _ hs.out).mono ?_
    rintro e w2 ⟨p, rfl, hm⟩
    have hc := show Hid (Cld w2 p L) from hm.cld
    replace he := show Hid (Env w2) from he.out.ext hm.ext
    replace hx := show Hid (Ext w w2) from hx.out.trans hm.ext
    clear hm hNw hs
    go_wp2_with fail
    refine (hNz.out _).mono ?_
    rintro e w3 ⟨p', rfl, hm⟩
    have hd := show Hid (Cld w3 p' []) from hm.cld
    replace hc := show Hid (Cld w3 p L) from hc.out.ext hm.ext
    replace he := show Hid (Env w3) from he.out.ext hm.ext
    replace hx := show Hid (Ext w w3) from hx.out.trans hm.ext
    clear hm hNz
    go_wp2_with fail
    refine (awake_c _ he).mono ?_
    rintro e w4 ⟨rfl, hx1⟩
    replace hc := show Hid (Cld w4 p L) from hc.out.ext hx1
    replace hd := show Hid (Cld w4 p' []) from hd.out.ext hx1
    replace hx := show Hid (Ext w w4) from hx.out.trans hx1
    clear hx1 he
    go_wp2_with fail
    refine (hA.out _ _ hc).mono ?_
    rintro e w5 ⟨rfl, rfl⟩
    clear hA
    go_wp2_with fail
    refine (hB.out _ _ hc).mono ?_
    rintro e w6 ⟨rfl, rfl⟩
    clear hB
    go_wp2_with fail
    refine (hC.out _ _ hc).mono ?_
    rintro e w7 ⟨rfl, rfl⟩
    clear hC
    go_wp2_with fail
    refine (hW.out _ _ hd).mono ?_
    rintro e w8 ⟨rfl, rfl⟩
    clear hW
    go_wp2_with fail
    refine (hP.out _ _ hd).mono ?_
    rintro e w9 ⟨rfl, rfl⟩
    clear hP
    go_wp2
    go_ret
    exact ⟨ret_bool (by simp), hx.out⟩

set_option maxRecDepth 100000 in
theorem lifted (os : Os) (started : os.Started) (H : Type) (enc : TypeId × Value → H) :
    ReturnsInHanded {} Tryd.checked os 6 .any (fun w args => (Rows.businessCountsSpec.pre enc Tryd.prog Tryd.f6 [] false w args ∧ laidMetH Tryd.prog laid w) ∧ sizedMet enc Tryd.prog Tryd.f6 (OpenSpec.ofChange Rows.businessCountsSpec) false w args)
      (Rows.businessCountsSpec.post enc Tryd.prog Tryd.f6 false true false false) := by
  refine wrap started (by kernel_rfl) Tryd.func6
    (ChangeSpec.witness_shaped (enc := enc) (C := Tryd.checked) (os := os) (X := fun w _ => laidMetH Tryd.prog laid w) false (World.laidAll Tryd.prog os laid) #[.slice none 0 0, .int .i64 0, .int .i64 0, .int .i64 0] 8 (World.laidAll_os _ _ _)
      (World.shaped_of_ZipB (by kernel_rfl) (by kernel_rfl)) (by kernel_rfl) (by kernel_rfl) (by kernel_rfl)
      (by rw [MakeChecks.laidMetH_plain _ _ _ (by kernel_rfl)]; exact laidMet_laidAll _ (by kernel_rfl) (by kernel_rfl))) ?_
  intro W base args ds gs before hval0 hW hE
  have hval : ∀ (j : Nat) t v, Tryd.f6.params[j]? = some t → args[j]? = some v → Value.okWide Tryd.prog W .any base t v := hval0
  have hW' := hW
  obtain ⟨p, q, hA0, hV, rfl, _, _⟩ := hW
  have hA : DataW.TrodAll enc Tryd.prog W 0 (fun _ => true) true Tryd.f6.params.toList args.toList ds p := hA0
  rw [Tryd.params6] at hA hval
  obtain ⟨v0, vs0, d0, ds0, p0, q0, hargs, rfl, rfl, h0, r0⟩ := trodAll_cons hA
  obtain ⟨v1, vs1, d1, ds1, p1, q1, rfl, rfl, rfl, h1, r1⟩ := trodAll_cons r0
  obtain ⟨v2, vs2, d2, ds2, p2, q2, rfl, rfl, rfl, h2, r2⟩ := trodAll_cons r1
  obtain ⟨v3, vs3, d3, ds3, p3, q3, rfl, rfl, rfl, h3, r3⟩ := trodAll_cons r2
  obtain ⟨rfl, rfl, rfl⟩ := trodAll_nil r3
  obtain rfl : args = #[v0, v1, v2, v3] := by cases args; simp_all
  obtain ⟨rfl, rfl⟩ := trodVars_none hV
  obtain ⟨l0, s0, n0, b0, t0⟩ := open_slc (hval 0 22 v0 rfl rfl) h0
  obtain ⟨a1, rfl, rfl, rfl, w1⟩ := open_int Tryd.underlying3 (hval 1 3 v1 rfl rfl) h1
  obtain ⟨a2, rfl, rfl, rfl, w2⟩ := open_int Tryd.underlying3 (hval 2 3 v2 rfl rfl) h2
  obtain ⟨a3, rfl, rfl, rfl, w3⟩ := open_int Tryd.underlying3 (hval 3 3 v3 rfl rfl) h3
  clear hA0 hval0
  simp only [List.append_nil] at hW'
  refine (walk v0 l0 n0 b0 a1 w1 a2 w2 a3 w3 W hE s0).mono fun e W' ⟨he, hb⟩ => ?_
  subst he
  exact ⟨_, rfl, _, _, _, [], _, [], hW', (trodAll_cons_mk (shut_bool Tryd.underlying4 _) trodAll_mk0), (trodAll_cons_mk (t0 _ hb) (trodAll_cons_mk (shut_int Tryd.underlying3 w1) (trodAll_cons_mk (shut_int Tryd.underlying3 w2) (trodAll_cons_mk (shut_int Tryd.underlying3 w3) trodAll_mk0)))), rfl, hb.below.frame _, fun h => by cases h⟩

theorem over : Rows.businessCountsRow.holds Tryd.pinned (OpenSpec.ofChange Rows.businessCountsSpec) :=
  OpenClaim.holds_of_wide 6 Tryd.f6 rfl rfl rfl rfl rfl rfl rfl ⟨rfl, rfl, rfl, rfl, rfl⟩ rfl rfl rfl rfl rfl (by kernel_rfl) Tryd.func6 (by kernel_rfl)
    (of_decide_eq_true (by kernel_rfl)) (by unfold Func.isWrapper; first | (rw [if_pos (by decide +kernel)]; kernel_rfl) | (rw [if_neg (by decide +kernel)]; exact ⟨rfl, rfl⟩))
    (fun os started H enc _ => lifted os started H enc)
end Go.Proofs.YtkkpnhcodaijeaaDoor.businessCounts
namespace Go.Proofs.YtkkpnhcodaijeaaDoor
theorem businessCounts_holds : Rows.BusinessCountsCardSaid :=
  Claim7.holds_tied_plain_at .later [] [.data] true (true, "e1bead60f38d7db9a905f8b5c7557c99378f268eeabe1e4dec57d59f46519798") false businessCounts.over (fun _ h => by cases h) (by kernel_rfl) (fun _ h => by cases h) businessCounts_row_tie rfl ⟨rfl, rfl⟩ (by kernel_rfl) rfl
    (fun f fn hf hfn => by
      obtain rfl : f = 6 := Option.some.inj ((show Tryd.prog.funcNamed "quittance/quittancelaw05.BusinessCounts" = some 6 by kernel_rfl).symm.trans hf) |>.symm
      obtain rfl : fn = Tryd.f6 := (Option.some.inj (Tryd.func6.symm.trans hfn)).symm
      exact ⟨by kernel_rfl, fun j t ht => by
        rw [Tryd.params6] at ht
        have hm : t ∈ [22, 3, 3, 3] := by simpa using Array.mem_of_getElem? ht
        have hall : ([22, 3, 3, 3].all fun u => !Tryd.prog.wantsStandIn u) = true := by kernel_rfl
        exact (show Tryd.prog.wantsStandIn t = false by simpa using List.all_eq_true.1 hall t hm)⟩)
    (by kernel_rfl)
#print axioms businessCounts_holds
end Go.Proofs.YtkkpnhcodaijeaaDoor
