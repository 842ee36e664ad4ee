/- For every int n and bool beside, of the project's tree at the commit that COMMIT names, GrammarDeep returns true and leaves its arguments as they were, with the listed variables laid as the program's text lays them. -/
import Derived.Test.YtlbodoggfbdnjaaGreatDoorM8
import Derived.Test.YtlbodoggfbdnjaaGreatDoorM13
namespace Go.Proofs.YtlbodoggfbdnjaaGreatDoor.grammarDeep
open Go.ChangeShapes Go.WideShapes Go.ChangeAt Go.RowKit Go.Lib
set_option linter.unusedVariables false

theorem mod_of (a m : Int) (hm : 0 < m) : ∃ N : Nat, (IntKind.u64.wrap a).tmod m = (N : Int) ∧ (N : Int) < m := by
  have h0 : 0 ≤ IntKind.u64.wrap a := by
    unfold IntKind.wrap
    simp [IntKind.signed, IntKind.bits]
    omega
  have h1 : 0 ≤ (IntKind.u64.wrap a).tmod m := Int.tmod_nonneg _ h0
  have h2 : (IntKind.u64.wrap a).tmod m < m := Int.tmod_lt_of_pos _ hm
  exact ⟨((IntKind.u64.wrap a).tmod m).toNat, by omega, by omega⟩
theorem rep_len (l : List UInt8) : ∀ k, (repB l k).length = k * l.length
  | 0 => by simp [repB]
  | k + 1 => by rw [repB, List.length_append, rep_len l k, Nat.succ_mul]
set_option maxRecDepth 100000 in
set_option maxHeartbeats 4000000 in

theorem walk (a0 : Int) (w0 : (Lit.int .i64 a0).wf = true) (a1 : Bool) (w : World) (he : Env w) :
    Calls Tryz.prog 5 #[.int .i64 a0, .bool a1] w fun e w' => e = .returned (.bool true) ∧ Ext w w' := by
  replace he : Hid (Env w) := he
  obtain ⟨N, hN, hN40⟩ := mod_of a0 40 (by omega)
  have hN40' : N < 40 := by omega
  cases a1
  · go_enter Tryz.func5, Tryz.ntmps5
    go_wp2_with fail
    go_loopw [5, 6, 7] (fun o s i wr => ∃ k : Nat, k ≤ N ∧ i = .int .i64 k ∧ o = .string ⟨(repB [123, 32] k).toArray⟩ ∧ s = .string ⟨(repB [125, 32] k).toArray⟩ ∧ Hid (Ext w wr)) (fun _ _ i _ => N - (RowKit.intOf i).toNat)
    case atStart => exact ⟨0, Nat.zero_le _, rfl, rfl, rfl, Ext.refl w⟩
    case round =>
      obtain ⟨k, hk, rfl, rfl, rfl, hx⟩ := hrel
      have l1 : (repB [123, 32] k).length = k * 2 := rep_len _ k
      have l2 : (repB [125, 32] k).length = k * 2 := rep_len _ k
      have g1 : ¬ 9223372036854775807 < (repB [123, 32] k).length + 2 := by omega
      have g2 : ¬ 9223372036854775807 < (repB [125, 32] k).length + 2 := by omega
      by_cases hlt : k < N
      · have hlt2 : (k : Int) < (N : Int) := by omega
        go_wp2
        go_roundw
        case rel => exact ⟨k + 1, by omega, by go_num, rfl, rfl, hx⟩
        case measure => simp [RowKit.intOf]; omega
      · obtain rfl : k = N := by omega
        have he1 : Hid (Env wr) := he.out.ext hx.out
        have hlen : (dpX k false).length ≤ 9223372036854775807 := by
          have e1 : dpH.length = 85 := rfl
          have e2 : dpM.length = 39 := rfl
          have e3 : (dpA false) = [123, 32] := rfl
          have e4 : dpZ false k = repB [125, 32] k := rfl
          unfold dpX
          rw [e3, e4]
          simp only [List.length_append, e1, e2, l1, l2, List.length_cons, List.length_nil]
          omega
        by_cases h32 : 32 ≤ k
        · have hP := deep_no k hN40' h32
          have h32i : (32 : Int) ≤ (k : Int) := by omega
          replace hP := show Hid _ from hP
          go_wp2_with fail
          refine (Parse_c (dpX k false) _ hlen he1).mono ?_
          rintro e w1 ⟨hx1, hA⟩
          rw [hP.out] at hA
          obtain rfl : e = .returned (.tuple #[.agg zP, .int .i64 147, .int .i64 8]) := hA
          obtain ⟨W2, b, hW2, hb, hx2, hB2⟩ := layZ w1
          have hlo : wr.heap.size ≤ b := by rw [← hb]; exact hx1.size
          have hsz := zP_ok.1
          have hone := zP_ok.2
          replace hx1 := show Hid _ from hx1.trans hx2
          go_wp2_with (refine store27 hB2 rfl hsz hone rfl rfl rfl rfl ?_)
          intro W3 hB3 hx3
          replace hx1 : Hid (Ext wr W3) := hx3.ext hx1.out hlo
          replace he1 : Hid (Env W3) := he1.out.ext hx1.out
          clear hW2 hb hx2 hB2 hx3 hsz hone hlo hB3
          go_wp2_with fail
          refine (awake_c _ he1).mono ?_
          rintro e w4 ⟨rfl, hx4⟩
          replace hx := show Hid _ from (hx.out.trans hx1.out).trans hx4
          clear hx4 hx1
          go_wp2
          go_ret
          exact ⟨rfl, hx.out⟩
        · obtain ⟨q, hP, hq⟩ := deep_ok k false hN40' (Or.inr (by omega))
          have h32i : ¬ (32 : Int) ≤ (k : Int) := by omega
          replace hP := show Hid _ from hP
          go_wp2_with fail
          refine (Parse_c (dpX k false) _ hlen he1).mono ?_
          rintro e w1 ⟨hx1, hA⟩
          rw [hP.out] at hA
          obtain ⟨vr, vl, vh, rfl, hL⟩ := hA
          obtain ⟨W2, b, hW2, hb, hx2, hB2⟩ := layZ w1
          have hsz : (pcells q vr vl vh).size = 19 := rfl
          have hone := pcells_one (p := q) hL.sr hL.sl hL.sh
          have hlo : wr.heap.size ≤ b := by rw [← hb]; exact hx1.size
          clear hL
          replace hx1 := show Hid _ from hx1.trans hx2
          go_wp2_with (refine store27 hB2 rfl hsz hone rfl rfl rfl rfl ?_)
          intro W3 hB3 hx3
          replace hx1 : Hid (Ext wr W3) := hx3.ext hx1.out hlo
          replace he1 : Hid (Env W3) := he1.out.ext hx1.out
          have c0 := (cell_of_row W3 b 0 _ _ _ hB3).trans (show _ = some (.string ⟨q.nm.toArray⟩) from rfl)
          rw [hq] at c0
          clear hW2 hb hx2 hB2 hx3 hB3 hsz hone hlo
          go_wp2_with fail
          refine (awake_c _ he1).mono ?_
          rintro e w4 ⟨rfl, hx4⟩
          replace c0 := hx4.cell_of c0
          replace c0 : w4.cell? ⟨b, 0, none⟩ = some (.string ⟨#[104, 111, 109, 101]⟩) := c0
          replace hx := show Hid _ from (hx.out.trans hx1.out).trans hx4
          clear hx4 hx1
          go_wp2
          go_ret
          exact ⟨rfl, hx.out⟩
  · go_enter Tryz.func5, Tryz.ntmps5
    go_wp2_with fail
    go_loopw [5, 6, 7] (fun o s i wr => ∃ k : Nat, k ≤ N ∧ i = .int .i64 k ∧ o = .string ⟨(repB [123, 32, 125, 32] k).toArray⟩ ∧ s = .string ⟨([] : List UInt8).toArray⟩ ∧ Hid (Ext w wr)) (fun _ _ i _ => N - (RowKit.intOf i).toNat)
    case atStart => exact ⟨0, Nat.zero_le _, rfl, rfl, rfl, Ext.refl w⟩
    case round =>
      obtain ⟨k, hk, rfl, rfl, rfl, hx⟩ := hrel
      have l1 : (repB [123, 32, 125, 32] k).length = k * 4 := rep_len _ k
      have g1 : ¬ 9223372036854775807 < (repB [123, 32, 125, 32] k).length + 4 := by omega
      by_cases hlt : k < N
      · have hlt2 : (k : Int) < (N : Int) := by omega
        go_wp2
        go_roundw
        case rel => exact ⟨k + 1, by omega, by go_num, rfl, rfl, hx⟩
        case measure => simp [RowKit.intOf]; omega
      · obtain rfl : k = N := by omega
        have he1 : Hid (Env wr) := he.out.ext hx.out
        have hlen : (dpX k true).length ≤ 9223372036854775807 := by
          have e1 : dpH.length = 85 := rfl
          have e2 : dpM.length = 39 := rfl
          have e3 : (dpA true) = [123, 32, 125, 32] := rfl
          have e4 : dpZ true k = [] := rfl
          unfold dpX
          rw [e3, e4]
          simp only [List.length_append, e1, e2, l1, List.length_cons, List.length_nil]
          omega
        obtain ⟨q, hP, hq⟩ := deep_ok k true hN40' (Or.inl rfl)
        replace hP := show Hid _ from hP
        go_wp2_with fail
        refine (Parse_c (dpX k true) _ hlen he1).mono ?_
        rintro e w1 ⟨hx1, hA⟩
        rw [hP.out] at hA
        obtain ⟨vr, vl, vh, rfl, hL⟩ := hA
        obtain ⟨W2, b, hW2, hb, hx2, hB2⟩ := layZ w1
        have hsz : (pcells q vr vl vh).size = 19 := rfl
        have hone := pcells_one (p := q) hL.sr hL.sl hL.sh
        have hlo : wr.heap.size ≤ b := by rw [← hb]; exact hx1.size
        clear hL
        replace hx1 := show Hid _ from hx1.trans hx2
        go_wp2_with (refine store27 hB2 rfl hsz hone rfl rfl rfl rfl ?_)
        intro W3 hB3 hx3
        replace hx1 : Hid (Ext wr W3) := hx3.ext hx1.out hlo
        replace he1 : Hid (Env W3) := he1.out.ext hx1.out
        have c0 := (cell_of_row W3 b 0 _ _ _ hB3).trans (show _ = some (.string ⟨q.nm.toArray⟩) from rfl)
        rw [hq] at c0
        clear hW2 hb hx2 hB2 hx3 hB3 hsz hone hlo
        go_wp2_with fail
        refine (awake_c _ he1).mono ?_
        rintro e w4 ⟨rfl, hx4⟩
        replace c0 := hx4.cell_of c0
        replace c0 : w4.cell? ⟨b, 0, none⟩ = some (.string ⟨#[104, 111, 109, 101]⟩) := c0
        replace hx := show Hid _ from (hx.out.trans hx1.out).trans hx4
        clear hx4 hx1
        go_wp2
        go_ret
        exact ⟨rfl, hx.out⟩

set_option maxRecDepth 100000 in
theorem lifted (os : Os) (started : os.Started) (H : Type) (enc : TypeId × Value → H) :
    ReturnsInHanded {} Tryz.checked os 5 .any (fun w args => (Rows.grammarDeepSpec.pre enc Tryz.prog Tryz.f5 [] false w args ∧ laidMetH Tryz.prog laid w) ∧ sizedMet enc Tryz.prog Tryz.f5 (OpenSpec.ofChange Rows.grammarDeepSpec) false w args)
      (Rows.grammarDeepSpec.post enc Tryz.prog Tryz.f5 false true false false) := by
  refine wrap started (by kernel_rfl) Tryz.func5
    (ChangeSpec.witness_shaped (enc := enc) (C := Tryz.checked) (os := os) (X := fun w _ => laidMetH Tryz.prog laid w) false (World.laidAll Tryz.prog os laid) #[.int .i64 0, .bool false] 8 (World.laidAll_os _ _ _)
      (World.shaped_of_ZipB (by kernel_rfl) (by kernel_rfl)) (by kernel_rfl) (by kernel_rfl) (by kernel_rfl)
      (by rw [MakeChecks.laidMetH_plain _ _ _ (by kernel_rfl)]; exact laidMet_laidAll _ (by kernel_rfl) (by kernel_rfl))) ?_
  intro W base args ds gs before hval0 hW hE
  have hval : ∀ (j : Nat) t v, Tryz.f5.params[j]? = some t → args[j]? = some v → Value.okWide Tryz.prog W .any base t v := hval0
  have hW' := hW
  obtain ⟨p, q, hA0, hV, rfl, _, _⟩ := hW
  have hA : DataW.TrodAll enc Tryz.prog W 0 (fun _ => true) true Tryz.f5.params.toList args.toList ds p := hA0
  rw [Tryz.params5] at hA hval
  obtain ⟨v0, vs0, d0, ds0, p0, q0, hargs, rfl, rfl, h0, r0⟩ := trodAll_cons hA
  obtain ⟨v1, vs1, d1, ds1, p1, q1, rfl, rfl, rfl, h1, r1⟩ := trodAll_cons r0
  obtain ⟨rfl, rfl, rfl⟩ := trodAll_nil r1
  obtain rfl : args = #[v0, v1] := by cases args; simp_all
  obtain ⟨rfl, rfl⟩ := trodVars_none hV
  obtain ⟨a0, rfl, rfl, rfl, w0⟩ := open_int Tryz.underlying3 (hval 0 3 v0 rfl rfl) h0
  obtain ⟨a1, rfl, rfl, rfl⟩ := open_bool Tryz.underlying4 (hval 1 4 v1 rfl rfl) h1
  clear hA0 hval0
  simp only [List.append_nil] at hW'
  refine (walk a0 w0 a1 W hE).mono fun e W' ⟨he, hb⟩ => ?_
  subst he
  exact ⟨_, rfl, _, _, _, [], _, [], hW', (trodAll_cons_mk (shut_bool Tryz.underlying4 _) trodAll_mk0), (trodAll_cons_mk (shut_int Tryz.underlying3 w0) (trodAll_cons_mk (shut_bool Tryz.underlying4 _) trodAll_mk0)), rfl, hb.below.frame _, fun h => by cases h⟩

theorem over : Rows.grammarDeepRow.holds Tryz.pinned (OpenSpec.ofChange Rows.grammarDeepSpec) :=
  OpenClaim.holds_of_wide 5 Tryz.f5 rfl rfl rfl rfl rfl rfl rfl ⟨rfl, rfl, rfl, rfl, rfl⟩ rfl rfl rfl rfl rfl (by kernel_rfl) Tryz.func5 (by kernel_rfl)
    (of_decide_eq_true (by kernel_rfl)) (by unfold Func.isWrapper; first | (rw [if_pos (by decide +kernel)]; kernel_rfl) | (rw [if_neg (by decide +kernel)]; exact ⟨rfl, rfl⟩))
    (fun os started H enc _ => lifted os started H enc)
end Go.Proofs.YtlbodoggfbdnjaaGreatDoor.grammarDeep
namespace Go.Proofs.YtlbodoggfbdnjaaGreatDoor
theorem grammarDeep_holds : Rows.GrammarDeepCardSaid :=
  Claim7.holds_tied_plain_at .later [] [.data, .data, .data, .data, .sentinel, .sentinel, .data, .pinned] true (true, "71a4d669349a1374d27e06b42b74feeaaecf2230b7206da2054069eaee9351c6") true grammarDeep.over (fun _ h => by cases h) (by kernel_rfl) (fun _ h => by cases h) grammarDeep_row_tie rfl ⟨rfl, rfl⟩ (by kernel_rfl) rfl
    (fun f fn hf hfn => by
      obtain rfl : f = 5 := Option.some.inj ((show Tryz.prog.funcNamed "quittance/quittancelaw09.GrammarDeep" = some 5 by kernel_rfl).symm.trans hf) |>.symm
      obtain rfl : fn = Tryz.f5 := (Option.some.inj (Tryz.func5.symm.trans hfn)).symm
      exact ⟨by kernel_rfl, fun j t ht => by
        rw [Tryz.params5] at ht
        have hm : t ∈ [3, 4] := by simpa using Array.mem_of_getElem? ht
        have hall : ([3, 4].all fun u => !Tryz.prog.wantsStandIn u) = true := by kernel_rfl
        exact (show Tryz.prog.wantsStandIn t = false by simpa using List.all_eq_true.1 hall t hm)⟩)
    (by kernel_rfl)
#print axioms grammarDeep_holds
end Go.Proofs.YtlbodoggfbdnjaaGreatDoor
