/- For all ints start and from, of the project's tree at the commit that COMMIT names, DuesRefuse returns true and leaves its arguments as they were, with the listed variable laid as the program's text lays it. -/
import Derived.Test.YtmlkccmkdgfalaaDoorPf
import Derived.Test.YtmlkccmkdgfalaaDoorRef
namespace Go.Proofs.YtmlkccmkdgfalaaDoor.duesRefuse
open Go.ChangeShapes Go.WideShapes Go.ChangeAt Go.RowKit Go.Lib
set_option linter.unusedVariables false

set_option maxRecDepth 100000 in
set_option maxHeartbeats 4000000 in

theorem walk (a0 : Int) (w0 : (Lit.int .i64 a0).wf = true) (a1 : Int) (w1 : (Lit.int .i64 a1).wf = true) (w : World) (he : Evn w) :
    Calls Tryd.prog 3 #[.int .i64 a0, .int .i64 a1] w fun e w' => e = .returned (.bool true) ∧ Ext w w' := by
  obtain ⟨R1, e1, l1, r4, f1, g1⟩ := rem_is a0 3000 (by decide) (by decide)
  obtain ⟨R2, e2, l2, r5, f2, g2⟩ := rem_is a1 3 (by decide) (by decide)
  have hL : IntKind.i64.wrap (84370 - R1) = 84370 - R1 := by rw [IntKind.wrap_i64]; omega
  have hFr : IntKind.i64.wrap (19748 + R2) = 19748 + R2 := by rw [IntKind.wrap_i64]; omega
  have he00 : Hid (∀ W : World, Ext w W → L3.Env W) := fun W hW => he.env.ext hW
  have hpo : (pcells pl0 (.slice none 0 0) (.slice none 0 0) (.slice none 0 0)).all (·.oneCell') = true := one_of (w := w) (L8.nilr w) (L8.nilr w) (L8.nilh w)
  obtain ⟨i0, hi0, hz0, hz1, hz2⟩ := info_parts L4.info_int
  clear he
  go_enter Tryd.func3, Tryd.ntmps3
  go_wp2_with fail
  refine (L8.Plain_c _).mono ?_
  rintro e w1 ⟨rfl, hx1⟩
  obtain ⟨W2, ba, hW2, hba, hx2, hB2⟩ := layZ w1
  have hla : w.heap.size ≤ ba := by have := hx1.size; omega
  go_wp2_with (refine store27 (cs := pcells pl0 (.slice none 0 0) (.slice none 0 0) (.slice none 0 0)) hB2 rfl rfl hpo rfl rfl rfl rfl ?_)
  intro W3 hB3 hx3
  replace hx3 : Hid (Ext w W3) := hx3.ext (hx1.trans hx2) hla
  have z5 := frozen_of_row W3 ba 5 _ _ hB3
  have c5 := (cell_of_row W3 ba 5 _ _ _ hB3).trans (show _ = some (.int .i64 12) from rfl)
  have hB4 : Blk (W3.setCell ⟨ba, 5, none⟩ (.int .i64 300)) ba (pcells prA (.slice none 0 0) (.slice none 0 0) (.slice none 0 0)) := L8.Blk.set hB3 5 _
  have hx4 : Hid (Ext w (W3.setCell ⟨ba, 5, none⟩ (.int .i64 300))) := hx3.out.setCell hla _
  clear hB2 hx2 hB3 hx1 hW2 hba
  go_wp2_with (refine load27 hB4 rfl rfl rfl rfl ?_)
  refine (Days_no prA (.slice none 0 0) (.slice none 0 0) (.slice none 0 0) (84370 - R1) 5 _ (inp_of _ prA _ (by decide) rfl rfl (by decide) (L8.nilh _)) (he00.out _ hx4.out) (due_a _ (by omega) (by omega)) (by decide)).mono ?_
  rintro e w5 ⟨rfl, hx5⟩
  replace hx5 : Hid (Ext w w5) := hx4.out.trans hx5
  clear hB4 hx4 hx3 z5 c5
  go_wp2_with fail
  refine (L8.Plain_c _).mono ?_
  rintro e w6 ⟨rfl, hx6⟩
  obtain ⟨W7, bq, hW7, hbq, hx7, hB7⟩ := layZ w6
  have hlq : w.heap.size ≤ bq := by have := hx5.out.size; have := hx6.size; omega
  go_wp2_with (refine store27 (cs := pcells pl0 (.slice none 0 0) (.slice none 0 0) (.slice none 0 0)) hB7 rfl rfl hpo rfl rfl rfl rfl ?_)
  intro W8 hB8 hx8
  replace hx8 : Hid (Ext w W8) := hx8.ext ((hx5.out.trans hx6).trans hx7) hlq
  have z17 := frozen_of_row W8 bq 17 _ _ hB8
  have c17 := (cell_of_row W8 bq 17 _ _ _ hB8).trans (show _ = some (.int .i64 1) from rfl)
  obtain ⟨f, hf⟩ : ∃ f, 19748 + R2 = f := ⟨_, rfl⟩
  have hdB : Hid (Due (prB f 45) 19723 11) := hf ▸ due_b R2 l2 r5
  have hfb : 19748 ≤ f ∧ f ≤ 19750 := by omega
  have hB9 : Hid (Blk (W8.setCell ⟨bq, 17, none⟩ (.int .i64 2)) bq (pcells (prB f 0) (.slice none 0 0) (.slice none 0 0) (.slice none 0 0))) := L8.Blk.set hB8 17 _
  have hx9 : Hid (Ext w (W8.setCell ⟨bq, 17, none⟩ (.int .i64 2))) := hx8.out.setCell hlq _
  have hbB : Hid (bq < (W8.setCell ⟨bq, 17, none⟩ (.int .i64 2)).heap.size) := (Array.getElem?_eq_some_iff.1 hB9.out).1
  obtain ⟨W9, hW9⟩ : ∃ W, W8.setCell ⟨bq, 17, none⟩ (.int .i64 2) = W := ⟨_, rfl⟩
  rw [hW9] at hB9 hx9 hbB
  obtain ⟨B, hBB⟩ : ∃ B, W9.heap.size = B := ⟨_, rfl⟩
  rw [hBB] at hbB
  have hwB : Hid (w.heap.size ≤ B) := by show _ ≤ _; have := hx9.out.size; omega
  rw [hf] at hFr
  obtain ⟨hf1, hf2⟩ := hfb
  clear hB7 hx7 hB8 hx6 hx5 hW7 hbq e1 f1 g1 hL g2
  go_wp2_with fail
  replace hf := show Hid _ from hf
  go_loopw [10] (fun i wr => ∃ (k : Nat) (va : Option Addr) (vc : Nat), k ≤ 45 ∧ i = .int .i64 k ∧ Hid (Blk wr bq (pcells (prB f k) (.slice none 0 0) (.slice none 0 0) (.slice va k vc))) ∧ Hid (wr.ownsRow B 3 1 (.slice va k vc) k (L4.ints (fun j => f + (j : Int)) k)) ∧ Hid (Ext w wr) ∧ Hid (B ≤ wr.heap.size)) (fun i _ => 45 - (RowKit.intOf i).toNat)
  case atStart => exact ⟨0, none, 0, by decide, rfl, hB9, World.ownsRow_nil _ _ _ _, hx9, by show B ≤ _; omega⟩
  case round =>
    obtain ⟨k, va, vc, hk, rfl, hBk, hq, hx, hBs⟩ := hrel
    clear hB9 hx9 hW9
    by_cases hlt : k < 45
    · have c18 := (cell_of_row wr bq 18 _ _ _ hBk.out).trans (show _ = some (.slice va k vc) from rfl)
      obtain ⟨X, hX⟩ : ∃ X, f + (k : Int) = X := ⟨_, rfl⟩
      have hXw : IntKind.i64.wrap X = X := by rw [IntKind.wrap_i64]; omega
      have hlt' : (k : Int) < 45 := by omega
      go_wp2_with (at_builtin; refine wpList_append_own _ rfl (.tmp 42) (.tmp 46) 25 rfl B 3 i0 (.int .i64 0) 1 8 Tryd.underlying25 hi0 hz0 hz1 hz2 rfl (by decide) _ _ _ rfl (hq.out.alloc _) ⟨wr.heap.size, 0, none⟩ 1 1 [.int .i64 X] rfl rfl ?c1 ?c2 ?c3 ?c4 ?c5 ?_)
      case c1 =>
        intro j u hj
        match j, hj with
        | 0, hj => simp at hj; subst hj; simp [Addr.add]
      case c2 => intro u hu; simp at hu; subst hu; rfl
      case c3 => unfold maxLen; omega
      case c4 => omega
      case c5 => simp; have := hBs.out; omega
      intro v' w5 hown' hgrow _
      have hXs : L4.ints (fun j => f + (j : Int)) (k + 1) = L4.ints (fun j => f + (j : Int)) k ++ [.int .i64 X] := by rw [L4.ints_succ, hX]
      have hq5 : w5.ownsRow B 3 1 v' (k + 1) (L4.ints (fun j => f + (j : Int)) (k + 1)) := by
        rw [hXs]; exact hown'
      obtain ⟨v2, vc2, hv2⟩ : ∃ v2 vc2, v' = .slice v2 (k + 1) vc2 := by
        obtain ⟨g2, c2, h2, _⟩ := L4.Arr.of_own (by omega) hq5
        exact ⟨_, _, h2⟩
      subst hv2
      have hle : ∀ b, (Value.slice va k vc).ownBlock = some b → B ≤ b := L4.own_lo hq.out
      have hBa : Blk (wr.alloc (.cells #[.int .i64 X] 3)) bq (pcells (prB f k) (.slice none 0 0) (.slice none 0 0) (.slice va k vc)) := hBk.out.ext ((Ext.refl wr).alloc _ _)
      have hB5 : Blk w5 bq (pcells (prB f k) (.slice none 0 0) (.slice none 0 0) (.slice va k vc)) := by
        have := hgrow.block bq (by have := (Array.getElem?_eq_some_iff.1 hBa).1; exact this) (fun hc => by have := hle bq hc.symm; have := hbB.out; omega)
        show w5.heap[bq]? = _
        rw [this]; exact hBa
      have hx5 : Ext w w5 := ⟨((hx.out.alloc _ _).below).grown hgrow (by have := hx.out.size; simp; omega) (fun b hb => by have := hle b hb; have := hwB.out; omega)⟩
      have hs5 : B ≤ w5.heap.size := by have := hgrow.size; have := hBs.out; simp at *; omega
      have z18 := frozen_of_row w5 bq 18 _ _ hB5
      have d18 := (cell_of_row w5 bq 18 _ _ _ hB5).trans (show _ = some (.slice va k vc) from rfl)
      have hB6 : Hid (Blk (w5.setCell ⟨bq, 18, none⟩ (.slice v2 (k + 1) vc2)) bq (pcells (prB f (k + 1)) (.slice none 0 0) (.slice none 0 0) (.slice v2 (k + 1) vc2))) := L8.Blk.set hB5 18 _
      have hq6 : Hid ((w5.setCell ⟨bq, 18, none⟩ (.slice v2 (k + 1) vc2)).ownsRow B 3 1 (.slice v2 (k + 1) vc2) (k + 1) (L4.ints (fun j => f + (j : Int)) (k + 1))) := own_put hq5 hbB.out 18 _
      have hx6 : Hid (Ext w (w5.setCell ⟨bq, 18, none⟩ (.slice v2 (k + 1) vc2))) := hx5.setCell hlq _
      have hs6 : Hid (B ≤ (w5.setCell ⟨bq, 18, none⟩ (.slice v2 (k + 1) vc2)).heap.size) := by show B ≤ _; simpa using hs5
      clear hown' hgrow hq5 hle hBa hB5 hx5 hs5 hq hx hBk hBs hXs
      go_wp2
      go_roundw
      case rel => exact ⟨k + 1, v2, vc2, by omega, by go_num, hB6, hq6, hx6, hs6⟩
      case measure => simp [RowKit.intOf]; omega
    · obtain rfl : k = 45 := by omega
      obtain ⟨g3, c3, hv3, ha⟩ := L4.Arr.of_own (by decide) hq.out
      have hvc : L8.Slc wr (.slice va 45 vc) (prB f 45).hd := by rw [hv3]; exact arr_slc' ha
      have hI : Hid (∀ W : World, Ext wr W → Inp W (prB f 45) (.slice none 0 0) (.slice none 0 0) (.slice va 45 vc)) := fun W hW => inp_of W _ _ (by show (4 : Nat) ≤ _; decide) rfl rfl (by show (fst 45 _).length ≤ _; rw [fst_length]; decide) (L8.Slc.ext hvc hW)
      clear hv3 ha hvc hq
      replace hBk := hBk.out
      go_wp2_with (refine load27 hBk rfl rfl rfl rfl ?_)
      refine (Days_no (prB f 45) (.slice none 0 0) (.slice none 0 0) (.slice va 45 vc) 19723 11 _ (hI.out _ (Ext.refl _)) (he00.out _ hx.out) hdB.out (by decide)).mono ?_
      rintro e w10 ⟨rfl, hy⟩
      replace hBk := hBk.ext hy
      replace hx : Hid (Ext w w10) := hx.out.trans hy
      replace hy := show Hid _ from hy
      go_wp2_with fail
      refine (Days_no prZ (.slice none 0 0) (.slice none 0 0) (.slice none 0 0) 19723 9 _ (inp_of _ prZ _ (by decide) rfl rfl (by decide) (L8.nilh _)) (he00.out _ hx.out) due_z (by decide)).mono ?_
      rintro e w11 ⟨rfl, hy2⟩
      replace hBk := hBk.ext hy2
      replace hx : Hid (Ext w w11) := hx.out.trans hy2
      replace hy : Hid (Ext wr w11) := hy.out.trans hy2
      clear hy2
      go_wp2_with (refine load27 hBk rfl rfl rfl rfl ?_)
      refine (Parts_no (prB f 45) (.slice none 0 0) (.slice none 0 0) (.slice va 45 vc) 19723 11 _ (hI.out _ hy.out) (he00.out _ hx.out) hdB.out (by decide)).mono ?_
      rintro e w12 ⟨rfl, hy2⟩
      replace hx : Hid (Ext w w12) := hx.out.trans hy2
      clear hy2 hBk
      go_wp2_with fail
      refine (awake_w _ (he00.out _ hx.out)).mono ?_
      rintro e w13 ⟨rfl, hy2⟩
      replace hx : Hid (Ext w w13) := hx.out.trans hy2
      clear hy2
      go_wp2
      go_ret
      exact ⟨rfl, hx.out⟩

set_option maxRecDepth 100000 in
theorem lifted (os : Os) (started : os.Started) (H : Type) (enc : TypeId × Value → H) :
    ReturnsInHanded {} Tryd.checked os 3 .any (fun w args => (Rows.duesRefuseSpec.pre enc Tryd.prog Tryd.f3 [] false w args ∧ laidMetH Tryd.prog laid w) ∧ sizedMet enc Tryd.prog Tryd.f3 (OpenSpec.ofChange Rows.duesRefuseSpec) false w args)
      (Rows.duesRefuseSpec.post enc Tryd.prog Tryd.f3 false true false false) := by
  refine wrap started (by kernel_rfl) Tryd.func3
    (ChangeSpec.witness_shaped (enc := enc) (C := Tryd.checked) (os := os) (X := fun w _ => laidMetH Tryd.prog laid w) false (World.laidAll Tryd.prog os laid) #[.int .i64 0, .int .i64 0] 8 (World.laidAll_os _ _ _)
      (World.shaped_of_ZipB (by kernel_rfl) (by kernel_rfl)) (by kernel_rfl) (by kernel_rfl) (by kernel_rfl)
      (by rw [MakeChecks.laidMetH_plain _ _ _ (by kernel_rfl)]; exact laidMet_laidAll _ (by kernel_rfl) (by kernel_rfl))) ?_
  intro W base args ds gs before hval0 hW hE
  have hval : ∀ (j : Nat) t v, Tryd.f3.params[j]? = some t → args[j]? = some v → Value.okWide Tryd.prog W .any base t v := hval0
  have hW' := hW
  obtain ⟨p, q, hA0, hV, rfl, _, _⟩ := hW
  have hA : DataW.TrodAll enc Tryd.prog W 0 (fun _ => true) true Tryd.f3.params.toList args.toList ds p := hA0
  rw [Tryd.params3] at hA hval
  obtain ⟨v0, vs0, d0, ds0, p0, q0, hargs, rfl, rfl, h0, r0⟩ := trodAll_cons hA
  obtain ⟨v1, vs1, d1, ds1, p1, q1, rfl, rfl, rfl, h1, r1⟩ := trodAll_cons r0
  obtain ⟨rfl, rfl, rfl⟩ := trodAll_nil r1
  obtain rfl : args = #[v0, v1] := by cases args; simp_all
  obtain ⟨rfl, rfl⟩ := trodVars_none hV
  obtain ⟨a0, rfl, rfl, rfl, w0⟩ := open_int Tryd.underlying3 (hval 0 3 v0 rfl rfl) h0
  obtain ⟨a1, rfl, rfl, rfl, w1⟩ := open_int Tryd.underlying3 (hval 1 3 v1 rfl rfl) h1
  clear hA0 hval0
  simp only [List.append_nil] at hW'
  refine (walk a0 w0 a1 w1 W hE).mono fun e W' ⟨he, hb⟩ => ?_
  subst he
  exact ⟨_, rfl, _, _, _, [], _, [], hW', (trodAll_cons_mk (shut_bool Tryd.underlying4 _) trodAll_mk0), (trodAll_cons_mk (shut_int Tryd.underlying3 w0) (trodAll_cons_mk (shut_int Tryd.underlying3 w1) trodAll_mk0)), rfl, hb.below.frame _, fun h => by cases h⟩

theorem over : Rows.duesRefuseRow.holds Tryd.pinned (OpenSpec.ofChange Rows.duesRefuseSpec) :=
  OpenClaim.holds_of_wide 3 Tryd.f3 rfl rfl rfl rfl rfl rfl rfl ⟨rfl, rfl, rfl, rfl, rfl⟩ rfl rfl rfl rfl rfl (by kernel_rfl) Tryd.func3 (by kernel_rfl)
    (of_decide_eq_true (by kernel_rfl)) (by unfold Func.isWrapper; first | (rw [if_pos (by decide +kernel)]; kernel_rfl) | (rw [if_neg (by decide +kernel)]; exact ⟨rfl, rfl⟩))
    (fun os started H enc _ => lifted os started H enc)
end Go.Proofs.YtmlkccmkdgfalaaDoor.duesRefuse
namespace Go.Proofs.YtmlkccmkdgfalaaDoor
theorem duesRefuse_holds : Rows.DuesRefuseCardSaid :=
  Claim7.holds_tied_plain_at .later [] [.data] true (true, "93887fca380a9eceee59b4e55029649a0cbea52ab16cf0076988ed03eb3212f5") true duesRefuse.over (fun _ h => by cases h) (by kernel_rfl) (fun _ h => by cases h) duesRefuse_row_tie rfl ⟨rfl, rfl⟩ (by kernel_rfl) rfl
    (fun f fn hf hfn => by
      obtain rfl : f = 3 := Option.some.inj ((show Tryd.prog.funcNamed "quittance/quittancelaw11.DuesRefuse" = some 3 by kernel_rfl).symm.trans hf) |>.symm
      obtain rfl : fn = Tryd.f3 := (Option.some.inj (Tryd.func3.symm.trans hfn)).symm
      exact ⟨by kernel_rfl, fun j t ht => by
        rw [Tryd.params3] at ht
        have hm : t ∈ [3, 3] := by simpa using Array.mem_of_getElem? ht
        have hall : ([3, 3].all fun u => !Tryd.prog.wantsStandIn u) = true := by kernel_rfl
        exact (show Tryd.prog.wantsStandIn t = false by simpa using List.all_eq_true.1 hall t hm)⟩)
    (by kernel_rfl)
#print axioms duesRefuse_holds
end Go.Proofs.YtmlkccmkdgfalaaDoor
