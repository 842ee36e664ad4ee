/- For every int times, of the project's tree at the commit that COMMIT names, GrammarWithout returns true and leaves its argument as it was, with the listed variables laid as the program's text lays them. -/
import Derived.Test.YtlbodoggfbdnjabGreatDoorW8
import Derived.Test.YtlbodoggfbdnjabGreatDoorW13
namespace Go.Proofs.YtlbodoggfbdnjabGreatDoor.grammarWithout
open Go.ChangeShapes Go.WideShapes Go.ChangeAt Go.RowKit Go.Lib
set_option linter.unusedVariables false
theorem mod_of (a m : Int) (hm : 0 < m) : ∃ N : Nat, (IntKind.u64.wrap a).tmod m = (N : Int) ∧ (N : Int) < m := by
  have h0 : 0 ≤ IntKind.u64.wrap a := by
    unfold IntKind.wrap
    simp [IntKind.signed, IntKind.bits]
    omega
  have h1 : 0 ≤ (IntKind.u64.wrap a).tmod m := Int.tmod_nonneg _ h0
  have h2 : (IntKind.u64.wrap a).tmod m < m := Int.tmod_lt_of_pos _ hm
  exact ⟨((IntKind.u64.wrap a).tmod m).toNat, by omega, by omega⟩
theorem lsts_past {w0 w W W' : World} {b : Nat} {p : Prd} {vr vl vh : Value} (h : Lsts w0 w p vr vl vh) (hx : Ext w W) (hb : w.heap.size ≤ b) (h3 : Exr b W W') : Lsts w0 W' p vr vl vh :=
  h.low fun g _ hg => (h3.block g (Nat.lt_of_lt_of_le hg hx.size) (by omega)).trans (hx.below.block g hg)
theorem no_slp {W : World} : L8.Slp W (.slice none 0 0) [] := Or.inl ⟨none, 0, rfl, fun _ => rfl, rfl⟩
theorem no_slc {W : World} : L8.Slc W (.slice none 0 0) [] := Or.inl ⟨none, 0, rfl, fun _ => rfl, rfl⟩
theorem want_of (n : Nat) : (pcells (woP n) (.slice none 0 0) (.slice none 0 0) (.slice none 0 0)) = #[.string ⟨#[97]⟩, .int .i64 3, .int .i64 3, .int .i64 3, .int .i64 12, .int .i64 n, .int .i64 0, .int .i64 0, .slice none 0 0, .int .i64 0, .int .i64 4, .int .i64 3, .int .i64 2, .int .i64 1, .int .i64 1, .slice none 0 0, .int .i64 0, .int .i64 1, .slice none 0 0] := rfl
set_option maxRecDepth 100000 in
set_option maxHeartbeats 8000000 in

theorem walk (a0 : Int) (w0 : (Lit.int .i64 a0).wf = true) (w : World) (he : Env w) :
    Calls Tryz.prog 3 #[.int .i64 a0] w fun e w' => e = .returned (.bool true) ∧ Ext w w' := by
  replace he : Hid (Env w) := he
  obtain ⟨N, hN, hN600⟩ := mod_of a0 600 (by omega)
  obtain ⟨n, hn⟩ : ∃ n : Nat, n = N + 1 := ⟨_, rfl⟩
  have hn1 : 1 + (N : Int) = (n : Int) := by omega
  have hn6 : n ≤ 600 := by omega
  have hn0 : 1 ≤ n := by omega
  replace hn := show Hid _ from hn
  go_enter Tryz.func3, Tryz.ntmps3
  go_wp2_with fail
  refine (hdigits_c n _ (by omega) (by omega)).mono ?_
  rintro e w1 ⟨⟨j, hj, rfl⟩, hx⟩
  rw [L2.ends_dec n j hj]
  have hP := wo_prs n hn0 hn6
  have hD := dec_len 8 n (by omega)
  obtain ⟨D, hDD⟩ : ∃ D, decDigits n = D := ⟨_, rfl⟩
  rw [hDD] at hP hD ⊢
  have l1 : ¬ 9223372036854775807 < 18 + D.length := by omega
  have l2 : ¬ 9223372036854775807 < 18 + (D.length + 100) := by omega
  have l3 : ¬ 9223372036854775807 < 18 + D.length + 100 := by omega
  have hlen : (woA ++ (D ++ woB)).length ≤ 9223372036854775807 := by
    have e1 : woA.length = 18 := rfl
    have e2 : woB.length = 100 := rfl
    simp only [List.length_append, e1, e2]
    omega
  have he1 : Hid (Env w1) := he.out.ext hx
  replace hx := show Hid _ from hx
  replace hP := show Hid _ from hP
  clear hDD hj hN hN600
  go_wp2_with fail
  refine (Parse_c (woA ++ (D ++ woB)) _ hlen he1).mono ?_
  rintro e w2 ⟨hx2, hA⟩
  rw [hP.out] at hA
  obtain ⟨vr, vl, vh, rfl, hL⟩ := hA
  clear l1 l2 l3 hlen he1 hD
  have hsz : (pcells (woP n) vr vl vh).size = 19 := rfl
  have hone := pcells_one (p := woP n) hL.sr hL.sl hL.sh
  obtain ⟨W3, b, hW3, hb, hx3, hB3⟩ := layZ w2
  replace hx2 := hx.out.trans hx2
  have hlo : w.heap.size ≤ b := by rw [← hb]; exact hx2.size
  have hlb : w2.heap.size ≤ b := by omega
  replace hx := show Hid _ from hx2.trans hx3
  replace hL := show Hid _ from hL
  go_wp2_with (refine store27 hB3 rfl hsz hone rfl rfl rfl rfl ?_)
  intro W4 hB4 hx4
  replace hx : Hid (Ext w W4) := hx4.ext hx.out hlo
  replace hL : Hid (Lsts w1 W4 (woP n) vr vl vh) := lsts_past hL.out hx3 hlb hx4
  replace hB4 : Hid (Blk W4 b (pcells (woP n) vr vl vh)) := hB4
  clear hW3 hb hx3 hB3 hx4 hlo hlb hx2
  obtain ⟨W5, d, hW5, hd, hx5, hB5⟩ := layZ W4
  have hbd : b ≠ d := by have := (Array.getElem?_eq_some_iff.1 hB4.out).1; omega
  have hB5' : Hid (Blk W5 b (pcells (woP n) vr vl vh)) := hB4.out.ext hx5
  have hlo : w.heap.size ≤ d := by rw [← hd]; exact hx.out.size
  have hld : W4.heap.size ≤ d := by omega
  have hw := want_of n
  have hsz2 : (pcells (woP n) (.slice none 0 0) (.slice none 0 0) (.slice none 0 0)).size = 19 := rfl
  have hone2 := pcells_slp (p := woP n) (w := W5) (vr := .slice none 0 0) (vl := .slice none 0 0) (vh := .slice none 0 0) no_slp no_slp no_slc
  replace hx := show Hid _ from hx.out.trans hx5
  replace hw := show Hid _ from hw
  clear hB4
  go_wp2_with (refine store27 hB5 rfl hsz2 hone2 rfl rfl rfl rfl ?_)
  intro W6 hB6 hx6
  replace hB6 : Hid (Blk W6 d (pcells (woP n) (.slice none 0 0) (.slice none 0 0) (.slice none 0 0))) := hB6
  have hB7 : Hid (Blk W6 b (pcells (woP n) vr vl vh)) := hB5'.out.exr hx6 hbd
  replace hx : Hid (Ext w W6) := hx6.ext hx.out hlo
  replace hL : Hid (Lsts w1 W6 (woP n) vr vl vh) := lsts_past hL.out hx5 hld hx6
  have he6 : Hid (Env W6) := he.out.ext hx.out
  clear hW5 hd hx5 hB5 hx6 hlo hld hB5' hone2 hsz2 hbd hone hsz
  go_wp2_with fail
  refine (awake_c _ he6).mono ?_
  rintro e w7 ⟨rfl, hx7⟩
  have hB8 := hB7.out.ext hx7
  have hB9 := hB6.out.ext hx7
  replace hx : Hid (Ext w w7) := hx.out.trans hx7
  replace hL : Hid (Lsts w1 w7 (woP n) vr vl vh) := hL.out.ext hx7
  clear hx7 he6 hB7 hB6
  go_wp2_with (first | refine load27 hB8 rfl rfl rfl rfl ?_ | refine load27 hB9 rfl rfl rfl rfl ?_)
  refine (Prod_c (woP n) vr vl vh (.slice none 0 0) (.slice none 0 0) (.slice none 0 0) _ ⟨Nat.zero_le _, Nat.zero_le _, Nat.zero_le _⟩ (slp_own hL.out.sr) (slp_own hL.out.sl) (slc_own hL.out.sh) no_slp no_slp no_slc).mono ?_
  rintro e w8 ⟨rfl, hx8⟩
  replace hx : Hid (Ext w w8) := hx.out.trans hx8
  clear hx8 hB8 hB9
  go_wp2
  go_ret
  exact ⟨rfl, hx.out⟩
set_option maxRecDepth 100000 in
theorem lifted (os : Os) (started : os.Started) (H : Type) (enc : TypeId × Value → H) :
    ReturnsInHanded {} Tryz.checked os 3 .any (fun w args => (Rows.grammarWithoutSpec.pre enc Tryz.prog Tryz.f3 [] false w args ∧ laidMetH Tryz.prog laid w) ∧ sizedMet enc Tryz.prog Tryz.f3 (OpenSpec.ofChange Rows.grammarWithoutSpec) false w args)
      (Rows.grammarWithoutSpec.post enc Tryz.prog Tryz.f3 false true false false) := by
  refine wrap started (by kernel_rfl) Tryz.func3
    (ChangeSpec.witness_shaped (enc := enc) (C := Tryz.checked) (os := os) (X := fun w _ => laidMetH Tryz.prog laid w) false (World.laidAll Tryz.prog os laid) #[.int .i64 0] 8 (World.laidAll_os _ _ _)
      (World.shaped_of_ZipB (by kernel_rfl) (by kernel_rfl)) (by kernel_rfl) (by kernel_rfl) (by kernel_rfl)
      (by rw [MakeChecks.laidMetH_plain _ _ _ (by kernel_rfl)]; exact laidMet_laidAll _ (by kernel_rfl) (by kernel_rfl))) ?_
  intro W base args ds gs before hval0 hW hE
  have hval : ∀ (j : Nat) t v, Tryz.f3.params[j]? = some t → args[j]? = some v → Value.okWide Tryz.prog W .any base t v := hval0
  have hW' := hW
  obtain ⟨p, q, hA0, hV, rfl, _, _⟩ := hW
  have hA : DataW.TrodAll enc Tryz.prog W 0 (fun _ => true) true Tryz.f3.params.toList args.toList ds p := hA0
  rw [Tryz.params3] at hA hval
  obtain ⟨v0, vs0, d0, ds0, p0, q0, hargs, rfl, rfl, h0, r0⟩ := trodAll_cons hA
  obtain ⟨rfl, rfl, rfl⟩ := trodAll_nil r0
  obtain rfl : args = #[v0] := by cases args; simp_all
  obtain ⟨rfl, rfl⟩ := trodVars_none hV
  obtain ⟨a0, rfl, rfl, rfl, w0⟩ := open_int Tryz.underlying3 (hval 0 3 v0 rfl rfl) h0
  clear hA0 hval0
  simp only [List.append_nil] at hW'
  refine (walk a0 w0 W hE).mono fun e W' ⟨he, hb⟩ => ?_
  subst he
  exact ⟨_, rfl, _, _, _, [], _, [], hW', (trodAll_cons_mk (shut_bool Tryz.underlying4 _) trodAll_mk0), (trodAll_cons_mk (shut_int Tryz.underlying3 w0) trodAll_mk0), rfl, hb.below.frame _, fun h => by cases h⟩
theorem over : Rows.grammarWithoutRow.holds Tryz.pinned (OpenSpec.ofChange Rows.grammarWithoutSpec) :=
  OpenClaim.holds_of_wide 3 Tryz.f3 rfl rfl rfl rfl rfl rfl rfl ⟨rfl, rfl, rfl, rfl, rfl⟩ rfl rfl rfl rfl rfl (by kernel_rfl) Tryz.func3 (by kernel_rfl)
    (of_decide_eq_true (by kernel_rfl)) (by unfold Func.isWrapper; first | (rw [if_pos (by decide +kernel)]; kernel_rfl) | (rw [if_neg (by decide +kernel)]; exact ⟨rfl, rfl⟩))
    (fun os started H enc _ => lifted os started H enc)
end Go.Proofs.YtlbodoggfbdnjabGreatDoor.grammarWithout
namespace Go.Proofs.YtlbodoggfbdnjabGreatDoor
theorem grammarWithout_holds : Rows.GrammarWithoutCardSaid :=
  Claim7.holds_tied_plain_at .later [] [.data, .data, .data, .data, .sentinel, .sentinel, .data, .pinned] true (true, "fa13fe953b548f16a8f7de969f2782fa4a8b51327d65264c7d9dff9b31937bb9") true grammarWithout.over (fun _ h => by cases h) (by kernel_rfl) (fun _ h => by cases h) grammarWithout_row_tie rfl ⟨rfl, rfl⟩ (by kernel_rfl) rfl
    (fun f fn hf hfn => by
      obtain rfl : f = 3 := Option.some.inj ((show Tryz.prog.funcNamed "quittance/quittancelaw09.GrammarWithout" = some 3 by kernel_rfl).symm.trans hf) |>.symm
      obtain rfl : fn = Tryz.f3 := (Option.some.inj (Tryz.func3.symm.trans hfn)).symm
      exact ⟨by kernel_rfl, fun j t ht => by
        rw [Tryz.params3] at ht
        have hm : t ∈ [3] := by simpa using Array.mem_of_getElem? ht
        have hall : ([3].all fun u => !Tryz.prog.wantsStandIn u) = true := by kernel_rfl
        exact (show Tryz.prog.wantsStandIn t = false by simpa using List.all_eq_true.1 hall t hm)⟩)
    (by kernel_rfl)
#print axioms grammarWithout_holds
end Go.Proofs.YtlbodoggfbdnjabGreatDoor
