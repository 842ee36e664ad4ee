/- For all ints count and balance, of the project's tree at the commit that COMMIT names, GrowthYear returns true and leaves its arguments as they were. -/
import Derived.Test.YteedbmmpkgpfhaaDoorFrame
import Derived.Test.YteedbmmpkgpfhaaDoorGr7
namespace Go.Proofs.YteedbmmpkgpfhaaDoor.growthYear
open Go.ChangeShapes Go.WideShapes Go.ChangeAt Go.RowKit Go.Lib
set_option linter.unusedVariables false

theorem year_one (W b : Int) (hW : 0 < W) : bq 3 W 0 (b * W) = b ∧ br 3 W 0 (b * W) = 0 := by
  have e : bq 3 W 0 (b * W) = b := by unfold bq; rw [rnd_three, Int.add_zero, Int.mul_ediv_cancel _ (by omega)]
  refine ⟨e, ?_⟩
  unfold br
  rw [e, Int.mul_comm W b]; omega
theorem year_half (H b : Int) (hH : 0 < H) : bq 3 (H * 2) 0 (b * H) = b / 2 := by
  unfold bq
  rw [rnd_three, Int.add_zero, Int.mul_comm H 2]
  exact Int.mul_ediv_mul_of_pos_left b 2 hH
set_option maxRecDepth 100000 in
set_option maxHeartbeats 4000000 in

theorem walk (a0 : Int) (w0 : (Lit.int .i64 a0).wf = true) (a1 : Int) (w1 : (Lit.int .i64 a1).wf = true) (w : World) :
    Calls Tryd.prog 6 #[.int .i64 a0, .int .i64 a1] w fun e w' => e = .returned (.bool true) ∧ Ext w w' := by
  clear w0 w1
  obtain ⟨u0, hu0⟩ : ∃ u, IntKind.u64.wrap a0 = u := ⟨_, rfl⟩
  have p0 : 0 ≤ u0 ∧ u0 < 18446744073709551616 := by rw [← hu0, IntKind.wrap_u64]; omega
  obtain ⟨r0, s0⟩ := p0
  obtain ⟨v0, hv0⟩ : ∃ v, u0 % 3 = v := ⟨_, rfl⟩
  have p0 : 0 ≤ v0 ∧ v0 < 3 := by omega
  obtain ⟨g0, l0⟩ := p0
  obtain ⟨u1, hu1⟩ : ∃ u, IntKind.u64.wrap a1 = u := ⟨_, rfl⟩
  have p1 : 0 ≤ u1 ∧ u1 < 18446744073709551616 := by rw [← hu1, IntKind.wrap_u64]; omega
  obtain ⟨r1, s1⟩ := p1
  obtain ⟨v1, hv1⟩ : ∃ v, u1 % 1000000000000001 = v := ⟨_, rfl⟩
  have p1 : 0 ≤ v1 ∧ v1 < 1000000000000001 := by omega
  obtain ⟨g1, l1⟩ := p1
  obtain ⟨K, hK⟩ : ∃ K, 1 + v0 = K := ⟨_, rfl⟩
  have K1 : 1 ≤ K := by omega
  have K2 : K ≤ 3 := by omega
  have hPb := pt_bd K1 K2
  obtain ⟨P, hP⟩ : ∃ P, ptA K = P := ⟨_, rfl⟩
  rw [hP] at hPb
  have P0 : 0 < P := by omega
  have P1 : P ≤ 133590 := by omega
  have hN : Hid (∀ w : World, Calls Tryd.prog 9 #[.int .i64 K, .int .i64 (3)] w fun e w' => ∃ B, e = .returned (.tuple #[.pointer (some ⟨B, 0, none⟩), .int .i64 0]) ∧ Born w w' B (3) (1000000000 * P) 0) := fun w => by rw [← hP]; exact New_ok K (3) w K1 K2 (by omega)
  have hR : Hid (∀ w : World, Calls Tryd.prog 10 #[.int .i64 K, .int .i64 (3)] w fun e w' => ∃ C, e = .returned (.tuple #[.pointer (some ⟨C, 0, none⟩), .int .i64 0]) ∧ Rbr w' C P (decide (3 = (1 : Int))) 0 ∧ w.heap.size ≤ C ∧ Ext w w') := fun w => by rw [← hP]; exact rNew_ok K (3) w K1 K2 (by omega)
  have hW : 0 < 1000000000 * P := by omega
  have hr := rst_zero (m := 3) (W := 1000000000 * P) (Or.inr rfl) hW
  have h1 : Hid (∀ (B : Nat) (w : World), Brr w B 3 (1000000000 * P) 0 → Calls Tryd.prog 12 #[.pointer (some ⟨B, 0, none⟩), .int .i64 v1, .int .i64 1000000000, .int .i64 P] w fun e w' => e = .returned (.tuple #[.int .i64 v1, .int .i64 0]) ∧ Ext (w.setCell ⟨B, 2, none⟩ (.int .i64 0)) w') := fun B w hB =>
    Bear_v B 3 _ 0 v1 1000000000 P _ _ hr hW (by omega) ⟨by omega, by decide, by omega⟩ (year_one _ _ hW).1 (year_one _ _ hW).2 (by omega) w hB
  obtain ⟨x, hx2⟩ : ∃ x, br 3 (1000000000 * P) 0 (v1 * (500000000 * P)) = x := ⟨_, rfl⟩
  have h2 : Hid (∀ (B : Nat) (w : World), Brr w B 3 (1000000000 * P) 0 → Calls Tryd.prog 12 #[.pointer (some ⟨B, 0, none⟩), .int .i64 v1, .int .i64 500000000, .int .i64 P] w fun e w' => e = .returned (.tuple #[.int .i64 (v1 / 2), .int .i64 0]) ∧ Ext (w.setCell ⟨B, 2, none⟩ (.int .i64 x)) w') := fun B w hB =>
    Bear_v B 3 _ 0 v1 500000000 P _ _ hr hW (by omega) ⟨by omega, by decide, by omega⟩ (by
      have := year_half (500000000 * P) v1 (by omega)
      rwa [show 500000000 * P * 2 = 1000000000 * P by omega] at this) hx2 (by omega) w hB
  clear hx2 hr
  go_enter Tryd.func6, Tryd.ntmps6
  go_wp2_with fail
  refine (hN.out _).mono ?_
  rintro e w1 ⟨B, rfl, hb⟩
  have hx : Hid (Ext w w1) := hb.ext
  have hlo := hb.lo
  have hB : Hid (Brr w1 B 3 (1000000000 * P) 0) := hb.brr
  have hs1 := hb.brr.lt
  clear hb
  go_wp2_with fail
  refine (hR.out _).mono ?_
  rintro e w2 ⟨C, rfl, hc, hcl, hx1⟩
  replace hx : Hid (Ext w w2) := hx.out.trans hx1
  replace hB : Hid (Brr w2 B 3 (1000000000 * P) 0) := hB.out.ext hx1
  replace hc : Hid (Rbr w2 C P (decide (3 = (1 : Int))) 0) := hc
  clear hx1
  go_wp2_with fail
  refine (awake_c _).mono ?_
  rintro e w3 ⟨rfl, hx1⟩
  replace hx : Hid (Ext w w3) := hx.out.trans hx1
  replace hB : Hid (Brr w3 B 3 (1000000000 * P) 0) := hB.out.ext hx1
  have hc3 : Rbr w3 C P (decide (3 = (1 : Int))) 0 := hc.out.ext hx1
  have c0 := hc3.c0
  replace hc : Hid (Rbr w3 C P (decide (3 = (1 : Int))) 0) := hc3
  clear hx1 hc3
  go_wp2_with fail
  refine (h1.out _ _ hB.out).mono ?_
  rintro e w4 ⟨rfl, hx1⟩
  replace hx : Hid (Ext w w4) := hx.out.wrote hlo hx1
  have hc4 : Rbr w4 C P (decide (3 = (1 : Int))) 0 := hc.out.beside (by omega) hx1
  replace hB : Hid (Brr w4 B 3 (1000000000 * P) 0) := hB.out.wrote hx1
  have c0 := hc4.c0
  clear hx1 hc4 hc
  go_wp2_with fail
  refine (h2.out _ _ hB.out).mono ?_
  rintro e w5 ⟨rfl, hx1⟩
  replace hx : Hid (Ext w w5) := hx.out.wrote hlo hx1
  clear hx1 hB h1 h2 hN hR
  go_wp2
  go_ret
  exact ⟨rfl, hx.out⟩

set_option maxRecDepth 100000 in
theorem lifted (os : Os) (started : os.Started) (H : Type) (enc : TypeId × Value → H) :
    ReturnsInHanded {} Tryd.checked os 6 .any (fun w args => (Rows.growthYearSpec.pre enc Tryd.prog Tryd.f6 [] false w args ∧ laidMetH Tryd.prog laid w) ∧ sizedMet enc Tryd.prog Tryd.f6 (OpenSpec.ofChange Rows.growthYearSpec) false w args)
      (Rows.growthYearSpec.post enc Tryd.prog Tryd.f6 false true false false) := by
  refine wrap started (by kernel_rfl) Tryd.func6
    (ChangeSpec.witness_shaped (enc := enc) (C := Tryd.checked) (os := os) (X := fun w _ => laidMetH Tryd.prog laid w) false (World.laidAll Tryd.prog os laid) #[.int .i64 0, .int .i64 0] 8 (World.laidAll_os _ _ _)
      (World.shaped_of_ZipB (by kernel_rfl) (by kernel_rfl)) (by kernel_rfl) (by kernel_rfl) (by kernel_rfl)
      (by rw [MakeChecks.laidMetH_plain _ _ _ (by kernel_rfl)]; exact laidMet_laidAll _ (by kernel_rfl) (by kernel_rfl))) ?_
  intro W base args ds gs before hval0 hW hE
  have hval : ∀ (j : Nat) t v, Tryd.f6.params[j]? = some t → args[j]? = some v → Value.okWide Tryd.prog W .any base t v := hval0
  have hW' := hW
  obtain ⟨p, q, hA0, hV, rfl, _, _⟩ := hW
  have hA : DataW.TrodAll enc Tryd.prog W 0 (fun _ => true) true Tryd.f6.params.toList args.toList ds p := hA0
  rw [Tryd.params6] at hA hval
  obtain ⟨v0, vs0, d0, ds0, p0, q0, hargs, rfl, rfl, h0, r0⟩ := trodAll_cons hA
  obtain ⟨v1, vs1, d1, ds1, p1, q1, rfl, rfl, rfl, h1, r1⟩ := trodAll_cons r0
  obtain ⟨rfl, rfl, rfl⟩ := trodAll_nil r1
  obtain rfl : args = #[v0, v1] := by cases args; simp_all
  obtain ⟨rfl, rfl⟩ := trodVars_none hV
  obtain ⟨a0, rfl, rfl, rfl, w0⟩ := open_int Tryd.underlying3 (hval 0 3 v0 rfl rfl) h0
  obtain ⟨a1, rfl, rfl, rfl, w1⟩ := open_int Tryd.underlying2 (hval 1 2 v1 rfl rfl) h1
  clear hA0 hval0
  simp only [List.append_nil] at hW'
  refine (walk a0 w0 a1 w1 W).mono fun e W' ⟨he, hb⟩ => ?_
  subst he
  exact ⟨_, rfl, _, _, _, [], _, [], hW', (trodAll_cons_mk (shut_bool Tryd.underlying4 _) trodAll_mk0), (trodAll_cons_mk (shut_int Tryd.underlying3 w0) (trodAll_cons_mk (shut_int Tryd.underlying2 w1) trodAll_mk0)), rfl, hb.below.frame _, fun h => by cases h⟩

theorem over : Rows.growthYearRow.holds Tryd.pinned (OpenSpec.ofChange Rows.growthYearSpec) :=
  OpenClaim.holds_of_wide 6 Tryd.f6 rfl rfl rfl rfl rfl rfl rfl ⟨rfl, rfl, rfl, rfl, rfl⟩ rfl rfl rfl rfl rfl (by kernel_rfl) Tryd.func6 (by kernel_rfl)
    (of_decide_eq_true (by kernel_rfl)) (by unfold Func.isWrapper; first | (rw [if_pos (by decide +kernel)]; kernel_rfl) | (rw [if_neg (by decide +kernel)]; exact ⟨rfl, rfl⟩))
    (fun os started H enc _ => lifted os started H enc)
end Go.Proofs.YteedbmmpkgpfhaaDoor.growthYear
namespace Go.Proofs.YteedbmmpkgpfhaaDoor
theorem growthYear_holds : Rows.GrowthYearCardSaid :=
  Claim7.holds_tied_plain_at .later [] [.data] true (true, "225b0824fabe58f814383c228e1f1ee1b73c46497dda64b3ca6af21c7fd91e33") true growthYear.over (fun _ h => by cases h) (by kernel_rfl) (fun _ h => by cases h) growthYear_row_tie rfl ⟨rfl, rfl⟩ (by kernel_rfl) rfl
    (fun f fn hf hfn => by
      obtain rfl : f = 6 := Option.some.inj ((show Tryd.prog.funcNamed "quittance/quittancelaw12.GrowthYear" = some 6 by kernel_rfl).symm.trans hf) |>.symm
      obtain rfl : fn = Tryd.f6 := (Option.some.inj (Tryd.func6.symm.trans hfn)).symm
      exact ⟨by kernel_rfl, fun j t ht => by
        rw [Tryd.params6] at ht
        have hm : t ∈ [3, 2] := by simpa using Array.mem_of_getElem? ht
        have hall : ([3, 2].all fun u => !Tryd.prog.wantsStandIn u) = true := by kernel_rfl
        exact (show Tryd.prog.wantsStandIn t = false by simpa using List.all_eq_true.1 hall t hm)⟩)
    (by kernel_rfl)
#print axioms growthYear_holds
end Go.Proofs.YteedbmmpkgpfhaaDoor
