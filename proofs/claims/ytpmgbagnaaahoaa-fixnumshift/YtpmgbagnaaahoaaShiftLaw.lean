/- Proved: for every n, d, more and mode, quittancelaw01.FixnumShift returns true (whole numbers more are whole numbers more of what comes out); no condition on n, d, more or mode. -/
import Derived.Test.YtpmgbagnaaahoaaRows
import Derived.WalkKit
import Derived.ProofKit
import Derived.OpenShut
import Derived.ShutString
import Derived.Test.YtpmgbagnaaahoaaSmall
namespace Go.Proofs.Ytpmgbagnaaahoaa.fixnumShift
open Go.ChangeShapes Go.WideShapes Go.ChangeAt Go.RowKit
open Go.ChangeMaps (open_string shut_string)
set_option linter.unusedVariables false      -- a walk need not use every 'w<i>' (that an integer argument fits its kind)

theorem own : ownKnob Try.prog.godebug = none := by kernel_rfl

open Go.Proofs.Ytpmgbagnaaahoaa

theorem walk (a0 : Int) (a1 : Int) (a2 : Int) (a3 : Int) (w0 : (Lit.int .i64 a0).wf = true) (w1 : (Lit.int .i64 a1).wf = true) (w2 : (Lit.int .i64 a2).wf = true) (w3 : (Lit.int .i64 a3).wf = true) (w : World) :
    Calls Try.prog 6 #[.int .i64 a0, .int .i64 a1, .int .i64 a2, .int .i64 a3] w fun e w' => e = .returned (.bool true) ∧ Grown w w' := by
  clear w0 w1 w2 w3
  obtain ⟨N, HN, n1, n2⟩ := n_of_tmod a0 1000000 (by omega)
  obtain ⟨D, HD, d1, d2⟩ := d_of_mask12 a1
  obtain ⟨K, HK, k1, k2, k3⟩ := k_of_tmod a2
  obtain ⟨M, HM, hm⟩ := m_of_mod' a3
  have HN' : Hid (a0.tmod 1000000 = N) := HN
  have HD' : Hid (wrap64 (1 + bits .and .i64 a1 4095) = D) := HD
  have HK' : Hid (wrap64 (2 * a2.tmod 1000) = K) := HK
  have HM' : Hid (wrap64 (1 + wrap64 ((IntKind.u64.wrap a3).tmod 3)) = M) := HM
  clear HN HD HK HM
  obtain ⟨p1, p2⟩ := mul_bound K D 2000 4096 (by omega) k1 k2 (by omega) d2
  have X1 : Hid (∀ w, Calls Try.prog 17 #[.agg #[.int .i64 M], .int .i64 N, .int .i64 D] w fun e w' => e = .returned (.tuple #[.int .i64 (rnd M N D), .int .i64 0]) ∧ Ext w w') :=
    fun w => divide_small M N D w hm (by omega) (by omega) d1 (by omega)
  have X2 : Hid (∀ w, Calls Try.prog 17 #[.agg #[.int .i64 M], .int .i64 (N + K * D), .int .i64 D] w fun e w' => e = .returned (.tuple #[.int .i64 (rnd M N D + K), .int .i64 0]) ∧ Ext w w') := by
    intro w
    rw [← rnd_shift M N D K (by omega) (Or.inl k3)]
    exact divide_small M (N + K * D) D w hm (by omega) (by omega) d1 (by omega)
  have X3 : Hid (∀ w, Calls Try.prog 18 #[.agg #[.int .i64 M], .int .i64 (N + K * D), .int .i64 7, .int .i64 (7 * D)] w fun e w' => e = .returned (.tuple #[.int .i64 (rnd M N D + K), .int .i64 0]) ∧ Ext w w') := by
    intro w
    rw [← rnd_shift M N D K (by omega) (Or.inl k3), ← rnd_seven M (N + K * D) D (by omega)]
    exact ratio_small M (N + K * D) 7 (7 * D) w hm (by omega) (by omega) (by omega) (by omega) (by omega) (by omega)
  obtain ⟨b1, b2, b3, b4⟩ := rnd_bound M N D 1000000 hm d1 (by omega) (by omega)
  clear b1 b2 k3
  generalize rnd M N D = X at *
  go_enter Try.func6, Try.ntmps6
  go_wp2_with fail
  simp only [HN'.out, HD'.out, HK'.out, HM'.out]
  refine (of_any M _ hm).mono ?_
  rintro e w1 ⟨rfl, x1⟩
  go_wp2_with fail
  refine (X1.out _).mono ?_
  rintro e w2 ⟨rfl, hx⟩
  have c2 : w2.cell? ⟨w1.heap.size, 0, none⟩ = some (.int .i64 M) := by rw [hx.cell _ _ (by simp)]; simp [go_sem]
  have x2 : Ext w w2 := Ext.trans (by repeat (first | exact x1 | apply Ext.alloc)) hx
  have s2 := lt_of_cell c2
  clear hx x1
  go_wp2_with fail
  refine (X2.out _).mono ?_
  rintro e w3 ⟨rfl, hx⟩
  have c3 : w3.cell? ⟨w1.heap.size, 0, none⟩ = some (.int .i64 M) := by rw [hx.cell _ _ s2]; exact c2
  have x3 : Ext w w3 := x2.trans hx
  clear hx x2 c2 s2
  go_wp2_with fail
  refine (X3.out _).mono ?_
  rintro e w4 ⟨rfl, hx⟩
  have x4 : Ext w w4 := x3.trans hx
  clear hx x3 c3
  go_wp2_with fail
  refine (awake_any _).mono ?_
  rintro e w5 ⟨rfl, hx⟩
  have x5 := x4.trans hx
  clear hx x4
  go_wp2_with fail
  go_ret
  exact ⟨rfl, x5.grown⟩

set_option maxRecDepth 100000 in
theorem lifted (os : Os) (started : os.Started) (H : Type) (enc : TypeId × Value → H) :
    ReturnsInHanded {} Try.checked os 6 .any (Rows.fixnumShiftSpec.pre6 enc Try.prog Try.f6 Rows.fixnumShiftRow.domain false) (Rows.fixnumShiftSpec.post enc Try.prog Try.f6 false true false false) := by
  refine returnsInHanded_of_change (C := Try.checked) own started (by kernel_rfl) Try.func6
    (ChangeSpec.witness6 (enc := enc) (C := Try.checked) false ⟨#[], #[.int .i64 0, .int .i64 0, .int .i64 0, .int .i64 0], []⟩ 8 (by kernel_rfl) (by kernel_rfl) (by kernel_rfl) (by kernel_rfl)) ?_
  intro W base args ds gs before hval0 hW hcnd _
  have hval : ∀ (j : Nat) t v, Try.f6.params[j]? = some t → args[j]? = some v → Value.okWide Try.prog W .any base t v := hval0
  have hW' := hW
  obtain ⟨p, q, hA0, hV, rfl, hfz, hnd⟩ := hW
  have hA : DataW.TrodAll enc Try.prog W 0 (fun _ => true) true Try.f6.params.toList args.toList ds p := hA0
  rw [Try.params6] at hA hval
  obtain ⟨v0, vs0, d0, ds0, p0, q0, hargs, rfl, rfl, h0, r0⟩ := trodAll_cons hA
  obtain ⟨v1, vs1, d1, ds1, p1, q1, rfl, rfl, rfl, h1, r1⟩ := trodAll_cons r0
  obtain ⟨v2, vs2, d2, ds2, p2, q2, rfl, rfl, rfl, h2, r2⟩ := trodAll_cons r1
  obtain ⟨v3, vs3, d3, ds3, p3, q3, rfl, rfl, rfl, h3, r3⟩ := trodAll_cons r2
  obtain ⟨rfl, rfl, rfl⟩ := trodAll_nil r3
  obtain rfl : args = #[v0, v1, v2, v3] := by cases args; simp_all
  obtain ⟨rfl, rfl⟩ := trodVars_none hV
  obtain ⟨a0, rfl, rfl, rfl, w0⟩ := open_int Try.underlying2 (hval 0 2 v0 rfl rfl) h0
  obtain ⟨a1, rfl, rfl, rfl, w1⟩ := open_int Try.underlying2 (hval 1 2 v1 rfl rfl) h1
  obtain ⟨a2, rfl, rfl, rfl, w2⟩ := open_int Try.underlying2 (hval 2 2 v2 rfl rfl) h2
  obtain ⟨a3, rfl, rfl, rfl, w3⟩ := open_int Try.underlying3 (hval 3 3 v3 rfl rfl) h3
  clear hA0 hval0
  simp only [List.append_nil] at hW'
  refine (walk a0 a1 a2 a3 w0 w1 w2 w3 W).mono fun e W' ⟨he, hg⟩ => ?_
  subst he
  exact ⟨_, rfl, post_of_same (pa := []) (pv := []) hW' (fun _ _ _ => (trodAll_cons_mk (shut_bool Try.underlying4 _) trodAll_mk0)) (fun sp _ => (trodAll_cons_mk (shut_int Try.underlying2 w0) (trodAll_cons_mk (shut_int Try.underlying2 w1) (trodAll_cons_mk (shut_int Try.underlying2 w2) (trodAll_cons_mk (shut_int Try.underlying3 w3) trodAll_mk0))))) (fun _ _ => rfl) rfl
    (hg.frame _) hg.2.1 (ok_one (by kernel_rfl) rfl (okWide_bool_mk Try.underlying4 _))⟩

theorem over : Rows.fixnumShiftRow.holds Try.pinned (OpenSpec.ofChange Rows.fixnumShiftSpec) :=
  OpenClaim.holds_of_wide 6 Try.f6 rfl rfl rfl rfl rfl rfl rfl ⟨rfl, rfl, rfl, rfl, rfl⟩ rfl rfl rfl rfl rfl (by kernel_rfl) Try.func6 (by kernel_rfl)
    (of_decide_eq_true (by kernel_rfl)) (by unfold Func.isWrapper; first | (rw [if_pos (by decide +kernel)]; kernel_rfl) | (rw [if_neg (by decide +kernel)]; exact ⟨rfl, rfl⟩))
    (fun os started H enc _ => lifted os started H enc)

theorem proved : Rows.FixnumShiftSaid :=
  over
end Go.Proofs.Ytpmgbagnaaahoaa.fixnumShift
namespace Go.Proofs.Ytpmgbagnaaahoaa
theorem fixnumShift_holds : Rows.FixnumShiftSaid := fixnumShift.proved
#print axioms fixnumShift_holds
end Go.Proofs.Ytpmgbagnaaahoaa
