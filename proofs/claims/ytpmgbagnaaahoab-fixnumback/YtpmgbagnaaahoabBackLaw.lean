/- Proved: for every a, b, n and mode, quittancelaw01.FixnumBack returns true (a number times another one, by that one, is the number, however great the product is; sums and products go back, too); no condition on a, b, n or mode. -/
import Derived.Test.YtpmgbagnaaahoabRows
import Derived.WalkKit
import Derived.ProofKit
import Derived.OpenShut
import Derived.ShutString
import Derived.Test.YtpmgbagnaaahoabWhole
import Derived.Test.YtpmgbagnaaahoabTimes
namespace Go.Proofs.Ytpmgbagnaaahoab.fixnumBack
open Go.ChangeShapes Go.WideShapes Go.ChangeAt Go.RowKit
open Go.ChangeMaps (open_string shut_string)
set_option linter.unusedVariables false      -- a walk need not use every 'w<i>' (that an integer argument fits its kind)

theorem own : ownKnob Try.prog.godebug = none := by kernel_rfl

open Go.Proofs.Ytpmgbagnaaahoab

theorem b_of (n : Int) : ∃ B, wrap64 (1 + (wrap64 (IntKind.u64.wrap n / 2)).tmod 4611686018427387904) = B ∧ 1 ≤ B ∧ B ≤ 4611686018427387904 := by
  refine ⟨_, rfl, ?_⟩
  have e : wrap64 (IntKind.u64.wrap n / 2) = IntKind.u64.wrap n / 2 := by rw [IntKind.wrap_u64]; unfold wrap64; omega
  have e2 : 0 ≤ IntKind.u64.wrap n / 2 := by rw [IntKind.wrap_u64]; omega
  rw [e, Int.tmod_eq_emod_of_nonneg e2]
  unfold wrap64
  omega
theorem k_of (n : Int) : ∃ K, wrap64 (1 + wrap64 ((IntKind.u64.wrap n).tmod 1000)) = K ∧ 1 ≤ K ∧ K ≤ 1000 := by
  refine ⟨_, rfl, ?_⟩
  rw [IntKind.wrap_u64, Int.tmod_eq_emod_of_nonneg (Int.emod_nonneg n (by omega))]
  unfold wrap64
  omega
theorem m_of (n : Int) : ∃ M, wrap64 (1 + wrap64 ((IntKind.u64.wrap n).tmod 3)) = M ∧ (M = 1 ∨ M = 2 ∨ M = 3) := ⟨_, rfl, m_of_mod n⟩

theorem quo_of (n k : Int) (hk : 0 < k) : ∃ q r, n.tdiv k = q ∧ k * q + r = n ∧ -k < r ∧ r < k := by
  refine ⟨_, n.tmod k, rfl, Int.mul_tdiv_add_tmod n k, tmod_bound n k hk⟩

theorem rnd_exact (m q d : Int) (hd : 0 < d) : rnd m (q * d) d = q := by
  unfold rnd
  rw [Int.mul_ediv_cancel q (by omega), Int.mul_emod_left, up_zero _ _ _ hd]
  simp

theorem mag_mul_le (a b B C : Int) (hB : 0 ≤ B) (h1 : -B ≤ a) (h2 : a ≤ B) (h3 : -C ≤ b) (h4 : b ≤ C) : ((mag a * mag b : Nat) : Int) ≤ B * C := by
  rw [Int.natCast_mul]
  exact Int.mul_le_mul (by unfold mag; omega) (by unfold mag; omega) (by omega) hB

theorem walk (a0 : Int) (a1 : Int) (a2 : Int) (a3 : Int) (w0 : (Lit.int .i64 a0).wf = true) (w1 : (Lit.int .i64 a1).wf = true) (w2 : (Lit.int .i64 a2).wf = true) (w3 : (Lit.int .i64 a3).wf = true) (w : World) :
    Calls Try.prog 3 #[.int .i64 a0, .int .i64 a1, .int .i64 a2, .int .i64 a3] w fun e w' => e = .returned (.bool true) ∧ Grown w w' := by
  clear w0 w1 w2 w3
  obtain ⟨A, HA, n1, n2⟩ := n_of_tmod a0 1000000000000001 (by omega)
  obtain ⟨B, HB, d1, d2⟩ := b_of a1
  obtain ⟨K, HK, k1, k2⟩ := k_of a2
  obtain ⟨M, HM, hm⟩ := m_of a3
  obtain ⟨q1, r1, T1, y1, y2, y3⟩ := quo_of A 1000 (by omega)
  obtain ⟨q2, r2, T2, z1, z2, z3⟩ := quo_of A 2 (by omega)
  obtain ⟨q3, r3, T3, u1, u2, u3⟩ := quo_of A 3 (by omega)
  have HA' : Hid (a0.tmod 1000000000000001 = A) := HA
  have HB' : Hid (wrap64 (1 + (wrap64 (IntKind.u64.wrap a1 / 2)).tmod 4611686018427387904) = B) := HB
  have HK' : Hid (wrap64 (1 + wrap64 ((IntKind.u64.wrap a2).tmod 1000)) = K) := HK
  have HM' : Hid (wrap64 (1 + wrap64 ((IntKind.u64.wrap a3).tmod 3)) = M) := HM
  clear HA HB HK HM
  have c1 : -1000000000000 ≤ q1 := by omega
  have c2 : q1 ≤ 1000000000000 := by omega
  have c3 : -500000000000000 ≤ q2 := by omega
  have c4 : q2 ≤ 500000000000000 := by omega
  have c5 : -333333333333334 ≤ q3 := by omega
  have c6 : q3 ≤ 333333333333334 := by omega
  clear y1 y2 y3 z1 z2 z3 u1 u2 u3
  have hmul := mag_mul_le q1 K 1000000000000 1000 (by omega) c1 c2 (by omega) k2
  have hp := prod_mag q1 K
  have p1 : -1000000000000000 ≤ q1 * K := by rw [hp]; split <;> omega
  have p2 : q1 * K ≤ 1000000000000000 := by rw [hp]; split <;> omega
  have X1 : Hid (∀ w, Calls Try.prog 5 #[.agg #[.int .i64 M], .int .i64 A, .int .i64 B, .int .i64 B] w fun e w' => e = .returned (.tuple #[.int .i64 A, .int .i64 0]) ∧ Ext w w') := by
    intro w
    have e := rnd_exact M A B (by omega)
    have h := ratio_ok M A B B w hm ⟨by omega, by omega⟩ ⟨by omega, by omega⟩ (by omega) (by omega) (fun hh => divAt_full _ B (by omega) (by omega) hh) (by rw [e]; exact ⟨by omega, by omega⟩)
    rw [e] at h
    exact h
  have X2 : Hid (∀ w, Calls Try.prog 6 #[.int .i64 q1, .int .i64 K] w fun e w' => e = .returned (.tuple #[.int .i64 (q1 * K), .int .i64 0]) ∧ Ext w w') :=
    fun w => times_ok q1 K w ⟨by omega, by omega⟩ ⟨by omega, by omega⟩ (by omega)
  have X3 : Hid (∀ w, Calls Try.prog 7 #[.agg #[.int .i64 M], .int .i64 (q1 * K), .int .i64 K] w fun e w' => e = .returned (.tuple #[.int .i64 q1, .int .i64 0]) ∧ Ext w w') := by
    intro w
    have e := rnd_exact M q1 K (by omega)
    have h := divide_ok M (q1 * K) K w hm ⟨by omega, by omega⟩ (by omega) (by omega) (fun hh => divAt_full _ K (by omega) (by omega) hh) (by rw [e]; exact ⟨by omega, by omega⟩)
    rw [e] at h
    exact h
  have X4 : Hid (∀ w, Calls Try.prog 8 #[.int .i64 q2, .int .i64 q3] w fun e w' => e = .returned (.tuple #[.int .i64 (q2 + q3), .int .i64 0]) ∧ Ext w w') :=
    fun w => plus_ok q2 q3 w (by omega) (by omega) (by omega) (by omega) (by omega) (by omega)
  have X5 : Hid (∀ w, Calls Try.prog 8 #[.int .i64 (q2 + q3), .int .i64 (-q3)] w fun e w' => e = .returned (.tuple #[.int .i64 q2, .int .i64 0]) ∧ Ext w w') := by
    intro w
    have h := plus_ok (q2 + q3) (-q3) w (by omega) (by omega) (by omega) (by omega) (by omega) (by omega)
    rw [show q2 + q3 + -q3 = q2 from by omega] at h
    exact h
  clear hmul hp
  generalize q1 * K = P at *
  go_enter Try.func3, Try.ntmps3
  go_wp2_with fail
  simp only [HA'.out, HB'.out, HK'.out, HM'.out]
  refine (of_any' M _ hm).mono ?_
  rintro e w1 ⟨rfl, x1⟩
  go_wp2_with fail
  refine (X1.out _).mono ?_
  rintro e w2 ⟨rfl, hx⟩
  have e2 : w2.cell? ⟨w1.heap.size, 0, none⟩ = some (.int .i64 M) := by rw [hx.cell _ _ (by simp)]; simp [go_sem]
  have x2 : Ext w w2 := Ext.trans (by repeat (first | exact x1 | apply Ext.alloc)) hx
  have s2 := lt_of_cell e2
  clear hx x1
  go_wp2_with fail
  refine (X2.out _).mono ?_
  rintro e w3 ⟨rfl, hx⟩
  have e3 : w3.cell? ⟨w1.heap.size, 0, none⟩ = some (.int .i64 M) := by rw [hx.cell _ _ s2]; exact e2
  have x3 : Ext w w3 := x2.trans hx
  clear hx x2 e2 s2
  go_wp2_with fail
  refine (X3.out _).mono ?_
  rintro e w4 ⟨rfl, hx⟩
  have x4 : Ext w w4 := x3.trans hx
  clear hx x3 e3
  go_wp2_with fail
  refine (X4.out _).mono ?_
  rintro e w5 ⟨rfl, hx⟩
  have x5 : Ext w w5 := x4.trans hx
  clear hx x4
  go_wp2_with fail
  refine (X5.out _).mono ?_
  rintro e w6 ⟨rfl, hx⟩
  have x6 : Ext w w6 := x5.trans hx
  clear hx x5
  go_wp2_with fail
  refine (awake_any _).mono ?_
  rintro e w7 ⟨rfl, hx⟩
  have x7 := x6.trans hx
  clear hx x6
  go_wp2_with fail
  go_ret
  exact ⟨rfl, x7.grown⟩

set_option maxRecDepth 100000 in
theorem lifted (os : Os) (started : os.Started) (H : Type) (enc : TypeId × Value → H) :
    ReturnsInHanded {} Try.checked os 3 .any (Rows.fixnumBackSpec.pre6 enc Try.prog Try.f3 Rows.fixnumBackRow.domain false) (Rows.fixnumBackSpec.post enc Try.prog Try.f3 false true false false) := by
  refine returnsInHanded_of_change (C := Try.checked) own started (by kernel_rfl) Try.func3
    (ChangeSpec.witness6 (enc := enc) (C := Try.checked) false ⟨#[], #[.int .i64 0, .int .i64 0, .int .i64 0, .int .i64 0], []⟩ 8 (by kernel_rfl) (by kernel_rfl) (by kernel_rfl) (by kernel_rfl)) ?_
  intro W base args ds gs before hval0 hW hcnd _
  have hval : ∀ (j : Nat) t v, Try.f3.params[j]? = some t → args[j]? = some v → Value.okWide Try.prog W .any base t v := hval0
  have hW' := hW
  obtain ⟨p, q, hA0, hV, rfl, hfz, hnd⟩ := hW
  have hA : DataW.TrodAll enc Try.prog W 0 (fun _ => true) true Try.f3.params.toList args.toList ds p := hA0
  rw [Try.params3] at hA hval
  obtain ⟨v0, vs0, d0, ds0, p0, q0, hargs, rfl, rfl, h0, r0⟩ := trodAll_cons hA
  obtain ⟨v1, vs1, d1, ds1, p1, q1, rfl, rfl, rfl, h1, r1⟩ := trodAll_cons r0
  obtain ⟨v2, vs2, d2, ds2, p2, q2, rfl, rfl, rfl, h2, r2⟩ := trodAll_cons r1
  obtain ⟨v3, vs3, d3, ds3, p3, q3, rfl, rfl, rfl, h3, r3⟩ := trodAll_cons r2
  obtain ⟨rfl, rfl, rfl⟩ := trodAll_nil r3
  obtain rfl : args = #[v0, v1, v2, v3] := by cases args; simp_all
  obtain ⟨rfl, rfl⟩ := trodVars_none hV
  obtain ⟨a0, rfl, rfl, rfl, w0⟩ := open_int Try.underlying2 (hval 0 2 v0 rfl rfl) h0
  obtain ⟨a1, rfl, rfl, rfl, w1⟩ := open_int Try.underlying2 (hval 1 2 v1 rfl rfl) h1
  obtain ⟨a2, rfl, rfl, rfl, w2⟩ := open_int Try.underlying3 (hval 2 3 v2 rfl rfl) h2
  obtain ⟨a3, rfl, rfl, rfl, w3⟩ := open_int Try.underlying3 (hval 3 3 v3 rfl rfl) h3
  clear hA0 hval0
  simp only [List.append_nil] at hW'
  refine (walk a0 a1 a2 a3 w0 w1 w2 w3 W).mono fun e W' ⟨he, hg⟩ => ?_
  subst he
  exact ⟨_, rfl, post_of_same (pa := []) (pv := []) hW' (fun _ _ _ => (trodAll_cons_mk (shut_bool Try.underlying4 _) trodAll_mk0)) (fun sp _ => (trodAll_cons_mk (shut_int Try.underlying2 w0) (trodAll_cons_mk (shut_int Try.underlying2 w1) (trodAll_cons_mk (shut_int Try.underlying3 w2) (trodAll_cons_mk (shut_int Try.underlying3 w3) trodAll_mk0))))) (fun _ _ => rfl) rfl
    (hg.frame _) hg.2.1 (ok_one (by kernel_rfl) rfl (okWide_bool_mk Try.underlying4 _))⟩

theorem over : Rows.fixnumBackRow.holds Try.pinned (OpenSpec.ofChange Rows.fixnumBackSpec) :=
  OpenClaim.holds_of_wide 3 Try.f3 rfl rfl rfl rfl rfl rfl rfl ⟨rfl, rfl, rfl, rfl, rfl⟩ rfl rfl rfl rfl rfl (by kernel_rfl) Try.func3 (by kernel_rfl)
    (of_decide_eq_true (by kernel_rfl)) (by unfold Func.isWrapper; first | (rw [if_pos (by decide +kernel)]; kernel_rfl) | (rw [if_neg (by decide +kernel)]; exact ⟨rfl, rfl⟩))
    (fun os started H enc _ => lifted os started H enc)

theorem proved : Rows.FixnumBackSaid :=
  over
end Go.Proofs.Ytpmgbagnaaahoab.fixnumBack
namespace Go.Proofs.Ytpmgbagnaaahoab
theorem fixnumBack_holds : Rows.FixnumBackSaid := fixnumBack.proved
#print axioms fixnumBack_holds
end Go.Proofs.Ytpmgbagnaaahoab
