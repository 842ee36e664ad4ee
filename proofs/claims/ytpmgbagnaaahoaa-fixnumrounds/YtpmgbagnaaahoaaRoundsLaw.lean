/- Proved: for every mode, n, d, a and b, quittancelaw01.FixnumRounds returns true (any number by any other, and any product by any number, rounded in any way, or why not, as the document's own answers have them); no condition on mode, n, d, a or b. -/
import Derived.Test.YtpmgbagnaaahoaaRows
import Derived.WalkKit
import Derived.ProofKit
import Derived.OpenShut
import Derived.ShutString
import Derived.Test.YtpmgbagnaaahoaaWhole
import Derived.Test.YtpmgbagnaaahoaaRefr
namespace Go.Proofs.Ytpmgbagnaaahoaa.fixnumRounds
open Go.ChangeShapes Go.WideShapes Go.ChangeAt Go.RowKit
open Go.ChangeMaps (open_string shut_string)
set_option linter.unusedVariables false      -- a walk need not use every 'w<i>' (that an integer argument fits its kind)

theorem own : ownKnob Try.prog.godebug = none := by kernel_rfl

open Go.Proofs.Ytpmgbagnaaahoaa

/-- The size, rounded, with its sign, is the number, rounded. -/
theorem rnd_ref (m : Int) (s : Bool) (N D : Nat) (hm : m = 1 ∨ m = 2 ∨ m = 3) (hD : 0 < D) :
    rnd m (if s then -(N : Int) else (N : Int)) (D : Int) = (if s then -(szR m s N D : Int) else (szR m s N D : Int)) := by
  have hr := Nat.mod_lt N hD
  unfold szR
  cases s
  · simp only [Bool.false_eq_true, if_false]
    rw [rnd_nn]
    have e : upB m ((N / D : Nat) : Int) ((N % D : Nat) : Int) (D : Int) = upR m false (N / D) (N % D) D := by
      generalize N / D = Q at *
      generalize N % D = R at *
      unfold upB upR
      rcases hm with rfl | rfl | rfl
      · by_cases h0 : R = 0
        · subst h0; simp; omega
        · by_cases h1 : R = D - R
          · have : ¬ R ≠ D - R := fun k => k h1
            simp [h0, this]; omega
          · simp [h0, h1]; omega
      · by_cases h0 : R = 0
        · subst h0; simp; omega
        · by_cases h1 : R = D - R
          · have h2 : ¬ R ≠ D - R := fun k => k h1
            simp only [h0, h2, if_false, if_true, show ((2 : Int) = 1) = False from by decide, show ((2 : Int) = 3) = False from by decide]
            rw [Bool.eq_iff_iff]; simp; omega
          · simp [h0, h1]; rw [Bool.eq_iff_iff]; simp; omega
      · simp
    rw [e]
    split <;> simp
  · simp only [if_true]
    by_cases h0 : N % D = 0
    · rw [rnd_neg_none m N D hD h0]
      simp [upR, h0]
    · rw [rnd_neg_rest m N D hD (by omega)]
      have e : upB m (-((N / D : Nat) : Int) - 1) ((D : Int) - ((N % D : Nat) : Int)) (D : Int) = !upR m true (N / D) (N % D) D := by
        generalize N / D = Q at *
        generalize N % D = R at *
        unfold upB upR
        rcases hm with rfl | rfl | rfl
        · by_cases h1 : R = D - R
          · have : ¬ R ≠ D - R := fun k => k h1
            simp [h0, this]; omega
          · simp [h0, h1]; rw [Bool.eq_iff_iff]; simp; omega
        · by_cases h1 : R = D - R
          · have h2 : ¬ R ≠ D - R := fun k => k h1
            simp only [h0, h2, if_false, if_true, show ((2 : Int) = 1) = False from by decide, show ((2 : Int) = 3) = False from by decide]
            rw [Bool.eq_iff_iff]; simp; omega
          · simp [h0, h1]; rw [Bool.eq_iff_iff]; simp; omega
        · simp [h0]
      rw [e]
      cases upR m true (N / D) (N % D) D <;> simp <;> omega

theorem ref_ratio (m a b d : Int) (w : World) (hm : m = 1 ∨ m = 2 ∨ m = 3) (ha : I64 a) (hb : I64 b) (hd2 : d ≤ 9223372036854775807) :
    Calls Try.prog 20 #[.int .i64 m, .int .i64 a, .int .i64 b, .int .i64 d] w fun e w' => e = .returned (.tuple #[.int .i64 (ratV m (a * b) d), .int .i64 (ratE m (a * b) d)]) ∧ Ext w w' := by
  by_cases h : d ≤ 0
  · rw [(rat_below m (a * b) d h).1, (rat_below m (a * b) d h).2]
    exact (ref_below m a b d w h).mono fun e w' k => ⟨k.1, by rw [k.2]; exact Ext.refl _⟩
  · obtain ⟨D, rfl⟩ := Int.eq_ofNat_of_zero_le (by omega : 0 ≤ d)
    have m1 := mag_lt a ha
    have m2 := mag_lt b hb
    have hN2 : mag a * mag b < 340282366920938463463374607431768211456 := by
      have := Nat.mul_le_mul m1 m2
      omega
    have c := ref_core m a b D (mag a * mag b) w ha hb rfl (by omega) (by omega) hN2 (sgn a b) rfl
    have hp := prod_mag a b
    have r := rnd_ref m (sgn a b) (mag a * mag b) D hm (by omega)
    rw [← hp] at r
    generalize mag a * mag b = N at *
    generalize sgn a b = s at *
    by_cases k : Fit (rnd m (a * b) (D : Int))
    · rw [(rat_fit m (a * b) D h k).1, (rat_fit m (a * b) D h k).2]
      have hz : szR m s N D ≤ 1000000000000000 := by
        unfold Fit at k
        rw [r] at k
        cases s <;> simp at k <;> omega
      obtain ⟨f1, f2⟩ := ref_fit m s N D _ rfl hz
      rw [f1, f2] at c
      rw [r]
      exact c
    · rw [(rat_big m (a * b) D h k).1, (rat_big m (a * b) D h k).2]
      have hz : 1000000000000000 < szR m s N D := by
        unfold Fit at k
        rw [r] at k
        cases s <;> simp at k <;> omega
      obtain ⟨f1, f2⟩ := ref_big m s N D _ rfl hz
      rw [f1, f2] at c
      exact c

theorem right_yes (m : Int) (w : World) (h1 : 1 ≤ m) (h2 : m ≤ 3) :
    Calls Try.prog 19 #[.int .i64 m] w fun e w' => e = .returned (.bool true) ∧ w' = w := by
  go_enter Try.func19, Try.ntmps19
  go_wp2
  go_ret
  exact ⟨rfl, rfl⟩
theorem right_lo (m : Int) (w : World) (h1 : m < 1) :
    Calls Try.prog 19 #[.int .i64 m] w fun e w' => e = .returned (.bool false) ∧ w' = w := by
  go_enter Try.func19, Try.ntmps19
  go_wp2
  go_ret
  exact ⟨by first | rfl | (simp; done) | (simp; omega), rfl⟩
theorem right_hi (m : Int) (w : World) (h1 : 3 < m) :
    Calls Try.prog 19 #[.int .i64 m] w fun e w' => e = .returned (.bool false) ∧ w' = w := by
  go_enter Try.func19, Try.ntmps19
  go_wp2
  go_ret
  exact ⟨by first | rfl | (simp; done) | (simp; omega), rfl⟩
theorem right_no (m : Int) (w : World) (h : ¬ (m = 1 ∨ m = 2 ∨ m = 3)) :
    Calls Try.prog 19 #[.int .i64 m] w fun e w' => e = .returned (.bool false) ∧ w' = w := by
  rcases Int.lt_or_le m 1 with k | k
  · exact right_lo m w k
  · exact right_hi m w (by omega)

set_option maxHeartbeats 1000000 in
theorem rounds_yes (m n d a b : Int) (w : World) (hm : m = 1 ∨ m = 2 ∨ m = 3) (hn : I64 n) (hd : I64 d) (ha : I64 a) (hb : I64 b) :
    Calls Try.prog 4 #[.int .i64 m, .int .i64 n, .int .i64 d, .int .i64 a, .int .i64 b] w fun e w' => e = .returned (.bool true) ∧ Ext w w' := by
  have R1 : Hid (∀ w, Calls Try.prog 20 #[.int .i64 m, .int .i64 n, .int .i64 1, .int .i64 d] w fun e w' => e = .returned (.tuple #[.int .i64 (ratV m n d), .int .i64 (ratE m n d)]) ∧ Ext w w') := by
    intro w
    have h := ref_ratio m n 1 d w hm hn ⟨by omega, by omega⟩ hd.2
    rw [Int.mul_one] at h
    exact h
  have R2 : Hid (∀ w, Calls Try.prog 20 #[.int .i64 m, .int .i64 a, .int .i64 b, .int .i64 d] w fun e w' => e = .returned (.tuple #[.int .i64 (ratV m (a * b) d), .int .i64 (ratE m (a * b) d)]) ∧ Ext w w') :=
    fun w => ref_ratio m a b d w hm ha hb hd.2
  have X1 : Hid (∀ w, Calls Try.prog 17 #[.agg #[.int .i64 m], .int .i64 n, .int .i64 d] w fun e w' => e = .returned (.tuple #[.int .i64 (ratV m n d), .int .i64 (ratE m n d)]) ∧ Ext w w') :=
    fun w => divide_any m n d w hm hn hd.2
  have X2 : Hid (∀ w, Calls Try.prog 18 #[.agg #[.int .i64 m], .int .i64 a, .int .i64 b, .int .i64 d] w fun e w' => e = .returned (.tuple #[.int .i64 (ratV m (a * b) d), .int .i64 (ratE m (a * b) d)]) ∧ Ext w w') :=
    fun w => ratio_any m a b d w hm ha hb hd.2
  generalize ratV m n d = v1 at *
  generalize ratE m n d = e1 at *
  generalize ratV m (a * b) d = v2 at *
  generalize ratE m (a * b) d = e2 at *
  clear hn hd ha hb
  go_enter Try.func4, Try.ntmps4
  go_wp2_with fail
  refine (of_any' m _ hm).mono ?_
  rintro e w1 ⟨rfl, x1⟩
  go_wp2_with fail
  refine (X1.out _).mono ?_
  rintro e w2 ⟨rfl, hx⟩
  have c2 : w2.cell? ⟨w1.heap.size, 0, none⟩ = some (.int .i64 m) := by rw [hx.cell _ _ (by simp)]; simp [go_sem]
  have x2 : Ext w w2 := Ext.trans (by repeat (first | exact x1 | apply Ext.alloc)) hx
  clear hx x1
  go_wp2_with fail
  refine (X2.out _).mono ?_
  rintro e w3 ⟨rfl, hx⟩
  have x3 : Ext w w3 := x2.trans hx
  clear hx x2 c2
  go_wp2_with fail
  refine (right_yes m _ (by omega) (by omega)).mono ?_
  rintro e w4 ⟨rfl, rfl⟩
  go_wp2_with fail
  refine (R1.out _).mono ?_
  rintro e w5 ⟨rfl, hx⟩
  have x5 := x3.trans hx
  clear hx x3
  go_wp2_with fail
  refine (R2.out _).mono ?_
  rintro e w6 ⟨rfl, hx⟩
  have x6 := x5.trans hx
  clear hx x5
  go_wp2_with fail
  refine (awake_any _).mono ?_
  rintro e w7 ⟨rfl, hx⟩
  have x7 := x6.trans hx
  clear hx x6
  go_wp2_with fail
  go_ret
  exact ⟨rfl, x7⟩

set_option maxHeartbeats 1000000 in
theorem rounds_no (m n d a b : Int) (w : World) (hm : ¬ (m = 1 ∨ m = 2 ∨ m = 3)) :
    Calls Try.prog 4 #[.int .i64 m, .int .i64 n, .int .i64 d, .int .i64 a, .int .i64 b] w fun e w' => e = .returned (.bool true) ∧ Ext w w' := by
  have HM : Hid (¬ (m = 1 ∨ m = 2 ∨ m = 3)) := hm
  clear hm
  go_enter Try.func4, Try.ntmps4
  go_wp2_with fail
  refine (of_none m _ (by have := HM.out; simp; omega) (by have := HM.out; simp; omega) (by have := HM.out; simp; omega)).mono ?_
  rintro e w1 ⟨rfl, x1⟩
  go_wp2_with fail
  refine (divide_zero _ _ _).mono ?_
  rintro e w2 ⟨rfl, hx⟩
  have c2 : w2.cell? ⟨w1.heap.size, 0, none⟩ = some (.int .i64 0) := by rw [hx.cell _ _ (by simp)]; simp [go_sem]
  have x2 : Ext w w2 := Ext.trans (by repeat (first | exact x1 | apply Ext.alloc)) hx
  clear hx x1
  go_wp2_with fail
  refine (ratio_zero _ _ _ _).mono ?_
  rintro e w3 ⟨rfl, hx⟩
  have x3 : Ext w w3 := x2.trans hx
  clear hx x2 c2
  go_wp2_with fail
  refine (right_no m _ HM.out).mono ?_
  rintro e w4 ⟨rfl, rfl⟩
  go_wp2_with fail
  refine (awake_any _).mono ?_
  rintro e w7 ⟨rfl, hx⟩
  have x7 := x3.trans hx
  clear hx x3
  go_wp2_with fail
  go_ret
  exact ⟨rfl, x7⟩

theorem walk (a0 : Int) (a1 : Int) (a2 : Int) (a3 : Int) (a4 : Int) (w0 : (Lit.int .i64 a0).wf = true) (w1 : (Lit.int .i64 a1).wf = true) (w2 : (Lit.int .i64 a2).wf = true) (w3 : (Lit.int .i64 a3).wf = true) (w4 : (Lit.int .i64 a4).wf = true) (w : World) :
    Calls Try.prog 4 #[.int .i64 a0, .int .i64 a1, .int .i64 a2, .int .i64 a3, .int .i64 a4] w fun e w' => e = .returned (.bool true) ∧ Grown w w' := by
  by_cases hm : a0 = 1 ∨ a0 = 2 ∨ a0 = 3
  · exact (rounds_yes a0 a1 a2 a3 a4 w hm (i64_of_wf w1) (i64_of_wf w2) (i64_of_wf w3) (i64_of_wf w4)).mono fun e w' h => ⟨h.1, h.2.grown⟩
  · exact (rounds_no a0 a1 a2 a3 a4 w hm).mono fun e w' h => ⟨h.1, h.2.grown⟩

set_option maxRecDepth 100000 in
theorem lifted (os : Os) (started : os.Started) (H : Type) (enc : TypeId × Value → H) :
    ReturnsInHanded {} Try.checked os 4 .any (Rows.fixnumRoundsSpec.pre6 enc Try.prog Try.f4 Rows.fixnumRoundsRow.domain false) (Rows.fixnumRoundsSpec.post enc Try.prog Try.f4 false true false false) := by
  refine returnsInHanded_of_change (C := Try.checked) own started (by kernel_rfl) Try.func4
    (ChangeSpec.witness6 (enc := enc) (C := Try.checked) false ⟨#[], #[.int .i64 0, .int .i64 0, .int .i64 0, .int .i64 0, .int .i64 0], []⟩ 8 (by kernel_rfl) (by kernel_rfl) (by kernel_rfl) (by kernel_rfl)) ?_
  intro W base args ds gs before hval0 hW hcnd _
  have hval : ∀ (j : Nat) t v, Try.f4.params[j]? = some t → args[j]? = some v → Value.okWide Try.prog W .any base t v := hval0
  have hW' := hW
  obtain ⟨p, q, hA0, hV, rfl, hfz, hnd⟩ := hW
  have hA : DataW.TrodAll enc Try.prog W 0 (fun _ => true) true Try.f4.params.toList args.toList ds p := hA0
  rw [Try.params4] at hA hval
  obtain ⟨v0, vs0, d0, ds0, p0, q0, hargs, rfl, rfl, h0, r0⟩ := trodAll_cons hA
  obtain ⟨v1, vs1, d1, ds1, p1, q1, rfl, rfl, rfl, h1, r1⟩ := trodAll_cons r0
  obtain ⟨v2, vs2, d2, ds2, p2, q2, rfl, rfl, rfl, h2, r2⟩ := trodAll_cons r1
  obtain ⟨v3, vs3, d3, ds3, p3, q3, rfl, rfl, rfl, h3, r3⟩ := trodAll_cons r2
  obtain ⟨v4, vs4, d4, ds4, p4, q4, rfl, rfl, rfl, h4, r4⟩ := trodAll_cons r3
  obtain ⟨rfl, rfl, rfl⟩ := trodAll_nil r4
  obtain rfl : args = #[v0, v1, v2, v3, v4] := by cases args; simp_all
  obtain ⟨rfl, rfl⟩ := trodVars_none hV
  obtain ⟨a0, rfl, rfl, rfl, w0⟩ := open_int Try.underlying3 (hval 0 3 v0 rfl rfl) h0
  obtain ⟨a1, rfl, rfl, rfl, w1⟩ := open_int Try.underlying2 (hval 1 2 v1 rfl rfl) h1
  obtain ⟨a2, rfl, rfl, rfl, w2⟩ := open_int Try.underlying2 (hval 2 2 v2 rfl rfl) h2
  obtain ⟨a3, rfl, rfl, rfl, w3⟩ := open_int Try.underlying2 (hval 3 2 v3 rfl rfl) h3
  obtain ⟨a4, rfl, rfl, rfl, w4⟩ := open_int Try.underlying2 (hval 4 2 v4 rfl rfl) h4
  clear hA0 hval0
  simp only [List.append_nil] at hW'
  refine (walk a0 a1 a2 a3 a4 w0 w1 w2 w3 w4 W).mono fun e W' ⟨he, hg⟩ => ?_
  subst he
  exact ⟨_, rfl, post_of_same (pa := []) (pv := []) hW' (fun _ _ _ => (trodAll_cons_mk (shut_bool Try.underlying4 _) trodAll_mk0)) (fun sp _ => (trodAll_cons_mk (shut_int Try.underlying3 w0) (trodAll_cons_mk (shut_int Try.underlying2 w1) (trodAll_cons_mk (shut_int Try.underlying2 w2) (trodAll_cons_mk (shut_int Try.underlying2 w3) (trodAll_cons_mk (shut_int Try.underlying2 w4) trodAll_mk0)))))) (fun _ _ => rfl) rfl
    (hg.frame _) hg.2.1 (ok_one (by kernel_rfl) rfl (okWide_bool_mk Try.underlying4 _))⟩

theorem over : Rows.fixnumRoundsRow.holds Try.pinned (OpenSpec.ofChange Rows.fixnumRoundsSpec) :=
  OpenClaim.holds_of_wide 4 Try.f4 rfl rfl rfl rfl rfl rfl rfl ⟨rfl, rfl, rfl, rfl, rfl⟩ rfl rfl rfl rfl rfl (by kernel_rfl) Try.func4 (by kernel_rfl)
    (of_decide_eq_true (by kernel_rfl)) (by unfold Func.isWrapper; first | (rw [if_pos (by decide +kernel)]; kernel_rfl) | (rw [if_neg (by decide +kernel)]; exact ⟨rfl, rfl⟩))
    (fun os started H enc _ => lifted os started H enc)

theorem proved : Rows.FixnumRoundsSaid :=
  over
end Go.Proofs.Ytpmgbagnaaahoaa.fixnumRounds
namespace Go.Proofs.Ytpmgbagnaaahoaa
theorem fixnumRounds_holds : Rows.FixnumRoundsSaid := fixnumRounds.proved
#print axioms fixnumRounds_holds
end Go.Proofs.Ytpmgbagnaaahoaa
