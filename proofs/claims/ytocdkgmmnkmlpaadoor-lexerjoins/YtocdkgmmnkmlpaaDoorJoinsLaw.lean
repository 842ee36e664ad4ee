/- For all strings s and t, of the project's tree at the commit that COMMIT names, LexerJoins returns true and leaves its arguments as they were, with the listed variables laid as the program's text lays them. -/
import Derived.Test.YtocdkgmmnkmlpaaDoorFrame
import Derived.Test.YtocdkgmmnkmlpaaDoorWhite0
import Derived.Deep.DeepCutAuto
namespace Go.Proofs.YtocdkgmmnkmlpaaDoor.lexerJoins
open Go.ChangeShapes Go.WideShapes Go.ChangeAt Go.RowKit Go.Lib
set_option linter.unusedVariables false

theorem app2 (a b : List UInt8) : (⟨a.toArray⟩ : ByteArray) ++ ⟨b.toArray⟩ = ⟨(a ++ b).toArray⟩ := by
  apply ByteArray.ext
  simp [ByteArray.data_append]
set_option maxHeartbeats 8000000 in
set_option maxRecDepth 100000 in

theorem walk (a0 : ByteArray) (w0 : a0.size ≤ maxLen) (a1 : ByteArray) (w1 : a1.size ≤ maxLen) (w : World) (he : Env w) :
    Calls Tryd.prog 7 #[.string a0, .string a1] w fun e w' => e = .returned (.bool true) ∧ Ext w w' := by
  replace he : Hid (Env w) := he
  unfold maxLen at w0 w1
  obtain ⟨s, rfl⟩ : ∃ l : List UInt8, a0 = ⟨l.toArray⟩ := ⟨a0.data.toList, by cases a0; simp⟩
  obtain ⟨t, rfl⟩ : ∃ l : List UInt8, a1 = ⟨l.toArray⟩ := ⟨a1.data.toList, by cases a1; simp⟩
  rw [Lib.size_mk] at w0 w1
  by_cases hs : 1000 < s.length
  · have hd : decide (1000 < (s.length : Int)) = true := decide_eq_true (by omega)
    go_enter Tryd.func7, Tryd.ntmps7
    go_wp2_with fail
    refine (awake_c _ he).mono ?_
    rintro e w1 ⟨rfl, hx⟩
    replace hx := show Hid _ from hx
    go_wp2
    go_ret
    exact ⟨rfl, hx.out⟩
  have hd1 : decide (1000 < (s.length : Int)) = false := decide_eq_false (by omega)
  by_cases ht : 1000 < t.length
  · have hd : decide (1000 < (t.length : Int)) = true := decide_eq_true (by omega)
    go_enter Tryd.func7, Tryd.ntmps7
    go_wp2_with fail
    refine (awake_c _ he).mono ?_
    rintro e w1 ⟨rfl, hx⟩
    replace hx := show Hid _ from hx
    go_wp2
    go_ret
    exact ⟨rfl, hx.out⟩
  have hd2 : decide (1000 < (t.length : Int)) = false := decide_eq_false (by omega)
  have hs1 : s.length ≤ 1000 := by omega
  have ht1 : t.length ≤ 1000 := by omega
  have hsum : ¬ 9223372036854775807 < s.length + 1 := by omega
  have hsum2 : ¬ 9223372036854775807 < s.length + 1 + t.length := by omega
  obtain ⟨J, hJ⟩ : ∃ J, s ++ 10 :: t = J := ⟨_, rfl⟩
  have hJl : J.length = s.length + 1 + t.length := by rw [← hJ]; simp; omega
  replace hJl := show Hid _ from hJl
  obtain ⟨aTJ, eTJ⟩ : ∃ x, aT J = x := ⟨_, rfl⟩
  obtain ⟨aPJ, ePJ⟩ : ∃ x, aP J = x := ⟨_, rfl⟩
  obtain ⟨aEJ, eEJ⟩ : ∃ x, aE J = x := ⟨_, rfl⟩
  obtain ⟨aTs, eTs⟩ : ∃ x, aT s = x := ⟨_, rfl⟩
  obtain ⟨aPs, ePs⟩ : ∃ x, aP s = x := ⟨_, rfl⟩
  obtain ⟨aEs, eEs⟩ : ∃ x, aE s = x := ⟨_, rfl⟩
  obtain ⟨aTt, eTt⟩ : ∃ x, aT t = x := ⟨_, rfl⟩
  obtain ⟨aPt, ePt⟩ : ∃ x, aP t = x := ⟨_, rfl⟩
  obtain ⟨aEt, eEt⟩ : ∃ x, aE t = x := ⟨_, rfl⟩
  replace eTJ := show Hid _ from eTJ
  replace ePJ := show Hid _ from ePJ
  replace eEJ := show Hid _ from eEJ
  replace eTs := show Hid _ from eTs
  replace ePs := show Hid _ from ePs
  replace eEs := show Hid _ from eEs
  replace eTt := show Hid _ from eTt
  replace ePt := show Hid _ from ePt
  replace eEt := show Hid _ from eEt
  have hcase : Hid ((aEs = 6 ∧ aEJ = 6) ∨ (aEs = 0 ∧ aEt = 6 ∧ aEJ = 6 ∧ aPJ = aPt + (s.length + 1) ∧ aPt ≤ 1000 ∧ aTJ = []) ∨
      (aEs = 0 ∧ aEt = 0 ∧ aEJ = 0 ∧ ∃ us vs, aTs = us ++ [⟨0, s.length, []⟩] ∧ aTt = vs ∧ aTJ = us ++ vs.map (shT (s.length + 1)) ∧ vs ≠ [] ∧ us.length ≤ 1000 ∧ vs.length ≤ 1001 ∧ ∀ v ∈ vs, v.at_ ≤ 1000)) := by
    show _ ∨ _
    rw [← eTJ.out, ← ePJ.out, ← eEJ.out, ← eTs.out, ← eEs.out, ← eTt.out, ← ePt.out, ← eEt.out, ← hJ]
    exact joins_cases hs1 ht1
  have hcat : (⟨s.toArray⟩ : ByteArray) ++ ⟨#[10]⟩ ++ ⟨t.toArray⟩ = ⟨J.toArray⟩ := by
    have h1 := app2 s [10]
    rw [show (⟨#[10]⟩ : ByteArray) = ⟨[10].toArray⟩ from rfl, h1, app2, ← hJ]
    simp
  replace hJ := show Hid _ from hJ
  go_enter Tryd.func7, Tryd.ntmps7
  go_wp2_with fail
  refine (All_x s _ _ _ eTs.out ePs.out eEs.out _ (by omega) he).mono ?_
  rintro e W1 ⟨⟨va, rfl, oa⟩, hx1⟩
  replace he : Hid (Env W1) := he.out.ext hx1
  have hx : Hid (Ext w W1) := hx1
  replace oa : Hid (Own _ W1 va aTs) := oa
  clear hx1
  go_wp2_with fail
  refine (All_x t _ _ _ eTt.out ePt.out eEt.out _ (by omega) he).mono ?_
  rintro e W2 ⟨⟨vb, rfl, ob⟩, hx1⟩
  replace he : Hid (Env W2) := he.out.ext hx1
  replace hx : Hid (Ext w W2) := hx.out.trans hx1
  replace oa : Hid (Own _ W2 va aTs) := oa.out.ext hx1
  replace ob : Hid (Own _ W2 vb aTt) := ob
  clear hx1
  go_wp2_with fail
  refine (All_x J _ _ _ eTJ.out ePJ.out eEJ.out _ (by have := hJl.out; omega) he).mono ?_
  rintro e W3 ⟨⟨vc, rfl, oc⟩, hx1⟩
  replace he : Hid (Env W3) := he.out.ext hx1
  replace hx : Hid (Ext w W3) := hx.out.trans hx1
  replace oa : Hid (Own _ W3 va aTs) := oa.out.ext hx1
  replace ob : Hid (Own _ W3 vb aTt) := ob.out.ext hx1
  replace oc : Hid (Own _ W3 vc aTJ) := oc
  clear hx1 hcat
  clear eTJ ePJ eEJ eTs ePs eEs eTt ePt eEt
  go_wp2_with fail
  refine (awake_c _ he).mono ?_
  rintro e W4 ⟨rfl, hx1⟩
  replace he : Hid (Env W4) := he.out.ext hx1
  replace hx : Hid (Ext w W4) := hx.out.trans hx1
  replace oa : Hid (Own _ W4 va aTs) := oa.out.ext hx1
  replace ob : Hid (Own _ W4 vb aTt) := ob.out.ext hx1
  replace oc : Hid (Own _ W4 vc aTJ) := oc.out.ext hx1
  clear hx1
  rcases hcase.out with ⟨rfl, rfl⟩ | ⟨rfl, rfl, rfl, rfl, hpt, rfl⟩ | ⟨rfl, rfl, rfl, us, vs, rfl, rfl, rfl, hvs, hul, hvl, hat⟩
  · clear hcase oa ob oc
    go_wp2_with fail
    refine (awake_c _ he).mono ?_
    rintro e W5 ⟨rfl, hx1⟩
    replace hx : Hid (Ext w W5) := hx.out.trans hx1
    clear hx1
    go_wp2
    go_ret
    exact ⟨rfl, hx.out⟩
  · obtain ⟨ao, cc, rfl⟩ : ∃ ao cc, vc = .slice ao 0 cc := by
      rcases oc.out.read with ⟨rfl, _⟩ | ⟨g2, c2, rfl, _⟩
      · exact ⟨_, _, rfl⟩
      · exact ⟨_, _, rfl⟩
    clear hcase oa ob oc
    go_wp2
    go_ret
    exact ⟨ret_bool (by simp), hx.out⟩
  · clear hcase
    obtain ⟨ga, ca, rfl, ra⟩ := oa.out.some (by simp)
    obtain ⟨gb, cb, rfl, rb⟩ := ob.out.some hvs
    obtain ⟨gc, cc, rfl, rc⟩ := oc.out.some (by simp [hvs])
    clear oa ob oc
    replace ra := show Hid (Row W4 ga _) from ra
    replace rb := show Hid (Row W4 gb _) from rb
    replace rc := show Hid (Row W4 gc _) from rc
    obtain ⟨A, hA⟩ : ∃ A, (us ++ [(⟨0, s.length, []⟩ : Tok)]).length = A := ⟨_, rfl⟩
    obtain ⟨B, hB⟩ : ∃ B, aTt.length = B := ⟨_, rfl⟩
    obtain ⟨C, hC⟩ : ∃ C, (us ++ aTt.map (shT (s.length + 1))).length = C := ⟨_, rfl⟩
    rw [hA, hB, hC]
    have hA1 : A = us.length + 1 := by rw [← hA]; simp
    have hC1 : C = us.length + B := by rw [← hC, ← hB]; simp
    have hBp : 1 ≤ B := by rw [← hB]; exact List.length_pos_iff.2 hvs
    rw [hB] at hvl
    have b1 : ((A : Int) == 0) = false := by rw [hA1]; simp; omega
    have b2 : ((C : Int) != (A : Int) - 1 + (B : Int)) = false := by rw [hA1, hC1]; simp
    have b3 : (A == 0) = false := by rw [hA1]; simp
    replace hA := show Hid _ from hA
    replace hB := show Hid _ from hB
    replace hC := show Hid _ from hC
    replace hA1 := show Hid _ from hA1
    replace hC1 := show Hid _ from hC1
    replace hvs := show Hid _ from hvs
    replace hat := show Hid _ from hat
    have hCb : C ≤ 2001 := by have := hC1.out; omega
    have hAb : A ≤ 1001 := by have := hA1.out; omega
    go_wp2_with fail
    go_loopw [14] (fun i wr => ∃ k : Nat, k ≤ C ∧ i = .int .i64 (k : Int) ∧ Hid (Ext W4 wr)) (fun i _ => C - (RowKit.intOf i).toNat)
    case atStart => exact ⟨0, Nat.zero_le _, rfl, Ext.refl _⟩
    case round =>
      obtain ⟨k, hk, rfl, hxr⟩ := hrel
      by_cases hlt : k < C
      · by_cases hka : k < us.length
        · have hget : us[k]? = some us[k] := List.getElem?_eq_getElem hka
          obtain ⟨u, hu⟩ : ∃ u, us[k] = u := ⟨_, rfl⟩
          rw [hu] at hget
          have ga1 : (us ++ [(⟨0, s.length, []⟩ : Tok)])[k]? = some u := by rw [List.getElem?_append_left hka]; exact hget
          have gc1 : (us ++ aTt.map (shT (s.length + 1)))[k]? = some u := by rw [List.getElem?_append_left hka]; exact hget
          obtain ⟨uk, ua, ux⟩ := u
          have p0 := hxr.out.cell_of (ra.out.k k _ ga1)
          have p1 := hxr.out.cell_of (ra.out.a k _ ga1)
          have p2 := hxr.out.cell_of (ra.out.s k _ ga1)
          have r0 := rc.out.k k _ gc1
          have r1 := rc.out.a k _ gc1
          have r2 := rc.out.s k _ gc1
          simp only at p0 p1 p2 r0 r1 r2
          have hlta : decide ((k : Int) < (A : Int) - 1) = true := decide_eq_true (by have := hA1.out; omega)
          have hkA : k < A := by have := hA1.out; omega
          replace hu := show Hid _ from hu
          clear hget ga1 gc1
          replace r0 := show Hid _ from r0
          replace r1 := show Hid _ from r1
          replace r2 := show Hid _ from r2
          go_upto_region 16 with fail
          obtain ⟨W0, b, hW0, hb, hx0, c0, c1, c2, z0, z1, z2⟩ := box3f wr (.int .i64 0) (.int .i64 0) (.string ⟨#[]⟩) 29
          have hBx : Bx wr W0 b (.int .i64 0) (.int .i64 0) (.string ⟨#[]⟩) := ⟨hx0, by omega, c0, c1, c2, z0, z1, z2⟩
          rw [hW0, hb]
          replace p0 := hx0.cell_of p0
          replace p1 := hx0.cell_of p1
          replace p2 := hx0.cell_of p2
          replace hBx := show Hid _ from hBx
          clear hW0 hb hx0
          go_wp2_with fail
          have hBy := hBx.out.set (.int .i64 (uk : Int)) (.int .i64 (ua : Int)) (.string ⟨ux.toArray⟩)
          generalize ((W0.setCell ⟨b, 0, none⟩ (.int .i64 (uk : Int))).setCell ⟨b, 1, none⟩ (.int .i64 (ua : Int))).setCell ⟨b, 2, none⟩ (.string ⟨ux.toArray⟩) = WW at *
          have hxs : Hid (Ext W4 WW) := hxr.out.trans hBy.ext
          have q0 := hBy.c0; have q1 := hBy.c1; have q2 := hBy.c2
          have m0 := hxs.out.cell_of r0.out
          have m1 := hxs.out.cell_of r1.out
          have m2 := hxs.out.cell_of r2.out
          replace hBy := show Hid _ from hBy
          clear c0 c1 c2 z0 z1 z2 p0 p1 p2 r0 r1 r2 hBx
          have L0 := Late.cell q0
          have L1 := Late.cell q1
          have L2 := Late.cell q2
          have M0 := Late.cell m0
          have M1 := Late.cell m1
          have M2 := Late.cell m2
          have hNe1 : Nonempty (Late WW) := ⟨⟨_, Ext.refl _⟩⟩
          refine wp_region_late (by kernel_rfl) (by kernel_rfl) ?_
          repeat (go_big_quiet_step (fail))
          refine wpQuiet_nil ?_
          intro W8 hw'
          have hx8 : Hid (Ext W4 W8) := hxs.out.trans (late_ext hw')
          clear hw' L0 L1 L2 M0 M1 M2 q0 q1 q2 m0 m1 m2 hNe1
          go_wp2
          go_roundw
          case rel => exact ⟨k + 1, by omega, by go_num, hx8⟩
          case measure => simp [RowKit.intOf]; omega
        · have hkj : k - us.length < aTt.length := by have := hC1.out; have := hB.out; omega
          obtain ⟨j, hj⟩ : ∃ j, k - us.length = j := ⟨_, rfl⟩
          rw [hj] at hkj
          have hget : aTt[j]? = some aTt[j] := List.getElem?_eq_getElem hkj
          have hva := hat.out aTt[j] (List.getElem_mem hkj)
          obtain ⟨u, hu⟩ : ∃ u, aTt[j] = u := ⟨_, rfl⟩
          rw [hu] at hget hva
          have gc1 : (us ++ aTt.map (shT (s.length + 1)))[k]? = some (shT (s.length + 1) u) := by
            rw [List.getElem?_append_right (by omega), hj, List.getElem?_map, hget]; rfl
          obtain ⟨uk, ua, ux⟩ := u
          have p0 := hxr.out.cell_of (rb.out.k j _ hget)
          have p1 := hxr.out.cell_of (rb.out.a j _ hget)
          have p2 := hxr.out.cell_of (rb.out.s j _ hget)
          have r0 := rc.out.k k _ gc1
          have r1 := rc.out.a k _ gc1
          have r2 := rc.out.s k _ gc1
          simp only [shT] at hva p0 p1 p2 r0 r1 r2
          obtain ⟨V, hV⟩ : ∃ V, ua + (s.length + 1) = V := ⟨_, rfl⟩
          rw [hV] at r1
          have hV2 : (ua : Int) + (s.length : Int) + 1 = (V : Int) := by omega
          have hlta : decide ((k : Int) < (A : Int) - 1) = false := decide_eq_false (by have := hA1.out; omega)
          have hix : (k : Int) - (A : Int) + 1 = (j : Int) := by have := hA1.out; omega
          have hjB : j < B := by have := hB.out; omega
          replace hu := show Hid _ from hu
          replace hj := show Hid _ from hj
          replace hV := show Hid _ from hV
          replace hkj := show Hid _ from hkj
          clear hget gc1
          replace r0 := show Hid _ from r0
          replace r1 := show Hid _ from r1
          replace r2 := show Hid _ from r2
          go_upto_region 16 with fail
          obtain ⟨W0, b, hW0, hb, hx0, c0, c1, c2, z0, z1, z2⟩ := box3f wr (.int .i64 0) (.int .i64 0) (.string ⟨#[]⟩) 29
          have hBx : Bx wr W0 b (.int .i64 0) (.int .i64 0) (.string ⟨#[]⟩) := ⟨hx0, by omega, c0, c1, c2, z0, z1, z2⟩
          rw [hW0, hb]
          replace p0 := hx0.cell_of p0
          replace p1 := hx0.cell_of p1
          replace p2 := hx0.cell_of p2
          replace hBx := show Hid _ from hBx
          clear hW0 hb hx0
          go_upto_region 19 with fail
          have hBy := hBx.out.set (.int .i64 (uk : Int)) (.int .i64 (ua : Int)) (.string ⟨ux.toArray⟩)
          generalize ((W0.setCell ⟨b, 0, none⟩ (.int .i64 (uk : Int))).setCell ⟨b, 1, none⟩ (.int .i64 (ua : Int))).setCell ⟨b, 2, none⟩ (.string ⟨ux.toArray⟩) = WX at *
          replace c0 := hBy.c0; replace c1 := hBy.c1; replace c2 := hBy.c2; replace z0 := hBy.z0; replace z1 := hBy.z1; replace z2 := hBy.z2
          replace hBy := show Hid _ from hBy
          clear p0 p1 p2 hBx
          go_wp2_with fail
          have q0 : (WX.setCell ⟨b, 1, none⟩ (.int .i64 (V : Int))).cell? ⟨b, 0, none⟩ = some (.int .i64 (uk : Int)) := by rw [other _ (Or.inr (by omega))]; exact c0
          have q1 : (WX.setCell ⟨b, 1, none⟩ (.int .i64 (V : Int))).cell? ⟨b, 1, none⟩ = some (.int .i64 (V : Int)) := same c1
          have q2 : (WX.setCell ⟨b, 1, none⟩ (.int .i64 (V : Int))).cell? ⟨b, 2, none⟩ = some (.string ⟨ux.toArray⟩) := by rw [other _ (Or.inr (by omega))]; exact c2
          have hxw : Ext wr (WX.setCell ⟨b, 1, none⟩ (.int .i64 (V : Int))) := hBy.out.ext.setCell hBy.out.lo _
          generalize WX.setCell ⟨b, 1, none⟩ (.int .i64 (V : Int)) = WW at *
          have hxs : Hid (Ext W4 WW) := hxr.out.trans hxw
          have m0 := hxs.out.cell_of r0.out
          have m1 := hxs.out.cell_of r1.out
          have m2 := hxs.out.cell_of r2.out
          clear c0 c1 c2 z0 z1 z2 r0 r1 r2 hBy hxw
          have L0 := Late.cell q0
          have L1 := Late.cell q1
          have L2 := Late.cell q2
          have M0 := Late.cell m0
          have M1 := Late.cell m1
          have M2 := Late.cell m2
          have hNe1 : Nonempty (Late WW) := ⟨⟨_, Ext.refl _⟩⟩
          refine wp_region_late (by kernel_rfl) (by kernel_rfl) ?_
          repeat (go_big_quiet_step (fail))
          refine wpQuiet_nil ?_
          intro W8 hw'
          have hx8 : Hid (Ext W4 W8) := hxs.out.trans (late_ext hw')
          clear hw' L0 L1 L2 M0 M1 M2 q0 q1 q2 m0 m1 m2 hNe1
          go_wp2
          go_roundw
          case rel => exact ⟨k + 1, by omega, by go_num, hx8⟩
          case measure => simp [RowKit.intOf]; omega
      · obtain rfl : k = C := by omega
        have hx2 : Hid (Ext w wr) := hx.out.trans hxr.out
        go_wp2
        go_ret
        exact ⟨rfl, hx2.out⟩

set_option maxRecDepth 100000 in
theorem lifted (os : Os) (started : os.Started) (H : Type) (enc : TypeId × Value → H) :
    ReturnsInHanded {} Tryd.checked os 7 .any (fun w args => (Rows.lexerJoinsSpec.pre enc Tryd.prog Tryd.f7 [] false w args ∧ laidMetH Tryd.prog laid w) ∧ sizedMet enc Tryd.prog Tryd.f7 (OpenSpec.ofChange Rows.lexerJoinsSpec) false w args)
      (Rows.lexerJoinsSpec.post enc Tryd.prog Tryd.f7 false true false false) := by
  refine wrap started (by kernel_rfl) Tryd.func7
    (ChangeSpec.witness_shaped (enc := enc) (C := Tryd.checked) (os := os) (X := fun w _ => laidMetH Tryd.prog laid w) false (World.laidAll Tryd.prog os laid) #[.string ⟨#[]⟩, .string ⟨#[]⟩] 8 (World.laidAll_os _ _ _)
      (World.shaped_of_ZipB (by kernel_rfl) (by kernel_rfl)) (by kernel_rfl) (by kernel_rfl) (by kernel_rfl)
      (by rw [MakeChecks.laidMetH_plain _ _ _ (by kernel_rfl)]; exact laidMet_laidAll _ (by kernel_rfl) (by kernel_rfl))) ?_
  intro W base args ds gs before hval0 hW hE
  have hval : ∀ (j : Nat) t v, Tryd.f7.params[j]? = some t → args[j]? = some v → Value.okWide Tryd.prog W .any base t v := hval0
  have hW' := hW
  obtain ⟨p, q, hA0, hV, rfl, _, _⟩ := hW
  have hA : DataW.TrodAll enc Tryd.prog W 0 (fun _ => true) true Tryd.f7.params.toList args.toList ds p := hA0
  rw [Tryd.params7] at hA hval
  obtain ⟨v0, vs0, d0, ds0, p0, q0, hargs, rfl, rfl, h0, r0⟩ := trodAll_cons hA
  obtain ⟨v1, vs1, d1, ds1, p1, q1, rfl, rfl, rfl, h1, r1⟩ := trodAll_cons r0
  obtain ⟨rfl, rfl, rfl⟩ := trodAll_nil r1
  obtain rfl : args = #[v0, v1] := by cases args; simp_all
  obtain ⟨rfl, rfl⟩ := trodVars_none hV
  obtain ⟨a0, rfl, rfl, rfl, w0⟩ := Go.ChangeMaps.open_string Tryd.underlying9 (hval 0 9 v0 rfl rfl) h0
  obtain ⟨a1, rfl, rfl, rfl, w1⟩ := Go.ChangeMaps.open_string Tryd.underlying9 (hval 1 9 v1 rfl rfl) h1
  clear hA0 hval0
  simp only [List.append_nil] at hW'
  refine (walk a0 w0 a1 w1 W hE).mono fun e W' ⟨he, hb⟩ => ?_
  subst he
  exact ⟨_, rfl, _, _, _, [], _, [], hW', (trodAll_cons_mk (shut_bool Tryd.underlying4 _) trodAll_mk0), (trodAll_cons_mk (Go.ChangeMaps.shut_string Tryd.underlying9 w0) (trodAll_cons_mk (Go.ChangeMaps.shut_string Tryd.underlying9 w1) trodAll_mk0)), rfl, hb.below.frame _, fun h => by cases h⟩

theorem over : Rows.lexerJoinsRow.holds Tryd.pinned (OpenSpec.ofChange Rows.lexerJoinsSpec) :=
  OpenClaim.holds_of_wide 7 Tryd.f7 rfl rfl rfl rfl rfl rfl rfl ⟨rfl, rfl, rfl, rfl, rfl⟩ rfl rfl rfl rfl rfl (by kernel_rfl) Tryd.func7 (by kernel_rfl)
    (of_decide_eq_true (by kernel_rfl)) (by unfold Func.isWrapper; first | (rw [if_pos (by decide +kernel)]; kernel_rfl) | (rw [if_neg (by decide +kernel)]; exact ⟨rfl, rfl⟩))
    (fun os started H enc _ => lifted os started H enc)
end Go.Proofs.YtocdkgmmnkmlpaaDoor.lexerJoins
namespace Go.Proofs.YtocdkgmmnkmlpaaDoor
theorem lexerJoins_holds : Rows.LexerJoinsCardSaid :=
  Claim7.holds_tied_plain_at .later [] [.data, .pinned] true (true, "bb02076f46fe85bca606fee8305af3083b78a2dd3027bd5c5d7b576488f40cbf") true lexerJoins.over (fun _ h => by cases h) (by kernel_rfl) (fun _ h => by cases h) lexerJoins_row_tie rfl ⟨rfl, rfl⟩ (by kernel_rfl) rfl
    (fun f fn hf hfn => by
      obtain rfl : f = 7 := Option.some.inj ((show Tryd.prog.funcNamed "quittance/quittancelaw07.LexerJoins" = some 7 by kernel_rfl).symm.trans hf) |>.symm
      obtain rfl : fn = Tryd.f7 := (Option.some.inj (Tryd.func7.symm.trans hfn)).symm
      exact ⟨by kernel_rfl, fun j t ht => by
        rw [Tryd.params7] at ht
        have hm : t ∈ [9, 9] := by simpa using Array.mem_of_getElem? ht
        have hall : ([9, 9].all fun u => !Tryd.prog.wantsStandIn u) = true := by kernel_rfl
        exact (show Tryd.prog.wantsStandIn t = false by simpa using List.all_eq_true.1 hall t hm)⟩)
    (by kernel_rfl)
#print axioms lexerJoins_holds
end Go.Proofs.YtocdkgmmnkmlpaaDoor
