/- For all slices of ints l and all ints day, how, from and to, of the project's tree at the commit that COMMIT names, BusinessTells returns true and leaves its arguments as they were, with the listed variables laid as the program's text lays them. -/
import Derived.Test.YtkkpnhcodaijeaaDoorFrame
import Derived.Test.YtkkpnhcodaijeaaDoorBiz6
import Derived.Deep.Cut
namespace Go.Proofs.YtkkpnhcodaijeaaDoor.businessTells
open Go.ChangeShapes Go.WideShapes Go.ChangeAt Go.RowKit Go.Lib
set_option linter.unusedVariables false

theorem long_walk (v0 : Value) (l0 : List Int) (a1 a2 a3 a4 : Int) (w : World) (he : Hid (Env w)) (s0 : Slc w v0 l0) (hl : 300 < l0.length) (hm : l0.length ≤ maxLen) :
    Calls Tryd.prog 3 #[v0, .int .i64 a1, .int .i64 a2, .int .i64 a3, .int .i64 a4] w fun e w' => e = .returned (.bool true) ∧ Ext w w' := by
  obtain ⟨ao, c, rfl, _, _⟩ := s0.src
  clear s0
  generalize l0.length = n at *
  unfold maxLen at hm
  have h3 : (300 : Int) < (n : Int) := by omega
  go_enter Tryd.func3, Tryd.ntmps3
  go_wp2_with fail
  refine (awake_c _ he).mono ?_
  rintro e w1 ⟨rfl, hx⟩
  replace hx := show Hid _ from hx
  go_wp2
  go_ret
  exact ⟨rfl, hx.out⟩
set_option maxHeartbeats 2000000 in
set_option maxRecDepth 100000 in
theorem no_walk (v0 : Value) (l0 : List Int) (a1 a2 a3 a4 : Int) (w : World) (he : Hid (Env w)) (s0 : Slc w v0 l0) (hl : l0.length ≤ 300) (h1 : I64 a1) (hr : rgt l0 = false) :
    Calls Tryd.prog 3 #[v0, .int .i64 a1, .int .i64 a2, .int .i64 a3, .int .i64 a4] w fun e w' => e = .returned (.bool true) ∧ Ext w w' := by
  obtain ⟨ao, c, hv, _, _⟩ := s0.src
  replace s0 : Hid (Slc w v0 l0) := s0
  replace h1 := show Hid _ from h1
  have hO : Hid (∀ w : World, Slc w v0 l0 → Calls Tryd.prog 9 #[v0, .int .i64 71] w fun e w' => (∃ g, e = .returned (.slice (some ⟨g, 0, none⟩) l0.length (l0.length + 3)) ∧ w.heap.size ≤ g ∧ g < w'.heap.size ∧ Lst w' g (l0 ++ [71, 71, 71])) ∧ Ext w w') := fun w h => Own_c v0 l0 w (by omega) h
  have hRi : Hid (∀ w : World, Slc w v0 l0 → Calls Tryd.prog 11 #[v0] w fun e w' => e = .returned (.bool false) ∧ Ext w w') := fun w h => by
    have := Right_ok v0 l0 w (by omega) h
    rwa [hr] at this
  have hK : Hid (∀ (g : Nat) (w : World), Slc w v0 l0 → Lst w g (l0 ++ [71, 71, 71]) → Calls Tryd.prog 12 #[.slice (some ⟨g, 0, none⟩) l0.length (l0.length + 3), v0, .int .i64 71] w fun e w' => e = .returned (.bool true) ∧ Ext w w') := fun g w h k => Kept_c g v0 l0 w (by omega) k h
  have hN : Hid (∀ (v : Value) (w : World), Slc w v l0 → Calls Tryd.prog 10 #[v] w fun e w' => e = .returned (.tuple #[.pointer none, .int .i64 1]) ∧ w' = w) := fun v w h => New_no v l0 w h (by omega) hr
  subst hv
  obtain ⟨n, hn⟩ : ∃ n, l0.length = n := ⟨_, rfl⟩
  rw [hn] at hl hO hK hRi s0 ⊢
  have h3 : ¬ (300 : Int) < (n : Int) := by omega
  have hn' : n ≤ 1000 := by omega
  replace hn := show Hid _ from hn
  go_enter Tryd.func3, Tryd.ntmps3
  go_upto_region 3 with fail
  go_cut [37] from 22 (fun t wx => (∃ B, t = .bool B) ∧ wx = w)
  case first =>
    clear hO hRi hK hN
    by_cases c1 : a4 ≤ 84370
    · by_cases c2 : -25567 ≤ a3
      · go_wp2
        all_goals (go_meet; exact ⟨⟨_, rfl⟩, rfl⟩)
      · go_wp2
        all_goals (go_meet; exact ⟨⟨_, rfl⟩, rfl⟩)
    · go_wp2
      all_goals (go_meet; exact ⟨⟨_, rfl⟩, rfl⟩)
  case rest =>
    obtain ⟨⟨B, rfl⟩, rfl⟩ := hcut
    go_upto_if 37 with fail
    go_cut [4] from 22 (fun t wx => (∃ T, t = .int .i64 T) ∧ wx = wc)
    case first =>
      clear hO hRi hK hN
      cases B
      · go_wp2
        all_goals (go_meet; exact ⟨⟨_, rfl⟩, rfl⟩)
      · go_wp2
        all_goals (go_meet; exact ⟨⟨_, rfl⟩, rfl⟩)
    case rest =>
      obtain ⟨⟨T, rfl⟩, rfl⟩ := hcut
      go_wp2_with fail
      refine (hO.out _ s0.out).mono ?_
      rintro e w1 ⟨⟨g, rfl, g1, g2, hL⟩, hx1⟩
      replace hL := show Hid _ from hL
      replace g1 := show Hid _ from g1
      replace g2 := show Hid _ from g2
      replace s0 := show Hid (Slc w1 _ _) from s0.out.ext hx1
      replace he := show Hid (Env w1) from he.out.ext hx1
      have hx := show Hid (Ext _ w1) from hx1
      clear hx1 hO
      go_wp2_with fail
      refine (hN.out _ _ (hL.out.slc hn.out)).mono ?_
      rintro e w2 ⟨rfl, rfl⟩
      clear hN
      go_wp2_with fail
      refine (awake_c _ he).mono ?_
      rintro e w3 ⟨rfl, hx1⟩
      replace hL := show Hid (Lst w3 g _) from hL.out.ext hx1
      replace s0 := show Hid (Slc w3 _ _) from s0.out.ext hx1
      replace he := show Hid (Env w3) from he.out.ext hx1
      replace hx := show Hid (Ext _ w3) from hx.out.trans hx1
      clear hx1
      go_wp2_with fail
      refine (hRi.out _ s0.out).mono ?_
      rintro e w4 ⟨rfl, hx1⟩
      replace hL := show Hid (Lst w4 g _) from hL.out.ext hx1
      replace s0 := show Hid (Slc w4 _ _) from s0.out.ext hx1
      replace he := show Hid (Env w4) from he.out.ext hx1
      replace hx := show Hid (Ext _ w4) from hx.out.trans hx1
      clear hx1 hRi
      go_wp2_with fail
      refine (hK.out _ _ s0.out hL.out).mono ?_
      rintro e w5 ⟨rfl, hx1⟩
      replace he := show Hid (Env w5) from he.out.ext hx1
      replace hx := show Hid (Ext _ w5) from hx.out.trans hx1
      clear hx1 hK
      go_wp2
      go_ret
      exact ⟨rfl, hx.out⟩
set_option maxHeartbeats 2000000 in
set_option maxRecDepth 100000 in
theorem ok_walk (v0 : Value) (l0 : List Int) (a1 a2 a3 a4 : Int) (w : World) (he : Hid (Env w)) (s0 : Slc w v0 l0) (hl : l0.length ≤ 300) (h1 : I64 a1) (hr : rgt l0 = true) :
    Calls Tryd.prog 3 #[v0, .int .i64 a1, .int .i64 a2, .int .i64 a3, .int .i64 a4] w fun e w' => e = .returned (.bool true) ∧ Ext w w' := by
  obtain ⟨ao, c, hv, _, _⟩ := s0.src
  replace s0 : Hid (Slc w v0 l0) := s0
  replace h1 := show Hid _ from h1
  have hO : Hid (∀ w : World, Slc w v0 l0 → Calls Tryd.prog 9 #[v0, .int .i64 71] w fun e w' => (∃ g, e = .returned (.slice (some ⟨g, 0, none⟩) l0.length (l0.length + 3)) ∧ w.heap.size ≤ g ∧ g < w'.heap.size ∧ Lst w' g (l0 ++ [71, 71, 71])) ∧ Ext w w') := fun w h => Own_c v0 l0 w (by omega) h
  have hRi : Hid (∀ w : World, Slc w v0 l0 → Calls Tryd.prog 11 #[v0] w fun e w' => e = .returned (.bool true) ∧ Ext w w') := fun w h => by
    have := Right_ok v0 l0 w (by omega) h
    rwa [hr] at this
  have hK : Hid (∀ (g : Nat) (w : World), Slc w v0 l0 → Lst w g (l0 ++ [71, 71, 71]) → Calls Tryd.prog 12 #[.slice (some ⟨g, 0, none⟩) l0.length (l0.length + 3), v0, .int .i64 71] w fun e w' => e = .returned (.bool true) ∧ Ext w w') := fun g w h k => Kept_c g v0 l0 w (by omega) k h
  have hN : Hid (∀ (v : Value) (w : World), Slc w v l0 → Calls Tryd.prog 10 #[v] w fun e w' => ∃ p, e = .returned (.tuple #[.pointer (some ⟨p, 0, none⟩), .int .i64 0]) ∧ Made w w' p l0) := fun v w h => New_ok v l0 w h hr
  have hRo : Hid (∀ (p : Nat) (w : World), Hid (Cld w p l0) → Hid (Env w) → Calls Tryd.prog 14 #[.pointer (some ⟨p, 0, none⟩), .int .i64 a1, .int .i64 a2] w fun e w' => e = .returned (.tuple #[.int .i64 (rlA l0 a1 a2), .int .i64 (rlE l0 a1 a2)]) ∧ Ext w w') := fun p w hc he => Roll_c p l0 a1 a2 w hc he
  have hrR : Hid (∀ (w : World), Hid (Slc w v0 l0) → Calls Tryd.prog 15 #[v0, .int .i64 a1, .int .i64 a2] w fun e w' => e = .returned (.tuple #[.int .i64 (rlA l0 a1 a2), .int .i64 (rlE l0 a1 a2)]) ∧ Ext w w') := fun w h => rRoll_c v0 l0 a1 a2 w (by omega) h
  have hCo : Hid (∀ (p : Nat) (T : Int) (w : World), Hid (Cld w p l0) → Calls Tryd.prog 16 #[.pointer (some ⟨p, 0, none⟩), .int .i64 a3, .int .i64 T] w fun e w' => e = .returned (.tuple #[.int .i64 (ctA l0 a3 T), .int .i64 (ctE a3 T)]) ∧ w' = w) := fun p T w hc => Count_c p l0 a3 T w hc
  have hrC : Hid (∀ (T : Int) (w : World), Hid (Slc w v0 l0) → Calls Tryd.prog 17 #[v0, .int .i64 a3, .int .i64 T] w fun e w' => e = .returned (.tuple #[.int .i64 (ctA l0 a3 T), .int .i64 (ctE a3 T)]) ∧ w' = w) := fun T w h => rCount_c v0 l0 a3 T w (by omega) h
  have hOp : Hid (∀ (p : Nat) (w : World), Hid (Cld w p l0) → Calls Tryd.prog 18 #[.pointer (some ⟨p, 0, none⟩), .int .i64 a1] w fun e w' => e = .returned (.bool (opn l0 a1)) ∧ w' = w) := fun p w hc => Open_c p l0 a1 w h1.out hc
  have hrO : Hid (∀ (w : World), Hid (Slc w v0 l0) → Calls Tryd.prog 19 #[v0, .int .i64 a1] w fun e w' => e = .returned (.bool (opn l0 a1)) ∧ w' = w) := fun w h => rOpen_c v0 l0 a1 w h1.out (by omega) h
  generalize rlA l0 a1 a2 = RA at *
  generalize rlE l0 a1 a2 = RE at *
  generalize opn l0 a1 = OB at *
  subst hv
  obtain ⟨n, hn⟩ : ∃ n, l0.length = n := ⟨_, rfl⟩
  rw [hn] at hl hO hK hRi s0 ⊢
  rw [hn] at hrR hrC hrO
  have h3 : ¬ (300 : Int) < (n : Int) := by omega
  have hn' : n ≤ 1000 := by omega
  replace hn := show Hid _ from hn
  go_enter Tryd.func3, Tryd.ntmps3
  go_upto_region 3 with fail
  go_cut [37] from 22 (fun t wx => (∃ B, t = .bool B) ∧ wx = w)
  case first =>
    clear hO hRi hK hN hRo hrR hCo hrC hOp hrO
    by_cases c1 : a4 ≤ 84370
    · by_cases c2 : -25567 ≤ a3
      · go_wp2
        all_goals (go_meet; exact ⟨⟨_, rfl⟩, rfl⟩)
      · go_wp2
        all_goals (go_meet; exact ⟨⟨_, rfl⟩, rfl⟩)
    · go_wp2
      all_goals (go_meet; exact ⟨⟨_, rfl⟩, rfl⟩)
  case rest =>
    obtain ⟨⟨B, rfl⟩, rfl⟩ := hcut
    go_upto_if 37 with fail
    go_cut [4] from 22 (fun t wx => (∃ T, t = .int .i64 T) ∧ wx = wc)
    case first =>
      clear hO hRi hK hN hRo hrR hCo hrC hOp hrO
      cases B
      · go_wp2
        all_goals (go_meet; exact ⟨⟨_, rfl⟩, rfl⟩)
      · go_wp2
        all_goals (go_meet; exact ⟨⟨_, rfl⟩, rfl⟩)
    case rest =>
      obtain ⟨⟨T, rfl⟩, rfl⟩ := hcut
      have s00 := s0
      have he0 := he
      go_wp2_with fail
      refine (hO.out _ s0.out).mono ?_
      rintro e w1 ⟨⟨g, rfl, g1, g2, hL⟩, hx1⟩
      replace hL := show Hid _ from hL
      replace g1 := show Hid _ from g1
      replace g2 := show Hid _ from g2
      replace s0 := show Hid (Slc w1 _ _) from s0.out.ext hx1
      replace he := show Hid (Env w1) from he.out.ext hx1
      have hx := show Hid (Ext _ w1) from hx1
      clear hx1 hO
      go_wp2_with fail
      refine (hN.out _ _ (hL.out.slc hn.out)).mono ?_
      rintro e w2 ⟨p, rfl, hm⟩
      replace hL := show Hid (Lst w2 g _) from hL.out.ext hm.ext
      replace s0 := show Hid (Slc w2 _ _) from s0.out.ext hm.ext
      replace he := show Hid (Env w2) from he.out.ext hm.ext
      replace hx := show Hid (Ext _ w2) from hx.out.trans hm.ext
      replace hm := show Hid (Made w1 w2 p l0) from hm
      have hy := show Hid (Ext w2 w2) from Ext.refl w2
      clear hN
      go_wp2_with fail
      refine (awake_c _ he).mono ?_
      rintro e w3 ⟨rfl, hx1⟩
      replace hL := show Hid (Lst w3 g _) from hL.out.ext hx1
      replace s0 := show Hid (Slc w3 _ _) from s0.out.ext hx1
      replace he := show Hid (Env w3) from he.out.ext hx1
      replace hx := show Hid (Ext _ w3) from hx.out.trans hx1
      replace hy := show Hid (Ext w2 w3) from hy.out.trans hx1
      clear hx1
      go_wp2_with fail
      refine (hRi.out _ s0.out).mono ?_
      rintro e w4 ⟨rfl, hx1⟩
      replace hL := show Hid (Lst w4 g _) from hL.out.ext hx1
      replace s0 := show Hid (Slc w4 _ _) from s0.out.ext hx1
      replace he := show Hid (Env w4) from he.out.ext hx1
      replace hx := show Hid (Ext _ w4) from hx.out.trans hx1
      replace hy := show Hid (Ext w2 w4) from hy.out.trans hx1
      clear hx1 hRi
      go_wp2_with fail
      refine (hK.out _ _ s0.out hL.out).mono ?_
      rintro e w5 ⟨rfl, hx1⟩
      replace hL := show Hid (Lst w5 g _) from hL.out.ext hx1
      replace s0 := show Hid (Slc w5 _ _) from s0.out.ext hx1
      replace hx := show Hid (Ext _ w5) from hx.out.trans hx1
      replace hy := show Hid (Ext w2 w5) from hy.out.trans hx1
      clear hx1 hK
      go_wp2_with fail
      refine (Spoil_c g n _ _ hn' (by have := hL.out.cells; rwa [hn.out] at this)).mono ?_
      rintro e w6 ⟨rfl, hsp⟩
      have hc := show Hid (Cld w6 p l0) from hm.out.keep w6 (fun q o q1 q2 => by
        have := g2.out
        rw [hsp.cell q o (by omega)]
        exact hy.out.cell q o q2)
      replace hx := show Hid (Ext _ w6) from hsp.ext _ hx.out g1.out
      replace s0 := show Hid (Slc w6 _ _) from s00.out.ext hx.out
      replace he := show Hid (Env w6) from he0.out.ext hx.out
      clear hL hy hm hsp
      go_wp2_with fail
      refine (hRo.out _ _ hc he).mono ?_
      rintro e w7 ⟨rfl, hx1⟩
      replace hc := show Hid (Cld w7 p l0) from hc.out.ext hx1
      replace s0 := show Hid (Slc w7 _ _) from s0.out.ext hx1
      replace hx := show Hid (Ext _ w7) from hx.out.trans hx1
      clear hx1 hRo
      go_wp2_with fail
      refine (hrR.out _ s0).mono ?_
      rintro e w8 ⟨rfl, hx1⟩
      replace hc := show Hid (Cld w8 p l0) from hc.out.ext hx1
      replace s0 := show Hid (Slc w8 _ _) from s0.out.ext hx1
      replace hx := show Hid (Ext _ w8) from hx.out.trans hx1
      clear hx1 hrR
      go_wp2_with fail
      refine (hCo.out _ _ _ hc).mono ?_
      rintro e w9 ⟨rfl, rfl⟩
      go_wp2_with fail
      refine (hrC.out _ _ s0).mono ?_
      rintro e w10 ⟨rfl, rfl⟩
      clear hCo hrC
      generalize ctA l0 a3 T = X at *
      generalize ctE a3 T = Y at *
      go_wp2_with fail
      refine (hOp.out _ _ hc).mono ?_
      rintro e w11 ⟨rfl, rfl⟩
      go_wp2_with fail
      refine (hrO.out _ s0).mono ?_
      rintro e w12 ⟨rfl, rfl⟩
      clear hOp hrO
      go_wp2
      go_ret
      exact ⟨rfl, hx.out⟩

theorem walk (v0 : Value) (l0 : List Int) (n0 : l0.length ≤ maxLen) (b0 : ∀ x ∈ l0, I64 x) (a1 : Int) (w1 : (Lit.int .i64 a1).wf = true) (a2 : Int) (w2 : (Lit.int .i64 a2).wf = true) (a3 : Int) (w3 : (Lit.int .i64 a3).wf = true) (a4 : Int) (w4 : (Lit.int .i64 a4).wf = true) (w : World) (he : Env w) (s0 : Slc w v0 l0) :
    Calls Tryd.prog 3 #[v0, .int .i64 a1, .int .i64 a2, .int .i64 a3, .int .i64 a4] w fun e w' => e = .returned (.bool true) ∧ Ext w w' := by
  by_cases hl : 300 < l0.length
  · exact long_walk v0 l0 a1 a2 a3 a4 w he s0 hl n0
  · cases hr : rgt l0
    · exact no_walk v0 l0 a1 a2 a3 a4 w he s0 (by omega) (bounds_i64 w1) hr
    · exact ok_walk v0 l0 a1 a2 a3 a4 w he s0 (by omega) (bounds_i64 w1) hr

set_option maxRecDepth 100000 in
theorem lifted (os : Os) (started : os.Started) (H : Type) (enc : TypeId × Value → H) :
    ReturnsInHanded {} Tryd.checked os 3 .any (fun w args => (Rows.businessTellsSpec.pre enc Tryd.prog Tryd.f3 [] false w args ∧ laidMetH Tryd.prog laid w) ∧ sizedMet enc Tryd.prog Tryd.f3 (OpenSpec.ofChange Rows.businessTellsSpec) false w args)
      (Rows.businessTellsSpec.post enc Tryd.prog Tryd.f3 false true false false) := by
  refine wrap started (by kernel_rfl) Tryd.func3
    (ChangeSpec.witness_shaped (enc := enc) (C := Tryd.checked) (os := os) (X := fun w _ => laidMetH Tryd.prog laid w) false (World.laidAll Tryd.prog os laid) #[.slice none 0 0, .int .i64 0, .int .i64 0, .int .i64 0, .int .i64 0] 8 (World.laidAll_os _ _ _)
      (World.shaped_of_ZipB (by kernel_rfl) (by kernel_rfl)) (by kernel_rfl) (by kernel_rfl) (by kernel_rfl)
      (by rw [MakeChecks.laidMetH_plain _ _ _ (by kernel_rfl)]; exact laidMet_laidAll _ (by kernel_rfl) (by kernel_rfl))) ?_
  intro W base args ds gs before hval0 hW hE
  have hval : ∀ (j : Nat) t v, Tryd.f3.params[j]? = some t → args[j]? = some v → Value.okWide Tryd.prog W .any base t v := hval0
  have hW' := hW
  obtain ⟨p, q, hA0, hV, rfl, _, _⟩ := hW
  have hA : DataW.TrodAll enc Tryd.prog W 0 (fun _ => true) true Tryd.f3.params.toList args.toList ds p := hA0
  rw [Tryd.params3] at hA hval
  obtain ⟨v0, vs0, d0, ds0, p0, q0, hargs, rfl, rfl, h0, r0⟩ := trodAll_cons hA
  obtain ⟨v1, vs1, d1, ds1, p1, q1, rfl, rfl, rfl, h1, r1⟩ := trodAll_cons r0
  obtain ⟨v2, vs2, d2, ds2, p2, q2, rfl, rfl, rfl, h2, r2⟩ := trodAll_cons r1
  obtain ⟨v3, vs3, d3, ds3, p3, q3, rfl, rfl, rfl, h3, r3⟩ := trodAll_cons r2
  obtain ⟨v4, vs4, d4, ds4, p4, q4, rfl, rfl, rfl, h4, r4⟩ := trodAll_cons r3
  obtain ⟨rfl, rfl, rfl⟩ := trodAll_nil r4
  obtain rfl : args = #[v0, v1, v2, v3, v4] := by cases args; simp_all
  obtain ⟨rfl, rfl⟩ := trodVars_none hV
  obtain ⟨l0, s0, n0, b0, t0⟩ := open_slc (hval 0 22 v0 rfl rfl) h0
  obtain ⟨a1, rfl, rfl, rfl, w1⟩ := open_int Tryd.underlying3 (hval 1 3 v1 rfl rfl) h1
  obtain ⟨a2, rfl, rfl, rfl, w2⟩ := open_int Tryd.underlying3 (hval 2 3 v2 rfl rfl) h2
  obtain ⟨a3, rfl, rfl, rfl, w3⟩ := open_int Tryd.underlying3 (hval 3 3 v3 rfl rfl) h3
  obtain ⟨a4, rfl, rfl, rfl, w4⟩ := open_int Tryd.underlying3 (hval 4 3 v4 rfl rfl) h4
  clear hA0 hval0
  simp only [List.append_nil] at hW'
  refine (walk v0 l0 n0 b0 a1 w1 a2 w2 a3 w3 a4 w4 W hE s0).mono fun e W' ⟨he, hb⟩ => ?_
  subst he
  exact ⟨_, rfl, _, _, _, [], _, [], hW', (trodAll_cons_mk (shut_bool Tryd.underlying4 _) trodAll_mk0), (trodAll_cons_mk (t0 _ hb) (trodAll_cons_mk (shut_int Tryd.underlying3 w1) (trodAll_cons_mk (shut_int Tryd.underlying3 w2) (trodAll_cons_mk (shut_int Tryd.underlying3 w3) (trodAll_cons_mk (shut_int Tryd.underlying3 w4) trodAll_mk0))))), rfl, hb.below.frame _, fun h => by cases h⟩

theorem over : Rows.businessTellsRow.holds Tryd.pinned (OpenSpec.ofChange Rows.businessTellsSpec) :=
  OpenClaim.holds_of_wide 3 Tryd.f3 rfl rfl rfl rfl rfl rfl rfl ⟨rfl, rfl, rfl, rfl, rfl⟩ rfl rfl rfl rfl rfl (by kernel_rfl) Tryd.func3 (by kernel_rfl)
    (of_decide_eq_true (by kernel_rfl)) (by unfold Func.isWrapper; first | (rw [if_pos (by decide +kernel)]; kernel_rfl) | (rw [if_neg (by decide +kernel)]; exact ⟨rfl, rfl⟩))
    (fun os started H enc _ => lifted os started H enc)
end Go.Proofs.YtkkpnhcodaijeaaDoor.businessTells
namespace Go.Proofs.YtkkpnhcodaijeaaDoor
theorem businessTells_holds : Rows.BusinessTellsCardSaid :=
  Claim7.holds_tied_plain_at .later [] [.data] true (true, "e1bead60f38d7db9a905f8b5c7557c99378f268eeabe1e4dec57d59f46519798") false businessTells.over (fun _ h => by cases h) (by kernel_rfl) (fun _ h => by cases h) businessTells_row_tie rfl ⟨rfl, rfl⟩ (by kernel_rfl) rfl
    (fun f fn hf hfn => by
      obtain rfl : f = 3 := Option.some.inj ((show Tryd.prog.funcNamed "quittance/quittancelaw05.BusinessTells" = some 3 by kernel_rfl).symm.trans hf) |>.symm
      obtain rfl : fn = Tryd.f3 := (Option.some.inj (Tryd.func3.symm.trans hfn)).symm
      exact ⟨by kernel_rfl, fun j t ht => by
        rw [Tryd.params3] at ht
        have hm : t ∈ [22, 3, 3, 3, 3] := by simpa using Array.mem_of_getElem? ht
        have hall : ([22, 3, 3, 3, 3].all fun u => !Tryd.prog.wantsStandIn u) = true := by kernel_rfl
        exact (show Tryd.prog.wantsStandIn t = false by simpa using List.all_eq_true.1 hall t hm)⟩)
    (by kernel_rfl)
#print axioms businessTells_holds
end Go.Proofs.YtkkpnhcodaijeaaDoor
