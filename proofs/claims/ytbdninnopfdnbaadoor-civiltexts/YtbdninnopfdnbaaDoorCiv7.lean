/- Text and Take of package civil, as contracts: no statement of the seat is proved here. -/
import Derived.Test.YtbdninnopfdnbaaDoorCiv6
namespace Go.Proofs.YtbdninnopfdnbaaDoor
open Go.RowKit Go.Lib
set_option linter.unusedVariables false

theorem ret_text {a b : List UInt8} (h : a = b) (k : Int) : Ending.returned (.tuple #[.string ⟨a.toArray⟩, .int .i64 k]) = .returned (.tuple #[.string ⟨b.toArray⟩, .int .i64 k]) := by rw [h]
theorem Text_no (n : Int) (w : World) (h : n < -25567 ∨ 84370 < n) :
    Calls Tryd.prog 14 #[.int .i64 n] w fun e w' => e = .returned (.tuple #[.string ⟨#[]⟩, .int .i64 5]) ∧ Ext w w' := by
  replace h := show Hid _ from h
  go_enter Tryd.func14, Tryd.ntmps14
  go_wp2_with fail
  refine (Date_no _ _ h.out).mono ?_
  rintro e w1 ⟨rfl, hx⟩
  replace hx := show Hid _ from hx
  go_wp2
  go_ret2
  exact ⟨rfl, hx.out.alloc _ _⟩
set_option maxHeartbeats 1000000 in
theorem Text_ok (n : Int) (w : World) (h1 : -25567 ≤ n) (h2 : n ≤ 84370) (he : Hid (Env w)) :
    Calls Tryd.prog 14 #[.int .i64 n] w fun e w' => (∃ y m d : Int, e = .returned (.tuple #[.string ⟨(textL y m d).toArray⟩, .int .i64 0]) ∧ Vld y m d ∧ num y m d = n) ∧ Ext w w' := by
  go_enter Tryd.func14, Tryd.ntmps14
  go_wp2_with fail
  refine (Date_ok _ _ h1 h2 he).mono ?_
  rintro e w1 ⟨⟨y, m, d, rfl, hv, hn⟩, hx⟩
  replace he : Hid (Env w1) := he.out.ext hx
  replace hx := show Hid _ from hx
  replace hn := show Hid _ from hn
  obtain ⟨Y, rfl⟩ : ∃ Y : Nat, y = Y := ⟨y.toNat, by have := hv.y1; omega⟩
  obtain ⟨M, rfl⟩ : ∃ M : Nat, m = M := ⟨m.toNat, by have := hv.m1; omega⟩
  obtain ⟨N, rfl⟩ : ∃ N : Nat, d = N := ⟨d.toNat, by have := hv.d1; omega⟩
  have y1 := hv.y1; have y2 := hv.y2; have m2 := hv.m2; have d2 := hv.d31
  replace hv := show Hid _ from hv
  go_wp2
  obtain ⟨W0, b, hW0, hb, hx0, k0, k1, k2⟩ := box3 w1 (.int .i64 (Y : Int)) (.int .i64 (M : Int)) (.int .i64 (N : Int)) 23
  rw [hW0, hb]
  clear hW0 hb
  replace he : Hid (Env W0) := he.out.ext hx0
  replace hx : Hid (Ext w W0) := hx.out.trans hx0
  clear hx0
  have j0 := Late.cell k0; have j1 := Late.cell k1; have j2 := Late.cell k2
  have hE : Hid (∀ s : Late W0, Hid (Env s.to)) := fun s => he.out.ext s.ext
  have hI : Hid (∀ w : World, Hid (Env w) → Calls Tryd.prog 33 #[.int .i64 (Y : Int)] w fun e w' => e = .returned (.string ⟨(fix 4 Y).toArray⟩) ∧ Ext w w') := fun w he => itoaYear_c Y w (by omega) (by omega) he
  have hM : Hid (∀ w : World, Calls Tryd.prog 34 #[.int .i64 (M : Int)] w fun e w' => e = .returned (.string ⟨(fix 2 M).toArray⟩) ∧ w' = w) := fun w => twoDigits_c M w (by omega)
  have hN : Hid (∀ w : World, Calls Tryd.prog 34 #[.int .i64 (N : Int)] w fun e w' => e = .returned (.string ⟨(fix 2 N).toArray⟩) ∧ w' = w) := fun w => twoDigits_c N w (by omega)
  have l1 := fix_length 4 Y; have l2 := fix_length 2 M; have l3 := fix_length 2 N
  have ht : Hid (textL (Y : Int) (M : Int) (N : Int) = fix 4 Y ++ 45 :: (fix 2 M ++ 45 :: fix 2 N)) := rfl
  generalize fix 4 Y = a at *
  generalize fix 2 M = p at *
  generalize fix 2 N = q at *
  clear y1 y2 m2 d2
  have hz : ∀ s : Late W0, ¬ 9223372036854775807 < 4 + 1 := fun _ => by omega
  clear hz
  have hNe1 : Nonempty (Late W0) := ⟨⟨_, Ext.refl _⟩⟩
  refine wp_region_late (by kernel_rfl) (by kernel_rfl) ?_
  repeat (go_big_quiet_step ((first
    | (go_at_call 33; exact late_of (hI.out _ (hE.out _)))
    | (go_at_call_of 34 (M : Int); exact late_same (hM.out _))
    | (go_at_call_of 34 (N : Int); exact late_same (hN.out _)))))
  refine wpQuiet_nil ?_
  intro W1 hw'
  have hx1 := late_ext hw'
  clear hw'
  go_wp2
  go_ret2
  exact ⟨⟨Y, M, N, by exact ret_text (by rw [ht.out]) 0, hv.out, hn.out⟩, hx.out.trans hx1⟩
theorem Take_short (l : List UInt8) (w : World) (h : l.length ≠ 10) (hl : l.length ≤ 1000000) :
    Calls Tryd.prog 16 #[.string ⟨l.toArray⟩] w fun e w' => e = .returned (.tuple #[.int .i64 0, .int .i64 4]) ∧ Ext w w' := by
  replace h := show Hid _ from h
  go_enter Tryd.func16, Tryd.ntmps16
  go_wp2_with (go_at_call 36; refine (formed_no _ _ h.out hl).mono ?_; rintro e w' ⟨rfl, rfl⟩)
  go_ret2
  exact ⟨rfl, Ext.refl _⟩
theorem Take_no (c0 c1 c2 c3 c4 c5 c6 c7 c8 c9 : UInt8) (w : World) (h : formL [c0, c1, c2, c3, c4, c5, c6, c7, c8, c9] = false) :
    Calls Tryd.prog 16 #[.string ⟨#[c0, c1, c2, c3, c4, c5, c6, c7, c8, c9]⟩] w fun e w' => e = .returned (.tuple #[.int .i64 0, .int .i64 4]) ∧ Ext w w' := by
  have hf := fun w => formed_c c0 c1 c2 c3 c4 c5 c6 c7 c8 c9 w
  rw [h] at hf
  replace hf := show Hid _ from hf
  clear h
  go_enter Tryd.func16, Tryd.ntmps16
  go_wp2_with (go_at_call 36; refine (hf.out _).mono ?_; rintro e w' ⟨rfl, rfl⟩)
  go_ret2
  exact ⟨rfl, Ext.refl _⟩
set_option maxHeartbeats 2000000 in
theorem Take_ok (c0 c1 c2 c3 c4 c5 c6 c7 c8 c9 : UInt8) (w : World) (h : formL [c0, c1, c2, c3, c4, c5, c6, c7, c8, c9] = true) (he : Hid (Env w)) :
    Calls Tryd.prog 16 #[.string ⟨#[c0, c1, c2, c3, c4, c5, c6, c7, c8, c9]⟩] w fun e w' => e = .returned (.tuple #[.int .i64 (numA (pY [c0, c1, c2, c3, c4, c5, c6, c7, c8, c9]) (pM [c0, c1, c2, c3, c4, c5, c6, c7, c8, c9]) (pD [c0, c1, c2, c3, c4, c5, c6, c7, c8, c9])), .int .i64 (numE (pY [c0, c1, c2, c3, c4, c5, c6, c7, c8, c9]) (pM [c0, c1, c2, c3, c4, c5, c6, c7, c8, c9]) (pD [c0, c1, c2, c3, c4, c5, c6, c7, c8, c9]))]) ∧ Ext w w' := by
  have hf := fun w => formed_c c0 c1 c2 c3 c4 c5 c6 c7 c8 c9 w
  rw [h] at hf
  replace hf := show Hid _ from hf
  have f := (form_iff c0 c1 c2 c3 c4 c5 c6 c7 c8 c9).1 h
  have n1 : Hid (∀ w : World, Calls Tryd.prog 37 #[.string ⟨#[c0, c1, c2, c3]⟩] w fun e w' => e = .returned (.int .i64 (pY [c0, c1, c2, c3, c4, c5, c6, c7, c8, c9])) ∧ Ext w w') := fun w => number_c [c0, c1, c2, c3] w (by simp) (by simp [f.d0, f.d1, f.d2, f.d3]) (by simp)
  have n2 : Hid (∀ w : World, Calls Tryd.prog 37 #[.string ⟨#[c5, c6]⟩] w fun e w' => e = .returned (.int .i64 (pM [c0, c1, c2, c3, c4, c5, c6, c7, c8, c9])) ∧ Ext w w') := fun w => number_c [c5, c6] w (by simp) (by simp [f.d5, f.d6]) (by simp)
  have n3 : Hid (∀ w : World, Calls Tryd.prog 37 #[.string ⟨#[c8, c9]⟩] w fun e w' => e = .returned (.int .i64 (pD [c0, c1, c2, c3, c4, c5, c6, c7, c8, c9])) ∧ Ext w w') := fun w => number_c [c8, c9] w (by simp) (by simp [f.d8, f.d9]) (by simp)
  have e1 : (⟨#[c0, c1, c2, c3, c4, c5, c6, c7, c8, c9]⟩ : ByteArray).extract 0 4 = ⟨#[c0, c1, c2, c3]⟩ := rfl
  have e2 : (⟨#[c0, c1, c2, c3, c4, c5, c6, c7, c8, c9]⟩ : ByteArray).extract 5 7 = ⟨#[c5, c6]⟩ := rfl
  have e3 : (⟨#[c0, c1, c2, c3, c4, c5, c6, c7, c8, c9]⟩ : ByteArray).extract 8 10 = ⟨#[c8, c9]⟩ := rfl
  have hsz : (⟨#[c0, c1, c2, c3, c4, c5, c6, c7, c8, c9]⟩ : ByteArray).size = 10 := rfl
  have hm : Hid (I64 (pM [c0, c1, c2, c3, c4, c5, c6, c7, c8, c9])) := by
    have := valL_lt [c5, c6] (by simp [f.d5, f.d6])
    show I64 (pM [c0, c1, c2, c3, c4, c5, c6, c7, c8, c9])
    have e : pM [c0, c1, c2, c3, c4, c5, c6, c7, c8, c9] = (valL [c5, c6] : Nat) := rfl
    unfold I64; rw [e]; simp at this; omega
  generalize pY [c0, c1, c2, c3, c4, c5, c6, c7, c8, c9] = y at *
  generalize pM [c0, c1, c2, c3, c4, c5, c6, c7, c8, c9] = m at *
  generalize pD [c0, c1, c2, c3, c4, c5, c6, c7, c8, c9] = d at *
  have hN : Hid (∀ w : World, Hid (Env w) → Calls Tryd.prog 10 #[.agg #[.int .i64 y, .int .i64 m, .int .i64 d]] w fun e w' => e = .returned (.tuple #[.int .i64 (numA y m d), .int .i64 (numE y m d)]) ∧ Ext w w') := fun w he => Number_c y m d w hm.out he
  generalize numA y m d = na at *
  generalize numE y m d = ne at *
  clear f h hm
  go_enter Tryd.func16, Tryd.ntmps16
  go_wp2_with fail
  refine (hf.out _).mono ?_
  rintro e w1 ⟨rfl, rfl⟩
  go_wp2
  have hE : Hid (∀ s : Late w1, Hid (Env s.to)) := fun s => he.out.ext s.ext
  have hNe1 : Nonempty (Late w1) := ⟨⟨_, Ext.refl _⟩⟩
  refine wp_region_late (by kernel_rfl) (by kernel_rfl) ?_
  repeat (go_big_quiet_step ((first
    | (go_at_call_of 37 c0; exact late_of (n1.out _))
    | (go_at_call_of 37 c5; exact late_of (n2.out _))
    | (go_at_call_of 37 c8; exact late_of (n3.out _))
    | (go_at_call 10; exact late_of (hN.out _ (hE.out _))))))
  refine wpQuiet_nil ?_
  intro W1 hw'
  have hx1 := late_ext hw'
  clear hw'
  go_wp2
  go_ret2
  exact ⟨rfl, hx1⟩
theorem Take_c (l : List UInt8) (w : World) (hl : l.length ≤ 1000000) (he : Hid (Env w)) :
    Calls Tryd.prog 16 #[.string ⟨l.toArray⟩] w fun e w' => e = .returned (.tuple #[.int .i64 (takA l), .int .i64 (takE l)]) ∧ Ext w w' := by
  by_cases h : l.length = 10
  · obtain ⟨c0, c1, c2, c3, c4, c5, c6, c7, c8, c9, rfl⟩ := ten h
    cases hf : formL [c0, c1, c2, c3, c4, c5, c6, c7, c8, c9]
    · rw [(tak_not _ hf).1, (tak_not _ hf).2]; exact Take_no c0 c1 c2 c3 c4 c5 c6 c7 c8 c9 w hf
    · rw [(tak_form _ hf).1, (tak_form _ hf).2]; exact Take_ok c0 c1 c2 c3 c4 c5 c6 c7 c8 c9 w hf he
  · rw [(tak_not _ (form_not l h)).1, (tak_not _ (form_not l h)).2]; exact Take_short l w h hl

/-- A day that there is. -/
def dayN (n : Int) : Int := -25567 + (n % 18446744073709551616) % 109938
theorem dayN_bd (n : Int) : -25567 ≤ dayN n ∧ dayN n ≤ 84370 := by unfold dayN; omega
theorem day_c (n : Int) (w : World) :
    Calls Tryd.prog 24 #[.int .i64 n] w fun e w' => e = .returned (.int .i64 (dayN n)) ∧ w' = w := by
  obtain ⟨u, hu⟩ : ∃ u, n % 18446744073709551616 = u := ⟨_, rfl⟩
  have u1 : 0 ≤ u := by omega
  have u2 : u < 18446744073709551616 := by omega
  have e1 : IntKind.u64.wrap n = u := by rw [IntKind.wrap_u64]; omega
  obtain ⟨v, hv⟩ : ∃ v, u % 109938 = v := ⟨_, rfl⟩
  have v1 : 0 ≤ v := by omega
  have v2 : v < 109938 := by omega
  unfold dayN
  rw [hu, hv]
  clear hu
  go_enter Tryd.func24, Tryd.ntmps24
  go_wp2
  go_ret
  exact ⟨rfl, rfl⟩
theorem awake_c (w : World) (he : Hid (Env w)) :
    Calls Tryd.prog 9 #[] w fun e w' => e = .returned (.bool true) ∧ Ext w w' := by
  have ht : Hid (∀ w : World, Hid (Env w) → Calls Tryd.prog 16 #[.string ⟨#[50, 48, 50, 52, 45, 48, 50, 45, 50, 57]⟩] w fun e w' => e = .returned (.tuple #[.int .i64 19782, .int .i64 0]) ∧ Ext w w') := fun w he => by
    have := Take_c [50, 48, 50, 52, 45, 48, 50, 45, 50, 57] w (by simp) he
    have e1 : takA [50, 48, 50, 52, 45, 48, 50, 45, 50, 57] = 19782 := by decide
    have e2 : takE [50, 48, 50, 52, 45, 48, 50, 45, 50, 57] = 0 := by decide
    rwa [e1, e2] at this
  have hL : Hid (∀ w : World, Calls Tryd.prog 18 #[.int .i64 2000] w fun e w' => e = .returned (.bool true) ∧ w' = w) := fun w => Long_c 2000 w
  have hM : Hid (∀ w : World, Hid (Env w) → Calls Tryd.prog 20 #[.int .i64 2023, .int .i64 2] w fun e w' => e = .returned (.int .i64 28) ∧ w' = w) := fun w he => Month_c 2023 2 w (by unfold I64; omega) he
  have hW : Hid (∀ w : World, Calls Tryd.prog 22 #[.int .i64 0] w fun e w' => e = .returned (.int .i64 3) ∧ w' = w) := fun w => Weekday_c 0 w (by unfold I64; omega)
  go_enter Tryd.func9, Tryd.ntmps9
  go_wp2_with fail
  refine (ht.out _ he).mono ?_
  rintro e w1 ⟨rfl, hx⟩
  replace he : Hid (Env w1) := he.out.ext hx
  replace hx := show Hid _ from hx
  go_wp2_with (first
    | (go_at_call 18; refine (hL.out _).mono ?_; rintro e w' ⟨rfl, rfl⟩)
    | (go_at_call 20; refine (hM.out _ he).mono ?_; rintro e w' ⟨rfl, rfl⟩)
    | (go_at_call 22; refine (hW.out _).mono ?_; rintro e w' ⟨rfl, rfl⟩))
  go_ret
  exact ⟨rfl, hx.out⟩
end Go.Proofs.YtbdninnopfdnbaaDoor
