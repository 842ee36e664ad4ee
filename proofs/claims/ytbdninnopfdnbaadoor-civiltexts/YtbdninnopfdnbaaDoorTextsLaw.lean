/- For all ints n and at and every byte by, of the project's tree at the commit that COMMIT names, CivilTexts returns true and leaves its arguments as they were, with the listed variables laid as the program's text lays them. -/
import Derived.Test.YtbdninnopfdnbaaDoorFrame
import Derived.Test.YtbdninnopfdnbaaDoorTexts0
namespace Go.Proofs.YtbdninnopfdnbaaDoor.civilTexts
open Go.ChangeShapes Go.WideShapes Go.ChangeAt Go.RowKit Go.Lib
set_option linter.unusedVariables false

set_option maxHeartbeats 4000000 in
theorem texts_digit (a0 a1 : Int) (c : UInt8) (w : World) (he : Hid (Env w)) (h1 : (48 : Int) ≤ (c.toNat : Int)) (h2 : (c.toNat : Int) ≤ 57) :
    Calls Tryd.prog 6 #[.int .i64 a0, .int .i64 a1, .int .u8 (c.toNat : Int)] w fun e w' => e = .returned (.bool true) ∧ Ext w w' := by
  obtain ⟨N, hN⟩ : ∃ N, dayN a0 = N := ⟨_, rfl⟩
  obtain ⟨n1, n2⟩ := dayN_bd a0
  have hd : Hid (∀ w, Calls Tryd.prog 24 #[.int .i64 a0] w fun e w' => e = .returned (.int .i64 N) ∧ Ext w w') := fun w => hN ▸ day_x a0 w
  rw [hN] at n1 n2
  clear hN
  generalize (c.toNat : Int) = x at *
  go_enter Tryd.func6, Tryd.ntmps6
  go_wp2_with fail
  refine (hd.out _).mono ?_
  rintro e w1 ⟨rfl, hx1⟩
  replace he : Hid (Env w1) := he.out.ext hx1
  have hx := show Hid (Ext w w1) from hx1
  clear hx1
  go_wp2_with fail
  refine (rText_ok N _ n1 n2 he).mono ?_
  rintro e w2 ⟨⟨y, m, d, rfl, hv, hn⟩, hx1⟩
  replace he : Hid (Env w2) := he.out.ext hx1
  replace hx : Hid (Ext w w2) := hx.out.trans hx1
  clear hx1
  go_wp2_with fail
  refine (awake_c _ he).mono ?_
  rintro e w3 ⟨rfl, hx1⟩
  replace he : Hid (Env w3) := he.out.ext hx1
  replace hx : Hid (Ext w w3) := hx.out.trans hx1
  clear hx1
  go_wp2
  go_ret
  exact ⟨rfl, hx.out⟩
set_option maxHeartbeats 4000000 in
theorem texts_hyphen (a0 a1 : Int) (c : UInt8) (w : World) (he : Hid (Env w)) (h1 : (c.toNat : Int) = 45) :
    Calls Tryd.prog 6 #[.int .i64 a0, .int .i64 a1, .int .u8 (c.toNat : Int)] w fun e w' => e = .returned (.bool true) ∧ Ext w w' := by
  obtain ⟨N, hN⟩ : ∃ N, dayN a0 = N := ⟨_, rfl⟩
  obtain ⟨n1, n2⟩ := dayN_bd a0
  have hd : Hid (∀ w, Calls Tryd.prog 24 #[.int .i64 a0] w fun e w' => e = .returned (.int .i64 N) ∧ Ext w w') := fun w => hN ▸ day_x a0 w
  rw [hN] at n1 n2
  clear hN
  generalize (c.toNat : Int) = x at *
  go_enter Tryd.func6, Tryd.ntmps6
  go_wp2_with fail
  refine (hd.out _).mono ?_
  rintro e w1 ⟨rfl, hx1⟩
  replace he : Hid (Env w1) := he.out.ext hx1
  have hx := show Hid (Ext w w1) from hx1
  clear hx1
  go_wp2_with fail
  refine (rText_ok N _ n1 n2 he).mono ?_
  rintro e w2 ⟨⟨y, m, d, rfl, hv, hn⟩, hx1⟩
  replace he : Hid (Env w2) := he.out.ext hx1
  replace hx : Hid (Ext w w2) := hx.out.trans hx1
  clear hx1
  go_wp2_with fail
  refine (awake_c _ he).mono ?_
  rintro e w3 ⟨rfl, hx1⟩
  replace he : Hid (Env w3) := he.out.ext hx1
  replace hx : Hid (Ext w w3) := hx.out.trans hx1
  clear hx1
  go_wp2
  go_ret
  exact ⟨rfl, hx.out⟩
set_option maxHeartbeats 4000000 in
theorem texts_low (a0 a1 : Int) (c : UInt8) (w : World) (he : Hid (Env w)) (hc : isD c = false) (h45 : c ≠ 45) (c1 : ¬ (48 : Int) ≤ (c.toNat : Int)) :
    Calls Tryd.prog 6 #[.int .i64 a0, .int .i64 a1, .int .u8 (c.toNat : Int)] w fun e w' => e = .returned (.bool true) ∧ Ext w w' := by
  obtain ⟨N, hN⟩ : ∃ N, dayN a0 = N := ⟨_, rfl⟩
  obtain ⟨n1, n2⟩ := dayN_bd a0
  have hd : Hid (∀ w, Calls Tryd.prog 24 #[.int .i64 a0] w fun e w' => e = .returned (.int .i64 N) ∧ Ext w w') := fun w => hN ▸ day_x a0 w
  rw [hN] at n1 n2
  clear hN
  obtain ⟨u, hu⟩ : ∃ u, a1 % 18446744073709551616 = u := ⟨_, rfl⟩
  have u1 : 0 ≤ u := by omega
  have u2 : u < 18446744073709551616 := by omega
  have e1 : IntKind.u64.wrap a1 = u := by rw [IntKind.wrap_u64]; omega
  obtain ⟨k, hk⟩ : ∃ k : Nat, u % 10 = (k : Int) := ⟨(u % 10).toNat, by omega⟩
  have k1 : k < 10 := by omega
  have k2 : (k : Int) < 10 := by omega
  clear hu
  have c2 : ¬ (c.toNat : Int) = 45 := fun e => h45 (UInt8.toNat_inj.mp (Int.ofNat_inj.mp e))
  go_enter Tryd.func6, Tryd.ntmps6
  go_wp2_with fail
  refine (hd.out _).mono ?_
  rintro e w1 ⟨rfl, hx1⟩
  replace he : Hid (Env w1) := he.out.ext hx1
  have hx := show Hid (Ext w w1) from hx1
  clear hx1
  go_wp2_with fail
  refine (rText_ok N _ n1 n2 he).mono ?_
  rintro e w2 ⟨⟨y, m, d, rfl, hv, hn⟩, hx1⟩
  replace he : Hid (Env w2) := he.out.ext hx1
  replace hx : Hid (Ext w w2) := hx.out.trans hx1
  clear hx1
  clear hv hn hd n1 n2
  have hl := text_length y m d
  have T1 := tak_not _ (set_form (textL y m d) k c hl k1 hc h45)
  have T2 := tak_not (textL y m d ++ [48]) (form_not _ (by simp [hl]))
  have T3 := bent_no y m d
  have T4 := bent_len _ hl
  generalize textL y m d = l at *
  have hA : Hid (∀ w : World, Hid (Env w) → Calls Tryd.prog 16 #[.string ⟨(l.set k c).toArray⟩] w fun e w' => e = .returned (.tuple #[.int .i64 0, .int .i64 4]) ∧ Ext w w') := fun w he => by
    have := Take_c (l.set k c) w (by simp [hl]) he
    rwa [T1.1, T1.2] at this
  have hB : Hid (∀ w : World, Hid (Env w) → Calls Tryd.prog 16 #[.string ⟨(l ++ [48]).toArray⟩] w fun e w' => e = .returned (.tuple #[.int .i64 0, .int .i64 4]) ∧ Ext w w') := fun w he => by
    have := Take_c (l ++ [48]) w (by simp [hl]) he
    rwa [T2.1, T2.2] at this
  have hC : Hid (∀ w : World, Hid (Env w) → Calls Tryd.prog 16 #[.string ⟨(l.take 4 ++ 45 :: 49 :: 51 :: l.drop 7).toArray⟩] w fun e w' => e = .returned (.tuple #[.int .i64 0, .int .i64 5]) ∧ Ext w w') := fun w he => by
    have := Take_c (bent l) w (by omega) he
    rw [T3.1, T3.2] at this
    have e : bent l = l.take 4 ++ 45 :: 49 :: 51 :: l.drop 7 := by simp [bent]
    rwa [e] at this
  clear T1 T2 T3 T4
  have x1 : (⟨l.toArray⟩ : ByteArray).extract 0 4 = ⟨(l.take 4).toArray⟩ := by apply ByteArray.ext; simp [ByteArray.data_extract]
  have x2 : (⟨l.toArray⟩ : ByteArray).extract 7 10 = ⟨(l.drop 7).toArray⟩ := by
    apply ByteArray.ext
    simp [ByteArray.data_extract]
    exact List.take_of_length_le (by simp [hl])
  have hsz : (⟨l.toArray⟩ : ByteArray).size = 10 := by rw [Lib.size_mk]; exact hl
  have y1 : (l.take 4).length = 4 := by simp [hl]
  have y2 : (l.drop 7).length = 3 := by simp [hl]
  generalize l.take 4 = p at *
  generalize l.drop 7 = q at *
  obtain ⟨W, b, cap, hcv, hxb, lo, cl, fz⟩ := bytes_of l w2
  have hback := back_of l W b cap k c (by omega) cl
  have ck := cl k (by omega)
  have fk := fz k (by omega)
  generalize l[k] = ck0 at ck
  clear cl fz
  rw [hl] at hcv hback
  obtain ⟨W2, hW2⟩ : ∃ W2, W.setCell ⟨b, k, none⟩ (.int .u8 (c.toNat : Int)) = W2 := ⟨_, rfl⟩
  rw [hW2] at hback
  have hx2 : Hid (Ext w W2) := by show Ext w W2; rw [← hW2]; exact (hx.out.trans hxb).setCell (show w.heap.size ≤ b by have := hx.out.size; omega) _
  have he2 : Hid (Env W2) := by show Env W2; rw [← hW2]; exact he.out.ext (hxb.setCell (show w2.heap.size ≤ b from lo) _)
  clear hx he hxb lo
  rename Hid (Ext w W2) => hx
  rename Hid (Env W2) => he
  skip
  go_wp2_with fail
  refine (hA.out _ he).mono ?_
  rintro e w3 ⟨rfl, hx1⟩
  replace he : Hid (Env w3) := he.out.ext hx1
  replace hx : Hid (Ext w w3) := hx.out.trans hx1
  clear hx1
  go_wp2_with fail
  refine (hB.out _ he).mono ?_
  rintro e w4 ⟨rfl, hx1⟩
  replace he : Hid (Env w4) := he.out.ext hx1
  replace hx : Hid (Ext w w4) := hx.out.trans hx1
  clear hx1
  go_wp2_with fail
  skip
  have hE : Hid (∀ s : Late w4, Hid (Env s.to)) := fun s => he.out.ext s.ext
  have hNe1 : Nonempty (Late w4) := ⟨⟨_, Ext.refl _⟩⟩
  refine wp_region_late (by kernel_rfl) (by kernel_rfl) ?_
  repeat (go_big_quiet_step ((first
    | (go_at_call 16; exact late_of (hC.out _ (hE.out _))))))
  refine wpQuiet_nil ?_
  intro W9 hw'
  have hx1 := late_ext hw'
  clear hw' hE hNe1
  replace he : Hid (Env W9) := he.out.ext hx1
  replace hx : Hid (Ext w W9) := hx.out.trans hx1
  clear hx1
  go_wp2_with fail
  refine (awake_c _ he).mono ?_
  rintro e w5 ⟨rfl, hx1⟩
  replace he : Hid (Env w5) := he.out.ext hx1
  replace hx : Hid (Ext w w5) := hx.out.trans hx1
  clear hx1
  go_wp2
  go_ret
  exact ⟨rfl, hx.out⟩
set_option maxHeartbeats 4000000 in
theorem texts_high (a0 a1 : Int) (c : UInt8) (w : World) (he : Hid (Env w)) (hc : isD c = false) (h45 : c ≠ 45) (c0 : (48 : Int) ≤ (c.toNat : Int)) (c1 : ¬ (c.toNat : Int) ≤ 57) :
    Calls Tryd.prog 6 #[.int .i64 a0, .int .i64 a1, .int .u8 (c.toNat : Int)] w fun e w' => e = .returned (.bool true) ∧ Ext w w' := by
  obtain ⟨N, hN⟩ : ∃ N, dayN a0 = N := ⟨_, rfl⟩
  obtain ⟨n1, n2⟩ := dayN_bd a0
  have hd : Hid (∀ w, Calls Tryd.prog 24 #[.int .i64 a0] w fun e w' => e = .returned (.int .i64 N) ∧ Ext w w') := fun w => hN ▸ day_x a0 w
  rw [hN] at n1 n2
  clear hN
  obtain ⟨u, hu⟩ : ∃ u, a1 % 18446744073709551616 = u := ⟨_, rfl⟩
  have u1 : 0 ≤ u := by omega
  have u2 : u < 18446744073709551616 := by omega
  have e1 : IntKind.u64.wrap a1 = u := by rw [IntKind.wrap_u64]; omega
  obtain ⟨k, hk⟩ : ∃ k : Nat, u % 10 = (k : Int) := ⟨(u % 10).toNat, by omega⟩
  have k1 : k < 10 := by omega
  have k2 : (k : Int) < 10 := by omega
  clear hu
  have c2 : ¬ (c.toNat : Int) = 45 := fun e => h45 (UInt8.toNat_inj.mp (Int.ofNat_inj.mp e))
  have d1 : decide ((c.toNat : Int) ≤ 57) = false := decide_eq_false c1
  have d2 : ((c.toNat : Int) == 45) = false := by simpa using c2
  go_enter Tryd.func6, Tryd.ntmps6
  go_wp2_with fail
  refine (hd.out _).mono ?_
  rintro e w1 ⟨rfl, hx1⟩
  replace he : Hid (Env w1) := he.out.ext hx1
  have hx := show Hid (Ext w w1) from hx1
  clear hx1
  go_wp2_with fail
  refine (rText_ok N _ n1 n2 he).mono ?_
  rintro e w2 ⟨⟨y, m, d, rfl, hv, hn⟩, hx1⟩
  replace he : Hid (Env w2) := he.out.ext hx1
  replace hx : Hid (Ext w w2) := hx.out.trans hx1
  clear hx1
  clear hv hn hd n1 n2
  have hl := text_length y m d
  have T1 := tak_not _ (set_form (textL y m d) k c hl k1 hc h45)
  have T2 := tak_not (textL y m d ++ [48]) (form_not _ (by simp [hl]))
  have T3 := bent_no y m d
  have T4 := bent_len _ hl
  generalize textL y m d = l at *
  have hA : Hid (∀ w : World, Hid (Env w) → Calls Tryd.prog 16 #[.string ⟨(l.set k c).toArray⟩] w fun e w' => e = .returned (.tuple #[.int .i64 0, .int .i64 4]) ∧ Ext w w') := fun w he => by
    have := Take_c (l.set k c) w (by simp [hl]) he
    rwa [T1.1, T1.2] at this
  have hB : Hid (∀ w : World, Hid (Env w) → Calls Tryd.prog 16 #[.string ⟨(l ++ [48]).toArray⟩] w fun e w' => e = .returned (.tuple #[.int .i64 0, .int .i64 4]) ∧ Ext w w') := fun w he => by
    have := Take_c (l ++ [48]) w (by simp [hl]) he
    rwa [T2.1, T2.2] at this
  have hC : Hid (∀ w : World, Hid (Env w) → Calls Tryd.prog 16 #[.string ⟨(l.take 4 ++ 45 :: 49 :: 51 :: l.drop 7).toArray⟩] w fun e w' => e = .returned (.tuple #[.int .i64 0, .int .i64 5]) ∧ Ext w w') := fun w he => by
    have := Take_c (bent l) w (by omega) he
    rw [T3.1, T3.2] at this
    have e : bent l = l.take 4 ++ 45 :: 49 :: 51 :: l.drop 7 := by simp [bent]
    rwa [e] at this
  clear T1 T2 T3 T4
  have x1 : (⟨l.toArray⟩ : ByteArray).extract 0 4 = ⟨(l.take 4).toArray⟩ := by apply ByteArray.ext; simp [ByteArray.data_extract]
  have x2 : (⟨l.toArray⟩ : ByteArray).extract 7 10 = ⟨(l.drop 7).toArray⟩ := by
    apply ByteArray.ext
    simp [ByteArray.data_extract]
    exact List.take_of_length_le (by simp [hl])
  have hsz : (⟨l.toArray⟩ : ByteArray).size = 10 := by rw [Lib.size_mk]; exact hl
  have y1 : (l.take 4).length = 4 := by simp [hl]
  have y2 : (l.drop 7).length = 3 := by simp [hl]
  generalize l.take 4 = p at *
  generalize l.drop 7 = q at *
  obtain ⟨W, b, cap, hcv, hxb, lo, cl, fz⟩ := bytes_of l w2
  have hback := back_of l W b cap k c (by omega) cl
  have ck := cl k (by omega)
  have fk := fz k (by omega)
  generalize l[k] = ck0 at ck
  clear cl fz
  rw [hl] at hcv hback
  obtain ⟨W2, hW2⟩ : ∃ W2, W.setCell ⟨b, k, none⟩ (.int .u8 (c.toNat : Int)) = W2 := ⟨_, rfl⟩
  rw [hW2] at hback
  have hx2 : Hid (Ext w W2) := by show Ext w W2; rw [← hW2]; exact (hx.out.trans hxb).setCell (show w.heap.size ≤ b by have := hx.out.size; omega) _
  have he2 : Hid (Env W2) := by show Env W2; rw [← hW2]; exact he.out.ext (hxb.setCell (show w2.heap.size ≤ b from lo) _)
  clear hx he hxb lo
  rename Hid (Ext w W2) => hx
  rename Hid (Env W2) => he
  skip
  go_wp2_with fail
  refine (hA.out _ he).mono ?_
  rintro e w3 ⟨rfl, hx1⟩
  replace he : Hid (Env w3) := he.out.ext hx1
  replace hx : Hid (Ext w w3) := hx.out.trans hx1
  clear hx1
  go_wp2_with fail
  refine (hB.out _ he).mono ?_
  rintro e w4 ⟨rfl, hx1⟩
  replace he : Hid (Env w4) := he.out.ext hx1
  replace hx : Hid (Ext w w4) := hx.out.trans hx1
  clear hx1
  go_wp2_with fail
  skip
  have hE : Hid (∀ s : Late w4, Hid (Env s.to)) := fun s => he.out.ext s.ext
  have hNe1 : Nonempty (Late w4) := ⟨⟨_, Ext.refl _⟩⟩
  refine wp_region_late (by kernel_rfl) (by kernel_rfl) ?_
  repeat (go_big_quiet_step ((first
    | (go_at_call 16; exact late_of (hC.out _ (hE.out _))))))
  refine wpQuiet_nil ?_
  intro W9 hw'
  have hx1 := late_ext hw'
  clear hw' hE hNe1
  replace he : Hid (Env W9) := he.out.ext hx1
  replace hx : Hid (Ext w W9) := hx.out.trans hx1
  clear hx1
  go_wp2_with fail
  refine (awake_c _ he).mono ?_
  rintro e w5 ⟨rfl, hx1⟩
  replace he : Hid (Env w5) := he.out.ext hx1
  replace hx : Hid (Ext w w5) := hx.out.trans hx1
  clear hx1
  go_wp2
  go_ret
  exact ⟨rfl, hx.out⟩

theorem walk (a0 : Int) (w0 : (Lit.int .i64 a0).wf = true) (a1 : Int) (w1 : (Lit.int .i64 a1).wf = true) (a2 : Int) (w2 : (Lit.int .u8 a2).wf = true) (w : World) (he : Env w) :
    Calls Tryd.prog 6 #[.int .i64 a0, .int .i64 a1, .int .u8 a2] w fun e w' => e = .returned (.bool true) ∧ Ext w w' := by
  replace he : Hid (Env w) := he
  have b2 := bounds_u8 w2
  obtain ⟨c, rfl⟩ : ∃ c : UInt8, a2 = (c.toNat : Int) := ⟨UInt8.ofNat a2.toNat, by simp; omega⟩
  cases hc : isD c
  · by_cases h45 : c = 45
    · exact texts_hyphen a0 a1 c w he (by rw [h45]; rfl)
    · by_cases h1 : (48 : Int) ≤ (c.toNat : Int)
      · exact texts_high a0 a1 c w he hc h45 h1 (fun h2 => by
          have : isD c = true := by unfold isD; simp; omega
          rw [this] at hc; cases hc)
      · exact texts_low a0 a1 c w he hc h45 h1
  · obtain ⟨h1, h2⟩ := isD_range hc
    exact texts_digit a0 a1 c w he (by omega) (by omega)

set_option maxRecDepth 100000 in
theorem lifted (os : Os) (started : os.Started) (H : Type) (enc : TypeId × Value → H) :
    ReturnsInHanded {} Tryd.checked os 6 .any (fun w args => (Rows.civilTextsSpec.pre enc Tryd.prog Tryd.f6 [] false w args ∧ laidMetH Tryd.prog laid w) ∧ sizedMet enc Tryd.prog Tryd.f6 (OpenSpec.ofChange Rows.civilTextsSpec) false w args)
      (Rows.civilTextsSpec.post enc Tryd.prog Tryd.f6 false true false false) := by
  refine wrap started (by kernel_rfl) Tryd.func6
    (ChangeSpec.witness_shaped (enc := enc) (C := Tryd.checked) (os := os) (X := fun w _ => laidMetH Tryd.prog laid w) false (World.laidAll Tryd.prog os laid) #[.int .i64 0, .int .i64 0, .int .u8 0] 8 (World.laidAll_os _ _ _)
      (World.shaped_of_ZipB (by kernel_rfl) (by kernel_rfl)) (by kernel_rfl) (by kernel_rfl) (by kernel_rfl)
      (by rw [MakeChecks.laidMetH_plain _ _ _ (by kernel_rfl)]; exact laidMet_laidAll _ (by kernel_rfl) (by kernel_rfl))) ?_
  intro W base args ds gs before hval0 hW hE
  have hval : ∀ (j : Nat) t v, Tryd.f6.params[j]? = some t → args[j]? = some v → Value.okWide Tryd.prog W .any base t v := hval0
  have hW' := hW
  obtain ⟨p, q, hA0, hV, rfl, _, _⟩ := hW
  have hA : DataW.TrodAll enc Tryd.prog W 0 (fun _ => true) true Tryd.f6.params.toList args.toList ds p := hA0
  rw [Tryd.params6] at hA hval
  obtain ⟨v0, vs0, d0, ds0, p0, q0, hargs, rfl, rfl, h0, r0⟩ := trodAll_cons hA
  obtain ⟨v1, vs1, d1, ds1, p1, q1, rfl, rfl, rfl, h1, r1⟩ := trodAll_cons r0
  obtain ⟨v2, vs2, d2, ds2, p2, q2, rfl, rfl, rfl, h2, r2⟩ := trodAll_cons r1
  obtain ⟨rfl, rfl, rfl⟩ := trodAll_nil r2
  obtain rfl : args = #[v0, v1, v2] := by cases args; simp_all
  obtain ⟨rfl, rfl⟩ := trodVars_none hV
  obtain ⟨a0, rfl, rfl, rfl, w0⟩ := open_int Tryd.underlying3 (hval 0 3 v0 rfl rfl) h0
  obtain ⟨a1, rfl, rfl, rfl, w1⟩ := open_int Tryd.underlying3 (hval 1 3 v1 rfl rfl) h1
  obtain ⟨a2, rfl, rfl, rfl, w2⟩ := open_int Tryd.underlying5 (hval 2 5 v2 rfl rfl) h2
  clear hA0 hval0
  simp only [List.append_nil] at hW'
  refine (walk a0 w0 a1 w1 a2 w2 W hE).mono fun e W' ⟨he, hb⟩ => ?_
  subst he
  exact ⟨_, rfl, _, _, _, [], [], [], hW', (trodAll_cons_mk (shut_bool Tryd.underlying4 _) trodAll_mk0), (trodAll_cons_mk (shut_int Tryd.underlying3 w0) (trodAll_cons_mk (shut_int Tryd.underlying3 w1) (trodAll_cons_mk (shut_int Tryd.underlying5 w2) trodAll_mk0))), rfl, hb.below.frame _, fun h => by cases h⟩

theorem over : Rows.civilTextsRow.holds Tryd.pinned (OpenSpec.ofChange Rows.civilTextsSpec) :=
  OpenClaim.holds_of_wide 6 Tryd.f6 rfl rfl rfl rfl rfl rfl rfl ⟨rfl, rfl, rfl, rfl, rfl⟩ rfl rfl rfl rfl rfl (by kernel_rfl) Tryd.func6 (by kernel_rfl)
    (of_decide_eq_true (by kernel_rfl)) (by unfold Func.isWrapper; first | (rw [if_pos (by decide +kernel)]; kernel_rfl) | (rw [if_neg (by decide +kernel)]; exact ⟨rfl, rfl⟩))
    (fun os started H enc _ => lifted os started H enc)
end Go.Proofs.YtbdninnopfdnbaaDoor.civilTexts
namespace Go.Proofs.YtbdninnopfdnbaaDoor
theorem civilTexts_holds : Rows.CivilTextsCardSaid :=
  Claim7.holds_tied_plain_at .later [] [.data, .data, .data, .sentinel, .sentinel, .data] true (true, "f9020bd6947e917c8eb02aa199ac44401b4a49270a74dcbb55531bc928ef3fbb") true civilTexts.over (fun _ h => by cases h) (by kernel_rfl) (fun _ h => by cases h) civilTexts_row_tie rfl ⟨rfl, rfl⟩ (by kernel_rfl) rfl
    (fun f fn hf hfn => by
      obtain rfl : f = 6 := Option.some.inj ((show Tryd.prog.funcNamed "quittance/quittancelaw03.CivilTexts" = some 6 by kernel_rfl).symm.trans hf) |>.symm
      obtain rfl : fn = Tryd.f6 := (Option.some.inj (Tryd.func6.symm.trans hfn)).symm
      exact ⟨by kernel_rfl, fun j t ht => by
        rw [Tryd.params6] at ht
        have hm : t ∈ [3, 3, 5] := by simpa using Array.mem_of_getElem? ht
        have hall : ([3, 3, 5].all fun u => !Tryd.prog.wantsStandIn u) = true := by kernel_rfl
        exact (show Tryd.prog.wantsStandIn t = false by simpa using List.all_eq_true.1 hall t hm)⟩)
    (by kernel_rfl)
#print axioms civilTexts_holds
end Go.Proofs.YtbdninnopfdnbaaDoor
