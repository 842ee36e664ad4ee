/- Digits and Text of the document's own, as contracts: no statement of the seat is proved here. -/
import Derived.Test.YtbdninnopfdnbaaDoorLaw0
namespace Go.Proofs.YtbdninnopfdnbaaDoor
open Go.RowKit Go.Lib
set_option linter.unusedVariables false

theorem fix_cons (j : Nat) : ∀ v, fix (j + 1) v = dgt (v / 10 ^ j) :: fix j v := by
  induction j with
  | zero => intro v; simp [fix]
  | succ j ih =>
    intro v
    rw [fix, ih, fix, Nat.pow_succ, Nat.mul_comm (10 ^ j) 10, ← Nat.div_div_eq_div_mul]
    rfl
/-- Where the loop of Digits ends. -/
structure Ends (v least j : Nat) : Prop where
  le : least ≤ j
  z : v / 10 ^ j = 0
  nz : j = least ∨ v / 10 ^ (j - 1) ≠ 0
theorem ends_fix (v k j : Nat) (hk : v < 10 ^ k) (h : Ends v k j) : j = k := by
  rcases h.nz with e | e
  · exact e
  · have := h.le
    by_cases hj : j = k
    · exact hj
    · exfalso
      apply e
      apply Nat.div_eq_of_lt
      exact Nat.lt_of_lt_of_le hk (Nat.pow_le_pow_right (by omega) (by omega))

theorem one_byte (W : World) (b : Nat) (c : UInt8) (h : W.cell? ⟨b, 0, none⟩ = some (.int .u8 (c.toNat : Int))) :
    (convert 38 9 (.slice (some ⟨b, 0, none⟩) 1 1)).run Tryd.prog W = .ok (.string ⟨#[c]⟩) W :=
  run_convert_bytes_back (P := Tryd.prog) W 38 9 5 ⟨b, 0, none⟩ 1 [c] Tryd.underlying38 Tryd.underlying5 Tryd.underlying9 (fun j hj => by
    obtain rfl : j = 0 := by simpa using hj
    exact h)

set_option maxHeartbeats 1000000 in
theorem rDigits_c (v least : Nat) (w : World) (hv : v < 1000000) (hl : least ≤ 20) :
    Calls Tryd.prog 35 #[.int .i64 (v : Int), .int .i64 (least : Int)] w fun e w' => (∃ j, Ends v least j ∧ e = .returned (.string ⟨(fix j v).toArray⟩)) ∧ Ext w w' := by
  go_enter Tryd.func35, Tryd.ntmps35
  go_wp2
  go_loopw [0, 5] (fun vv s wr => ∃ j : Nat, j ≤ 20 ∧ vv = .int .i64 ((v / 10 ^ j : Nat) : Int) ∧ s = .string ⟨(fix j v).toArray⟩ ∧ (j ≤ least ∨ v / 10 ^ (j - 1) ≠ 0) ∧ Hid (Ext w wr)) (fun vv s _ => (RowKit.intOf vv).toNat + (20 - strSize s))
  case atStart => exact ⟨0, by omega, by simp, rfl, Or.inl (Nat.zero_le _), Ext.refl _⟩
  case round =>
    obtain ⟨j, hj, rfl, rfl, hor, hx⟩ := hrel
    have hvj : v / 10 ^ j < 1000000 := Nat.lt_of_le_of_lt (Nat.div_le_self _ _) hv
    have hj19 : 0 < v / 10 ^ j → j ≤ 19 := fun h0 => by
      rcases Nat.lt_or_ge j 20 with k | k
      · omega
      · have : v / 10 ^ j = 0 := Nat.div_eq_of_lt (Nat.lt_of_lt_of_le hv (Nat.le_trans (by decide) (Nat.pow_le_pow_right (n := 10) (by omega) k)))
        omega
    generalize hq : v / 10 ^ j = q at *
    by_cases hz : 0 < q
    · have hj1 := hj19 hz
      clear hj19
      have hq10 : v / 10 ^ (j + 1) = q / 10 := by rw [Nat.pow_succ, ← Nat.div_div_eq_div_mul, hq]
      obtain ⟨c, hc⟩ : ∃ c : UInt8, c = dgt q := ⟨_, rfl⟩
      have hcb := fun (W : World) (b : Nat) (h : W.cell? ⟨b, 0, none⟩ = some (.int .u8 (c.toNat : Int))) => one_byte W b c h
      have hfc : fix (j + 1) v = c :: fix j v := by rw [fix_cons, hq, hc]
      have hfl := fix_length j v
      have hbig : ¬ 9223372036854775807 < 1 + j := by omega
      replace hfc := show Hid _ from hfc
      replace hq10 := show Hid _ from hq10
      replace hq := show Hid _ from hq
      have hqI : (0 : Int) < (q : Int) := by omega
      have e2 : IntKind.u8.wrap (48 + (q : Int) % 10) = (c.toNat : Int) := by rw [hc, dgt_toNat, IntKind.wrap_u8]; omega
      replace hc := show Hid _ from hc
      go_wp2
      go_roundw
      case rel => exact ⟨j + 1, by omega, by rw [hq10.out]; go_num, by rw [hfc.out], Or.inr (by rw [Nat.add_sub_cancel, hq.out]; omega), (hx.out.alloc _ _)⟩
      case measure => simp [RowKit.intOf, strSize_string, Lib.size_mk, hfl]; omega
    · have hq0 : q = 0 := by omega
      subst hq0
      clear hj19 hz
      by_cases hle : j < least
      · have hleI : (j : Int) < (least : Int) := by omega
        have hq10 : v / 10 ^ (j + 1) = 0 := by rw [Nat.pow_succ, ← Nat.div_div_eq_div_mul, hq]
        obtain ⟨c, hc⟩ : ∃ c : UInt8, c = dgt 0 := ⟨_, rfl⟩
        have hcb := fun (W : World) (b : Nat) (h : W.cell? ⟨b, 0, none⟩ = some (.int .u8 (c.toNat : Int))) => one_byte W b c h
        have hfc : fix (j + 1) v = c :: fix j v := by rw [fix_cons, hq, hc]
        have hfl := fix_length j v
        have hbig : ¬ 9223372036854775807 < 1 + j := by omega
        replace hfc := show Hid _ from hfc
        replace hq10 := show Hid _ from hq10
        replace hq := show Hid _ from hq
        have e2 : IntKind.u8.wrap 48 = (c.toNat : Int) := by rw [hc]; rfl
        replace hc := show Hid _ from hc
        go_wp2
        go_roundw
        case rel => exact ⟨j + 1, by omega, by rw [hq10.out]; go_num, by rw [hfc.out], Or.inl (by omega), (hx.out.alloc _ _)⟩
        case measure => simp [RowKit.intOf, strSize_string, Lib.size_mk, hfl]; omega
      · have hleI : ¬ (j : Int) < (least : Int) := by omega
        have hfl := fix_length j v
        go_wp2
        go_ret
        refine ⟨⟨j, ⟨by omega, hq, ?_⟩, rfl⟩, hx.out⟩
        rcases hor with k | k
        · left; omega
        · right; exact k
theorem rDigits_fix (v k : Nat) (w : World) (hk : k ≤ 4) (hv : v < 10 ^ k) :
    Calls Tryd.prog 35 #[.int .i64 (v : Int), .int .i64 (k : Int)] w fun e w' => e = .returned (.string ⟨(fix k v).toArray⟩) ∧ Ext w w' := by
  have hv2 : v < 1000000 := Nat.lt_of_lt_of_le hv (Nat.le_trans (Nat.pow_le_pow_right (n := 10) (by omega) hk) (by decide))
  refine (rDigits_c v k w hv2 (by omega)).mono ?_
  rintro e w' ⟨⟨j, hj, rfl⟩, hx⟩
  exact ⟨by rw [ends_fix v k j hv hj], hx⟩
theorem rText_no (n : Int) (w : World) (h : n < -25567 ∨ 84370 < n) :
    Calls Tryd.prog 15 #[.int .i64 n] w fun e w' => e = .returned (.tuple #[.string ⟨#[]⟩, .int .i64 5]) ∧ Ext w w' := by
  replace h := show Hid _ from h
  go_enter Tryd.func15, Tryd.ntmps15
  go_wp2_with fail
  refine (rDate_no _ _ h.out).mono ?_
  rintro e w1 ⟨rfl, hx⟩
  replace hx := show Hid _ from hx
  go_wp2
  go_ret2
  exact ⟨rfl, hx.out.alloc _ _⟩
set_option maxHeartbeats 1000000 in
theorem rText_ok (n : Int) (w : World) (h1 : -25567 ≤ n) (h2 : n ≤ 84370) (he : Hid (Env w)) :
    Calls Tryd.prog 15 #[.int .i64 n] w fun e w' => (∃ y m d : Int, e = .returned (.tuple #[.string ⟨(textL y m d).toArray⟩, .int .i64 0]) ∧ Vld y m d ∧ num y m d = n) ∧ Ext w w' := by
  go_enter Tryd.func15, Tryd.ntmps15
  go_wp2_with fail
  refine (rDate_ok _ _ h1 h2).mono ?_
  rintro e w1 ⟨⟨y, m, d, rfl, hv, hn⟩, hx⟩
  replace he : Hid (Env w1) := he.out.ext hx
  replace hx := show Hid _ from hx
  replace hn := show Hid _ from hn
  obtain ⟨Y, rfl⟩ : ∃ Y : Nat, y = Y := ⟨y.toNat, by have := hv.y1; omega⟩
  obtain ⟨M, rfl⟩ : ∃ M : Nat, m = M := ⟨m.toNat, by have := hv.m1; omega⟩
  obtain ⟨N, rfl⟩ : ∃ N : Nat, d = N := ⟨d.toNat, by have := hv.d1; omega⟩
  have y1 := hv.y1; have y2 := hv.y2; have m2 := hv.m2; have d2 := hv.d31
  replace hv := show Hid _ from hv
  go_wp2
  obtain ⟨W0, b, hW0, hb, hx0, k0, k1, k2⟩ := box3 w1 (.int .i64 (Y : Int)) (.int .i64 (M : Int)) (.int .i64 (N : Int)) 23
  rw [hW0, hb]
  clear hW0 hb
  replace he : Hid (Env W0) := he.out.ext hx0
  replace hx : Hid (Ext w W0) := hx.out.trans hx0
  clear hx0
  have j0 := Late.cell k0; have j1 := Late.cell k1; have j2 := Late.cell k2
  have hE : Hid (∀ s : Late W0, Hid (Env s.to)) := fun s => he.out.ext s.ext
  have hI : Hid (∀ w : World, Calls Tryd.prog 35 #[.int .i64 (Y : Int), .int .i64 4] w fun e w' => e = .returned (.string ⟨(fix 4 Y).toArray⟩) ∧ Ext w w') := fun w => rDigits_fix Y 4 w (by omega) (by omega)
  have hM : Hid (∀ w : World, Calls Tryd.prog 35 #[.int .i64 (M : Int), .int .i64 2] w fun e w' => e = .returned (.string ⟨(fix 2 M).toArray⟩) ∧ Ext w w') := fun w => rDigits_fix M 2 w (by omega) (by omega)
  have hN : Hid (∀ w : World, Calls Tryd.prog 35 #[.int .i64 (N : Int), .int .i64 2] w fun e w' => e = .returned (.string ⟨(fix 2 N).toArray⟩) ∧ Ext w w') := fun w => rDigits_fix N 2 w (by omega) (by omega)
  have l1 := fix_length 4 Y; have l2 := fix_length 2 M; have l3 := fix_length 2 N
  have ht : Hid (textL (Y : Int) (M : Int) (N : Int) = fix 4 Y ++ 45 :: (fix 2 M ++ 45 :: fix 2 N)) := rfl
  generalize fix 4 Y = a at *
  generalize fix 2 M = p at *
  generalize fix 2 N = q at *
  have hz : ∀ s : Late W0, ¬ 9223372036854775807 < 4 + 1 := fun _ => by omega
  clear hz
  have hNe1 : Nonempty (Late W0) := ⟨⟨_, Ext.refl _⟩⟩
  refine wp_region_late (by kernel_rfl) (by kernel_rfl) ?_
  repeat (go_big_quiet_step ((first
    | (go_at_call_of 35 (Y : Int); exact late_of (hI.out _))
    | (go_at_call_of 35 (M : Int); exact late_of (hM.out _))
    | (go_at_call_of 35 (N : Int); exact late_of (hN.out _)))))
  refine wpQuiet_nil ?_
  intro W1 hw'
  have hx1 := late_ext hw'
  clear hw'
  go_wp2
  go_ret2
  exact ⟨⟨Y, M, N, by exact ret_text (by rw [ht.out]) 0, hv.out, hn.out⟩, hx.out.trans hx1⟩
end Go.Proofs.YtbdninnopfdnbaaDoor
