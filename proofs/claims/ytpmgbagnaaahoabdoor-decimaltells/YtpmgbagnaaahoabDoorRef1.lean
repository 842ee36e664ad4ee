/- The document's own size and Digits of layer 2, as contracts: no statement of the seat is proved here. -/
import Derived.Test.YtpmgbagnaaahoabDoorPure2
import Derived.Laws.IdiomStrings
namespace Go.Proofs.YtpmgbagnaaahoabDoor
open Go.RowKit Go.Lib
set_option linter.unusedVariables false

theorem rsize_c (v : Int) (w : World) (h : I64 v) :
    Calls Tryd.prog 32 #[.int .i64 v] w fun e w' => e = .returned (.tuple #[.int .u64 (v.natAbs : Nat), .string ⟨(signL v).toArray⟩]) ∧ w' = w := by
  obtain ⟨h1, h2⟩ := h
  by_cases hv : v < 0
  · have e1 : wrap64 (v + 1) = v + 1 := by unfold wrap64; omega
    have e2 : wrap64 (-(v + 1)) = -(v + 1) := by unfold wrap64; omega
    have e3 : IntKind.u64.wrap (-(v + 1)) = -(v + 1) := by rw [IntKind.wrap_u64]; omega
    obtain ⟨n, hn⟩ : ∃ n : Nat, n = v.natAbs := ⟨_, rfl⟩
    rw [← hn]
    have e4 : IntKind.u64.wrap (-(v + 1) + 1) = (n : Int) := by rw [IntKind.wrap_u64]; omega
    have hs : signL v = [45] := by unfold signL; rw [if_pos hv]
    rw [hs]
    replace hn := show Hid _ from hn
    clear h1 h2
    go_enter Tryd.func32, Tryd.ntmps32
    go_wp2
    go_ret2
    exact ⟨rfl, rfl⟩
  · obtain ⟨n, rfl⟩ : ∃ n : Nat, v = n := ⟨v.toNat, by omega⟩
    have e1 : IntKind.u64.wrap (n : Int) = (n : Int) := by rw [IntKind.wrap_u64]; omega
    have hs : signL (n : Int) = [] := by unfold signL; rw [if_neg hv]
    rw [hs, Int.natAbs_natCast]
    go_enter Tryd.func32, Tryd.ntmps32
    go_wp2
    go_ret2
    exact ⟨rfl, rfl⟩

theorem fix_cons (j : Nat) : ∀ v, fix (j + 1) v = dgt (v / 10 ^ j) :: fix j v := by
  induction j with
  | zero => intro v; simp [fix]
  | succ j ih =>
    intro v
    rw [fix, ih, fix, Nat.pow_succ, Nat.mul_comm (10 ^ j) 10, ← Nat.div_div_eq_div_mul]
    rfl
/-- Where the loop of Digits ends. -/
structure Ends (v least j : Nat) : Prop where
  le : least ≤ j
  z : v / 10 ^ j = 0
  nz : j = least ∨ v / 10 ^ (j - 1) ≠ 0
theorem ends_dec (v j : Nat) (h : Ends v 1 j) : fix j v = decDigits v := by
  have hlt : v < 10 ^ j := by
    have := h.z
    have hp : 0 < 10 ^ j := Nat.pos_of_ne_zero (by simp)
    rcases Nat.lt_or_ge v (10 ^ j) with k | k
    · exact k
    · have := Nat.div_pos k hp; omega
  have hval : valL (fix j v) = v := by rw [valL_fix, Nat.mod_eq_of_lt hlt]
  have hl := h.le
  obtain ⟨i, rfl⟩ : ∃ i, j = i + 1 := ⟨j - 1, by omega⟩
  have hd := decDigits_valL (fix (i + 1) v) (by rw [fix_cons]; simp) (fix_all _ _) (by
    by_cases hi : i = 0
    · subst hi
      rw [fix_cons]
      by_cases hz : dgt (v / 10 ^ 0) = 48
      · left; rw [hz]; rfl
      · right; simpa using hz
    · right
      rw [fix_cons]
      have hnz : v / 10 ^ i ≠ 0 := by
        rcases h.nz with k | k
        · omega
        · simpa using k
      have h10 : v / 10 ^ i < 10 := by
        rw [Nat.pow_succ] at hlt
        exact Nat.div_lt_of_lt_mul hlt
      intro e
      have e2 : dgt (v / 10 ^ i) = 48 := by simpa using e
      have e3 := congrArg UInt8.toNat e2
      rw [dgt_toNat] at e3
      have h48 : (48 : UInt8).toNat = 48 := rfl
      rw [h48] at e3
      clear e e2 hval hlt h
      generalize v / 10 ^ i = q at *
      omega)
  rw [hval] at hd
  exact hd.symm
theorem ends_fix (v k j : Nat) (hk : v < 10 ^ k) (h : Ends v k j) : j = k := by
  rcases h.nz with e | e
  · exact e
  · have := h.le
    by_cases hj : j = k
    · exact hj
    · exfalso
      apply e
      apply Nat.div_eq_of_lt
      exact Nat.lt_of_lt_of_le hk (Nat.pow_le_pow_right (by omega) (by omega))

theorem one_byte (W : World) (b : Nat) (c : UInt8) (h : W.cell? ⟨b, 0, none⟩ = some (.int .u8 (c.toNat : Int))) :
    (convert 58 9 (.slice (some ⟨b, 0, none⟩) 1 1)).run Tryd.prog W = .ok (.string ⟨#[c]⟩) W :=
  run_convert_bytes_back (P := Tryd.prog) W 58 9 5 ⟨b, 0, none⟩ 1 [c] Tryd.underlying58 Tryd.underlying5 Tryd.underlying9 (fun j hj => by
    obtain rfl : j = 0 := by simpa using hj
    exact h)

set_option maxHeartbeats 1000000 in
theorem rdigits_c (v least : Nat) (w : World) (hv : v < 18446744073709551616) (hl : least ≤ 20) :
    Calls Tryd.prog 33 #[.int .u64 (v : Int), .int .i64 (least : Int)] w fun e w' => (∃ j, Ends v least j ∧ e = .returned (.string ⟨(fix j v).toArray⟩)) ∧ Ext w w' := by
  go_enter Tryd.func33, Tryd.ntmps33
  go_wp2
  go_loopw [0, 5] (fun vv s wr => ∃ j : Nat, j ≤ 20 ∧ vv = .int .u64 ((v / 10 ^ j : Nat) : Int) ∧ s = .string ⟨(fix j v).toArray⟩ ∧ (j ≤ least ∨ v / 10 ^ (j - 1) ≠ 0) ∧ Hid (Ext w wr)) (fun vv s _ => (RowKit.intOf vv).toNat + (20 - strSize s))
  case atStart => exact ⟨0, by omega, by simp, rfl, Or.inl (Nat.zero_le _), Ext.refl _⟩
  case round =>
    obtain ⟨j, hj, rfl, rfl, hor, hx⟩ := hrel
    have hvj : v / 10 ^ j < 18446744073709551616 := Nat.lt_of_le_of_lt (Nat.div_le_self _ _) hv
    have hj19 : 0 < v / 10 ^ j → j ≤ 19 := fun h0 => by
      rcases Nat.lt_or_ge j 20 with k | k
      · omega
      · have : v / 10 ^ j = 0 := Nat.div_eq_of_lt (Nat.lt_of_lt_of_le hv (Nat.le_trans (by decide) (Nat.pow_le_pow_right (n := 10) (by omega) k)))
        omega
    generalize hq : v / 10 ^ j = q at *
    by_cases hz : 0 < q
    · have hj1 := hj19 hz
      clear hj19
      have hq10 : v / 10 ^ (j + 1) = q / 10 := by rw [Nat.pow_succ, ← Nat.div_div_eq_div_mul, hq]
      obtain ⟨c, hc⟩ : ∃ c : UInt8, c = dgt q := ⟨_, rfl⟩
      have hcb := fun (W : World) (b : Nat) (h : W.cell? ⟨b, 0, none⟩ = some (.int .u8 (c.toNat : Int))) => one_byte W b c h
      have hfc : fix (j + 1) v = c :: fix j v := by rw [fix_cons, hq, hc]
      have hfl := fix_length j v
      have hbig : ¬ 9223372036854775807 < 1 + j := by omega
      replace hfc := show Hid _ from hfc
      replace hq10 := show Hid _ from hq10
      replace hq := show Hid _ from hq
      have hqI : (0 : Int) < (q : Int) := by omega
      have e2 : IntKind.u8.wrap (48 + (q : Int) % 10) = (c.toNat : Int) := by rw [hc, dgt_toNat, IntKind.wrap_u8]; omega
      replace hc := show Hid _ from hc
      go_wp2
      go_roundw
      case rel => exact ⟨j + 1, by omega, by rw [hq10.out]; go_num, by rw [hfc.out], Or.inr (by rw [Nat.add_sub_cancel, hq.out]; omega), (hx.out.alloc _ _)⟩
      case measure => simp [RowKit.intOf, strSize_string, Lib.size_mk, hfl]; omega
    · have hq0 : q = 0 := by omega
      subst hq0
      clear hj19 hz
      by_cases hle : j < least
      · have hleI : (j : Int) < (least : Int) := by omega
        have hq10 : v / 10 ^ (j + 1) = 0 := by rw [Nat.pow_succ, ← Nat.div_div_eq_div_mul, hq]
        obtain ⟨c, hc⟩ : ∃ c : UInt8, c = dgt 0 := ⟨_, rfl⟩
        have hcb := fun (W : World) (b : Nat) (h : W.cell? ⟨b, 0, none⟩ = some (.int .u8 (c.toNat : Int))) => one_byte W b c h
        have hfc : fix (j + 1) v = c :: fix j v := by rw [fix_cons, hq, hc]
        have hfl := fix_length j v
        have hbig : ¬ 9223372036854775807 < 1 + j := by omega
        replace hfc := show Hid _ from hfc
        replace hq10 := show Hid _ from hq10
        replace hq := show Hid _ from hq
        have e2 : IntKind.u8.wrap 48 = (c.toNat : Int) := by rw [hc]; rfl
        replace hc := show Hid _ from hc
        go_wp2
        go_roundw
        case rel => exact ⟨j + 1, by omega, by rw [hq10.out]; go_num, by rw [hfc.out], Or.inl (by omega), (hx.out.alloc _ _)⟩
        case measure => simp [RowKit.intOf, strSize_string, Lib.size_mk, hfl]; omega
      · have hleI : ¬ (j : Int) < (least : Int) := by omega
        have hfl := fix_length j v
        go_wp2
        go_ret
        refine ⟨⟨j, ⟨by omega, hq, ?_⟩, rfl⟩, hx.out⟩
        rcases hor with k | k
        · left; omega
        · right; exact k
theorem rdigits_dec (v : Nat) (w : World) (hv : v < 18446744073709551616) :
    Calls Tryd.prog 33 #[.int .u64 (v : Int), .int .i64 1] w fun e w' => e = .returned (.string ⟨(decDigits v).toArray⟩) ∧ Ext w w' := by
  refine (rdigits_c v 1 w hv (by omega)).mono ?_
  rintro e w' ⟨⟨j, hj, rfl⟩, hx⟩
  exact ⟨by rw [ends_dec v j hj], hx⟩
theorem rdigits_fix (v k : Nat) (w : World) (hk : k ≤ 7) (hv : v < 10 ^ k) :
    Calls Tryd.prog 33 #[.int .u64 (v : Int), .int .i64 (k : Int)] w fun e w' => e = .returned (.string ⟨(fix k v).toArray⟩) ∧ Ext w w' := by
  have hv2 : v < 18446744073709551616 := Nat.lt_of_lt_of_le hv (Nat.le_trans (Nat.pow_le_pow_right (n := 10) (by omega) hk) (by decide))
  refine (rdigits_c v k w hv2 (by omega)).mono ?_
  rintro e w' ⟨⟨j, hj, rfl⟩, hx⟩
  exact ⟨by rw [ends_fix v k j hv hj], hx⟩
end Go.Proofs.YtpmgbagnaaahoabDoor
