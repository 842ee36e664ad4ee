/- Contracts that the proof of this law leans on: no statement of the seat is proved here. -/
import Derived.Laws.Bits64b
import Derived.Laws.IdiomStrings
import Derived.Lib.ConvBytes
import Derived.Lib.CutLaws
import Derived.Lib.IndexMore
import Derived.Lib.ItoaLen
import Derived.Lib.ItoaMem
import Derived.Lib.Mul64
import Derived.Lib.Repeat
import Derived.Lib.SlTrimSet
import Derived.Test.YtaafagggjnemgaaGreatDoorRows
import Derived.Test.YtaafagggjnemgaaGreatDoorQ0
import Derived.Test.YtaafagggjnemgaaGreatDoorQ1

namespace Go.Proofs.YtaafagggjnemgaaGreatDoor.L2
open Go.RowKit
end Go.Proofs.YtaafagggjnemgaaGreatDoor.L2

namespace Go.Proofs.YtaafagggjnemgaaGreatDoor.L2
open Go.RowKit
end Go.Proofs.YtaafagggjnemgaaGreatDoor.L2

namespace Go.Proofs.YtaafagggjnemgaaGreatDoor.L2
namespace U
end U
end Go.Proofs.YtaafagggjnemgaaGreatDoor.L2

namespace Go.Proofs.YtaafagggjnemgaaGreatDoor.L2
open Go.RowKit
set_option linter.unusedVariables false
/-- An int64. -/
def I64 (a : Int) : Prop := -9223372036854775808 ≤ a ∧ a ≤ 9223372036854775807
end Go.Proofs.YtaafagggjnemgaaGreatDoor.L2

namespace Go.Proofs.YtaafagggjnemgaaGreatDoor.L2
open Go.RowKit
set_option linter.unusedVariables false
end Go.Proofs.YtaafagggjnemgaaGreatDoor.L2

namespace Go.Proofs.YtaafagggjnemgaaGreatDoor.L2
open Go.Lib
theorem rev_ind {α : Type} {P : List α → Prop} (h0 : P []) (h1 : ∀ t c, P t → P (t ++ [c])) (l : List α) : P l := by
  have : ∀ m : List α, P m.reverse := by
    intro m
    induction m with
    | nil => exact h0
    | cons x t ih => rw [List.reverse_cons]; exact h1 _ _ ih
  simpa using this l.reverse
def dgt (n : Nat) : UInt8 := UInt8.ofNat (48 + n % 10)
def isD (c : UInt8) : Bool := decide (48 ≤ c.toNat) && decide (c.toNat ≤ 57)
def valL (l : List UInt8) : Nat := l.foldl (fun a c => 10 * a + (c.toNat - 48)) 0
def fix : Nat → Nat → List UInt8
  | 0, _ => []
  | k + 1, m => fix k (m / 10) ++ [dgt m]
def digs : List UInt8 := [48, 49, 50, 51, 52, 53, 54, 55, 56, 57]
theorem dgt_toNat (n : Nat) : (dgt n).toNat = 48 + n % 10 := by
  unfold dgt; simp; omega
theorem isD_dgt (n : Nat) : isD (dgt n) = true := by
  unfold isD; rw [dgt_toNat]; simp; omega
theorem isD_range {c : UInt8} (h : isD c = true) : 48 ≤ c.toNat ∧ c.toNat ≤ 57 := by
  unfold isD at h; simpa using h
theorem dgt_of {c : UInt8} (h : isD c = true) (n : Nat) (hn : n % 10 = c.toNat - 48) : dgt n = c := by
  have := isD_range h
  apply UInt8.toNat_inj.mp
  rw [dgt_toNat]; omega
theorem digs_contains (c : UInt8) : digs.contains c = isD c := by
  have : ∀ n : Fin 256, digs.contains (UInt8.ofNat n.val) = isD (UInt8.ofNat n.val) := by decide +kernel
  have := this ⟨c.toNat, UInt8.toNat_lt c⟩
  simpa using this
theorem valL_nil : valL [] = 0 := rfl
theorem valL_snoc (l : List UInt8) (c : UInt8) : valL (l ++ [c]) = 10 * valL l + (c.toNat - 48) := by
  simp [valL]
theorem foldl_val (l : List UInt8) : ∀ a, l.foldl (fun a c => 10 * a + (c.toNat - 48)) a = a * 10 ^ l.length + valL l := by
  induction l with
  | nil => intro a; simp [valL]
  | cons x t ih =>
    intro a
    have h1 := ih (10 * a + (x.toNat - 48))
    have h2 := ih (10 * 0 + (x.toNat - 48))
    simp only [valL, List.foldl_cons, List.length_cons] at *
    rw [h1, h2, Nat.pow_succ]
    simp only [Nat.mul_zero, Nat.zero_add, Nat.add_mul]
    have : 10 * a * 10 ^ t.length = a * (10 ^ t.length * 10) := by
      rw [Nat.mul_comm 10 a, Nat.mul_assoc, Nat.mul_comm 10]
    omega
theorem valL_append (a b : List UInt8) : valL (a ++ b) = valL a * 10 ^ b.length + valL b := by
  have := foldl_val b (valL a)
  rw [← this]; simp [valL]
theorem valL_cons (x : UInt8) (t : List UInt8) : valL (x :: t) = (x.toNat - 48) * 10 ^ t.length + valL t := by
  have := valL_append [x] t
  simpa [valL] using this
theorem fix_length (k : Nat) : ∀ m, (fix k m).length = k := by
  induction k with
  | zero => intro m; rfl
  | succ k ih => intro m; simp [fix, ih]
theorem fix_all (k : Nat) : ∀ m, (fix k m).all isD = true := by
  induction k with
  | zero => intro m; rfl
  | succ k ih => intro m; simp only [fix, List.all_append, ih, List.all_cons, List.all_nil, isD_dgt, Bool.and_self]
theorem valL_fix (k : Nat) : ∀ m, valL (fix k m) = m % 10 ^ k := by
  induction k with
  | zero => intro m; simp [fix, valL, Nat.mod_one]
  | succ k ih =>
    intro m
    rw [fix, valL_snoc, ih, dgt_toNat, Nat.pow_succ, Nat.mul_comm (10 ^ k) 10, Nat.mod_mul]
    omega
theorem decDigits_small {u : Nat} (h : u < 10) : decDigits u = [dgt u] := by
  rw [decDigits, dif_pos h]; unfold dgt; rw [Nat.mod_eq_of_lt h]
theorem decDigits_big {u : Nat} (h : ¬ u < 10) : decDigits u = decDigits (u / 10) ++ [dgt u] := by
  rw [decDigits, dif_neg h]; rfl
theorem decDigits_all (u : Nat) : (decDigits u).all isD = true := by
  induction u using Nat.strongRecOn with
  | ind u ih =>
    by_cases h : u < 10
    · rw [decDigits_small h]; simp only [List.all_cons, List.all_nil, isD_dgt, Bool.and_self]
    · rw [decDigits_big h, List.all_append, ih _ (by omega)]; simp only [List.all_cons, List.all_nil, isD_dgt, Bool.and_self]
theorem valL_decDigits (u : Nat) : valL (decDigits u) = u := by
  induction u using Nat.strongRecOn with
  | ind u ih =>
    by_cases h : u < 10
    · rw [decDigits_small h]; simp [valL, dgt_toNat]; omega
    · rw [decDigits_big h, valL_snoc, ih _ (by omega), dgt_toNat]; omega
theorem decDigits_ne (u : Nat) : decDigits u ≠ [] := by
  by_cases h : u < 10
  · rw [decDigits_small h]; simp
  · rw [decDigits_big h]; simp
/-- A number's digits have no nought ahead, but for 0 itself. -/
theorem decDigits_head (u : Nat) : decDigits u = [48] ∨ (decDigits u).head? ≠ some 48 := by
  induction u using Nat.strongRecOn with
  | ind u ih =>
    by_cases h : u < 10
    · rw [decDigits_small h]
      by_cases h0 : u = 0
      · left; subst h0; rfl
      · right
        intro e
        have : dgt u = 48 := by simpa using e
        have := congrArg UInt8.toNat this
        rw [dgt_toNat] at this
        have h48 : (48 : UInt8).toNat = 48 := rfl
        omega
    · rw [decDigits_big h]
      right
      rcases ih (u / 10) (by omega) with k | k
      · have := congrArg valL k
        rw [valL_decDigits] at this
        have : valL [48] = 0 := rfl
        omega
      · rw [List.head?_append]; cases hd : decDigits (u / 10) with
        | nil => exact absurd hd (decDigits_ne _)
        | cons a b => rw [hd] at k; simpa using k
/-- So many noughts ahead that there are as many digits at least. -/
def pad (n : Nat) (l : List UInt8) : List UInt8 := List.replicate (n - l.length) 48 ++ l
theorem pad_snoc (n : Nat) (l : List UInt8) (c : UInt8) : pad (n + 1) (l ++ [c]) = pad n l ++ [c] := by
  simp [pad]
theorem pad_decDigits (k : Nat) : ∀ u, pad (k + 1) (decDigits u) = decDigits (u / 10 ^ k) ++ fix k u := by
  induction k with
  | zero =>
    intro u
    have : 1 ≤ (decDigits u).length := by
      have := decDigits_ne u
      cases h : decDigits u with
      | nil => exact absurd h this
      | cons a b => simp
    simp [pad, fix, Nat.sub_eq_zero_of_le this]
  | succ k ih =>
    intro u
    have key : pad (k + 2) (decDigits u) = pad (k + 1) (decDigits (u / 10)) ++ [dgt u] := by
      by_cases h : u < 10
      · rw [decDigits_small h, show u / 10 = 0 by omega, decDigits_small (u := 0) (by omega)]
        simp only [pad, List.length_cons, List.length_nil]
        rw [show k + 2 - (0 + 1) = (k + 1 - (0 + 1)) + 1 by omega, List.replicate_succ']
        rfl
      · rw [decDigits_big h]; exact pad_snoc _ _ _
    rw [key, ih, fix, Nat.pow_succ, Nat.mul_comm (10 ^ k) 10, ← Nat.div_div_eq_div_mul]
    simp
/-- Digits with no nought ahead are those of their number. -/
theorem decDigits_valL (l : List UInt8) (hne : l ≠ []) (h : l.all isD = true) (h0 : l = [48] ∨ l.head? ≠ some 48) : decDigits (valL l) = l := by
  revert hne h h0
  refine rev_ind (P := fun l => l ≠ [] → l.all isD = true → (l = [48] ∨ l.head? ≠ some 48) → decDigits (valL l) = l) ?_ ?_ l
  · intro hne; exact absurd rfl hne
  · intro t c ih hne h h0
    rw [valL_snoc]
    rw [List.all_append, Bool.and_eq_true] at h
    have hc : isD c = true := by simpa using h.2
    have hr := isD_range hc
    cases t with
    | nil =>
      simp only [valL_nil, Nat.mul_zero, Nat.zero_add, List.nil_append]
      rw [decDigits_small (by omega), dgt_of hc _ (by omega)]
    | cons a b =>
      have hh : (a :: b).head? ≠ some 48 := by
        rcases h0 with k | k
        · simp at k
        · simpa using k
      have ih := ih (by simp) h.1 (Or.inr hh)
      have ha : isD a = true := by have := h.1; simp at this; exact this.1
      have hpos : 1 ≤ valL (a :: b) := by
        rw [valL_cons]
        have : 1 ≤ a.toNat - 48 := by
          have := isD_range ha
          have : a.toNat ≠ 48 := fun e => hh (by simp; exact UInt8.toNat_inj.mp e)
          omega
        have : 1 * 1 ≤ (a.toNat - 48) * 10 ^ b.length := Nat.mul_le_mul this (Nat.pos_of_ne_zero (by simp))
        omega
      rw [decDigits_big (by omega), show (10 * valL (a :: b) + (c.toNat - 48)) / 10 = valL (a :: b) by omega, ih, dgt_of hc _ (by omega)]
theorem all_mem {l : List UInt8} (h : l.all isD = true) {c : UInt8} (hc : c ∈ l) : isD c = true := List.all_eq_true.mp h c hc
end Go.Proofs.YtaafagggjnemgaaGreatDoor.L2

namespace Go.Proofs.YtaafagggjnemgaaGreatDoor.L2
open Go.RowKit Go.Lib
set_option linter.unusedVariables false
/-- What the walks ask of the library's own variables. -/
def Env (w : World) : Prop := (∃ m, w.cell? ⟨8, 0, none⟩ = some (.int .i64 m)) ∧ Lib.TabIs Tryz.prog w "internal/strconv.uint64pow10" .u64 Lib.pow10Tab
theorem Env.ext {w w' : World} (h : Env w) (hx : Ext w w') : Env w' := by
  obtain ⟨⟨m, hm⟩, ht⟩ := h
  refine ⟨⟨m, by rw [hx.cell _ 0 (lt_of_cell hm)]; exact hm⟩, ?_⟩
  unfold Lib.TabIs World.var? at *
  cases hg : Tryz.prog.globalNamed "internal/strconv.uint64pow10" with
  | none => simp [hg] at ht
  | some g =>
    simp only [hg, Option.bind_some] at ht ⊢
    have hlt : g < w.heap.size := by
      rcases Nat.lt_or_ge g w.heap.size with h' | h'
      · exact h'
      · rw [Array.getElem?_eq_none h'] at ht; simp at ht
    rw [hx.below.block g hlt]
    exact ht
theorem cutPrefix_c (l p : List UInt8) (w : World) :
    Calls Tryz.prog 132 #[.string ⟨l.toArray⟩, .string ⟨p.toArray⟩] w fun e w' => e = .returned (.tuple #[.string ⟨(trimPrefix l p).toArray⟩, .bool (hasPrefix l p)]) ∧ w' = w :=
  Tryz.strings_CutPrefix ⟨l.toArray⟩ ⟨p.toArray⟩ w
def cutL (l : List UInt8) : List UInt8 := if hasPrefix l [45] then [45] else []
theorem cutSign_c (l : List UInt8) (w : World) :
    Calls Tryz.prog 116 #[.string ⟨l.toArray⟩] w fun e w' => e = .returned (.tuple #[.string ⟨(cutL l).toArray⟩, .string ⟨(trimPrefix l [45]).toArray⟩]) ∧ w' = w := by
  unfold cutL
  cases h : hasPrefix l [45]
  · have h2 : trimPrefix l [45] = l := by unfold trimPrefix; rw [h]; rfl
    rw [h2]
    go_enter Tryz.func116, Tryz.ntmps116
    go_wp2_with fail
    refine (cutPrefix_c _ _ _).mono ?_
    rintro e w1 ⟨rfl, rfl⟩
    rw [h]
    go_wp2
    go_ret2
    exact ⟨rfl, rfl⟩
  · go_enter Tryz.func116, Tryz.ntmps116
    go_wp2_with fail
    refine (cutPrefix_c _ _ _).mono ?_
    rintro e w1 ⟨rfl, rfl⟩
    rw [h]
    go_wp2
    go_ret2
    exact ⟨rfl, rfl⟩
/-- n noughts. -/
def zeros (n : Nat) : List UInt8 := List.replicate n 48
@[go_sem] theorem app_mk (a b : List UInt8) : (⟨a.toArray⟩ : ByteArray) ++ (⟨b.toArray⟩ : ByteArray) = ⟨(a ++ b).toArray⟩ := by
  apply ByteArray.ext
  simp
theorem noughts_c (n : Int) (w : World) (hn : n ≤ 100) (hn0 : -100 ≤ n) :
    Calls Tryz.prog 118 #[.int .i64 n] w fun e w' => e = .returned (.string ⟨(zeros n.toNat).toArray⟩) ∧ Ext w w' := by
  have hr : ∀ (c : Nat) (w : World), c ≤ 100 → Calls Tryz.prog 133 #[.string ⟨#[48]⟩, .int .i64 c] w fun e w' => e = .returned (.string ⟨(zeros c).toArray⟩) ∧ Ext w w' := by
    intro c w hc
    refine (Tryz.strings_Repeat ⟨#[48]⟩ c w (by omega) (by simp [ByteArray.size]; omega)).mono ?_
    rintro e w' ⟨rfl, hb⟩
    refine ⟨?_, ⟨hb⟩⟩
    have := Lib.repeatL_replicate 48 1 c
    rw [Nat.mul_one] at this
    unfold zeros
    rw [← this]; rfl
  have hr := show Hid _ from hr
  by_cases h : 0 ≤ n
  · obtain ⟨c, rfl⟩ := Int.eq_ofNat_of_zero_le h
    go_enter Tryz.func118, Tryz.ntmps118
    go_wp2_with fail
    refine (hr.out c _ (by omega)).mono ?_
    rintro e w1 ⟨rfl, hx⟩
    go_wp2
    go_ret
    exact ⟨rfl, hx⟩
  · have e0 : n.toNat = 0 := by omega
    rw [e0]
    go_enter Tryz.func118, Tryz.ntmps118
    go_wp2_with fail
    rw [show max n 0 = 0 by omega]
    refine (hr.out 0 _ (by omega)).mono ?_
    rintro e w1 ⟨rfl, hx⟩
    go_wp2
    go_ret
    exact ⟨rfl, hx⟩
def signL (v : Int) : List UInt8 := if v < 0 then [45] else []
theorem itoa_sign (v : Int) : itoa v = signL v ++ decDigits v.natAbs := by
  unfold itoa signL
  split
  · rfl
  · rw [show v.toNat = v.natAbs by omega]; rfl
theorem digit_not {l : List UInt8} (h : l.all isD = true) (c : UInt8) (hc : isD c = false) (t : List UInt8) (hl : l ≠ []) : hasPrefix (l ++ t) [c] = false := by
  cases l with
  | nil => exact absurd rfl hl
  | cons a b =>
    have ha : isD a = true := by simp at h; exact h.1
    have : a ≠ c := fun e => by rw [e, hc] at ha; cases ha
    simp [hasPrefix, List.isPrefixOf]
    exact fun e => absurd e.symm this
theorem cut_itoa (v : Int) : cutL (itoa v) = signL v ∧ trimPrefix (itoa v) [45] = decDigits v.natAbs := by
  rw [itoa_sign]
  unfold cutL trimPrefix signL
  split
  · simp [hasPrefix, List.isPrefixOf]
  · have := digit_not (decDigits_all v.natAbs) 45 (by decide) [] (decDigits_ne _)
    rw [List.append_nil] at this
    simp [this]
theorem formatInt_c (v : Int) (w : World) (h : I64 v) (he : Hid (Env w)) :
    Calls Tryz.prog 117 #[.int .i64 v, .int .i64 10] w fun e w' => e = .returned (.string ⟨(itoa v).toArray⟩) ∧ Ext w w' := by
  refine (Tryz.strconv_FormatInt_10 v h.1 h.2 w he.out.2).mono ?_
  rintro e w' ⟨rfl, k, os, rfl⟩
  exact ⟨rfl, ((Ext.refl w).drewN k).grow os⟩
theorem split_of (v p : Int) (k : Nat) (W P : List UInt8) (w : World) (h : I64 v) (he : Hid (Env w)) (hk : (k : Int) = p) (hk2 : k ≤ 7)
    (hp : zeros (k + 1 - (decDigits v.natAbs).length) ++ decDigits v.natAbs = W ++ P) (hP : P.length = k) :
    Calls Tryz.prog 109 #[.int .i64 v, .int .i64 p] w fun e w' => e = .returned (.tuple #[.string ⟨(signL v).toArray⟩, .string ⟨W.toArray⟩, .string ⟨P.toArray⟩]) ∧ Ext w w' := by
  have hfi := show Hid _ from formatInt_c v w h he
  obtain ⟨c1, c2⟩ := cut_itoa v
  have hlen : (decDigits v.natAbs).length ≤ 21 := by
    have h1 := Lib.itoa_length_le v h.1 h.2
    rw [itoa_sign, List.length_append] at h1
    omega
  have hWl := congrArg List.length hp
  simp only [List.length_append, zeros, List.length_replicate] at hWl
  have hp := show Hid _ from hp
  have hWl := show Hid _ from hWl
  have hP := show Hid _ from hP
  have hk := show Hid _ from hk
  generalize hd : decDigits v.natAbs = D at *
  clear hd
  have hw1 : wrap64 (p + 1) = p + 1 := by have := hk.out; unfold wrap64; omega
  have hw : wrap64 (p + 1 - (D.length : Int)) = p + 1 - (D.length : Int) := by have := hk.out; unfold wrap64; omega
  go_enter Tryz.func109, Tryz.ntmps109
  go_wp2_with fail
  refine Calls.mono hfi.out ?_
  rintro e w1 ⟨rfl, hx⟩
  go_wp2_with fail
  refine (cutSign_c _ _).mono ?_
  rintro e w2 ⟨rfl, rfl⟩
  rw [c1, c2]
  clear c1 c2 hfi he
  go_wp2_with fail
  refine (noughts_c _ _ (by have := hk.out; omega) (by have := hk.out; omega)).mono ?_
  rintro e w3 ⟨rfl, hx3⟩
  clear hw hw1
  have e3 : (p + 1 - (D.length : Int)).toNat = k + 1 - D.length := by have := hk.out; omega
  have hp := hp.out
  have hwp : wrap64 ((W.length : Int) + (P.length : Int) - p) = (W.length : Int) := by have := hk.out; have := hP.out; have := hWl.out; unfold wrap64; omega
  have hbig : ¬ 9223372036854775807 < (zeros (k + 1 - D.length)).length + D.length := by
    unfold zeros; rw [List.length_replicate]; omega
  rw [e3]
  go_wp2_with fail
  clear hbig hwp e3
  have hwl : W.length ≤ 28 := by have := hWl.out; omega
  have hs1 : (W ++ P).length = W.length + P.length := List.length_append
  have b1 : (0 : Int) ≤ (W.length : Int) := by omega
  have b2 : (W.length : Int) ≤ ((W ++ P).length : Int) := by omega
  go_region
  have x1 : (⟨(W ++ P).toArray⟩ : ByteArray).extract 0 W.length = ⟨W.toArray⟩ := by rw [Lib.extract_mk]; simp
  have x2 : (⟨(W ++ P).toArray⟩ : ByteArray).extract W.length (W.length + k) = ⟨P.toArray⟩ := by
    rw [Lib.extract_mk, ← hP.out]; simp
  rw [x1, x2]
  clear x1 x2
  go_wp2
  exact bodyPost_ret (v := .tuple #[.string ⟨(signL v).toArray⟩, .string ⟨W.toArray⟩, .string ⟨P.toArray⟩]) (by simp [results, Tryz.results109, go_sem]) rfl ⟨rfl, (hx.trans hx3).drew⟩
theorem split_2 (v : Int) (w : World) (h : I64 v) (he : Hid (Env w)) :
    Calls Tryz.prog 109 #[.int .i64 v, .int .i64 2] w fun e w' => e = .returned (.tuple #[.string ⟨(signL v).toArray⟩, .string ⟨(decDigits (v.natAbs / 100)).toArray⟩, .string ⟨(fix 2 v.natAbs).toArray⟩]) ∧ Ext w w' :=
  split_of v 2 2 _ _ w h he rfl (by omega) (pad_decDigits 2 v.natAbs) (fix_length _ _)
theorem split_7 (v : Int) (w : World) (h : I64 v) (he : Hid (Env w)) :
    Calls Tryz.prog 109 #[.int .i64 v, .int .i64 7] w fun e w' => e = .returned (.tuple #[.string ⟨(signL v).toArray⟩, .string ⟨(decDigits (v.natAbs / 10000000)).toArray⟩, .string ⟨(fix 7 v.natAbs).toArray⟩]) ∧ Ext w w' :=
  split_of v 7 7 _ _ w h he rfl (by omega) (pad_decDigits 7 v.natAbs) (fix_length _ _)
def moneyL (v : Int) : List UInt8 := signL v ++ (decDigits (v.natAbs / 100) ++ 46 :: fix 2 v.natAbs)
theorem dec_len (v : Int) (h : I64 v) (k : Nat) : (signL v).length ≤ 1 ∧ (decDigits (v.natAbs / k)).length ≤ 20 := by
  constructor
  · unfold signL; split <;> simp
  · rw [Lib.decDigits_length]
    apply Lib.nDigits_le20
    have := Nat.div_le_self v.natAbs k
    have := h.1; have := h.2; omega
theorem money_c (v : Int) (w : World) (h : I64 v) (he : Hid (Env w)) :
    Calls Tryz.prog 99 #[.int .i64 v] w fun e w' => e = .returned (.string ⟨(moneyL v).toArray⟩) ∧ Ext w w' := by
  have hs := show Hid _ from split_2 v w h he
  have hl := dec_len v h 100
  have hl2 := fix_length 2 v.natAbs
  unfold moneyL
  generalize signL v = A at *
  generalize decDigits (v.natAbs / 100) = B at *
  generalize fix 2 v.natAbs = C at *
  obtain ⟨hl0, hl1⟩ := hl
  have f1 : ¬ 9223372036854775807 < A.length + B.length := by omega
  have f2 : ¬ 9223372036854775807 < A.length + B.length + 1 := by omega
  have f3 : ¬ 9223372036854775807 < A.length + (B.length + (1 + 2)) := by omega
  go_enter Tryz.func99, Tryz.ntmps99
  go_wp2_with fail
  refine Calls.mono hs.out ?_
  rintro e w1 ⟨rfl, hx⟩
  go_wp2
  go_ret
  exact ⟨rfl, hx⟩
def tailL (u : Nat) : List UInt8 := trimRightB (fix 7 u) 48
def dotL (p : List UInt8) : List UInt8 := if p.isEmpty then [] else 46 :: p
def rateL (v : Int) : List UInt8 := signL v ++ (decDigits (v.natAbs / 10000000) ++ (dotL (tailL v.natAbs) ++ [37]))
theorem trimRight_c (l : List UInt8) (w : World) (hl : l.length ≤ 20000) :
    Calls Tryz.prog 110 #[.string ⟨l.toArray⟩, .string ⟨#[48]⟩] w fun e w' => e = .returned (.string ⟨(trimRightB l 48).toArray⟩) ∧ w' = w :=
  Tryz.strings_TrimRight ⟨l.toArray⟩ 48 (by decide) w (by rw [Lib.size_mk]; omega)
theorem trimRightB_le (l : List UInt8) (c : UInt8) : (trimRightB l c).length ≤ l.length := by
  unfold trimRightB
  rw [List.length_reverse]
  have : ∀ m : List UInt8, (m.dropWhile (· == c)).length ≤ m.length := by
    intro m
    induction m with
    | nil => simp
    | cons a b ih =>
      simp only [List.dropWhile]
      split
      · simp; omega
      · simp
  have := this l.reverse
  simpa using this
theorem rate_c (v : Int) (w : World) (h : I64 v) (he : Hid (Env w)) :
    Calls Tryz.prog 98 #[.int .i64 v] w fun e w' => e = .returned (.string ⟨(rateL v).toArray⟩) ∧ Ext w w' := by
  have hs := show Hid _ from split_7 v w h he
  have hl := dec_len v h 10000000
  have hl2 := fix_length 7 v.natAbs
  have hl3 := trimRightB_le (fix 7 v.natAbs) 48
  unfold rateL tailL dotL
  generalize signL v = A at *
  generalize decDigits (v.natAbs / 10000000) = B at *
  generalize fix 7 v.natAbs = C at *
  obtain ⟨hl0, hl1⟩ := hl
  cases hd : trimRightB C 48 with
  | nil =>
    simp only [List.isEmpty_nil, if_true, List.nil_append]
    have f1 : ¬ 9223372036854775807 < A.length + B.length := by omega
    have f2 : ¬ 9223372036854775807 < A.length + B.length + 1 := by omega
    go_enter Tryz.func98, Tryz.ntmps98
    go_wp2_with fail
    refine Calls.mono hs.out ?_
    rintro e w1 ⟨rfl, hx⟩
    clear hs
    go_wp2_with fail
    refine (trimRight_c _ _ (by omega)).mono ?_
    rintro e w1 ⟨rfl, rfl⟩
    rw [hd]
    go_wp2
    go_ret
    exact ⟨rfl, hx⟩
  | cons x y =>
    simp only [List.isEmpty_cons, Bool.false_eq_true, if_false, List.cons_append]
    rw [hd, List.length_cons] at hl3
    have f0 : ¬ 9223372036854775807 < 1 + (y.length + 1) := by omega
    have f1 : ¬ 9223372036854775807 < A.length + B.length := by omega
    have f2 : ¬ 9223372036854775807 < A.length + (B.length + (y.length + 1 + 1)) := by omega
    have f3 : ¬ 9223372036854775807 < A.length + (B.length + (y.length + 1 + 1)) + 1 := by omega
    go_enter Tryz.func98, Tryz.ntmps98
    go_wp2_with fail
    refine Calls.mono hs.out ?_
    rintro e w1 ⟨rfl, hx⟩
    clear hs
    go_wp2_with fail
    refine (trimRight_c _ _ (by omega)).mono ?_
    rintro e w1 ⟨rfl, rfl⟩
    rw [hd]
    go_wp2
    go_ret
    exact ⟨rfl, hx⟩
end Go.Proofs.YtaafagggjnemgaaGreatDoor.L2

namespace Go.Proofs.YtaafagggjnemgaaGreatDoor.L2
open Go.RowKit Go.Lib
set_option linter.unusedVariables false
def digOnly (l : List UInt8) : Bool := !l.isEmpty && l.all isD
def headOk (l : List UInt8) : Bool := l == [48] || l.head? != some 48
def okWhole (l : List UInt8) (m : Nat) : Bool := decide (l.length ≤ m) && digOnly l && headOk l
@[go_sem] theorem idx0 (a : UInt8) (b : List UInt8) (h : 0 < (⟨(a :: b).toArray⟩ : ByteArray).size) : (⟨(a :: b).toArray⟩ : ByteArray)[0]'h = a := rfl
end Go.Proofs.YtaafagggjnemgaaGreatDoor.L2

namespace Go.Proofs.YtaafagggjnemgaaGreatDoor.L2
open Go.RowKit Go.Lib
set_option linter.unusedVariables false
/-- Around the first point. -/
def cutD : List UInt8 → List UInt8 × List UInt8 × Bool
  | [] => ([], [], false)
  | x :: t => if x = 46 then ([], t, true) else (x :: (cutD t).1, (cutD t).2.1, (cutD t).2.2)
theorem cutD_none : ∀ l : List UInt8, (46 : UInt8) ∉ l → cutD l = (l, [], false)
  | [], _ => rfl
  | x :: t, h => by
    have h1 : x ≠ 46 := fun e => h (by rw [e]; simp)
    have h2 : (46 : UInt8) ∉ t := fun e => h (List.mem_cons_of_mem _ e)
    simp [cutD, h1, cutD_none t h2]
theorem cutD_hit : ∀ (a b : List UInt8), (46 : UInt8) ∉ a → cutD (a ++ 46 :: b) = (a, b, true)
  | [], b, _ => by simp [cutD]
  | x :: t, b, h => by
    have h1 : x ≠ 46 := fun e => h (by rw [e]; simp)
    have h2 : (46 : UInt8) ∉ t := fun e => h (List.mem_cons_of_mem _ e)
    simp [cutD, h1, cutD_hit t b h2]
theorem dot_not {l : List UInt8} (h : l.all isD = true) : (46 : UInt8) ∉ l := fun e => by
  have := all_mem h e
  revert this; decide
/-- What is taken of the digits ahead of the point, of those behind it, and of a sign. -/
def sgnV (neg : Bool) (n : Nat) : Int × Int := if neg then (if n = 0 then (0, 4) else (-(n : Int), 0)) else ((n : Int), 0)
def takeM (l : List UInt8) : Int × Int :=
  let c := cutD (trimPrefix l [45])
  if okWhole c.1 20 && (decide (c.2.1.length = 2) && digOnly c.2.1) then
    if valL (c.1 ++ c.2.1) ≤ 1000000000000000 then sgnV (hasPrefix l [45]) (valL (c.1 ++ c.2.1)) else (0, 3)
  else (0, 4)
def takeR (l : List UInt8) : Int × Int :=
  let p := trimSuffix l [37]
  let c := cutD (trimPrefix p [45])
  if hasSuffix l [37] && okWhole c.1 4 && (!c.2.2 || (decide (c.2.1.length ≤ 7) && digOnly c.2.1 && !hasSuffix c.2.1 [48])) then
    let n := valL (c.1 ++ (c.2.1 ++ zeros (7 - c.2.1.length)))
    if n ≤ 10000000000 then sgnV (hasPrefix p [45]) n else (0, 4)
  else (0, 4)
theorem okWhole_spec (W : List UInt8) (m : Nat) (h : okWhole W m = true) : W.length ≤ m ∧ W ≠ [] ∧ W.all isD = true ∧ (W = [48] ∨ W.head? ≠ some 48) := by
  unfold okWhole digOnly headOk at h
  simp only [Bool.and_eq_true, decide_eq_true_eq, Bool.or_eq_true, beq_iff_eq, bne_iff_ne, Bool.not_eq_true'] at h
  obtain ⟨⟨h1, h2, h3⟩, h4⟩ := h
  exact ⟨h1, (by intro e; rw [e] at h2; cases h2), h3, h4⟩
theorem okWhole_dec (u m : Nat) (h : (decDigits u).length ≤ m) : okWhole (decDigits u) m = true := by
  unfold okWhole digOnly headOk
  have h1 := decDigits_ne u
  have h2 := decDigits_all u
  have h3 := decDigits_head u
  simp only [Bool.and_eq_true, decide_eq_true_eq, Bool.or_eq_true, beq_iff_eq, bne_iff_ne, Bool.not_eq_true']
  exact ⟨⟨h, by cases hd : decDigits u with
    | nil => exact absurd hd h1
    | cons a b => rfl, h2⟩, h3⟩
theorem zeros_len (k : Nat) : (zeros k).length = k := List.length_replicate
/-- A sign, taken off again. -/
theorem trim_sign (v : Int) (t : List UInt8) (ht : hasPrefix t [45] = false) : trimPrefix (signL v ++ t) [45] = t ∧ hasPrefix (signL v ++ t) [45] = decide (v < 0) := by
  unfold signL trimPrefix
  by_cases h : v < 0
  · simp [h, hasPrefix, List.isPrefixOf]
  · simp [h, ht]
theorem sgnV_of (v : Int) (n : Nat) (h : v.natAbs = n) : sgnV (decide (v < 0)) n = (v, 0) := by
  unfold sgnV
  by_cases hv : v < 0
  · simp only [hv, decide_true, if_true]
    rw [if_neg (by omega)]
    exact Prod.ext (by show -(n : Int) = v; omega) rfl
  · simp only [hv, decide_false, Bool.false_eq_true, if_false]
    exact Prod.ext (by show (n : Int) = v; omega) rfl
theorem take_money (v : Int) (h : I64 v) : takeM (moneyL v) = if v.natAbs ≤ 1000000000000000 then (v, 0) else (0, 3) := by
  have hlen := (dec_len v h 100).2
  unfold takeM moneyL
  obtain ⟨e1, e2⟩ := trim_sign v (decDigits (v.natAbs / 100) ++ 46 :: fix 2 v.natAbs) (digit_not (decDigits_all _) 45 (by decide) _ (decDigits_ne _))
  rw [e1, e2, cutD_hit _ _ (dot_not (decDigits_all _))]
  have hd : digOnly (fix 2 v.natAbs) = true := by
    unfold digOnly
    rw [fix_all]
    rfl
  have hval : valL (decDigits (v.natAbs / 100) ++ fix 2 v.natAbs) = v.natAbs := by
    rw [valL_append, valL_decDigits, valL_fix, fix_length]; omega
  simp only [okWhole_dec _ 20 hlen, fix_length, hd, decide_true, Bool.and_self, if_true, hval]
  rw [sgnV_of v _ rfl]
/-- What is trimmed off behind is noughts; what is left has none behind. -/
theorem trimRightB_snoc (l : List UInt8) (x : UInt8) : trimRightB (l ++ [x]) 48 = if x = 48 then trimRightB l 48 else l ++ [x] := by
  unfold trimRightB
  rw [List.reverse_append]
  by_cases h : x = 48
  · subst h; simp
  · have : (x == 48) = false := by simpa using h
    simp [this, h]
theorem hasSuffix_snoc (l : List UInt8) (x c : UInt8) : hasSuffix (l ++ [x]) [c] = decide (x = c) := by
  rw [← hasSuffix_of_drop]
  by_cases h : x = c
  · subst h; simp
  · simp [h]
theorem trim_spec : ∀ l : List UInt8, ∃ k, l = trimRightB l 48 ++ zeros k ∧ hasSuffix (trimRightB l 48) [48] = false := by
  intro l
  refine rev_ind (P := fun l => ∃ k, l = trimRightB l 48 ++ zeros k ∧ hasSuffix (trimRightB l 48) [48] = false) ?_ ?_ l
  · exact ⟨0, rfl, rfl⟩
  · intro t x ⟨k, h1, h2⟩
    rw [trimRightB_snoc]
    by_cases h : x = 48
    · subst h
      refine ⟨k + 1, ?_, by simpa using h2⟩
      simp only [if_true]
      unfold zeros at *
      rw [List.replicate_succ', ← List.append_assoc, ← h1]
    · refine ⟨0, by simp [h, zeros], ?_⟩
      simp only [h, if_false]
      rw [hasSuffix_snoc]; simpa using h
theorem trim_tail (l : List UInt8) (x : UInt8) : trimSuffix (l ++ [x]) [x] = l ∧ hasSuffix (l ++ [x]) [x] = true := by
  have := hasSuffix_snoc l x x
  simp at this
  unfold trimSuffix
  rw [this]
  simp
theorem tail_len (u : Nat) : (tailL u).length ≤ 7 := by
  unfold tailL
  have := trimRightB_le (fix 7 u) 48
  rw [fix_length] at this
  exact this
theorem tail_zeros (u : Nat) : tailL u ++ zeros (7 - (tailL u).length) = fix 7 u ∧ hasSuffix (tailL u) [48] = false := by
  obtain ⟨k, h1, h2⟩ := trim_spec (fix 7 u)
  refine ⟨?_, h2⟩
  have := congrArg List.length h1
  rw [fix_length, List.length_append, zeros_len] at this
  unfold tailL
  rw [show 7 - (trimRightB (fix 7 u) 48).length = k by omega, ← h1]
theorem tail_all (u : Nat) : (tailL u).all isD = true := by
  have h := fix_all 7 u
  rw [← (tail_zeros u).1, List.all_append, Bool.and_eq_true] at h
  exact h.1
theorem take_rate (v : Int) : takeR (rateL v) = if v.natAbs ≤ 10000000000 then (v, 0) else (0, 4) := by
  unfold takeR rateL
  have hassoc : signL v ++ (decDigits (v.natAbs / 10000000) ++ (dotL (tailL v.natAbs) ++ [37])) = (signL v ++ (decDigits (v.natAbs / 10000000) ++ dotL (tailL v.natAbs))) ++ [37] := by simp
  rw [hassoc]
  obtain ⟨s1, s2⟩ := trim_tail (signL v ++ (decDigits (v.natAbs / 10000000) ++ dotL (tailL v.natAbs))) 37
  rw [s1, s2]
  dsimp only
  obtain ⟨e1, e2⟩ := trim_sign v (decDigits (v.natAbs / 10000000) ++ dotL (tailL v.natAbs)) (digit_not (decDigits_all _) 45 (by decide) _ (decDigits_ne _))
  rw [e1, e2]
  obtain ⟨t1, t2⟩ := tail_zeros v.natAbs
  have t3 := tail_len v.natAbs
  have t4 := tail_all v.natAbs
  have hval : valL (decDigits (v.natAbs / 10000000) ++ fix 7 v.natAbs) = v.natAbs := by
    rw [valL_append, valL_decDigits, valL_fix, fix_length]; omega
  have key : ∀ (P : List UInt8) (B : Bool), P = tailL v.natAbs → cutD (decDigits (v.natAbs / 10000000) ++ dotL (tailL v.natAbs)) = (decDigits (v.natAbs / 10000000), P, B) →
      (!B || (decide (P.length ≤ 7) && digOnly P && !hasSuffix P [48])) = true →
      (if (true && okWhole (cutD (decDigits (v.natAbs / 10000000) ++ dotL (tailL v.natAbs))).1 4 && (!(cutD (decDigits (v.natAbs / 10000000) ++ dotL (tailL v.natAbs))).2.2 || (decide ((cutD (decDigits (v.natAbs / 10000000) ++ dotL (tailL v.natAbs))).2.1.length ≤ 7) && digOnly (cutD (decDigits (v.natAbs / 10000000) ++ dotL (tailL v.natAbs))).2.1 && !hasSuffix (cutD (decDigits (v.natAbs / 10000000) ++ dotL (tailL v.natAbs))).2.1 [48]))) = true then
          if valL ((cutD (decDigits (v.natAbs / 10000000) ++ dotL (tailL v.natAbs))).1 ++ ((cutD (decDigits (v.natAbs / 10000000) ++ dotL (tailL v.natAbs))).2.1 ++ zeros (7 - (cutD (decDigits (v.natAbs / 10000000) ++ dotL (tailL v.natAbs))).2.1.length))) ≤ 10000000000 then sgnV (decide (v < 0)) (valL ((cutD (decDigits (v.natAbs / 10000000) ++ dotL (tailL v.natAbs))).1 ++ ((cutD (decDigits (v.natAbs / 10000000) ++ dotL (tailL v.natAbs))).2.1 ++ zeros (7 - (cutD (decDigits (v.natAbs / 10000000) ++ dotL (tailL v.natAbs))).2.1.length)))) else (0, 4)
        else (0, 4)) = if v.natAbs ≤ 10000000000 then (v, 0) else (0, 4) := by
    intro P B hP hc hb
    rw [hc]
    dsimp only
    simp only [hb, Bool.true_and, Bool.and_true]
    rw [hP, t1, hval]
    by_cases hw : (decDigits (v.natAbs / 10000000)).length ≤ 4
    · rw [okWhole_dec _ 4 hw, if_pos rfl, sgnV_of v _ rfl]
    · have hno : okWhole (decDigits (v.natAbs / 10000000)) 4 = false := by
        unfold okWhole; simp only [hw, decide_false, Bool.false_and]
      rw [hno, if_neg (by simp)]
      have : ¬ v.natAbs ≤ 10000000000 := fun hle => by
        apply hw
        have h1 : v.natAbs / 10000000 ≤ 20000 := by omega
        rw [Lib.decDigits_length]
        by_cases h2 : v.natAbs / 10000000 < 10
        · rw [nDigits_small h2]; omega
        · rw [nDigits_big h2]
          by_cases h3 : v.natAbs / 10000000 / 10 < 10
          · rw [nDigits_small h3]; omega
          · rw [nDigits_big h3]
            by_cases h4 : v.natAbs / 10000000 / 10 / 10 < 10
            · rw [nDigits_small h4]; omega
            · rw [nDigits_big h4, nDigits_small (by omega)]; omega
      rw [if_neg this]
  cases ht : tailL v.natAbs with
  | nil =>
    rw [ht] at key
    apply key [] false rfl
    · rw [show dotL [] = [] from rfl, List.append_nil, cutD_none _ (dot_not (decDigits_all _))]
    · rfl
  | cons a b =>
    rw [ht] at key t2 t3 t4
    apply key (a :: b) true rfl
    · rw [show dotL (a :: b) = 46 :: a :: b from rfl, cutD_hit _ _ (dot_not (decDigits_all _))]
    · simp only [t2, t3, decide_true, Bool.not_true, Bool.false_or, Bool.true_and, Bool.not_false, Bool.and_true]
      unfold digOnly; rw [t4]; rfl
end Go.Proofs.YtaafagggjnemgaaGreatDoor.L2

namespace Go.Proofs.YtaafagggjnemgaaGreatDoor.L2
open Go.RowKit Go.Lib
set_option linter.unusedVariables false
end Go.Proofs.YtaafagggjnemgaaGreatDoor.L2

namespace Go.Proofs.YtaafagggjnemgaaGreatDoor.L2
open Go.RowKit Go.Lib
set_option linter.unusedVariables false
end Go.Proofs.YtaafagggjnemgaaGreatDoor.L2

namespace Go.Proofs.YtaafagggjnemgaaGreatDoor.L2
open Go.RowKit Go.Lib
set_option linter.unusedVariables false
end Go.Proofs.YtaafagggjnemgaaGreatDoor.L2

namespace Go.Proofs.YtaafagggjnemgaaGreatDoor.L2
open Go.RowKit Go.Lib
set_option linter.unusedVariables false
end Go.Proofs.YtaafagggjnemgaaGreatDoor.L2

namespace Go.Proofs.YtaafagggjnemgaaGreatDoor.L2
open Go.RowKit Go.Lib
set_option linter.unusedVariables false
theorem rsize_c (v : Int) (w : World) (h : I64 v) :
    Calls Tryz.prog 46 #[.int .i64 v] w fun e w' => e = .returned (.tuple #[.int .u64 (v.natAbs : Nat), .string ⟨(signL v).toArray⟩]) ∧ w' = w := by
  obtain ⟨h1, h2⟩ := h
  by_cases hv : v < 0
  · have e1 : wrap64 (v + 1) = v + 1 := by unfold wrap64; omega
    have e2 : wrap64 (-(v + 1)) = -(v + 1) := by unfold wrap64; omega
    have e3 : IntKind.u64.wrap (-(v + 1)) = -(v + 1) := by rw [IntKind.wrap_u64]; omega
    obtain ⟨n, hn⟩ : ∃ n : Nat, n = v.natAbs := ⟨_, rfl⟩
    rw [← hn]
    have e4 : IntKind.u64.wrap (-(v + 1) + 1) = (n : Int) := by rw [IntKind.wrap_u64]; omega
    have hs : signL v = [45] := by unfold signL; rw [if_pos hv]
    rw [hs]
    replace hn := show Hid _ from hn
    clear h1 h2
    go_enter Tryz.func46, Tryz.ntmps46
    go_wp2
    go_ret2
    exact ⟨rfl, rfl⟩
  · obtain ⟨n, rfl⟩ : ∃ n : Nat, v = n := ⟨v.toNat, by omega⟩
    have e1 : IntKind.u64.wrap (n : Int) = (n : Int) := by rw [IntKind.wrap_u64]; omega
    have hs : signL (n : Int) = [] := by unfold signL; rw [if_neg hv]
    rw [hs, Int.natAbs_natCast]
    go_enter Tryz.func46, Tryz.ntmps46
    go_wp2
    go_ret2
    exact ⟨rfl, rfl⟩
theorem fix_cons (j : Nat) : ∀ v, fix (j + 1) v = dgt (v / 10 ^ j) :: fix j v := by
  induction j with
  | zero => intro v; simp [fix]
  | succ j ih =>
    intro v
    rw [fix, ih, fix, Nat.pow_succ, Nat.mul_comm (10 ^ j) 10, ← Nat.div_div_eq_div_mul]
    rfl
/-- Where the loop of Digits ends. -/
structure Ends (v least j : Nat) : Prop where
  le : least ≤ j
  z : v / 10 ^ j = 0
  nz : j = least ∨ v / 10 ^ (j - 1) ≠ 0
theorem ends_dec (v j : Nat) (h : Ends v 1 j) : fix j v = decDigits v := by
  have hlt : v < 10 ^ j := by
    have := h.z
    have hp : 0 < 10 ^ j := Nat.pos_of_ne_zero (by simp)
    rcases Nat.lt_or_ge v (10 ^ j) with k | k
    · exact k
    · have := Nat.div_pos k hp; omega
  have hval : valL (fix j v) = v := by rw [valL_fix, Nat.mod_eq_of_lt hlt]
  have hl := h.le
  obtain ⟨i, rfl⟩ : ∃ i, j = i + 1 := ⟨j - 1, by omega⟩
  have hd := decDigits_valL (fix (i + 1) v) (by rw [fix_cons]; simp) (fix_all _ _) (by
    by_cases hi : i = 0
    · subst hi
      rw [fix_cons]
      by_cases hz : dgt (v / 10 ^ 0) = 48
      · left; rw [hz]; rfl
      · right; simpa using hz
    · right
      rw [fix_cons]
      have hnz : v / 10 ^ i ≠ 0 := by
        rcases h.nz with k | k
        · omega
        · simpa using k
      have h10 : v / 10 ^ i < 10 := by
        rw [Nat.pow_succ] at hlt
        exact Nat.div_lt_of_lt_mul hlt
      intro e
      have e2 : dgt (v / 10 ^ i) = 48 := by simpa using e
      have e3 := congrArg UInt8.toNat e2
      rw [dgt_toNat] at e3
      have h48 : (48 : UInt8).toNat = 48 := rfl
      rw [h48] at e3
      clear e e2 hval hlt h
      generalize v / 10 ^ i = q at *
      omega)
  rw [hval] at hd
  exact hd.symm
theorem ends_fix (v k j : Nat) (hk : v < 10 ^ k) (h : Ends v k j) : j = k := by
  rcases h.nz with e | e
  · exact e
  · have := h.le
    by_cases hj : j = k
    · exact hj
    · exfalso
      apply e
      apply Nat.div_eq_of_lt
      exact Nat.lt_of_lt_of_le hk (Nat.pow_le_pow_right (by omega) (by omega))
theorem one_byte (W : World) (b : Nat) (c : UInt8) (h : W.cell? ⟨b, 0, none⟩ = some (.int .u8 (c.toNat : Int))) :
    (convert 69 9 (.slice (some ⟨b, 0, none⟩) 1 1)).run Tryz.prog W = .ok (.string ⟨#[c]⟩) W :=
  run_convert_bytes_back (P := Tryz.prog) W 69 9 5 ⟨b, 0, none⟩ 1 [c] Tryz.underlying69 Tryz.underlying5 Tryz.underlying9 (fun j hj => by
    obtain rfl : j = 0 := by simpa using hj
    exact h)
set_option maxHeartbeats 1000000 in
theorem rdigits_c (v least : Nat) (w : World) (hv : v < 18446744073709551616) (hl : least ≤ 20) :
    Calls Tryz.prog 47 #[.int .u64 (v : Int), .int .i64 (least : Int)] w fun e w' => (∃ j, Ends v least j ∧ e = .returned (.string ⟨(fix j v).toArray⟩)) ∧ Ext w w' := by
  go_enter Tryz.func47, Tryz.ntmps47
  go_wp2
  go_loopw [0, 5] (fun vv s wr => ∃ j : Nat, j ≤ 20 ∧ vv = .int .u64 ((v / 10 ^ j : Nat) : Int) ∧ s = .string ⟨(fix j v).toArray⟩ ∧ (j ≤ least ∨ v / 10 ^ (j - 1) ≠ 0) ∧ Hid (Ext w wr)) (fun vv s _ => (RowKit.intOf vv).toNat + (20 - strSize s))
  case atStart => exact ⟨0, by omega, by simp, rfl, Or.inl (Nat.zero_le _), Ext.refl _⟩
  case round =>
    obtain ⟨j, hj, rfl, rfl, hor, hx⟩ := hrel
    have hvj : v / 10 ^ j < 18446744073709551616 := Nat.lt_of_le_of_lt (Nat.div_le_self _ _) hv
    have hj19 : 0 < v / 10 ^ j → j ≤ 19 := fun h0 => by
      rcases Nat.lt_or_ge j 20 with k | k
      · omega
      · have : v / 10 ^ j = 0 := Nat.div_eq_of_lt (Nat.lt_of_lt_of_le hv (Nat.le_trans (by decide) (Nat.pow_le_pow_right (n := 10) (by omega) k)))
        omega
    generalize hq : v / 10 ^ j = q at *
    by_cases hz : 0 < q
    · have hj1 := hj19 hz
      clear hj19
      have hq10 : v / 10 ^ (j + 1) = q / 10 := by rw [Nat.pow_succ, ← Nat.div_div_eq_div_mul, hq]
      obtain ⟨c, hc⟩ : ∃ c : UInt8, c = dgt q := ⟨_, rfl⟩
      have hcb := fun (W : World) (b : Nat) (h : W.cell? ⟨b, 0, none⟩ = some (.int .u8 (c.toNat : Int))) => one_byte W b c h
      have hfc : fix (j + 1) v = c :: fix j v := by rw [fix_cons, hq, hc]
      have hfl := fix_length j v
      have hbig : ¬ 9223372036854775807 < 1 + j := by omega
      replace hfc := show Hid _ from hfc
      replace hq10 := show Hid _ from hq10
      replace hq := show Hid _ from hq
      have hqI : (0 : Int) < (q : Int) := by omega
      have e2 : IntKind.u8.wrap (48 + (q : Int) % 10) = (c.toNat : Int) := by rw [hc, dgt_toNat, IntKind.wrap_u8]; omega
      replace hc := show Hid _ from hc
      go_wp2
      go_roundw
      case rel => exact ⟨j + 1, by omega, by rw [hq10.out]; go_num, by rw [hfc.out], Or.inr (by rw [Nat.add_sub_cancel, hq.out]; omega), (hx.out.alloc _ _)⟩
      case measure => simp [RowKit.intOf, strSize_string, Lib.size_mk, hfl]; omega
    · have hq0 : q = 0 := by omega
      subst hq0
      clear hj19 hz
      by_cases hle : j < least
      · have hleI : (j : Int) < (least : Int) := by omega
        have hq10 : v / 10 ^ (j + 1) = 0 := by rw [Nat.pow_succ, ← Nat.div_div_eq_div_mul, hq]
        obtain ⟨c, hc⟩ : ∃ c : UInt8, c = dgt 0 := ⟨_, rfl⟩
        have hcb := fun (W : World) (b : Nat) (h : W.cell? ⟨b, 0, none⟩ = some (.int .u8 (c.toNat : Int))) => one_byte W b c h
        have hfc : fix (j + 1) v = c :: fix j v := by rw [fix_cons, hq, hc]
        have hfl := fix_length j v
        have hbig : ¬ 9223372036854775807 < 1 + j := by omega
        replace hfc := show Hid _ from hfc
        replace hq10 := show Hid _ from hq10
        replace hq := show Hid _ from hq
        have e2 : IntKind.u8.wrap 48 = (c.toNat : Int) := by rw [hc]; rfl
        replace hc := show Hid _ from hc
        go_wp2
        go_roundw
        case rel => exact ⟨j + 1, by omega, by rw [hq10.out]; go_num, by rw [hfc.out], Or.inl (by omega), (hx.out.alloc _ _)⟩
        case measure => simp [RowKit.intOf, strSize_string, Lib.size_mk, hfl]; omega
      · have hleI : ¬ (j : Int) < (least : Int) := by omega
        have hfl := fix_length j v
        go_wp2
        go_ret
        refine ⟨⟨j, ⟨by omega, hq, ?_⟩, rfl⟩, hx.out⟩
        rcases hor with k | k
        · left; omega
        · right; exact k
theorem rdigits_dec (v : Nat) (w : World) (hv : v < 18446744073709551616) :
    Calls Tryz.prog 47 #[.int .u64 (v : Int), .int .i64 1] w fun e w' => e = .returned (.string ⟨(decDigits v).toArray⟩) ∧ Ext w w' := by
  refine (rdigits_c v 1 w hv (by omega)).mono ?_
  rintro e w' ⟨⟨j, hj, rfl⟩, hx⟩
  exact ⟨by rw [ends_dec v j hj], hx⟩
theorem rdigits_fix (v k : Nat) (w : World) (hk : k ≤ 7) (hv : v < 10 ^ k) :
    Calls Tryz.prog 47 #[.int .u64 (v : Int), .int .i64 (k : Int)] w fun e w' => e = .returned (.string ⟨(fix k v).toArray⟩) ∧ Ext w w' := by
  have hv2 : v < 18446744073709551616 := Nat.lt_of_lt_of_le hv (Nat.le_trans (Nat.pow_le_pow_right (n := 10) (by omega) hk) (by decide))
  refine (rdigits_c v k w hv2 (by omega)).mono ?_
  rintro e w' ⟨⟨j, hj, rfl⟩, hx⟩
  exact ⟨by rw [ends_fix v k j hv hj], hx⟩
end Go.Proofs.YtaafagggjnemgaaGreatDoor.L2

namespace Go.Proofs.YtaafagggjnemgaaGreatDoor.L2
open Go.RowKit Go.Lib
set_option linter.unusedVariables false
theorem fix_mod (k : Nat) : ∀ v, fix k (v % 10 ^ k) = fix k v := by
  induction k with
  | zero => intro v; rfl
  | succ k ih =>
    intro v
    rw [fix, fix]
    have e1 : dgt (v % 10 ^ (k + 1)) = dgt v := by
      unfold dgt
      rw [Nat.pow_succ, Nat.mod_mul_left_mod]
    have e2 : v % 10 ^ (k + 1) / 10 = v / 10 % 10 ^ k := by
      rw [Nat.pow_succ, Nat.mul_comm, Nat.mod_mul_right_div_self]
    rw [e1, e2, ih]
theorem rmoney_c (v : Int) (w : World) (h : I64 v) :
    Calls Tryz.prog 26 #[.int .i64 v] w fun e w' => e = .returned (.string ⟨(moneyL v).toArray⟩) ∧ Ext w w' := by
  have hs := show Hid _ from rsize_c v w h
  obtain ⟨hl0, hl1⟩ := dec_len v h 100
  have hn : v.natAbs < 18446744073709551616 := by have := h.1; have := h.2; omega
  unfold moneyL
  generalize v.natAbs = n at *
  generalize signL v = A at *
  have d1 := show Hid _ from fun w => rdigits_dec (n / 100) w (Nat.lt_of_le_of_lt (Nat.div_le_self _ _) hn)
  have d2 : Hid (∀ w, Calls Tryz.prog 47 #[.int .u64 ((n % 100 : Nat) : Int), .int .i64 2] w fun e w' => e = .returned (.string ⟨(fix 2 n).toArray⟩) ∧ Ext w w') := fun w => by
    have := rdigits_fix (n % 100) 2 w (by omega) (by omega)
    rw [show fix 2 (n % 100) = fix 2 n from fix_mod 2 n] at this
    exact this
  have hl2 := fix_length 2 n
  generalize fix 2 n = C at *
  generalize decDigits (n / 100) = B at *
  obtain ⟨Q, hQ⟩ : ∃ Q : Nat, Q = n / 100 := ⟨_, rfl⟩
  obtain ⟨R, hR⟩ : ∃ R : Nat, R = n % 100 := ⟨_, rfl⟩
  rw [← hQ] at d1
  rw [← hR] at d2
  have eQ : (n : Int) / 100 = (Q : Int) := by omega
  have eR : (n : Int) % 100 = (R : Int) := by omega
  clear hQ hR
  have f1 : ¬ 9223372036854775807 < A.length + B.length := by omega
  have f2 : ¬ 9223372036854775807 < A.length + B.length + 1 := by omega
  have f3 : ¬ 9223372036854775807 < A.length + (B.length + (1 + 2)) := by omega
  have f4 : ¬ 9223372036854775807 < A.length + (B.length + 1) := by omega
  go_enter Tryz.func26, Tryz.ntmps26
  go_wp2_with fail
  refine Calls.mono hs.out ?_
  rintro e w1 ⟨rfl, rfl⟩
  clear hs
  go_wp2_with fail
  refine (d1.out _).mono ?_
  rintro e w1 ⟨rfl, hx⟩
  go_wp2_with fail
  refine (d2.out _).mono ?_
  rintro e w2 ⟨rfl, hx2⟩
  go_wp2
  go_ret
  exact ⟨rfl, hx.trans hx2⟩
set_option maxHeartbeats 1000000 in
theorem rrate_c (v : Int) (w : World) (h : I64 v) :
    Calls Tryz.prog 25 #[.int .i64 v] w fun e w' => e = .returned (.string ⟨(rateL v).toArray⟩) ∧ Ext w w' := by
  have hs := show Hid _ from rsize_c v w h
  obtain ⟨hl0, hl1⟩ := dec_len v h 10000000
  have hn : v.natAbs < 18446744073709551616 := by have := h.1; have := h.2; omega
  unfold rateL tailL
  generalize v.natAbs = n at *
  generalize signL v = A at *
  have d1 := show Hid _ from fun w => rdigits_dec (n / 10000000) w (Nat.lt_of_le_of_lt (Nat.div_le_self _ _) hn)
  have d2 : Hid (∀ w, Calls Tryz.prog 47 #[.int .u64 ((n % 10000000 : Nat) : Int), .int .i64 7] w fun e w' => e = .returned (.string ⟨(fix 7 n).toArray⟩) ∧ Ext w w') := fun w => by
    have := rdigits_fix (n % 10000000) 7 w (by omega) (by omega)
    rw [show fix 7 (n % 10000000) = fix 7 n from fix_mod 7 n] at this
    exact this
  have hl2 := fix_length 7 n
  generalize fix 7 n = C at *
  generalize hT : trimRightB C 48 = T
  replace hT := show Hid _ from hT
  generalize decDigits (n / 10000000) = B at *
  obtain ⟨Q, hQ⟩ : ∃ Q : Nat, Q = n / 10000000 := ⟨_, rfl⟩
  obtain ⟨R, hR⟩ : ∃ R : Nat, R = n % 10000000 := ⟨_, rfl⟩
  rw [← hQ] at d1
  rw [← hR] at d2
  have eQ : (n : Int) / 10000000 = (Q : Int) := by omega
  have eR : (n : Int) % 10000000 = (R : Int) := by omega
  clear hQ hR
  have f1 : ¬ 9223372036854775807 < A.length + B.length := by omega
  go_enter Tryz.func25, Tryz.ntmps25
  go_wp2_with fail
  refine Calls.mono hs.out ?_
  rintro e w1 ⟨rfl, rfl⟩
  clear hs
  go_wp2_with fail
  refine (d1.out _).mono ?_
  rintro e w1 ⟨rfl, hx⟩
  go_wp2_with fail
  refine (d2.out _).mono ?_
  rintro e w2 ⟨rfl, hx2⟩
  replace hx : Hid (Ext _ w2) := hx.trans hx2
  clear hx2 eQ eR d1 d2
  go_wp2
  go_loop [6] (fun s => ∃ X : List UInt8, s = .string ⟨X.toArray⟩ ∧ X.length ≤ 7 ∧ Hid (trimRightB X 48 = T)) (fun s => strSize s)
  case atStart => exact ⟨C, rfl, by omega, hT⟩
  case round =>
    obtain ⟨X, rfl, hX, htr⟩ := hrel
    by_cases hX0 : X = []
    · subst hX0
      obtain rfl : T = [] := htr.out.symm
      have f2 : ¬ 9223372036854775807 < A.length + B.length + 1 := by omega
      have f3 : ¬ 9223372036854775807 < A.length + (B.length + 1) := by omega
      go_wp2
      go_ret
      exact ⟨rfl, hx.out⟩
    · obtain ⟨Y, x, hYx⟩ : ∃ Y x, X = Y ++ [x] := ⟨X.dropLast, X.getLast hX0, (List.dropLast_concat_getLast hX0).symm⟩
      have hXl : X.length = Y.length + 1 := by rw [hYx]; simp
      have hix : ∀ h, (⟨X.toArray⟩ : ByteArray)[Y.length]'h = x := by
        subst hYx
        intro h
        have : (Y ++ [x])[Y.length]? = some x := by simp
        have h2 := Lib.getElem_mk (Y ++ [x]) Y.length h
        rw [this] at h2
        exact (Option.some.inj h2).symm
      have hex : (⟨X.toArray⟩ : ByteArray).extract 0 Y.length = ⟨Y.toArray⟩ := by
        rw [Lib.extract_mk, hYx]; simp
      have hX1 : (X == []) = false := by simpa using hX0
      have hlI : (0 : Int) < (Y.length : Int) + 1 := by omega
      have hY7 : Y.length ≤ 6 := by omega
      by_cases hx48 : x = 48
      · have hb : ((x.toNat : Int) == 48) = true := by rw [hx48]; rfl
        have htr2 : trimRightB X 48 = trimRightB Y 48 := by rw [hYx, trimRightB_snoc, if_pos hx48]
        rw [htr2] at htr
        replace hYx := show Hid _ from hYx
        clear htr2 hX0 hX
        go_wp2
        go_round
        case rel => exact ⟨Y, rfl, by omega, htr⟩
        case measure => simp [strSize_string, Lib.size_mk, hXl]
      · have hb : ((x.toNat : Int) == 48) = false := by
          simp
          exact fun e => hx48 (UInt8.toNat_inj.mp (by show x.toNat = 48; omega))
        have htr2 : trimRightB X 48 = X := by rw [hYx, trimRightB_snoc, if_neg hx48]
        have hC : T = X := htr.out.symm.trans htr2
        have hdot : dotL T = 46 :: X := by rw [hC]; unfold dotL; rw [if_neg (by simpa using hX0)]
        replace hdot := show Hid _ from hdot
        clear htr2 htr hC hYx hT
        have f2 : ¬ 9223372036854775807 < A.length + B.length + 1 := by omega
        have f3 : ¬ 9223372036854775807 < A.length + (B.length + 1) := by omega
        have f4 : ¬ 9223372036854775807 < A.length + (B.length + 1) + (Y.length + 1) := by omega
        have f5 : ¬ 9223372036854775807 < A.length + (B.length + (Y.length + 1 + 1)) := by omega
        have f6 : ¬ 9223372036854775807 < A.length + (B.length + (Y.length + 1 + 1)) + 1 := by omega
        go_wp2
        go_ret
        exact ⟨by rw [hdot.out]; simp, hx.out⟩
end Go.Proofs.YtaafagggjnemgaaGreatDoor.L2

namespace Go.Proofs.YtaafagggjnemgaaGreatDoor.L2
open Go.RowKit Go.Lib
set_option linter.unusedVariables false
end Go.Proofs.YtaafagggjnemgaaGreatDoor.L2

namespace Go.Proofs.YtaafagggjnemgaaGreatDoor.L2
open Go.RowKit Go.Lib
set_option linter.unusedVariables false
end Go.Proofs.YtaafagggjnemgaaGreatDoor.L2

namespace Go.Proofs.YtaafagggjnemgaaGreatDoor.L2
open Go.RowKit Go.Lib
set_option linter.unusedVariables false
end Go.Proofs.YtaafagggjnemgaaGreatDoor.L2

namespace Go.Proofs.YtaafagggjnemgaaGreatDoor.L2
open Go.RowKit Go.Lib
set_option linter.unusedVariables false
end Go.Proofs.YtaafagggjnemgaaGreatDoor.L2
