/- What the small functions of package decimal do, as contracts: no statement of the seat is proved here. -/
import Derived.Test.YtpmgbagnaaahoabDoorShelf
import Derived.Test.YtpmgbagnaaahoabDoorTimes
import Derived.Test.YtpmgbagnaaahoabDoorPure
namespace Go.Proofs.YtpmgbagnaaahoabDoor
open Go.RowKit Go.Lib
set_option linter.unusedVariables false

/-- What the walks ask of the library's own variables. -/
def Env (w : World) : Prop := (∃ m, w.cell? ⟨0, 0, none⟩ = some (.int .i64 m)) ∧ Lib.TabIs Tryd.prog w "internal/strconv.uint64pow10" .u64 Lib.pow10Tab
theorem Env.ext {w w' : World} (h : Env w) (hx : Ext w w') : Env w' := by
  obtain ⟨⟨m, hm⟩, ht⟩ := h
  refine ⟨⟨m, by rw [hx.cell 0 0 (lt_of_cell hm)]; exact hm⟩, ?_⟩
  unfold Lib.TabIs World.var? at *
  cases hg : Tryd.prog.globalNamed "internal/strconv.uint64pow10" with
  | none => simp [hg] at ht
  | some g =>
    simp only [hg, Option.bind_some] at ht ⊢
    have hlt : g < w.heap.size := by
      rcases Nat.lt_or_ge g w.heap.size with h' | h'
      · exact h'
      · rw [Array.getElem?_eq_none h'] at ht; simp at ht
    rw [hx.below.block g hlt]
    exact ht

theorem cutPrefix_c (l p : List UInt8) (w : World) :
    Calls Tryd.prog 36 #[.string ⟨l.toArray⟩, .string ⟨p.toArray⟩] w fun e w' => e = .returned (.tuple #[.string ⟨(trimPrefix l p).toArray⟩, .bool (hasPrefix l p)]) ∧ w' = w :=
  Tryd.strings_CutPrefix ⟨l.toArray⟩ ⟨p.toArray⟩ w

def cutL (l : List UInt8) : List UInt8 := if hasPrefix l [45] then [45] else []

theorem cutSign_c (l : List UInt8) (w : World) :
    Calls Tryd.prog 19 #[.string ⟨l.toArray⟩] w fun e w' => e = .returned (.tuple #[.string ⟨(cutL l).toArray⟩, .string ⟨(trimPrefix l [45]).toArray⟩]) ∧ w' = w := by
  unfold cutL
  cases h : hasPrefix l [45]
  · have h2 : trimPrefix l [45] = l := by unfold trimPrefix; rw [h]; rfl
    rw [h2]
    go_enter Tryd.func19, Tryd.ntmps19
    go_wp2_with fail
    refine (cutPrefix_c _ _ _).mono ?_
    rintro e w1 ⟨rfl, rfl⟩
    rw [h]
    go_wp2
    go_ret2
    exact ⟨rfl, rfl⟩
  · go_enter Tryd.func19, Tryd.ntmps19
    go_wp2_with fail
    refine (cutPrefix_c _ _ _).mono ?_
    rintro e w1 ⟨rfl, rfl⟩
    rw [h]
    go_wp2
    go_ret2
    exact ⟨rfl, rfl⟩

/-- n noughts. -/
def zeros (n : Nat) : List UInt8 := List.replicate n 48
@[go_sem] theorem app_mk (a b : List UInt8) : (⟨a.toArray⟩ : ByteArray) ++ (⟨b.toArray⟩ : ByteArray) = ⟨(a ++ b).toArray⟩ := by
  apply ByteArray.ext
  simp

theorem noughts_c (n : Int) (w : World) (hn : n ≤ 100) (hn0 : -100 ≤ n) :
    Calls Tryd.prog 30 #[.int .i64 n] w fun e w' => e = .returned (.string ⟨(zeros n.toNat).toArray⟩) ∧ Ext w w' := by
  have hr : ∀ (c : Nat) (w : World), c ≤ 100 → Calls Tryd.prog 45 #[.string ⟨#[48]⟩, .int .i64 c] w fun e w' => e = .returned (.string ⟨(zeros c).toArray⟩) ∧ Ext w w' := by
    intro c w hc
    refine (Tryd.strings_Repeat ⟨#[48]⟩ c w (by omega) (by simp [ByteArray.size]; omega)).mono ?_
    rintro e w' ⟨rfl, hb⟩
    refine ⟨?_, ⟨hb⟩⟩
    have := Lib.repeatL_replicate 48 1 c
    rw [Nat.mul_one] at this
    unfold zeros
    rw [← this]; rfl
  have hr := show Hid _ from hr
  by_cases h : 0 ≤ n
  · obtain ⟨c, rfl⟩ := Int.eq_ofNat_of_zero_le h
    go_enter Tryd.func30, Tryd.ntmps30
    go_wp2_with fail
    refine (hr.out c _ (by omega)).mono ?_
    rintro e w1 ⟨rfl, hx⟩
    go_wp2
    go_ret
    exact ⟨rfl, hx⟩
  · have e0 : n.toNat = 0 := by omega
    rw [e0]
    go_enter Tryd.func30, Tryd.ntmps30
    go_wp2_with fail
    rw [show max n 0 = 0 by omega]
    refine (hr.out 0 _ (by omega)).mono ?_
    rintro e w1 ⟨rfl, hx⟩
    go_wp2
    go_ret
    exact ⟨rfl, hx⟩

def signL (v : Int) : List UInt8 := if v < 0 then [45] else []
theorem itoa_sign (v : Int) : itoa v = signL v ++ decDigits v.natAbs := by
  unfold itoa signL
  split
  · rfl
  · rw [show v.toNat = v.natAbs by omega]; rfl
theorem digit_not {l : List UInt8} (h : l.all isD = true) (c : UInt8) (hc : isD c = false) (t : List UInt8) (hl : l ≠ []) : hasPrefix (l ++ t) [c] = false := by
  cases l with
  | nil => exact absurd rfl hl
  | cons a b =>
    have ha : isD a = true := by simp at h; exact h.1
    have : a ≠ c := fun e => by rw [e, hc] at ha; cases ha
    simp [hasPrefix, List.isPrefixOf]
    exact fun e => absurd e.symm this
theorem cut_itoa (v : Int) : cutL (itoa v) = signL v ∧ trimPrefix (itoa v) [45] = decDigits v.natAbs := by
  rw [itoa_sign]
  unfold cutL trimPrefix signL
  split
  · simp [hasPrefix, List.isPrefixOf]
  · have := digit_not (decDigits_all v.natAbs) 45 (by decide) [] (decDigits_ne _)
    rw [List.append_nil] at this
    simp [this]

theorem formatInt_c (v : Int) (w : World) (h : I64 v) (he : Hid (Env w)) :
    Calls Tryd.prog 46 #[.int .i64 v, .int .i64 10] w fun e w' => e = .returned (.string ⟨(itoa v).toArray⟩) ∧ Ext w w' := by
  refine (Tryd.strconv_FormatInt_10 v h.1 h.2 w he.out.2).mono ?_
  rintro e w' ⟨rfl, k, os, rfl⟩
  exact ⟨rfl, ((Ext.refl w).drewN k).grow os⟩

theorem split_of (v p : Int) (k : Nat) (W P : List UInt8) (w : World) (h : I64 v) (he : Hid (Env w)) (hk : (k : Int) = p) (hk2 : k ≤ 7)
    (hp : zeros (k + 1 - (decDigits v.natAbs).length) ++ decDigits v.natAbs = W ++ P) (hP : P.length = k) :
    Calls Tryd.prog 31 #[.int .i64 v, .int .i64 p] w fun e w' => e = .returned (.tuple #[.string ⟨(signL v).toArray⟩, .string ⟨W.toArray⟩, .string ⟨P.toArray⟩]) ∧ Ext w w' := by
  have hfi := show Hid _ from formatInt_c v w h he
  obtain ⟨c1, c2⟩ := cut_itoa v
  have hlen : (decDigits v.natAbs).length ≤ 21 := by
    have h1 := Lib.itoa_length_le v h.1 h.2
    rw [itoa_sign, List.length_append] at h1
    omega
  have hWl := congrArg List.length hp
  simp only [List.length_append, zeros, List.length_replicate] at hWl
  have hp := show Hid _ from hp
  have hWl := show Hid _ from hWl
  have hP := show Hid _ from hP
  have hk := show Hid _ from hk
  generalize hd : decDigits v.natAbs = D at *
  clear hd
  have hw1 : wrap64 (p + 1) = p + 1 := by have := hk.out; unfold wrap64; omega
  have hw : wrap64 (p + 1 - (D.length : Int)) = p + 1 - (D.length : Int) := by have := hk.out; unfold wrap64; omega
  go_enter Tryd.func31, Tryd.ntmps31
  go_wp2_with fail
  refine Calls.mono hfi.out ?_
  rintro e w1 ⟨rfl, hx⟩
  go_wp2_with fail
  refine (cutSign_c _ _).mono ?_
  rintro e w2 ⟨rfl, rfl⟩
  rw [c1, c2]
  clear c1 c2 hfi he
  go_wp2_with fail
  refine (noughts_c _ _ (by have := hk.out; omega) (by have := hk.out; omega)).mono ?_
  rintro e w3 ⟨rfl, hx3⟩
  clear hw hw1
  have e3 : (p + 1 - (D.length : Int)).toNat = k + 1 - D.length := by have := hk.out; omega
  have hp := hp.out
  have hwp : wrap64 ((W.length : Int) + (P.length : Int) - p) = (W.length : Int) := by have := hk.out; have := hP.out; have := hWl.out; unfold wrap64; omega
  have hbig : ¬ 9223372036854775807 < (zeros (k + 1 - D.length)).length + D.length := by
    unfold zeros; rw [List.length_replicate]; omega
  rw [e3]
  go_wp2_with fail
  clear hbig hwp e3
  have hwl : W.length ≤ 28 := by have := hWl.out; omega
  have hs1 : (W ++ P).length = W.length + P.length := List.length_append
  have b1 : (0 : Int) ≤ (W.length : Int) := by omega
  have b2 : (W.length : Int) ≤ ((W ++ P).length : Int) := by omega
  go_region
  have x1 : (⟨(W ++ P).toArray⟩ : ByteArray).extract 0 W.length = ⟨W.toArray⟩ := by rw [Lib.extract_mk]; simp
  have x2 : (⟨(W ++ P).toArray⟩ : ByteArray).extract W.length (W.length + k) = ⟨P.toArray⟩ := by
    rw [Lib.extract_mk, ← hP.out]; simp
  rw [x1, x2]
  clear x1 x2
  go_wp2
  exact bodyPost_ret (v := .tuple #[.string ⟨(signL v).toArray⟩, .string ⟨W.toArray⟩, .string ⟨P.toArray⟩]) (by simp [results, Tryd.results31, go_sem]) rfl ⟨rfl, (hx.trans hx3).drew⟩

theorem split_2 (v : Int) (w : World) (h : I64 v) (he : Hid (Env w)) :
    Calls Tryd.prog 31 #[.int .i64 v, .int .i64 2] w fun e w' => e = .returned (.tuple #[.string ⟨(signL v).toArray⟩, .string ⟨(decDigits (v.natAbs / 100)).toArray⟩, .string ⟨(fix 2 v.natAbs).toArray⟩]) ∧ Ext w w' :=
  split_of v 2 2 _ _ w h he rfl (by omega) (pad_decDigits 2 v.natAbs) (fix_length _ _)
theorem split_7 (v : Int) (w : World) (h : I64 v) (he : Hid (Env w)) :
    Calls Tryd.prog 31 #[.int .i64 v, .int .i64 7] w fun e w' => e = .returned (.tuple #[.string ⟨(signL v).toArray⟩, .string ⟨(decDigits (v.natAbs / 10000000)).toArray⟩, .string ⟨(fix 7 v.natAbs).toArray⟩]) ∧ Ext w w' :=
  split_of v 7 7 _ _ w h he rfl (by omega) (pad_decDigits 7 v.natAbs) (fix_length _ _)

def moneyL (v : Int) : List UInt8 := signL v ++ (decDigits (v.natAbs / 100) ++ 46 :: fix 2 v.natAbs)
theorem dec_len (v : Int) (h : I64 v) (k : Nat) : (signL v).length ≤ 1 ∧ (decDigits (v.natAbs / k)).length ≤ 20 := by
  constructor
  · unfold signL; split <;> simp
  · rw [Lib.decDigits_length]
    apply Lib.nDigits_le20
    have := Nat.div_le_self v.natAbs k
    have := h.1; have := h.2; omega
theorem money_c (v : Int) (w : World) (h : I64 v) (he : Hid (Env w)) :
    Calls Tryd.prog 13 #[.int .i64 v] w fun e w' => e = .returned (.string ⟨(moneyL v).toArray⟩) ∧ Ext w w' := by
  have hs := show Hid _ from split_2 v w h he
  have hl := dec_len v h 100
  have hl2 := fix_length 2 v.natAbs
  unfold moneyL
  generalize signL v = A at *
  generalize decDigits (v.natAbs / 100) = B at *
  generalize fix 2 v.natAbs = C at *
  obtain ⟨hl0, hl1⟩ := hl
  have f1 : ¬ 9223372036854775807 < A.length + B.length := by omega
  have f2 : ¬ 9223372036854775807 < A.length + B.length + 1 := by omega
  have f3 : ¬ 9223372036854775807 < A.length + (B.length + (1 + 2)) := by omega
  go_enter Tryd.func13, Tryd.ntmps13
  go_wp2_with fail
  refine Calls.mono hs.out ?_
  rintro e w1 ⟨rfl, hx⟩
  go_wp2
  go_ret
  exact ⟨rfl, hx⟩

def tailL (u : Nat) : List UInt8 := trimRightB (fix 7 u) 48
def dotL (p : List UInt8) : List UInt8 := if p.isEmpty then [] else 46 :: p
def rateL (v : Int) : List UInt8 := signL v ++ (decDigits (v.natAbs / 10000000) ++ (dotL (tailL v.natAbs) ++ [37]))
theorem trimRight_c (l : List UInt8) (w : World) (hl : l.length ≤ 1000) :
    Calls Tryd.prog 34 #[.string ⟨l.toArray⟩, .string ⟨#[48]⟩] w fun e w' => e = .returned (.string ⟨(trimRightB l 48).toArray⟩) ∧ w' = w :=
  Tryd.strings_TrimRight ⟨l.toArray⟩ 48 (by decide) w (by rw [Lib.size_mk]; omega)
theorem trimRightB_le (l : List UInt8) (c : UInt8) : (trimRightB l c).length ≤ l.length := by
  unfold trimRightB
  rw [List.length_reverse]
  have : ∀ m : List UInt8, (m.dropWhile (· == c)).length ≤ m.length := by
    intro m
    induction m with
    | nil => simp
    | cons a b ih =>
      simp only [List.dropWhile]
      split
      · simp; omega
      · simp
  have := this l.reverse
  simpa using this
theorem rate_c (v : Int) (w : World) (h : I64 v) (he : Hid (Env w)) :
    Calls Tryd.prog 15 #[.int .i64 v] w fun e w' => e = .returned (.string ⟨(rateL v).toArray⟩) ∧ Ext w w' := by
  have hs := show Hid _ from split_7 v w h he
  have hl := dec_len v h 10000000
  have hl2 := fix_length 7 v.natAbs
  have hl3 := trimRightB_le (fix 7 v.natAbs) 48
  unfold rateL tailL dotL
  generalize signL v = A at *
  generalize decDigits (v.natAbs / 10000000) = B at *
  generalize fix 7 v.natAbs = C at *
  obtain ⟨hl0, hl1⟩ := hl
  cases hd : trimRightB C 48 with
  | nil =>
    simp only [List.isEmpty_nil, if_true, List.nil_append]
    have f1 : ¬ 9223372036854775807 < A.length + B.length := by omega
    have f2 : ¬ 9223372036854775807 < A.length + B.length + 1 := by omega
    go_enter Tryd.func15, Tryd.ntmps15
    go_wp2_with fail
    refine Calls.mono hs.out ?_
    rintro e w1 ⟨rfl, hx⟩
    clear hs
    go_wp2_with fail
    refine (trimRight_c _ _ (by omega)).mono ?_
    rintro e w1 ⟨rfl, rfl⟩
    rw [hd]
    go_wp2
    go_ret
    exact ⟨rfl, hx⟩
  | cons x y =>
    simp only [List.isEmpty_cons, Bool.false_eq_true, if_false, List.cons_append]
    rw [hd, List.length_cons] at hl3
    have f0 : ¬ 9223372036854775807 < 1 + (y.length + 1) := by omega
    have f1 : ¬ 9223372036854775807 < A.length + B.length := by omega
    have f2 : ¬ 9223372036854775807 < A.length + (B.length + (y.length + 1 + 1)) := by omega
    have f3 : ¬ 9223372036854775807 < A.length + (B.length + (y.length + 1 + 1)) + 1 := by omega
    go_enter Tryd.func15, Tryd.ntmps15
    go_wp2_with fail
    refine Calls.mono hs.out ?_
    rintro e w1 ⟨rfl, hx⟩
    clear hs
    go_wp2_with fail
    refine (trimRight_c _ _ (by omega)).mono ?_
    rintro e w1 ⟨rfl, rfl⟩
    rw [hd]
    go_wp2
    go_ret
    exact ⟨rfl, hx⟩
end Go.Proofs.YtpmgbagnaaahoabDoor
