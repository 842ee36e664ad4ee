/- What begins, run, pass and measure of package lexer answer, as contracts: no statement of the seat is proved here. -/
import Derived.Test.YtocdkgmmnkmlpaaDoorLate
import Derived.Test.YtocdkgmmnkmlpaaDoorLex1
import Derived.Test.YtocdkgmmnkmlpaaDoorShelf
namespace Go.Proofs.YtocdkgmmnkmlpaaDoor
open Go.RowKit Go.Lib
set_option linter.unusedVariables false

/-- What is read of the package variables: the one of the library holds some int. -/
def Env (w : World) : Prop := ∃ m, w.cell? ⟨0, 0, none⟩ = some (.int .i64 m)
theorem Env.ext {w w' : World} (h : Env w) (hx : Ext w w') : Env w' := by
  obtain ⟨m, hm⟩ := h
  exact ⟨m, hx.cell_of hm⟩
theorem ret_int {k : IntKind} {a b : Int} (h : a = b) : Ending.returned (.int k a) = .returned (.int k b) := by rw [h]
theorem ret_bool {a b : Bool} (h : a = b) : Ending.returned (.bool a) = .returned (.bool b) := by rw [h]
theorem ret_str {a b : List UInt8} (h : a = b) : Ending.returned (.string ⟨a.toArray⟩) = .returned (.string ⟨b.toArray⟩) := by rw [h]

theorem idx_in : ∀ (t : List UInt8) (c : UInt8), decide (0 ≤ indexByte t c) = t.contains c
  | [], c => rfl
  | b :: t, c => by
    have ih := idx_in t c
    have hg := indexByte_ge t c
    unfold indexByte
    by_cases h : b = c
    · subst h; simp
    · rw [if_neg (by simpa using h), List.contains_cons, show (c == b) = false by simpa using fun e => h e.symm, Bool.false_or, ← ih]
      split
      · rename_i h1
        have h1' : indexByte t c = -1 := by simpa using h1
        rw [h1']
      · rename_i h1
        have h1' : ¬ indexByte t c = -1 := by simpa using h1
        have : 0 ≤ indexByte t c := by omega
        rw [decide_eq_true this, decide_eq_true (by omega)]
theorem idxByte_c (t : List UInt8) (c : UInt8) (w : World) :
    Calls Tryd.prog 31 #[.string ⟨t.toArray⟩, .int .u8 c.toNat] w fun e w' => e = .returned (.int .i64 (indexByte t c)) ∧ w' = w := by
  refine (Tryd.strings_IndexByte ⟨t.toArray⟩ c.toNat w).mono ?_
  rintro e w' ⟨rfl, rfl⟩
  have : (c.toNat : Int).toNat.toUInt8 = c := by simp
  rw [this]
  exact ⟨rfl, rfl⟩
theorem begins_c (l t : List UInt8) (w : World) :
    Calls Tryd.prog 25 #[.string ⟨l.toArray⟩, .string ⟨t.toArray⟩] w fun e w' => e = .returned (.bool (beg l t)) ∧ w' = w := by
  cases l with
  | nil =>
    go_enter Tryd.func25, Tryd.ntmps25
    go_wp2
    go_ret
    exact ⟨rfl, rfl⟩
  | cons c l =>
    have h0 : ∀ h, (⟨(c :: l).toArray⟩ : ByteArray)[0]'h = c := fun _ => rfl
    have hi := idx_in t c
    replace hi := show Hid _ from hi
    go_enter Tryd.func25, Tryd.ntmps25
    go_wp2_with fail
    refine (idxByte_c t c _).mono ?_
    rintro e w1 ⟨rfl, rfl⟩
    go_wp2
    go_ret
    exact ⟨ret_bool hi.out, rfl⟩
theorem begins_x (l t : List UInt8) (b : Bool) (h : beg l t = b) (w : World) :
    Calls Tryd.prog 25 #[.string ⟨l.toArray⟩, .string ⟨t.toArray⟩] w fun e w' => e = .returned (.bool b) ∧ w' = w := h ▸ begins_c l t w
theorem run_c (l t : List UInt8) (w : World) (hl : l.length ≤ 20000) (ht : t.length < 1000) (ha : ∀ (j : Nat) b, t[j]? = some b → b.toNat < 128) :
    Calls Tryd.prog 24 #[.string ⟨l.toArray⟩, .string ⟨t.toArray⟩] w fun e w' => e = .returned (.int .i64 (rn l t)) ∧ Ext w w' := by
  have hcall : Hid (Calls Tryd.prog 30 #[.string ⟨l.toArray⟩, .string ⟨t.toArray⟩] w fun e w' => e = .returned (.string ⟨(trimLeftS l t).toArray⟩) ∧ Below w.heap.size w w') :=
    Tryd.strings_TrimLeft ⟨l.toArray⟩ ⟨t.toArray⟩ w (by rw [Lib.size_mk]; omega) ha
  have hle : (trimLeftS l t).length ≤ l.length := (List.dropWhile_suffix _).length_le
  have hrn : rn l t = l.length - (trimLeftS l t).length := (rn_dw l t).symm
  rw [hrn]
  clear hrn ha
  generalize trimLeftS l t = R at *
  go_enter Tryd.func24, Tryd.ntmps24
  go_wp2_with fail
  refine hcall.out.mono ?_
  rintro e w1 ⟨rfl, hx⟩
  replace hx := show Hid _ from hx
  clear hcall
  go_wp2
  go_ret
  exact ⟨ret_int (by omega), ⟨hx.out⟩⟩
theorem run_x (l t : List UInt8) (n : Nat) (h : rn l t = n) (w : World) (hl : l.length ≤ 20000) (ht : t.length < 1000) (ha : ∀ (j : Nat) b, t[j]? = some b → b.toNat < 128) :
    Calls Tryd.prog 24 #[.string ⟨l.toArray⟩, .string ⟨t.toArray⟩] w fun e w' => e = .returned (.int .i64 n) ∧ Ext w w' := h ▸ run_c l t w hl ht ha
theorem ascii_of (t : List UInt8) (h : t.all (fun b => decide (b.toNat < 128)) = true) : ∀ (j : Nat) b, t[j]? = some b → b.toNat < 128 := fun j b hb =>
  of_decide_eq_true (List.all_eq_true.1 h b (List.mem_of_getElem? hb))
theorem idx_ln : ∀ (l : List UInt8), (index l [10] = -1 ∧ ln l = l.length) ∨ index l [10] = (ln l : Int) 
  | [] => Or.inl ⟨rfl, rfl⟩
  | c :: l => by
    by_cases h : c = 10
    · subst h
      right
      rw [ln_out]; unfold index; simp
    · have hp : List.isPrefixOf [10] (c :: l) = false := by simp [List.isPrefixOf]; exact fun e => h e.symm
      rw [ln_in h]
      unfold index
      rw [hp]
      rcases idx_ln l with ⟨h1, h2⟩ | h1
      · left; rw [h1, h2]; simp
      · right
        rw [h1]
        have : ((ln l : Int) == -1) = false := by rw [beq_eq_false_iff_ne]; omega
        simp [this]
theorem cut_ln (l : List UInt8) : (cut l [10]).1 = l.take (ln l) := by
  unfold cut
  rcases idx_ln l with ⟨h1, h2⟩ | h1
  · rw [h1, h2, if_neg (by omega), List.take_length]
  · rw [h1, if_pos (by omega)]; simp
theorem ext_drop (l : List UInt8) (j : Nat) : (⟨l.toArray⟩ : ByteArray).extract j l.length = ⟨(l.drop j).toArray⟩ := by
  apply ByteArray.ext
  simp [ByteArray.data_extract]
  exact List.take_of_length_le (by simp)
theorem ext_part (l : List UInt8) (j k : Nat) : (⟨l.toArray⟩ : ByteArray).extract j k = ⟨((l.drop j).take (k - j)).toArray⟩ := by
  apply ByteArray.ext
  simp [ByteArray.data_extract, List.extract_eq_take_drop]
theorem cut_x (l m : List UInt8) (hm : l.take (ln l) = m) (w : World) (hl : l.length ≤ 20000) (he : Hid (Env w)) :
    Calls Tryd.prog 26 #[.string ⟨l.toArray⟩, .string ⟨#[10]⟩] w fun e w' => (∃ r f, e = .returned (.tuple #[.string ⟨m.toArray⟩, .string ⟨r⟩, .bool f])) ∧ Ext w w' := by
  obtain ⟨n, hn⟩ := he.out
  refine (Tryd.strings_Cut ⟨l.toArray⟩ ⟨#[10]⟩ n w (by rw [Lib.size_mk]; omega) hn).mono ?_
  rintro e w' ⟨rfl, n, rfl⟩
  have h' : (cut (⟨l.toArray⟩ : ByteArray).data.toList (⟨#[10]⟩ : ByteArray).data.toList).1 = m := (cut_ln l).trans hm
  rw [h']
  exact ⟨⟨_, _, rfl⟩, (Ext.refl w).drewN n⟩
theorem pass_c (l : List UInt8) (k : Nat) (w : World) (hl : l.length ≤ 20000) (hk : k ≤ l.length) (he : Hid (Env w)) :
    Calls Tryd.prog 20 #[.string ⟨l.toArray⟩, .int .i64 k] w fun e w' => e = .returned (.int .i64 ((k + wh false (l.drop k) : Nat) : Int)) ∧ Ext w w' := by
  obtain ⟨Z, hZ⟩ : ∃ Z, k + wh false (l.drop k) = Z := ⟨_, rfl⟩
  rw [hZ]
  replace hZ := show Hid _ from hZ
  go_enter Tryd.func20, Tryd.ntmps20
  go_wp2_with fail
  go_loopw [1] (fun i wr => ∃ j : Nat, j ≤ l.length ∧ i = .int .i64 (j : Int) ∧ Hid (j + wh false (l.drop j) = Z) ∧ Hid (Ext w wr)) (fun i _ => l.length - (RowKit.intOf i).toNat)
  case atStart => exact ⟨k, hk, rfl, hZ, Ext.refl w⟩
  case round =>
    obtain ⟨j, hj, rfl, hz, hx⟩ := hrel
    clear hZ hk
    obtain ⟨M, hM⟩ : ∃ M, l.drop j = M := ⟨_, rfl⟩
    have hE := ext_drop l j
    obtain ⟨n, hn⟩ : ∃ n, rn M blankL = n := ⟨_, rfl⟩
    obtain ⟨J, hJ⟩ : ∃ J, j + n = J := ⟨_, rfl⟩
    have hE2 := ext_drop l J
    have hMl : M.length = l.length - j := by rw [← hM, List.length_drop]
    have hn2 : n ≤ M.length := hn ▸ rn_le M blankL
    obtain ⟨M2, hM2⟩ : ∃ M2, l.drop J = M2 := ⟨_, rfl⟩
    have hw1 := wh_run M
    have hb := beg_rn M blankL
    have hMd : M.drop n = M2 := by rw [← hM, List.drop_drop, hJ, hM2]
    rw [hn, hMd] at hw1 hb
    rw [hM] at hz hE
    rw [hM2] at hE2
    have hM2l : M2.length = l.length - J := by rw [← hM2, List.length_drop]
    have hJl : J ≤ l.length := by omega
    have hsum : (j : Int) + (n : Int) = (J : Int) := by omega
    have hMle : M.length ≤ 20000 := by omega
    have hM2le : M2.length ≤ 20000 := by omega
    replace hw1 := show Hid _ from hw1
    replace hb := show Hid _ from hb
    replace hMd := show Hid _ from hMd
    replace hn := show Hid _ from hn
    replace hJ := show Hid _ from hJ
    replace hM := show Hid _ from hM
    replace hM2 := show Hid _ from hM2
    replace hMl := show Hid _ from hMl
    replace hM2l := show Hid _ from hM2l
    have he1 : Hid (Env wr) := he.out.ext hx.out
    go_wp2_with fail
    refine (run_x M blankL n hn.out _ hMle (by decide) (ascii_of _ (by decide))).mono ?_
    rintro e w1 ⟨rfl, hx1⟩
    replace hx : Hid (Ext w w1) := hx.out.trans hx1
    replace he1 : Hid (Env w1) := he1.out.ext hx1
    clear hx1
    go_wp2_with fail
    cases hr : beg M2 remL
    · refine (begins_x M2 remL false hr _).mono ?_
      rintro e w2 ⟨rfl, rfl⟩
      replace hr := show Hid _ from hr
      go_wp2
      go_ret
      refine ⟨ret_int ?_, hx.out⟩
      have h1 := hz.out; have h2 := hw1.out; have h3 := wh_none hb.out hr.out; have h4 := hJ.out
      omega
    · refine (begins_x M2 remL true hr _).mono ?_
      rintro e w2 ⟨rfl, rfl⟩
      obtain ⟨h1, h2⟩ := wh_line hr
      obtain ⟨q, hq⟩ : ∃ q, ln M2 = q := ⟨_, rfl⟩
      obtain ⟨LN, hLN⟩ : ∃ LN, M2.take (ln M2) = LN := ⟨_, rfl⟩
      have hql : LN.length = q := by rw [← hLN, List.length_take, Nat.min_eq_left (ln_le M2), hq]
      have hqM : q ≤ M2.length := hq ▸ ln_le M2
      rw [hq] at h1 h2
      obtain ⟨J3, hJ3⟩ : ∃ J3, J + q = J3 := ⟨_, rfl⟩
      have hd3 : M2.drop q = l.drop J3 := by rw [← hM2.out, List.drop_drop, hJ3]
      rw [hd3] at h1
      have hsum2 : (J : Int) + (q : Int) = (J3 : Int) := by omega
      replace h1 := show Hid _ from h1
      replace hd3 := show Hid _ from hd3
      replace hq := show Hid _ from hq
      replace hJ3 := show Hid _ from hJ3
      replace hLN := show Hid _ from hLN
      clear hr
      go_wp2_with fail
      refine (cut_x M2 LN hLN.out _ hM2le he1).mono ?_
      rintro e w3 ⟨⟨r, f, rfl⟩, hx1⟩
      replace hx : Hid (Ext w w3) := hx.out.trans hx1
      clear hx1 he1
      go_wp2
      go_roundw
      case rel =>
        refine ⟨J3, ?_, rfl, ?_, hx⟩
        · have := hM2l.out; have := hJ3.out; omega
        · have h4 := hz.out; have h5 := hw1.out; have h6 := hJ.out; have h7 := hJ3.out; have h8 := h1.out
          show J3 + _ = Z
          omega
      case measure => have := hM2l.out; have := hJ3.out; have := hJ.out; simp [RowKit.intOf]; omega
theorem unhy_eq (l : List UInt8) : trimPrefix l [45] = unhy l := by
  cases l with
  | nil => rfl
  | cons c l =>
    unfold trimPrefix hasPrefix unhy
    by_cases h : c = 45
    · subst h; simp
    · show _ = (if c = 45 then l else c :: l)
      rw [if_neg h]
      have : List.isPrefixOf [45] (c :: l) = false := by simp [List.isPrefixOf]; exact fun e => h e.symm
      simp [this]
theorem trimPrefix_x (l m : List UInt8) (h : unhy l = m) (w : World) :
    Calls Tryd.prog 33 #[.string ⟨l.toArray⟩, .string ⟨#[45]⟩] w fun e w' => e = .returned (.string ⟨m.toArray⟩) ∧ w' = w := by
  refine (Tryd.strings_TrimPrefix ⟨l.toArray⟩ ⟨#[45]⟩ w).mono ?_
  rintro e w' ⟨rfl, rfl⟩
  have h' : trimPrefix (⟨l.toArray⟩ : ByteArray).data.toList (⟨#[45]⟩ : ByteArray).data.toList = m := (unhy_eq l).trans h
  rw [h']
  exact ⟨rfl, rfl⟩
theorem measure_c (l : List UInt8) (w : World) (hl : l.length ≤ 20000) :
    Calls Tryd.prog 27 #[.string ⟨l.toArray⟩] w fun e w' => e = .returned (.tuple #[.int .i64 (kd l), .int .i64 (sz l)]) ∧ Ext w w' := by
  unfold kd sz
  obtain ⟨m, hm⟩ : ∃ m, unhy l = m := ⟨_, rfl⟩
  obtain ⟨n1, hn1⟩ : ∃ n, rn l inWL = n := ⟨_, rfl⟩
  obtain ⟨n2, hn2⟩ : ∃ n, rn l inNL = n := ⟨_, rfl⟩
  rw [hm, hn1, hn2]
  replace hm := show Hid _ from hm
  replace hn1 := show Hid _ from hn1
  replace hn2 := show Hid _ from hn2
  cases h1 : beg l letL
  · cases h2 : beg m digL
    · cases h3 : beg l sgnL
      · replace h1 := show Hid _ from h1
        replace h2 := show Hid _ from h2
        replace h3 := show Hid _ from h3
        go_enter Tryd.func27, Tryd.ntmps27
        go_wp2_with fail
        refine (begins_x l letL false h1.out _).mono ?_
        rintro e w1 ⟨rfl, rfl⟩
        go_wp2_with fail
        refine (trimPrefix_x l m hm.out _).mono ?_
        rintro e w2 ⟨rfl, rfl⟩
        go_wp2_with fail
        refine (begins_x m digL false h2.out _).mono ?_
        rintro e w3 ⟨rfl, rfl⟩
        go_wp2_with fail
        refine (begins_x l sgnL false h3.out _).mono ?_
        rintro e w4 ⟨rfl, rfl⟩
        go_wp2
        go_ret2
        exact ⟨rfl, Ext.refl _⟩
      · replace h1 := show Hid _ from h1
        replace h2 := show Hid _ from h2
        replace h3 := show Hid _ from h3
        go_enter Tryd.func27, Tryd.ntmps27
        go_wp2_with fail
        refine (begins_x l letL false h1.out _).mono ?_
        rintro e w1 ⟨rfl, rfl⟩
        go_wp2_with fail
        refine (trimPrefix_x l m hm.out _).mono ?_
        rintro e w2 ⟨rfl, rfl⟩
        go_wp2_with fail
        refine (begins_x m digL false h2.out _).mono ?_
        rintro e w3 ⟨rfl, rfl⟩
        go_wp2_with fail
        refine (begins_x l sgnL true h3.out _).mono ?_
        rintro e w4 ⟨rfl, rfl⟩
        go_wp2
        go_ret2
        exact ⟨rfl, Ext.refl _⟩
    · replace h1 := show Hid _ from h1
      replace h2 := show Hid _ from h2
      go_enter Tryd.func27, Tryd.ntmps27
      go_wp2_with fail
      refine (begins_x l letL false h1.out _).mono ?_
      rintro e w1 ⟨rfl, rfl⟩
      go_wp2_with fail
      refine (trimPrefix_x l m hm.out _).mono ?_
      rintro e w2 ⟨rfl, rfl⟩
      go_wp2_with fail
      refine (begins_x m digL true h2.out _).mono ?_
      rintro e w3 ⟨rfl, rfl⟩
      go_wp2_with fail
      refine (run_x l inNL n2 hn2.out _ hl (by decide) (ascii_of _ (by decide))).mono ?_
      rintro e w4 ⟨rfl, hx⟩
      replace hx := show Hid _ from hx
      go_wp2
      go_ret2
      exact ⟨rfl, hx.out⟩
  · replace h1 := show Hid _ from h1
    go_enter Tryd.func27, Tryd.ntmps27
    go_wp2_with fail
    refine (begins_x l letL true h1.out _).mono ?_
    rintro e w1 ⟨rfl, rfl⟩
    go_wp2_with fail
    refine (run_x l inWL n1 hn1.out _ hl (by decide) (ascii_of _ (by decide))).mono ?_
    rintro e w4 ⟨rfl, hx⟩
    replace hx := show Hid _ from hx
    go_wp2
    go_ret2
    exact ⟨rfl, hx.out⟩
end Go.Proofs.YtocdkgmmnkmlpaaDoor
