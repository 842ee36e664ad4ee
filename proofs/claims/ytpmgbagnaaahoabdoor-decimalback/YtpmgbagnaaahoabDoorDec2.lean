/- What digitsOnly, needForm, needWhole, signed and number of package decimal do, as contracts: no statement of the seat is proved here. -/
import Derived.Test.YtpmgbagnaaahoabDoorDec
namespace Go.Proofs.YtpmgbagnaaahoabDoor
open Go.RowKit Go.Lib
set_option linter.unusedVariables false

def digOnly (l : List UInt8) : Bool := !l.isEmpty && l.all isD
theorem trim_c (l : List UInt8) (w : World) (hl : l.length ≤ 1000) :
    Calls Tryd.prog 39 #[.string ⟨l.toArray⟩, .string ⟨#[48, 49, 50, 51, 52, 53, 54, 55, 56, 57]⟩] w fun e w' => e = .returned (.string ⟨(trimS l digs).toArray⟩) ∧ Ext w w' := by
  refine (Tryd.strings_Trim ⟨l.toArray⟩ ⟨#[48, 49, 50, 51, 52, 53, 54, 55, 56, 57]⟩ w (by rw [Lib.size_mk]; omega) (by decide) (by
    have : ∀ j : Fin 10, (([48, 49, 50, 51, 52, 53, 54, 55, 56, 57] : List UInt8)[j.val]).toNat < 128 := by decide
    intro j b hb
    have hj : j < 10 := by
      have := (List.getElem?_eq_some_iff.mp hb).1
      simpa using this
    have h2 := this ⟨j, hj⟩
    have h3 := (List.getElem?_eq_some_iff.mp hb).2
    rw [← h3]; exact h2)).mono ?_
  rintro e w' ⟨rfl, hb⟩
  exact ⟨rfl, ⟨hb⟩⟩
theorem digitsOnly_c (l : List UInt8) (w : World) (hl : l.length ≤ 1000) :
    Calls Tryd.prog 23 #[.string ⟨l.toArray⟩] w fun e w' => e = .returned (.bool (digOnly l)) ∧ Ext w w' := by
  cases l with
  | nil =>
    go_enter Tryd.func23, Tryd.ntmps23
    go_wp2
    go_ret
    exact ⟨rfl, Ext.refl _⟩
  | cons a b =>
    have ht := trimS_digs (a :: b)
    have hd : digOnly (a :: b) = (a :: b).all isD := rfl
    rw [hd]
    cases htr : trimS (a :: b) digs with
    | nil =>
      rw [ht.mp htr]
      clear ht hd
      go_enter Tryd.func23, Tryd.ntmps23
      go_wp2_with fail
      refine (trim_c _ _ hl).mono ?_
      rintro e w1 ⟨rfl, hx⟩
      rw [htr]
      go_wp2
      go_ret
      exact ⟨rfl, hx⟩
    | cons x y =>
      have hf : (a :: b).all isD = false := by
        cases hh : (a :: b).all isD
        · rfl
        · rw [ht.mpr hh] at htr; cases htr
      rw [hf]
      clear ht hd hf
      go_enter Tryd.func23, Tryd.ntmps23
      go_wp2_with fail
      refine (trim_c _ _ hl).mono ?_
      rintro e w1 ⟨rfl, hx⟩
      rw [htr]
      go_wp2
      go_ret
      exact ⟨rfl, hx⟩

theorem needForm_ok (w : World) : Calls Tryd.prog 22 #[.bool true] w fun e w' => e = .returned (.tuple #[]) ∧ w' = w := by
  go_enter Tryd.func22, Tryd.ntmps22
  go_wp2_with fail
  refine (need_ok _ _).mono ?_
  rintro e w1 ⟨rfl, rfl⟩
  go_wp2
  go_end0
  exact ⟨rfl, rfl⟩
theorem needForm_no (w : World) : Calls Tryd.prog 22 #[.bool false] w fun e w' => e = .panicked [{ v := .iface 23 (.int .i64 4), recovered := false }] ∧ w' = w := by
  go_enter Tryd.func22, Tryd.ntmps22
  go_wp2_with fail
  refine (need_no _ _).mono ?_
  rintro e w1 ⟨rfl, rfl⟩
  go_wp2
  exact ⟨rfl, rfl, rfl⟩

def headOk (l : List UInt8) : Bool := l == [48] || l.head? != some 48
def okWhole (l : List UInt8) (m : Nat) : Bool := decide (l.length ≤ m) && digOnly l && headOk l
theorem headOk_cases (a : UInt8) (b : List UInt8) : headOk (a :: b) = true ↔ (b = [] ∨ a ≠ 48) := by
  unfold headOk
  by_cases h : a = 48
  · subst h
    cases b <;> simp
  · simp [h]
@[go_sem] theorem idx0 (a : UInt8) (b : List UInt8) (h : 0 < (⟨(a :: b).toArray⟩ : ByteArray).size) : (⟨(a :: b).toArray⟩ : ByteArray)[0]'h = a := rfl
theorem needWhole_ok (l : List UInt8) (m : Nat) (w : World) (hl : l.length ≤ 1000) (hm : m ≤ 100) (h : okWhole l m = true) :
    Calls Tryd.prog 21 #[.string ⟨l.toArray⟩, .int .i64 m] w fun e w' => e = .returned (.tuple #[]) ∧ Ext w w' := by
  unfold okWhole at h
  simp only [Bool.and_eq_true, decide_eq_true_eq] at h
  obtain ⟨⟨h1, h2⟩, h3⟩ := h
  have hd := show Hid _ from h2
  clear h2
  cases l with
  | nil => cases hd.out
  | cons a b =>
    have h4 := (headOk_cases a b).mp h3
    clear h3
    have h1' : (b.length : Int) + 1 ≤ (m : Int) := by simp at h1; omega
    have hl1 : b.length + 1 ≤ m := by simpa using h1
    by_cases ha : a = 48
    · subst ha
      have hb : b = [] := by
        rcases h4 with k | k
        · exact k
        · exact absurd rfl k
      subst hb
      clear h4
      go_enter Tryd.func21, Tryd.ntmps21
      go_wp2_with fail
      refine (digitsOnly_c _ _ hl).mono ?_
      rintro e w1 ⟨rfl, hx⟩
      rw [hd.out]
      go_wp2_with fail
      refine (needForm_ok _).mono ?_
      rintro e w2 ⟨rfl, rfl⟩
      go_wp2_with fail
      refine (needForm_ok _).mono ?_
      rintro e w2 ⟨rfl, rfl⟩
      go_wp2
      go_end0
      exact ⟨rfl, hx⟩
    · have hne : (a == 48) = false := by simpa using ha
      have ha2 : a.toNat ≠ 48 := fun e => ha (UInt8.toNat_inj.mp e)
      have hne2 : ((a.toNat : Int) != 48) = true := by
        simp
        exact fun e => ha2 (by omega)
      clear h4 ha2
      go_enter Tryd.func21, Tryd.ntmps21
      go_wp2_with fail
      refine (digitsOnly_c _ _ hl).mono ?_
      rintro e w1 ⟨rfl, hx⟩
      rw [hd.out]
      go_wp2_with fail
      refine (needForm_ok _).mono ?_
      rintro e w2 ⟨rfl, rfl⟩
      go_wp2_with fail
      refine (needForm_ok _).mono ?_
      rintro e w2 ⟨rfl, rfl⟩
      go_wp2
      go_end0
      exact ⟨rfl, hx⟩

theorem needWhole_no (l : List UInt8) (m : Nat) (w : World) (hl : l.length ≤ 1000) (hm : m ≤ 100) (h : okWhole l m = false) :
    Calls Tryd.prog 21 #[.string ⟨l.toArray⟩, .int .i64 m] w fun e w' => e = .panicked [{ v := .iface 23 (.int .i64 4), recovered := false }] ∧ Ext w w' := by
  unfold okWhole at h
  by_cases h1 : l.length ≤ m
  · have h1' : (l.length : Int) ≤ (m : Int) := by omega
    cases hd : digOnly l
    · have hd := show Hid _ from hd
      clear h
      go_enter Tryd.func21, Tryd.ntmps21
      go_wp2_with fail
      refine (digitsOnly_c _ _ hl).mono ?_
      rintro e w1 ⟨rfl, hx⟩
      rw [hd.out]
      go_wp2_with fail
      refine (needForm_no _).mono ?_
      rintro e w2 ⟨rfl, rfl⟩
      go_wp2
      exact ⟨rfl, rfl, hx⟩
    · have h3 : headOk l = false := by
        rw [hd] at h
        simpa [h1] using h
      cases l with
      | nil => cases hd
      | cons a b =>
        have h4 : ¬ (b = [] ∨ a ≠ 48) := fun k => by rw [(headOk_cases a b).mpr k] at h3; cases h3
        have ha : a = 48 := by
          by_cases k : a = 48
          · exact k
          · exact absurd (Or.inr k) h4
        subst ha
        have hb : b ≠ [] := fun k => h4 (Or.inl k)
        cases b with
        | nil => exact absurd rfl hb
        | cons x y =>
          have hd := show Hid _ from hd
          clear h h3 h4 hb
          have h1'' : (y.length : Int) + 1 + 1 ≤ (m : Int) := by simp at h1'; omega
          clear h1 h1'
          go_enter Tryd.func21, Tryd.ntmps21
          go_wp2_with fail
          refine (digitsOnly_c _ _ hl).mono ?_
          rintro e w1 ⟨rfl, hx⟩
          rw [hd.out]
          go_wp2_with fail
          refine (needForm_ok _).mono ?_
          rintro e w2 ⟨rfl, rfl⟩
          go_wp2_with fail
          refine (needForm_no _).mono ?_
          rintro e w2 ⟨rfl, rfl⟩
          go_wp2
          exact ⟨rfl, rfl, hx⟩
  · have h1' : ¬ (l.length : Int) ≤ (m : Int) := by omega
    clear h
    go_enter Tryd.func21, Tryd.ntmps21
    go_wp2_with fail
    refine (needForm_no _).mono ?_
    rintro e w2 ⟨rfl, rfl⟩
    go_wp2
    exact ⟨rfl, rfl, Ext.refl _⟩

theorem signed_pos (n : Int) (w : World) :
    Calls Tryd.prog 24 #[.string ⟨#[]⟩, .int .i64 n] w fun e w' => e = .returned (.int .i64 n) ∧ w' = w := by
  go_enter Tryd.func24, Tryd.ntmps24
  go_wp2
  go_ret
  exact ⟨rfl, rfl⟩
theorem signed_neg (n : Int) (w : World) (h0 : 0 < n) (h1 : n ≤ 1000000000000000) :
    Calls Tryd.prog 24 #[.string ⟨#[45]⟩, .int .i64 n] w fun e w' => e = .returned (.int .i64 (-n)) ∧ w' = w := by
  have hne : (n != 0) = true := by simp; omega
  have hw : wrap64 (-n) = -n := by unfold wrap64; omega
  go_enter Tryd.func24, Tryd.ntmps24
  go_wp2_with fail
  refine (needForm_ok _).mono ?_
  rintro e w2 ⟨rfl, rfl⟩
  go_wp2
  go_ret
  exact ⟨rfl, rfl⟩
theorem signed_nil (w : World) :
    Calls Tryd.prog 24 #[.string ⟨#[45]⟩, .int .i64 0] w fun e w' => e = .panicked [{ v := .iface 23 (.int .i64 4), recovered := false }] ∧ w' = w := by
  go_enter Tryd.func24, Tryd.ntmps24
  go_wp2_with fail
  refine (needForm_no _).mono ?_
  rintro e w2 ⟨rfl, rfl⟩
  go_wp2
  exact ⟨rfl, rfl, rfl⟩

theorem sure_ok (n : Int) (w : World) :
    Calls Tryd.prog 40 #[.int .i64 n, .int .i64 0] w fun e w' => e = .returned (.int .i64 n) ∧ w' = w := by
  go_enter Tryd.func40, Tryd.ntmps40
  go_wp2_with fail
  refine (need_ok _ _).mono ?_
  rintro e w2 ⟨rfl, rfl⟩
  go_wp2
  go_ret
  exact ⟨rfl, rfl⟩
theorem sure_no (w : World) :
    Calls Tryd.prog 40 #[.int .i64 0, .int .i64 3] w fun e w' => e = .panicked [{ v := .iface 23 (.int .i64 3), recovered := false }] ∧ w' = w := by
  go_enter Tryd.func40, Tryd.ntmps40
  go_wp2_with fail
  refine (need_no _ _).mono ?_
  rintro e w2 ⟨rfl, rfl⟩
  go_wp2
  exact ⟨rfl, rfl, rfl⟩
end Go.Proofs.YtpmgbagnaaahoabDoor
