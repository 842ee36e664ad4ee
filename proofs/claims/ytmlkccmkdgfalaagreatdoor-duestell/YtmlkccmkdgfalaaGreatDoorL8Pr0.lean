
/- Names and terms of a product as plain functions, and holidays that rise: no program of its own is spoken of here. -/
import Derived.Test.YtmlkccmkdgfalaaGreatDoorLate
namespace Go.Proofs.YtmlkccmkdgfalaaGreatDoor.L8
open Go.RowKit
set_option linter.unusedVariables false

theorem ret_bool {a b : Bool} (h : a = b) : Ending.returned (.bool a) = .returned (.bool b) := by rw [h]
theorem ret_int {k : IntKind} {a b : Int} (h : a = b) : Ending.returned (.int k a) = .returned (.int k b) := by rw [h]
def I64 (n : Int) : Prop := -9223372036854775808 ≤ n ∧ n ≤ 9223372036854775807
theorem other {w : World} {b o b' o' : Nat} (x : Value) (h : b ≠ b' ∨ o ≠ o') : (w.setCell ⟨b, o, none⟩ x).cell? ⟨b', o', none⟩ = w.cell? ⟨b', o', none⟩ :=
  by
    apply World.cell?_setCell_other
    intro e
    injection e with e1 e2
    omega
theorem same {w : World} {a : Addr} {v u : Value} (h : w.cell? a = some u) : (w.setCell a v).cell? a = some v := by
  apply World.cell?_setCell_same
  exact h
/-- From low to high? -/
def lz (v a b : Int) : Bool := decide (a ≤ v) && decide (v ≤ b)
theorem lz_iff (v a b : Int) : lz v a b = true ↔ a ≤ v ∧ v ≤ b := by unfold lz; simp
theorem lz_no (v a b : Int) : lz v a b = false ↔ v < a ∨ b < v := by
  rw [← Bool.not_eq_true, lz_iff]; omega
/-- A letter a to z; a digit; what may follow a name's first letter. -/
def lowB (c : UInt8) : Bool := lz c.toNat 97 122
def digB (c : UInt8) : Bool := lz c.toNat 48 57
def inB (c : UInt8) : Bool := lowB c || (digB c || ((c.toNat : Int) == 45))
/-- The words of grammar. -/
def wordsL : List (List UInt8) := [[112, 114, 111, 100, 117, 99, 116],
  [99, 111, 117, 110, 116],
  [116, 104, 105, 114, 116, 121],
  [102, 105, 120, 101, 100],
  [97, 99, 116, 117, 97, 108],
  [114, 111, 117, 110, 100],
  [104, 97, 108, 102, 45, 117, 112],
  [100, 111, 119, 110],
  [107, 105, 110, 100],
  [97, 110, 110, 117, 105, 116, 121],
  [101, 113, 117, 97, 108],
  [98, 117, 108, 108, 101, 116],
  [101, 118, 101, 114, 121],
  [116, 105, 109, 101, 115],
  [103, 114, 97, 99, 101],
  [114, 97, 116, 101],
  [112, 101, 110, 97, 108, 116, 121],
  [114, 101, 115, 101, 116],
  [108, 97, 116, 101],
  [99, 97, 112],
  [104, 111, 108, 105, 100, 97, 121],
  [111, 114, 100, 101, 114],
  [102, 101, 101, 115],
  [105, 110, 116, 101, 114, 101, 115, 116],
  [112, 114, 105, 110, 99, 105, 112, 97, 108],
  [111, 118, 101, 114],
  [104, 111, 108, 100],
  [112, 114, 101, 112, 97, 121],
  [114, 101, 102, 117, 110, 100],
  [114, 111, 108, 108],
  [115, 116, 97, 121],
  [110, 101, 120, 116],
  [119, 105, 116, 104, 105, 110],
  [112, 114, 101, 118, 105, 111, 117, 115]]
def headB : List UInt8 → Bool
  | [] => false
  | c :: _ => lowB c
/-- May it be a name? -/
def nmb (l : List UInt8) : Bool := lz l.length 1 20 && (headB l && (l.all inB && !(decide (l ∈ wordsL))))
theorem nmb_long {l : List UInt8} (h : lz l.length 1 20 = false) : nmb l = false := by unfold nmb; rw [h]; rfl
theorem byte_drop {l : List UInt8} {k : Nat} {v : UInt8} (h : l[k]? = some v) : l.drop k = v :: l.drop (k + 1) := by
  obtain ⟨hk, e⟩ := List.getElem?_eq_some_iff.1 h
  rw [List.drop_eq_getElem_cons hk, e]
theorem byte_at {l : List UInt8} {k : Nat} {c : UInt8} (h : l[k]? = some c) : ∀ g, (⟨l.toArray⟩ : ByteArray)[k]'g = c := by
  intro g
  have h2 : (⟨l.toArray⟩ : ByteArray)[k]'g = l[k]'(by simpa [ByteArray.size] using g) := rfl
  rw [h2]
  exact (List.getElem?_eq_some_iff.1 h).2

/-- May a day be? Do holidays rise? -/
def inD (n : Int) : Bool := decide (-25567 ≤ n) && decide (n ≤ 84370)
theorem inD_iff (n : Int) : inD n = true ↔ -25567 ≤ n ∧ n ≤ 84370 := by unfold inD; simp
theorem inD_no (n : Int) : inD n = false ↔ n < -25567 ∨ 84370 < n := by
  rw [← Bool.not_eq_true, inD_iff]; omega
def rsg : Int → List Int → Bool
  | _, [] => true
  | a, x :: t => decide (a < x ∧ x ≤ 84370) && rsg x t
def rgt (l : List Int) : Bool := rsg (-25568) l && decide (l.length ≤ 200)
theorem rsg_yes {a x : Int} {t : List Int} (h1 : a < x) (h2 : x ≤ 84370) : rsg a (x :: t) = rsg x t := by simp [rsg, h1, h2]
theorem rsg_no {a x : Int} {t : List Int} (h : x ≤ a ∨ 84370 < x) : rsg a (x :: t) = false := by
  simp only [rsg]
  rw [decide_eq_false (by omega)]; rfl
theorem rgt_len {l : List Int} (h : rgt l = true) : l.length ≤ 200 := by
  unfold Go.Proofs.YtmlkccmkdgfalaaGreatDoor.L8.rgt at h
  simp only [Bool.and_eq_true, decide_eq_true_eq] at h
  exact h.2
theorem drop_at {α : Type} {l : List α} {k : Nat} {v : α} (h : l[k]? = some v) : l.drop k = v :: l.drop (k + 1) := by
  obtain ⟨hk, e⟩ := List.getElem?_eq_some_iff.1 h
  rw [List.drop_eq_getElem_cons hk, e]
theorem drop_end {α : Type} {l : List α} {k : Nat} (h : l.length ≤ k) : l.drop k = [] := List.drop_eq_nil_of_le h

/-- The rules of a product, one by one. -/
def r1B (cn rd kd ov rl : Int) : Bool := lz cn 1 3 && ((rd == 1 || rd == 3) && (lz kd 1 3 && (lz ov 1 3 && lz rl 1 4)))
def r2B (ev : Int) : Bool := ev == 1 || (ev == 2 || (ev == 3 || (ev == 4 || (ev == 6 || ev == 12))))
def r4B (kd tm gr : Int) : Bool := gr == 0 || (kd != 3 && (decide (0 < gr) && decide (gr < tm)))
def r5B (rt pn : Int) : Bool := lz rt 0 1000000000 && lz pn 0 1000000000
/-- Resets that rise from a on, below t. -/
def rsB (t : Int) : Int → List (Int × Int) → Bool
  | _, [] => true
  | a, (x, y) :: l => decide (a < x) && (decide (x < t) && (lz y 0 1000000000 && rsB t x l))
def r6B (t : Int) (l : List (Int × Int)) : Bool := decide (l.length ≤ 20) && rsB t 0 l
def r7B (a b c d : Int) : Bool := decide (1 ∈ [a, b, c, d]) && (decide (2 ∈ [a, b, c, d]) && (decide (3 ∈ [a, b, c, d]) && decide (4 ∈ [a, b, c, d])))
/-- Tiers that rise from a day on, with no fee below the one ahead. -/
def ltB : Int → Int → List (Int × Int) → Bool
  | _, _, [] => true
  | a, f, (x, y) :: l => decide (a < x) && (decide (x ≤ 365) && (lz y f 10000000000000 && ltB x y l))
def r8B (l : List (Int × Int)) : Bool := decide (l.length ≤ 8) && ltB 0 0 l
def r9B (n : Nat) (cp : Int) : Bool := cp == 0 || (decide (0 < n) && lz cp 0 10000000000000)
def r10B (rl : Int) (l : List Int) : Bool := if rl = 1 then decide (l.length = 0) else rgt l
end Go.Proofs.YtmlkccmkdgfalaaGreatDoor.L8