/- Texts of an elder layer, one behind the other (layer 8), as contracts: no statement of the seat is proved here. -/
import Derived.Test.YtafjmpaefikdcaaGreatDoorLate
import Derived.Test.YtafjmpaefikdcaaGreatDoorProg
import Derived.Deep.QuietTactic
import Derived.BigQuiet
import Derived.OwnWalk
import Derived.Laws.AppendOwn
import Derived.Laws.AppendOwnNone
import Derived.ProofKit
import Derived.Defers
/- Names and terms of a product as plain functions, and holidays that rise: no program of its own is spoken of here. -/
namespace Go.Proofs.YtafjmpaefikdcaaGreatDoor.L8
open Go.RowKit
set_option linter.unusedVariables false

theorem ret_bool {a b : Bool} (h : a = b) : Ending.returned (.bool a) = .returned (.bool b) := by rw [h]
theorem ret_int {k : IntKind} {a b : Int} (h : a = b) : Ending.returned (.int k a) = .returned (.int k b) := by rw [h]
def I64 (n : Int) : Prop := -9223372036854775808 ≤ n ∧ n ≤ 9223372036854775807
theorem other {w : World} {b o b' o' : Nat} (x : Value) (h : b ≠ b' ∨ o ≠ o') : (w.setCell ⟨b, o, none⟩ x).cell? ⟨b', o', none⟩ = w.cell? ⟨b', o', none⟩ :=
  by
    apply World.cell?_setCell_other
    intro e
    injection e with e1 e2
    omega
theorem same {w : World} {a : Addr} {v u : Value} (h : w.cell? a = some u) : (w.setCell a v).cell? a = some v := by
  apply World.cell?_setCell_same
  exact h
/-- From low to high? -/
def lz (v a b : Int) : Bool := decide (a ≤ v) && decide (v ≤ b)
theorem lz_iff (v a b : Int) : lz v a b = true ↔ a ≤ v ∧ v ≤ b := by unfold lz; simp
theorem lz_no (v a b : Int) : lz v a b = false ↔ v < a ∨ b < v := by
  rw [← Bool.not_eq_true, lz_iff]; omega
/-- A letter a to z; a digit; what may follow a name's first letter. -/
def lowB (c : UInt8) : Bool := lz c.toNat 97 122
def digB (c : UInt8) : Bool := lz c.toNat 48 57
def inB (c : UInt8) : Bool := lowB c || (digB c || ((c.toNat : Int) == 45))
/-- The words of grammar. -/
def wordsL : List (List UInt8) := [[112, 114, 111, 100, 117, 99, 116],
  [99, 111, 117, 110, 116],
  [116, 104, 105, 114, 116, 121],
  [102, 105, 120, 101, 100],
  [97, 99, 116, 117, 97, 108],
  [114, 111, 117, 110, 100],
  [104, 97, 108, 102, 45, 117, 112],
  [100, 111, 119, 110],
  [107, 105, 110, 100],
  [97, 110, 110, 117, 105, 116, 121],
  [101, 113, 117, 97, 108],
  [98, 117, 108, 108, 101, 116],
  [101, 118, 101, 114, 121],
  [116, 105, 109, 101, 115],
  [103, 114, 97, 99, 101],
  [114, 97, 116, 101],
  [112, 101, 110, 97, 108, 116, 121],
  [114, 101, 115, 101, 116],
  [108, 97, 116, 101],
  [99, 97, 112],
  [104, 111, 108, 105, 100, 97, 121],
  [111, 114, 100, 101, 114],
  [102, 101, 101, 115],
  [105, 110, 116, 101, 114, 101, 115, 116],
  [112, 114, 105, 110, 99, 105, 112, 97, 108],
  [111, 118, 101, 114],
  [104, 111, 108, 100],
  [112, 114, 101, 112, 97, 121],
  [114, 101, 102, 117, 110, 100],
  [114, 111, 108, 108],
  [115, 116, 97, 121],
  [110, 101, 120, 116],
  [119, 105, 116, 104, 105, 110],
  [112, 114, 101, 118, 105, 111, 117, 115]]
def headB : List UInt8 → Bool
  | [] => false
  | c :: _ => lowB c
/-- May it be a name? -/
def nmb (l : List UInt8) : Bool := lz l.length 1 20 && (headB l && (l.all inB && !(decide (l ∈ wordsL))))
theorem nmb_long {l : List UInt8} (h : lz l.length 1 20 = false) : nmb l = false := by unfold nmb; rw [h]; rfl
theorem byte_drop {l : List UInt8} {k : Nat} {v : UInt8} (h : l[k]? = some v) : l.drop k = v :: l.drop (k + 1) := by
  obtain ⟨hk, e⟩ := List.getElem?_eq_some_iff.1 h
  rw [List.drop_eq_getElem_cons hk, e]
theorem byte_at {l : List UInt8} {k : Nat} {c : UInt8} (h : l[k]? = some c) : ∀ g, (⟨l.toArray⟩ : ByteArray)[k]'g = c := by
  intro g
  have h2 : (⟨l.toArray⟩ : ByteArray)[k]'g = l[k]'(by simpa [ByteArray.size] using g) := rfl
  rw [h2]
  exact (List.getElem?_eq_some_iff.1 h).2

/-- May a day be? Do holidays rise? -/
def inD (n : Int) : Bool := decide (-25567 ≤ n) && decide (n ≤ 84370)
theorem inD_iff (n : Int) : inD n = true ↔ -25567 ≤ n ∧ n ≤ 84370 := by unfold inD; simp
theorem inD_no (n : Int) : inD n = false ↔ n < -25567 ∨ 84370 < n := by
  rw [← Bool.not_eq_true, inD_iff]; omega
def rsg : Int → List Int → Bool
  | _, [] => true
  | a, x :: t => decide (a < x ∧ x ≤ 84370) && rsg x t
def rgt (l : List Int) : Bool := rsg (-25568) l && decide (l.length ≤ 200)
theorem rsg_yes {a x : Int} {t : List Int} (h1 : a < x) (h2 : x ≤ 84370) : rsg a (x :: t) = rsg x t := by simp [rsg, h1, h2]
theorem rsg_no {a x : Int} {t : List Int} (h : x ≤ a ∨ 84370 < x) : rsg a (x :: t) = false := by
  simp only [rsg]
  rw [decide_eq_false (by omega)]; rfl
theorem rgt_len {l : List Int} (h : rgt l = true) : l.length ≤ 200 := by
  unfold Go.Proofs.YtafjmpaefikdcaaGreatDoor.L8.rgt at h
  simp only [Bool.and_eq_true, decide_eq_true_eq] at h
  exact h.2
theorem drop_at {α : Type} {l : List α} {k : Nat} {v : α} (h : l[k]? = some v) : l.drop k = v :: l.drop (k + 1) := by
  obtain ⟨hk, e⟩ := List.getElem?_eq_some_iff.1 h
  rw [List.drop_eq_getElem_cons hk, e]
theorem drop_end {α : Type} {l : List α} {k : Nat} (h : l.length ≤ k) : l.drop k = [] := List.drop_eq_nil_of_le h

/-- The rules of a product, one by one. -/
def r1B (cn rd kd ov rl : Int) : Bool := lz cn 1 3 && ((rd == 1 || rd == 3) && (lz kd 1 3 && (lz ov 1 3 && lz rl 1 4)))
def r2B (ev : Int) : Bool := ev == 1 || (ev == 2 || (ev == 3 || (ev == 4 || (ev == 6 || ev == 12))))
def r4B (kd tm gr : Int) : Bool := gr == 0 || (kd != 3 && (decide (0 < gr) && decide (gr < tm)))
def r5B (rt pn : Int) : Bool := lz rt 0 1000000000 && lz pn 0 1000000000
/-- Resets that rise from a on, below t. -/
def rsB (t : Int) : Int → List (Int × Int) → Bool
  | _, [] => true
  | a, (x, y) :: l => decide (a < x) && (decide (x < t) && (lz y 0 1000000000 && rsB t x l))
def r6B (t : Int) (l : List (Int × Int)) : Bool := decide (l.length ≤ 20) && rsB t 0 l
def r7B (a b c d : Int) : Bool := decide (1 ∈ [a, b, c, d]) && (decide (2 ∈ [a, b, c, d]) && (decide (3 ∈ [a, b, c, d]) && decide (4 ∈ [a, b, c, d])))
/-- Tiers that rise from a day on, with no fee below the one ahead. -/
def ltB : Int → Int → List (Int × Int) → Bool
  | _, _, [] => true
  | a, f, (x, y) :: l => decide (a < x) && (decide (x ≤ 365) && (lz y f 10000000000000 && ltB x y l))
def r8B (l : List (Int × Int)) : Bool := decide (l.length ≤ 8) && ltB 0 0 l
def r9B (n : Nat) (cp : Int) : Bool := cp == 0 || (decide (0 < n) && lz cp 0 10000000000000)
def r10B (rl : Int) (l : List Int) : Bool := if rl = 1 then decide (l.length = 0) else rgt l
end Go.Proofs.YtafjmpaefikdcaaGreatDoor.L8
/- What the small functions of package product that look at names, and Name, answer, and the document's own, as contracts: no statement of the seat is proved here. -/
namespace Go.Proofs.YtafjmpaefikdcaaGreatDoor.L8
open Go.RowKit
set_option linter.unusedVariables false

theorem liesI_c (v a b : Int) (w : World) :
    Calls Tryz.prog 100 #[.int .i64 v, .int .i64 a, .int .i64 b] w fun e w' => e = .returned (.bool (lz v a b)) ∧ w' = w := by
  unfold lz
  cases h1 : decide (a ≤ v) <;> cases h2 : decide (v ≤ b)
  all_goals
    go_enter Tryz.func100, Tryz.ntmps100
    go_wp2
    go_ret
    exact ⟨rfl, rfl⟩
theorem liesL_c (v a b : Int) (w : World) :
    Calls Tryz.prog 103 #[.int .i64 v, .int .i64 a, .int .i64 b] w fun e w' => e = .returned (.bool (lz v a b)) ∧ w' = w := by
  unfold lz
  cases h1 : decide (a ≤ v) <;> cases h2 : decide (v ≤ b)
  all_goals
    go_enter Tryz.func103, Tryz.ntmps103
    go_wp2
    go_ret
    exact ⟨rfl, rfl⟩
theorem liesB_c (v a b : Int) (w : World) :
    Calls Tryz.prog 128 #[.int .u8 v, .int .u8 a, .int .u8 b] w fun e w' => e = .returned (.bool (lz v a b)) ∧ w' = w := by
  unfold lz
  cases h1 : decide (a ≤ v) <;> cases h2 : decide (v ≤ b)
  all_goals
    go_enter Tryz.func128, Tryz.ntmps128
    go_wp2
    go_ret
    exact ⟨rfl, rfl⟩
theorem within_c (v a b : Int) (w : World) :
    Calls Tryz.prog 31 #[.int .i64 v, .int .i64 a, .int .i64 b] w fun e w' => e = .returned (.bool (lz v a b)) ∧ w' = w := by
  unfold lz
  cases h1 : decide (a ≤ v) <;> cases h2 : decide (v ≤ b)
  all_goals
    go_enter Tryz.func31, Tryz.ntmps31
    go_wp2
    go_ret
    exact ⟨rfl, rfl⟩
theorem liesI_x (v a b : Int) (B : Bool) (h : lz v a b = B) (w : World) :
    Calls Tryz.prog 100 #[.int .i64 v, .int .i64 a, .int .i64 b] w fun e w' => e = .returned (.bool B) ∧ w' = w := h ▸ liesI_c v a b w
theorem liesL_x (v a b : Int) (B : Bool) (h : lz v a b = B) (w : World) :
    Calls Tryz.prog 103 #[.int .i64 v, .int .i64 a, .int .i64 b] w fun e w' => e = .returned (.bool B) ∧ w' = w := h ▸ liesL_c v a b w
theorem liesB_x (v a b : Int) (B : Bool) (h : lz v a b = B) (w : World) :
    Calls Tryz.prog 128 #[.int .u8 v, .int .u8 a, .int .u8 b] w fun e w' => e = .returned (.bool B) ∧ w' = w := h ▸ liesB_c v a b w
theorem within_x (v a b : Int) (B : Bool) (h : lz v a b = B) (w : World) :
    Calls Tryz.prog 31 #[.int .i64 v, .int .i64 a, .int .i64 b] w fun e w' => e = .returned (.bool B) ∧ w' = w := h ▸ within_c v a b w
theorem small_c (c : UInt8) (w : World) :
    Calls Tryz.prog 115 #[.int .u8 c.toNat] w fun e w' => e = .returned (.bool (lowB c)) ∧ w' = w := by
  go_enter Tryz.func115, Tryz.ntmps115
  go_wp2_with fail
  refine (liesB_x _ _ _ (lowB c) rfl _).mono ?_
  rintro e w1 ⟨rfl, rfl⟩
  go_wp2
  go_ret
  exact ⟨rfl, rfl⟩
theorem small_x (c : UInt8) (B : Bool) (h : lowB c = B) (w : World) :
    Calls Tryz.prog 115 #[.int .u8 c.toNat] w fun e w' => e = .returned (.bool B) ∧ w' = w := h ▸ small_c c w
theorem rate_c (v : Int) (w : World) :
    Calls Tryz.prog 101 #[.int .i64 v] w fun e w' => e = .returned (.bool (lz v 0 1000000000)) ∧ w' = w := by
  go_enter Tryz.func101, Tryz.ntmps101
  go_wp2_with fail
  refine (liesL_c _ _ _ _).mono ?_
  rintro e w1 ⟨rfl, rfl⟩
  go_wp2
  go_ret
  exact ⟨rfl, rfl⟩
theorem rate_x (v : Int) (B : Bool) (h : lz v 0 1000000000 = B) (w : World) :
    Calls Tryz.prog 101 #[.int .i64 v] w fun e w' => e = .returned (.bool B) ∧ w' = w := h ▸ rate_c v w
end Go.Proofs.YtafjmpaefikdcaaGreatDoor.L8
/- What spelt, reserved and Name of package product answer, as contracts: no statement of the seat is proved here. -/
namespace Go.Proofs.YtafjmpaefikdcaaGreatDoor.L8
open Go.RowKit
set_option linter.unusedVariables false

theorem spelt_c (l : List UInt8) (w : World) (hl : l.length ≤ 9223372036854775807) :
    Calls Tryz.prog 116 #[.string ⟨l.toArray⟩] w fun e w' => e = .returned (.bool (l.all inB)) ∧ w' = w := by
  obtain ⟨n, hn⟩ : ∃ n, l.length = n := ⟨_, rfl⟩
  rw [hn] at hl
  go_enter Tryz.func116, Tryz.ntmps116
  go_wp2_with fail
  go_loop [7] (fun i => ∃ k : Nat, k ≤ n ∧ i = .int .i64 k ∧ Hid (l.all inB = (l.drop k).all inB)) (fun i => n - (RowKit.intOf i).toNat)
  case atStart => exact ⟨0, Nat.zero_le _, rfl, rfl⟩
  case round =>
    obtain ⟨k, hk, rfl, hA⟩ := hrel
    by_cases hlt : k < n
    · obtain ⟨c, hV⟩ : ∃ c, l[k]? = some c := ⟨_, List.getElem?_eq_getElem (by omega)⟩
      have hd := show Hid _ from byte_drop hV
      have hg := byte_at hV
      clear hV
      have hf : Hid (l.all inB = (inB c && (l.drop (k + 1)).all inB)) := by show _ = _; rw [hA.out, hd.out, List.all_cons]
      clear hA hd
      cases h1 : lowB c
      · cases h2 : digB c
        · cases h3 : ((c.toNat : Int) == 45)
          · have hr : Hid (l.all inB = false) := by show _ = _; rw [hf.out]; unfold inB; rw [h1, h2, h3]; rfl
            have h3' : ((c.toNat : Int) != 45) = true := by simp [bne, h3]
            replace h1 := show Hid _ from h1
            replace h2 := show Hid _ from h2
            clear hf
            go_wp2_with fail
            refine (small_x c false h1.out _).mono ?_
            rintro e w1 ⟨rfl, rfl⟩
            go_wp2_with fail
            refine (liesB_x _ _ _ false h2.out _).mono ?_
            rintro e w1 ⟨rfl, rfl⟩
            go_wp2
            go_ret
            exact ⟨ret_bool hr.out.symm, rfl⟩
          · have hr : Hid (l.all inB = (l.drop (k + 1)).all inB) := by show _ = _; rw [hf.out]; unfold inB; rw [h1, h2, h3]; rfl
            have h3' : ((c.toNat : Int) != 45) = false := by simp [bne, h3]
            replace h1 := show Hid _ from h1
            replace h2 := show Hid _ from h2
            clear hf
            go_wp2_with fail
            refine (small_x c false h1.out _).mono ?_
            rintro e w1 ⟨rfl, rfl⟩
            go_wp2_with fail
            refine (liesB_x _ _ _ false h2.out _).mono ?_
            rintro e w1 ⟨rfl, rfl⟩
            go_wp2
            go_round
            case rel => exact ⟨k + 1, by omega, by go_num, hr⟩
            case measure => simp [RowKit.intOf]; omega
        · have hr : Hid (l.all inB = (l.drop (k + 1)).all inB) := by show _ = _; rw [hf.out]; unfold inB; rw [h1, h2]; rfl
          replace h1 := show Hid _ from h1
          replace h2 := show Hid _ from h2
          clear hf
          go_wp2_with fail
          refine (small_x c false h1.out _).mono ?_
          rintro e w1 ⟨rfl, rfl⟩
          go_wp2_with fail
          refine (liesB_x _ _ _ true h2.out _).mono ?_
          rintro e w1 ⟨rfl, rfl⟩
          go_wp2
          go_round
          case rel => exact ⟨k + 1, by omega, by go_num, hr⟩
          case measure => simp [RowKit.intOf]; omega
      · have hr : Hid (l.all inB = (l.drop (k + 1)).all inB) := by show _ = _; rw [hf.out]; unfold inB; rw [h1]; rfl
        replace h1 := show Hid _ from h1
        clear hf
        go_wp2_with fail
        refine (small_x c true h1.out _).mono ?_
        rintro e w1 ⟨rfl, rfl⟩
        go_wp2
        go_round
        case rel => exact ⟨k + 1, by omega, by go_num, hr⟩
        case measure => simp [RowKit.intOf]; omega
    · obtain rfl : k = n := by omega
      have hf : Hid (l.all inB = true) := by show _ = _; rw [hA.out, drop_end (by omega)]; rfl
      clear hA
      go_wp2
      go_ret
      exact ⟨ret_bool hf.out.symm, rfl⟩
theorem any_dec (l : List UInt8) : ∀ ws : List (List UInt8), decide (l ∈ ws) = ws.any (fun x => l == x)
  | [] => by simp
  | x :: ws => by
    rw [List.any_cons, ← any_dec l ws]
    by_cases h : l = x
    · subst h; simp
    · simp [h]
theorem word_iff (l : List UInt8) : decide (l ∈ wordsL) = (l == [112, 114, 111, 100, 117, 99, 116] || (l == [99, 111, 117, 110, 116] || (l == [116, 104, 105, 114, 116, 121] || (l == [102, 105, 120, 101, 100] || (l == [97, 99, 116, 117, 97, 108] || (l == [114, 111, 117, 110, 100] || (l == [104, 97, 108, 102, 45, 117, 112] || (l == [100, 111, 119, 110] || (l == [107, 105, 110, 100] || (l == [97, 110, 110, 117, 105, 116, 121] || (l == [101, 113, 117, 97, 108] || (l == [98, 117, 108, 108, 101, 116] || (l == [101, 118, 101, 114, 121] || (l == [116, 105, 109, 101, 115] || (l == [103, 114, 97, 99, 101] || (l == [114, 97, 116, 101] || (l == [112, 101, 110, 97, 108, 116, 121] || (l == [114, 101, 115, 101, 116] || (l == [108, 97, 116, 101] || (l == [99, 97, 112] || (l == [104, 111, 108, 105, 100, 97, 121] || (l == [111, 114, 100, 101, 114] || (l == [102, 101, 101, 115] || (l == [105, 110, 116, 101, 114, 101, 115, 116] || (l == [112, 114, 105, 110, 99, 105, 112, 97, 108] || (l == [111, 118, 101, 114] || (l == [104, 111, 108, 100] || (l == [112, 114, 101, 112, 97, 121] || (l == [114, 101, 102, 117, 110, 100] || (l == [114, 111, 108, 108] || (l == [115, 116, 97, 121] || (l == [110, 101, 120, 116] || (l == [119, 105, 116, 104, 105, 110] || (l == [112, 114, 101, 118, 105, 111, 117, 115] || false)))))))))))))))))))))))))))))))))) :=
  any_dec l wordsL
set_option maxHeartbeats 2000000 in
theorem reserved_c (l : List UInt8) (w : World) :
    Calls Tryz.prog 117 #[.string ⟨l.toArray⟩] w fun e w' => e = .returned (.bool (decide (l ∈ wordsL))) ∧ w' = w := by
  rw [word_iff]
  go_enter Tryz.func117, Tryz.ntmps117
  go_wp2
  all_goals first
    | (rename_i a b; rw [a] at b; cases b; done)
    | (go_ret; exact ⟨ret_bool (by simp only [*, Bool.true_or, Bool.or_true, Bool.or_false]), rfl⟩)
theorem reserved_x (l : List UInt8) (B : Bool) (h : decide (l ∈ wordsL) = B) (w : World) :
    Calls Tryz.prog 117 #[.string ⟨l.toArray⟩] w fun e w' => e = .returned (.bool B) ∧ w' = w := h ▸ reserved_c l w
theorem spelt_x (l : List UInt8) (B : Bool) (h : l.all inB = B) (w : World) (hl : l.length ≤ 9223372036854775807) :
    Calls Tryz.prog 116 #[.string ⟨l.toArray⟩] w fun e w' => e = .returned (.bool B) ∧ w' = w := h ▸ spelt_c l w hl
theorem Name_c (l : List UInt8) (w : World) (hm : l.length ≤ 9223372036854775807) :
    Calls Tryz.prog 99 #[.string ⟨l.toArray⟩] w fun e w' => e = .returned (.bool (nmb l)) ∧ w' = w := by
  unfold nmb
  cases h0 : lz l.length 1 20
  · replace h0 := show Hid _ from h0
    go_enter Tryz.func99, Tryz.ntmps99
    go_wp2_with fail
    refine (liesI_x _ _ _ false h0.out _).mono ?_
    rintro e w1 ⟨rfl, rfl⟩
    go_wp2
    go_ret
    exact ⟨rfl, rfl⟩
  · cases l with
    | nil => exact absurd h0 (by decide)
    | cons c m =>
      have hlen : (c :: m).length ≤ 9223372036854775807 := by have := (lz_iff _ _ _).1 h0; omega
      have hg : ∀ g, (⟨(c :: m).toArray⟩ : ByteArray)[0]'g = c := byte_at rfl
      have hp : 0 < (c :: m).length := by simp
      have h1' : headB (c :: m) = lowB c := rfl
      rw [h1']
      clear h1'
      obtain ⟨L, hL⟩ : ∃ L, c :: m = L := ⟨_, rfl⟩
      rw [hL] at h0 hlen hg hp hm ⊢
      clear hL
      replace h0 := show Hid _ from h0
      replace hlen := show Hid _ from hlen
      cases h1 : lowB c
      · replace h1 := show Hid _ from h1
        go_enter Tryz.func99, Tryz.ntmps99
        go_wp2_with fail
        refine (liesI_x _ _ _ true h0.out _).mono ?_
        rintro e w1 ⟨rfl, rfl⟩
        go_wp2_with fail
        refine (small_x c false h1.out _).mono ?_
        rintro e w1 ⟨rfl, rfl⟩
        go_wp2
        go_ret
        exact ⟨rfl, rfl⟩
      · replace h1 := show Hid _ from h1
        cases h2 : L.all inB
        · replace h2 := show Hid _ from h2
          go_enter Tryz.func99, Tryz.ntmps99
          go_wp2_with fail
          refine (liesI_x _ _ _ true h0.out _).mono ?_
          rintro e w1 ⟨rfl, rfl⟩
          go_wp2_with fail
          refine (small_x c true h1.out _).mono ?_
          rintro e w1 ⟨rfl, rfl⟩
          go_wp2_with fail
          refine (spelt_x L false h2.out _ hlen.out).mono ?_
          rintro e w1 ⟨rfl, rfl⟩
          go_wp2
          go_ret
          exact ⟨rfl, rfl⟩
        · replace h2 := show Hid _ from h2
          go_enter Tryz.func99, Tryz.ntmps99
          go_wp2_with fail
          refine (liesI_x _ _ _ true h0.out _).mono ?_
          rintro e w1 ⟨rfl, rfl⟩
          go_wp2_with fail
          refine (small_x c true h1.out _).mono ?_
          rintro e w1 ⟨rfl, rfl⟩
          go_wp2_with fail
          refine (spelt_x L true h2.out _ hlen.out).mono ?_
          rintro e w1 ⟨rfl, rfl⟩
          go_wp2_with fail
          refine (reserved_c L _).mono ?_
          rintro e w1 ⟨rfl, rfl⟩
          go_wp2
          go_ret
          exact ⟨ret_bool (by simp), rfl⟩
theorem Name_x (l : List UInt8) (B : Bool) (h : nmb l = B) (w : World) (hm : l.length ≤ 9223372036854775807) :
    Calls Tryz.prog 99 #[.string ⟨l.toArray⟩] w fun e w' => e = .returned (.bool B) ∧ w' = w := h ▸ Name_c l w hm
end Go.Proofs.YtafjmpaefikdcaaGreatDoor.L8
/- What the document's Words, In (of texts) and Name answer, as contracts: no statement of the seat is proved here. -/
namespace Go.Proofs.YtafjmpaefikdcaaGreatDoor.L8
open Go.RowKit
set_option linter.unusedVariables false

/-- These texts lie in a block. -/
def Strs (w : World) (b : Nat) (ws : List (List UInt8)) : Prop := ∀ (k : Nat) (x : List UInt8), ws[k]? = some x → w.cell? ⟨b, k, none⟩ = some (.string ⟨x.toArray⟩)
theorem Strs.ext {w w' : World} {b : Nat} {ws : List (List UInt8)} (h : Strs w b ws) (hx : Ext w w') : Strs w' b ws := fun k x hk => hx.cell_of (h k x hk)
theorem strs_new (w : World) (ws : List (List UInt8)) (t : TypeId) : Strs (w.alloc (.cells (ws.map fun x => .string ⟨x.toArray⟩).toArray t)) w.heap.size ws := fun k x hk => by
  simp [go_sem, hk]
theorem Words_c (w : World) :
    Calls Tryz.prog 52 #[] w fun e w' => (∃ b, e = .returned (.slice (some ⟨b, 0, none⟩) 34 34) ∧ Strs w' b wordsL) ∧ Ext w w' := by
  have hS := strs_new w wordsL 9
  replace hS := show Hid _ from hS
  go_enter Tryz.func52, Tryz.ntmps52
  go_wp2
  go_ret
  exact ⟨⟨_, rfl, hS.out⟩, (Ext.refl _).alloc _ _⟩
theorem InS_c (b c : Nat) (ws : List (List UInt8)) (x : List UInt8) (w : World) (hl : ws.length ≤ 9223372036854775807) (hc : Strs w b ws) :
    Calls Tryz.prog 51 #[.slice (some ⟨b, 0, none⟩) ws.length c, .string ⟨x.toArray⟩] w fun e w' => e = .returned (.bool (decide (x ∈ ws))) ∧ w' = w := by
  replace hc := show Hid (Strs w b ws) from hc
  obtain ⟨n, hn⟩ : ∃ n, ws.length = n := ⟨_, rfl⟩
  rw [hn]
  rw [hn] at hl
  replace hn := show Hid _ from hn
  go_enter Tryz.func51, Tryz.ntmps51
  go_wp2_with fail
  go_loop [5] (fun i => ∃ k : Nat, k ≤ n ∧ i = .int .i64 k ∧ Hid (decide (x ∈ ws) = decide (x ∈ ws.drop k))) (fun i => n - (RowKit.intOf i).toNat)
  case atStart => exact ⟨0, Nat.zero_le _, rfl, rfl⟩
  case round =>
    obtain ⟨k, hk, rfl, hA⟩ := hrel
    by_cases hlt : k < n
    · obtain ⟨V, hV⟩ : ∃ V, ws[k]? = some V := ⟨_, List.getElem?_eq_getElem (by have := hn.out; omega)⟩
      have hcell := hc.out _ _ hV
      have hd := show Hid _ from drop_at hV
      clear hV
      by_cases h1 : V = x
      · subst h1
        have hf : Hid (decide (V ∈ ws) = true) := by show _ = _; rw [hA.out, hd.out]; simp
        clear hA hd
        go_wp2
        go_ret
        exact ⟨ret_bool hf.out.symm, rfl⟩
      · have hb : (V == x) = false := by simpa using h1
        have hf : Hid (decide (x ∈ ws) = decide (x ∈ ws.drop (k + 1))) := by
          show _ = _
          rw [hA.out, hd.out]
          have h1' : ¬ x = V := fun e => h1 e.symm
          simp [h1']
        clear hA hd h1
        go_wp2
        go_round
        case rel => exact ⟨k + 1, by omega, by go_num, hf⟩
        case measure => simp [RowKit.intOf]; omega
    · obtain rfl : k = n := by omega
      have hf : Hid (decide (x ∈ ws) = false) := by show _ = _; rw [hA.out, drop_end (by have := hn.out; omega)]; simp
      clear hA
      go_wp2
      go_ret
      exact ⟨ret_bool hf.out.symm, rfl⟩
/-- A name's bytes, as the document goes through them. -/
def okF : Nat → List UInt8 → Bool
  | _, [] => true
  | k, c :: m => (lowB c || (decide (k ≠ 0) && (digB c || ((c.toNat : Int) == 45)))) && okF (k + 1) m
theorem okF_all : ∀ (m : List UInt8) (k : Nat), okF (k + 1) m = m.all inB
  | [], _ => rfl
  | c :: m, k => by
    show ((lowB c || (decide (k + 1 ≠ 0) && (digB c || ((c.toNat : Int) == 45)))) && okF (k + 1 + 1) m) = _
    rw [okF_all m (k + 1), List.all_cons]
    rfl
theorem nmb_ref (l : List UInt8) : nmb l = (okF 0 l && (lz l.length 1 20 && !(decide (l ∈ wordsL)))) := by
  unfold nmb
  cases l with
  | nil => rfl
  | cons c m =>
    have h1 : headB (c :: m) = lowB c := rfl
    have h2 : okF 0 (c :: m) = ((lowB c || false) && okF 1 m) := rfl
    rw [h1, h2, okF_all m 0, List.all_cons]
    have h3 : inB c = (lowB c || (digB c || ((c.toNat : Int) == 45))) := rfl
    rw [h3]
    cases lowB c <;> cases m.all inB <;> cases lz (c :: m).length 1 20 <;> simp
theorem okF_yes {k : Nat} {c : UInt8} {m : List UInt8} (h : lowB c = true ∨ k ≠ 0 ∧ (digB c || ((c.toNat : Int) == 45)) = true) : okF k (c :: m) = okF (k + 1) m := by
  show ((lowB c || (decide (k ≠ 0) && (digB c || ((c.toNat : Int) == 45)))) && okF (k + 1) m) = _
  rcases h with h | ⟨h1, h2⟩
  · rw [h]; simp
  · rw [h2, decide_eq_true h1]; simp
theorem okF_no {k : Nat} {c : UInt8} {m : List UInt8} (h : lowB c = false) (h2 : k = 0 ∨ (digB c || ((c.toNat : Int) == 45)) = false) : okF k (c :: m) = false := by
  show ((lowB c || (decide (k ≠ 0) && (digB c || ((c.toNat : Int) == 45)))) && okF (k + 1) m) = _
  rw [h]
  rcases h2 with h2 | h2
  · rw [decide_eq_false (by omega)]; simp
  · rw [h2]; simp
set_option maxHeartbeats 2000000 in
theorem rName_c (l : List UInt8) (w : World) (hl : l.length ≤ 9223372036854775807) :
    Calls Tryz.prog 30 #[.string ⟨l.toArray⟩] w fun e w' => e = .returned (.bool (nmb l)) ∧ Ext w w' := by
  obtain ⟨n, hn⟩ : ∃ n, l.length = n := ⟨_, rfl⟩
  rw [hn] at hl
  go_enter Tryz.func30, Tryz.ntmps30
  go_wp2_with fail
  go_loop [3] (fun i => ∃ k : Nat, k ≤ n ∧ i = .int .i64 k ∧ Hid (okF 0 l = okF k (l.drop k))) (fun i => n - (RowKit.intOf i).toNat)
  case atStart => exact ⟨0, Nat.zero_le _, rfl, rfl⟩
  case round =>
    obtain ⟨k, hk, rfl, hA⟩ := hrel
    by_cases hlt : k < n
    · obtain ⟨c, hV⟩ : ∃ c, l[k]? = some c := ⟨_, List.getElem?_eq_getElem (by omega)⟩
      have hd := show Hid _ from byte_drop hV
      have hg := byte_at hV
      clear hV
      rcases (show (97 ≤ (c.toNat : Int) ∧ (c.toNat : Int) ≤ 122) ∨ (48 ≤ (c.toNat : Int) ∧ (c.toNat : Int) ≤ 57) ∨ ((c.toNat : Int) = 45) ∨ (122 < (c.toNat : Int)) ∨ (57 < (c.toNat : Int) ∧ (c.toNat : Int) < 97) ∨ ((c.toNat : Int) < 48 ∧ ¬ (c.toNat : Int) = 45) by omega) with hN | hN | hN | hN | hN | hN
      · have d1 : decide (97 ≤ (c.toNat : Int)) = true := decide_eq_true (by omega)
        have d2 : decide ((c.toNat : Int) ≤ 122) = true := decide_eq_true (by omega)
        have d3 : decide (48 ≤ (c.toNat : Int)) = true := decide_eq_true (by omega)
        have d4 : decide ((c.toNat : Int) ≤ 57) = false := decide_eq_false (by omega)
        have d5 : ((c.toNat : Int) == 45) = false := by simp; omega
        have e1 : lowB c = true := by unfold lowB lz; rw [d1, d2]; rfl
        have e2 : (digB c || ((c.toNat : Int) == 45)) = false := by unfold digB lz; rw [d3, d4, d5]; rfl
        clear hN
        have hf : Hid (okF 0 l = okF (k + 1) (l.drop (k + 1))) := by show _ = _; rw [hA.out, hd.out, okF_yes (Or.inl e1)]
        clear hA hd e1 e2
        go_wp2
        go_round
        case rel => exact ⟨k + 1, by omega, by go_num, hf⟩
        case measure => simp [RowKit.intOf]; omega
      · have d1 : decide (97 ≤ (c.toNat : Int)) = false := decide_eq_false (by omega)
        have d2 : decide ((c.toNat : Int) ≤ 122) = true := decide_eq_true (by omega)
        have d3 : decide (48 ≤ (c.toNat : Int)) = true := decide_eq_true (by omega)
        have d4 : decide ((c.toNat : Int) ≤ 57) = true := decide_eq_true (by omega)
        have d5 : ((c.toNat : Int) == 45) = false := by simp; omega
        have e1 : lowB c = false := by unfold lowB lz; rw [d1, d2]; rfl
        have e2 : (digB c || ((c.toNat : Int) == 45)) = true := by unfold digB lz; rw [d3, d4, d5]; rfl
        clear hN
        by_cases hk0 : k = 0
        · have hz : ((k : Int) == 0) = true := by simp; omega
          have hf : Hid (nmb l = false) := by show _ = _; rw [nmb_ref, hA.out, hd.out, okF_no e1 (Or.inl hk0)]; rfl
          clear hA hd e1 e2 hk0
          go_wp2
          go_ret
          exact ⟨ret_bool hf.out.symm, Ext.refl _⟩
        · have hz : ((k : Int) == 0) = false := by simp; omega
          have hf : Hid (okF 0 l = okF (k + 1) (l.drop (k + 1))) := by show _ = _; rw [hA.out, hd.out, okF_yes (Or.inr ⟨hk0, e2⟩)]
          clear hA hd e1 e2
          go_wp2
          go_round
          case rel => exact ⟨k + 1, by omega, by go_num, hf⟩
          case measure => simp [RowKit.intOf]; omega
      · have d1 : decide (97 ≤ (c.toNat : Int)) = false := decide_eq_false (by omega)
        have d2 : decide ((c.toNat : Int) ≤ 122) = true := decide_eq_true (by omega)
        have d3 : decide (48 ≤ (c.toNat : Int)) = false := decide_eq_false (by omega)
        have d4 : decide ((c.toNat : Int) ≤ 57) = true := decide_eq_true (by omega)
        have d5 : ((c.toNat : Int) == 45) = true := by simp; omega
        have e1 : lowB c = false := by unfold lowB lz; rw [d1, d2]; rfl
        have e2 : (digB c || ((c.toNat : Int) == 45)) = true := by unfold digB lz; rw [d3, d4, d5]; rfl
        clear hN
        by_cases hk0 : k = 0
        · have hz : ((k : Int) == 0) = true := by simp; omega
          have hf : Hid (nmb l = false) := by show _ = _; rw [nmb_ref, hA.out, hd.out, okF_no e1 (Or.inl hk0)]; rfl
          clear hA hd e1 e2 hk0
          go_wp2
          go_ret
          exact ⟨ret_bool hf.out.symm, Ext.refl _⟩
        · have hz : ((k : Int) == 0) = false := by simp; omega
          have hf : Hid (okF 0 l = okF (k + 1) (l.drop (k + 1))) := by show _ = _; rw [hA.out, hd.out, okF_yes (Or.inr ⟨hk0, e2⟩)]
          clear hA hd e1 e2
          go_wp2
          go_round
          case rel => exact ⟨k + 1, by omega, by go_num, hf⟩
          case measure => simp [RowKit.intOf]; omega
      · have d1 : decide (97 ≤ (c.toNat : Int)) = true := decide_eq_true (by omega)
        have d2 : decide ((c.toNat : Int) ≤ 122) = false := decide_eq_false (by omega)
        have d3 : decide (48 ≤ (c.toNat : Int)) = true := decide_eq_true (by omega)
        have d4 : decide ((c.toNat : Int) ≤ 57) = false := decide_eq_false (by omega)
        have d5 : ((c.toNat : Int) == 45) = false := by simp; omega
        have e1 : lowB c = false := by unfold lowB lz; rw [d1, d2]; rfl
        have e2 : (digB c || ((c.toNat : Int) == 45)) = false := by unfold digB lz; rw [d3, d4, d5]; rfl
        clear hN
        by_cases hk0 : k = 0
        · have hz : ((k : Int) == 0) = true := by simp; omega
          have hf : Hid (nmb l = false) := by show _ = _; rw [nmb_ref, hA.out, hd.out, okF_no e1 (Or.inl hk0)]; rfl
          clear hA hd e1 e2 hk0
          go_wp2
          go_ret
          exact ⟨ret_bool hf.out.symm, Ext.refl _⟩
        · have hz : ((k : Int) == 0) = false := by simp; omega
          have hf : Hid (nmb l = false) := by show _ = _; rw [nmb_ref, hA.out, hd.out, okF_no e1 (Or.inr e2)]; rfl
          clear hA hd e1 e2 hk0
          go_wp2
          go_ret
          exact ⟨ret_bool hf.out.symm, Ext.refl _⟩
      · have d1 : decide (97 ≤ (c.toNat : Int)) = false := decide_eq_false (by omega)
        have d2 : decide ((c.toNat : Int) ≤ 122) = true := decide_eq_true (by omega)
        have d3 : decide (48 ≤ (c.toNat : Int)) = true := decide_eq_true (by omega)
        have d4 : decide ((c.toNat : Int) ≤ 57) = false := decide_eq_false (by omega)
        have d5 : ((c.toNat : Int) == 45) = false := by simp; omega
        have e1 : lowB c = false := by unfold lowB lz; rw [d1, d2]; rfl
        have e2 : (digB c || ((c.toNat : Int) == 45)) = false := by unfold digB lz; rw [d3, d4, d5]; rfl
        clear hN
        by_cases hk0 : k = 0
        · have hz : ((k : Int) == 0) = true := by simp; omega
          have hf : Hid (nmb l = false) := by show _ = _; rw [nmb_ref, hA.out, hd.out, okF_no e1 (Or.inl hk0)]; rfl
          clear hA hd e1 e2 hk0
          go_wp2
          go_ret
          exact ⟨ret_bool hf.out.symm, Ext.refl _⟩
        · have hz : ((k : Int) == 0) = false := by simp; omega
          have hf : Hid (nmb l = false) := by show _ = _; rw [nmb_ref, hA.out, hd.out, okF_no e1 (Or.inr e2)]; rfl
          clear hA hd e1 e2 hk0
          go_wp2
          go_ret
          exact ⟨ret_bool hf.out.symm, Ext.refl _⟩
      · have d1 : decide (97 ≤ (c.toNat : Int)) = false := decide_eq_false (by omega)
        have d2 : decide ((c.toNat : Int) ≤ 122) = true := decide_eq_true (by omega)
        have d3 : decide (48 ≤ (c.toNat : Int)) = false := decide_eq_false (by omega)
        have d4 : decide ((c.toNat : Int) ≤ 57) = true := decide_eq_true (by omega)
        have d5 : ((c.toNat : Int) == 45) = false := by simp; omega
        have e1 : lowB c = false := by unfold lowB lz; rw [d1, d2]; rfl
        have e2 : (digB c || ((c.toNat : Int) == 45)) = false := by unfold digB lz; rw [d3, d4, d5]; rfl
        clear hN
        by_cases hk0 : k = 0
        · have hz : ((k : Int) == 0) = true := by simp; omega
          have hf : Hid (nmb l = false) := by show _ = _; rw [nmb_ref, hA.out, hd.out, okF_no e1 (Or.inl hk0)]; rfl
          clear hA hd e1 e2 hk0
          go_wp2
          go_ret
          exact ⟨ret_bool hf.out.symm, Ext.refl _⟩
        · have hz : ((k : Int) == 0) = false := by simp; omega
          have hf : Hid (nmb l = false) := by show _ = _; rw [nmb_ref, hA.out, hd.out, okF_no e1 (Or.inr e2)]; rfl
          clear hA hd e1 e2 hk0
          go_wp2
          go_ret
          exact ⟨ret_bool hf.out.symm, Ext.refl _⟩
    · obtain rfl : k = n := by omega
      have hf : Hid (nmb l = (lz k 1 20 && !(decide (l ∈ wordsL)))) := by
        show _ = _
        rw [nmb_ref, hA.out, drop_end (by omega), hn]; rfl
      clear hA
      cases h1 : decide (1 ≤ (k : Int))
      · have hf' : Hid (nmb l = false) := by show _ = _; rw [hf.out]; unfold lz; rw [h1]; rfl
        clear hf
        go_wp2
        go_ret
        exact ⟨ret_bool hf'.out.symm, Ext.refl _⟩
      · cases h2 : decide ((k : Int) ≤ 20)
        · have hf' : Hid (nmb l = false) := by show _ = _; rw [hf.out]; unfold lz; rw [h1, h2]; rfl
          clear hf
          go_wp2
          go_ret
          exact ⟨ret_bool hf'.out.symm, Ext.refl _⟩
        · have hf' : Hid (nmb l = !(decide (l ∈ wordsL))) := by show _ = _; rw [hf.out]; unfold lz; rw [h1, h2]; rfl
          clear hf
          go_wp2_with fail
          refine (Words_c _).mono ?_
          rintro e w1 ⟨⟨b, rfl, hS⟩, hx⟩
          replace hx := show Hid _ from hx
          replace hS := show Hid (Strs w1 b wordsL) from hS
          go_wp2_with fail
          refine (InS_c b 34 wordsL l _ (by decide) hS.out).mono ?_
          rintro e w2 ⟨rfl, rfl⟩
          go_wp2
          go_ret
          exact ⟨ret_bool hf'.out.symm, hx.out⟩
theorem rName_x (l : List UInt8) (B : Bool) (h : nmb l = B) (w : World) (hl : l.length ≤ 9223372036854775807) :
    Calls Tryz.prog 30 #[.string ⟨l.toArray⟩] w fun e w' => e = .returned (.bool B) ∧ Ext w w' := h ▸ rName_c l w hl
end Go.Proofs.YtafjmpaefikdcaaGreatDoor.L8
/- Rows of numbers that came in, and what business.New, the library's search, and the document's Right and In answer, as contracts: no statement of the seat is proved here. -/
namespace Go.Proofs.YtafjmpaefikdcaaGreatDoor.L8
open Go.RowKit
set_option linter.unusedVariables false

/-- A slice of these numbers: of none whatever its address, else cells. -/
def Slc (w : World) (v : Value) (l : List Int) : Prop :=
  (∃ a c, v = .slice a 0 c ∧ (a = none → c = 0) ∧ l = []) ∨ ∃ b off c, v = .slice (some ⟨b, off, none⟩) l.length c ∧ ∀ (k : Nat) (x : Int), l[k]? = some x → w.cell? ⟨b, off + k, none⟩ = some (.int .i64 x)
theorem Slc.ext {w w' : World} {v : Value} {l : List Int} (h : Slc w v l) (hx : Ext w w') : Slc w' v l := by
  rcases h with h | ⟨b, off, c, e, hc⟩
  · exact Or.inl h
  · exact Or.inr ⟨b, off, c, e, fun k v hk => hx.cell_of (hc k v hk)⟩
theorem Slc.len {w : World} {v : Value} {l : List Int} (h : Slc w v l) : ∃ a c, v = .slice a l.length c := by
  rcases h with ⟨a, c, rfl, _, rfl⟩ | ⟨b, off, c, rfl, _⟩
  · exact ⟨_, _, rfl⟩
  · exact ⟨_, _, rfl⟩
theorem Is_c (n : Int) (w : World) :
    Calls Tryz.prog 48 #[.int .i64 n] w fun e w' => e = .returned (.bool (inD n)) ∧ w' = w := by
  unfold inD
  cases h1 : decide (-25567 ≤ n) <;> cases h2 : decide (n ≤ 84370)
  all_goals
    go_enter Tryz.func48, Tryz.ntmps48
    go_wp2
    go_ret
    exact ⟨rfl, rfl⟩
theorem info_int : (Tryz.prog.info? 3).map (fun i => (i.zero, i.size, i.bytes)) = some (some (.int .i64 0), 1, 8) := by kernel_rfl
theorem rising_nil (a : Option Addr) (c : Nat) (w : World) :
    Calls Tryz.prog 119 #[.slice a 0 c] w fun e w' => e = .returned (.bool true) ∧ w' = w := by
  go_enter Tryz.func119, Tryz.ntmps119
  go_wp2_with fail
  refine wp_loop_rounds 1 ?_
  rw [rounds_succ]
  go_wp2
  go_ret
  exact ⟨rfl, rfl⟩
theorem rising_c (b off c : Nat) (l : List Int) (w : World) (hl : l.length ≤ 9223372036854775807) (hc : ∀ (k : Nat) (v : Int), l[k]? = some v → w.cell? ⟨b, off + k, none⟩ = some (.int .i64 v)) :
    Calls Tryz.prog 119 #[.slice (some ⟨b, off, none⟩) l.length c] w fun e w' => e = .returned (.bool (rsg (-25568) l)) ∧ w' = w := by
  replace hc := show Hid _ from hc
  obtain ⟨n, hn⟩ : ∃ n, l.length = n := ⟨_, rfl⟩
  rw [hn]
  rw [hn] at hl
  replace hn := show Hid _ from hn
  go_enter Tryz.func119, Tryz.ntmps119
  go_wp2_with fail
  go_loop [3, 8] (fun u i => ∃ (k : Nat) (A : Int), k ≤ n ∧ i = .int .i64 k ∧ u = .int .i64 A ∧ Hid (rsg (-25568) l = rsg A (l.drop k))) (fun _ i => n - (RowKit.intOf i).toNat)
  case atStart => exact ⟨0, -25568, Nat.zero_le _, rfl, rfl, rfl⟩
  case round =>
    obtain ⟨k, A, hk, rfl, rfl, hA⟩ := hrel
    by_cases hlt : k < n
    · obtain ⟨V, hV⟩ : ∃ V, l[k]? = some V := ⟨_, List.getElem?_eq_getElem (by have := hn.out; omega)⟩
      have hcell := hc.out _ _ hV
      have hd := show Hid _ from drop_at hV
      clear hV
      by_cases h1 : V ≤ A
      · have hf : Hid (rsg (-25568) l = false) := by show _ = _; rw [hA.out, hd.out]; exact rsg_no (Or.inl h1)
        clear hA hd
        go_wp2
        go_ret
        exact ⟨ret_bool hf.out.symm, rfl⟩
      · by_cases h2 : 84370 < V
        · have hf : Hid (rsg (-25568) l = false) := by show _ = _; rw [hA.out, hd.out]; exact rsg_no (Or.inr h2)
          clear hA hd
          go_wp2
          go_ret
          exact ⟨ret_bool hf.out.symm, rfl⟩
        · have hf : Hid (rsg (-25568) l = rsg V (l.drop (k + 1))) := by show _ = _; rw [hA.out, hd.out]; exact rsg_yes (by omega) (by omega)
          clear hA hd
          go_wp2
          go_round
          case rel => exact ⟨k + 1, V, by omega, by go_num, rfl, hf⟩
          case measure => simp [RowKit.intOf]; omega
    · obtain rfl : k = n := by omega
      have hf : Hid (rsg (-25568) l = true) := by show _ = _; rw [hA.out, drop_end (by have := hn.out; omega)]; rfl
      clear hA
      go_wp2
      go_ret
      exact ⟨ret_bool hf.out.symm, rfl⟩
theorem New_no (v : Value) (l : List Int) (w : World) (hv : Slc w v l) (hl : l.length ≤ 9223372036854775807) (hr : rgt l = false) :
    Calls Tryz.prog 104 #[v] w fun e w' => e = .returned (.tuple #[.pointer none, .int .i64 1]) ∧ w' = w := by
  rcases hv with ⟨a, c, rfl, _, rfl⟩ | ⟨b, off, c, rfl, hc⟩
  · exact absurd hr (by decide)
  · by_cases h2 : 200 < l.length
    · generalize l.length = n at *
      clear hr hc
      have h3 : (200 : Int) < (n : Int) := by omega
      go_enter Tryz.func104, Tryz.ntmps104
      go_wp2
      go_ret2
      exact ⟨rfl, rfl⟩
    · have hR : Hid (Calls Tryz.prog 119 #[.slice (some ⟨b, off, none⟩) l.length c] w fun e w' => e = .returned (.bool false) ∧ w' = w) := by
        have := rising_c b off c l w (by omega) hc
        rwa [show rsg (-25568) l = false by
          unfold rgt at hr
          rw [decide_eq_true (show l.length ≤ 200 by omega)] at hr
          simpa using hr] at this
      clear hc hr
      generalize l.length = n at *
      have h3 : ¬ (200 : Int) < (n : Int) := by omega
      go_enter Tryz.func104, Tryz.ntmps104
      go_wp2_with (go_at_call 119; refine Calls.mono hR.out ?_; rintro e w' ⟨rfl, rfl⟩)
      go_ret2
      exact ⟨rfl, rfl⟩
theorem own_slice {w : World} {B : Nat} {e : TypeId} {z : Nat} {v : Value} {n : Nat} {xs : List Value} (h : w.ownsRow B e z v n xs) : ∃ ao k c, v = .slice ao k c := by
  rcases h.2 with ⟨rfl, _⟩ | ⟨g, c, cur, rfl, _⟩
  · exact ⟨_, _, _, rfl⟩
  · exact ⟨_, _, _, rfl⟩
theorem New_x (b off c : Nat) (l : List Int) (w : World) (hl : l.length ≤ 200) (hc : ∀ (k : Nat) (v : Int), l[k]? = some v → w.cell? ⟨b, off + k, none⟩ = some (.int .i64 v)) (hr : rgt l = true) :
    Calls Tryz.prog 104 #[.slice (some ⟨b, off, none⟩) l.length c] w fun e w' => (∃ p, e = .returned (.tuple #[p, .int .i64 0])) ∧ Ext w w' := by
  have hR : Hid (∀ w : World, (∀ (k : Nat) (v : Int), l[k]? = some v → w.cell? ⟨b, off + k, none⟩ = some (.int .i64 v)) → Calls Tryz.prog 119 #[.slice (some ⟨b, off, none⟩) l.length c] w fun e w' => e = .returned (.bool true) ∧ w' = w) := fun w hc => by
    have := rising_c b off c l w (by omega) hc
    rwa [show rsg (-25568) l = true by
      unfold rgt at hr
      simp only [Bool.and_eq_true] at hr
      exact hr.1] at this
  replace hr := show Hid _ from hr
  replace hc := show Hid _ from hc
  obtain ⟨i0, hi, hz0, hz1, hz2⟩ := info_parts info_int
  obtain ⟨n, hn⟩ : ∃ n, l.length = n := ⟨_, rfl⟩
  rw [hn] at hl ⊢
  rw [hn] at hR
  replace hn := show Hid _ from hn
  have h3 : ¬ (200 : Int) < (n : Int) := by omega
  go_enter Tryz.func104, Tryz.ntmps104
  go_wp2_with (first
    | (go_at_call 119; refine Calls.mono (hR.out _ hc.out) ?_; rintro e wa ⟨rfl, rfl⟩)
    | (at_builtin; refine wpList_append_own _ rfl (.tmp 12) (.tmp 13) 25 rfl wa.heap.size 3 i0 (.int .i64 0) 1 8 Tryz.underlying25 hi hz0 hz1 hz2 rfl (by decide) _ _ _ rfl (World.ownsRow_made wa #[] 0 (Nat.le_refl _) (by decide) rfl) ⟨b, off, none⟩ n c (l.map (.int .i64)) rfl ?c0 ?c1 ?c2 ?c3 ?c4 ?c5 ?_))
  case c0 => simp; exact hn.out
  case c1 =>
    intro j u hj
    simp at hj
    obtain ⟨x, hx, rfl⟩ := hj
    rw [Addr.add_lit]
    exact ((Ext.refl wa).alloc #[] 3).cell_of (hc.out j x hx)
  case c2 => intro u hu; simp at hu; obtain ⟨x, _, rfl⟩ := hu; rfl
  case c3 => unfold maxLen; omega
  case c4 => omega
  case c5 => simp
  intro v' w3 hown' hgrow _
  have hx3 : Hid (Ext wa w3) := ⟨(((Ext.refl wa).alloc _ _).below).grown hgrow (by simp) (fun k hk => by injection hk with hk; subst hk; exact Nat.le_refl _)⟩
  have hr3 : Hid (w3.ownsRow wa.heap.size 3 1 v' l.length (l.map (.int .i64))) := by
    show w3.ownsRow _ _ _ _ _ _
    have := hn.out
    rw [hn.out]; simpa using hown'
  clear hown' hgrow hi hz0 hz1 hz2
  obtain ⟨ao, n', c', rfl⟩ := own_slice hr3.out
  go_wp2
  go_ret2
  exact ⟨⟨_, rfl⟩, hx3.out.alloc _ _⟩
theorem New_y (ad : Addr) (c : Nat) (w : World) :
    Calls Tryz.prog 104 #[.slice (some ad) 0 c] w fun e w' => (∃ p, e = .returned (.tuple #[p, .int .i64 0])) ∧ Ext w w' := by
  obtain ⟨i0, hi, hz0, hz1, hz2⟩ := info_parts info_int
  go_enter Tryz.func104, Tryz.ntmps104
  go_wp2_with (first
    | (go_at_call 119; refine Calls.mono (rising_nil _ _ _) ?_; rintro e wa ⟨rfl, rfl⟩)
    | (at_builtin; refine wpList_append_own _ rfl (.tmp 12) (.tmp 13) 25 rfl wa.heap.size 3 i0 (.int .i64 0) 1 8 Tryz.underlying25 hi hz0 hz1 hz2 rfl (by decide) _ _ _ rfl (World.ownsRow_made wa #[] 0 (Nat.le_refl _) (by decide) rfl) ad 0 c [] rfl rfl (fun j u hj => by simp at hj) (fun u hu => by cases hu) (by decide) (by decide) (by simp) ?_))
  intro v' w3 hown' hgrow _
  have hx3 : Hid (Ext wa w3) := ⟨(((Ext.refl wa).alloc _ _).below).grown hgrow (by simp) (fun k hk => by injection hk with hk; subst hk; exact Nat.le_refl _)⟩
  have hr3 : Hid (w3.ownsRow wa.heap.size 3 1 v' 0 []) := by
    show w3.ownsRow _ _ _ _ _ _
    simpa using hown'
  clear hown' hgrow hi hz0 hz1 hz2
  obtain ⟨ao, n', c', rfl⟩ := own_slice hr3.out
  go_wp2
  go_ret2
  exact ⟨⟨_, rfl⟩, hx3.out.alloc _ _⟩
theorem New_z (w : World) :
    Calls Tryz.prog 104 #[.slice none 0 0] w fun e w' => (∃ p, e = .returned (.tuple #[p, .int .i64 0])) ∧ Ext w w' := by
  obtain ⟨i0, hi, hz0, hz1, hz2⟩ := info_parts info_int
  go_enter Tryz.func104, Tryz.ntmps104
  go_wp2_with (first
    | (go_at_call 119; refine Calls.mono (rising_nil _ _ _) ?_; rintro e wa ⟨rfl, rfl⟩)
    | (at_builtin; refine wpList_append_own_none rfl (.tmp 12) (.tmp 13) 25 rfl wa.heap.size 3 i0 1 Tryz.underlying25 hi _ _ _ rfl (World.ownsRow_made wa #[] 0 (Nat.le_refl _) (by decide) rfl) rfl ?_))
  go_ret2
  exact ⟨⟨_, rfl⟩, ((Ext.refl _).alloc _ _).alloc _ _⟩
theorem New_ok (v : Value) (l : List Int) (w : World) (hv : Slc w v l) (hr : rgt l = true) :
    Calls Tryz.prog 104 #[v] w fun e w' => (∃ p, e = .returned (.tuple #[p, .int .i64 0])) ∧ Ext w w' := by
  rcases hv with ⟨a, c, rfl, hn, rfl⟩ | ⟨b, off, c, rfl, hc⟩
  · cases a with
    | none => rw [hn rfl]; exact New_z w
    | some ad => exact New_y ad c w
  · exact New_x b off c l w (rgt_len hr) hc hr
theorem Right_nil (a : Option Addr) (c : Nat) (w : World) :
    Calls Tryz.prog 36 #[.slice a 0 c] w fun e w' => e = .returned (.bool true) ∧ w' = w := by
  go_enter Tryz.func36, Tryz.ntmps36
  go_wp2_with fail
  refine wp_loop_rounds 1 ?_
  rw [rounds_succ]
  go_wp2
  go_ret
  exact ⟨rfl, rfl⟩
theorem Right_c (b off c : Nat) (l : List Int) (w : World) (hl : l.length ≤ 9223372036854775807) (hc : ∀ (k : Nat) (v : Int), l[k]? = some v → w.cell? ⟨b, off + k, none⟩ = some (.int .i64 v)) :
    Calls Tryz.prog 36 #[.slice (some ⟨b, off, none⟩) l.length c] w fun e w' => e = .returned (.bool (rgt l)) ∧ Ext w w' := by
  have hG : Hid (rgt l = (rsg (-25568) l && decide (l.length ≤ 200))) := rfl
  replace hc := show Hid _ from hc
  obtain ⟨n, hn⟩ : ∃ n, l.length = n := ⟨_, rfl⟩
  rw [hn]
  rw [hn] at hl hG
  replace hn := show Hid _ from hn
  go_enter Tryz.func36, Tryz.ntmps36
  go_wp2_with fail
  go_loopw [3] (fun i wr => ∃ (k : Nat) (A : Int), k ≤ n ∧ i = .int .i64 k ∧ -25568 ≤ A ∧ Hid (k = 0 ∧ A = -25568 ∨ ∃ m, k = m + 1 ∧ l[m]? = some A) ∧ Hid (rsg (-25568) l = rsg A (l.drop k)) ∧ Hid (Ext w wr)) (fun i _ => n - (RowKit.intOf i).toNat)
  case atStart => exact ⟨0, -25568, Nat.zero_le _, rfl, by omega, Or.inl ⟨rfl, rfl⟩, rfl, Ext.refl _⟩
  case round =>
    obtain ⟨k, A, hk, rfl, hA0, hK, hA, hx⟩ := hrel
    by_cases hlt : k < n
    · obtain ⟨V, hV⟩ : ∃ V, l[k]? = some V := ⟨_, List.getElem?_eq_getElem (by have := hn.out; omega)⟩
      have k0 := hx.out.cell_of (hc.out _ _ hV)
      have hd := show Hid _ from drop_at hV
      have j0 := Late.cell k0
      have hlt' : (k : Int) < (n : Int) := by omega
      have hNe1 : Nonempty (Late wr) := ⟨⟨_, Ext.refl _⟩⟩
      replace hV := show Hid _ from hV
      cases hI : inD V
      · have hf : Hid (rgt l = false) := by
          show _ = _
          have := (inD_no V).1 hI
          rw [hG.out, hA.out, hd.out, rsg_no (by omega)]; rfl
        have hIs : Hid (∀ w : World, Calls Tryz.prog 48 #[.int .i64 V] w fun e w' => e = .returned (.bool false) ∧ w' = w) := fun w => by have := Is_c V w; rwa [hI] at this
        clear hA hd hK hV hG
        go_wp2_with fail
        refine wp_region_late (by kernel_rfl) (by kernel_rfl) ?_
        repeat (go_big_quiet_step ((first
          | (go_at_call 48; exact late_same (hIs.out _)))))
        refine wpQuiet_nil ?_
        intro W1 hw'
        replace hx : Hid (Ext w W1) := hx.out.trans (late_ext hw')
        clear hw' j0 k0
        go_wp2
        go_ret
        exact ⟨ret_bool hf.out.symm, hx.out⟩
      · have hIs : Hid (∀ w : World, Calls Tryz.prog 48 #[.int .i64 V] w fun e w' => e = .returned (.bool true) ∧ w' = w) := fun w => by have := Is_c V w; rwa [hI] at this
        obtain ⟨v1, v2⟩ := (inD_iff V).1 hI
        rcases hK.out with ⟨hk0, rfl⟩ | ⟨m, rfl, hm⟩
        · have hf : Hid (rsg (-25568) l = rsg V (l.drop (k + 1))) := by
            show _ = _
            rw [hA.out, hd.out, rsg_yes (by omega) (by omega)]
          have hz : decide (0 < k) = false := decide_eq_false (by omega)
          replace hk0 := show Hid _ from hk0
          clear hA hd hK
          go_wp2_with fail
          refine wp_region_late (by kernel_rfl) (by kernel_rfl) ?_
          repeat (go_big_quiet_step ((first
            | (go_at_call 48; exact late_same (hIs.out _)))))
          refine wpQuiet_nil ?_
          intro W1 hw'
          replace hx : Hid (Ext w W1) := hx.out.trans (late_ext hw')
          clear hw' j0 k0
          go_wp2
          go_roundw
          case rel => exact ⟨k + 1, V, by omega, by go_num, by omega, Or.inr ⟨k, rfl, hV.out⟩, hf, hx⟩
          case measure => simp [intOf]; omega
        · have k1 := hx.out.cell_of (hc.out _ _ hm)
          have j1 := Late.cell k1
          by_cases hle : V ≤ A
          · have hdd : decide (V ≤ A) = true := decide_eq_true hle
            have hf : Hid (rgt l = false) := by
              show _ = _
              rw [hG.out, hA.out, hd.out, rsg_no (by omega)]; rfl
            clear hA hd hK hG
            go_wp2_with fail
            refine wp_region_late (by kernel_rfl) (by kernel_rfl) ?_
            repeat (go_big_quiet_step ((first
              | (go_at_call 48; exact late_same (hIs.out _)))))
            refine wpQuiet_nil ?_
            intro W1 hw'
            replace hx : Hid (Ext w W1) := hx.out.trans (late_ext hw')
            clear hw' j0 k0 j1 k1
            go_wp2
            go_ret
            exact ⟨ret_bool hf.out.symm, hx.out⟩
          · have hdd : decide (V ≤ A) = false := decide_eq_false hle
            have hf : Hid (rsg (-25568) l = rsg V (l.drop (m + 1 + 1))) := by
              show _ = _
              rw [hA.out, hd.out, rsg_yes (by omega) (by omega)]
            clear hA hd hK
            go_wp2_with fail
            refine wp_region_late (by kernel_rfl) (by kernel_rfl) ?_
            repeat (go_big_quiet_step ((first
              | (go_at_call 48; exact late_same (hIs.out _)))))
            refine wpQuiet_nil ?_
            intro W1 hw'
            replace hx : Hid (Ext w W1) := hx.out.trans (late_ext hw')
            clear hw' j0 k0 j1 k1
            go_wp2
            go_roundw
            case rel => exact ⟨m + 1 + 1, V, by omega, by go_num, by omega, Or.inr ⟨m + 1, rfl, hV.out⟩, hf, hx⟩
            case measure => simp [intOf]; omega
    · obtain rfl : k = n := by omega
      have hf : Hid (rgt l = decide ((k : Int) ≤ 200)) := by
        show _ = _
        rw [hG.out, hA.out, drop_end (by have := hn.out; omega)]
        by_cases h : k ≤ 200
        · rw [decide_eq_true h, decide_eq_true (by omega)]; rfl
        · rw [decide_eq_false h, decide_eq_false (by omega)]; rfl
      clear hA hK hG
      go_wp2
      go_ret
      exact ⟨ret_bool hf.out.symm, hx.out⟩
theorem In_nil (a : Option Addr) (c : Nat) (x : Int) (w : World) :
    Calls Tryz.prog 32 #[.slice a 0 c, .int .i64 x] w fun e w' => e = .returned (.bool false) ∧ w' = w := by
  go_enter Tryz.func32, Tryz.ntmps32
  go_wp2_with fail
  refine wp_loop_rounds 1 ?_
  rw [rounds_succ]
  go_wp2
  go_ret
  exact ⟨rfl, rfl⟩
theorem In_x (b off c : Nat) (l : List Int) (x : Int) (w : World) (hl : l.length ≤ 9223372036854775807) (hc : ∀ (k : Nat) (v : Int), l[k]? = some v → w.cell? ⟨b, off + k, none⟩ = some (.int .i64 v)) :
    Calls Tryz.prog 32 #[.slice (some ⟨b, off, none⟩) l.length c, .int .i64 x] w fun e w' => e = .returned (.bool (decide (x ∈ l))) ∧ w' = w := by
  replace hc := show Hid _ from hc
  obtain ⟨n, hn⟩ : ∃ n, l.length = n := ⟨_, rfl⟩
  rw [hn]
  rw [hn] at hl
  replace hn := show Hid _ from hn
  go_enter Tryz.func32, Tryz.ntmps32
  go_wp2_with fail
  go_loop [5] (fun i => ∃ k : Nat, k ≤ n ∧ i = .int .i64 k ∧ Hid (decide (x ∈ l) = decide (x ∈ l.drop k))) (fun i => n - (RowKit.intOf i).toNat)
  case atStart => exact ⟨0, Nat.zero_le _, rfl, rfl⟩
  case round =>
    obtain ⟨k, hk, rfl, hA⟩ := hrel
    by_cases hlt : k < n
    · obtain ⟨V, hV⟩ : ∃ V, l[k]? = some V := ⟨_, List.getElem?_eq_getElem (by have := hn.out; omega)⟩
      have hcell := hc.out _ _ hV
      have hd := show Hid _ from drop_at hV
      clear hV
      by_cases h1 : V = x
      · subst h1
        have hf : Hid (decide (V ∈ l) = true) := by show _ = _; rw [hA.out, hd.out]; simp
        clear hA hd
        go_wp2
        go_ret
        exact ⟨ret_bool hf.out.symm, rfl⟩
      · have hb : (V == x) = false := by simpa using h1
        have hf : Hid (decide (x ∈ l) = decide (x ∈ l.drop (k + 1))) := by
          show _ = _
          rw [hA.out, hd.out]
          have h1' : ¬ x = V := fun e => h1 e.symm
          simp [h1']
        clear hA hd
        go_wp2
        go_round
        case rel => exact ⟨k + 1, by omega, by go_num, hf⟩
        case measure => simp [RowKit.intOf]; omega
    · obtain rfl : k = n := by omega
      have hf : Hid (decide (x ∈ l) = false) := by show _ = _; rw [hA.out, drop_end (by have := hn.out; omega)]; simp
      clear hA
      go_wp2
      go_ret
      exact ⟨ret_bool hf.out.symm, rfl⟩
theorem In_c (v : Value) (l : List Int) (x : Int) (w : World) (hl : l.length ≤ 9223372036854775807) (hv : Slc w v l) :
    Calls Tryz.prog 32 #[v, .int .i64 x] w fun e w' => e = .returned (.bool (decide (x ∈ l))) ∧ w' = w := by
  rcases hv with ⟨a, c, rfl, _, rfl⟩ | ⟨b, off, c, rfl, hc⟩
  · exact In_nil a c x w
  · exact In_x b off c l x w hl hc
theorem Right_ok (v : Value) (l : List Int) (w : World) (hl : l.length ≤ 9223372036854775807) (hv : Slc w v l) :
    Calls Tryz.prog 36 #[v] w fun e w' => e = .returned (.bool (rgt l)) ∧ Ext w w' := by
  rcases hv with ⟨a, c, rfl, _, rfl⟩ | ⟨b, off, c, rfl, hc⟩
  · exact (Right_nil a c w).mono fun e w' h => ⟨h.1, by rw [h.2]; exact Ext.refl _⟩
  · exact Right_c b off c l w hl hc
theorem In_y (v : Value) (l : List Int) (x : Int) (B : Bool) (h : decide (x ∈ l) = B) (w : World) (hl : l.length ≤ 9223372036854775807) (hv : Slc w v l) :
    Calls Tryz.prog 32 #[v, .int .i64 x] w fun e w' => e = .returned (.bool B) ∧ w' = w := h ▸ In_c v l x w hl hv
theorem idx_c (b off c : Nat) (l : List Int) (x : Int) (w : World) (hl : l.length ≤ 9223372036854775807) (hc : ∀ (k : Nat) (v : Int), l[k]? = some v → w.cell? ⟨b, off + k, none⟩ = some (.int .i64 v)) :
    Calls Tryz.prog 118 #[.slice (some ⟨b, off, none⟩) l.length c, .int .i64 x] w fun e w' => (∃ i, e = .returned (.int .i64 i) ∧ decide (0 ≤ i) = decide (x ∈ l)) ∧ w' = w := by
  replace hc := show Hid _ from hc
  obtain ⟨n, hn⟩ : ∃ n, l.length = n := ⟨_, rfl⟩
  rw [hn]
  rw [hn] at hl
  replace hn := show Hid _ from hn
  go_enter Tryz.func118, Tryz.ntmps118
  go_wp2_with fail
  go_loop [8] (fun i => ∃ k : Nat, k ≤ n ∧ i = .int .i64 k ∧ Hid (decide (x ∈ l) = decide (x ∈ l.drop k))) (fun i => n - (RowKit.intOf i).toNat)
  case atStart => exact ⟨0, Nat.zero_le _, rfl, rfl⟩
  case round =>
    obtain ⟨k, hk, rfl, hA⟩ := hrel
    by_cases hlt : k < n
    · obtain ⟨V, hV⟩ : ∃ V, l[k]? = some V := ⟨_, List.getElem?_eq_getElem (by have := hn.out; omega)⟩
      have hcell := hc.out _ _ hV
      have hd := show Hid _ from drop_at hV
      clear hV
      by_cases h1 : V = x
      · subst h1
        have hf : Hid (decide (V ∈ l) = true) := by show _ = _; rw [hA.out, hd.out]; simp
        clear hA hd
        go_wp2
        go_ret
        exact ⟨⟨_, rfl, by have := hf.out; simp at this; simp [this]⟩, rfl⟩
      · have hb : (x == V) = false := by simpa using fun e => h1 e.symm
        have hf : Hid (decide (x ∈ l) = decide (x ∈ l.drop (k + 1))) := by
          show _ = _
          rw [hA.out, hd.out]
          have h1' : ¬ x = V := fun e => h1 e.symm
          simp [h1']
        clear hA hd h1
        go_wp2
        go_round
        case rel => exact ⟨k + 1, by omega, by go_num, hf⟩
        case measure => simp [RowKit.intOf]; omega
    · obtain rfl : k = n := by omega
      have hf : Hid (decide (x ∈ l) = false) := by show _ = _; rw [hA.out, drop_end (by have := hn.out; omega)]; simp
      clear hA
      go_wp2
      go_ret
      exact ⟨⟨_, rfl, by have := hf.out; simp at this; simp [this]⟩, rfl⟩
theorem Contains_c (b off c : Nat) (l : List Int) (x : Int) (B : Bool) (h : decide (x ∈ l) = B) (w : World) (hl : l.length ≤ 9223372036854775807) (hc : ∀ (k : Nat) (v : Int), l[k]? = some v → w.cell? ⟨b, off + k, none⟩ = some (.int .i64 v)) :
    Calls Tryz.prog 102 #[.slice (some ⟨b, off, none⟩) l.length c, .int .i64 x] w fun e w' => e = .returned (.bool B) ∧ w' = w := by
  subst h
  have hI := idx_c b off c l x w hl hc
  replace hI := show Hid _ from hI
  clear hc
  go_enter Tryz.func102, Tryz.ntmps102
  go_wp2_with fail
  refine Calls.mono hI.out ?_
  rintro e w1 ⟨⟨i, rfl, hi⟩, rfl⟩
  replace hi := show Hid _ from hi
  go_wp2
  go_ret
  exact ⟨ret_bool hi.out, rfl⟩
end Go.Proofs.YtafjmpaefikdcaaGreatDoor.L8
/- What the rules of package product answer, each by itself, as contracts: no statement of the seat is proved here. -/
namespace Go.Proofs.YtafjmpaefikdcaaGreatDoor.L8
open Go.RowKit
set_option linter.unusedVariables false

/-- A slice of these pairs: of none whatever its address, else cells, two a pair. -/
def Slp (w : World) (v : Value) (l : List (Int × Int)) : Prop :=
  (∃ a c, v = .slice a 0 c ∧ (a = none → c = 0) ∧ l = []) ∨ ∃ b off c, v = .slice (some ⟨b, off, none⟩) l.length c ∧ ∀ (k : Nat) (x y : Int), l[k]? = some (x, y) → w.cell? ⟨b, off + k * 2, none⟩ = some (.int .i64 x) ∧ w.cell? ⟨b, off + k * 2 + 1, none⟩ = some (.int .i64 y)
theorem Slp.ext {w w' : World} {v : Value} {l : List (Int × Int)} (h : Slp w v l) (hx : Ext w w') : Slp w' v l := by
  rcases h with h | ⟨b, off, c, e, hc⟩
  · exact Or.inl h
  · exact Or.inr ⟨b, off, c, e, fun k x y hk => ⟨hx.cell_of (hc k x y hk).1, hx.cell_of (hc k x y hk).2⟩⟩
theorem Slp.len {w : World} {v : Value} {l : List (Int × Int)} (h : Slp w v l) : ∃ a c, v = .slice a l.length c := by
  rcases h with ⟨a, c, rfl, _, rfl⟩ | ⟨b, off, c, rfl, _⟩
  · exact ⟨_, _, rfl⟩
  · exact ⟨_, _, rfl⟩
theorem name_c (b : Nat) (nm : List UInt8) (w : World) (hm : nm.length ≤ 9223372036854775807) (h0 : w.cell? ⟨b, 0, none⟩ = some (.string ⟨nm.toArray⟩)) :
    Calls Tryz.prog 74 #[.pointer (some ⟨b, 0, none⟩)] w fun e w' => e = .returned (.bool (nmb nm)) ∧ w' = w := by
  go_enter Tryz.func74, Tryz.ntmps74
  go_wp2_with fail
  refine (Name_c _ _ hm).mono ?_
  rintro e w1 ⟨rfl, rfl⟩
  go_wp2
  go_ret
  exact ⟨rfl, rfl⟩
set_option maxHeartbeats 2000000 in
theorem choices_c (b : Nat) (cn rd kd ov rl : Int) (w : World) (c0 : w.cell? ⟨b, 1, none⟩ = some (.int .i64 cn)) (c1 : w.cell? ⟨b, 2, none⟩ = some (.int .i64 rd)) (c2 : w.cell? ⟨b, 3, none⟩ = some (.int .i64 kd)) (c3 : w.cell? ⟨b, 14, none⟩ = some (.int .i64 ov)) (c4 : w.cell? ⟨b, 17, none⟩ = some (.int .i64 rl)) :
    Calls Tryz.prog 75 #[.pointer (some ⟨b, 0, none⟩)] w fun e w' => e = .returned (.bool (r1B cn rd kd ov rl)) ∧ w' = w := by
  unfold r1B
  cases h0 : lz cn 1 3
  · replace h0 := show Hid _ from h0
    go_enter Tryz.func75, Tryz.ntmps75
    go_wp2_with fail
    refine (liesI_x cn 1 3 false h0.out _).mono ?_
    rintro e w1 ⟨rfl, rfl⟩
    go_wp2
    go_ret
    exact ⟨rfl, rfl⟩
  · replace h0 := show Hid _ from h0
    cases h1 : (rd == 1)
    · cases h1b : (rd == 3)
      · go_enter Tryz.func75, Tryz.ntmps75
        go_wp2_with fail
        refine (liesI_x cn 1 3 true h0.out _).mono ?_
        rintro e w1 ⟨rfl, rfl⟩
        go_wp2
        go_ret
        exact ⟨rfl, rfl⟩
      · cases h2 : lz kd 1 3
        · replace h2 := show Hid _ from h2
          go_enter Tryz.func75, Tryz.ntmps75
          go_wp2_with fail
          refine (liesI_x cn 1 3 true h0.out _).mono ?_
          rintro e w1 ⟨rfl, rfl⟩
          go_wp2_with fail
          refine (liesI_x kd 1 3 false h2.out _).mono ?_
          rintro e w1 ⟨rfl, rfl⟩
          go_wp2
          go_ret
          exact ⟨rfl, rfl⟩
        · replace h2 := show Hid _ from h2
          cases h3 : lz ov 1 3
          · replace h3 := show Hid _ from h3
            go_enter Tryz.func75, Tryz.ntmps75
            go_wp2_with fail
            refine (liesI_x cn 1 3 true h0.out _).mono ?_
            rintro e w1 ⟨rfl, rfl⟩
            go_wp2_with fail
            refine (liesI_x kd 1 3 true h2.out _).mono ?_
            rintro e w1 ⟨rfl, rfl⟩
            go_wp2_with fail
            refine (liesI_x ov 1 3 false h3.out _).mono ?_
            rintro e w1 ⟨rfl, rfl⟩
            go_wp2
            go_ret
            exact ⟨rfl, rfl⟩
          · replace h3 := show Hid _ from h3
            cases h4 : lz rl 1 4
            · replace h4 := show Hid _ from h4
              go_enter Tryz.func75, Tryz.ntmps75
              go_wp2_with fail
              refine (liesI_x cn 1 3 true h0.out _).mono ?_
              rintro e w1 ⟨rfl, rfl⟩
              go_wp2_with fail
              refine (liesI_x kd 1 3 true h2.out _).mono ?_
              rintro e w1 ⟨rfl, rfl⟩
              go_wp2_with fail
              refine (liesI_x ov 1 3 true h3.out _).mono ?_
              rintro e w1 ⟨rfl, rfl⟩
              go_wp2_with fail
              refine (liesI_x rl 1 4 false h4.out _).mono ?_
              rintro e w1 ⟨rfl, rfl⟩
              go_wp2
              go_ret
              exact ⟨rfl, rfl⟩
            · replace h4 := show Hid _ from h4
              go_enter Tryz.func75, Tryz.ntmps75
              go_wp2_with fail
              refine (liesI_x cn 1 3 true h0.out _).mono ?_
              rintro e w1 ⟨rfl, rfl⟩
              go_wp2_with fail
              refine (liesI_x kd 1 3 true h2.out _).mono ?_
              rintro e w1 ⟨rfl, rfl⟩
              go_wp2_with fail
              refine (liesI_x ov 1 3 true h3.out _).mono ?_
              rintro e w1 ⟨rfl, rfl⟩
              go_wp2_with fail
              refine (liesI_x rl 1 4 true h4.out _).mono ?_
              rintro e w1 ⟨rfl, rfl⟩
              go_wp2
              go_ret
              exact ⟨rfl, rfl⟩
    · cases h2 : lz kd 1 3
      · replace h2 := show Hid _ from h2
        go_enter Tryz.func75, Tryz.ntmps75
        go_wp2_with fail
        refine (liesI_x cn 1 3 true h0.out _).mono ?_
        rintro e w1 ⟨rfl, rfl⟩
        go_wp2_with fail
        refine (liesI_x kd 1 3 false h2.out _).mono ?_
        rintro e w1 ⟨rfl, rfl⟩
        go_wp2
        go_ret
        exact ⟨rfl, rfl⟩
      · replace h2 := show Hid _ from h2
        cases h3 : lz ov 1 3
        · replace h3 := show Hid _ from h3
          go_enter Tryz.func75, Tryz.ntmps75
          go_wp2_with fail
          refine (liesI_x cn 1 3 true h0.out _).mono ?_
          rintro e w1 ⟨rfl, rfl⟩
          go_wp2_with fail
          refine (liesI_x kd 1 3 true h2.out _).mono ?_
          rintro e w1 ⟨rfl, rfl⟩
          go_wp2_with fail
          refine (liesI_x ov 1 3 false h3.out _).mono ?_
          rintro e w1 ⟨rfl, rfl⟩
          go_wp2
          go_ret
          exact ⟨rfl, rfl⟩
        · replace h3 := show Hid _ from h3
          cases h4 : lz rl 1 4
          · replace h4 := show Hid _ from h4
            go_enter Tryz.func75, Tryz.ntmps75
            go_wp2_with fail
            refine (liesI_x cn 1 3 true h0.out _).mono ?_
            rintro e w1 ⟨rfl, rfl⟩
            go_wp2_with fail
            refine (liesI_x kd 1 3 true h2.out _).mono ?_
            rintro e w1 ⟨rfl, rfl⟩
            go_wp2_with fail
            refine (liesI_x ov 1 3 true h3.out _).mono ?_
            rintro e w1 ⟨rfl, rfl⟩
            go_wp2_with fail
            refine (liesI_x rl 1 4 false h4.out _).mono ?_
            rintro e w1 ⟨rfl, rfl⟩
            go_wp2
            go_ret
            exact ⟨rfl, rfl⟩
          · replace h4 := show Hid _ from h4
            go_enter Tryz.func75, Tryz.ntmps75
            go_wp2_with fail
            refine (liesI_x cn 1 3 true h0.out _).mono ?_
            rintro e w1 ⟨rfl, rfl⟩
            go_wp2_with fail
            refine (liesI_x kd 1 3 true h2.out _).mono ?_
            rintro e w1 ⟨rfl, rfl⟩
            go_wp2_with fail
            refine (liesI_x ov 1 3 true h3.out _).mono ?_
            rintro e w1 ⟨rfl, rfl⟩
            go_wp2_with fail
            refine (liesI_x rl 1 4 true h4.out _).mono ?_
            rintro e w1 ⟨rfl, rfl⟩
            go_wp2
            go_ret
            exact ⟨rfl, rfl⟩
theorem every_c (b : Nat) (ev : Int) (w : World) (c0 : w.cell? ⟨b, 4, none⟩ = some (.int .i64 ev)) :
    Calls Tryz.prog 76 #[.pointer (some ⟨b, 0, none⟩)] w fun e w' => e = .returned (.bool (r2B ev)) ∧ w' = w := by
  unfold r2B
  cases h0 : (ev == 1)
  · cases h1 : (ev == 2)
    · cases h2 : (ev == 3)
      · cases h3 : (ev == 4)
        · cases h4 : (ev == 6)
          · cases h5 : (ev == 12)
            · go_enter Tryz.func76, Tryz.ntmps76
              go_wp2
              go_ret
              exact ⟨rfl, rfl⟩
            · go_enter Tryz.func76, Tryz.ntmps76
              go_wp2
              go_ret
              exact ⟨rfl, rfl⟩
          · go_enter Tryz.func76, Tryz.ntmps76
            go_wp2
            go_ret
            exact ⟨rfl, rfl⟩
        · go_enter Tryz.func76, Tryz.ntmps76
          go_wp2
          go_ret
          exact ⟨rfl, rfl⟩
      · go_enter Tryz.func76, Tryz.ntmps76
        go_wp2
        go_ret
        exact ⟨rfl, rfl⟩
    · go_enter Tryz.func76, Tryz.ntmps76
      go_wp2
      go_ret
      exact ⟨rfl, rfl⟩
  · go_enter Tryz.func76, Tryz.ntmps76
    go_wp2
    go_ret
    exact ⟨rfl, rfl⟩
theorem times_c (b : Nat) (tm : Int) (w : World) (c0 : w.cell? ⟨b, 5, none⟩ = some (.int .i64 tm)) :
    Calls Tryz.prog 77 #[.pointer (some ⟨b, 0, none⟩)] w fun e w' => e = .returned (.bool (lz tm 1 600)) ∧ w' = w := by
  go_enter Tryz.func77, Tryz.ntmps77
  go_wp2_with fail
  refine (liesI_c _ _ _ _).mono ?_
  rintro e w1 ⟨rfl, rfl⟩
  go_wp2
  go_ret
  exact ⟨rfl, rfl⟩
theorem grace_c (b : Nat) (kd tm gr : Int) (w : World) (c0 : w.cell? ⟨b, 3, none⟩ = some (.int .i64 kd)) (c1 : w.cell? ⟨b, 5, none⟩ = some (.int .i64 tm)) (c2 : w.cell? ⟨b, 6, none⟩ = some (.int .i64 gr)) :
    Calls Tryz.prog 78 #[.pointer (some ⟨b, 0, none⟩)] w fun e w' => e = .returned (.bool (r4B kd tm gr)) ∧ Ext w w' := by
  unfold r4B
  have j0 := Late.cell c0; have j1 := Late.cell c1; have j2 := Late.cell c2
  have hNe1 : Nonempty (Late w) := ⟨⟨_, Ext.refl _⟩⟩
  cases h0 : (gr == 0)
  · cases h1 : (kd != 3)
    · go_enter Tryz.func78, Tryz.ntmps78
      go_wp2_with fail
      refine wp_region_late (by kernel_rfl) (by kernel_rfl) ?_
      repeat (go_big_quiet_step (fail))
      refine wpQuiet_nil ?_
      intro W1 hw'
      have hx : Hid (Ext w W1) := late_ext hw'
      clear hw' j0 j1 j2
      go_wp2
      go_ret
      exact ⟨rfl, hx.out⟩
    · cases h2 : decide (0 < gr)
      · go_enter Tryz.func78, Tryz.ntmps78
        go_wp2_with fail
        refine wp_region_late (by kernel_rfl) (by kernel_rfl) ?_
        repeat (go_big_quiet_step (fail))
        refine wpQuiet_nil ?_
        intro W1 hw'
        have hx : Hid (Ext w W1) := late_ext hw'
        clear hw' j0 j1 j2
        go_wp2
        go_ret
        exact ⟨rfl, hx.out⟩
      · cases h3 : decide (gr < tm)
        · go_enter Tryz.func78, Tryz.ntmps78
          go_wp2_with fail
          refine wp_region_late (by kernel_rfl) (by kernel_rfl) ?_
          repeat (go_big_quiet_step (fail))
          refine wpQuiet_nil ?_
          intro W1 hw'
          have hx : Hid (Ext w W1) := late_ext hw'
          clear hw' j0 j1 j2
          go_wp2
          go_ret
          exact ⟨rfl, hx.out⟩
        · go_enter Tryz.func78, Tryz.ntmps78
          go_wp2_with fail
          refine wp_region_late (by kernel_rfl) (by kernel_rfl) ?_
          repeat (go_big_quiet_step (fail))
          refine wpQuiet_nil ?_
          intro W1 hw'
          have hx : Hid (Ext w W1) := late_ext hw'
          clear hw' j0 j1 j2
          go_wp2
          go_ret
          exact ⟨rfl, hx.out⟩
  · go_enter Tryz.func78, Tryz.ntmps78
    go_wp2_with fail
    refine wp_region_late (by kernel_rfl) (by kernel_rfl) ?_
    repeat (go_big_quiet_step (fail))
    refine wpQuiet_nil ?_
    intro W1 hw'
    have hx : Hid (Ext w W1) := late_ext hw'
    clear hw' j0 j1 j2
    go_wp2
    go_ret
    exact ⟨rfl, hx.out⟩
theorem rates_c (b : Nat) (rt pn : Int) (w : World) (c0 : w.cell? ⟨b, 7, none⟩ = some (.int .i64 rt)) (c1 : w.cell? ⟨b, 9, none⟩ = some (.int .i64 pn)) :
    Calls Tryz.prog 79 #[.pointer (some ⟨b, 0, none⟩)] w fun e w' => e = .returned (.bool (r5B rt pn)) ∧ w' = w := by
  unfold r5B
  cases h0 : lz rt 0 1000000000
  · replace h0 := show Hid _ from h0
    go_enter Tryz.func79, Tryz.ntmps79
    go_wp2_with fail
    refine (rate_x _ false h0.out _).mono ?_
    rintro e w1 ⟨rfl, rfl⟩
    go_wp2
    go_ret
    exact ⟨rfl, rfl⟩
  · replace h0 := show Hid _ from h0
    go_enter Tryz.func79, Tryz.ntmps79
    go_wp2_with fail
    refine (rate_x _ true h0.out _).mono ?_
    rintro e w1 ⟨rfl, rfl⟩
    go_wp2_with fail
    refine (rate_c _ _).mono ?_
    rintro e w1 ⟨rfl, rfl⟩
    go_wp2
    go_ret
    exact ⟨rfl, rfl⟩
theorem order_c (b : Nat) (o0 o1 o2 o3 : Int) (w : World) (c0 : w.cell? ⟨b, 10, none⟩ = some (.int .i64 o0)) (c1 : w.cell? ⟨b, 11, none⟩ = some (.int .i64 o1)) (c2 : w.cell? ⟨b, 12, none⟩ = some (.int .i64 o2)) (c3 : w.cell? ⟨b, 13, none⟩ = some (.int .i64 o3)) :
    Calls Tryz.prog 81 #[.pointer (some ⟨b, 0, none⟩)] w fun e w' => e = .returned (.bool (r7B o0 o1 o2 o3)) ∧ w' = w := by
  have hC : Hid (∀ (x : Int) (B : Bool), decide (x ∈ [o0, o1, o2, o3]) = B → Calls Tryz.prog 102 #[.slice (some ⟨b, 10, none⟩) 4 4, .int .i64 x] w fun e w' => e = .returned (.bool B) ∧ w' = w) := fun x B h =>
    Contains_c b 10 4 [o0, o1, o2, o3] x B h w (by simp) (fun k v hk => by
      match k, hk with
      | 0, hk => simp at hk; subst hk; exact c0
      | 1, hk => simp at hk; subst hk; exact c1
      | 2, hk => simp at hk; subst hk; exact c2
      | 3, hk => simp at hk; subst hk; exact c3
      | k + 4, hk => simp at hk)
  unfold r7B
  obtain ⟨B1, h1⟩ : ∃ B, decide (1 ∈ [o0, o1, o2, o3]) = B := ⟨_, rfl⟩
  obtain ⟨B2, h2⟩ : ∃ B, decide (2 ∈ [o0, o1, o2, o3]) = B := ⟨_, rfl⟩
  obtain ⟨B3, h3⟩ : ∃ B, decide (3 ∈ [o0, o1, o2, o3]) = B := ⟨_, rfl⟩
  obtain ⟨B4, h4⟩ : ∃ B, decide (4 ∈ [o0, o1, o2, o3]) = B := ⟨_, rfl⟩
  rw [h1, h2, h3, h4]
  replace h1 := show Hid _ from hC.out 1 B1 h1
  replace h2 := show Hid _ from hC.out 2 B2 h2
  replace h3 := show Hid _ from hC.out 3 B3 h3
  replace h4 := show Hid _ from hC.out 4 B4 h4
  clear hC
  cases B1
  · go_enter Tryz.func81, Tryz.ntmps81
    go_wp2_with fail
    refine wp_loop_rounds 5 ?_
    rw [rounds_succ]
    go_wp2_with fail
    refine Calls.mono h1.out ?_
    rintro e w1 ⟨rfl, rfl⟩
    go_wp2
    go_ret
    exact ⟨rfl, rfl⟩
  cases B2
  · go_enter Tryz.func81, Tryz.ntmps81
    go_wp2_with fail
    refine wp_loop_rounds 5 ?_
    rw [rounds_succ]
    go_wp2_with fail
    refine Calls.mono h1.out ?_
    rintro e w1 ⟨rfl, rfl⟩
    go_wp2
    rw [rounds_succ]
    go_wp2_with fail
    refine Calls.mono h2.out ?_
    rintro e w1 ⟨rfl, rfl⟩
    go_wp2
    go_ret
    exact ⟨rfl, rfl⟩
  cases B3
  · go_enter Tryz.func81, Tryz.ntmps81
    go_wp2_with fail
    refine wp_loop_rounds 5 ?_
    rw [rounds_succ]
    go_wp2_with fail
    refine Calls.mono h1.out ?_
    rintro e w1 ⟨rfl, rfl⟩
    go_wp2
    rw [rounds_succ]
    go_wp2_with fail
    refine Calls.mono h2.out ?_
    rintro e w1 ⟨rfl, rfl⟩
    go_wp2
    rw [rounds_succ]
    go_wp2_with fail
    refine Calls.mono h3.out ?_
    rintro e w1 ⟨rfl, rfl⟩
    go_wp2
    go_ret
    exact ⟨rfl, rfl⟩
  cases B4
  · go_enter Tryz.func81, Tryz.ntmps81
    go_wp2_with fail
    refine wp_loop_rounds 5 ?_
    rw [rounds_succ]
    go_wp2_with fail
    refine Calls.mono h1.out ?_
    rintro e w1 ⟨rfl, rfl⟩
    go_wp2
    rw [rounds_succ]
    go_wp2_with fail
    refine Calls.mono h2.out ?_
    rintro e w1 ⟨rfl, rfl⟩
    go_wp2
    rw [rounds_succ]
    go_wp2_with fail
    refine Calls.mono h3.out ?_
    rintro e w1 ⟨rfl, rfl⟩
    go_wp2
    rw [rounds_succ]
    go_wp2_with fail
    refine Calls.mono h4.out ?_
    rintro e w1 ⟨rfl, rfl⟩
    go_wp2
    go_ret
    exact ⟨rfl, rfl⟩
  go_enter Tryz.func81, Tryz.ntmps81
  go_wp2_with fail
  refine wp_loop_rounds 5 ?_
  rw [rounds_succ]
  go_wp2_with fail
  refine Calls.mono h1.out ?_
  rintro e w1 ⟨rfl, rfl⟩
  go_wp2
  rw [rounds_succ]
  go_wp2_with fail
  refine Calls.mono h2.out ?_
  rintro e w1 ⟨rfl, rfl⟩
  go_wp2
  rw [rounds_succ]
  go_wp2_with fail
  refine Calls.mono h3.out ?_
  rintro e w1 ⟨rfl, rfl⟩
  go_wp2
  rw [rounds_succ]
  go_wp2_with fail
  refine Calls.mono h4.out ?_
  rintro e w1 ⟨rfl, rfl⟩
  go_wp2
  rw [rounds_succ]
  go_wp2
  go_ret
  exact ⟨rfl, rfl⟩
theorem cap_c (b : Nat) (a : Option Addr) (n c : Nat) (cp : Int) (w : World) (hn : n ≤ 9223372036854775807) (c0 : w.cell? ⟨b, 15, none⟩ = some (.slice a n c)) (c1 : w.cell? ⟨b, 16, none⟩ = some (.int .i64 cp)) :
    Calls Tryz.prog 83 #[.pointer (some ⟨b, 0, none⟩)] w fun e w' => e = .returned (.bool (r9B n cp)) ∧ w' = w := by
  unfold r9B
  cases h0 : (cp == 0)
  · by_cases h1 : 0 < n
    · have h1' : decide (0 < n) = true := decide_eq_true h1
      have h1'' : (0 : Int) < (n : Int) := by omega
      rw [h1']
      go_enter Tryz.func83, Tryz.ntmps83
      go_wp2_with fail
      refine (liesL_c _ _ _ _).mono ?_
      rintro e w1 ⟨rfl, rfl⟩
      go_wp2
      go_ret
      exact ⟨rfl, rfl⟩
    · have h1' : decide (0 < n) = false := decide_eq_false h1
      have h1'' : ¬ (0 : Int) < (n : Int) := by omega
      rw [h1']
      go_enter Tryz.func83, Tryz.ntmps83
      go_wp2
      go_ret
      exact ⟨rfl, rfl⟩
  · go_enter Tryz.func83, Tryz.ntmps83
    go_wp2
    go_ret
    exact ⟨rfl, rfl⟩
theorem holidays_c (b : Nat) (v : Value) (l : List Int) (rl : Int) (w : World) (hl : l.length ≤ 9223372036854775807) (hv : Slc w v l) (c0 : w.cell? ⟨b, 17, none⟩ = some (.int .i64 rl)) (c1 : w.cell? ⟨b, 18, none⟩ = some (v)) :
    Calls Tryz.prog 84 #[.pointer (some ⟨b, 0, none⟩)] w fun e w' => e = .returned (.bool (r10B rl l)) ∧ Ext w w' := by
  obtain ⟨a, c, hval⟩ := hv.len
  unfold r10B
  by_cases h0 : rl = 1
  · subst h0
    rw [if_pos rfl]
    subst hval
    clear hv
    generalize l.length = n at *
    have hb : Hid (((n : Int) == 0) = decide (n = 0)) := by show _ = _; by_cases h : n = 0 <;> simp [h]
    go_enter Tryz.func84, Tryz.ntmps84
    go_wp2
    go_ret
    exact ⟨ret_bool (by first | exact hb.out | rfl), Ext.refl _⟩
  · rw [if_neg h0]
    have h0' : (rl == 1) = false := by simpa using h0
    cases hr : rgt l
    · have hN : Hid (Calls Tryz.prog 104 #[v] w fun e w' => e = .returned (.tuple #[.pointer none, .int .i64 1]) ∧ w' = w) := New_no v l w hv hl hr
      subst hval
      clear hv hr h0 hl
      generalize l.length = n at *
      go_enter Tryz.func84, Tryz.ntmps84
      go_wp2_with fail
      refine Calls.mono hN.out ?_
      rintro e w1 ⟨rfl, rfl⟩
      go_wp2
      go_ret
      exact ⟨rfl, Ext.refl _⟩
    · have hN : Hid (Calls Tryz.prog 104 #[v] w fun e w' => (∃ p, e = .returned (.tuple #[p, .int .i64 0])) ∧ Ext w w') := New_ok v l w hv hr
      subst hval
      clear hv hr h0 hl
      generalize l.length = n at *
      go_enter Tryz.func84, Tryz.ntmps84
      go_wp2_with fail
      refine Calls.mono hN.out ?_
      rintro e w1 ⟨⟨p, rfl⟩, hx⟩
      replace hx := show Hid _ from hx
      go_wp2
      go_ret
      exact ⟨rfl, hx.out⟩
end Go.Proofs.YtafjmpaefikdcaaGreatDoor.L8
/- What the rules of resets and tiers of package product answer, as contracts: no statement of the seat is proved here. -/
namespace Go.Proofs.YtafjmpaefikdcaaGreatDoor.L8
open Go.RowKit
set_option linter.unusedVariables false

/-- A pair in a block of its own, that may be written. -/
structure Two (w : World) (b : Nat) (x y : Int) : Prop where
  c0 : w.cell? ⟨b, 0, none⟩ = some (.int .i64 x)
  c1 : w.cell? ⟨b, 1, none⟩ = some (.int .i64 y)
  f0 : w.frozen? ⟨b, 0, none⟩ = false
  f1 : w.frozen? ⟨b, 1, none⟩ = false
theorem Two.ext {w w' : World} {b : Nat} {x y : Int} (h : Two w b x y) (hx : Ext w w') : Two w' b x y :=
  ⟨hx.cell_of h.c0, hx.cell_of h.c1, hx.froz_of h.c0 h.f0, hx.froz_of h.c1 h.f1⟩
theorem two_new (w : World) (t : TypeId) : ∃ W b, w.alloc (.cells #[.int .i64 0, .int .i64 0] t) = W ∧ w.heap.size = b ∧ Ext w W ∧ Two W b 0 0 :=
  ⟨_, _, rfl, rfl, (Ext.refl w).alloc _ _, by simp [go_sem], by simp [go_sem], by simp [go_sem], by simp [go_sem]⟩
theorem Two.set {w w0 : World} {b : Nat} {x y : Int} (h : Two w b x y) (hb : w0.heap.size ≤ b) (hx : Ext w0 w) (u v : Int) : ∃ W, (w.setCell ⟨b, 0, none⟩ (.int .i64 u)).setCell ⟨b, 1, none⟩ (.int .i64 v) = W ∧ Ext w0 W ∧ Two W b u v :=
  ⟨_, rfl, (hx.setCell hb _).setCell hb _, by rw [other _ (Or.inr (by omega))]; exact same h.c0, same (by rw [other _ (Or.inr (by omega))]; exact h.c1), by simpa using h.f0, by simpa using h.f1⟩
theorem rsB_at {t a x y : Int} {l : List (Int × Int)} : rsB t a ((x, y) :: l) = (decide (a < x) && (decide (x < t) && (lz y 0 1000000000 && rsB t x l))) := rfl
set_option maxHeartbeats 2000000 in
theorem resets_x (b : Nat) (s off c : Nat) (l : List (Int × Int)) (tm : Int) (w : World) (hl : l.length ≤ 20) (c0 : w.cell? ⟨b, 5, none⟩ = some (.int .i64 tm)) (c1 : w.cell? ⟨b, 8, none⟩ = some (.slice (some ⟨s, off, none⟩) l.length c))
    (hc : ∀ (k : Nat) (x y : Int), l[k]? = some (x, y) → w.cell? ⟨s, off + k * 2, none⟩ = some (.int .i64 x) ∧ w.cell? ⟨s, off + k * 2 + 1, none⟩ = some (.int .i64 y)) :
    Calls Tryz.prog 80 #[.pointer (some ⟨b, 0, none⟩)] w fun e w' => e = .returned (.bool (rsB tm 0 l)) ∧ Ext w w' := by
  obtain ⟨n, hn⟩ : ∃ n, l.length = n := ⟨_, rfl⟩
  rw [hn] at hl c1
  replace hn := show Hid _ from hn
  replace hc := show Hid _ from hc
  have h20 : ¬ (20 : Int) < (n : Int) := by omega
  obtain ⟨W0, A, hW0, hA, hx0, hT⟩ := two_new w 89
  have k1 := hx0.cell_of c1
  have hAlo : Hid (w.heap.size ≤ A) := by show _ ≤ _; omega
  replace hx0 := show Hid _ from hx0
  replace hT := show Hid (Two W0 A 0 0) from hT
  go_enter Tryz.func80, Tryz.ntmps80
  go_wp2_with fail
  go_loopw [17] (fun i wr => ∃ (k : Nat) (X Y : Int), k ≤ n ∧ i = .int .i64 k ∧ Hid (Two wr A X Y) ∧ Hid (rsB tm 0 l = rsB tm X (l.drop k)) ∧ Hid (Ext w wr)) (fun i _ => n - (RowKit.intOf i).toNat)
  case atStart => exact ⟨0, 0, 0, Nat.zero_le _, rfl, hT, rfl, hx0⟩
  case round =>
    clear hx0 hW0 hA k1 hT
    obtain ⟨k, X, Y, hk, rfl, hT, hR, hx⟩ := hrel
    by_cases hlt : k < n
    · obtain ⟨⟨x, y⟩, hV⟩ : ∃ V, l[k]? = some V := ⟨_, List.getElem?_eq_getElem (by have := hn.out; omega)⟩
      have hlt' : (k : Int) < (n : Int) := by omega
      have s0 := hx.out.cell_of (hc.out k x y hV).1
      have s1 := hx.out.cell_of (hc.out k x y hV).2
      have hd := show Hid _ from drop_at hV
      obtain ⟨W1, B, hW1, hB, hx1, hN⟩ := two_new wr 89
      obtain ⟨W2, hW2, hx2, hN2⟩ := hN.set (w0 := wr) (by omega) hx1 x y
      have t0 := hx1.cell_of s0
      have t1 := hx1.cell_of s1
      have m0 := hN.c0; have m1 := hN.c1; have m2 := hN.f0; have m3 := hN.f1
      have j0 := Late.cell hN2.c0; have j1 := Late.cell hN2.c1
      have j2 := Late.cell (hx2.cell_of hT.out.c0)
      have j3 := Late.cell (hx2.cell_of (hx.out.cell_of c0))
      have hNe1 : Nonempty (Late W2) := ⟨⟨_, Ext.refl _⟩⟩
      clear hV hN
      replace hx1 := show Hid _ from hx1
      by_cases h1 : x ≤ X
      · have d1 : decide (x ≤ X) = true := decide_eq_true h1
        have hf : Hid (rsB tm 0 l = false) := by show _ = _; rw [hR.out, hd.out, rsB_at]; rw [decide_eq_false (by omega)]; rfl
        clear hR hd
        go_wp2_with fail
        refine wp_region_late (by kernel_rfl) (by kernel_rfl) ?_
        repeat (go_big_quiet_step (fail))
        refine wpQuiet_nil ?_
        intro W3 hw'
        replace hx : Hid (Ext w W3) := hx.out.trans (hx2.trans (late_ext hw'))
        replace hT : Hid (Two W3 A X Y) := (hT.out.ext hx2).ext (late_ext hw')
        replace hN2 : Hid (Two W3 B x y) := hN2.ext (late_ext hw')
        clear hw' j0 j1 j2 j3 hx2
        go_wp2
        go_ret
        exact ⟨ret_bool hf.out.symm, hx.out⟩
      · have d1 : decide (x ≤ X) = false := decide_eq_false h1
        have d1' : decide (X < x) = true := decide_eq_true (by omega)
        by_cases h2 : tm ≤ x
        · have d2 : decide (tm ≤ x) = true := decide_eq_true h2
          have hf : Hid (rsB tm 0 l = false) := by show _ = _; rw [hR.out, hd.out, rsB_at]; rw [d1', decide_eq_false (by omega)]; rfl
          clear hR hd
          go_wp2_with fail
          refine wp_region_late (by kernel_rfl) (by kernel_rfl) ?_
          repeat (go_big_quiet_step (fail))
          refine wpQuiet_nil ?_
          intro W3 hw'
          replace hx : Hid (Ext w W3) := hx.out.trans (hx2.trans (late_ext hw'))
          replace hT : Hid (Two W3 A X Y) := (hT.out.ext hx2).ext (late_ext hw')
          replace hN2 : Hid (Two W3 B x y) := hN2.ext (late_ext hw')
          clear hw' j0 j1 j2 j3 hx2
          go_wp2
          go_ret
          exact ⟨ret_bool hf.out.symm, hx.out⟩
        · have d2 : decide (tm ≤ x) = false := decide_eq_false h2
          have d2' : decide (x < tm) = true := decide_eq_true (by omega)
          cases h3 : lz y 0 1000000000
          · replace h3 := show Hid _ from h3
            have hf : Hid (rsB tm 0 l = false) := by show _ = _; rw [hR.out, hd.out, rsB_at]; rw [d1', d2', h3.out]; rfl
            clear hR hd
            go_wp2_with fail
            refine wp_region_late (by kernel_rfl) (by kernel_rfl) ?_
            repeat (go_big_quiet_step ((first | (go_at_call 101; exact late_same (rate_x _ false h3.out _)))))
            refine wpQuiet_nil ?_
            intro W3 hw'
            replace hx : Hid (Ext w W3) := hx.out.trans (hx2.trans (late_ext hw'))
            replace hT : Hid (Two W3 A X Y) := (hT.out.ext hx2).ext (late_ext hw')
            replace hN2 : Hid (Two W3 B x y) := hN2.ext (late_ext hw')
            clear hw' j0 j1 j2 j3 hx2
            go_wp2
            go_ret
            exact ⟨ret_bool hf.out.symm, hx.out⟩
          · replace h3 := show Hid _ from h3
            have hf : Hid (rsB tm 0 l = rsB tm x (l.drop (k + 1))) := by show _ = _; rw [hR.out, hd.out, rsB_at, d1', d2', h3.out]; rfl
            clear hR hd
            go_wp2_with fail
            refine wp_region_late (by kernel_rfl) (by kernel_rfl) ?_
            repeat (go_big_quiet_step ((first | (go_at_call 101; exact late_same (rate_x _ true h3.out _)))))
            refine wpQuiet_nil ?_
            intro W3 hw'
            replace hx : Hid (Ext w W3) := hx.out.trans (hx2.trans (late_ext hw'))
            replace hT : Hid (Two W3 A X Y) := (hT.out.ext hx2).ext (late_ext hw')
            replace hN2 : Hid (Two W3 B x y) := hN2.ext (late_ext hw')
            clear hw' j0 j1 j2 j3 hx2
            obtain ⟨W4, hW4, hx4, hT4⟩ := hT.out.set (w0 := w) hAlo.out hx.out x y
            have m0 := hT.out.c0; have m1 := hT.out.c1; have m2 := hT.out.f0; have m3 := hT.out.f1
            have p0 := hN2.out.c0; have p1 := hN2.out.c1
            go_wp2
            go_roundw
            case rel => exact ⟨k + 1, x, y, by omega, by go_num, hT4, hf, hx4⟩
            case measure => simp [RowKit.intOf]; omega
    · obtain rfl : k = n := by omega
      have hf : Hid (rsB tm 0 l = true) := by show _ = _; rw [hR.out, drop_end (by have := hn.out; omega)]; rfl
      clear hR
      go_wp2
      go_ret
      exact ⟨ret_bool hf.out.symm, hx.out⟩
theorem resets_nil (b : Nat) (a : Option Addr) (c : Nat) (w : World) (c1 : w.cell? ⟨b, 8, none⟩ = some (.slice a 0 c)) :
    Calls Tryz.prog 80 #[.pointer (some ⟨b, 0, none⟩)] w fun e w' => e = .returned (.bool true) ∧ Ext w w' := by
  obtain ⟨W0, A, hW0, hA, hx0, hT⟩ := two_new w 89
  have k1 := hx0.cell_of c1
  go_enter Tryz.func80, Tryz.ntmps80
  go_wp2_with fail
  refine wp_loop_rounds 1 ?_
  rw [rounds_succ]
  go_wp2
  go_ret
  exact ⟨rfl, hx0⟩
theorem resets_long (b : Nat) (a : Option Addr) (n c : Nat) (w : World) (hn : 20 < n) (hm : n ≤ 9223372036854775807) (c1 : w.cell? ⟨b, 8, none⟩ = some (.slice a n c)) :
    Calls Tryz.prog 80 #[.pointer (some ⟨b, 0, none⟩)] w fun e w' => e = .returned (.bool false) ∧ Ext w w' := by
  have h3 : (20 : Int) < (n : Int) := by omega
  go_enter Tryz.func80, Tryz.ntmps80
  go_wp2
  go_ret
  exact ⟨rfl, Ext.refl _⟩
theorem resets_c (b : Nat) (v : Value) (l : List (Int × Int)) (tm : Int) (w : World) (hm : l.length ≤ 9223372036854775807) (hv : Slp w v l) (c0 : w.cell? ⟨b, 5, none⟩ = some (.int .i64 tm)) (c1 : w.cell? ⟨b, 8, none⟩ = some v) :
    Calls Tryz.prog 80 #[.pointer (some ⟨b, 0, none⟩)] w fun e w' => e = .returned (.bool (r6B tm l)) ∧ Ext w w' := by
  unfold r6B
  by_cases hl : l.length ≤ 20
  · rw [decide_eq_true hl, Bool.true_and]
    rcases hv with ⟨a, c, rfl, _, rfl⟩ | ⟨s, off, c, rfl, hc⟩
    · exact resets_nil b a c w c1
    · exact resets_x b s off c l tm w hl c0 c1 hc
  · rw [decide_eq_false hl, Bool.false_and]
    obtain ⟨a, c, rfl⟩ := hv.len
    exact resets_long b a _ c w (by omega) hm c1
theorem ltB_at {a f x y : Int} {l : List (Int × Int)} : ltB a f ((x, y) :: l) = (decide (a < x) && (decide (x ≤ 365) && (lz y f 10000000000000 && ltB x y l))) := rfl
set_option maxHeartbeats 2000000 in
theorem late_x (b : Nat) (s off c : Nat) (l : List (Int × Int)) (w : World) (hl : l.length ≤ 8) (c1 : w.cell? ⟨b, 15, none⟩ = some (.slice (some ⟨s, off, none⟩) l.length c))
    (hc : ∀ (k : Nat) (x y : Int), l[k]? = some (x, y) → w.cell? ⟨s, off + k * 2, none⟩ = some (.int .i64 x) ∧ w.cell? ⟨s, off + k * 2 + 1, none⟩ = some (.int .i64 y)) :
    Calls Tryz.prog 82 #[.pointer (some ⟨b, 0, none⟩)] w fun e w' => e = .returned (.bool (ltB 0 0 l)) ∧ Ext w w' := by
  obtain ⟨n, hn⟩ : ∃ n, l.length = n := ⟨_, rfl⟩
  rw [hn] at hl c1
  replace hn := show Hid _ from hn
  replace hc := show Hid _ from hc
  have h20 : ¬ (8 : Int) < (n : Int) := by omega
  obtain ⟨W0, A, hW0, hA, hx0, hT⟩ := two_new w 91
  have k1 := hx0.cell_of c1
  have hAlo : Hid (w.heap.size ≤ A) := by show _ ≤ _; omega
  replace hx0 := show Hid _ from hx0
  replace hT := show Hid (Two W0 A 0 0) from hT
  go_enter Tryz.func82, Tryz.ntmps82
  go_wp2_with fail
  go_loopw [17] (fun i wr => ∃ (k : Nat) (X Y : Int), k ≤ n ∧ i = .int .i64 k ∧ Hid (Two wr A X Y) ∧ Hid (ltB 0 0 l = ltB X Y (l.drop k)) ∧ Hid (Ext w wr)) (fun i _ => n - (RowKit.intOf i).toNat)
  case atStart => exact ⟨0, 0, 0, Nat.zero_le _, rfl, hT, rfl, hx0⟩
  case round =>
    clear hx0 hW0 hA k1 hT
    obtain ⟨k, X, Y, hk, rfl, hT, hR, hx⟩ := hrel
    by_cases hlt : k < n
    · obtain ⟨⟨x, y⟩, hV⟩ : ∃ V, l[k]? = some V := ⟨_, List.getElem?_eq_getElem (by have := hn.out; omega)⟩
      have hlt' : (k : Int) < (n : Int) := by omega
      have s0 := hx.out.cell_of (hc.out k x y hV).1
      have s1 := hx.out.cell_of (hc.out k x y hV).2
      have hd := show Hid _ from drop_at hV
      obtain ⟨W1, B, hW1, hB, hx1, hN⟩ := two_new wr 91
      obtain ⟨W2, hW2, hx2, hN2⟩ := hN.set (w0 := wr) (by omega) hx1 x y
      have t0 := hx1.cell_of s0
      have t1 := hx1.cell_of s1
      have m0 := hN.c0; have m1 := hN.c1; have m2 := hN.f0; have m3 := hN.f1
      have hT2 := hT.out.ext hx2
      have j0 := hN2.c0; have j1 := hN2.c1
      have j2 := hT2.c0; have j3 := hT2.c1; have j4 := hT2.f0; have j5 := hT2.f1
      clear hV hN
      by_cases h1 : x ≤ X
      · have d1 : decide (x ≤ X) = true := decide_eq_true h1
        have hf : Hid (ltB 0 0 l = false) := by show _ = _; rw [hR.out, hd.out, ltB_at]; rw [decide_eq_false (by omega)]; rfl
        clear hR hd
        go_wp2
        go_ret
        exact ⟨ret_bool hf.out.symm, (hx.out.trans hx2)⟩
      · have d1' : decide (X < x) = true := decide_eq_true (by omega)
        by_cases h2 : x ≤ 365
        · have d2' : decide (x ≤ 365) = true := decide_eq_true h2
          cases h3 : lz y Y 10000000000000
          · replace h3 := show Hid _ from h3
            have hf : Hid (ltB 0 0 l = false) := by show _ = _; rw [hR.out, hd.out, ltB_at]; rw [d1', d2', h3.out]; rfl
            clear hR hd
            go_wp2_with fail
            refine (liesL_x y Y 10000000000000 false h3.out _).mono ?_
            rintro e w3 ⟨rfl, rfl⟩
            go_wp2
            go_ret
            exact ⟨ret_bool hf.out.symm, (hx.out.trans hx2)⟩
          · replace h3 := show Hid _ from h3
            have hf : Hid (ltB 0 0 l = ltB x y (l.drop (k + 1))) := by show _ = _; rw [hR.out, hd.out, ltB_at, d1', d2', h3.out]; rfl
            clear hR hd
            go_wp2_with fail
            refine (liesL_x y Y 10000000000000 true h3.out _).mono ?_
            rintro e w3 ⟨rfl, rfl⟩
            obtain ⟨W4, hW4, hx4, hT4⟩ := hT2.set (w0 := w) hAlo.out (hx.out.trans hx2) x y
            go_wp2
            go_roundw
            case rel => exact ⟨k + 1, x, y, by omega, by go_num, hT4, hf, hx4⟩
            case measure => simp [RowKit.intOf]; omega
        · have hf : Hid (ltB 0 0 l = false) := by show _ = _; rw [hR.out, hd.out, ltB_at]; rw [d1', decide_eq_false h2]; rfl
          clear hR hd
          go_wp2
          go_ret
          exact ⟨ret_bool hf.out.symm, (hx.out.trans hx2)⟩
    · obtain rfl : k = n := by omega
      have hf : Hid (ltB 0 0 l = true) := by show _ = _; rw [hR.out, drop_end (by have := hn.out; omega)]; rfl
      clear hR
      go_wp2
      go_ret
      exact ⟨ret_bool hf.out.symm, hx.out⟩
theorem late_nil (b : Nat) (a : Option Addr) (c : Nat) (w : World) (c1 : w.cell? ⟨b, 15, none⟩ = some (.slice a 0 c)) :
    Calls Tryz.prog 82 #[.pointer (some ⟨b, 0, none⟩)] w fun e w' => e = .returned (.bool true) ∧ Ext w w' := by
  obtain ⟨W0, A, hW0, hA, hx0, hT⟩ := two_new w 91
  have k1 := hx0.cell_of c1
  go_enter Tryz.func82, Tryz.ntmps82
  go_wp2_with fail
  refine wp_loop_rounds 1 ?_
  rw [rounds_succ]
  go_wp2
  go_ret
  exact ⟨rfl, hx0⟩
theorem late_long (b : Nat) (a : Option Addr) (n c : Nat) (w : World) (hn : 8 < n) (hm : n ≤ 9223372036854775807) (c1 : w.cell? ⟨b, 15, none⟩ = some (.slice a n c)) :
    Calls Tryz.prog 82 #[.pointer (some ⟨b, 0, none⟩)] w fun e w' => e = .returned (.bool false) ∧ Ext w w' := by
  have h3 : (8 : Int) < (n : Int) := by omega
  go_enter Tryz.func82, Tryz.ntmps82
  go_wp2
  go_ret
  exact ⟨rfl, Ext.refl _⟩
theorem late_c (b : Nat) (v : Value) (l : List (Int × Int)) (w : World) (hm : l.length ≤ 9223372036854775807) (hv : Slp w v l) (c1 : w.cell? ⟨b, 15, none⟩ = some v) :
    Calls Tryz.prog 82 #[.pointer (some ⟨b, 0, none⟩)] w fun e w' => e = .returned (.bool (r8B l)) ∧ Ext w w' := by
  unfold r8B
  by_cases hl : l.length ≤ 8
  · rw [decide_eq_true hl, Bool.true_and]
    rcases hv with ⟨a, c, rfl, _, rfl⟩ | ⟨s, off, c, rfl, hc⟩
    · exact late_nil b a c w c1
    · exact late_x b s off c l w hl c1 hc
  · rw [decide_eq_false hl, Bool.false_and]
    obtain ⟨a, c, rfl⟩ := hv.len
    exact late_long b a _ c w (by omega) hm c1
end Go.Proofs.YtafjmpaefikdcaaGreatDoor.L8
/- What package throw's Settle functions and the deferred closure of Check do, as contracts: no statement of the seat is proved here. -/
namespace Go.Proofs.YtafjmpaefikdcaaGreatDoor.L8
open Go.RowKit
set_option linter.unusedVariables false

theorem need_ok (c : Int) (w : World) :
    Calls Tryz.prog 20 #[.bool true, .int .i64 c] w fun e w' => e = .returned (.tuple #[]) ∧ w' = w := by
  go_enter Tryz.func20, Tryz.ntmps20
  go_wp2
  go_end0
  exact ⟨rfl, rfl⟩
theorem need_no (c : Int) (w : World) :
    Calls Tryz.prog 20 #[.bool false, .int .i64 c] w fun e w' => e = .panicked [{ v := .iface 33 (.int .i64 c), recovered := false }] ∧ w' = w := by
  go_enter Tryz.func20, Tryz.ntmps20
  go_wp2
  exact ⟨rfl, rfl, rfl⟩
theorem assert_errno (W : World) (x : Value) : (Instr.typeAssert (.iface 33 x) 20 33 true).run Tryz.prog W = .ok (.tuple #[x, .bool true]) W := by kernel_rfl
theorem settleAt_nil (w : World) :
    Calls Tryz.prog 98 #[.nilIface, .agg #[]] w fun e w' => e = .returned (.tuple #[.agg #[], .int .i64 0, .int .i64 0]) ∧ Ext w w' := by
  go_enter Tryz.func98, Tryz.ntmps98
  go_wp2
  exact bodyPost_ret (v := .tuple #[.agg #[], .int .i64 0, .int .i64 0]) (by simp [results, Tryz.results98, go_sem]) rfl ⟨rfl, by repeat (first | exact Ext.refl _ | apply Ext.alloc)⟩
theorem settleAt_errno (c : Int) (w : World) :
    Calls Tryz.prog 98 #[.iface 33 (.int .i64 c), .agg #[]] w fun e w' => e = .returned (.tuple #[.agg #[], .int .i64 0, .int .i64 c]) ∧ Ext w w' := by
  have hta := assert_errno
  go_enter Tryz.func98, Tryz.ntmps98
  go_wp2
  exact bodyPost_ret (v := .tuple #[.agg #[], .int .i64 0, .int .i64 c]) (by simp [results, Tryz.results98, go_sem]) rfl ⟨rfl, by repeat (first | exact Ext.refl _ | apply Ext.alloc)⟩
theorem settle_of (t : Value) (c : Int) (w : World) (h : ∀ w : World, Calls Tryz.prog 98 #[t, .agg #[]] w fun e w' => e = .returned (.tuple #[.agg #[], .int .i64 0, .int .i64 c]) ∧ Ext w w') :
    Calls Tryz.prog 73 #[t, .agg #[]] w fun e w' => e = .returned (.tuple #[.agg #[], .int .i64 c]) ∧ Ext w w' := by
  replace h := show Hid _ from h
  go_enter Tryz.func73, Tryz.ntmps73
  go_wp2_with fail
  refine Calls.mono (h.out _) ?_
  rintro e w1 ⟨rfl, hx⟩
  replace hx : Hid (Ext w w1) := Ext.trans (by repeat (first | exact Ext.refl _ | apply Ext.alloc)) hx
  go_wp2
  exact bodyPost_ret (v := .tuple #[.agg #[], .int .i64 c]) (by simp [results, Tryz.results73, go_sem]) rfl ⟨rfl, hx.out⟩
theorem settleNone_of (t : Value) (c : Int) (w : World) (h : ∀ w : World, Calls Tryz.prog 98 #[t, .agg #[]] w fun e w' => e = .returned (.tuple #[.agg #[], .int .i64 0, .int .i64 c]) ∧ Ext w w') :
    Calls Tryz.prog 54 #[t] w fun e w' => e = .returned (.int .i64 c) ∧ Ext w w' := by
  replace h := show Hid (∀ w : World, Calls Tryz.prog 73 #[t, .agg #[]] w fun e w' => e = .returned (.tuple #[.agg #[], .int .i64 c]) ∧ Ext w w') from fun w => settle_of t c w h
  go_enter Tryz.func54, Tryz.ntmps54
  go_wp2_with fail
  refine Calls.mono (h.out _) ?_
  rintro e w1 ⟨rfl, hx⟩
  replace hx := show Hid _ from hx
  go_wp2
  go_ret
  exact ⟨rfl, hx.out.alloc _ _⟩
theorem chk_idle (b : Nat) (y : Int) (w : World) (hp : w.cell? ⟨b, 0, none⟩ = some (.int .i64 y)) (hpz : w.frozen? ⟨b, 0, none⟩ = false) :
    CallsD Tryz.prog 53 #[.pointer (some ⟨b, 0, none⟩)] .returning w fun e u' w' => e = .returned (.tuple #[]) ∧ u' = .returning ∧ ∃ w1, Ext w w1 ∧ w' = w1.setCell ⟨b, 0, none⟩ (.int .i64 0) := by
  have hb := lt_of_cell hp
  refine callsD_of_wpS Tryz.func53 rfl fun c₀ cs hu => ?_
  refine wpS_region ?_
  simp [wpOpsS, List.range, List.range.loop, go_sem, recoverD, hu, Tryz.ntmps53]
  refine (settleNone_of _ _ _ settleAt_nil).mono ?_
  rintro e w1 ⟨rfl, hx⟩
  have gp := hx.cell_of hp
  have gpz : w1.frozen? ⟨b, 0, none⟩ = false := hx.froz_of hp hpz
  simp [go_sem, gp, gpz]
  exact ⟨rfl, .returning, by rw [← hu], .tuple #[], results_none (by rfl) _ _ _, rfl, rfl, w1, hx, rfl⟩
theorem chk_errno (b : Nat) (c : Int) (older : List PanicEntry) (y : Int) (w : World) (hp : w.cell? ⟨b, 0, none⟩ = some (.int .i64 y)) (hpz : w.frozen? ⟨b, 0, none⟩ = false) :
    CallsD Tryz.prog 53 #[.pointer (some ⟨b, 0, none⟩)] (.panicking ({ v := .iface 33 (.int .i64 c), recovered := false } :: older)) w fun e u' w' => e = .returned (.tuple #[]) ∧ u' = .panicking ({ v := .iface 33 (.int .i64 c), recovered := true } :: older) ∧ ∃ w1, Ext w w1 ∧ w' = w1.setCell ⟨b, 0, none⟩ (.int .i64 c) := by
  have hb := lt_of_cell hp
  refine callsD_of_wpS Tryz.func53 rfl fun c₀ cs hu => ?_
  refine wpS_region ?_
  simp [wpOpsS, List.range, List.range.loop, go_sem, recoverD, hu, Tryz.ntmps53]
  refine (settleNone_of _ _ _ (settleAt_errno c)).mono ?_
  rintro e w1 ⟨rfl, hx⟩
  have gp := hx.cell_of hp
  have gpz : w1.frozen? ⟨b, 0, none⟩ = false := hx.froz_of hp hpz
  simp [go_sem, gp, gpz]
  exact ⟨rfl, _, rfl, .tuple #[], results_none (by rfl) _ _ _, rfl, rfl, w1, hx, rfl⟩
end Go.Proofs.YtafjmpaefikdcaaGreatDoor.L8
