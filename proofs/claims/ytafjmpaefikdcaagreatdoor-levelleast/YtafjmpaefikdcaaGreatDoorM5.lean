/- Texts of an elder layer, one behind the other (layer 5), as contracts: no statement of the seat is proved here. -/
import Derived.Test.YtafjmpaefikdcaaGreatDoorM3
import Derived.Test.YtafjmpaefikdcaaGreatDoorLate
import Derived.OwnWalk
import Derived.Laws.AppendOwn
import Derived.Laws.AppendOwnNone
import Derived.ProofKit
/- Days of business by themselves: which are open, the first open one forwards or back, where a day is rolled, how many are open, which lists rise: plain arithmetic, no program is spoken of here. -/
namespace Go.Proofs.YtafjmpaefikdcaaGreatDoor.L5
open Go.Proofs.YtafjmpaefikdcaaGreatDoor.L3
/-- Is it a day of business? -/
def opn (l : List Int) (n : Int) : Bool := inD n && (decide (wday n < 5) && !(decide (n ∈ l)))
theorem inD_iff (n : Int) : inD n = true ↔ -25567 ≤ n ∧ n ≤ 84370 := by unfold inD; simp
theorem inD_no (n : Int) : inD n = false ↔ n < -25567 ∨ 84370 < n := by unfold inD; simp; omega
theorem opn_iff (l : List Int) (n : Int) : opn l n = true ↔ -25567 ≤ n ∧ n ≤ 84370 ∧ wday n < 5 ∧ n ∉ l := by
  unfold opn
  simp only [Bool.and_eq_true, inD_iff, decide_eq_true_eq, Bool.not_eq_true', decide_eq_false_iff_not]
  exact ⟨fun ⟨⟨a, b⟩, c, d⟩ => ⟨a, b, c, d⟩, fun ⟨a, b, c, d⟩ => ⟨⟨a, b⟩, c, d⟩⟩
theorem opn_in {l : List Int} {n : Int} (h : opn l n = true) : inD n = true := by
  have := (opn_iff l n).1 h
  exact (inD_iff n).2 ⟨this.1, this.2.1⟩
theorem opn_out {l : List Int} {n : Int} (h : inD n = false) : opn l n = false := by unfold opn; rw [h]; rfl

/-- The first open day from d on, by steps of s, and is there one? -/
def skF (l : List Int) (s : Int) : Nat → Int → Int × Bool
  | 0, _ => (0, false)
  | k + 1, d => if inD d = true then (if opn l d = true then (d, true) else skF l s k (d + s)) else (0, false)
def skM (s d : Int) : Nat := if s = 1 then (84371 - d).toNat else (d + 25568).toNat
def sk (l : List Int) (s d : Int) : Int × Bool := skF l s (skM s d) d
theorem sk_out (l : List Int) (s d : Int) (h : inD d = false) : sk l s d = (0, false) := by
  unfold sk
  cases skM s d with
  | zero => rfl
  | succ k => simp only [skF]; rw [if_neg (by rw [h]; simp)]
theorem skM_pos (s d : Int) (h : inD d = true) : ∃ k, skM s d = k + 1 := by
  have := (inD_iff d).1 h
  unfold skM
  split
  · exact ⟨(84371 - d).toNat - 1, by omega⟩
  · exact ⟨(d + 25568).toNat - 1, by omega⟩
theorem sk_hit (l : List Int) (s d : Int) (h : opn l d = true) : sk l s d = (d, true) := by
  obtain ⟨k, hk⟩ := skM_pos s d (opn_in h)
  unfold sk
  rw [hk]
  simp only [skF]
  rw [if_pos (opn_in h), if_pos h]
theorem skM_step (s d : Int) (hs : s = 1 ∨ s = -1) (h : inD d = true) : skM s d = skM s (d + s) + 1 := by
  have := (inD_iff d).1 h
  unfold skM
  rcases hs with rfl | rfl
  · simp; omega
  · simp; omega
theorem sk_step (l : List Int) (s d : Int) (hs : s = 1 ∨ s = -1) (h : inD d = true) (ho : opn l d = false) : sk l s d = sk l s (d + s) := by
  unfold sk
  rw [skM_step s d hs h]
  simp only [skF]
  rw [if_pos h, if_neg (by rw [ho]; simp)]
theorem sk_up (l : List Int) : ∀ (n : Nat) (d : Int), (84371 - d).toNat = n → -25567 ≤ d →
    ((sk l 1 d).2 = true ∧ opn l (sk l 1 d).1 = true ∧ d ≤ (sk l 1 d).1 ∧ ∀ k, d ≤ k → k < (sk l 1 d).1 → opn l k = false) ∨ (sk l 1 d = (0, false) ∧ ∀ k, d ≤ k → opn l k = false) := by
  intro n
  induction n with
  | zero =>
    intro d hd h1
    right
    exact ⟨sk_out _ _ _ ((inD_no d).2 (by omega)), fun k hk => opn_out ((inD_no k).2 (by omega))⟩
  | succ n ih =>
    intro d hd h1
    cases ho : opn l d
    · have e := sk_step l 1 d (Or.inl rfl) ((inD_iff d).2 (by omega)) ho
      rw [e]
      rcases ih (d + 1) (by omega) (by omega) with ⟨a, b, c, f⟩ | ⟨a, b⟩
      · refine Or.inl ⟨a, b, by omega, fun k k1 k2 => ?_⟩
        by_cases hk : k = d
        · rw [hk]; exact ho
        · exact f k (by omega) k2
      · refine Or.inr ⟨a, fun k k1 => ?_⟩
        by_cases hk : k = d
        · rw [hk]; exact ho
        · exact b k (by omega)
    · rw [sk_hit l 1 d ho]
      exact Or.inl ⟨rfl, ho, Int.le_refl _, fun k k1 k2 => by simp only at k2; omega⟩
theorem sk_dn (l : List Int) : ∀ (n : Nat) (d : Int), (d + 25568).toNat = n → d ≤ 84370 →
    ((sk l (-1) d).2 = true ∧ opn l (sk l (-1) d).1 = true ∧ (sk l (-1) d).1 ≤ d ∧ ∀ k, k ≤ d → (sk l (-1) d).1 < k → opn l k = false) ∨ (sk l (-1) d = (0, false) ∧ ∀ k, k ≤ d → opn l k = false) := by
  intro n
  induction n with
  | zero =>
    intro d hd h1
    right
    exact ⟨sk_out _ _ _ ((inD_no d).2 (by omega)), fun k hk => opn_out ((inD_no k).2 (by omega))⟩
  | succ n ih =>
    intro d hd h1
    cases ho : opn l d
    · have e := sk_step l (-1) d (Or.inr rfl) ((inD_iff d).2 (by omega)) ho
      rw [e]
      rcases ih (d + -1) (by omega) (by omega) with ⟨a, b, c, f⟩ | ⟨a, b⟩
      · refine Or.inl ⟨a, b, by omega, fun k k1 k2 => ?_⟩
        by_cases hk : k = d
        · rw [hk]; exact ho
        · exact f k (by omega) k2
      · refine Or.inr ⟨a, fun k k1 => ?_⟩
        by_cases hk : k = d
        · rw [hk]; exact ho
        · exact b k (by omega)
    · rw [sk_hit l (-1) d ho]
      exact Or.inl ⟨rfl, ho, Int.le_refl _, fun k k1 k2 => by simp only at k2; omega⟩

/-- Of one month of one year? -/
def sameM (a b : Int) : Bool := decide (yOf a = yOf b) && decide (mOf a = mOf b)
theorem sameM_self (a : Int) : sameM a a = true := by unfold sameM; simp
/-- Where a day is moved, and is there such a day? -/
def rolP (l : List Int) (n how : Int) : Int × Bool :=
  if how = 4 then sk l (-1) n else if how = 2 ∨ ((sk l 1 n).2 = true ∧ sameM n (sk l 1 n).1 = true) then sk l 1 n else sk l (-1) n
def rlA (l : List Int) (n how : Int) : Int :=
  if inD n = true ∧ 1 ≤ how ∧ how ≤ 4 then (if how = 1 then n else if (rolP l n how).2 = true then (rolP l n how).1 else 0) else 0
def rlE (l : List Int) (n how : Int) : Int :=
  if inD n = true then (if 1 ≤ how ∧ how ≤ 4 then (if how = 1 then 0 else if (rolP l n how).2 = true then 0 else 5) else 1) else 5
theorem rolP_open {l : List Int} {n how : Int} (h : opn l n = true) : rolP l n how = (n, true) := by
  unfold rolP
  rw [sk_hit _ _ _ h, sk_hit _ _ _ h]
  simp
/-- How many are open, of k days from a on. -/
def cnt (l : List Int) (a : Int) : Nat → Int
  | 0 => 0
  | k + 1 => cnt l a k + (if opn l (a + (k : Int)) = true then 1 else 0)
def ctA (l : List Int) (a b : Int) : Int := if inD a = true ∧ inD b = true ∧ a ≤ b then cnt l a (b - a + 1).toNat else 0
def ctE (a b : Int) : Int := if inD a = true ∧ inD b = true ∧ a ≤ b then 0 else 5
theorem cnt_bd (l : List Int) (a : Int) (k : Nat) : 0 ≤ cnt l a k ∧ cnt l a k ≤ k := by
  induction k with
  | zero => simp [cnt]
  | succ k ih => simp only [cnt]; split <;> omega
theorem cnt_yes {l : List Int} {a : Int} {k : Nat} (h : opn l (a + (k : Int)) = true) : cnt l a (k + 1) = cnt l a k + 1 := by simp [cnt, h]
theorem cnt_not {l : List Int} {a : Int} {k : Nat} (h : opn l (a + (k : Int)) = false) : cnt l a (k + 1) = cnt l a k := by simp [cnt, h]

/-- Each is a day, and above the one ahead of it. -/
def rsg : Int → List Int → Bool
  | _, [] => true
  | a, x :: t => decide (a < x ∧ x ≤ 84370) && rsg x t
def rgt (l : List Int) : Bool := rsg (-25568) l && decide (l.length ≤ 200)
theorem rsg_spec : ∀ (l : List Int) (a : Int), rsg a l = true → l.Pairwise (· < ·) ∧ ∀ x ∈ l, a < x ∧ x ≤ 84370
  | [], a, _ => ⟨List.Pairwise.nil, fun x h => by cases h⟩
  | y :: t, a, h => by
    simp only [rsg, Bool.and_eq_true, decide_eq_true_eq] at h
    obtain ⟨⟨h1, h2⟩, h3⟩ := h
    obtain ⟨p, q⟩ := rsg_spec t y h3
    refine ⟨List.pairwise_cons.2 ⟨fun x hx => (q x hx).1, p⟩, fun x hx => ?_⟩
    rcases List.mem_cons.1 hx with rfl | hx
    · exact ⟨h1, h2⟩
    · have := q x hx; omega
theorem rsg_yes {a x : Int} {t : List Int} (h1 : a < x) (h2 : x ≤ 84370) : rsg a (x :: t) = rsg x t := by simp [rsg, h1, h2]
theorem rsg_no {a x : Int} {t : List Int} (h : x ≤ a ∨ 84370 < x) : rsg a (x :: t) = false := by
  simp only [rsg]
  rw [decide_eq_false (by omega)]; rfl
theorem rsg_of : ∀ (l : List Int) (a : Int), l.Pairwise (· < ·) → (∀ x ∈ l, a < x ∧ x ≤ 84370) → rsg a l = true
  | [], _, _, _ => rfl
  | y :: t, a, hp, h => by
    obtain ⟨p, q⟩ := List.pairwise_cons.1 hp
    obtain ⟨h1, h2⟩ := h y (.head _)
    rw [rsg_yes h1 h2]
    exact rsg_of t y q (fun x hx => ⟨p x hx, (h x (.tail _ hx)).2⟩)
/-- A list without its first k, from its element k on. -/
theorem drop_at {l : List Int} {k : Nat} {v : Int} (h : l[k]? = some v) : l.drop k = v :: l.drop (k + 1) := by
  obtain ⟨hk, e⟩ := List.getElem?_eq_some_iff.1 h
  rw [List.drop_eq_getElem_cons hk, e]
theorem drop_end {l : List Int} {k : Nat} (h : l.length ≤ k) : l.drop k = [] := List.drop_eq_nil_of_le h
end Go.Proofs.YtafjmpaefikdcaaGreatDoor.L5
/- The holidays' row, and what the small functions of package business and the library's search do, as contracts: no statement of the seat is proved here. -/
namespace Go.Proofs.YtafjmpaefikdcaaGreatDoor.L5
open Go.Proofs.YtafjmpaefikdcaaGreatDoor.L3
open Go.RowKit
set_option linter.unusedVariables false

/-- A slice of these numbers: of none whatever its address, else cells. -/
def Slc (w : World) (v : Value) (l : List Int) : Prop :=
  (∃ a c, v = .slice a 0 c ∧ (a = none → c = 0) ∧ l = []) ∨ ∃ b off c, v = .slice (some ⟨b, off, none⟩) l.length c ∧ ∀ (k : Nat) (x : Int), l[k]? = some x → w.cell? ⟨b, off + k, none⟩ = some (.int .i64 x)
theorem Slc.ext {w w' : World} {v : Value} {l : List Int} (h : Slc w v l) (hx : Ext w w') : Slc w' v l := by
  rcases h with h | ⟨b, off, c, e, hc⟩
  · exact Or.inl h
  · exact Or.inr ⟨b, off, c, e, fun k v hk => hx.cell_of (hc k v hk)⟩
/-- A calendar of these holidays. -/
structure Cld (w : World) (p : Nat) (l : List Int) : Prop where
  cell : ∃ v, w.cell? ⟨p, 0, none⟩ = some v ∧ Slc w v l
  rgt : rgt l = true
theorem Cld.ext {w w' : World} {p : Nat} {l : List Int} (h : Cld w p l) (hx : Ext w w') : Cld w' p l := by
  obtain ⟨⟨v, h1, h2⟩, h3⟩ := h
  exact ⟨⟨v, hx.cell_of h1, h2.ext hx⟩, h3⟩
theorem rgt_len {l : List Int} (h : rgt l = true) : l.length ≤ 200 := by
  unfold Go.Proofs.YtafjmpaefikdcaaGreatDoor.L5.rgt at h
  simp only [Bool.and_eq_true, decide_eq_true_eq] at h
  exact h.2
theorem rgt_srt {l : List Int} (h : rgt l = true) : l.Pairwise (· < ·) := by
  unfold Go.Proofs.YtafjmpaefikdcaaGreatDoor.L5.rgt at h
  simp only [Bool.and_eq_true, decide_eq_true_eq] at h
  exact (rsg_spec _ _ h.1).1

theorem Is_c (n : Int) (w : World) :
    Calls Tryz.prog 48 #[.int .i64 n] w fun e w' => e = .returned (.bool (inD n)) ∧ w' = w := by
  cases h : inD n
  · exact Is_f n w ((inD_no n).1 h)
  · exact Is_t n w ((inD_iff n).1 h).1 ((inD_iff n).1 h).2
theorem ret_ib {a : Int} {b c : Bool} (h : b = c) : Ending.returned (.tuple #[.int .i64 a, .bool b]) = .returned (.tuple #[.int .i64 a, .bool c]) := by rw [h]
theorem mem_at {l : List Int} {x : Int} {i : Nat} (h1 : ∀ (k : Nat) (v : Int), k < i → l[k]? = some v → v < x) (h2 : ∀ (k : Nat) (v : Int), i ≤ k → l[k]? = some v → x ≤ v) (hs : l.Pairwise (· < ·)) :
    decide (x ∈ l) = decide (l[i]? = some x) := by
  by_cases h : l[i]? = some x
  · rw [decide_eq_true h, decide_eq_true (List.mem_of_getElem? h)]
  · rw [decide_eq_false h, decide_eq_false]
    intro hm
    obtain ⟨k, hk, e⟩ := List.mem_iff_getElem.1 hm
    have e' : l[k]? = some x := by rw [List.getElem?_eq_getElem hk, e]
    rcases Nat.lt_trichotomy k i with a | a | a
    · have := h1 k x a e'; omega
    · subst a; exact h e'
    · have hi : i < l.length := by omega
      have e1 : l[i]? = some l[i] := List.getElem?_eq_getElem hi
      have := h2 i _ (Nat.le_refl _) e1
      have := List.pairwise_iff_getElem.1 hs i k hi hk a
      omega
theorem below_of {l : List Int} {m : Nat} {V x : Int} (hs : l.Pairwise (· < ·)) (hV : l[m]? = some V) (h : V < x) : ∀ (k : Nat) (v : Int), k < m + 1 → l[k]? = some v → v < x := by
  intro k v hk hv
  obtain ⟨hm, rfl⟩ := List.getElem?_eq_some_iff.1 hV
  obtain ⟨hk', rfl⟩ := List.getElem?_eq_some_iff.1 hv
  by_cases e : k = m
  · subst e; exact h
  · have := List.pairwise_iff_getElem.1 hs k m hk' hm (by omega)
    omega
theorem above_of {l : List Int} {m : Nat} {V x : Int} (hs : l.Pairwise (· < ·)) (hV : l[m]? = some V) (h : ¬ V < x) : ∀ (k : Nat) (v : Int), m ≤ k → l[k]? = some v → x ≤ v := by
  intro k v hk hv
  obtain ⟨hm, rfl⟩ := List.getElem?_eq_some_iff.1 hV
  obtain ⟨hk', rfl⟩ := List.getElem?_eq_some_iff.1 hv
  by_cases e : k = m
  · subst e; omega
  · have := List.pairwise_iff_getElem.1 hs m k hm hk' (by omega)
    omega
end Go.Proofs.YtafjmpaefikdcaaGreatDoor.L5
/- What package business does: New, the days sought, Roll and Count, as contracts: no statement of the seat is proved here. -/
namespace Go.Proofs.YtafjmpaefikdcaaGreatDoor.L5
open Go.Proofs.YtafjmpaefikdcaaGreatDoor.L3
open Go.RowKit
set_option linter.unusedVariables false

theorem box3f (w : World) (x y z : Value) (t : TypeId) : ∃ W b, w.alloc (.cells #[x, y, z] t) = W ∧ w.heap.size = b ∧ Ext w W ∧ W.cell? ⟨b, 0, none⟩ = some x ∧ W.cell? ⟨b, 1, none⟩ = some y ∧ W.cell? ⟨b, 2, none⟩ = some z ∧
    W.frozen? ⟨b, 0, none⟩ = false ∧ W.frozen? ⟨b, 1, none⟩ = false ∧ W.frozen? ⟨b, 2, none⟩ = false :=
  ⟨_, _, rfl, rfl, (Ext.refl w).alloc _ _, by simp [go_sem], by simp [go_sem], by simp [go_sem], by simp [go_sem], by simp [go_sem], by simp [go_sem]⟩
theorem info_int : (Tryz.prog.info? 3).map (fun i => (i.zero, i.size, i.bytes)) = some (some (.int .i64 0), 1, 8) := by kernel_rfl
theorem rDate_f (n : Int) (w : World) (h1 : -25567 ≤ n) (h2 : n ≤ 84370) :
    Calls Tryz.prog 71 #[.int .i64 n] w fun e w' => e = .returned (.tuple #[.agg #[.int .i64 (yOf n), .int .i64 (mOf n), .int .i64 (dOf n)], .int .i64 0]) ∧ Ext w w' :=
  (rDate_ok n w h1 h2).mono fun e w' ⟨⟨y, m, d, he, hv, hn⟩, hx⟩ => by
    obtain ⟨rfl, rfl, rfl⟩ := ofDay_of hv hn
    exact ⟨he, hx⟩

theorem rising_nil (a : Option Addr) (c : Nat) (w : World) :
    Calls Tryz.prog 119 #[.slice a 0 c] w fun e w' => e = .returned (.bool true) ∧ w' = w := by
  go_enter Tryz.func119, Tryz.ntmps119
  go_wp2_with fail
  refine wp_loop_rounds 1 ?_
  rw [rounds_succ]
  go_wp2
  go_ret
  exact ⟨rfl, rfl⟩
theorem rising_c (b off c : Nat) (l : List Int) (w : World) (hl : l.length ≤ 1000) (hc : ∀ (k : Nat) (v : Int), l[k]? = some v → w.cell? ⟨b, off + k, none⟩ = some (.int .i64 v)) :
    Calls Tryz.prog 119 #[.slice (some ⟨b, off, none⟩) l.length c] w fun e w' => e = .returned (.bool (rsg (-25568) l)) ∧ w' = w := by
  replace hc := show Hid _ from hc
  obtain ⟨n, hn⟩ : ∃ n, l.length = n := ⟨_, rfl⟩
  rw [hn]
  rw [hn] at hl
  replace hn := show Hid _ from hn
  go_enter Tryz.func119, Tryz.ntmps119
  go_wp2_with fail
  go_loop [3, 8] (fun u i => ∃ (k : Nat) (A : Int), k ≤ n ∧ i = .int .i64 k ∧ u = .int .i64 A ∧ Hid (rsg (-25568) l = rsg A (l.drop k))) (fun _ i => n - (RowKit.intOf i).toNat)
  case atStart => exact ⟨0, -25568, Nat.zero_le _, rfl, rfl, rfl⟩
  case round =>
    obtain ⟨k, A, hk, rfl, rfl, hA⟩ := hrel
    by_cases hlt : k < n
    · obtain ⟨V, hV⟩ : ∃ V, l[k]? = some V := ⟨_, List.getElem?_eq_getElem (by have := hn.out; omega)⟩
      have hcell := hc.out _ _ hV
      have hd := show Hid _ from drop_at hV
      clear hV
      by_cases h1 : V ≤ A
      · have hf : Hid (rsg (-25568) l = false) := by show _ = _; rw [hA.out, hd.out]; exact rsg_no (Or.inl h1)
        clear hA hd
        go_wp2
        go_ret
        exact ⟨ret_bool hf.out.symm, rfl⟩
      · by_cases h2 : 84370 < V
        · have hf : Hid (rsg (-25568) l = false) := by show _ = _; rw [hA.out, hd.out]; exact rsg_no (Or.inr h2)
          clear hA hd
          go_wp2
          go_ret
          exact ⟨ret_bool hf.out.symm, rfl⟩
        · have hf : Hid (rsg (-25568) l = rsg V (l.drop (k + 1))) := by show _ = _; rw [hA.out, hd.out]; exact rsg_yes (by omega) (by omega)
          clear hA hd
          go_wp2
          go_round
          case rel => exact ⟨k + 1, V, by omega, by go_num, rfl, hf⟩
          case measure => simp [RowKit.intOf]; omega
    · obtain rfl : k = n := by omega
      have hf : Hid (rsg (-25568) l = true) := by show _ = _; rw [hA.out, drop_end (by have := hn.out; omega)]; rfl
      clear hA
      go_wp2
      go_ret
      exact ⟨ret_bool hf.out.symm, rfl⟩
theorem New_no (v : Value) (l : List Int) (w : World) (hv : Slc w v l) (hl : l.length ≤ 9223372036854775807) (hr : rgt l = false) :
    Calls Tryz.prog 104 #[v] w fun e w' => e = .returned (.tuple #[.pointer none, .int .i64 1]) ∧ w' = w := by
  rcases hv with ⟨a, c, rfl, _, rfl⟩ | ⟨b, off, c, rfl, hc⟩
  · exact absurd hr (by decide)
  · by_cases h2 : 200 < l.length
    · generalize l.length = n at *
      clear hr hc
      have h3 : (200 : Int) < (n : Int) := by omega
      go_enter Tryz.func104, Tryz.ntmps104
      go_wp2
      go_ret2
      exact ⟨rfl, rfl⟩
    · have hR : Hid (Calls Tryz.prog 119 #[.slice (some ⟨b, off, none⟩) l.length c] w fun e w' => e = .returned (.bool false) ∧ w' = w) := by
        have := rising_c b off c l w (by omega) hc
        rwa [show rsg (-25568) l = false by
          unfold rgt at hr
          rw [decide_eq_true (show l.length ≤ 200 by omega)] at hr
          simpa using hr] at this
      clear hc hr
      generalize l.length = n at *
      have h3 : ¬ (200 : Int) < (n : Int) := by omega
      go_enter Tryz.func104, Tryz.ntmps104
      go_wp2_with (go_at_call 119; refine Calls.mono hR.out ?_; rintro e w' ⟨rfl, rfl⟩)
      go_ret2
      exact ⟨rfl, rfl⟩
/-- A row of the call's own, in whatever world has its block as it is. -/
theorem Slc.of_own {w w2 : World} {B : Nat} {e : TypeId} {v : Value} {l : List Int} (h : w.ownsRow B e 1 v l.length (l.map (.int .i64)))
    (hk : ∀ q o, B ≤ q → q < w.heap.size → w2.cell? ⟨q, o, none⟩ = w.cell? ⟨q, o, none⟩) : Slc w2 v l := by
  have h' := h
  rcases h'.2 with ⟨rfl, h0⟩ | ⟨g, c, cur, rfl, hB, hg, _⟩
  · exact Or.inl ⟨none, 0, rfl, fun _ => rfl, List.eq_nil_of_length_eq_zero h0⟩
  · refine Or.inr ⟨g, 0, c, rfl, fun k x hx => ?_⟩
    rw [hk g (0 + k) hB (Array.getElem?_eq_some_iff.1 hg).1, Nat.zero_add, h.cellAt k (by have := (List.getElem?_eq_some_iff.1 hx).1; omega)]
    simp [hx]
theorem own_slice {w : World} {B : Nat} {e : TypeId} {z : Nat} {v : Value} {n : Nat} {xs : List Value} (h : w.ownsRow B e z v n xs) : ∃ ao k c, v = .slice ao k c := by
  rcases h.2 with ⟨rfl, _⟩ | ⟨g, c, cur, rfl, _⟩
  · exact ⟨_, _, _, rfl⟩
  · exact ⟨_, _, _, rfl⟩
/-- What New leaves: a calendar that lies in new blocks. -/
structure Made (w w' : World) (p : Nat) (l : List Int) : Prop where
  keep : ∀ w2 : World, (∀ q o, w.heap.size ≤ q → q < w'.heap.size → w2.cell? ⟨q, o, none⟩ = w'.cell? ⟨q, o, none⟩) → Cld w2 p l
  ext : Ext w w'
theorem Made.cld {w w' : World} {p : Nat} {l : List Int} (h : Made w w' p l) : Cld w' p l := h.keep w' (fun _ _ _ _ => rfl)
theorem Made.of_own {w w3 : World} {e t : TypeId} {v : Value} {l : List Int} (hr : rgt l = true) (h : w3.ownsRow w.heap.size e 1 v l.length (l.map (.int .i64))) (hx : Ext w w3) : Made w (w3.alloc (.cells #[v] t)) w3.heap.size l := by
  refine ⟨fun w2 hk => ⟨⟨v, ?_, ?_⟩, hr⟩, hx.alloc _ _⟩
  · rw [hk _ _ hx.size (by simp)]
    simp [go_sem]
  · refine Slc.of_own h fun q o q1 q2 => ?_
    rw [hk q o q1 (by simp; omega)]
    exact ((Ext.refl w3).alloc _ _).cell q o q2
theorem New_x (b off c : Nat) (l : List Int) (w : World) (hl : l.length ≤ 200) (hc : ∀ (k : Nat) (v : Int), l[k]? = some v → w.cell? ⟨b, off + k, none⟩ = some (.int .i64 v)) (hr : rgt l = true) :
    Calls Tryz.prog 104 #[.slice (some ⟨b, off, none⟩) l.length c] w fun e w' => ∃ p, e = .returned (.tuple #[.pointer (some ⟨p, 0, none⟩), .int .i64 0]) ∧ Made w w' p l := by
  have hR : Hid (∀ w : World, (∀ (k : Nat) (v : Int), l[k]? = some v → w.cell? ⟨b, off + k, none⟩ = some (.int .i64 v)) → Calls Tryz.prog 119 #[.slice (some ⟨b, off, none⟩) l.length c] w fun e w' => e = .returned (.bool true) ∧ w' = w) := fun w hc => by
    have := rising_c b off c l w (by omega) hc
    rwa [show rsg (-25568) l = true by
      unfold rgt at hr
      simp only [Bool.and_eq_true] at hr
      exact hr.1] at this
  replace hr := show Hid _ from hr
  replace hc := show Hid _ from hc
  obtain ⟨i0, hi, hz0, hz1, hz2⟩ := info_parts info_int
  obtain ⟨n, hn⟩ : ∃ n, l.length = n := ⟨_, rfl⟩
  rw [hn] at hl ⊢
  rw [hn] at hR
  replace hn := show Hid _ from hn
  have h3 : ¬ (200 : Int) < (n : Int) := by omega
  go_enter Tryz.func104, Tryz.ntmps104
  go_wp2_with (first
    | (go_at_call 119; refine Calls.mono (hR.out _ hc.out) ?_; rintro e wa ⟨rfl, rfl⟩)
    | (at_builtin; refine wpList_append_own _ rfl (.tmp 12) (.tmp 13) 25 rfl wa.heap.size 3 i0 (.int .i64 0) 1 8 Tryz.underlying25 hi hz0 hz1 hz2 rfl (by decide) _ _ _ rfl (World.ownsRow_made wa #[] 0 (Nat.le_refl _) (by decide) rfl) ⟨b, off, none⟩ n c (l.map (.int .i64)) rfl ?c0 ?c1 ?c2 ?c3 ?c4 ?c5 ?_))
  case c0 => simp; exact hn.out
  case c1 =>
    intro j u hj
    simp at hj
    obtain ⟨x, hx, rfl⟩ := hj
    rw [Addr.add_lit]
    exact ((Ext.refl wa).alloc #[] 3).cell_of (hc.out j x hx)
  case c2 => intro u hu; simp at hu; obtain ⟨x, _, rfl⟩ := hu; rfl
  case c3 => unfold maxLen; omega
  case c4 => omega
  case c5 => simp
  intro v' w3 hown' hgrow _
  have hx3 : Hid (Ext wa w3) := ⟨(((Ext.refl wa).alloc _ _).below).grown hgrow (by simp) (fun k hk => by injection hk with hk; subst hk; exact Nat.le_refl _)⟩
  have hr3 : Hid (w3.ownsRow wa.heap.size 3 1 v' l.length (l.map (.int .i64))) := by
    show w3.ownsRow _ _ _ _ _ _
    have := hn.out
    rw [hn.out]; simpa using hown'
  clear hown' hgrow hi hz0 hz1 hz2
  obtain ⟨ao, n', c', rfl⟩ := own_slice hr3.out
  go_wp2
  go_ret2
  exact ⟨_, rfl, Made.of_own hr.out hr3.out hx3.out⟩
theorem New_y (ad : Addr) (c : Nat) (w : World) :
    Calls Tryz.prog 104 #[.slice (some ad) 0 c] w fun e w' => ∃ p, e = .returned (.tuple #[.pointer (some ⟨p, 0, none⟩), .int .i64 0]) ∧ Made w w' p [] := by
  obtain ⟨i0, hi, hz0, hz1, hz2⟩ := info_parts info_int
  go_enter Tryz.func104, Tryz.ntmps104
  go_wp2_with (first
    | (go_at_call 119; refine Calls.mono (rising_nil _ _ _) ?_; rintro e wa ⟨rfl, rfl⟩)
    | (at_builtin; refine wpList_append_own _ rfl (.tmp 12) (.tmp 13) 25 rfl wa.heap.size 3 i0 (.int .i64 0) 1 8 Tryz.underlying25 hi hz0 hz1 hz2 rfl (by decide) _ _ _ rfl (World.ownsRow_made wa #[] 0 (Nat.le_refl _) (by decide) rfl) ad 0 c [] rfl rfl (fun j u hj => by simp at hj) (fun u hu => by cases hu) (by decide) (by decide) (by simp) ?_))
  intro v' w3 hown' hgrow _
  have hx3 : Hid (Ext wa w3) := ⟨(((Ext.refl wa).alloc _ _).below).grown hgrow (by simp) (fun k hk => by injection hk with hk; subst hk; exact Nat.le_refl _)⟩
  have hr3 : Hid (w3.ownsRow wa.heap.size 3 1 v' 0 []) := by
    show w3.ownsRow _ _ _ _ _ _
    simpa using hown'
  clear hown' hgrow hi hz0 hz1 hz2
  obtain ⟨ao, n', c', rfl⟩ := own_slice hr3.out
  go_wp2
  go_ret2
  exact ⟨_, rfl, Made.of_own (l := []) (by decide) hr3.out hx3.out⟩
theorem New_z (w : World) :
    Calls Tryz.prog 104 #[.slice none 0 0] w fun e w' => ∃ p, e = .returned (.tuple #[.pointer (some ⟨p, 0, none⟩), .int .i64 0]) ∧ Made w w' p [] := by
  obtain ⟨i0, hi, hz0, hz1, hz2⟩ := info_parts info_int
  go_enter Tryz.func104, Tryz.ntmps104
  go_wp2_with (first
    | (go_at_call 119; refine Calls.mono (rising_nil _ _ _) ?_; rintro e wa ⟨rfl, rfl⟩)
    | (at_builtin; refine wpList_append_own_none rfl (.tmp 12) (.tmp 13) 25 rfl wa.heap.size 3 i0 1 Tryz.underlying25 hi _ _ _ rfl (World.ownsRow_made wa #[] 0 (Nat.le_refl _) (by decide) rfl) rfl ?_))
  go_ret2
  exact ⟨_, rfl, by
    have := Made.of_own (t := 152) (l := []) (by decide) (World.ownsRow_made (e := 3) wa #[] 0 (Nat.le_refl _) (by decide) rfl) ((Ext.refl _).alloc _ _)
    simpa using this⟩
theorem New_ok (v : Value) (l : List Int) (w : World) (hv : Slc w v l) (hr : rgt l = true) :
    Calls Tryz.prog 104 #[v] w fun e w' => ∃ p, e = .returned (.tuple #[.pointer (some ⟨p, 0, none⟩), .int .i64 0]) ∧ Made w w' p l := by
  rcases hv with ⟨a, c, rfl, hn, rfl⟩ | ⟨b, off, c, rfl, hc⟩
  · cases a with
    | none => rw [hn rfl]; exact New_z w
    | some ad => exact New_y ad c w
  · exact New_x b off c l w (rgt_len hr) hc hr
end Go.Proofs.YtafjmpaefikdcaaGreatDoor.L5
/- What package business does: the days sought, Roll and Count, as contracts: no statement of the seat is proved here. -/
namespace Go.Proofs.YtafjmpaefikdcaaGreatDoor.L5
open Go.Proofs.YtafjmpaefikdcaaGreatDoor.L3
open Go.RowKit
set_option linter.unusedVariables false

theorem ret_ib2 {a b : Int} {c d : Bool} {x : Int × Bool} (h : x = (a, c)) : Ending.returned (.tuple #[.int .i64 a, .bool c]) = .returned (.tuple #[.int .i64 x.1, .bool x.2]) := by rw [h]
theorem sk_in {l : List Int} {n : Int} (hn : inD n = true) (h : (sk l 1 n).2 = true) : inD (sk l 1 n).1 = true := by
  have := (inD_iff n).1 hn
  rcases sk_up l _ n rfl (by omega) with ⟨_, a, _⟩ | ⟨a, _⟩
  · exact opn_in a
  · rw [a] at h; cases h
theorem ret_ii {a b c d : Int} (h : a = b) (k : c = d) : Ending.returned (.tuple #[.int .i64 a, .int .i64 c]) = .returned (.tuple #[.int .i64 b, .int .i64 d]) := by rw [h, k]
end Go.Proofs.YtafjmpaefikdcaaGreatDoor.L5
/- The document's own answers on days of business, as contracts: no statement of the seat is proved here. -/
namespace Go.Proofs.YtafjmpaefikdcaaGreatDoor.L5
open Go.Proofs.YtafjmpaefikdcaaGreatDoor.L3
open Go.RowKit
set_option linter.unusedVariables false

theorem Right_nil (a : Option Addr) (c : Nat) (w : World) :
    Calls Tryz.prog 36 #[.slice a 0 c] w fun e w' => e = .returned (.bool true) ∧ w' = w := by
  go_enter Tryz.func36, Tryz.ntmps36
  go_wp2_with fail
  refine wp_loop_rounds 1 ?_
  rw [rounds_succ]
  go_wp2
  go_ret
  exact ⟨rfl, rfl⟩
theorem Right_c (b off c : Nat) (l : List Int) (w : World) (hl : l.length ≤ 1000) (hc : ∀ (k : Nat) (v : Int), l[k]? = some v → w.cell? ⟨b, off + k, none⟩ = some (.int .i64 v)) :
    Calls Tryz.prog 36 #[.slice (some ⟨b, off, none⟩) l.length c] w fun e w' => e = .returned (.bool (rgt l)) ∧ Ext w w' := by
  have hG : Hid (rgt l = (rsg (-25568) l && decide (l.length ≤ 200))) := rfl
  replace hc := show Hid _ from hc
  obtain ⟨n, hn⟩ : ∃ n, l.length = n := ⟨_, rfl⟩
  rw [hn]
  rw [hn] at hl hG
  replace hn := show Hid _ from hn
  go_enter Tryz.func36, Tryz.ntmps36
  go_wp2_with fail
  go_loopw [3] (fun i wr => ∃ (k : Nat) (A : Int), k ≤ n ∧ i = .int .i64 k ∧ -25568 ≤ A ∧ Hid (k = 0 ∧ A = -25568 ∨ ∃ m, k = m + 1 ∧ l[m]? = some A) ∧ Hid (rsg (-25568) l = rsg A (l.drop k)) ∧ Hid (Ext w wr)) (fun i _ => n - (RowKit.intOf i).toNat)
  case atStart => exact ⟨0, -25568, Nat.zero_le _, rfl, by omega, Or.inl ⟨rfl, rfl⟩, rfl, Ext.refl _⟩
  case round =>
    obtain ⟨k, A, hk, rfl, hA0, hK, hA, hx⟩ := hrel
    by_cases hlt : k < n
    · obtain ⟨V, hV⟩ : ∃ V, l[k]? = some V := ⟨_, List.getElem?_eq_getElem (by have := hn.out; omega)⟩
      have k0 := hx.out.cell_of (hc.out _ _ hV)
      have hd := show Hid _ from drop_at hV
      have j0 := Late.cell k0
      have hlt' : (k : Int) < (n : Int) := by omega
      have hNe1 : Nonempty (Late wr) := ⟨⟨_, Ext.refl _⟩⟩
      replace hV := show Hid _ from hV
      cases hI : inD V
      · have hf : Hid (rgt l = false) := by
          show _ = _
          have := (inD_no V).1 hI
          rw [hG.out, hA.out, hd.out, rsg_no (by omega)]; rfl
        have hIs : Hid (∀ w : World, Calls Tryz.prog 48 #[.int .i64 V] w fun e w' => e = .returned (.bool false) ∧ w' = w) := fun w => by have := Is_c V w; rwa [hI] at this
        clear hA hd hK hV hG
        go_wp2_with fail
        refine wp_region_late (by kernel_rfl) (by kernel_rfl) ?_
        repeat (go_big_quiet_step ((first
          | (go_at_call 48; exact late_same (hIs.out _)))))
        refine wpQuiet_nil ?_
        intro W1 hw'
        replace hx : Hid (Ext w W1) := hx.out.trans (late_ext hw')
        clear hw' j0 k0
        go_wp2
        go_ret
        exact ⟨ret_bool hf.out.symm, hx.out⟩
      · have hIs : Hid (∀ w : World, Calls Tryz.prog 48 #[.int .i64 V] w fun e w' => e = .returned (.bool true) ∧ w' = w) := fun w => by have := Is_c V w; rwa [hI] at this
        obtain ⟨v1, v2⟩ := (inD_iff V).1 hI
        rcases hK.out with ⟨hk0, rfl⟩ | ⟨m, rfl, hm⟩
        · have hf : Hid (rsg (-25568) l = rsg V (l.drop (k + 1))) := by
            show _ = _
            rw [hA.out, hd.out, rsg_yes (by omega) (by omega)]
          have hz : decide (0 < k) = false := decide_eq_false (by omega)
          replace hk0 := show Hid _ from hk0
          clear hA hd hK
          go_wp2_with fail
          refine wp_region_late (by kernel_rfl) (by kernel_rfl) ?_
          repeat (go_big_quiet_step ((first
            | (go_at_call 48; exact late_same (hIs.out _)))))
          refine wpQuiet_nil ?_
          intro W1 hw'
          replace hx : Hid (Ext w W1) := hx.out.trans (late_ext hw')
          clear hw' j0 k0
          go_wp2
          go_roundw
          case rel => exact ⟨k + 1, V, by omega, by go_num, by omega, Or.inr ⟨k, rfl, hV.out⟩, hf, hx⟩
          case measure => simp [intOf]; omega
        · have k1 := hx.out.cell_of (hc.out _ _ hm)
          have j1 := Late.cell k1
          by_cases hle : V ≤ A
          · have hdd : decide (V ≤ A) = true := decide_eq_true hle
            have hf : Hid (rgt l = false) := by
              show _ = _
              rw [hG.out, hA.out, hd.out, rsg_no (by omega)]; rfl
            clear hA hd hK hG
            go_wp2_with fail
            refine wp_region_late (by kernel_rfl) (by kernel_rfl) ?_
            repeat (go_big_quiet_step ((first
              | (go_at_call 48; exact late_same (hIs.out _)))))
            refine wpQuiet_nil ?_
            intro W1 hw'
            replace hx : Hid (Ext w W1) := hx.out.trans (late_ext hw')
            clear hw' j0 k0 j1 k1
            go_wp2
            go_ret
            exact ⟨ret_bool hf.out.symm, hx.out⟩
          · have hdd : decide (V ≤ A) = false := decide_eq_false hle
            have hf : Hid (rsg (-25568) l = rsg V (l.drop (m + 1 + 1))) := by
              show _ = _
              rw [hA.out, hd.out, rsg_yes (by omega) (by omega)]
            clear hA hd hK
            go_wp2_with fail
            refine wp_region_late (by kernel_rfl) (by kernel_rfl) ?_
            repeat (go_big_quiet_step ((first
              | (go_at_call 48; exact late_same (hIs.out _)))))
            refine wpQuiet_nil ?_
            intro W1 hw'
            replace hx : Hid (Ext w W1) := hx.out.trans (late_ext hw')
            clear hw' j0 k0 j1 k1
            go_wp2
            go_roundw
            case rel => exact ⟨m + 1 + 1, V, by omega, by go_num, by omega, Or.inr ⟨m + 1, rfl, hV.out⟩, hf, hx⟩
            case measure => simp [intOf]; omega
    · obtain rfl : k = n := by omega
      have hf : Hid (rgt l = decide ((k : Int) ≤ 200)) := by
        show _ = _
        rw [hG.out, hA.out, drop_end (by have := hn.out; omega)]
        by_cases h : k ≤ 200
        · rw [decide_eq_true h, decide_eq_true (by omega)]; rfl
        · rw [decide_eq_false h, decide_eq_false (by omega)]; rfl
      clear hA hK hG
      go_wp2
      go_ret
      exact ⟨ret_bool hf.out.symm, hx.out⟩
theorem In_nil (a : Option Addr) (c : Nat) (x : Int) (w : World) :
    Calls Tryz.prog 32 #[.slice a 0 c, .int .i64 x] w fun e w' => e = .returned (.bool false) ∧ w' = w := by
  go_enter Tryz.func32, Tryz.ntmps32
  go_wp2_with fail
  refine wp_loop_rounds 1 ?_
  rw [rounds_succ]
  go_wp2
  go_ret
  exact ⟨rfl, rfl⟩
theorem In_x (b off c : Nat) (l : List Int) (x : Int) (w : World) (hl : l.length ≤ 1000) (hc : ∀ (k : Nat) (v : Int), l[k]? = some v → w.cell? ⟨b, off + k, none⟩ = some (.int .i64 v)) :
    Calls Tryz.prog 32 #[.slice (some ⟨b, off, none⟩) l.length c, .int .i64 x] w fun e w' => e = .returned (.bool (decide (x ∈ l))) ∧ w' = w := by
  replace hc := show Hid _ from hc
  obtain ⟨n, hn⟩ : ∃ n, l.length = n := ⟨_, rfl⟩
  rw [hn]
  rw [hn] at hl
  replace hn := show Hid _ from hn
  go_enter Tryz.func32, Tryz.ntmps32
  go_wp2_with fail
  go_loop [5] (fun i => ∃ k : Nat, k ≤ n ∧ i = .int .i64 k ∧ Hid (decide (x ∈ l) = decide (x ∈ l.drop k))) (fun i => n - (RowKit.intOf i).toNat)
  case atStart => exact ⟨0, Nat.zero_le _, rfl, rfl⟩
  case round =>
    obtain ⟨k, hk, rfl, hA⟩ := hrel
    by_cases hlt : k < n
    · obtain ⟨V, hV⟩ : ∃ V, l[k]? = some V := ⟨_, List.getElem?_eq_getElem (by have := hn.out; omega)⟩
      have hcell := hc.out _ _ hV
      have hd := show Hid _ from drop_at hV
      clear hV
      by_cases h1 : V = x
      · subst h1
        have hf : Hid (decide (V ∈ l) = true) := by show _ = _; rw [hA.out, hd.out]; simp
        clear hA hd
        go_wp2
        go_ret
        exact ⟨ret_bool hf.out.symm, rfl⟩
      · have hb : (V == x) = false := by simpa using h1
        have hf : Hid (decide (x ∈ l) = decide (x ∈ l.drop (k + 1))) := by
          show _ = _
          rw [hA.out, hd.out]
          have h1' : ¬ x = V := fun e => h1 e.symm
          simp [h1']
        clear hA hd
        go_wp2
        go_round
        case rel => exact ⟨k + 1, by omega, by go_num, hf⟩
        case measure => simp [RowKit.intOf]; omega
    · obtain rfl : k = n := by omega
      have hf : Hid (decide (x ∈ l) = false) := by show _ = _; rw [hA.out, drop_end (by have := hn.out; omega)]; simp
      clear hA
      go_wp2
      go_ret
      exact ⟨ret_bool hf.out.symm, rfl⟩
theorem In_c (v : Value) (l : List Int) (x : Int) (w : World) (hl : l.length ≤ 1000) (hv : Slc w v l) :
    Calls Tryz.prog 32 #[v, .int .i64 x] w fun e w' => e = .returned (.bool (decide (x ∈ l))) ∧ w' = w := by
  rcases hv with ⟨a, c, rfl, _, rfl⟩ | ⟨b, off, c, rfl, hc⟩
  · exact In_nil a c x w
  · exact In_x b off c l x w hl hc
theorem Right_ok (v : Value) (l : List Int) (w : World) (hl : l.length ≤ 1000) (hv : Slc w v l) :
    Calls Tryz.prog 36 #[v] w fun e w' => e = .returned (.bool (rgt l)) ∧ Ext w w' := by
  rcases hv with ⟨a, c, rfl, _, rfl⟩ | ⟨b, off, c, rfl, hc⟩
  · exact (Right_nil a c w).mono fun e w' h => ⟨h.1, by rw [h.2]; exact Ext.refl _⟩
  · exact Right_c b off c l w hl hc
end Go.Proofs.YtafjmpaefikdcaaGreatDoor.L5
/- The document's own Open, seek, Roll and Count, as contracts: no statement of the seat is proved here. -/
namespace Go.Proofs.YtafjmpaefikdcaaGreatDoor.L5
open Go.Proofs.YtafjmpaefikdcaaGreatDoor.L3
open Go.RowKit
set_option linter.unusedVariables false

theorem rOpen_c (v : Value) (l : List Int) (n : Int) (w : World) (hn : I64 n) (hl : l.length ≤ 1000) (hc : Hid (Slc w v l)) :
    Calls Tryz.prog 69 #[v, .int .i64 n] w fun e w' => e = .returned (.bool (opn l n)) ∧ w' = w := by
  replace hn := show Hid _ from hn
  cases h : inD n
  · rw [opn_out h]
    go_enter Tryz.func69, Tryz.ntmps69
    go_wp2_with (go_at_call 48; refine (Is_c _ _).mono ?_; rintro e w' ⟨rfl, rfl⟩; rw [h])
    go_ret
    exact ⟨rfl, rfl⟩
  · rw [show opn l n = (decide (wday n < 5) && !(decide (n ∈ l))) by unfold opn; rw [h]; simp]
    have hI : Hid (∀ w : World, Hid (Slc w v l) → Calls Tryz.prog 32 #[v, .int .i64 n] w fun e w' => e = .returned (.bool (decide (n ∈ l))) ∧ w' = w) := fun w hc => In_c v l n w hl hc.out
    have hW : Hid (∀ w : World, Calls Tryz.prog 96 #[.int .i64 n] w fun e w' => e = .returned (.int .i64 (wday n)) ∧ w' = w) := fun w => rWeekday_c n w hn.out
    generalize wday n = D at *
    by_cases h5 : D < 5
    · rw [show (decide (D < 5) && !(decide (n ∈ l))) = !(decide (n ∈ l)) by rw [decide_eq_true h5]; simp]
      generalize decide (n ∈ l) = B at *
      go_enter Tryz.func69, Tryz.ntmps69
      go_wp2_with (first
        | (go_at_call 48; refine (Is_c _ _).mono ?_; rintro e w' ⟨rfl, rfl⟩; rw [h])
        | (go_at_call 96; refine (hW.out _).mono ?_; rintro e w' ⟨rfl, rfl⟩)
        | (go_at_call 32; refine (hI.out _ hc).mono ?_; rintro e w' ⟨rfl, rfl⟩))
      go_ret
      exact ⟨rfl, rfl⟩
    · rw [show (decide (D < 5) && !(decide (n ∈ l))) = false by rw [decide_eq_false h5]; simp]
      go_enter Tryz.func69, Tryz.ntmps69
      go_wp2_with (first
        | (go_at_call 48; refine (Is_c _ _).mono ?_; rintro e w' ⟨rfl, rfl⟩; rw [h])
        | (go_at_call 96; refine (hW.out _).mono ?_; rintro e w' ⟨rfl, rfl⟩))
      go_ret
      exact ⟨rfl, rfl⟩
theorem rseek_c (v : Value) (l : List Int) (d s : Int) (w : World) (hl : l.length ≤ 1000) (hs : s = 1 ∨ s = -1) (hc : Hid (Slc w v l)) :
    Calls Tryz.prog 70 #[v, .int .i64 d, .int .i64 s] w
      fun e w' => e = .returned (.tuple #[.int .i64 (sk l s d).1, .bool (sk l s d).2]) ∧ w' = w := by
  have s1 : -1 ≤ s := by omega
  have s2 : s ≤ 1 := by omega
  replace hs := show Hid _ from hs
  go_enter Tryz.func70, Tryz.ntmps70
  go_wp2_with fail
  go_loop [8] (fun u => ∃ D : Int, u = .int .i64 D ∧ Hid (sk l s d = sk l s D)) (fun u => skM s (RowKit.intOf u))
  case atStart => exact ⟨d, rfl, rfl⟩
  case round =>
    obtain ⟨D, rfl, hD⟩ := hrel
    cases h : inD D
    · have hf : Hid (sk l s d = (0, false)) := by show _ = _; rw [hD.out]; exact sk_out _ _ _ h
      clear hD
      go_wp2_with (go_at_call 48; refine (Is_c _ _).mono ?_; rintro e w' ⟨rfl, rfl⟩; rw [h])
      go_ret2
      exact ⟨by rw [hf.out]; rfl, rfl⟩
    · obtain ⟨d1, d2⟩ := (inD_iff D).1 h
      have hO : Hid (∀ w : World, Hid (Slc w v l) → Calls Tryz.prog 69 #[v, .int .i64 D] w fun e w' => e = .returned (.bool (opn l D)) ∧ w' = w) := fun w hc => rOpen_c v l D w (by unfold I64; omega) hl hc
      cases ho : opn l D
      · have hf : Hid (sk l s d = sk l s (D + s)) := by show _ = _; rw [hD.out]; exact sk_step _ _ _ hs.out h ho
        have hm : Hid (skM s D = skM s (D + s) + 1) := skM_step s D hs.out h
        rw [ho] at hO
        clear hD
        go_wp2_with (first
          | (go_at_call 48; refine (Is_c _ _).mono ?_; rintro e w' ⟨rfl, rfl⟩; rw [h])
          | (go_at_call 69; refine (hO.out _ hc).mono ?_; rintro e w' ⟨rfl, rfl⟩))
        go_round
        case rel => exact ⟨D + s, by go_num, hf⟩
        case measure => simp [RowKit.intOf]; have := hm.out; omega
      · have hf : Hid (sk l s d = (D, true)) := by show _ = _; rw [hD.out]; exact sk_hit _ _ _ ho
        rw [ho] at hO
        clear hD
        go_wp2_with (first
          | (go_at_call 48; refine (Is_c _ _).mono ?_; rintro e w' ⟨rfl, rfl⟩; rw [h])
          | (go_at_call 69; refine (hO.out _ hc).mono ?_; rintro e w' ⟨rfl, rfl⟩))
        go_ret2
        exact ⟨by rw [hf.out]; rfl, rfl⟩
theorem sk_inD (l : List Int) (n s : Int) (hs : s = 1 ∨ s = -1) (hn : inD n = true) : inD (sk l s n).1 = true := by
  have := (inD_iff n).1 hn
  rcases hs with rfl | rfl
  · rcases sk_up l _ n rfl (by omega) with ⟨_, a, _⟩ | ⟨a, _⟩
    · exact opn_in a
    · rw [a]; rfl
  · rcases sk_dn l _ n rfl (by omega) with ⟨_, a, _⟩ | ⟨a, _⟩
    · exact opn_in a
    · rw [a]; rfl
theorem rRoll_2 (v : Value) (l : List Int) (n X Y : Int) (F G : Bool) (w : World) (hl : l.length ≤ 1000) (hn : inD n = true) (ho : opn l n = false) (hX : sk l 1 n = (X, F)) (hY : sk l (-1) n = (Y, G)) (hc : Hid (Slc w v l)) :
    Calls Tryz.prog 47 #[v, .int .i64 n, .int .i64 2] w fun e w' => e = .returned (.tuple #[.int .i64 (if F = true then X else 0), .int .i64 (if F = true then 0 else 5)]) ∧ Ext w w' := by
  have hU : Hid (∀ w : World, Hid (Slc w v l) → Calls Tryz.prog 70 #[v, .int .i64 n, .int .i64 1] w
      fun e w' => e = .returned (.tuple #[.int .i64 X, .bool F]) ∧ w' = w) := fun w hc => by have := rseek_c v l n 1 w hl (Or.inl rfl) hc; rwa [hX] at this
  have hD : Hid (∀ w : World, Hid (Slc w v l) → Calls Tryz.prog 70 #[v, .int .i64 n, .int .i64 (-1)] w
      fun e w' => e = .returned (.tuple #[.int .i64 Y, .bool G]) ∧ w' = w) := fun w hc => by have := rseek_c v l n (-1) w hl (Or.inr rfl) hc; rwa [hY] at this
  have hO : Hid (∀ w : World, Hid (Slc w v l) → Calls Tryz.prog 69 #[v, .int .i64 n] w fun e w' => e = .returned (.bool false) ∧ w' = w) := fun w hc => by
    have := rOpen_c v l n w (by have := (inD_iff n).1 hn; unfold I64; omega) hl hc; rwa [ho] at this
  clear hX hY ho
  cases F
  · rw [if_neg (by simp), if_neg (by simp)]
    go_enter Tryz.func47, Tryz.ntmps47
    go_wp2_with (first
      | (go_at_call 48; refine (Is_c _ _).mono ?_; rintro e w' ⟨rfl, rfl⟩; rw [hn])
      | (go_at_call 69; refine (hO.out _ hc).mono ?_; rintro e w' ⟨rfl, rfl⟩))
    refine (hU.out _ hc).mono ?_
    rintro e w' ⟨rfl, rfl⟩
    go_wp2_with fail
    refine (hD.out _ hc).mono ?_
    rintro e w'' ⟨rfl, rfl⟩
    go_wp2
    go_ret2
    exact ⟨rfl, Ext.refl _⟩
  · rw [if_pos rfl, if_pos rfl]
    go_enter Tryz.func47, Tryz.ntmps47
    go_wp2_with (first
      | (go_at_call 48; refine (Is_c _ _).mono ?_; rintro e w' ⟨rfl, rfl⟩; rw [hn])
      | (go_at_call 69; refine (hO.out _ hc).mono ?_; rintro e w' ⟨rfl, rfl⟩))
    refine (hU.out _ hc).mono ?_
    rintro e w' ⟨rfl, rfl⟩
    go_wp2_with fail
    refine (hD.out _ hc).mono ?_
    rintro e w'' ⟨rfl, rfl⟩
    go_wp2
    go_ret2
    exact ⟨rfl, Ext.refl _⟩
theorem rRoll_4 (v : Value) (l : List Int) (n X Y : Int) (F G : Bool) (w : World) (hl : l.length ≤ 1000) (hn : inD n = true) (ho : opn l n = false) (hX : sk l 1 n = (X, F)) (hY : sk l (-1) n = (Y, G)) (hc : Hid (Slc w v l)) :
    Calls Tryz.prog 47 #[v, .int .i64 n, .int .i64 4] w fun e w' => e = .returned (.tuple #[.int .i64 (if G = true then Y else 0), .int .i64 (if G = true then 0 else 5)]) ∧ Ext w w' := by
  have hU : Hid (∀ w : World, Hid (Slc w v l) → Calls Tryz.prog 70 #[v, .int .i64 n, .int .i64 1] w
      fun e w' => e = .returned (.tuple #[.int .i64 X, .bool F]) ∧ w' = w) := fun w hc => by have := rseek_c v l n 1 w hl (Or.inl rfl) hc; rwa [hX] at this
  have hD : Hid (∀ w : World, Hid (Slc w v l) → Calls Tryz.prog 70 #[v, .int .i64 n, .int .i64 (-1)] w
      fun e w' => e = .returned (.tuple #[.int .i64 Y, .bool G]) ∧ w' = w) := fun w hc => by have := rseek_c v l n (-1) w hl (Or.inr rfl) hc; rwa [hY] at this
  have hO : Hid (∀ w : World, Hid (Slc w v l) → Calls Tryz.prog 69 #[v, .int .i64 n] w fun e w' => e = .returned (.bool false) ∧ w' = w) := fun w hc => by
    have := rOpen_c v l n w (by have := (inD_iff n).1 hn; unfold I64; omega) hl hc; rwa [ho] at this
  clear hX hY ho
  cases G
  · rw [if_neg (by simp), if_neg (by simp)]
    go_enter Tryz.func47, Tryz.ntmps47
    go_wp2_with (first
      | (go_at_call 48; refine (Is_c _ _).mono ?_; rintro e w' ⟨rfl, rfl⟩; rw [hn])
      | (go_at_call 69; refine (hO.out _ hc).mono ?_; rintro e w' ⟨rfl, rfl⟩))
    refine (hU.out _ hc).mono ?_
    rintro e w' ⟨rfl, rfl⟩
    go_wp2_with fail
    refine (hD.out _ hc).mono ?_
    rintro e w'' ⟨rfl, rfl⟩
    go_wp2
    go_ret2
    exact ⟨rfl, Ext.refl _⟩
  · rw [if_pos rfl, if_pos rfl]
    go_enter Tryz.func47, Tryz.ntmps47
    go_wp2_with (first
      | (go_at_call 48; refine (Is_c _ _).mono ?_; rintro e w' ⟨rfl, rfl⟩; rw [hn])
      | (go_at_call 69; refine (hO.out _ hc).mono ?_; rintro e w' ⟨rfl, rfl⟩))
    refine (hU.out _ hc).mono ?_
    rintro e w' ⟨rfl, rfl⟩
    go_wp2_with fail
    refine (hD.out _ hc).mono ?_
    rintro e w'' ⟨rfl, rfl⟩
    go_wp2
    go_ret2
    exact ⟨rfl, Ext.refl _⟩
set_option maxHeartbeats 1000000 in
theorem rRoll_3a (v : Value) (l : List Int) (n X Y : Int) (F G : Bool) (w : World) (hl : l.length ≤ 1000) (hn : inD n = true) (ho : opn l n = false) (hX : sk l 1 n = (X, F)) (hY : sk l (-1) n = (Y, G)) (hc : Hid (Slc w v l)) (hF : F = false) :
    Calls Tryz.prog 47 #[v, .int .i64 n, .int .i64 3] w fun e w' => e = .returned (.tuple #[.int .i64 (if G = true then Y else 0), .int .i64 (if G = true then 0 else 5)]) ∧ Ext w w' := by
  have hU : Hid (∀ w : World, Hid (Slc w v l) → Calls Tryz.prog 70 #[v, .int .i64 n, .int .i64 1] w
      fun e w' => e = .returned (.tuple #[.int .i64 X, .bool F]) ∧ w' = w) := fun w hc => by have := rseek_c v l n 1 w hl (Or.inl rfl) hc; rwa [hX] at this
  have hD : Hid (∀ w : World, Hid (Slc w v l) → Calls Tryz.prog 70 #[v, .int .i64 n, .int .i64 (-1)] w
      fun e w' => e = .returned (.tuple #[.int .i64 Y, .bool G]) ∧ w' = w) := fun w hc => by have := rseek_c v l n (-1) w hl (Or.inr rfl) hc; rwa [hY] at this
  have hO : Hid (∀ w : World, Hid (Slc w v l) → Calls Tryz.prog 69 #[v, .int .i64 n] w fun e w' => e = .returned (.bool false) ∧ w' = w) := fun w hc => by
    have := rOpen_c v l n w (by have := (inD_iff n).1 hn; unfold I64; omega) hl hc; rwa [ho] at this
  have dA : Hid (∀ w : World, Calls Tryz.prog 71 #[.int .i64 n] w fun e w' => e = .returned (.tuple #[.agg #[.int .i64 (yOf n), .int .i64 (mOf n), .int .i64 (dOf n)], .int .i64 0]) ∧ Ext w w') := fun w => rDate_f n w ((inD_iff n).1 hn).1 ((inD_iff n).1 hn).2
  have dB : Hid (∀ w : World, Calls Tryz.prog 71 #[.int .i64 X] w fun e w' => e = .returned (.tuple #[.agg #[.int .i64 (yOf X), .int .i64 (mOf X), .int .i64 (dOf X)], .int .i64 0]) ∧ Ext w w') := fun w => by
    have hX' : inD X = true := by have := sk_inD l n 1 (Or.inl rfl) hn; rwa [hX] at this
    exact rDate_f X w ((inD_iff X).1 hX').1 ((inD_iff X).1 hX').2
  clear hX hY ho
  subst hF
  generalize yOf n = ya at *
  generalize yOf X = yb at *
  generalize mOf n = ma at *
  generalize mOf X = mb at *
  generalize dOf n = da at *
  generalize dOf X = db at *
  cases G
  · rw [if_neg (by simp), if_neg (by simp)]
    go_enter Tryz.func47, Tryz.ntmps47
    go_wp2_with (first
      | (go_at_call 48; refine (Is_c _ _).mono ?_; rintro e w' ⟨rfl, rfl⟩; rw [hn])
      | (go_at_call 69; refine (hO.out _ hc).mono ?_; rintro e w' ⟨rfl, rfl⟩))
    refine (hU.out _ hc).mono ?_
    rintro e w' ⟨rfl, rfl⟩
    go_wp2_with fail
    refine (hD.out _ hc).mono ?_
    rintro e w'' ⟨rfl, rfl⟩
    go_wp2_with fail
    refine (dA.out _).mono ?_
    rintro e w1 ⟨rfl, hx1⟩
    have hx := show Hid (Ext _ w1) from hx1
    clear hx1
    go_wp2_with fail
    obtain ⟨W2, r2, hW, hr, hx2, c0, c1, c2⟩ := box3 w1 (.int .i64 ya) (.int .i64 ma) (.int .i64 da) 116
    rw [hW, hr]
    clear hW hr
    replace hx := show Hid (Ext _ W2) from hx.out.trans hx2
    clear hx2
    refine (dB.out _).mono ?_
    rintro e w3 ⟨rfl, hx1⟩
    replace c0 := hx1.cell_of c0
    replace c1 := hx1.cell_of c1
    replace hx := show Hid (Ext _ w3) from hx.out.trans hx1
    clear hx1 c2 dA dB
    have k0 : ∀ cs t, (w3.alloc (.cells cs t)).cell? ⟨r2, 0, none⟩ = some (.int .i64 ya) := fun cs t => ((Ext.refl w3).alloc cs t).cell_of c0
    have k1 : ∀ cs t, (w3.alloc (.cells cs t)).cell? ⟨r2, 1, none⟩ = some (.int .i64 ma) := fun cs t => ((Ext.refl w3).alloc cs t).cell_of c1
    clear c0 c1
    go_wp2
    go_ret2
    exact ⟨rfl, hx.out.alloc _ _⟩
  · rw [if_pos rfl, if_pos rfl]
    go_enter Tryz.func47, Tryz.ntmps47
    go_wp2_with (first
      | (go_at_call 48; refine (Is_c _ _).mono ?_; rintro e w' ⟨rfl, rfl⟩; rw [hn])
      | (go_at_call 69; refine (hO.out _ hc).mono ?_; rintro e w' ⟨rfl, rfl⟩))
    refine (hU.out _ hc).mono ?_
    rintro e w' ⟨rfl, rfl⟩
    go_wp2_with fail
    refine (hD.out _ hc).mono ?_
    rintro e w'' ⟨rfl, rfl⟩
    go_wp2_with fail
    refine (dA.out _).mono ?_
    rintro e w1 ⟨rfl, hx1⟩
    have hx := show Hid (Ext _ w1) from hx1
    clear hx1
    go_wp2_with fail
    obtain ⟨W2, r2, hW, hr, hx2, c0, c1, c2⟩ := box3 w1 (.int .i64 ya) (.int .i64 ma) (.int .i64 da) 116
    rw [hW, hr]
    clear hW hr
    replace hx := show Hid (Ext _ W2) from hx.out.trans hx2
    clear hx2
    refine (dB.out _).mono ?_
    rintro e w3 ⟨rfl, hx1⟩
    replace c0 := hx1.cell_of c0
    replace c1 := hx1.cell_of c1
    replace hx := show Hid (Ext _ w3) from hx.out.trans hx1
    clear hx1 c2 dA dB
    have k0 : ∀ cs t, (w3.alloc (.cells cs t)).cell? ⟨r2, 0, none⟩ = some (.int .i64 ya) := fun cs t => ((Ext.refl w3).alloc cs t).cell_of c0
    have k1 : ∀ cs t, (w3.alloc (.cells cs t)).cell? ⟨r2, 1, none⟩ = some (.int .i64 ma) := fun cs t => ((Ext.refl w3).alloc cs t).cell_of c1
    clear c0 c1
    go_wp2
    go_ret2
    exact ⟨rfl, hx.out.alloc _ _⟩
set_option maxHeartbeats 1000000 in
theorem rRoll_3b (v : Value) (l : List Int) (n X Y : Int) (F G : Bool) (w : World) (hl : l.length ≤ 1000) (hn : inD n = true) (ho : opn l n = false) (hX : sk l 1 n = (X, F)) (hY : sk l (-1) n = (Y, G)) (hc : Hid (Slc w v l)) (hF : F = true) (hS : sameM n X = false) :
    Calls Tryz.prog 47 #[v, .int .i64 n, .int .i64 3] w fun e w' => e = .returned (.tuple #[.int .i64 (if G = true then Y else 0), .int .i64 (if G = true then 0 else 5)]) ∧ Ext w w' := by
  have hU : Hid (∀ w : World, Hid (Slc w v l) → Calls Tryz.prog 70 #[v, .int .i64 n, .int .i64 1] w
      fun e w' => e = .returned (.tuple #[.int .i64 X, .bool F]) ∧ w' = w) := fun w hc => by have := rseek_c v l n 1 w hl (Or.inl rfl) hc; rwa [hX] at this
  have hD : Hid (∀ w : World, Hid (Slc w v l) → Calls Tryz.prog 70 #[v, .int .i64 n, .int .i64 (-1)] w
      fun e w' => e = .returned (.tuple #[.int .i64 Y, .bool G]) ∧ w' = w) := fun w hc => by have := rseek_c v l n (-1) w hl (Or.inr rfl) hc; rwa [hY] at this
  have hO : Hid (∀ w : World, Hid (Slc w v l) → Calls Tryz.prog 69 #[v, .int .i64 n] w fun e w' => e = .returned (.bool false) ∧ w' = w) := fun w hc => by
    have := rOpen_c v l n w (by have := (inD_iff n).1 hn; unfold I64; omega) hl hc; rwa [ho] at this
  have dA : Hid (∀ w : World, Calls Tryz.prog 71 #[.int .i64 n] w fun e w' => e = .returned (.tuple #[.agg #[.int .i64 (yOf n), .int .i64 (mOf n), .int .i64 (dOf n)], .int .i64 0]) ∧ Ext w w') := fun w => rDate_f n w ((inD_iff n).1 hn).1 ((inD_iff n).1 hn).2
  have dB : Hid (∀ w : World, Calls Tryz.prog 71 #[.int .i64 X] w fun e w' => e = .returned (.tuple #[.agg #[.int .i64 (yOf X), .int .i64 (mOf X), .int .i64 (dOf X)], .int .i64 0]) ∧ Ext w w') := fun w => by
    have hX' : inD X = true := by have := sk_inD l n 1 (Or.inl rfl) hn; rwa [hX] at this
    exact rDate_f X w ((inD_iff X).1 hX').1 ((inD_iff X).1 hX').2
  clear hX hY ho
  subst hF
  have hM : Hid ((mOf n != mOf X) = true ∨ ((mOf n != mOf X) = false ∧ (yOf n != yOf X) = true)) := by
    unfold sameM at hS
    show _ ∨ _
    by_cases h1 : mOf n = mOf X
    · right
      refine ⟨by simp [h1], ?_⟩
      rw [decide_eq_true h1] at hS
      simpa using hS
    · left; simpa using h1
  clear hS
  generalize yOf n = ya at *
  generalize yOf X = yb at *
  generalize mOf n = ma at *
  generalize mOf X = mb at *
  generalize dOf n = da at *
  generalize dOf X = db at *
  cases G
  · rw [if_neg (by simp), if_neg (by simp)]
    rcases hM.out with m1 | ⟨m1, m2⟩
    · clear hM
      go_enter Tryz.func47, Tryz.ntmps47
      go_wp2_with (first
        | (go_at_call 48; refine (Is_c _ _).mono ?_; rintro e w' ⟨rfl, rfl⟩; rw [hn])
        | (go_at_call 69; refine (hO.out _ hc).mono ?_; rintro e w' ⟨rfl, rfl⟩))
      refine (hU.out _ hc).mono ?_
      rintro e w' ⟨rfl, rfl⟩
      go_wp2_with fail
      refine (hD.out _ hc).mono ?_
      rintro e w'' ⟨rfl, rfl⟩
      go_wp2_with fail
      refine (dA.out _).mono ?_
      rintro e w1 ⟨rfl, hx1⟩
      have hx := show Hid (Ext _ w1) from hx1
      clear hx1
      go_wp2_with fail
      obtain ⟨W2, r2, hW, hr, hx2, c0, c1, c2⟩ := box3 w1 (.int .i64 ya) (.int .i64 ma) (.int .i64 da) 116
      rw [hW, hr]
      clear hW hr
      replace hx := show Hid (Ext _ W2) from hx.out.trans hx2
      clear hx2
      refine (dB.out _).mono ?_
      rintro e w3 ⟨rfl, hx1⟩
      replace c0 := hx1.cell_of c0
      replace c1 := hx1.cell_of c1
      replace hx := show Hid (Ext _ w3) from hx.out.trans hx1
      clear hx1 c2 dA dB
      have k0 : ∀ cs t, (w3.alloc (.cells cs t)).cell? ⟨r2, 0, none⟩ = some (.int .i64 ya) := fun cs t => ((Ext.refl w3).alloc cs t).cell_of c0
      have k1 : ∀ cs t, (w3.alloc (.cells cs t)).cell? ⟨r2, 1, none⟩ = some (.int .i64 ma) := fun cs t => ((Ext.refl w3).alloc cs t).cell_of c1
      clear c0 c1
      go_wp2
      go_ret2
      exact ⟨rfl, hx.out.alloc _ _⟩
    · clear hM
      go_enter Tryz.func47, Tryz.ntmps47
      go_wp2_with (first
        | (go_at_call 48; refine (Is_c _ _).mono ?_; rintro e w' ⟨rfl, rfl⟩; rw [hn])
        | (go_at_call 69; refine (hO.out _ hc).mono ?_; rintro e w' ⟨rfl, rfl⟩))
      refine (hU.out _ hc).mono ?_
      rintro e w' ⟨rfl, rfl⟩
      go_wp2_with fail
      refine (hD.out _ hc).mono ?_
      rintro e w'' ⟨rfl, rfl⟩
      go_wp2_with fail
      refine (dA.out _).mono ?_
      rintro e w1 ⟨rfl, hx1⟩
      have hx := show Hid (Ext _ w1) from hx1
      clear hx1
      go_wp2_with fail
      obtain ⟨W2, r2, hW, hr, hx2, c0, c1, c2⟩ := box3 w1 (.int .i64 ya) (.int .i64 ma) (.int .i64 da) 116
      rw [hW, hr]
      clear hW hr
      replace hx := show Hid (Ext _ W2) from hx.out.trans hx2
      clear hx2
      refine (dB.out _).mono ?_
      rintro e w3 ⟨rfl, hx1⟩
      replace c0 := hx1.cell_of c0
      replace c1 := hx1.cell_of c1
      replace hx := show Hid (Ext _ w3) from hx.out.trans hx1
      clear hx1 c2 dA dB
      have k0 : ∀ cs t, (w3.alloc (.cells cs t)).cell? ⟨r2, 0, none⟩ = some (.int .i64 ya) := fun cs t => ((Ext.refl w3).alloc cs t).cell_of c0
      have k1 : ∀ cs t, (w3.alloc (.cells cs t)).cell? ⟨r2, 1, none⟩ = some (.int .i64 ma) := fun cs t => ((Ext.refl w3).alloc cs t).cell_of c1
      clear c0 c1
      go_wp2
      go_ret2
      exact ⟨rfl, hx.out.alloc _ _⟩
  · rw [if_pos rfl, if_pos rfl]
    rcases hM.out with m1 | ⟨m1, m2⟩
    · clear hM
      go_enter Tryz.func47, Tryz.ntmps47
      go_wp2_with (first
        | (go_at_call 48; refine (Is_c _ _).mono ?_; rintro e w' ⟨rfl, rfl⟩; rw [hn])
        | (go_at_call 69; refine (hO.out _ hc).mono ?_; rintro e w' ⟨rfl, rfl⟩))
      refine (hU.out _ hc).mono ?_
      rintro e w' ⟨rfl, rfl⟩
      go_wp2_with fail
      refine (hD.out _ hc).mono ?_
      rintro e w'' ⟨rfl, rfl⟩
      go_wp2_with fail
      refine (dA.out _).mono ?_
      rintro e w1 ⟨rfl, hx1⟩
      have hx := show Hid (Ext _ w1) from hx1
      clear hx1
      go_wp2_with fail
      obtain ⟨W2, r2, hW, hr, hx2, c0, c1, c2⟩ := box3 w1 (.int .i64 ya) (.int .i64 ma) (.int .i64 da) 116
      rw [hW, hr]
      clear hW hr
      replace hx := show Hid (Ext _ W2) from hx.out.trans hx2
      clear hx2
      refine (dB.out _).mono ?_
      rintro e w3 ⟨rfl, hx1⟩
      replace c0 := hx1.cell_of c0
      replace c1 := hx1.cell_of c1
      replace hx := show Hid (Ext _ w3) from hx.out.trans hx1
      clear hx1 c2 dA dB
      have k0 : ∀ cs t, (w3.alloc (.cells cs t)).cell? ⟨r2, 0, none⟩ = some (.int .i64 ya) := fun cs t => ((Ext.refl w3).alloc cs t).cell_of c0
      have k1 : ∀ cs t, (w3.alloc (.cells cs t)).cell? ⟨r2, 1, none⟩ = some (.int .i64 ma) := fun cs t => ((Ext.refl w3).alloc cs t).cell_of c1
      clear c0 c1
      go_wp2
      go_ret2
      exact ⟨rfl, hx.out.alloc _ _⟩
    · clear hM
      go_enter Tryz.func47, Tryz.ntmps47
      go_wp2_with (first
        | (go_at_call 48; refine (Is_c _ _).mono ?_; rintro e w' ⟨rfl, rfl⟩; rw [hn])
        | (go_at_call 69; refine (hO.out _ hc).mono ?_; rintro e w' ⟨rfl, rfl⟩))
      refine (hU.out _ hc).mono ?_
      rintro e w' ⟨rfl, rfl⟩
      go_wp2_with fail
      refine (hD.out _ hc).mono ?_
      rintro e w'' ⟨rfl, rfl⟩
      go_wp2_with fail
      refine (dA.out _).mono ?_
      rintro e w1 ⟨rfl, hx1⟩
      have hx := show Hid (Ext _ w1) from hx1
      clear hx1
      go_wp2_with fail
      obtain ⟨W2, r2, hW, hr, hx2, c0, c1, c2⟩ := box3 w1 (.int .i64 ya) (.int .i64 ma) (.int .i64 da) 116
      rw [hW, hr]
      clear hW hr
      replace hx := show Hid (Ext _ W2) from hx.out.trans hx2
      clear hx2
      refine (dB.out _).mono ?_
      rintro e w3 ⟨rfl, hx1⟩
      replace c0 := hx1.cell_of c0
      replace c1 := hx1.cell_of c1
      replace hx := show Hid (Ext _ w3) from hx.out.trans hx1
      clear hx1 c2 dA dB
      have k0 : ∀ cs t, (w3.alloc (.cells cs t)).cell? ⟨r2, 0, none⟩ = some (.int .i64 ya) := fun cs t => ((Ext.refl w3).alloc cs t).cell_of c0
      have k1 : ∀ cs t, (w3.alloc (.cells cs t)).cell? ⟨r2, 1, none⟩ = some (.int .i64 ma) := fun cs t => ((Ext.refl w3).alloc cs t).cell_of c1
      clear c0 c1
      go_wp2
      go_ret2
      exact ⟨rfl, hx.out.alloc _ _⟩
set_option maxHeartbeats 1000000 in
theorem rRoll_3c (v : Value) (l : List Int) (n X Y : Int) (F G : Bool) (w : World) (hl : l.length ≤ 1000) (hn : inD n = true) (ho : opn l n = false) (hX : sk l 1 n = (X, F)) (hY : sk l (-1) n = (Y, G)) (hc : Hid (Slc w v l)) (hF : F = true) (hS : sameM n X = true) :
    Calls Tryz.prog 47 #[v, .int .i64 n, .int .i64 3] w fun e w' => e = .returned (.tuple #[.int .i64 X, .int .i64 0]) ∧ Ext w w' := by
  have hU : Hid (∀ w : World, Hid (Slc w v l) → Calls Tryz.prog 70 #[v, .int .i64 n, .int .i64 1] w
      fun e w' => e = .returned (.tuple #[.int .i64 X, .bool F]) ∧ w' = w) := fun w hc => by have := rseek_c v l n 1 w hl (Or.inl rfl) hc; rwa [hX] at this
  have hD : Hid (∀ w : World, Hid (Slc w v l) → Calls Tryz.prog 70 #[v, .int .i64 n, .int .i64 (-1)] w
      fun e w' => e = .returned (.tuple #[.int .i64 Y, .bool G]) ∧ w' = w) := fun w hc => by have := rseek_c v l n (-1) w hl (Or.inr rfl) hc; rwa [hY] at this
  have hO : Hid (∀ w : World, Hid (Slc w v l) → Calls Tryz.prog 69 #[v, .int .i64 n] w fun e w' => e = .returned (.bool false) ∧ w' = w) := fun w hc => by
    have := rOpen_c v l n w (by have := (inD_iff n).1 hn; unfold I64; omega) hl hc; rwa [ho] at this
  have dA : Hid (∀ w : World, Calls Tryz.prog 71 #[.int .i64 n] w fun e w' => e = .returned (.tuple #[.agg #[.int .i64 (yOf n), .int .i64 (mOf n), .int .i64 (dOf n)], .int .i64 0]) ∧ Ext w w') := fun w => rDate_f n w ((inD_iff n).1 hn).1 ((inD_iff n).1 hn).2
  have dB : Hid (∀ w : World, Calls Tryz.prog 71 #[.int .i64 X] w fun e w' => e = .returned (.tuple #[.agg #[.int .i64 (yOf X), .int .i64 (mOf X), .int .i64 (dOf X)], .int .i64 0]) ∧ Ext w w') := fun w => by
    have hX' : inD X = true := by have := sk_inD l n 1 (Or.inl rfl) hn; rwa [hX] at this
    exact rDate_f X w ((inD_iff X).1 hX').1 ((inD_iff X).1 hX').2
  clear hX hY ho
  subst hF
  have m1 : (mOf n != mOf X) = false := by unfold sameM at hS; simp only [Bool.and_eq_true, decide_eq_true_eq] at hS; simp [hS.2]
  have m2 : (yOf n != yOf X) = false := by unfold sameM at hS; simp only [Bool.and_eq_true, decide_eq_true_eq] at hS; simp [hS.1]
  clear hS
  generalize yOf n = ya at *
  generalize yOf X = yb at *
  generalize mOf n = ma at *
  generalize mOf X = mb at *
  generalize dOf n = da at *
  generalize dOf X = db at *
  go_enter Tryz.func47, Tryz.ntmps47
  go_wp2_with (first
    | (go_at_call 48; refine (Is_c _ _).mono ?_; rintro e w' ⟨rfl, rfl⟩; rw [hn])
    | (go_at_call 69; refine (hO.out _ hc).mono ?_; rintro e w' ⟨rfl, rfl⟩))
  refine (hU.out _ hc).mono ?_
  rintro e w' ⟨rfl, rfl⟩
  go_wp2_with fail
  refine (hD.out _ hc).mono ?_
  rintro e w'' ⟨rfl, rfl⟩
  go_wp2_with fail
  refine (dA.out _).mono ?_
  rintro e w1 ⟨rfl, hx1⟩
  have hx := show Hid (Ext _ w1) from hx1
  clear hx1
  go_wp2_with fail
  obtain ⟨W2, r2, hW, hr, hx2, c0, c1, c2⟩ := box3 w1 (.int .i64 ya) (.int .i64 ma) (.int .i64 da) 116
  rw [hW, hr]
  clear hW hr
  replace hx := show Hid (Ext _ W2) from hx.out.trans hx2
  clear hx2
  refine (dB.out _).mono ?_
  rintro e w3 ⟨rfl, hx1⟩
  replace c0 := hx1.cell_of c0
  replace c1 := hx1.cell_of c1
  replace hx := show Hid (Ext _ w3) from hx.out.trans hx1
  clear hx1 c2 dA dB
  have k0 : ∀ cs t, (w3.alloc (.cells cs t)).cell? ⟨r2, 0, none⟩ = some (.int .i64 ya) := fun cs t => ((Ext.refl w3).alloc cs t).cell_of c0
  have k1 : ∀ cs t, (w3.alloc (.cells cs t)).cell? ⟨r2, 1, none⟩ = some (.int .i64 ma) := fun cs t => ((Ext.refl w3).alloc cs t).cell_of c1
  clear c0 c1
  go_wp2
  go_ret2
  exact ⟨rfl, hx.out.alloc _ _⟩
theorem rRoll_c (v : Value) (l : List Int) (n how : Int) (w : World) (hl : l.length ≤ 1000) (hc : Hid (Slc w v l)) :
    Calls Tryz.prog 47 #[v, .int .i64 n, .int .i64 how] w
      fun e w' => e = .returned (.tuple #[.int .i64 (rlA l n how), .int .i64 (rlE l n how)]) ∧ Ext w w' := by
  cases hn : inD n
  · rw [show rlA l n how = 0 by unfold rlA; rw [hn]; simp, show rlE l n how = 5 by unfold rlE; rw [hn]; simp]
    go_enter Tryz.func47, Tryz.ntmps47
    go_wp2_with (go_at_call 48; refine (Is_c _ _).mono ?_; rintro e w' ⟨rfl, rfl⟩; rw [hn])
    go_ret2
    exact ⟨rfl, Ext.refl _⟩
  · by_cases h1 : how < 1
    · rw [show rlA l n how = 0 by unfold rlA; rw [if_neg (by omega)], show rlE l n how = 1 by unfold rlE; rw [hn, if_pos rfl, if_neg (by omega)]]
      go_enter Tryz.func47, Tryz.ntmps47
      go_wp2_with (go_at_call 48; refine (Is_c _ _).mono ?_; rintro e w' ⟨rfl, rfl⟩; rw [hn])
      go_ret2
      exact ⟨rfl, Ext.refl _⟩
    · by_cases h4 : 4 < how
      · rw [show rlA l n how = 0 by unfold rlA; rw [if_neg (by omega)], show rlE l n how = 1 by unfold rlE; rw [hn, if_pos rfl, if_neg (by omega)]]
        go_enter Tryz.func47, Tryz.ntmps47
        go_wp2_with (go_at_call 48; refine (Is_c _ _).mono ?_; rintro e w' ⟨rfl, rfl⟩; rw [hn])
        go_ret2
        exact ⟨rfl, Ext.refl _⟩
      · by_cases he1 : how = 1
        · subst he1
          rw [show rlA l n 1 = n by unfold rlA; rw [hn]; simp, show rlE l n 1 = 0 by unfold rlE; rw [hn]; simp]
          go_enter Tryz.func47, Tryz.ntmps47
          go_wp2_with (go_at_call 48; refine (Is_c _ _).mono ?_; rintro e w' ⟨rfl, rfl⟩; rw [hn])
          go_ret2
          exact ⟨rfl, Ext.refl _⟩
        · cases ho : opn l n
          · rw [show rlA l n how = (if (rolP l n how).2 = true then (rolP l n how).1 else 0) by unfold rlA; rw [if_pos ⟨hn, by omega, by omega⟩, if_neg he1],
              show rlE l n how = (if (rolP l n how).2 = true then 0 else 5) by unfold rlE; rw [if_pos hn, if_pos ⟨by omega, by omega⟩, if_neg he1]]
            obtain ⟨X, F, hX⟩ : ∃ X F, sk l 1 n = (X, F) := ⟨_, _, rfl⟩
            obtain ⟨Y, G, hY⟩ : ∃ Y G, sk l (-1) n = (Y, G) := ⟨_, _, rfl⟩
            obtain rfl | rfl | rfl : how = 2 ∨ how = 3 ∨ how = 4 := by omega
            · rw [show rolP l n 2 = (X, F) by unfold rolP; rw [hX]; simp]
              exact rRoll_2 v l n X Y F G w hl hn ho hX hY hc
            · cases hF : F
              · rw [show rolP l n 3 = (Y, G) by unfold rolP; rw [hX, hF, hY]; simp]
                exact rRoll_3a v l n X Y F G w hl hn ho hX hY hc hF
              · cases hS : sameM n X
                · rw [show rolP l n 3 = (Y, G) by unfold rolP; rw [hX, hF, hY]; simp [hS]]
                  exact rRoll_3b v l n X Y F G w hl hn ho hX hY hc hF hS
                · rw [show rolP l n 3 = (X, true) by unfold rolP; rw [hX, hF]; simp [hS]]
                  exact rRoll_3c v l n X Y F G w hl hn ho hX hY hc hF hS
            · rw [show rolP l n 4 = (Y, G) by unfold rolP; rw [hY]; simp]
              exact rRoll_4 v l n X Y F G w hl hn ho hX hY hc
          · rw [show rlA l n how = n by unfold rlA; rw [if_pos ⟨hn, by omega, by omega⟩, if_neg he1, rolP_open ho]; simp, show rlE l n how = 0 by unfold rlE; rw [if_pos hn, if_pos ⟨by omega, by omega⟩, if_neg he1, rolP_open ho]; simp]
            have hO : Hid (∀ w : World, Hid (Slc w v l) → Calls Tryz.prog 69 #[v, .int .i64 n] w fun e w' => e = .returned (.bool true) ∧ w' = w) := fun w hc => by
              have := rOpen_c v l n w (by have := (inD_iff n).1 hn; unfold I64; omega) hl hc; rwa [ho] at this
            have hb : (how == 1) = false := by simpa using he1
            clear ho
            go_enter Tryz.func47, Tryz.ntmps47
            go_wp2_with (first
              | (go_at_call 48; refine (Is_c _ _).mono ?_; rintro e w' ⟨rfl, rfl⟩; rw [hn])
              | (go_at_call 69; refine (hO.out _ hc).mono ?_; rintro e w' ⟨rfl, rfl⟩))
            go_ret2
            exact ⟨rfl, Ext.refl _⟩
end Go.Proofs.YtafjmpaefikdcaaGreatDoor.L5
