/- The holidays' row, and what the small functions of package business and the library's search do, as contracts: no statement of the seat is proved here. -/
import Derived.Test.YtkkpnhcodaijeaaDoorCiv5
import Derived.Test.YtkkpnhcodaijeaaDoorBiz0
import Derived.Test.YtkkpnhcodaijeaaDoorLate
namespace Go.Proofs.YtkkpnhcodaijeaaDoor
open Go.RowKit
set_option linter.unusedVariables false

/-- A slice of these numbers: of none whatever its address, else cells. -/
def Slc (w : World) (v : Value) (l : List Int) : Prop :=
  (∃ a c, v = .slice a 0 c ∧ (a = none → c = 0) ∧ l = []) ∨ ∃ b off c, v = .slice (some ⟨b, off, none⟩) l.length c ∧ ∀ (k : Nat) (x : Int), l[k]? = some x → w.cell? ⟨b, off + k, none⟩ = some (.int .i64 x)
theorem Slc.ext {w w' : World} {v : Value} {l : List Int} (h : Slc w v l) (hx : Ext w w') : Slc w' v l := by
  rcases h with h | ⟨b, off, c, e, hc⟩
  · exact Or.inl h
  · exact Or.inr ⟨b, off, c, e, fun k v hk => hx.cell_of (hc k v hk)⟩
/-- A calendar of these holidays. -/
structure Cld (w : World) (p : Nat) (l : List Int) : Prop where
  cell : ∃ v, w.cell? ⟨p, 0, none⟩ = some v ∧ Slc w v l
  rgt : rgt l = true
theorem Cld.ext {w w' : World} {p : Nat} {l : List Int} (h : Cld w p l) (hx : Ext w w') : Cld w' p l := by
  obtain ⟨⟨v, h1, h2⟩, h3⟩ := h
  exact ⟨⟨v, hx.cell_of h1, h2.ext hx⟩, h3⟩
theorem rgt_len {l : List Int} (h : rgt l = true) : l.length ≤ 200 := by
  unfold Go.Proofs.YtkkpnhcodaijeaaDoor.rgt at h
  simp only [Bool.and_eq_true, decide_eq_true_eq] at h
  exact h.2
theorem rgt_srt {l : List Int} (h : rgt l = true) : l.Pairwise (· < ·) := by
  unfold Go.Proofs.YtkkpnhcodaijeaaDoor.rgt at h
  simp only [Bool.and_eq_true, decide_eq_true_eq] at h
  exact (rsg_spec _ _ h.1).1

theorem bknown_c (n : Int) (w : World) :
    Calls Tryd.prog 24 #[.int .i64 n] w fun e w' => e = .returned (.bool (inD n)) ∧ w' = w := by
  by_cases h1 : -25567 ≤ n
  · by_cases h2 : n ≤ 84370
    · rw [(inD_iff n).2 ⟨h1, h2⟩]
      go_enter Tryd.func24, Tryd.ntmps24
      go_wp2
      go_ret
      exact ⟨rfl, rfl⟩
    · rw [(inD_no n).2 (by omega)]
      go_enter Tryd.func24, Tryd.ntmps24
      go_wp2
      go_ret
      exact ⟨rfl, rfl⟩
  · rw [(inD_no n).2 (by omega)]
    go_enter Tryd.func24, Tryd.ntmps24
    go_wp2
    go_ret
    exact ⟨rfl, rfl⟩
theorem Is_c (n : Int) (w : World) :
    Calls Tryd.prog 22 #[.int .i64 n] w fun e w' => e = .returned (.bool (inD n)) ∧ w' = w := by
  cases h : inD n
  · exact Is_f n w ((inD_no n).1 h)
  · exact Is_t n w ((inD_iff n).1 h).1 ((inD_iff n).1 h).2
theorem weekend_c (n : Int) (w : World) (h : I64 n) :
    Calls Tryd.prog 28 #[.int .i64 n] w fun e w' => e = .returned (.bool (!decide (wday n < 5))) ∧ w' = w := by
  have hb : Hid (decide (5 ≤ wday n) = !decide (wday n < 5)) := by show _ = _; by_cases k : wday n < 5 <;> simp [k] <;> omega
  go_enter Tryd.func28, Tryd.ntmps28
  go_wp2_with (go_at_call 38; refine (Weekday_c _ _ h).mono ?_; rintro e w' ⟨rfl, rfl⟩)
  go_ret
  exact ⟨ret_bool hb.out, rfl⟩
theorem nan_c (x : Int) (w : World) :
    Calls Tryd.prog 48 #[.int .i64 x] w fun e w' => e = .returned (.bool false) ∧ w' = w := by
  go_enter Tryd.func48, Tryd.ntmps48
  go_wp2
  go_ret
  exact ⟨ret_bool (by simp), rfl⟩
theorem snan_c (x : Int) (w : World) :
    Calls Tryd.prog 43 #[.int .i64 x] w fun e w' => e = .returned (.bool false) ∧ w' = w := by
  go_enter Tryd.func43, Tryd.ntmps43
  go_wp2
  go_ret
  exact ⟨ret_bool (by simp), rfl⟩
theorem less_c (x y : Int) (w : World) :
    Calls Tryd.prog 42 #[.int .i64 x, .int .i64 y] w fun e w' => e = .returned (.bool (decide (x < y))) ∧ w' = w := by
  go_enter Tryd.func42, Tryd.ntmps42
  go_wp2_with (go_at_call 48; refine (nan_c _ _).mono ?_; rintro e w' ⟨rfl, rfl⟩)
  go_ret
  exact ⟨rfl, rfl⟩

theorem ret_ib {a : Int} {b c : Bool} (h : b = c) : Ending.returned (.tuple #[.int .i64 a, .bool b]) = .returned (.tuple #[.int .i64 a, .bool c]) := by rw [h]
theorem mem_at {l : List Int} {x : Int} {i : Nat} (h1 : ∀ (k : Nat) (v : Int), k < i → l[k]? = some v → v < x) (h2 : ∀ (k : Nat) (v : Int), i ≤ k → l[k]? = some v → x ≤ v) (hs : l.Pairwise (· < ·)) :
    decide (x ∈ l) = decide (l[i]? = some x) := by
  by_cases h : l[i]? = some x
  · rw [decide_eq_true h, decide_eq_true (List.mem_of_getElem? h)]
  · rw [decide_eq_false h, decide_eq_false]
    intro hm
    obtain ⟨k, hk, e⟩ := List.mem_iff_getElem.1 hm
    have e' : l[k]? = some x := by rw [List.getElem?_eq_getElem hk, e]
    rcases Nat.lt_trichotomy k i with a | a | a
    · have := h1 k x a e'; omega
    · subst a; exact h e'
    · have hi : i < l.length := by omega
      have e1 : l[i]? = some l[i] := List.getElem?_eq_getElem hi
      have := h2 i _ (Nat.le_refl _) e1
      have := List.pairwise_iff_getElem.1 hs i k hi hk a
      omega
theorem search_nil (a : Option Addr) (c : Nat) (x : Int) (w : World) :
    Calls Tryd.prog 39 #[.slice a 0 c, .int .i64 x] w fun e w' => e = .returned (.tuple #[.int .i64 0, .bool false]) ∧ w' = w := by
  go_enter Tryd.func39, Tryd.ntmps39
  go_wp2_with fail
  refine wp_loop_rounds 1 ?_
  rw [rounds_succ]
  go_wp2
  go_ret2
  exact ⟨rfl, rfl⟩
theorem below_of {l : List Int} {m : Nat} {V x : Int} (hs : l.Pairwise (· < ·)) (hV : l[m]? = some V) (h : V < x) : ∀ (k : Nat) (v : Int), k < m + 1 → l[k]? = some v → v < x := by
  intro k v hk hv
  obtain ⟨hm, rfl⟩ := List.getElem?_eq_some_iff.1 hV
  obtain ⟨hk', rfl⟩ := List.getElem?_eq_some_iff.1 hv
  by_cases e : k = m
  · subst e; exact h
  · have := List.pairwise_iff_getElem.1 hs k m hk' hm (by omega)
    omega
theorem above_of {l : List Int} {m : Nat} {V x : Int} (hs : l.Pairwise (· < ·)) (hV : l[m]? = some V) (h : ¬ V < x) : ∀ (k : Nat) (v : Int), m ≤ k → l[k]? = some v → x ≤ v := by
  intro k v hk hv
  obtain ⟨hm, rfl⟩ := List.getElem?_eq_some_iff.1 hV
  obtain ⟨hk', rfl⟩ := List.getElem?_eq_some_iff.1 hv
  by_cases e : k = m
  · subst e; omega
  · have := List.pairwise_iff_getElem.1 hs m k hm hk' (by omega)
    omega
theorem search_c (b off c : Nat) (l : List Int) (x : Int) (w : World) (hl : l.length ≤ 1000) (hs : l.Pairwise (· < ·)) (hc : ∀ (k : Nat) (v : Int), l[k]? = some v → w.cell? ⟨b, off + k, none⟩ = some (.int .i64 v)) :
    Calls Tryd.prog 39 #[.slice (some ⟨b, off, none⟩) l.length c, .int .i64 x] w fun e w' => (∃ i : Int, e = .returned (.tuple #[.int .i64 i, .bool (decide (x ∈ l))])) ∧ w' = w := by
  replace hs := show Hid _ from hs
  replace hc := show Hid _ from hc
  obtain ⟨n, hn⟩ : ∃ n, l.length = n := ⟨_, rfl⟩
  rw [hn]
  rw [hn] at hl
  replace hn := show Hid _ from hn
  go_enter Tryd.func39, Tryd.ntmps39
  go_wp2_with fail
  go_loop [7, 8] (fun i j => ∃ I J : Nat, I ≤ J ∧ J ≤ n ∧ i = .int .i64 I ∧ j = .int .i64 J ∧ Hid (∀ (k : Nat) (v : Int), k < I → l[k]? = some v → v < x) ∧ Hid (∀ (k : Nat) (v : Int), J ≤ k → l[k]? = some v → x ≤ v)) (fun i j => (RowKit.intOf j - RowKit.intOf i).toNat)
  case atStart => exact ⟨0, n, by omega, by omega, rfl, rfl, fun k v h => by omega, fun k v h e => by have := (List.getElem?_eq_some_iff.1 e).1; have := hn.out; omega⟩
  case round =>
    obtain ⟨I, J, hIJ, hJ, rfl, rfl, h1, h2⟩ := hrel
    by_cases hlt : I < J
    · obtain ⟨V, hV⟩ : ∃ V, l[(I + J) / 2]? = some V := ⟨_, List.getElem?_eq_getElem (by have := hn.out; omega)⟩
      have hcell := hc.out _ _ hV
      by_cases hx : V < x
      · have hb := show Hid _ from below_of hs.out hV hx
        clear hV
        go_wp2_with (go_at_call 42; refine (less_c _ _ _).mono ?_; rintro e w' ⟨rfl, rfl⟩; rw [decide_eq_true hx])
        go_round
        case rel => exact ⟨(I + J) / 2 + 1, J, by omega, hJ, by go_num, rfl, hb, h2⟩
        case measure => simp [RowKit.intOf]; omega
      · have hb := show Hid _ from above_of hs.out hV hx
        clear hV
        go_wp2_with (go_at_call 42; refine (less_c _ _ _).mono ?_; rintro e w' ⟨rfl, rfl⟩; rw [decide_eq_false hx])
        go_round
        case rel => exact ⟨I, (I + J) / 2, by omega, by omega, rfl, by go_num, h1, hb⟩
        case measure => simp [RowKit.intOf]; omega
    · obtain rfl : I = J := by omega
      have hm := show Hid _ from mem_at h1.out h2.out hs.out
      clear h1 h2
      by_cases hin : I < n
      · obtain ⟨V, hV⟩ : ∃ V, l[I]? = some V := ⟨_, List.getElem?_eq_getElem (by have := hn.out; omega)⟩
        have hcell := hc.out _ _ hV
        by_cases hx : V = x
        · subst hx
          have hb : Hid (decide (V ∈ l) = true) := by show _ = _; rw [hm.out, hV]; simp
          clear hm hV
          go_wp2
          go_ret2
          exact ⟨⟨_, ret_ib hb.out.symm⟩, rfl⟩
        · have hb : Hid (decide (x ∈ l) = false) := by show _ = _; rw [hm.out, hV]; simp; exact hx
          clear hm hV
          have hd : (V == x) = false := by simpa using hx
          go_wp2_with (go_at_call 43; refine (snan_c _ _).mono ?_; rintro e w' ⟨rfl, rfl⟩)
          go_ret2
          exact ⟨⟨_, ret_ib hb.out.symm⟩, rfl⟩
      · have hb : Hid (decide (x ∈ l) = false) := by show _ = _; rw [hm.out, List.getElem?_eq_none (by have := hn.out; omega)]; simp
        clear hm
        go_wp2
        go_ret2
        exact ⟨⟨_, ret_ib hb.out.symm⟩, rfl⟩
theorem holiday_c (p : Nat) (l : List Int) (x : Int) (w : World) (hc : Cld w p l) :
    Calls Tryd.prog 29 #[.pointer (some ⟨p, 0, none⟩), .int .i64 x] w fun e w' => e = .returned (.bool (decide (x ∈ l))) ∧ w' = w := by
  obtain ⟨⟨v, h1, h2⟩, h3⟩ := hc
  have hl := rgt_len h3
  have hs := show Hid _ from rgt_srt h3
  clear h3
  rcases h2 with ⟨a, c, rfl, _, rfl⟩ | ⟨b, off, c, rfl, hc⟩
  · rw [show decide (x ∈ ([] : List Int)) = false by simp]
    go_enter Tryd.func29, Tryd.ntmps29
    go_wp2_with (go_at_call 39; refine (search_nil _ _ _ _).mono ?_; rintro e w' ⟨rfl, rfl⟩)
    go_ret
    exact ⟨rfl, rfl⟩
  · replace hc := show Hid _ from hc
    have hS : Hid (Calls Tryd.prog 39 #[.slice (some ⟨b, off, none⟩) l.length c, .int .i64 x] w fun e w' => (∃ i : Int, e = .returned (.tuple #[.int .i64 i, .bool (decide (x ∈ l))])) ∧ w' = w) := search_c b off c l x w (by omega) hs.out hc.out
    clear hs hc
    generalize decide (x ∈ l) = B at hS ⊢
    generalize l.length = n at *
    go_enter Tryd.func29, Tryd.ntmps29
    go_wp2_with fail
    refine Calls.mono hS.out ?_
    rintro e w' ⟨⟨i, rfl⟩, rfl⟩
    go_wp2
    go_ret
    exact ⟨rfl, rfl⟩
theorem Open_c (p : Nat) (l : List Int) (n : Int) (w : World) (hn : I64 n) (hc : Hid (Cld w p l)) :
    Calls Tryd.prog 18 #[.pointer (some ⟨p, 0, none⟩), .int .i64 n] w fun e w' => e = .returned (.bool (opn l n)) ∧ w' = w := by
  replace hn := show Hid _ from hn
  cases h : inD n
  · rw [opn_out h]
    go_enter Tryd.func18, Tryd.ntmps18
    go_wp2_with (go_at_call 24; refine (bknown_c _ _).mono ?_; rintro e w' ⟨rfl, rfl⟩; rw [h])
    go_ret
    exact ⟨rfl, rfl⟩
  · rw [show opn l n = (decide (wday n < 5) && !(decide (n ∈ l))) by unfold opn; rw [h]; simp]
    by_cases h5 : wday n < 5
    · rw [show (decide (wday n < 5) && !(decide (n ∈ l))) = !(decide (n ∈ l)) by rw [decide_eq_true h5]; simp]
      have hW : Hid (∀ w : World, Calls Tryd.prog 28 #[.int .i64 n] w fun e w' => e = .returned (.bool false) ∧ w' = w) := fun w => by
        have := weekend_c n w hn.out
        rw [decide_eq_true h5] at this
        exact this
      clear h5
      go_enter Tryd.func18, Tryd.ntmps18
      go_wp2_with (first
        | (go_at_call 24; refine (bknown_c _ _).mono ?_; rintro e w' ⟨rfl, rfl⟩; rw [h])
        | (go_at_call 28; refine (hW.out _).mono ?_; rintro e w' ⟨rfl, rfl⟩)
        | (go_at_call 29; refine (holiday_c _ _ _ _ hc.out).mono ?_; rintro e w' ⟨rfl, rfl⟩))
      go_ret
      exact ⟨rfl, rfl⟩
    · rw [show (decide (wday n < 5) && !(decide (n ∈ l))) = false by rw [decide_eq_false h5]; simp]
      have hW : Hid (∀ w : World, Calls Tryd.prog 28 #[.int .i64 n] w fun e w' => e = .returned (.bool true) ∧ w' = w) := fun w => by
        have := weekend_c n w hn.out
        rw [decide_eq_false h5] at this
        exact this
      clear h5
      go_enter Tryd.func18, Tryd.ntmps18
      go_wp2_with (first
        | (go_at_call 24; refine (bknown_c _ _).mono ?_; rintro e w' ⟨rfl, rfl⟩; rw [h])
        | (go_at_call 28; refine (hW.out _).mono ?_; rintro e w' ⟨rfl, rfl⟩))
      go_ret
      exact ⟨rfl, rfl⟩
end Go.Proofs.YtkkpnhcodaijeaaDoor
