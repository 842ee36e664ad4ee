
/- The document's own answers of layer 13 (what may be asked, the walk, the search), as contracts: no statement of the seat is proved here. -/
import Derived.Test.YtafjmpaefikdcaaGreatDoorLv2
namespace Go.Proofs.YtafjmpaefikdcaaGreatDoor
open Go.RowKit
open L12 (Rbr Rst bq br Ask)
open L8 (Slc)
set_option linter.unusedVariables false

/-- A slice of numbers that came in, or was made: where its numbers are. -/
structure Sll (w : World) (sa : Option Addr) (T : Nat) (l : List Int) : Prop where
  len : l.length = T
  at_ : ∀ (k : Nat) (x : Int), l[k]? = some x → ∃ b off, sa = some ⟨b, off, none⟩ ∧ w.cell? ⟨b, off + k, none⟩ = some (.int .i64 x)
theorem Sll.ext {w w' : World} {sa : Option Addr} {T : Nat} {l : List Int} (h : Sll w sa T l) (hx : Ext w w') : Sll w' sa T l :=
  ⟨h.len, fun k x hk => by obtain ⟨b, off, e, hc⟩ := h.at_ k x hk; exact ⟨b, off, e, hx.cell_of hc⟩⟩
theorem sll_of {w : World} {v : Value} {l : List Int} (h : Slc w v l) : ∃ sa c, v = .slice sa l.length c ∧ Sll w sa l.length l := by
  rcases h with ⟨a, c, rfl, _, rfl⟩ | ⟨b, off, c, rfl, hc⟩
  · exact ⟨_, _, rfl, rfl, fun k x hk => by simp at hk⟩
  · exact ⟨_, _, rfl, rfl, fun k x hk => ⟨b, off, rfl, hc k x hk⟩⟩
/-- Which error tells what is wrong with what is asked. -/
def askE (p : Prd) (l : List Int) (a : Int) (E : Int) : Prop := (okP p = false ∧ E = 9) ∨ (okP p = true ∧ ¬ Okl p.tm l a ∧ E = 1) ∨ (okP p = true ∧ Okl p.tm l a ∧ E = 0)
theorem askE_ex (p : Prd) (l : List Int) (a : Int) : ∃ E, askE p l a E := by
  cases h : okP p
  · exact ⟨9, Or.inl ⟨h, rfl⟩⟩
  · by_cases k : Okl p.tm l a
    · exact ⟨0, Or.inr (Or.inr ⟨h, k, rfl⟩)⟩
    · exact ⟨1, Or.inr (Or.inl ⟨h, k, rfl⟩)⟩
theorem asked_bad (p : Prd) (vr vl vh v : Value) (a : Int) (w : World) (hi : Inp w p vr vl vh) (hok : okP p = false) :
    Calls Tryz.prog 23 #[.agg (pcells p vr vl vh), v, .int .i64 a] w fun e w' => e = .returned (.int .i64 9) ∧ Ext w w' := by
  have hone := hi.one
  have hbox := box_prod p vr vl vh hone
  obtain ⟨W1, b, hW1, hb, hx1, hB1⟩ : ∃ W b, w.alloc (.cells (pcells p vr vl vh) 27) = W ∧ w.heap.size = b ∧ Ext w W ∧ Blk W b (pcells p vr vl vh) := ⟨_, _, rfl, rfl, (Ext.refl w).alloc _ _, heap_alloc_last w _⟩
  have hsz : (pcells p vr vl vh).size = 19 := rfl
  replace hi : Hid (Inp W1 p vr vl vh) := hi.ext hx1
  replace hx1 := show Hid _ from hx1
  go_enter Tryz.func23, Tryz.ntmps23
  go_wp2_with (refine load27 hB1 hsz rfl rfl rfl ?_)
  refine (rCheck_q p vr vl vh false hok _ hi.out.h0 hi.out.h1 hi.out.h2 hi.out.h3 hi.out.sr hi.out.sl hi.out.sh).mono ?_
  rintro e w2 ⟨rfl, hx2⟩
  have hx : Hid (Ext w w2) := hx1.out.trans hx2
  clear hx2 hx1 hB1 hW1 hb hbox hone hsz
  go_wp2
  go_ret
  exact ⟨rfl, hx.out⟩
theorem Okl.iff (T : Nat) (t a : Int) (l : List Int) (hT : l.length = T) : Okl t l a ↔ ((((T : Int) = t) ∧ 1 ≤ a) ∧ a ≤ 10000000000000) ∧ ∀ n ∈ l.take T, 0 ≤ n ∧ n ≤ 267180 := by
  rw [List.take_of_length_le (by omega)]
  unfold Okl
  constructor
  · rintro ⟨h1, h2, h3, h4⟩; exact ⟨⟨⟨by omega, h3⟩, h4⟩, h2⟩
  · rintro ⟨⟨⟨h1, h3⟩, h4⟩, h2⟩; exact ⟨by omega, h2, h3, h4⟩
theorem take_succ_iff {l : List Int} {k : Nat} {u : Int} (h : l[k]? = some u) (A : Prop) : (A ∧ ∀ n ∈ l.take (k + 1), 0 ≤ n ∧ n ≤ 267180) ↔ (A ∧ ∀ n ∈ l.take k, 0 ≤ n ∧ n ≤ 267180) ∧ (0 ≤ u ∧ u ≤ 267180) := by
  rw [List.take_add_one, h]
  simp only [Option.toList_some, List.mem_append, List.mem_singleton]
  constructor
  · rintro ⟨a, b⟩; exact ⟨⟨a, fun n hn => b n (Or.inl hn)⟩, b u (Or.inr rfl)⟩
  · rintro ⟨⟨a, b⟩, c⟩; exact ⟨a, fun n hn => hn.elim (b n) (fun e => e ▸ c)⟩
set_option maxRecDepth 100000 in
set_option maxHeartbeats 4000000 in
theorem asked_c (p : Prd) (vr vl vh : Value) (sa : Option Addr) (T c : Nat) (l : List Int) (a E : Int) (w : World) (hi : Inp w p vr vl vh) (hs : Sll w sa T l) (hTT : T ≤ 30000) (hok : okP p = true) (h1 : Okl p.tm l a → E = 0) (h2 : ¬ Okl p.tm l a → E = 1) :
    Calls Tryz.prog 23 #[.agg (pcells p vr vl vh), .slice sa T c, .int .i64 a] w fun e w' => e = .returned (.int .i64 E) ∧ Ext w w' := by
  have hone := hi.one
  have hbox := box_prod p vr vl vh hone
  obtain ⟨W1, b, hW1, hb, hx1, hB1⟩ : ∃ W b, w.alloc (.cells (pcells p vr vl vh) 27) = W ∧ w.heap.size = b ∧ Ext w W ∧ Blk W b (pcells p vr vl vh) := ⟨_, _, rfl, rfl, (Ext.refl w).alloc _ _, heap_alloc_last w _⟩
  have hsz : (pcells p vr vl vh).size = 19 := rfl
  replace hi : Hid (Inp W1 p vr vl vh) := hi.ext hx1
  replace hs : Hid (Sll W1 sa T l) := hs.ext hx1
  replace hx1 := show Hid _ from hx1
  obtain ⟨tm, etm⟩ : ∃ t, p.tm = t := ⟨_, rfl⟩
  rw [etm] at h1 h2
  have t1 : 0 ≤ tm ∧ tm ≤ 600 := by have := tm_T hok; rw [etm] at this; omega
  have p5 := (cell_of_row W1 b 5 _ _ _ hB1).trans (show _ = some (.int .i64 p.tm) from rfl)
  rw [etm] at p5
  have hE : Hid (∀ B : Bool, (B = true ↔ Okl tm l a) → E = if B = true then 0 else 1) := fun B hB => by
    cases B
    · exact h2 (fun k => by have := hB.2 k; cases this)
    · exact h1 (hB.1 rfl)
  clear h1 h2
  replace etm := show Hid _ from etm
  go_enter Tryz.func23, Tryz.ntmps23
  go_wp2_with (refine load27 hB1 hsz rfl rfl rfl ?_)
  refine (rCheck_q p vr vl vh true hok _ hi.out.h0 hi.out.h1 hi.out.h2 hi.out.h3 hi.out.sr hi.out.sl hi.out.sh).mono ?_
  rintro e w2 ⟨rfl, hx2⟩
  have hx : Hid (Ext w w2) := hx1.out.trans hx2
  replace hs : Hid (Sll w2 sa T l) := hs.out.ext hx2
  replace p5 := hx2.cell_of p5
  clear hx2 hx1 hB1 hW1 hb hbox hone hsz hi hok
  obtain ⟨B0, hB0⟩ : ∃ B : Bool, ((B = true) ↔ (((T : Int) = tm) ∧ 1 ≤ a) ∧ a ≤ 10000000000000) := ⟨decide ((((T : Int) = tm) ∧ 1 ≤ a) ∧ a ≤ 10000000000000), by simp⟩
  replace hB0 := show Hid _ from hB0
  go_upto_region 3 with fail
  go_cut [7] from 12 to 24 (fun x wx => x = .bool B0 ∧ wx = w2)
  case first =>
    by_cases k1 : (T : Int) = tm
    · by_cases k2 : 1 ≤ a
      · by_cases k3 : a ≤ 10000000000000
        · obtain rfl : B0 = true := hB0.out.2 ⟨⟨k1, k2⟩, k3⟩
          go_wp2
          go_meet
          exact ⟨rfl, rfl⟩
        · obtain rfl : B0 = false := by
            cases B0
            · rfl
            · exact absurd (hB0.out.1 rfl).2 k3
          go_wp2
          go_meet
          exact ⟨rfl, rfl⟩
      · obtain rfl : B0 = false := by
          cases B0
          · rfl
          · exact absurd (hB0.out.1 rfl).1.2 k2
        go_wp2
        go_meet
        exact ⟨rfl, rfl⟩
    · obtain rfl : B0 = false := by
        cases B0
        · rfl
        · exact absurd (hB0.out.1 rfl).1.1 k1
      go_wp2
      go_meet
      exact ⟨rfl, rfl⟩
  case rest =>
  obtain ⟨rfl, rfl⟩ := hcut
  clear p5
  go_wp2_with fail
  go_loop [7, 8] (fun u i => ∃ (k : Nat) (B : Bool), k ≤ T ∧ i = .int .i64 k ∧ u = .bool B ∧ Hid ((B = true) ↔ ((B0 = true) ∧ ∀ n ∈ l.take k, 0 ≤ n ∧ n ≤ 267180))) (fun _ i => T - (RowKit.intOf i).toNat)
  case atStart => exact ⟨0, B0, Nat.zero_le _, rfl, rfl, by constructor <;> simp⟩
  case round =>
    obtain ⟨k, B, hk, rfl, rfl, hB⟩ := hrel
    by_cases hlt : k < T
    · have hlt' : (k : Int) < (T : Int) := by omega
      obtain ⟨n, hn⟩ : ∃ n, l[k]? = some n := ⟨_, List.getElem?_eq_getElem (by have := hs.out.len; omega)⟩
      obtain ⟨bb, off, rfl, kc⟩ := hs.out.at_ k n hn
      have hB' : Hid (∀ B' : Bool, ((B' = true) ↔ (B = true ∧ 0 ≤ n ∧ n ≤ 267180)) → ((B' = true) ↔ ((B0 = true) ∧ ∀ n ∈ l.take (k + 1), 0 ≤ n ∧ n ≤ 267180))) := fun B' h => by rw [take_succ_iff hn, ← hB.out]; exact h
      clear hn
      cases B
      · go_wp2
        go_round
        case rel => exact ⟨k + 1, false, by omega, by go_num, rfl, hB'.out false (by simp)⟩
        case measure => simp [RowKit.intOf]; omega
      · by_cases n0 : 0 ≤ n
        · by_cases n1 : n ≤ 267180
          · go_wp2
            go_round
            case rel => exact ⟨k + 1, true, by omega, by go_num, rfl, hB'.out true (by simp [n0, n1])⟩
            case measure => simp [RowKit.intOf]; omega
          · go_wp2
            go_round
            case rel => exact ⟨k + 1, false, by omega, by go_num, rfl, hB'.out false (by simp [n1])⟩
            case measure => simp [RowKit.intOf]; omega
        · go_wp2
          go_round
          case rel => exact ⟨k + 1, false, by omega, by go_num, rfl, hB'.out false (by simp [n0])⟩
          case measure => simp [RowKit.intOf]; omega
    · obtain rfl : k = T := by omega
      have hB2 : (B = true) ↔ Okl tm l a := by rw [Okl.iff k tm a l hs.out.len, ← hB0.out]; exact hB.out
      have hv := hE.out B hB2
      clear hB2
      cases B
      · obtain rfl : E = 1 := hv
        go_wp2
        go_ret
        exact ⟨rfl, hx.out⟩
      · obtain rfl : E = 0 := hv
        go_wp2
        go_ret
        exact ⟨rfl, hx.out⟩
end Go.Proofs.YtafjmpaefikdcaaGreatDoor
