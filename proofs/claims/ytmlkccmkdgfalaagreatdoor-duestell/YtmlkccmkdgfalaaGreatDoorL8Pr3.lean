
/- What the document's Words, In (of texts) and Name answer, as contracts: no statement of the seat is proved here. -/
import Derived.Test.YtmlkccmkdgfalaaGreatDoorL8Pr2
namespace Go.Proofs.YtmlkccmkdgfalaaGreatDoor.L8
open Go.RowKit
set_option linter.unusedVariables false

/-- These texts lie in a block. -/
def Strs (w : World) (b : Nat) (ws : List (List UInt8)) : Prop := ∀ (k : Nat) (x : List UInt8), ws[k]? = some x → w.cell? ⟨b, k, none⟩ = some (.string ⟨x.toArray⟩)
theorem Strs.ext {w w' : World} {b : Nat} {ws : List (List UInt8)} (h : Strs w b ws) (hx : Ext w w') : Strs w' b ws := fun k x hk => hx.cell_of (h k x hk)
theorem strs_new (w : World) (ws : List (List UInt8)) (t : TypeId) : Strs (w.alloc (.cells (ws.map fun x => .string ⟨x.toArray⟩).toArray t)) w.heap.size ws := fun k x hk => by
  simp [go_sem, hk]
theorem Words_c (w : World) :
    Calls Tryz.prog 58 #[] w fun e w' => (∃ b, e = .returned (.slice (some ⟨b, 0, none⟩) 34 34) ∧ Strs w' b wordsL) ∧ Ext w w' := by
  have hS := strs_new w wordsL 9
  replace hS := show Hid _ from hS
  go_enter Tryz.func58, Tryz.ntmps58
  go_wp2
  go_ret
  exact ⟨⟨_, rfl, hS.out⟩, (Ext.refl _).alloc _ _⟩
theorem InS_c (b c : Nat) (ws : List (List UInt8)) (x : List UInt8) (w : World) (hl : ws.length ≤ 9223372036854775807) (hc : Strs w b ws) :
    Calls Tryz.prog 57 #[.slice (some ⟨b, 0, none⟩) ws.length c, .string ⟨x.toArray⟩] w fun e w' => e = .returned (.bool (decide (x ∈ ws))) ∧ w' = w := by
  replace hc := show Hid (Strs w b ws) from hc
  obtain ⟨n, hn⟩ : ∃ n, ws.length = n := ⟨_, rfl⟩
  rw [hn]
  rw [hn] at hl
  replace hn := show Hid _ from hn
  go_enter Tryz.func57, Tryz.ntmps57
  go_wp2_with fail
  go_loop [5] (fun i => ∃ k : Nat, k ≤ n ∧ i = .int .i64 k ∧ Hid (decide (x ∈ ws) = decide (x ∈ ws.drop k))) (fun i => n - (RowKit.intOf i).toNat)
  case atStart => exact ⟨0, Nat.zero_le _, rfl, rfl⟩
  case round =>
    obtain ⟨k, hk, rfl, hA⟩ := hrel
    by_cases hlt : k < n
    · obtain ⟨V, hV⟩ : ∃ V, ws[k]? = some V := ⟨_, List.getElem?_eq_getElem (by have := hn.out; omega)⟩
      have hcell := hc.out _ _ hV
      have hd := show Hid _ from drop_at hV
      clear hV
      by_cases h1 : V = x
      · subst h1
        have hf : Hid (decide (V ∈ ws) = true) := by show _ = _; rw [hA.out, hd.out]; simp
        clear hA hd
        go_wp2
        go_ret
        exact ⟨ret_bool hf.out.symm, rfl⟩
      · have hb : (V == x) = false := by simpa using h1
        have hf : Hid (decide (x ∈ ws) = decide (x ∈ ws.drop (k + 1))) := by
          show _ = _
          rw [hA.out, hd.out]
          have h1' : ¬ x = V := fun e => h1 e.symm
          simp [h1']
        clear hA hd h1
        go_wp2
        go_round
        case rel => exact ⟨k + 1, by omega, by go_num, hf⟩
        case measure => simp [RowKit.intOf]; omega
    · obtain rfl : k = n := by omega
      have hf : Hid (decide (x ∈ ws) = false) := by show _ = _; rw [hA.out, drop_end (by have := hn.out; omega)]; simp
      clear hA
      go_wp2
      go_ret
      exact ⟨ret_bool hf.out.symm, rfl⟩
/-- A name's bytes, as the document goes through them. -/
def okF : Nat → List UInt8 → Bool
  | _, [] => true
  | k, c :: m => (lowB c || (decide (k ≠ 0) && (digB c || ((c.toNat : Int) == 45)))) && okF (k + 1) m
theorem okF_all : ∀ (m : List UInt8) (k : Nat), okF (k + 1) m = m.all inB
  | [], _ => rfl
  | c :: m, k => by
    show ((lowB c || (decide (k + 1 ≠ 0) && (digB c || ((c.toNat : Int) == 45)))) && okF (k + 1 + 1) m) = _
    rw [okF_all m (k + 1), List.all_cons]
    rfl
theorem nmb_ref (l : List UInt8) : nmb l = (okF 0 l && (lz l.length 1 20 && !(decide (l ∈ wordsL)))) := by
  unfold nmb
  cases l with
  | nil => rfl
  | cons c m =>
    have h1 : headB (c :: m) = lowB c := rfl
    have h2 : okF 0 (c :: m) = ((lowB c || false) && okF 1 m) := rfl
    rw [h1, h2, okF_all m 0, List.all_cons]
    have h3 : inB c = (lowB c || (digB c || ((c.toNat : Int) == 45))) := rfl
    rw [h3]
    cases lowB c <;> cases m.all inB <;> cases lz (c :: m).length 1 20 <;> simp
theorem okF_yes {k : Nat} {c : UInt8} {m : List UInt8} (h : lowB c = true ∨ k ≠ 0 ∧ (digB c || ((c.toNat : Int) == 45)) = true) : okF k (c :: m) = okF (k + 1) m := by
  show ((lowB c || (decide (k ≠ 0) && (digB c || ((c.toNat : Int) == 45)))) && okF (k + 1) m) = _
  rcases h with h | ⟨h1, h2⟩
  · rw [h]; simp
  · rw [h2, decide_eq_true h1]; simp
theorem okF_no {k : Nat} {c : UInt8} {m : List UInt8} (h : lowB c = false) (h2 : k = 0 ∨ (digB c || ((c.toNat : Int) == 45)) = false) : okF k (c :: m) = false := by
  show ((lowB c || (decide (k ≠ 0) && (digB c || ((c.toNat : Int) == 45)))) && okF (k + 1) m) = _
  rw [h]
  rcases h2 with h2 | h2
  · rw [decide_eq_false (by omega)]; simp
  · rw [h2]; simp
set_option maxHeartbeats 2000000 in
theorem rName_c (l : List UInt8) (w : World) (hl : l.length ≤ 9223372036854775807) :
    Calls Tryz.prog 35 #[.string ⟨l.toArray⟩] w fun e w' => e = .returned (.bool (nmb l)) ∧ Ext w w' := by
  obtain ⟨n, hn⟩ : ∃ n, l.length = n := ⟨_, rfl⟩
  rw [hn] at hl
  go_enter Tryz.func35, Tryz.ntmps35
  go_wp2_with fail
  go_loop [3] (fun i => ∃ k : Nat, k ≤ n ∧ i = .int .i64 k ∧ Hid (okF 0 l = okF k (l.drop k))) (fun i => n - (RowKit.intOf i).toNat)
  case atStart => exact ⟨0, Nat.zero_le _, rfl, rfl⟩
  case round =>
    obtain ⟨k, hk, rfl, hA⟩ := hrel
    by_cases hlt : k < n
    · obtain ⟨c, hV⟩ : ∃ c, l[k]? = some c := ⟨_, List.getElem?_eq_getElem (by omega)⟩
      have hd := show Hid _ from byte_drop hV
      have hg := byte_at hV
      clear hV
      rcases (show (97 ≤ (c.toNat : Int) ∧ (c.toNat : Int) ≤ 122) ∨ (48 ≤ (c.toNat : Int) ∧ (c.toNat : Int) ≤ 57) ∨ ((c.toNat : Int) = 45) ∨ (122 < (c.toNat : Int)) ∨ (57 < (c.toNat : Int) ∧ (c.toNat : Int) < 97) ∨ ((c.toNat : Int) < 48 ∧ ¬ (c.toNat : Int) = 45) by omega) with hN | hN | hN | hN | hN | hN
      · have d1 : decide (97 ≤ (c.toNat : Int)) = true := decide_eq_true (by omega)
        have d2 : decide ((c.toNat : Int) ≤ 122) = true := decide_eq_true (by omega)
        have d3 : decide (48 ≤ (c.toNat : Int)) = true := decide_eq_true (by omega)
        have d4 : decide ((c.toNat : Int) ≤ 57) = false := decide_eq_false (by omega)
        have d5 : ((c.toNat : Int) == 45) = false := by simp; omega
        have e1 : lowB c = true := by unfold lowB lz; rw [d1, d2]; rfl
        have e2 : (digB c || ((c.toNat : Int) == 45)) = false := by unfold digB lz; rw [d3, d4, d5]; rfl
        clear hN
        have hf : Hid (okF 0 l = okF (k + 1) (l.drop (k + 1))) := by show _ = _; rw [hA.out, hd.out, okF_yes (Or.inl e1)]
        clear hA hd e1 e2
        go_wp2
        go_round
        case rel => exact ⟨k + 1, by omega, by go_num, hf⟩
        case measure => simp [RowKit.intOf]; omega
      · have d1 : decide (97 ≤ (c.toNat : Int)) = false := decide_eq_false (by omega)
        have d2 : decide ((c.toNat : Int) ≤ 122) = true := decide_eq_true (by omega)
        have d3 : decide (48 ≤ (c.toNat : Int)) = true := decide_eq_true (by omega)
        have d4 : decide ((c.toNat : Int) ≤ 57) = true := decide_eq_true (by omega)
        have d5 : ((c.toNat : Int) == 45) = false := by simp; omega
        have e1 : lowB c = false := by unfold lowB lz; rw [d1, d2]; rfl
        have e2 : (digB c || ((c.toNat : Int) == 45)) = true := by unfold digB lz; rw [d3, d4, d5]; rfl
        clear hN
        by_cases hk0 : k = 0
        · have hz : ((k : Int) == 0) = true := by simp; omega
          have hf : Hid (nmb l = false) := by show _ = _; rw [nmb_ref, hA.out, hd.out, okF_no e1 (Or.inl hk0)]; rfl
          clear hA hd e1 e2 hk0
          go_wp2
          go_ret
          exact ⟨ret_bool hf.out.symm, Ext.refl _⟩
        · have hz : ((k : Int) == 0) = false := by simp; omega
          have hf : Hid (okF 0 l = okF (k + 1) (l.drop (k + 1))) := by show _ = _; rw [hA.out, hd.out, okF_yes (Or.inr ⟨hk0, e2⟩)]
          clear hA hd e1 e2
          go_wp2
          go_round
          case rel => exact ⟨k + 1, by omega, by go_num, hf⟩
          case measure => simp [RowKit.intOf]; omega
      · have d1 : decide (97 ≤ (c.toNat : Int)) = false := decide_eq_false (by omega)
        have d2 : decide ((c.toNat : Int) ≤ 122) = true := decide_eq_true (by omega)
        have d3 : decide (48 ≤ (c.toNat : Int)) = false := decide_eq_false (by omega)
        have d4 : decide ((c.toNat : Int) ≤ 57) = true := decide_eq_true (by omega)
        have d5 : ((c.toNat : Int) == 45) = true := by simp; omega
        have e1 : lowB c = false := by unfold lowB lz; rw [d1, d2]; rfl
        have e2 : (digB c || ((c.toNat : Int) == 45)) = true := by unfold digB lz; rw [d3, d4, d5]; rfl
        clear hN
        by_cases hk0 : k = 0
        · have hz : ((k : Int) == 0) = true := by simp; omega
          have hf : Hid (nmb l = false) := by show _ = _; rw [nmb_ref, hA.out, hd.out, okF_no e1 (Or.inl hk0)]; rfl
          clear hA hd e1 e2 hk0
          go_wp2
          go_ret
          exact ⟨ret_bool hf.out.symm, Ext.refl _⟩
        · have hz : ((k : Int) == 0) = false := by simp; omega
          have hf : Hid (okF 0 l = okF (k + 1) (l.drop (k + 1))) := by show _ = _; rw [hA.out, hd.out, okF_yes (Or.inr ⟨hk0, e2⟩)]
          clear hA hd e1 e2
          go_wp2
          go_round
          case rel => exact ⟨k + 1, by omega, by go_num, hf⟩
          case measure => simp [RowKit.intOf]; omega
      · have d1 : decide (97 ≤ (c.toNat : Int)) = true := decide_eq_true (by omega)
        have d2 : decide ((c.toNat : Int) ≤ 122) = false := decide_eq_false (by omega)
        have d3 : decide (48 ≤ (c.toNat : Int)) = true := decide_eq_true (by omega)
        have d4 : decide ((c.toNat : Int) ≤ 57) = false := decide_eq_false (by omega)
        have d5 : ((c.toNat : Int) == 45) = false := by simp; omega
        have e1 : lowB c = false := by unfold lowB lz; rw [d1, d2]; rfl
        have e2 : (digB c || ((c.toNat : Int) == 45)) = false := by unfold digB lz; rw [d3, d4, d5]; rfl
        clear hN
        by_cases hk0 : k = 0
        · have hz : ((k : Int) == 0) = true := by simp; omega
          have hf : Hid (nmb l = false) := by show _ = _; rw [nmb_ref, hA.out, hd.out, okF_no e1 (Or.inl hk0)]; rfl
          clear hA hd e1 e2 hk0
          go_wp2
          go_ret
          exact ⟨ret_bool hf.out.symm, Ext.refl _⟩
        · have hz : ((k : Int) == 0) = false := by simp; omega
          have hf : Hid (nmb l = false) := by show _ = _; rw [nmb_ref, hA.out, hd.out, okF_no e1 (Or.inr e2)]; rfl
          clear hA hd e1 e2 hk0
          go_wp2
          go_ret
          exact ⟨ret_bool hf.out.symm, Ext.refl _⟩
      · have d1 : decide (97 ≤ (c.toNat : Int)) = false := decide_eq_false (by omega)
        have d2 : decide ((c.toNat : Int) ≤ 122) = true := decide_eq_true (by omega)
        have d3 : decide (48 ≤ (c.toNat : Int)) = true := decide_eq_true (by omega)
        have d4 : decide ((c.toNat : Int) ≤ 57) = false := decide_eq_false (by omega)
        have d5 : ((c.toNat : Int) == 45) = false := by simp; omega
        have e1 : lowB c = false := by unfold lowB lz; rw [d1, d2]; rfl
        have e2 : (digB c || ((c.toNat : Int) == 45)) = false := by unfold digB lz; rw [d3, d4, d5]; rfl
        clear hN
        by_cases hk0 : k = 0
        · have hz : ((k : Int) == 0) = true := by simp; omega
          have hf : Hid (nmb l = false) := by show _ = _; rw [nmb_ref, hA.out, hd.out, okF_no e1 (Or.inl hk0)]; rfl
          clear hA hd e1 e2 hk0
          go_wp2
          go_ret
          exact ⟨ret_bool hf.out.symm, Ext.refl _⟩
        · have hz : ((k : Int) == 0) = false := by simp; omega
          have hf : Hid (nmb l = false) := by show _ = _; rw [nmb_ref, hA.out, hd.out, okF_no e1 (Or.inr e2)]; rfl
          clear hA hd e1 e2 hk0
          go_wp2
          go_ret
          exact ⟨ret_bool hf.out.symm, Ext.refl _⟩
      · have d1 : decide (97 ≤ (c.toNat : Int)) = false := decide_eq_false (by omega)
        have d2 : decide ((c.toNat : Int) ≤ 122) = true := decide_eq_true (by omega)
        have d3 : decide (48 ≤ (c.toNat : Int)) = false := decide_eq_false (by omega)
        have d4 : decide ((c.toNat : Int) ≤ 57) = true := decide_eq_true (by omega)
        have d5 : ((c.toNat : Int) == 45) = false := by simp; omega
        have e1 : lowB c = false := by unfold lowB lz; rw [d1, d2]; rfl
        have e2 : (digB c || ((c.toNat : Int) == 45)) = false := by unfold digB lz; rw [d3, d4, d5]; rfl
        clear hN
        by_cases hk0 : k = 0
        · have hz : ((k : Int) == 0) = true := by simp; omega
          have hf : Hid (nmb l = false) := by show _ = _; rw [nmb_ref, hA.out, hd.out, okF_no e1 (Or.inl hk0)]; rfl
          clear hA hd e1 e2 hk0
          go_wp2
          go_ret
          exact ⟨ret_bool hf.out.symm, Ext.refl _⟩
        · have hz : ((k : Int) == 0) = false := by simp; omega
          have hf : Hid (nmb l = false) := by show _ = _; rw [nmb_ref, hA.out, hd.out, okF_no e1 (Or.inr e2)]; rfl
          clear hA hd e1 e2 hk0
          go_wp2
          go_ret
          exact ⟨ret_bool hf.out.symm, Ext.refl _⟩
    · obtain rfl : k = n := by omega
      have hf : Hid (nmb l = (lz k 1 20 && !(decide (l ∈ wordsL)))) := by
        show _ = _
        rw [nmb_ref, hA.out, drop_end (by omega), hn]; rfl
      clear hA
      cases h1 : decide (1 ≤ (k : Int))
      · have hf' : Hid (nmb l = false) := by show _ = _; rw [hf.out]; unfold lz; rw [h1]; rfl
        clear hf
        go_wp2
        go_ret
        exact ⟨ret_bool hf'.out.symm, Ext.refl _⟩
      · cases h2 : decide ((k : Int) ≤ 20)
        · have hf' : Hid (nmb l = false) := by show _ = _; rw [hf.out]; unfold lz; rw [h1, h2]; rfl
          clear hf
          go_wp2
          go_ret
          exact ⟨ret_bool hf'.out.symm, Ext.refl _⟩
        · have hf' : Hid (nmb l = !(decide (l ∈ wordsL))) := by show _ = _; rw [hf.out]; unfold lz; rw [h1, h2]; rfl
          clear hf
          go_wp2_with fail
          refine (Words_c _).mono ?_
          rintro e w1 ⟨⟨b, rfl, hS⟩, hx⟩
          replace hx := show Hid _ from hx
          replace hS := show Hid (Strs w1 b wordsL) from hS
          go_wp2_with fail
          refine (InS_c b 34 wordsL l _ (by decide) hS.out).mono ?_
          rintro e w2 ⟨rfl, rfl⟩
          go_wp2
          go_ret
          exact ⟨ret_bool hf'.out.symm, hx.out⟩
theorem rName_x (l : List UInt8) (B : Bool) (h : nmb l = B) (w : World) (hl : l.length ≤ 9223372036854775807) :
    Calls Tryz.prog 35 #[.string ⟨l.toArray⟩] w fun e w' => e = .returned (.bool B) ∧ Ext w w' := h ▸ rName_c l w hl
end Go.Proofs.YtmlkccmkdgfalaaGreatDoor.L8