/- The document's own answers on days of business, as contracts: no statement of the seat is proved here. -/
import Derived.Test.YtkkpnhcodaijeaaDoorBiz3
namespace Go.Proofs.YtkkpnhcodaijeaaDoor
open Go.RowKit
set_option linter.unusedVariables false

theorem Right_nil (a : Option Addr) (c : Nat) (w : World) :
    Calls Tryd.prog 11 #[.slice a 0 c] w fun e w' => e = .returned (.bool true) ∧ w' = w := by
  go_enter Tryd.func11, Tryd.ntmps11
  go_wp2_with fail
  refine wp_loop_rounds 1 ?_
  rw [rounds_succ]
  go_wp2
  go_ret
  exact ⟨rfl, rfl⟩
theorem Right_c (b off c : Nat) (l : List Int) (w : World) (hl : l.length ≤ 1000) (hc : ∀ (k : Nat) (v : Int), l[k]? = some v → w.cell? ⟨b, off + k, none⟩ = some (.int .i64 v)) :
    Calls Tryd.prog 11 #[.slice (some ⟨b, off, none⟩) l.length c] w fun e w' => e = .returned (.bool (rgt l)) ∧ Ext w w' := by
  have hG : Hid (rgt l = (rsg (-25568) l && decide (l.length ≤ 200))) := rfl
  replace hc := show Hid _ from hc
  obtain ⟨n, hn⟩ : ∃ n, l.length = n := ⟨_, rfl⟩
  rw [hn]
  rw [hn] at hl hG
  replace hn := show Hid _ from hn
  go_enter Tryd.func11, Tryd.ntmps11
  go_wp2_with fail
  go_loopw [3] (fun i wr => ∃ (k : Nat) (A : Int), k ≤ n ∧ i = .int .i64 k ∧ -25568 ≤ A ∧ Hid (k = 0 ∧ A = -25568 ∨ ∃ m, k = m + 1 ∧ l[m]? = some A) ∧ Hid (rsg (-25568) l = rsg A (l.drop k)) ∧ Hid (Ext w wr)) (fun i _ => n - (RowKit.intOf i).toNat)
  case atStart => exact ⟨0, -25568, Nat.zero_le _, rfl, by omega, Or.inl ⟨rfl, rfl⟩, rfl, Ext.refl _⟩
  case round =>
    obtain ⟨k, A, hk, rfl, hA0, hK, hA, hx⟩ := hrel
    by_cases hlt : k < n
    · obtain ⟨V, hV⟩ : ∃ V, l[k]? = some V := ⟨_, List.getElem?_eq_getElem (by have := hn.out; omega)⟩
      have k0 := hx.out.cell_of (hc.out _ _ hV)
      have hd := show Hid _ from drop_at hV
      have j0 := Late.cell k0
      have hlt' : (k : Int) < (n : Int) := by omega
      have hNe1 : Nonempty (Late wr) := ⟨⟨_, Ext.refl _⟩⟩
      replace hV := show Hid _ from hV
      cases hI : inD V
      · have hf : Hid (rgt l = false) := by
          show _ = _
          have := (inD_no V).1 hI
          rw [hG.out, hA.out, hd.out, rsg_no (by omega)]; rfl
        have hIs : Hid (∀ w : World, Calls Tryd.prog 22 #[.int .i64 V] w fun e w' => e = .returned (.bool false) ∧ w' = w) := fun w => by have := Is_c V w; rwa [hI] at this
        clear hA hd hK hV hG
        go_wp2_with fail
        refine wp_region_late (by kernel_rfl) (by kernel_rfl) ?_
        repeat (go_big_quiet_step ((first
          | (go_at_call 22; exact late_same (hIs.out _)))))
        refine wpQuiet_nil ?_
        intro W1 hw'
        replace hx : Hid (Ext w W1) := hx.out.trans (late_ext hw')
        clear hw' j0 k0
        go_wp2
        go_ret
        exact ⟨ret_bool hf.out.symm, hx.out⟩
      · have hIs : Hid (∀ w : World, Calls Tryd.prog 22 #[.int .i64 V] w fun e w' => e = .returned (.bool true) ∧ w' = w) := fun w => by have := Is_c V w; rwa [hI] at this
        obtain ⟨v1, v2⟩ := (inD_iff V).1 hI
        rcases hK.out with ⟨hk0, rfl⟩ | ⟨m, rfl, hm⟩
        · have hf : Hid (rsg (-25568) l = rsg V (l.drop (k + 1))) := by
            show _ = _
            rw [hA.out, hd.out, rsg_yes (by omega) (by omega)]
          have hz : decide (0 < k) = false := decide_eq_false (by omega)
          replace hk0 := show Hid _ from hk0
          clear hA hd hK
          go_wp2_with fail
          refine wp_region_late (by kernel_rfl) (by kernel_rfl) ?_
          repeat (go_big_quiet_step ((first
            | (go_at_call 22; exact late_same (hIs.out _)))))
          refine wpQuiet_nil ?_
          intro W1 hw'
          replace hx : Hid (Ext w W1) := hx.out.trans (late_ext hw')
          clear hw' j0 k0
          go_wp2
          go_roundw
          case rel => exact ⟨k + 1, V, by omega, by go_num, by omega, Or.inr ⟨k, rfl, hV.out⟩, hf, hx⟩
          case measure => simp [intOf]; omega
        · have k1 := hx.out.cell_of (hc.out _ _ hm)
          have j1 := Late.cell k1
          by_cases hle : V ≤ A
          · have hdd : decide (V ≤ A) = true := decide_eq_true hle
            have hf : Hid (rgt l = false) := by
              show _ = _
              rw [hG.out, hA.out, hd.out, rsg_no (by omega)]; rfl
            clear hA hd hK hG
            go_wp2_with fail
            refine wp_region_late (by kernel_rfl) (by kernel_rfl) ?_
            repeat (go_big_quiet_step ((first
              | (go_at_call 22; exact late_same (hIs.out _)))))
            refine wpQuiet_nil ?_
            intro W1 hw'
            replace hx : Hid (Ext w W1) := hx.out.trans (late_ext hw')
            clear hw' j0 k0 j1 k1
            go_wp2
            go_ret
            exact ⟨ret_bool hf.out.symm, hx.out⟩
          · have hdd : decide (V ≤ A) = false := decide_eq_false hle
            have hf : Hid (rsg (-25568) l = rsg V (l.drop (m + 1 + 1))) := by
              show _ = _
              rw [hA.out, hd.out, rsg_yes (by omega) (by omega)]
            clear hA hd hK
            go_wp2_with fail
            refine wp_region_late (by kernel_rfl) (by kernel_rfl) ?_
            repeat (go_big_quiet_step ((first
              | (go_at_call 22; exact late_same (hIs.out _)))))
            refine wpQuiet_nil ?_
            intro W1 hw'
            replace hx : Hid (Ext w W1) := hx.out.trans (late_ext hw')
            clear hw' j0 k0 j1 k1
            go_wp2
            go_roundw
            case rel => exact ⟨m + 1 + 1, V, by omega, by go_num, by omega, Or.inr ⟨m + 1, rfl, hV.out⟩, hf, hx⟩
            case measure => simp [intOf]; omega
    · obtain rfl : k = n := by omega
      have hf : Hid (rgt l = decide ((k : Int) ≤ 200)) := by
        show _ = _
        rw [hG.out, hA.out, drop_end (by have := hn.out; omega)]
        by_cases h : k ≤ 200
        · rw [decide_eq_true h, decide_eq_true (by omega)]; rfl
        · rw [decide_eq_false h, decide_eq_false (by omega)]; rfl
      clear hA hK hG
      go_wp2
      go_ret
      exact ⟨ret_bool hf.out.symm, hx.out⟩
theorem In_nil (a : Option Addr) (c : Nat) (x : Int) (w : World) :
    Calls Tryd.prog 31 #[.slice a 0 c, .int .i64 x] w fun e w' => e = .returned (.bool false) ∧ w' = w := by
  go_enter Tryd.func31, Tryd.ntmps31
  go_wp2_with fail
  refine wp_loop_rounds 1 ?_
  rw [rounds_succ]
  go_wp2
  go_ret
  exact ⟨rfl, rfl⟩
theorem In_x (b off c : Nat) (l : List Int) (x : Int) (w : World) (hl : l.length ≤ 1000) (hc : ∀ (k : Nat) (v : Int), l[k]? = some v → w.cell? ⟨b, off + k, none⟩ = some (.int .i64 v)) :
    Calls Tryd.prog 31 #[.slice (some ⟨b, off, none⟩) l.length c, .int .i64 x] w fun e w' => e = .returned (.bool (decide (x ∈ l))) ∧ w' = w := by
  replace hc := show Hid _ from hc
  obtain ⟨n, hn⟩ : ∃ n, l.length = n := ⟨_, rfl⟩
  rw [hn]
  rw [hn] at hl
  replace hn := show Hid _ from hn
  go_enter Tryd.func31, Tryd.ntmps31
  go_wp2_with fail
  go_loop [5] (fun i => ∃ k : Nat, k ≤ n ∧ i = .int .i64 k ∧ Hid (decide (x ∈ l) = decide (x ∈ l.drop k))) (fun i => n - (RowKit.intOf i).toNat)
  case atStart => exact ⟨0, Nat.zero_le _, rfl, rfl⟩
  case round =>
    obtain ⟨k, hk, rfl, hA⟩ := hrel
    by_cases hlt : k < n
    · obtain ⟨V, hV⟩ : ∃ V, l[k]? = some V := ⟨_, List.getElem?_eq_getElem (by have := hn.out; omega)⟩
      have hcell := hc.out _ _ hV
      have hd := show Hid _ from drop_at hV
      clear hV
      by_cases h1 : V = x
      · subst h1
        have hf : Hid (decide (V ∈ l) = true) := by show _ = _; rw [hA.out, hd.out]; simp
        clear hA hd
        go_wp2
        go_ret
        exact ⟨ret_bool hf.out.symm, rfl⟩
      · have hb : (V == x) = false := by simpa using h1
        have hf : Hid (decide (x ∈ l) = decide (x ∈ l.drop (k + 1))) := by
          show _ = _
          rw [hA.out, hd.out]
          have h1' : ¬ x = V := fun e => h1 e.symm
          simp [h1']
        clear hA hd
        go_wp2
        go_round
        case rel => exact ⟨k + 1, by omega, by go_num, hf⟩
        case measure => simp [RowKit.intOf]; omega
    · obtain rfl : k = n := by omega
      have hf : Hid (decide (x ∈ l) = false) := by show _ = _; rw [hA.out, drop_end (by have := hn.out; omega)]; simp
      clear hA
      go_wp2
      go_ret
      exact ⟨ret_bool hf.out.symm, rfl⟩
theorem In_c (v : Value) (l : List Int) (x : Int) (w : World) (hl : l.length ≤ 1000) (hv : Slc w v l) :
    Calls Tryd.prog 31 #[v, .int .i64 x] w fun e w' => e = .returned (.bool (decide (x ∈ l))) ∧ w' = w := by
  rcases hv with ⟨a, c, rfl, _, rfl⟩ | ⟨b, off, c, rfl, hc⟩
  · exact In_nil a c x w
  · exact In_x b off c l x w hl hc
theorem Right_ok (v : Value) (l : List Int) (w : World) (hl : l.length ≤ 1000) (hv : Slc w v l) :
    Calls Tryd.prog 11 #[v] w fun e w' => e = .returned (.bool (rgt l)) ∧ Ext w w' := by
  rcases hv with ⟨a, c, rfl, _, rfl⟩ | ⟨b, off, c, rfl, hc⟩
  · exact (Right_nil a c w).mono fun e w' h => ⟨h.1, by rw [h.2]; exact Ext.refl _⟩
  · exact Right_c b off c l w hl hc
end Go.Proofs.YtkkpnhcodaijeaaDoor
