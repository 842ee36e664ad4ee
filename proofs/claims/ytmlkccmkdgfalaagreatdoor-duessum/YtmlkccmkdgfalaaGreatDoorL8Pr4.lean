
/- Rows of numbers that came in, and what business.New, the library's search, and the document's Right and In answer, as contracts: no statement of the seat is proved here. -/
import Derived.Test.YtmlkccmkdgfalaaGreatDoorL8Pr3
import Derived.OwnWalk
import Derived.Laws.AppendOwn
import Derived.Laws.AppendOwnNone
import Derived.ProofKit
namespace Go.Proofs.YtmlkccmkdgfalaaGreatDoor.L8
open Go.RowKit
set_option linter.unusedVariables false

/-- A slice of these numbers: of none whatever its address, else cells. -/
def Slc (w : World) (v : Value) (l : List Int) : Prop :=
  (∃ a c, v = .slice a 0 c ∧ (a = none → c = 0) ∧ l = []) ∨ ∃ b off c, v = .slice (some ⟨b, off, none⟩) l.length c ∧ ∀ (k : Nat) (x : Int), l[k]? = some x → w.cell? ⟨b, off + k, none⟩ = some (.int .i64 x)
theorem Slc.ext {w w' : World} {v : Value} {l : List Int} (h : Slc w v l) (hx : Ext w w') : Slc w' v l := by
  rcases h with h | ⟨b, off, c, e, hc⟩
  · exact Or.inl h
  · exact Or.inr ⟨b, off, c, e, fun k v hk => hx.cell_of (hc k v hk)⟩
theorem Slc.len {w : World} {v : Value} {l : List Int} (h : Slc w v l) : ∃ a c, v = .slice a l.length c := by
  rcases h with ⟨a, c, rfl, _, rfl⟩ | ⟨b, off, c, rfl, _⟩
  · exact ⟨_, _, rfl⟩
  · exact ⟨_, _, rfl⟩
theorem Is_c (n : Int) (w : World) :
    Calls Tryz.prog 18 #[.int .i64 n] w fun e w' => e = .returned (.bool (inD n)) ∧ w' = w := by
  unfold inD
  cases h1 : decide (-25567 ≤ n) <;> cases h2 : decide (n ≤ 84370)
  all_goals
    go_enter Tryz.func18, Tryz.ntmps18
    go_wp2
    go_ret
    exact ⟨rfl, rfl⟩
theorem info_int : (Tryz.prog.info? 3).map (fun i => (i.zero, i.size, i.bytes)) = some (some (.int .i64 0), 1, 8) := by kernel_rfl
theorem rising_nil (a : Option Addr) (c : Nat) (w : World) :
    Calls Tryz.prog 65 #[.slice a 0 c] w fun e w' => e = .returned (.bool true) ∧ w' = w := by
  go_enter Tryz.func65, Tryz.ntmps65
  go_wp2_with fail
  refine wp_loop_rounds 1 ?_
  rw [rounds_succ]
  go_wp2
  go_ret
  exact ⟨rfl, rfl⟩
theorem rising_c (b off c : Nat) (l : List Int) (w : World) (hl : l.length ≤ 9223372036854775807) (hc : ∀ (k : Nat) (v : Int), l[k]? = some v → w.cell? ⟨b, off + k, none⟩ = some (.int .i64 v)) :
    Calls Tryz.prog 65 #[.slice (some ⟨b, off, none⟩) l.length c] w fun e w' => e = .returned (.bool (rsg (-25568) l)) ∧ w' = w := by
  replace hc := show Hid _ from hc
  obtain ⟨n, hn⟩ : ∃ n, l.length = n := ⟨_, rfl⟩
  rw [hn]
  rw [hn] at hl
  replace hn := show Hid _ from hn
  go_enter Tryz.func65, Tryz.ntmps65
  go_wp2_with fail
  go_loop [3, 8] (fun u i => ∃ (k : Nat) (A : Int), k ≤ n ∧ i = .int .i64 k ∧ u = .int .i64 A ∧ Hid (rsg (-25568) l = rsg A (l.drop k))) (fun _ i => n - (RowKit.intOf i).toNat)
  case atStart => exact ⟨0, -25568, Nat.zero_le _, rfl, rfl, rfl⟩
  case round =>
    obtain ⟨k, A, hk, rfl, rfl, hA⟩ := hrel
    by_cases hlt : k < n
    · obtain ⟨V, hV⟩ : ∃ V, l[k]? = some V := ⟨_, List.getElem?_eq_getElem (by have := hn.out; omega)⟩
      have hcell := hc.out _ _ hV
      have hd := show Hid _ from drop_at hV
      clear hV
      by_cases h1 : V ≤ A
      · have hf : Hid (rsg (-25568) l = false) := by show _ = _; rw [hA.out, hd.out]; exact rsg_no (Or.inl h1)
        clear hA hd
        go_wp2
        go_ret
        exact ⟨ret_bool hf.out.symm, rfl⟩
      · by_cases h2 : 84370 < V
        · have hf : Hid (rsg (-25568) l = false) := by show _ = _; rw [hA.out, hd.out]; exact rsg_no (Or.inr h2)
          clear hA hd
          go_wp2
          go_ret
          exact ⟨ret_bool hf.out.symm, rfl⟩
        · have hf : Hid (rsg (-25568) l = rsg V (l.drop (k + 1))) := by show _ = _; rw [hA.out, hd.out]; exact rsg_yes (by omega) (by omega)
          clear hA hd
          go_wp2
          go_round
          case rel => exact ⟨k + 1, V, by omega, by go_num, rfl, hf⟩
          case measure => simp [RowKit.intOf]; omega
    · obtain rfl : k = n := by omega
      have hf : Hid (rsg (-25568) l = true) := by show _ = _; rw [hA.out, drop_end (by have := hn.out; omega)]; rfl
      clear hA
      go_wp2
      go_ret
      exact ⟨ret_bool hf.out.symm, rfl⟩
theorem New_no (v : Value) (l : List Int) (w : World) (hv : Slc w v l) (hl : l.length ≤ 9223372036854775807) (hr : rgt l = false) :
    Calls Tryz.prog 46 #[v] w fun e w' => e = .returned (.tuple #[.pointer none, .int .i64 1]) ∧ w' = w := by
  rcases hv with ⟨a, c, rfl, _, rfl⟩ | ⟨b, off, c, rfl, hc⟩
  · exact absurd hr (by decide)
  · by_cases h2 : 200 < l.length
    · generalize l.length = n at *
      clear hr hc
      have h3 : (200 : Int) < (n : Int) := by omega
      go_enter Tryz.func46, Tryz.ntmps46
      go_wp2
      go_ret2
      exact ⟨rfl, rfl⟩
    · have hR : Hid (Calls Tryz.prog 65 #[.slice (some ⟨b, off, none⟩) l.length c] w fun e w' => e = .returned (.bool false) ∧ w' = w) := by
        have := rising_c b off c l w (by omega) hc
        rwa [show rsg (-25568) l = false by
          unfold rgt at hr
          rw [decide_eq_true (show l.length ≤ 200 by omega)] at hr
          simpa using hr] at this
      clear hc hr
      generalize l.length = n at *
      have h3 : ¬ (200 : Int) < (n : Int) := by omega
      go_enter Tryz.func46, Tryz.ntmps46
      go_wp2_with (go_at_call 65; refine Calls.mono hR.out ?_; rintro e w' ⟨rfl, rfl⟩)
      go_ret2
      exact ⟨rfl, rfl⟩
theorem own_slice {w : World} {B : Nat} {e : TypeId} {z : Nat} {v : Value} {n : Nat} {xs : List Value} (h : w.ownsRow B e z v n xs) : ∃ ao k c, v = .slice ao k c := by
  rcases h.2 with ⟨rfl, _⟩ | ⟨g, c, cur, rfl, _⟩
  · exact ⟨_, _, _, rfl⟩
  · exact ⟨_, _, _, rfl⟩
theorem New_x (b off c : Nat) (l : List Int) (w : World) (hl : l.length ≤ 200) (hc : ∀ (k : Nat) (v : Int), l[k]? = some v → w.cell? ⟨b, off + k, none⟩ = some (.int .i64 v)) (hr : rgt l = true) :
    Calls Tryz.prog 46 #[.slice (some ⟨b, off, none⟩) l.length c] w fun e w' => (∃ p, e = .returned (.tuple #[p, .int .i64 0])) ∧ Ext w w' := by
  have hR : Hid (∀ w : World, (∀ (k : Nat) (v : Int), l[k]? = some v → w.cell? ⟨b, off + k, none⟩ = some (.int .i64 v)) → Calls Tryz.prog 65 #[.slice (some ⟨b, off, none⟩) l.length c] w fun e w' => e = .returned (.bool true) ∧ w' = w) := fun w hc => by
    have := rising_c b off c l w (by omega) hc
    rwa [show rsg (-25568) l = true by
      unfold rgt at hr
      simp only [Bool.and_eq_true] at hr
      exact hr.1] at this
  replace hr := show Hid _ from hr
  replace hc := show Hid _ from hc
  obtain ⟨i0, hi, hz0, hz1, hz2⟩ := info_parts info_int
  obtain ⟨n, hn⟩ : ∃ n, l.length = n := ⟨_, rfl⟩
  rw [hn] at hl ⊢
  rw [hn] at hR
  replace hn := show Hid _ from hn
  have h3 : ¬ (200 : Int) < (n : Int) := by omega
  go_enter Tryz.func46, Tryz.ntmps46
  go_wp2_with (first
    | (go_at_call 65; refine Calls.mono (hR.out _ hc.out) ?_; rintro e wa ⟨rfl, rfl⟩)
    | (at_builtin; refine wpList_append_own _ rfl (.tmp 12) (.tmp 13) 25 rfl wa.heap.size 3 i0 (.int .i64 0) 1 8 Tryz.underlying25 hi hz0 hz1 hz2 rfl (by decide) _ _ _ rfl (World.ownsRow_made wa #[] 0 (Nat.le_refl _) (by decide) rfl) ⟨b, off, none⟩ n c (l.map (.int .i64)) rfl ?c0 ?c1 ?c2 ?c3 ?c4 ?c5 ?_))
  case c0 => simp; exact hn.out
  case c1 =>
    intro j u hj
    simp at hj
    obtain ⟨x, hx, rfl⟩ := hj
    rw [Addr.add_lit]
    exact ((Ext.refl wa).alloc #[] 3).cell_of (hc.out j x hx)
  case c2 => intro u hu; simp at hu; obtain ⟨x, _, rfl⟩ := hu; rfl
  case c3 => unfold maxLen; omega
  case c4 => omega
  case c5 => simp
  intro v' w3 hown' hgrow _
  have hx3 : Hid (Ext wa w3) := ⟨(((Ext.refl wa).alloc _ _).below).grown hgrow (by simp) (fun k hk => by injection hk with hk; subst hk; exact Nat.le_refl _)⟩
  have hr3 : Hid (w3.ownsRow wa.heap.size 3 1 v' l.length (l.map (.int .i64))) := by
    show w3.ownsRow _ _ _ _ _ _
    have := hn.out
    rw [hn.out]; simpa using hown'
  clear hown' hgrow hi hz0 hz1 hz2
  obtain ⟨ao, n', c', rfl⟩ := own_slice hr3.out
  go_wp2
  go_ret2
  exact ⟨⟨_, rfl⟩, hx3.out.alloc _ _⟩
theorem New_y (ad : Addr) (c : Nat) (w : World) :
    Calls Tryz.prog 46 #[.slice (some ad) 0 c] w fun e w' => (∃ p, e = .returned (.tuple #[p, .int .i64 0])) ∧ Ext w w' := by
  obtain ⟨i0, hi, hz0, hz1, hz2⟩ := info_parts info_int
  go_enter Tryz.func46, Tryz.ntmps46
  go_wp2_with (first
    | (go_at_call 65; refine Calls.mono (rising_nil _ _ _) ?_; rintro e wa ⟨rfl, rfl⟩)
    | (at_builtin; refine wpList_append_own _ rfl (.tmp 12) (.tmp 13) 25 rfl wa.heap.size 3 i0 (.int .i64 0) 1 8 Tryz.underlying25 hi hz0 hz1 hz2 rfl (by decide) _ _ _ rfl (World.ownsRow_made wa #[] 0 (Nat.le_refl _) (by decide) rfl) ad 0 c [] rfl rfl (fun j u hj => by simp at hj) (fun u hu => by cases hu) (by decide) (by decide) (by simp) ?_))
  intro v' w3 hown' hgrow _
  have hx3 : Hid (Ext wa w3) := ⟨(((Ext.refl wa).alloc _ _).below).grown hgrow (by simp) (fun k hk => by injection hk with hk; subst hk; exact Nat.le_refl _)⟩
  have hr3 : Hid (w3.ownsRow wa.heap.size 3 1 v' 0 []) := by
    show w3.ownsRow _ _ _ _ _ _
    simpa using hown'
  clear hown' hgrow hi hz0 hz1 hz2
  obtain ⟨ao, n', c', rfl⟩ := own_slice hr3.out
  go_wp2
  go_ret2
  exact ⟨⟨_, rfl⟩, hx3.out.alloc _ _⟩
theorem New_z (w : World) :
    Calls Tryz.prog 46 #[.slice none 0 0] w fun e w' => (∃ p, e = .returned (.tuple #[p, .int .i64 0])) ∧ Ext w w' := by
  obtain ⟨i0, hi, hz0, hz1, hz2⟩ := info_parts info_int
  go_enter Tryz.func46, Tryz.ntmps46
  go_wp2_with (first
    | (go_at_call 65; refine Calls.mono (rising_nil _ _ _) ?_; rintro e wa ⟨rfl, rfl⟩)
    | (at_builtin; refine wpList_append_own_none rfl (.tmp 12) (.tmp 13) 25 rfl wa.heap.size 3 i0 1 Tryz.underlying25 hi _ _ _ rfl (World.ownsRow_made wa #[] 0 (Nat.le_refl _) (by decide) rfl) rfl ?_))
  go_ret2
  exact ⟨⟨_, rfl⟩, ((Ext.refl _).alloc _ _).alloc _ _⟩
theorem New_ok (v : Value) (l : List Int) (w : World) (hv : Slc w v l) (hr : rgt l = true) :
    Calls Tryz.prog 46 #[v] w fun e w' => (∃ p, e = .returned (.tuple #[p, .int .i64 0])) ∧ Ext w w' := by
  rcases hv with ⟨a, c, rfl, hn, rfl⟩ | ⟨b, off, c, rfl, hc⟩
  · cases a with
    | none => rw [hn rfl]; exact New_z w
    | some ad => exact New_y ad c w
  · exact New_x b off c l w (rgt_len hr) hc hr
theorem Right_nil (a : Option Addr) (c : Nat) (w : World) :
    Calls Tryz.prog 7 #[.slice a 0 c] w fun e w' => e = .returned (.bool true) ∧ w' = w := by
  go_enter Tryz.func7, Tryz.ntmps7
  go_wp2_with fail
  refine wp_loop_rounds 1 ?_
  rw [rounds_succ]
  go_wp2
  go_ret
  exact ⟨rfl, rfl⟩
theorem Right_c (b off c : Nat) (l : List Int) (w : World) (hl : l.length ≤ 9223372036854775807) (hc : ∀ (k : Nat) (v : Int), l[k]? = some v → w.cell? ⟨b, off + k, none⟩ = some (.int .i64 v)) :
    Calls Tryz.prog 7 #[.slice (some ⟨b, off, none⟩) l.length c] w fun e w' => e = .returned (.bool (rgt l)) ∧ Ext w w' := by
  have hG : Hid (rgt l = (rsg (-25568) l && decide (l.length ≤ 200))) := rfl
  replace hc := show Hid _ from hc
  obtain ⟨n, hn⟩ : ∃ n, l.length = n := ⟨_, rfl⟩
  rw [hn]
  rw [hn] at hl hG
  replace hn := show Hid _ from hn
  go_enter Tryz.func7, Tryz.ntmps7
  go_wp2_with fail
  go_loopw [3] (fun i wr => ∃ (k : Nat) (A : Int), k ≤ n ∧ i = .int .i64 k ∧ -25568 ≤ A ∧ Hid (k = 0 ∧ A = -25568 ∨ ∃ m, k = m + 1 ∧ l[m]? = some A) ∧ Hid (rsg (-25568) l = rsg A (l.drop k)) ∧ Hid (Ext w wr)) (fun i _ => n - (RowKit.intOf i).toNat)
  case atStart => exact ⟨0, -25568, Nat.zero_le _, rfl, by omega, Or.inl ⟨rfl, rfl⟩, rfl, Ext.refl _⟩
  case round =>
    obtain ⟨k, A, hk, rfl, hA0, hK, hA, hx⟩ := hrel
    by_cases hlt : k < n
    · obtain ⟨V, hV⟩ : ∃ V, l[k]? = some V := ⟨_, List.getElem?_eq_getElem (by have := hn.out; omega)⟩
      have k0 := hx.out.cell_of (hc.out _ _ hV)
      have hd := show Hid _ from drop_at hV
      have j0 := Late.cell k0
      have hlt' : (k : Int) < (n : Int) := by omega
      have hNe1 : Nonempty (Late wr) := ⟨⟨_, Ext.refl _⟩⟩
      replace hV := show Hid _ from hV
      cases hI : inD V
      · have hf : Hid (rgt l = false) := by
          show _ = _
          have := (inD_no V).1 hI
          rw [hG.out, hA.out, hd.out, rsg_no (by omega)]; rfl
        have hIs : Hid (∀ w : World, Calls Tryz.prog 18 #[.int .i64 V] w fun e w' => e = .returned (.bool false) ∧ w' = w) := fun w => by have := Is_c V w; rwa [hI] at this
        clear hA hd hK hV hG
        go_wp2_with fail
        refine wp_region_late (by kernel_rfl) (by kernel_rfl) ?_
        repeat (go_big_quiet_step ((first
          | (go_at_call 18; exact late_same (hIs.out _)))))
        refine wpQuiet_nil ?_
        intro W1 hw'
        replace hx : Hid (Ext w W1) := hx.out.trans (late_ext hw')
        clear hw' j0 k0
        go_wp2
        go_ret
        exact ⟨ret_bool hf.out.symm, hx.out⟩
      · have hIs : Hid (∀ w : World, Calls Tryz.prog 18 #[.int .i64 V] w fun e w' => e = .returned (.bool true) ∧ w' = w) := fun w => by have := Is_c V w; rwa [hI] at this
        obtain ⟨v1, v2⟩ := (inD_iff V).1 hI
        rcases hK.out with ⟨hk0, rfl⟩ | ⟨m, rfl, hm⟩
        · have hf : Hid (rsg (-25568) l = rsg V (l.drop (k + 1))) := by
            show _ = _
            rw [hA.out, hd.out, rsg_yes (by omega) (by omega)]
          have hz : decide (0 < k) = false := decide_eq_false (by omega)
          replace hk0 := show Hid _ from hk0
          clear hA hd hK
          go_wp2_with fail
          refine wp_region_late (by kernel_rfl) (by kernel_rfl) ?_
          repeat (go_big_quiet_step ((first
            | (go_at_call 18; exact late_same (hIs.out _)))))
          refine wpQuiet_nil ?_
          intro W1 hw'
          replace hx : Hid (Ext w W1) := hx.out.trans (late_ext hw')
          clear hw' j0 k0
          go_wp2
          go_roundw
          case rel => exact ⟨k + 1, V, by omega, by go_num, by omega, Or.inr ⟨k, rfl, hV.out⟩, hf, hx⟩
          case measure => simp [intOf]; omega
        · have k1 := hx.out.cell_of (hc.out _ _ hm)
          have j1 := Late.cell k1
          by_cases hle : V ≤ A
          · have hdd : decide (V ≤ A) = true := decide_eq_true hle
            have hf : Hid (rgt l = false) := by
              show _ = _
              rw [hG.out, hA.out, hd.out, rsg_no (by omega)]; rfl
            clear hA hd hK hG
            go_wp2_with fail
            refine wp_region_late (by kernel_rfl) (by kernel_rfl) ?_
            repeat (go_big_quiet_step ((first
              | (go_at_call 18; exact late_same (hIs.out _)))))
            refine wpQuiet_nil ?_
            intro W1 hw'
            replace hx : Hid (Ext w W1) := hx.out.trans (late_ext hw')
            clear hw' j0 k0 j1 k1
            go_wp2
            go_ret
            exact ⟨ret_bool hf.out.symm, hx.out⟩
          · have hdd : decide (V ≤ A) = false := decide_eq_false hle
            have hf : Hid (rsg (-25568) l = rsg V (l.drop (m + 1 + 1))) := by
              show _ = _
              rw [hA.out, hd.out, rsg_yes (by omega) (by omega)]
            clear hA hd hK
            go_wp2_with fail
            refine wp_region_late (by kernel_rfl) (by kernel_rfl) ?_
            repeat (go_big_quiet_step ((first
              | (go_at_call 18; exact late_same (hIs.out _)))))
            refine wpQuiet_nil ?_
            intro W1 hw'
            replace hx : Hid (Ext w W1) := hx.out.trans (late_ext hw')
            clear hw' j0 k0 j1 k1
            go_wp2
            go_roundw
            case rel => exact ⟨m + 1 + 1, V, by omega, by go_num, by omega, Or.inr ⟨m + 1, rfl, hV.out⟩, hf, hx⟩
            case measure => simp [intOf]; omega
    · obtain rfl : k = n := by omega
      have hf : Hid (rgt l = decide ((k : Int) ≤ 200)) := by
        show _ = _
        rw [hG.out, hA.out, drop_end (by have := hn.out; omega)]
        by_cases h : k ≤ 200
        · rw [decide_eq_true h, decide_eq_true (by omega)]; rfl
        · rw [decide_eq_false h, decide_eq_false (by omega)]; rfl
      clear hA hK hG
      go_wp2
      go_ret
      exact ⟨ret_bool hf.out.symm, hx.out⟩
theorem In_nil (a : Option Addr) (c : Nat) (x : Int) (w : World) :
    Calls Tryz.prog 32 #[.slice a 0 c, .int .i64 x] w fun e w' => e = .returned (.bool false) ∧ w' = w := by
  go_enter Tryz.func32, Tryz.ntmps32
  go_wp2_with fail
  refine wp_loop_rounds 1 ?_
  rw [rounds_succ]
  go_wp2
  go_ret
  exact ⟨rfl, rfl⟩
theorem In_x (b off c : Nat) (l : List Int) (x : Int) (w : World) (hl : l.length ≤ 9223372036854775807) (hc : ∀ (k : Nat) (v : Int), l[k]? = some v → w.cell? ⟨b, off + k, none⟩ = some (.int .i64 v)) :
    Calls Tryz.prog 32 #[.slice (some ⟨b, off, none⟩) l.length c, .int .i64 x] w fun e w' => e = .returned (.bool (decide (x ∈ l))) ∧ w' = w := by
  replace hc := show Hid _ from hc
  obtain ⟨n, hn⟩ : ∃ n, l.length = n := ⟨_, rfl⟩
  rw [hn]
  rw [hn] at hl
  replace hn := show Hid _ from hn
  go_enter Tryz.func32, Tryz.ntmps32
  go_wp2_with fail
  go_loop [5] (fun i => ∃ k : Nat, k ≤ n ∧ i = .int .i64 k ∧ Hid (decide (x ∈ l) = decide (x ∈ l.drop k))) (fun i => n - (RowKit.intOf i).toNat)
  case atStart => exact ⟨0, Nat.zero_le _, rfl, rfl⟩
  case round =>
    obtain ⟨k, hk, rfl, hA⟩ := hrel
    by_cases hlt : k < n
    · obtain ⟨V, hV⟩ : ∃ V, l[k]? = some V := ⟨_, List.getElem?_eq_getElem (by have := hn.out; omega)⟩
      have hcell := hc.out _ _ hV
      have hd := show Hid _ from drop_at hV
      clear hV
      by_cases h1 : V = x
      · subst h1
        have hf : Hid (decide (V ∈ l) = true) := by show _ = _; rw [hA.out, hd.out]; simp
        clear hA hd
        go_wp2
        go_ret
        exact ⟨ret_bool hf.out.symm, rfl⟩
      · have hb : (V == x) = false := by simpa using h1
        have hf : Hid (decide (x ∈ l) = decide (x ∈ l.drop (k + 1))) := by
          show _ = _
          rw [hA.out, hd.out]
          have h1' : ¬ x = V := fun e => h1 e.symm
          simp [h1']
        clear hA hd
        go_wp2
        go_round
        case rel => exact ⟨k + 1, by omega, by go_num, hf⟩
        case measure => simp [RowKit.intOf]; omega
    · obtain rfl : k = n := by omega
      have hf : Hid (decide (x ∈ l) = false) := by show _ = _; rw [hA.out, drop_end (by have := hn.out; omega)]; simp
      clear hA
      go_wp2
      go_ret
      exact ⟨ret_bool hf.out.symm, rfl⟩
theorem In_c (v : Value) (l : List Int) (x : Int) (w : World) (hl : l.length ≤ 9223372036854775807) (hv : Slc w v l) :
    Calls Tryz.prog 32 #[v, .int .i64 x] w fun e w' => e = .returned (.bool (decide (x ∈ l))) ∧ w' = w := by
  rcases hv with ⟨a, c, rfl, _, rfl⟩ | ⟨b, off, c, rfl, hc⟩
  · exact In_nil a c x w
  · exact In_x b off c l x w hl hc
theorem Right_ok (v : Value) (l : List Int) (w : World) (hl : l.length ≤ 9223372036854775807) (hv : Slc w v l) :
    Calls Tryz.prog 7 #[v] w fun e w' => e = .returned (.bool (rgt l)) ∧ Ext w w' := by
  rcases hv with ⟨a, c, rfl, _, rfl⟩ | ⟨b, off, c, rfl, hc⟩
  · exact (Right_nil a c w).mono fun e w' h => ⟨h.1, by rw [h.2]; exact Ext.refl _⟩
  · exact Right_c b off c l w hl hc
theorem In_y (v : Value) (l : List Int) (x : Int) (B : Bool) (h : decide (x ∈ l) = B) (w : World) (hl : l.length ≤ 9223372036854775807) (hv : Slc w v l) :
    Calls Tryz.prog 32 #[v, .int .i64 x] w fun e w' => e = .returned (.bool B) ∧ w' = w := h ▸ In_c v l x w hl hv
theorem idx_c (b off c : Nat) (l : List Int) (x : Int) (w : World) (hl : l.length ≤ 9223372036854775807) (hc : ∀ (k : Nat) (v : Int), l[k]? = some v → w.cell? ⟨b, off + k, none⟩ = some (.int .i64 v)) :
    Calls Tryz.prog 121 #[.slice (some ⟨b, off, none⟩) l.length c, .int .i64 x] w fun e w' => (∃ i, e = .returned (.int .i64 i) ∧ decide (0 ≤ i) = decide (x ∈ l)) ∧ w' = w := by
  replace hc := show Hid _ from hc
  obtain ⟨n, hn⟩ : ∃ n, l.length = n := ⟨_, rfl⟩
  rw [hn]
  rw [hn] at hl
  replace hn := show Hid _ from hn
  go_enter Tryz.func121, Tryz.ntmps121
  go_wp2_with fail
  go_loop [8] (fun i => ∃ k : Nat, k ≤ n ∧ i = .int .i64 k ∧ Hid (decide (x ∈ l) = decide (x ∈ l.drop k))) (fun i => n - (RowKit.intOf i).toNat)
  case atStart => exact ⟨0, Nat.zero_le _, rfl, rfl⟩
  case round =>
    obtain ⟨k, hk, rfl, hA⟩ := hrel
    by_cases hlt : k < n
    · obtain ⟨V, hV⟩ : ∃ V, l[k]? = some V := ⟨_, List.getElem?_eq_getElem (by have := hn.out; omega)⟩
      have hcell := hc.out _ _ hV
      have hd := show Hid _ from drop_at hV
      clear hV
      by_cases h1 : V = x
      · subst h1
        have hf : Hid (decide (V ∈ l) = true) := by show _ = _; rw [hA.out, hd.out]; simp
        clear hA hd
        go_wp2
        go_ret
        exact ⟨⟨_, rfl, by have := hf.out; simp at this; simp [this]⟩, rfl⟩
      · have hb : (x == V) = false := by simpa using fun e => h1 e.symm
        have hf : Hid (decide (x ∈ l) = decide (x ∈ l.drop (k + 1))) := by
          show _ = _
          rw [hA.out, hd.out]
          have h1' : ¬ x = V := fun e => h1 e.symm
          simp [h1']
        clear hA hd h1
        go_wp2
        go_round
        case rel => exact ⟨k + 1, by omega, by go_num, hf⟩
        case measure => simp [RowKit.intOf]; omega
    · obtain rfl : k = n := by omega
      have hf : Hid (decide (x ∈ l) = false) := by show _ = _; rw [hA.out, drop_end (by have := hn.out; omega)]; simp
      clear hA
      go_wp2
      go_ret
      exact ⟨⟨_, rfl, by have := hf.out; simp at this; simp [this]⟩, rfl⟩
theorem Contains_c (b off c : Nat) (l : List Int) (x : Int) (B : Bool) (h : decide (x ∈ l) = B) (w : World) (hl : l.length ≤ 9223372036854775807) (hc : ∀ (k : Nat) (v : Int), l[k]? = some v → w.cell? ⟨b, off + k, none⟩ = some (.int .i64 v)) :
    Calls Tryz.prog 109 #[.slice (some ⟨b, off, none⟩) l.length c, .int .i64 x] w fun e w' => e = .returned (.bool B) ∧ w' = w := by
  subst h
  have hI := idx_c b off c l x w hl hc
  replace hI := show Hid _ from hI
  clear hc
  go_enter Tryz.func109, Tryz.ntmps109
  go_wp2_with fail
  refine Calls.mono hI.out ?_
  rintro e w1 ⟨⟨i, rfl, hi⟩, rfl⟩
  replace hi := show Hid _ from hi
  go_wp2
  go_ret
  exact ⟨ret_bool hi.out, rfl⟩
end Go.Proofs.YtmlkccmkdgfalaaGreatDoor.L8