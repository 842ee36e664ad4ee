/- For every int what, of the project's tree at the commit that COMMIT names, GrammarLess returns true and leaves its argument as it was, with the listed variables laid as the program's text lays them. -/
import Derived.Test.YtlbodoggfbdnjaaGreatDoorM8
import Derived.Test.YtlbodoggfbdnjaaGreatDoorM13
namespace Go.Proofs.YtlbodoggfbdnjaaGreatDoor.grammarLess
open Go.ChangeShapes Go.WideShapes Go.ChangeAt Go.RowKit Go.Lib
set_option linter.unusedVariables false

theorem mod_of (a m : Int) (hm : 0 < m) : ∃ N : Nat, (IntKind.u64.wrap a).tmod m = (N : Int) ∧ (N : Int) < m := by
  have h0 : 0 ≤ IntKind.u64.wrap a := by
    unfold IntKind.wrap
    simp [IntKind.signed, IntKind.bits]
    omega
  have h1 : 0 ≤ (IntKind.u64.wrap a).tmod m := Int.tmod_nonneg _ h0
  have h2 : (IntKind.u64.wrap a).tmod m < m := Int.tmod_lt_of_pos _ hm
  exact ⟨((IntKind.u64.wrap a).tmod m).toNat, by omega, by omega⟩
theorem prod_no (w : World) : Calls Tryz.prog 12 #[.agg zP, .agg #[.string ⟨#[]⟩, .int .i64 0, .int .i64 0, .int .i64 0, .int .i64 0, .int .i64 0, .int .i64 0, .int .i64 0, .slice none 0 0, .int .i64 0, .int .i64 0, .int .i64 0, .int .i64 0, .int .i64 0, .int .i64 0, .slice none 0 0, .int .i64 0, .int .i64 0, .slice none 0 0]] w fun e w' => e = .returned (.bool true) ∧ Ext w w' := Prod_z w
theorem item_len (k : Nat) : (lessI.getD k []).length ≤ 50 := by
  match k with
  | 0 => decide
  | 1 => decide
  | 2 => decide
  | 3 => decide
  | 4 => decide
  | 5 => decide
  | 6 => decide
  | k + 7 => simp [lessI]
theorem lessS_len (N : Nat) : ∀ k, (lessS N k).length ≤ 12 + 51 * k
  | 0 => by show hdL.length ≤ _; decide
  | k + 1 => by
    have h1 := lessS_len N k
    have h2 := item_len k
    rw [lessS]
    split
    · omega
    · simp only [List.length_append, List.length_cons, List.length_nil]
      omega
theorem lay_lessI (w : World) : ∃ W b, w.alloc (.cells #[.string ⟨#[99, 111, 117, 110, 116, 32, 102, 105, 120, 101, 100, 59]⟩, .string ⟨#[114, 111, 117, 110, 100, 32, 100, 111, 119, 110, 59]⟩, .string ⟨#[107, 105, 110, 100, 32, 101, 113, 117, 97, 108, 59]⟩, .string ⟨#[101, 118, 101, 114, 121, 32, 51, 59]⟩, .string ⟨#[116, 105, 109, 101, 115, 32, 56, 59]⟩, .string ⟨#[114, 97, 116, 101, 32, 54, 46, 53, 37, 59]⟩, .string ⟨#[111, 114, 100, 101, 114, 32, 105, 110, 116, 101, 114, 101, 115, 116, 32, 102, 101, 101, 115, 32, 112, 114, 105, 110, 99, 105, 112, 97, 108, 32, 112, 101, 110, 97, 108, 116, 121, 59]⟩] 9) = W ∧ w.heap.size = b ∧ Ext w W ∧ ∀ (k : Nat) u, lessI[k]? = some u → W.cell? ⟨b, k, none⟩ = some (.string ⟨u.toArray⟩) := by
  refine ⟨_, _, rfl, rfl, (Ext.refl w).alloc _ _, fun k u hk => ?_⟩
  have hr := heap_alloc_last w (.cells #[.string ⟨#[99, 111, 117, 110, 116, 32, 102, 105, 120, 101, 100, 59]⟩, .string ⟨#[114, 111, 117, 110, 100, 32, 100, 111, 119, 110, 59]⟩, .string ⟨#[107, 105, 110, 100, 32, 101, 113, 117, 97, 108, 59]⟩, .string ⟨#[101, 118, 101, 114, 121, 32, 51, 59]⟩, .string ⟨#[116, 105, 109, 101, 115, 32, 56, 59]⟩, .string ⟨#[114, 97, 116, 101, 32, 54, 46, 53, 37, 59]⟩, .string ⟨#[111, 114, 100, 101, 114, 32, 105, 110, 116, 101, 114, 101, 115, 116, 32, 102, 101, 101, 115, 32, 112, 114, 105, 110, 99, 105, 112, 97, 108, 32, 112, 101, 110, 97, 108, 116, 121, 59]⟩] 9)
  refine (cell_of_row _ _ k _ _ _ hr).trans ?_
  unfold lessI at hk
  match k, hk with
  | 0, hk => simp at hk; subst hk; rfl
  | 1, hk => simp at hk; subst hk; rfl
  | 2, hk => simp at hk; subst hk; rfl
  | 3, hk => simp at hk; subst hk; rfl
  | 4, hk => simp at hk; subst hk; rfl
  | 5, hk => simp at hk; subst hk; rfl
  | 6, hk => simp at hk; subst hk; rfl
  | k + 7, hk => simp at hk
theorem lay_lessB (w : World) : ∃ W b, w.alloc (.cells #[.string ⟨#[99, 111, 117, 110, 116, 32, 102, 105, 120, 101, 100, 59]⟩, .string ⟨#[114, 111, 117, 110, 100, 32, 104, 97, 108, 102, 45, 101, 118, 101, 110, 59]⟩, .string ⟨#[116, 105, 109, 101, 115, 32, 48, 56, 59]⟩, .string ⟨#[103, 114, 97, 99, 101, 32, 49]⟩, .string ⟨#[112, 101, 110, 97, 108, 116, 121, 32, 53, 59]⟩, .string ⟨#[111, 114, 100, 101, 114, 32, 102, 101, 101, 115, 32, 102, 101, 101, 115, 32, 105, 110, 116, 101, 114, 101, 115, 116, 32, 112, 114, 105, 110, 99, 105, 112, 97, 108, 59]⟩, .string ⟨#[111, 118, 101, 114, 32, 105, 116, 59]⟩] 9) = W ∧ w.heap.size = b ∧ Ext w W ∧ ∀ (k : Nat) u, lessB[k]? = some u → W.cell? ⟨b, k, none⟩ = some (.string ⟨u.toArray⟩) := by
  refine ⟨_, _, rfl, rfl, (Ext.refl w).alloc _ _, fun k u hk => ?_⟩
  have hr := heap_alloc_last w (.cells #[.string ⟨#[99, 111, 117, 110, 116, 32, 102, 105, 120, 101, 100, 59]⟩, .string ⟨#[114, 111, 117, 110, 100, 32, 104, 97, 108, 102, 45, 101, 118, 101, 110, 59]⟩, .string ⟨#[116, 105, 109, 101, 115, 32, 48, 56, 59]⟩, .string ⟨#[103, 114, 97, 99, 101, 32, 49]⟩, .string ⟨#[112, 101, 110, 97, 108, 116, 121, 32, 53, 59]⟩, .string ⟨#[111, 114, 100, 101, 114, 32, 102, 101, 101, 115, 32, 102, 101, 101, 115, 32, 105, 110, 116, 101, 114, 101, 115, 116, 32, 112, 114, 105, 110, 99, 105, 112, 97, 108, 59]⟩, .string ⟨#[111, 118, 101, 114, 32, 105, 116, 59]⟩] 9)
  refine (cell_of_row _ _ k _ _ _ hr).trans ?_
  unfold lessB at hk
  match k, hk with
  | 0, hk => simp at hk; subst hk; rfl
  | 1, hk => simp at hk; subst hk; rfl
  | 2, hk => simp at hk; subst hk; rfl
  | 3, hk => simp at hk; subst hk; rfl
  | 4, hk => simp at hk; subst hk; rfl
  | 5, hk => simp at hk; subst hk; rfl
  | 6, hk => simp at hk; subst hk; rfl
  | k + 7, hk => simp at hk
theorem lay_lessC (w : World) : ∃ W b, w.alloc (.cells #[.string ⟨#[114, 111, 117, 110, 100, 32, 104, 97, 108, 102, 45, 101, 118, 101, 110, 59]⟩, .string ⟨#[116, 105, 109, 101, 115, 32, 48, 56, 59]⟩, .string ⟨#[]⟩, .string ⟨#[]⟩, .string ⟨#[111, 114, 100, 101, 114, 32, 102, 101, 101, 115, 32, 102, 101, 101, 115, 32, 105, 110, 116, 101, 114, 101, 115, 116, 32, 112, 114, 105, 110, 99, 105, 112, 97, 108, 59]⟩] 9) = W ∧ w.heap.size = b ∧ Ext w W ∧ ∀ (k : Nat) u, lessC[k]? = some u → W.cell? ⟨b, k, none⟩ = some (.string ⟨u.toArray⟩) := by
  refine ⟨_, _, rfl, rfl, (Ext.refl w).alloc _ _, fun k u hk => ?_⟩
  have hr := heap_alloc_last w (.cells #[.string ⟨#[114, 111, 117, 110, 100, 32, 104, 97, 108, 102, 45, 101, 118, 101, 110, 59]⟩, .string ⟨#[116, 105, 109, 101, 115, 32, 48, 56, 59]⟩, .string ⟨#[]⟩, .string ⟨#[]⟩, .string ⟨#[111, 114, 100, 101, 114, 32, 102, 101, 101, 115, 32, 102, 101, 101, 115, 32, 105, 110, 116, 101, 114, 101, 115, 116, 32, 112, 114, 105, 110, 99, 105, 112, 97, 108, 59]⟩] 9)
  refine (cell_of_row _ _ k _ _ _ hr).trans ?_
  unfold lessC at hk
  match k, hk with
  | 0, hk => simp at hk; subst hk; rfl
  | 1, hk => simp at hk; subst hk; rfl
  | 2, hk => simp at hk; subst hk; rfl
  | 3, hk => simp at hk; subst hk; rfl
  | 4, hk => simp at hk; subst hk; rfl
  | k + 5, hk => simp at hk
set_option maxRecDepth 100000 in
set_option maxHeartbeats 8000000 in

theorem walk (a0 : Int) (w0 : (Lit.int .i64 a0).wf = true) (w : World) (he : Env w) :
    Calls Tryz.prog 7 #[.int .i64 a0] w fun e w' => e = .returned (.bool true) ∧ Ext w w' := by
  replace he : Hid (Env w) := he
  have hE0 := he
  obtain ⟨N, hN, hN14⟩ := mod_of a0 14 (by omega)
  have hN14' : N < 14 := by omega
  obtain ⟨W1, b, hW1, hb, hx1, hI⟩ := lay_lessI w
  replace he : Hid (Env W1) := he.out.ext hx1
  replace hx1 := show Hid _ from hx1
  replace hI := show Hid _ from hI
  go_enter Tryz.func7, Tryz.ntmps7
  go_wp2_with fail
  clear hW1 hb
  go_loopw [5, 6] (fun s i wr => ∃ k : Nat, k ≤ 7 ∧ i = .int .i64 k ∧ s = .string ⟨(lessS N k).toArray⟩ ∧ Hid (Ext W1 wr)) (fun _ i _ => 7 - (RowKit.intOf i).toNat)
  case atStart => exact ⟨0, Nat.zero_le _, rfl, rfl, Ext.refl W1⟩
  case round =>
    obtain ⟨k, hk, rfl, rfl, hx⟩ := hrel
    have l1 := lessS_len N k
    by_cases hlt : k < 7
    · have hlt2 : (k : Int) < 7 := by omega
      obtain ⟨u, hu⟩ : ∃ u, lessI[k]? = some u := ⟨_, List.getElem?_eq_getElem (by show k < 7; exact hlt)⟩
      have cu := hx.out.cell_of (hI.out k u hu)
      have hud : lessI.getD k [] = u := by simp [List.getD, hu]
      have l2 : u.length ≤ 50 := hud ▸ item_len k
      have g1 : ¬ 9223372036854775807 < (lessS N k).length + u.length := by omega
      have g2 : ¬ 9223372036854775807 < (lessS N k).length + (u.length + 1) := by omega
      have g3 : ¬ 9223372036854775807 < (lessS N k).length + u.length + 1 := by omega
      by_cases hq : k = N
      · have hn : lessS N (k + 1) = lessS N k := by rw [lessS, if_pos hq]
        have hq2 : (k : Int) = (N : Int) := by omega
        have hq3 : ((k : Int) != (N : Int)) = false := by simp [hq]
        replace hn := show Hid _ from hn
        replace hud := show Hid _ from hud
        clear hu
        go_wp2
        go_roundw
        case rel => exact ⟨k + 1, by omega, by go_num, by rw [hn.out], hx⟩
        case measure => simp [RowKit.intOf]; omega
      · have hn : lessS N (k + 1) = lessS N k ++ (u ++ [32]) := by rw [lessS, if_neg hq, hud]
        have hq2 : ¬ (k : Int) = (N : Int) := by omega
        have hq3 : ((k : Int) != (N : Int)) = true := by simpa using hq2
        replace hn := show Hid _ from hn
        replace hud := show Hid _ from hud
        clear hu
        go_wp2
        go_roundw
        case rel => exact ⟨k + 1, by omega, by go_num, by rw [hn.out], hx⟩
        case measure => simp [RowKit.intOf]; omega
    · obtain rfl : k = 7 := by omega
      obtain ⟨p, hP, hp0⟩ := less_prs N hN14'
      have hwr : Hid (Ext w wr) := hx1.out.trans hx.out
      obtain ⟨W2, b2, hW2, hb2, hx2, hB⟩ := lay_lessB wr
      obtain ⟨W3, b3, hW3, hb3, hx3, hC⟩ := lay_lessC W2
      have cb0 := hB 0 _ rfl
      have cb1 := hB 1 _ rfl
      have cb2 := hB 2 _ rfl
      have cb3 := hB 3 _ rfl
      have cb4 := hB 4 _ rfl
      have cb5 := hB 5 _ rfl
      have cb6 := hB 6 _ rfl
      have cc0 := hC 0 _ rfl
      have cc1 := hC 1 _ rfl
      have cc2 := hC 2 _ rfl
      have cc3 := hC 3 _ rfl
      have cc4 := hC 4 _ rfl
      have he0 : Hid (Env wr) := he.out.ext hx.out
      have he2 : Hid (Env W2) := he0.out.ext hx2
      have he3 : Hid (Env W3) := he2.out.ext hx3
      have k2 : Hid (Ext w W2) := hwr.out.trans hx2
      have k3 : Hid (Ext w W3) := k2.out.trans hx3
      clear hI hx hlt hB hC hx2 hx3 he
      have hcs : N = 0 ∨ N = 1 ∨ N = 2 ∨ N = 3 ∨ N = 4 ∨ N = 5 ∨ N = 6 ∨ N = 7 ∨ N = 8 ∨ N = 9 ∨ N = 10 ∨ N = 11 ∨ N = 12 ∨ N = 13 := by omega
      clear hN14 hN14'
      rcases hcs with rfl | rfl | rfl | rfl | rfl | rfl | rfl | rfl | rfl | rfl | rfl | rfl | rfl | rfl
      · replace hP : prs (lessX 0 ++ [125]) = .no 9 p := hP
        obtain rfl : p = 0 := hp0 (by omega)
        have l3 : (lessS 0 7).length ≤ 400 := by omega
        have g0 : ¬ 9223372036854775807 < (lessS 0 7).length + 1 := by omega
        have hlen : (lessX 0 ++ [125]).length ≤ 9223372036854775807 := by
          have e : lessX 0 = lessS 0 7 := rfl
          rw [e]
          simp only [List.length_append, List.length_cons, List.length_nil]
          omega
        replace hP := show Hid _ from hP
        go_wp2_with fail
        refine (Parse_c (lessX 0 ++ [125]) _ hlen he0).mono ?_
        rintro e w1 ⟨hx1, hA⟩
        rw [hP.out] at hA
        obtain rfl : e = .returned (.tuple #[.agg zP, .int .i64 0, .int .i64 9]) := hA
        obtain ⟨W4, d, hW4, hd, hx4, hB4⟩ := layZ w1
        have hlo : w.heap.size ≤ d := by rw [← hd]; exact (hwr.out.trans hx1).size
        have hsz := zP_ok.1
        have hone := zP_ok.2
        replace hx1 := show Hid (Ext w W4) from (hwr.out.trans hx1).trans hx4
        go_wp2_with (refine store27 hB4 rfl hsz hone rfl rfl rfl rfl ?_)
        intro W5 hB5 hx5
        replace hx1 : Hid (Ext w W5) := hx5.ext hx1.out hlo
        have he5 : Hid (Env W5) := hE0.out.ext hx1.out
        clear hW4 hd hx4 hB4 hx5 hsz hone hlo
        go_wp2_with fail
        refine (awake_c _ he5).mono ?_
        rintro e w6 ⟨rfl, hx6⟩
        have hB6 := keep19 hB5 hx6
        replace hx1 : Hid (Ext w w6) := hx1.out.trans hx6
        clear hx6 he5 hB5
        go_wp2_with (refine load27 hB6 zP_ok.1 rfl rfl rfl ?_)
        refine (prod_no _).mono ?_
        rintro e w7 ⟨rfl, hx7⟩
        replace hx1 : Hid (Ext w w7) := hx1.out.trans hx7
        clear hx7 hB6
        go_wp2
        go_ret
        exact ⟨rfl, hx1.out⟩
      · replace hP : prs (lessX 1 ++ [125]) = .no 9 p := hP
        obtain rfl : p = 0 := hp0 (by omega)
        have l3 : (lessS 1 7).length ≤ 400 := by omega
        have g0 : ¬ 9223372036854775807 < (lessS 1 7).length + 1 := by omega
        have hlen : (lessX 1 ++ [125]).length ≤ 9223372036854775807 := by
          have e : lessX 1 = lessS 1 7 := rfl
          rw [e]
          simp only [List.length_append, List.length_cons, List.length_nil]
          omega
        replace hP := show Hid _ from hP
        go_wp2_with fail
        refine (Parse_c (lessX 1 ++ [125]) _ hlen he0).mono ?_
        rintro e w1 ⟨hx1, hA⟩
        rw [hP.out] at hA
        obtain rfl : e = .returned (.tuple #[.agg zP, .int .i64 0, .int .i64 9]) := hA
        obtain ⟨W4, d, hW4, hd, hx4, hB4⟩ := layZ w1
        have hlo : w.heap.size ≤ d := by rw [← hd]; exact (hwr.out.trans hx1).size
        have hsz := zP_ok.1
        have hone := zP_ok.2
        replace hx1 := show Hid (Ext w W4) from (hwr.out.trans hx1).trans hx4
        go_wp2_with (refine store27 hB4 rfl hsz hone rfl rfl rfl rfl ?_)
        intro W5 hB5 hx5
        replace hx1 : Hid (Ext w W5) := hx5.ext hx1.out hlo
        have he5 : Hid (Env W5) := hE0.out.ext hx1.out
        clear hW4 hd hx4 hB4 hx5 hsz hone hlo
        go_wp2_with fail
        refine (awake_c _ he5).mono ?_
        rintro e w6 ⟨rfl, hx6⟩
        have hB6 := keep19 hB5 hx6
        replace hx1 : Hid (Ext w w6) := hx1.out.trans hx6
        clear hx6 he5 hB5
        go_wp2_with (refine load27 hB6 zP_ok.1 rfl rfl rfl ?_)
        refine (prod_no _).mono ?_
        rintro e w7 ⟨rfl, hx7⟩
        replace hx1 : Hid (Ext w w7) := hx1.out.trans hx7
        clear hx7 hB6
        go_wp2
        go_ret
        exact ⟨rfl, hx1.out⟩
      · replace hP : prs (lessX 2 ++ [125]) = .no 9 p := hP
        obtain rfl : p = 0 := hp0 (by omega)
        have l3 : (lessS 2 7).length ≤ 400 := by omega
        have g0 : ¬ 9223372036854775807 < (lessS 2 7).length + 1 := by omega
        have hlen : (lessX 2 ++ [125]).length ≤ 9223372036854775807 := by
          have e : lessX 2 = lessS 2 7 := rfl
          rw [e]
          simp only [List.length_append, List.length_cons, List.length_nil]
          omega
        replace hP := show Hid _ from hP
        go_wp2_with fail
        refine (Parse_c (lessX 2 ++ [125]) _ hlen he0).mono ?_
        rintro e w1 ⟨hx1, hA⟩
        rw [hP.out] at hA
        obtain rfl : e = .returned (.tuple #[.agg zP, .int .i64 0, .int .i64 9]) := hA
        obtain ⟨W4, d, hW4, hd, hx4, hB4⟩ := layZ w1
        have hlo : w.heap.size ≤ d := by rw [← hd]; exact (hwr.out.trans hx1).size
        have hsz := zP_ok.1
        have hone := zP_ok.2
        replace hx1 := show Hid (Ext w W4) from (hwr.out.trans hx1).trans hx4
        go_wp2_with (refine store27 hB4 rfl hsz hone rfl rfl rfl rfl ?_)
        intro W5 hB5 hx5
        replace hx1 : Hid (Ext w W5) := hx5.ext hx1.out hlo
        have he5 : Hid (Env W5) := hE0.out.ext hx1.out
        clear hW4 hd hx4 hB4 hx5 hsz hone hlo
        go_wp2_with fail
        refine (awake_c _ he5).mono ?_
        rintro e w6 ⟨rfl, hx6⟩
        have hB6 := keep19 hB5 hx6
        replace hx1 : Hid (Ext w w6) := hx1.out.trans hx6
        clear hx6 he5 hB5
        go_wp2_with (refine load27 hB6 zP_ok.1 rfl rfl rfl ?_)
        refine (prod_no _).mono ?_
        rintro e w7 ⟨rfl, hx7⟩
        replace hx1 : Hid (Ext w w7) := hx1.out.trans hx7
        clear hx7 hB6
        go_wp2
        go_ret
        exact ⟨rfl, hx1.out⟩
      · replace hP : prs (lessX 3 ++ [125]) = .no 9 p := hP
        obtain rfl : p = 0 := hp0 (by omega)
        have l3 : (lessS 3 7).length ≤ 400 := by omega
        have g0 : ¬ 9223372036854775807 < (lessS 3 7).length + 1 := by omega
        have hlen : (lessX 3 ++ [125]).length ≤ 9223372036854775807 := by
          have e : lessX 3 = lessS 3 7 := rfl
          rw [e]
          simp only [List.length_append, List.length_cons, List.length_nil]
          omega
        replace hP := show Hid _ from hP
        go_wp2_with fail
        refine (Parse_c (lessX 3 ++ [125]) _ hlen he0).mono ?_
        rintro e w1 ⟨hx1, hA⟩
        rw [hP.out] at hA
        obtain rfl : e = .returned (.tuple #[.agg zP, .int .i64 0, .int .i64 9]) := hA
        obtain ⟨W4, d, hW4, hd, hx4, hB4⟩ := layZ w1
        have hlo : w.heap.size ≤ d := by rw [← hd]; exact (hwr.out.trans hx1).size
        have hsz := zP_ok.1
        have hone := zP_ok.2
        replace hx1 := show Hid (Ext w W4) from (hwr.out.trans hx1).trans hx4
        go_wp2_with (refine store27 hB4 rfl hsz hone rfl rfl rfl rfl ?_)
        intro W5 hB5 hx5
        replace hx1 : Hid (Ext w W5) := hx5.ext hx1.out hlo
        have he5 : Hid (Env W5) := hE0.out.ext hx1.out
        clear hW4 hd hx4 hB4 hx5 hsz hone hlo
        go_wp2_with fail
        refine (awake_c _ he5).mono ?_
        rintro e w6 ⟨rfl, hx6⟩
        have hB6 := keep19 hB5 hx6
        replace hx1 : Hid (Ext w w6) := hx1.out.trans hx6
        clear hx6 he5 hB5
        go_wp2_with (refine load27 hB6 zP_ok.1 rfl rfl rfl ?_)
        refine (prod_no _).mono ?_
        rintro e w7 ⟨rfl, hx7⟩
        replace hx1 : Hid (Ext w w7) := hx1.out.trans hx7
        clear hx7 hB6
        go_wp2
        go_ret
        exact ⟨rfl, hx1.out⟩
      · replace hP : prs (lessX 4 ++ [125]) = .no 9 p := hP
        obtain rfl : p = 0 := hp0 (by omega)
        have l3 : (lessS 4 7).length ≤ 400 := by omega
        have g0 : ¬ 9223372036854775807 < (lessS 4 7).length + 1 := by omega
        have hlen : (lessX 4 ++ [125]).length ≤ 9223372036854775807 := by
          have e : lessX 4 = lessS 4 7 := rfl
          rw [e]
          simp only [List.length_append, List.length_cons, List.length_nil]
          omega
        replace hP := show Hid _ from hP
        go_wp2_with fail
        refine (Parse_c (lessX 4 ++ [125]) _ hlen he0).mono ?_
        rintro e w1 ⟨hx1, hA⟩
        rw [hP.out] at hA
        obtain rfl : e = .returned (.tuple #[.agg zP, .int .i64 0, .int .i64 9]) := hA
        obtain ⟨W4, d, hW4, hd, hx4, hB4⟩ := layZ w1
        have hlo : w.heap.size ≤ d := by rw [← hd]; exact (hwr.out.trans hx1).size
        have hsz := zP_ok.1
        have hone := zP_ok.2
        replace hx1 := show Hid (Ext w W4) from (hwr.out.trans hx1).trans hx4
        go_wp2_with (refine store27 hB4 rfl hsz hone rfl rfl rfl rfl ?_)
        intro W5 hB5 hx5
        replace hx1 : Hid (Ext w W5) := hx5.ext hx1.out hlo
        have he5 : Hid (Env W5) := hE0.out.ext hx1.out
        clear hW4 hd hx4 hB4 hx5 hsz hone hlo
        go_wp2_with fail
        refine (awake_c _ he5).mono ?_
        rintro e w6 ⟨rfl, hx6⟩
        have hB6 := keep19 hB5 hx6
        replace hx1 : Hid (Ext w w6) := hx1.out.trans hx6
        clear hx6 he5 hB5
        go_wp2_with (refine load27 hB6 zP_ok.1 rfl rfl rfl ?_)
        refine (prod_no _).mono ?_
        rintro e w7 ⟨rfl, hx7⟩
        replace hx1 : Hid (Ext w w7) := hx1.out.trans hx7
        clear hx7 hB6
        go_wp2
        go_ret
        exact ⟨rfl, hx1.out⟩
      · replace hP : prs (lessX 5 ++ [125]) = .no 9 p := hP
        obtain rfl : p = 0 := hp0 (by omega)
        have l3 : (lessS 5 7).length ≤ 400 := by omega
        have g0 : ¬ 9223372036854775807 < (lessS 5 7).length + 1 := by omega
        have hlen : (lessX 5 ++ [125]).length ≤ 9223372036854775807 := by
          have e : lessX 5 = lessS 5 7 := rfl
          rw [e]
          simp only [List.length_append, List.length_cons, List.length_nil]
          omega
        replace hP := show Hid _ from hP
        go_wp2_with fail
        refine (Parse_c (lessX 5 ++ [125]) _ hlen he0).mono ?_
        rintro e w1 ⟨hx1, hA⟩
        rw [hP.out] at hA
        obtain rfl : e = .returned (.tuple #[.agg zP, .int .i64 0, .int .i64 9]) := hA
        obtain ⟨W4, d, hW4, hd, hx4, hB4⟩ := layZ w1
        have hlo : w.heap.size ≤ d := by rw [← hd]; exact (hwr.out.trans hx1).size
        have hsz := zP_ok.1
        have hone := zP_ok.2
        replace hx1 := show Hid (Ext w W4) from (hwr.out.trans hx1).trans hx4
        go_wp2_with (refine store27 hB4 rfl hsz hone rfl rfl rfl rfl ?_)
        intro W5 hB5 hx5
        replace hx1 : Hid (Ext w W5) := hx5.ext hx1.out hlo
        have he5 : Hid (Env W5) := hE0.out.ext hx1.out
        clear hW4 hd hx4 hB4 hx5 hsz hone hlo
        go_wp2_with fail
        refine (awake_c _ he5).mono ?_
        rintro e w6 ⟨rfl, hx6⟩
        have hB6 := keep19 hB5 hx6
        replace hx1 : Hid (Ext w w6) := hx1.out.trans hx6
        clear hx6 he5 hB5
        go_wp2_with (refine load27 hB6 zP_ok.1 rfl rfl rfl ?_)
        refine (prod_no _).mono ?_
        rintro e w7 ⟨rfl, hx7⟩
        replace hx1 : Hid (Ext w w7) := hx1.out.trans hx7
        clear hx7 hB6
        go_wp2
        go_ret
        exact ⟨rfl, hx1.out⟩
      · replace hP : prs (lessX 6 ++ [125]) = .no 9 p := hP
        obtain rfl : p = 0 := hp0 (by omega)
        have l3 : (lessS 6 7).length ≤ 400 := by omega
        have g0 : ¬ 9223372036854775807 < (lessS 6 7).length + 1 := by omega
        have hlen : (lessX 6 ++ [125]).length ≤ 9223372036854775807 := by
          have e : lessX 6 = lessS 6 7 := rfl
          rw [e]
          simp only [List.length_append, List.length_cons, List.length_nil]
          omega
        replace hP := show Hid _ from hP
        go_wp2_with fail
        refine (Parse_c (lessX 6 ++ [125]) _ hlen he0).mono ?_
        rintro e w1 ⟨hx1, hA⟩
        rw [hP.out] at hA
        obtain rfl : e = .returned (.tuple #[.agg zP, .int .i64 0, .int .i64 9]) := hA
        obtain ⟨W4, d, hW4, hd, hx4, hB4⟩ := layZ w1
        have hlo : w.heap.size ≤ d := by rw [← hd]; exact (hwr.out.trans hx1).size
        have hsz := zP_ok.1
        have hone := zP_ok.2
        replace hx1 := show Hid (Ext w W4) from (hwr.out.trans hx1).trans hx4
        go_wp2_with (refine store27 hB4 rfl hsz hone rfl rfl rfl rfl ?_)
        intro W5 hB5 hx5
        replace hx1 : Hid (Ext w W5) := hx5.ext hx1.out hlo
        have he5 : Hid (Env W5) := hE0.out.ext hx1.out
        clear hW4 hd hx4 hB4 hx5 hsz hone hlo
        go_wp2_with fail
        refine (awake_c _ he5).mono ?_
        rintro e w6 ⟨rfl, hx6⟩
        have hB6 := keep19 hB5 hx6
        replace hx1 : Hid (Ext w w6) := hx1.out.trans hx6
        clear hx6 he5 hB5
        go_wp2_with (refine load27 hB6 zP_ok.1 rfl rfl rfl ?_)
        refine (prod_no _).mono ?_
        rintro e w7 ⟨rfl, hx7⟩
        replace hx1 : Hid (Ext w w7) := hx1.out.trans hx7
        clear hx7 hB6
        go_wp2
        go_ret
        exact ⟨rfl, hx1.out⟩
      · replace hP : prs (lessX 7 ++ [125]) = .no 7 p := hP
        have l3 : (lessS 7 7).length ≤ 400 := by omega
        have g0 : ¬ 9223372036854775807 < (lessS 7 7).length + 1 := by omega
        have g1 : ¬ 9223372036854775807 < (lessS 7 7).length + 12 := by omega
        have g2 : ¬ 9223372036854775807 < (lessS 7 7).length + 12 + 1 := by omega
        have g3 : ¬ 9223372036854775807 < (lessS 7 7).length + (12 + 1) := by omega
        have hlen : (lessX 7 ++ [125]).length ≤ 9223372036854775807 := by
          have e : lessX 7 = lessS 7 7 ++ lessB.getD 0 [] := rfl
          rw [e]
          have hb : (lessB.getD 0 []).length ≤ 50 := by decide
          simp only [List.length_append, List.length_cons, List.length_nil]
          omega
        replace hP := show Hid _ from hP
        go_wp2_with fail
        refine (Parse_c (lessX 7 ++ [125]) _ hlen he2).mono ?_
        rintro e w1 ⟨hx1, hA⟩
        rw [hP.out] at hA
        obtain rfl : e = .returned (.tuple #[.agg zP, .int .i64 p, .int .i64 7]) := hA
        obtain ⟨W4, d, hW4, hd, hx4, hB4⟩ := layZ w1
        have hlo : w.heap.size ≤ d := by rw [← hd]; exact (k2.out.trans hx1).size
        have hsz := zP_ok.1
        have hone := zP_ok.2
        replace hx1 := show Hid (Ext w W4) from (k2.out.trans hx1).trans hx4
        go_wp2_with (refine store27 hB4 rfl hsz hone rfl rfl rfl rfl ?_)
        intro W5 hB5 hx5
        replace hx1 : Hid (Ext w W5) := hx5.ext hx1.out hlo
        have he5 : Hid (Env W5) := hE0.out.ext hx1.out
        clear hW4 hd hx4 hB4 hx5 hsz hone hlo
        go_wp2_with fail
        refine (awake_c _ he5).mono ?_
        rintro e w6 ⟨rfl, hx6⟩
        have hB6 := keep19 hB5 hx6
        replace hx1 : Hid (Ext w w6) := hx1.out.trans hx6
        clear hx6 he5 hB5
        go_wp2_with (refine load27 hB6 zP_ok.1 rfl rfl rfl ?_)
        refine (prod_no _).mono ?_
        rintro e w7 ⟨rfl, hx7⟩
        replace hx1 : Hid (Ext w w7) := hx1.out.trans hx7
        clear hx7 hB6
        go_wp2
        go_ret
        exact ⟨rfl, hx1.out⟩
      · replace hP : prs (lessX 8 ++ [125]) = .no 7 p := hP
        have l3 : (lessS 8 7).length ≤ 400 := by omega
        have g0 : ¬ 9223372036854775807 < (lessS 8 7).length + 1 := by omega
        have g1 : ¬ 9223372036854775807 < (lessS 8 7).length + 16 := by omega
        have g2 : ¬ 9223372036854775807 < (lessS 8 7).length + 16 + 1 := by omega
        have g3 : ¬ 9223372036854775807 < (lessS 8 7).length + (16 + 1) := by omega
        have hlen : (lessX 8 ++ [125]).length ≤ 9223372036854775807 := by
          have e : lessX 8 = hdL ++ lessC.getD 0 [] := rfl
          rw [e]
          decide
        replace hP := show Hid _ from hP
        go_wp2_with fail
        refine (Parse_c (lessX 8 ++ [125]) _ hlen he3).mono ?_
        rintro e w1 ⟨hx1, hA⟩
        rw [hP.out] at hA
        obtain rfl : e = .returned (.tuple #[.agg zP, .int .i64 p, .int .i64 7]) := hA
        obtain ⟨W4, d, hW4, hd, hx4, hB4⟩ := layZ w1
        have hlo : w.heap.size ≤ d := by rw [← hd]; exact (k3.out.trans hx1).size
        have hsz := zP_ok.1
        have hone := zP_ok.2
        replace hx1 := show Hid (Ext w W4) from (k3.out.trans hx1).trans hx4
        go_wp2_with (refine store27 hB4 rfl hsz hone rfl rfl rfl rfl ?_)
        intro W5 hB5 hx5
        replace hx1 : Hid (Ext w W5) := hx5.ext hx1.out hlo
        have he5 : Hid (Env W5) := hE0.out.ext hx1.out
        clear hW4 hd hx4 hB4 hx5 hsz hone hlo
        go_wp2_with fail
        refine (awake_c _ he5).mono ?_
        rintro e w6 ⟨rfl, hx6⟩
        have hB6 := keep19 hB5 hx6
        replace hx1 : Hid (Ext w w6) := hx1.out.trans hx6
        clear hx6 he5 hB5
        go_wp2_with (refine load27 hB6 zP_ok.1 rfl rfl rfl ?_)
        refine (prod_no _).mono ?_
        rintro e w7 ⟨rfl, hx7⟩
        replace hx1 : Hid (Ext w w7) := hx1.out.trans hx7
        clear hx7 hB6
        go_wp2
        go_ret
        exact ⟨rfl, hx1.out⟩
      · replace hP : prs (lessX 9 ++ [125]) = .no 7 p := hP
        have l3 : (lessS 9 7).length ≤ 400 := by omega
        have g0 : ¬ 9223372036854775807 < (lessS 9 7).length + 1 := by omega
        have g1 : ¬ 9223372036854775807 < (lessS 9 7).length + 9 := by omega
        have g2 : ¬ 9223372036854775807 < (lessS 9 7).length + 9 + 1 := by omega
        have g3 : ¬ 9223372036854775807 < (lessS 9 7).length + (9 + 1) := by omega
        have hlen : (lessX 9 ++ [125]).length ≤ 9223372036854775807 := by
          have e : lessX 9 = hdL ++ lessC.getD 1 [] := rfl
          rw [e]
          decide
        replace hP := show Hid _ from hP
        go_wp2_with fail
        refine (Parse_c (lessX 9 ++ [125]) _ hlen he3).mono ?_
        rintro e w1 ⟨hx1, hA⟩
        rw [hP.out] at hA
        obtain rfl : e = .returned (.tuple #[.agg zP, .int .i64 p, .int .i64 7]) := hA
        obtain ⟨W4, d, hW4, hd, hx4, hB4⟩ := layZ w1
        have hlo : w.heap.size ≤ d := by rw [← hd]; exact (k3.out.trans hx1).size
        have hsz := zP_ok.1
        have hone := zP_ok.2
        replace hx1 := show Hid (Ext w W4) from (k3.out.trans hx1).trans hx4
        go_wp2_with (refine store27 hB4 rfl hsz hone rfl rfl rfl rfl ?_)
        intro W5 hB5 hx5
        replace hx1 : Hid (Ext w W5) := hx5.ext hx1.out hlo
        have he5 : Hid (Env W5) := hE0.out.ext hx1.out
        clear hW4 hd hx4 hB4 hx5 hsz hone hlo
        go_wp2_with fail
        refine (awake_c _ he5).mono ?_
        rintro e w6 ⟨rfl, hx6⟩
        have hB6 := keep19 hB5 hx6
        replace hx1 : Hid (Ext w w6) := hx1.out.trans hx6
        clear hx6 he5 hB5
        go_wp2_with (refine load27 hB6 zP_ok.1 rfl rfl rfl ?_)
        refine (prod_no _).mono ?_
        rintro e w7 ⟨rfl, hx7⟩
        replace hx1 : Hid (Ext w w7) := hx1.out.trans hx7
        clear hx7 hB6
        go_wp2
        go_ret
        exact ⟨rfl, hx1.out⟩
      · replace hP : prs (lessX 10 ++ [125]) = .no 7 p := hP
        have l3 : (lessS 10 7).length ≤ 400 := by omega
        have g0 : ¬ 9223372036854775807 < (lessS 10 7).length + 1 := by omega
        have g1 : ¬ 9223372036854775807 < (lessS 10 7).length + 7 := by omega
        have g2 : ¬ 9223372036854775807 < (lessS 10 7).length + 7 + 1 := by omega
        have g3 : ¬ 9223372036854775807 < (lessS 10 7).length + (7 + 1) := by omega
        have hlen : (lessX 10 ++ [125]).length ≤ 9223372036854775807 := by
          have e : lessX 10 = lessS 10 7 ++ lessB.getD 3 [] := rfl
          rw [e]
          have hb : (lessB.getD 3 []).length ≤ 50 := by decide
          simp only [List.length_append, List.length_cons, List.length_nil]
          omega
        replace hP := show Hid _ from hP
        go_wp2_with fail
        refine (Parse_c (lessX 10 ++ [125]) _ hlen he2).mono ?_
        rintro e w1 ⟨hx1, hA⟩
        rw [hP.out] at hA
        obtain rfl : e = .returned (.tuple #[.agg zP, .int .i64 p, .int .i64 7]) := hA
        obtain ⟨W4, d, hW4, hd, hx4, hB4⟩ := layZ w1
        have hlo : w.heap.size ≤ d := by rw [← hd]; exact (k2.out.trans hx1).size
        have hsz := zP_ok.1
        have hone := zP_ok.2
        replace hx1 := show Hid (Ext w W4) from (k2.out.trans hx1).trans hx4
        go_wp2_with (refine store27 hB4 rfl hsz hone rfl rfl rfl rfl ?_)
        intro W5 hB5 hx5
        replace hx1 : Hid (Ext w W5) := hx5.ext hx1.out hlo
        have he5 : Hid (Env W5) := hE0.out.ext hx1.out
        clear hW4 hd hx4 hB4 hx5 hsz hone hlo
        go_wp2_with fail
        refine (awake_c _ he5).mono ?_
        rintro e w6 ⟨rfl, hx6⟩
        have hB6 := keep19 hB5 hx6
        replace hx1 : Hid (Ext w w6) := hx1.out.trans hx6
        clear hx6 he5 hB5
        go_wp2_with (refine load27 hB6 zP_ok.1 rfl rfl rfl ?_)
        refine (prod_no _).mono ?_
        rintro e w7 ⟨rfl, hx7⟩
        replace hx1 : Hid (Ext w w7) := hx1.out.trans hx7
        clear hx7 hB6
        go_wp2
        go_ret
        exact ⟨rfl, hx1.out⟩
      · replace hP : prs (lessX 11 ++ [125]) = .no 7 p := hP
        have l3 : (lessS 11 7).length ≤ 400 := by omega
        have g0 : ¬ 9223372036854775807 < (lessS 11 7).length + 1 := by omega
        have g1 : ¬ 9223372036854775807 < (lessS 11 7).length + 10 := by omega
        have g2 : ¬ 9223372036854775807 < (lessS 11 7).length + 10 + 1 := by omega
        have g3 : ¬ 9223372036854775807 < (lessS 11 7).length + (10 + 1) := by omega
        have hlen : (lessX 11 ++ [125]).length ≤ 9223372036854775807 := by
          have e : lessX 11 = lessS 11 7 ++ lessB.getD 4 [] := rfl
          rw [e]
          have hb : (lessB.getD 4 []).length ≤ 50 := by decide
          simp only [List.length_append, List.length_cons, List.length_nil]
          omega
        replace hP := show Hid _ from hP
        go_wp2_with fail
        refine (Parse_c (lessX 11 ++ [125]) _ hlen he2).mono ?_
        rintro e w1 ⟨hx1, hA⟩
        rw [hP.out] at hA
        obtain rfl : e = .returned (.tuple #[.agg zP, .int .i64 p, .int .i64 7]) := hA
        obtain ⟨W4, d, hW4, hd, hx4, hB4⟩ := layZ w1
        have hlo : w.heap.size ≤ d := by rw [← hd]; exact (k2.out.trans hx1).size
        have hsz := zP_ok.1
        have hone := zP_ok.2
        replace hx1 := show Hid (Ext w W4) from (k2.out.trans hx1).trans hx4
        go_wp2_with (refine store27 hB4 rfl hsz hone rfl rfl rfl rfl ?_)
        intro W5 hB5 hx5
        replace hx1 : Hid (Ext w W5) := hx5.ext hx1.out hlo
        have he5 : Hid (Env W5) := hE0.out.ext hx1.out
        clear hW4 hd hx4 hB4 hx5 hsz hone hlo
        go_wp2_with fail
        refine (awake_c _ he5).mono ?_
        rintro e w6 ⟨rfl, hx6⟩
        have hB6 := keep19 hB5 hx6
        replace hx1 : Hid (Ext w w6) := hx1.out.trans hx6
        clear hx6 he5 hB5
        go_wp2_with (refine load27 hB6 zP_ok.1 rfl rfl rfl ?_)
        refine (prod_no _).mono ?_
        rintro e w7 ⟨rfl, hx7⟩
        replace hx1 : Hid (Ext w w7) := hx1.out.trans hx7
        clear hx7 hB6
        go_wp2
        go_ret
        exact ⟨rfl, hx1.out⟩
      · replace hP : prs (lessX 12 ++ [125]) = .no 7 p := hP
        have l3 : (lessS 12 7).length ≤ 400 := by omega
        have g0 : ¬ 9223372036854775807 < (lessS 12 7).length + 1 := by omega
        have g1 : ¬ 9223372036854775807 < (lessS 12 7).length + 35 := by omega
        have g2 : ¬ 9223372036854775807 < (lessS 12 7).length + 35 + 1 := by omega
        have g3 : ¬ 9223372036854775807 < (lessS 12 7).length + (35 + 1) := by omega
        have hlen : (lessX 12 ++ [125]).length ≤ 9223372036854775807 := by
          have e : lessX 12 = hdL ++ lessC.getD 4 [] := rfl
          rw [e]
          decide
        replace hP := show Hid _ from hP
        go_wp2_with fail
        refine (Parse_c (lessX 12 ++ [125]) _ hlen he3).mono ?_
        rintro e w1 ⟨hx1, hA⟩
        rw [hP.out] at hA
        obtain rfl : e = .returned (.tuple #[.agg zP, .int .i64 p, .int .i64 7]) := hA
        obtain ⟨W4, d, hW4, hd, hx4, hB4⟩ := layZ w1
        have hlo : w.heap.size ≤ d := by rw [← hd]; exact (k3.out.trans hx1).size
        have hsz := zP_ok.1
        have hone := zP_ok.2
        replace hx1 := show Hid (Ext w W4) from (k3.out.trans hx1).trans hx4
        go_wp2_with (refine store27 hB4 rfl hsz hone rfl rfl rfl rfl ?_)
        intro W5 hB5 hx5
        replace hx1 : Hid (Ext w W5) := hx5.ext hx1.out hlo
        have he5 : Hid (Env W5) := hE0.out.ext hx1.out
        clear hW4 hd hx4 hB4 hx5 hsz hone hlo
        go_wp2_with fail
        refine (awake_c _ he5).mono ?_
        rintro e w6 ⟨rfl, hx6⟩
        have hB6 := keep19 hB5 hx6
        replace hx1 : Hid (Ext w w6) := hx1.out.trans hx6
        clear hx6 he5 hB5
        go_wp2_with (refine load27 hB6 zP_ok.1 rfl rfl rfl ?_)
        refine (prod_no _).mono ?_
        rintro e w7 ⟨rfl, hx7⟩
        replace hx1 : Hid (Ext w w7) := hx1.out.trans hx7
        clear hx7 hB6
        go_wp2
        go_ret
        exact ⟨rfl, hx1.out⟩
      · replace hP : prs (lessX 13 ++ [125]) = .no 7 p := hP
        have l3 : (lessS 13 7).length ≤ 400 := by omega
        have g0 : ¬ 9223372036854775807 < (lessS 13 7).length + 1 := by omega
        have g1 : ¬ 9223372036854775807 < (lessS 13 7).length + 8 := by omega
        have g2 : ¬ 9223372036854775807 < (lessS 13 7).length + 8 + 1 := by omega
        have g3 : ¬ 9223372036854775807 < (lessS 13 7).length + (8 + 1) := by omega
        have hlen : (lessX 13 ++ [125]).length ≤ 9223372036854775807 := by
          have e : lessX 13 = lessS 13 7 ++ lessB.getD 6 [] := rfl
          rw [e]
          have hb : (lessB.getD 6 []).length ≤ 50 := by decide
          simp only [List.length_append, List.length_cons, List.length_nil]
          omega
        replace hP := show Hid _ from hP
        go_wp2_with fail
        refine (Parse_c (lessX 13 ++ [125]) _ hlen he2).mono ?_
        rintro e w1 ⟨hx1, hA⟩
        rw [hP.out] at hA
        obtain rfl : e = .returned (.tuple #[.agg zP, .int .i64 p, .int .i64 7]) := hA
        obtain ⟨W4, d, hW4, hd, hx4, hB4⟩ := layZ w1
        have hlo : w.heap.size ≤ d := by rw [← hd]; exact (k2.out.trans hx1).size
        have hsz := zP_ok.1
        have hone := zP_ok.2
        replace hx1 := show Hid (Ext w W4) from (k2.out.trans hx1).trans hx4
        go_wp2_with (refine store27 hB4 rfl hsz hone rfl rfl rfl rfl ?_)
        intro W5 hB5 hx5
        replace hx1 : Hid (Ext w W5) := hx5.ext hx1.out hlo
        have he5 : Hid (Env W5) := hE0.out.ext hx1.out
        clear hW4 hd hx4 hB4 hx5 hsz hone hlo
        go_wp2_with fail
        refine (awake_c _ he5).mono ?_
        rintro e w6 ⟨rfl, hx6⟩
        have hB6 := keep19 hB5 hx6
        replace hx1 : Hid (Ext w w6) := hx1.out.trans hx6
        clear hx6 he5 hB5
        go_wp2_with (refine load27 hB6 zP_ok.1 rfl rfl rfl ?_)
        refine (prod_no _).mono ?_
        rintro e w7 ⟨rfl, hx7⟩
        replace hx1 : Hid (Ext w w7) := hx1.out.trans hx7
        clear hx7 hB6
        go_wp2
        go_ret
        exact ⟨rfl, hx1.out⟩

set_option maxRecDepth 100000 in
theorem lifted (os : Os) (started : os.Started) (H : Type) (enc : TypeId × Value → H) :
    ReturnsInHanded {} Tryz.checked os 7 .any (fun w args => (Rows.grammarLessSpec.pre enc Tryz.prog Tryz.f7 [] false w args ∧ laidMetH Tryz.prog laid w) ∧ sizedMet enc Tryz.prog Tryz.f7 (OpenSpec.ofChange Rows.grammarLessSpec) false w args)
      (Rows.grammarLessSpec.post enc Tryz.prog Tryz.f7 false true false false) := by
  refine wrap started (by kernel_rfl) Tryz.func7
    (ChangeSpec.witness_shaped (enc := enc) (C := Tryz.checked) (os := os) (X := fun w _ => laidMetH Tryz.prog laid w) false (World.laidAll Tryz.prog os laid) #[.int .i64 0] 8 (World.laidAll_os _ _ _)
      (World.shaped_of_ZipB (by kernel_rfl) (by kernel_rfl)) (by kernel_rfl) (by kernel_rfl) (by kernel_rfl)
      (by rw [MakeChecks.laidMetH_plain _ _ _ (by kernel_rfl)]; exact laidMet_laidAll _ (by kernel_rfl) (by kernel_rfl))) ?_
  intro W base args ds gs before hval0 hW hE
  have hval : ∀ (j : Nat) t v, Tryz.f7.params[j]? = some t → args[j]? = some v → Value.okWide Tryz.prog W .any base t v := hval0
  have hW' := hW
  obtain ⟨p, q, hA0, hV, rfl, _, _⟩ := hW
  have hA : DataW.TrodAll enc Tryz.prog W 0 (fun _ => true) true Tryz.f7.params.toList args.toList ds p := hA0
  rw [Tryz.params7] at hA hval
  obtain ⟨v0, vs0, d0, ds0, p0, q0, hargs, rfl, rfl, h0, r0⟩ := trodAll_cons hA
  obtain ⟨rfl, rfl, rfl⟩ := trodAll_nil r0
  obtain rfl : args = #[v0] := by cases args; simp_all
  obtain ⟨rfl, rfl⟩ := trodVars_none hV
  obtain ⟨a0, rfl, rfl, rfl, w0⟩ := open_int Tryz.underlying3 (hval 0 3 v0 rfl rfl) h0
  clear hA0 hval0
  simp only [List.append_nil] at hW'
  refine (walk a0 w0 W hE).mono fun e W' ⟨he, hb⟩ => ?_
  subst he
  exact ⟨_, rfl, _, _, _, [], _, [], hW', (trodAll_cons_mk (shut_bool Tryz.underlying4 _) trodAll_mk0), (trodAll_cons_mk (shut_int Tryz.underlying3 w0) trodAll_mk0), rfl, hb.below.frame _, fun h => by cases h⟩

theorem over : Rows.grammarLessRow.holds Tryz.pinned (OpenSpec.ofChange Rows.grammarLessSpec) :=
  OpenClaim.holds_of_wide 7 Tryz.f7 rfl rfl rfl rfl rfl rfl rfl ⟨rfl, rfl, rfl, rfl, rfl⟩ rfl rfl rfl rfl rfl (by kernel_rfl) Tryz.func7 (by kernel_rfl)
    (of_decide_eq_true (by kernel_rfl)) (by unfold Func.isWrapper; first | (rw [if_pos (by decide +kernel)]; kernel_rfl) | (rw [if_neg (by decide +kernel)]; exact ⟨rfl, rfl⟩))
    (fun os started H enc _ => lifted os started H enc)
end Go.Proofs.YtlbodoggfbdnjaaGreatDoor.grammarLess
namespace Go.Proofs.YtlbodoggfbdnjaaGreatDoor
theorem grammarLess_holds : Rows.GrammarLessCardSaid :=
  Claim7.holds_tied_plain_at .later [] [.data, .data, .data, .data, .sentinel, .sentinel, .data, .pinned] true (true, "71a4d669349a1374d27e06b42b74feeaaecf2230b7206da2054069eaee9351c6") true grammarLess.over (fun _ h => by cases h) (by kernel_rfl) (fun _ h => by cases h) grammarLess_row_tie rfl ⟨rfl, rfl⟩ (by kernel_rfl) rfl
    (fun f fn hf hfn => by
      obtain rfl : f = 7 := Option.some.inj ((show Tryz.prog.funcNamed "quittance/quittancelaw09.GrammarLess" = some 7 by kernel_rfl).symm.trans hf) |>.symm
      obtain rfl : fn = Tryz.f7 := (Option.some.inj (Tryz.func7.symm.trans hfn)).symm
      exact ⟨by kernel_rfl, fun j t ht => by
        rw [Tryz.params7] at ht
        have hm : t ∈ [3] := by simpa using Array.mem_of_getElem? ht
        have hall : ([3].all fun u => !Tryz.prog.wantsStandIn u) = true := by kernel_rfl
        exact (show Tryz.prog.wantsStandIn t = false by simpa using List.all_eq_true.1 hall t hm)⟩)
    (by kernel_rfl)
#print axioms grammarLess_holds
end Go.Proofs.YtlbodoggfbdnjaaGreatDoor
