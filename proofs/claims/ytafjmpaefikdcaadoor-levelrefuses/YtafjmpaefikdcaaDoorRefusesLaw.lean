/- For every int, of the project's tree at the commit that COMMIT names, LevelRefuses returns true, with the listed variable laid as the program's text lays it. -/
import Derived.Test.YtafjmpaefikdcaaDoorPf
import Derived.Test.YtafjmpaefikdcaaDoorLv8
import Derived.Deep.CutBlock
namespace Go.Proofs.YtafjmpaefikdcaaDoor.levelRefuses
open Go.ChangeShapes Go.WideShapes Go.ChangeAt Go.RowKit Go.Lib
set_option linter.unusedVariables false

theorem ok_P : okP pl0 = true := by decide +kernel
def zz : List Int := List.replicate 12 0
theorem lst_P : Lst (lvl pl0 zz 1000) 84 := ⟨by decide, by decide, by decide +kernel, by decide +kernel⟩
theorem ask_no {l : List Int} {a : Int} (h : ¬ Okl 12 l a) : askE pl0 l a 1 := Or.inr (Or.inl ⟨ok_P, h, rfl⟩)
theorem okl_P : Okl 12 zz 1000 := ⟨by decide, by decide, by decide, by decide⟩
/-- What is told, by the case. -/
structure Cse (R : Int) (w : World) (v : Value) (l : List Int) (a x : Int) : Prop where
  s : L8.Slc w v l
  bad : R ≠ 6 → ¬ Okl 12 l a
  good : R = 6 → l = zz ∧ a = 1000 ∧ x = -1
theorem arr_zz {w : World} {g c : Nat} (h : L4.Arr w g 12 (fun _ => 0)) : L8.Slc w (.slice (some ⟨g, 0, none⟩) 12 c) zz :=
  Or.inr ⟨g, 0, c, rfl, fun k x hk => by
    obtain ⟨h1, h2⟩ := List.getElem?_eq_some_iff.1 hk
    have hk' : k < 12 := h1
    have : x = 0 := by rw [← h2]; exact List.eq_of_mem_replicate (List.getElem_mem h1)
    rw [Nat.zero_add, h.cell k hk', this]⟩
theorem arr_11 {w : World} {g c : Nat} (h : L4.Arr w g 12 (fun _ => 0)) : L8.Slc w (.slice (some ⟨g, 0, none⟩) 11 c) (List.replicate 11 0) :=
  Or.inr ⟨g, 0, c, rfl, fun k x hk => by
    obtain ⟨h1, h2⟩ := List.getElem?_eq_some_iff.1 hk
    have hk' : k < 11 := by simpa using h1
    have : x = 0 := by rw [← h2]; exact List.eq_of_mem_replicate (List.getElem_mem h1)
    rw [Nat.zero_add, h.cell k (by omega), this]⟩
theorem arr_set {w : World} {g c : Nat} (h : L4.Arr w g 12 (fun _ => 0)) (y : Int) : L8.Slc (w.setCell ⟨g, 3, none⟩ (.int .i64 y)) (.slice (some ⟨g, 0, none⟩) 12 c) (zz.set 3 y) :=
  Or.inr ⟨g, 0, c, rfl, fun k x hk => by
    obtain ⟨h1, h2⟩ := List.getElem?_eq_some_iff.1 hk
    have hk' : k < 12 := by simpa [zz] using h1
    rw [Nat.zero_add]
    by_cases e : k = 3
    · subst e
      have : x = y := by rw [← h2]; simp
      rw [L8.same (h.cell 3 (by decide)), this]
    · rw [L8.other _ (Or.inr (fun c => e c.symm)), h.cell k hk']
      have : x = 0 := by rw [← h2, List.getElem_set_ne (fun c => e c.symm)]; exact List.eq_of_mem_replicate (n := 12) (List.getElem_mem _)
      rw [this]⟩
set_option maxRecDepth 100000 in
set_option maxHeartbeats 4000000 in

theorem walk (a0 : Int) (w0 : (Lit.int .i64 a0).wf = true) (w : World) (he : Evn w) :
    Calls Tryd.prog 4 #[.int .i64 a0] w fun e w' => e = .returned (.bool true) ∧ Ext w w' := by
  obtain ⟨R, e1, l1, r1, f1, g1, _⟩ := rem_w a0 7 (by decide) (by decide)
  have hpo : (pcells pl0 (.slice none 0 0) (.slice none 0 0) (.slice none 0 0)).all (·.oneCell') = true := one_of (w := w) (L8.nilr w) (L8.nilr w) (L8.nilh w)
  obtain ⟨i0, hi0, hz0, hz1, hz2⟩ := info_parts info_i64
  clear he f1 g1
  go_enter Tryd.func4, Tryd.ntmps4
  go_wp2_with fail
  refine (L8.Plain_c _).mono ?_
  rintro e w1 ⟨rfl, hx1⟩
  obtain ⟨W2, ba, hW2, hba, hx2, hB2⟩ := layZ w1
  have hla : w.heap.size ≤ ba := by have := hx1.size; omega
  go_wp2_with (refine store27 (cs := (pcells pl0 (.slice none 0 0) (.slice none 0 0) (.slice none 0 0))) hB2 rfl rfl hpo rfl rfl rfl rfl ?_)
  intro W3 hB3 hx3
  replace hx3 : Hid (Ext w W3) := hx3.ext (hx1.trans hx2) hla
  have c5 := (cell_of_row W3 ba 5 _ _ _ hB3).trans (show _ = some (.int .i64 12) from rfl)
  have hbl : ba < W3.heap.size := (Array.getElem?_eq_some_iff.1 hB3).1
  replace hB3 : Hid (Blk W3 ba (pcells pl0 (.slice none 0 0) (.slice none 0 0) (.slice none 0 0))) := hB3
  clear hB2 hx2 hx1 hW2 hba hpo
  go_wp2_with (at_make; refine wpList_make_full W3 rfl (.tmp 13) (.tmp 13) 34 rfl W3.heap.size 2 i0 (.int .i64 0) 1 Tryd.underlying34 hi0 hz0 hz1 .i64 .i64 12 12 12 rfl rfl rfl rfl (by rw [hz2]; omega) (by unfold maxLen; omega) (Nat.le_refl _) ?_)
  intro W4 hown hg
  have hx4 : Ext W3 W4 := Ext.grown hg
  have hr : L4.Arr W4 W3.heap.size 12 (fun _ => 0) := L4.Arr.made (f := fun _ => 0) hown
  replace hB3 := hB3.out.ext hx4
  replace hx4 : Hid (Ext w W4) := hx3.out.trans hx4
  replace c5 := (cell_of_row W4 ba 5 _ _ _ hB3).trans (show _ = some (.int .i64 12) from rfl)
  obtain ⟨g, hgg⟩ : ∃ g, W3.heap.size = g := ⟨_, rfl⟩
  have hlg : w.heap.size ≤ g := by have := hx3.out.size; omega
  rw [hgg] at hr hown hbl ⊢
  have hgb : g ≠ ba := by omega
  replace hB3 : Hid (Blk W4 ba (pcells pl0 (.slice none 0 0) (.slice none 0 0) (.slice none 0 0))) := hB3
  replace hr : Hid (L4.Arr W4 g 12 (fun _ => 0)) := hr
  replace hown : Hid (W4.ownsRow g 2 1 (.slice (some ⟨g, 0, none⟩) 12 12) 12 (madeCells #[Value.int .i64 0] 12).toList) := hown
  have hgs : Hid (g ≤ W4.heap.size) := by show _ ≤ _; have := hg.size; omega
  clear hg hx3 hgg
  go_upto_block 0 with fail
  go_cut [3, 4, 5, 6] from 18 to 41 (fun y v a x wx => y = .pointer (some ⟨ba, 0, none⟩) ∧ ∃ (l : List Int) (A X : Int), a = .int .i64 A ∧ x = .int .i64 X ∧ Hid (Cse R wx v l A X) ∧ Hid (Blk wx ba (pcells pl0 (.slice none 0 0) (.slice none 0 0) (.slice none 0 0))) ∧ Hid (Ext w wx))
  case first =>
    obtain rfl | rfl | rfl | rfl | rfl | rfl | rfl : R = 0 ∨ R = 1 ∨ R = 2 ∨ R = 3 ∨ R = 4 ∨ R = 5 ∨ R = 6 := by omega
    · have hC : Hid (Cse 0 W4 (.slice (some ⟨g, 0, none⟩) 11 12) (List.replicate 11 0) 1000 100) := ⟨arr_11 hr.out, fun _ h => absurd h.1 (by decide), fun h => absurd h (by decide)⟩
      go_wp2
      go_meet
      exact ⟨rfl, _, _, _, rfl, rfl, hC, hB3, hx4⟩
    · go_wp2_with (at_builtin; refine wpList_append_own _ rfl (.tmp 27) (.tmp 28) 34 rfl g 2 i0 (.int .i64 0) 1 8 Tryd.underlying34 hi0 hz0 hz1 hz2 rfl (by decide) _ _ _ rfl (hown.out.alloc _) ⟨W4.heap.size, 0, none⟩ 1 1 [.int .i64 1] rfl rfl ?c1 ?c2 ?c3 ?c4 ?c5 ?_)
      case c1 =>
        intro j u hj
        match j, hj with
        | 0, hj => simp at hj; subst hj; simp [Addr.add]
      case c2 => intro u hu; simp at hu; subst hu; rfl
      case c3 => unfold maxLen; omega
      case c4 => omega
      case c5 => simp; have := hgs.out; omega
      intro v' w5 hown' hgrow _
      have hq5 : w5.ownsRow g 2 1 v' 13 (L4.ints (fun j => if j < 12 then 0 else 1) 13) := by
        have e : (madeCells #[Value.int .i64 0] 12).toList ++ [Value.int .i64 1] = L4.ints (fun j => if j < 12 then 0 else 1) 13 := by rw [toList_madeCells_one]; rfl
        rw [← e]; exact hown'
      obtain ⟨g2, c2, hv2, ha⟩ := L4.Arr.of_own (by decide) hq5
      subst hv2
      have hle : ∀ b, (Value.slice (some ⟨g, 0, none⟩) 12 12).ownBlock = some b → g ≤ b := L4.own_lo hown.out
      have hBa : Blk (W4.alloc (.cells #[.int .i64 1] 2)) ba (pcells pl0 (.slice none 0 0) (.slice none 0 0) (.slice none 0 0)) := hB3.out.ext ((Ext.refl W4).alloc _ _)
      have hB5 : Hid (Blk w5 ba (pcells pl0 (.slice none 0 0) (.slice none 0 0) (.slice none 0 0))) := by
        have := hgrow.block ba (by have := (Array.getElem?_eq_some_iff.1 hBa).1; exact this) (fun hc => by have := hle ba hc.symm; omega)
        show w5.heap[ba]? = _
        rw [this]; exact hBa
      have hx5 : Hid (Ext w w5) := ⟨((hx4.out.alloc _ _).below).grown hgrow (by have := hx4.out.size; simp; omega) (fun b hb => by have := hle b hb; omega)⟩
      have hC : Hid (Cse 1 w5 (.slice (some ⟨g2, 0, none⟩) 13 c2) (fst 13 fun j => if j < 12 then 0 else 1) 1000 100) := ⟨arr_sl ha, fun _ h => absurd h.1 (by rw [fst_length]; decide), fun h => absurd h (by decide)⟩
      clear hown' hgrow hq5 ha hle hBa
      go_wp2
      go_meet
      exact ⟨rfl, _, _, _, rfl, rfl, hC, hB5, hx5⟩
    · have hC : Hid (Cse 2 (W4.setCell ⟨g, 3, none⟩ (.int .i64 (-1))) (.slice (some ⟨g, 0, none⟩) 12 12) (zz.set 3 (-1)) 1000 100) := ⟨arr_set hr.out _, fun _ h => absurd (h.2.1 (-1) (by decide)).1 (by decide), fun h => absurd h (by decide)⟩
      have c3 := hr.out.cell 3 (by decide)
      have z3 := hr.out.free 3 (by decide)
      have hB5 : Hid (Blk (W4.setCell ⟨g, 3, none⟩ (.int .i64 (-1))) ba (pcells pl0 (.slice none 0 0) (.slice none 0 0) (.slice none 0 0))) := L8.Blk.other hB3.out 3 _ (fun e => hgb e.symm)
      have hx5 : Hid (Ext w (W4.setCell ⟨g, 3, none⟩ (.int .i64 (-1)))) := hx4.out.setCell hlg _
      go_wp2
      go_meet
      exact ⟨rfl, _, _, _, rfl, rfl, hC, hB5, hx5⟩
    · have hC : Hid (Cse 3 (W4.setCell ⟨g, 3, none⟩ (.int .i64 267181)) (.slice (some ⟨g, 0, none⟩) 12 12) (zz.set 3 267181) 1000 100) := ⟨arr_set hr.out _, fun _ h => absurd (h.2.1 267181 (by decide)).2 (by decide), fun h => absurd h (by decide)⟩
      have c3 := hr.out.cell 3 (by decide)
      have z3 := hr.out.free 3 (by decide)
      have hB5 : Hid (Blk (W4.setCell ⟨g, 3, none⟩ (.int .i64 267181)) ba (pcells pl0 (.slice none 0 0) (.slice none 0 0) (.slice none 0 0))) := L8.Blk.other hB3.out 3 _ (fun e => hgb e.symm)
      have hx5 : Hid (Ext w (W4.setCell ⟨g, 3, none⟩ (.int .i64 267181))) := hx4.out.setCell hlg _
      go_wp2
      go_meet
      exact ⟨rfl, _, _, _, rfl, rfl, hC, hB5, hx5⟩
    · have hC : Hid (Cse 4 W4 (.slice (some ⟨g, 0, none⟩) 12 12) zz 0 100) := ⟨arr_zz hr.out, fun _ h => absurd h.2.2.1 (by decide), fun h => absurd h (by decide)⟩
      go_wp2
      go_meet
      exact ⟨rfl, _, _, _, rfl, rfl, hC, hB3, hx4⟩
    · have hC : Hid (Cse 5 W4 (.slice (some ⟨g, 0, none⟩) 12 12) zz 10000000000001 100) := ⟨arr_zz hr.out, fun _ h => absurd h.2.2.2 (by decide), fun h => absurd h (by decide)⟩
      go_wp2
      go_meet
      exact ⟨rfl, _, _, _, rfl, rfl, hC, hB3, hx4⟩
    · have hC : Hid (Cse 6 W4 (.slice (some ⟨g, 0, none⟩) 12 12) zz 1000 (-1)) := ⟨arr_zz hr.out, fun h => absurd rfl h, fun _ => ⟨rfl, rfl, rfl⟩⟩
      go_wp2
      go_meet
      exact ⟨rfl, _, _, _, rfl, rfl, hC, hB3, hx4⟩
  case rest =>
  clear hB3 hx4 hr hown hi0 hz0 hz1 hz2 c5 hbl
  obtain ⟨rfl, l, A, X, rfl, rfl, hC, hB, hx⟩ := hcut
  by_cases h6 : R = 6
  · subst h6
    obtain ⟨rfl, rfl, rfl⟩ := hC.out.good rfl
    obtain ⟨b, off, c, rfl, hc⟩ := slc_at hC.out.s (by decide)
    replace hc := show Hid _ from hc
    clear hC
    replace hB := hB.out
    go_wp2_with (refine load27 hB rfl rfl rfl rfl ?_)
    refine (Left_arg pl0 (.slice none 0 0) (.slice none 0 0) (.slice none 0 0) b off c zz 1000 (-1) _ (inp_nil _ pl0 (by decide) rfl rfl rfl) hc.out ok_P okl_P (by decide)).mono ?_
    rintro e w6 ⟨rfl, hy⟩
    replace hB := hB.ext hy
    replace hx : Hid (Ext w w6) := hx.out.trans hy
    replace hc : Hid (∀ (k : Nat) (x : Int), zz[k]? = some x → w6.cell? ⟨b, off + k, none⟩ = some (.int .i64 x)) := fun k x h => hy.cell_of (hc.out k x h)
    clear hy
    go_wp2_with (refine load27 hB rfl rfl rfl rfl ?_)
    refine (Of_yes pl0 (.slice none 0 0) (.slice none 0 0) (.slice none 0 0) b off c zz 1000 84 _ (inp_nil _ pl0 (by decide) rfl rfl rfl) hc.out ok_P okl_P lst_P).mono ?_
    rintro e w7 ⟨rfl, hy⟩
    replace hx : Hid (Ext w w7) := hx.out.trans hy
    clear hy hc hB
    go_wp2_with fail
    refine (awake_w _).mono ?_
    rintro e w8 ⟨rfl, hy⟩
    replace hx : Hid (Ext w w8) := hx.out.trans hy
    clear hy
    go_wp2
    go_ret
    exact ⟨rfl, hx.out⟩
  · have hE : Hid (askE pl0 l A 1) := ask_no (hC.out.bad h6)
    have h6b : (R == 6) = false := by simp [h6]
    have hs := show Hid _ from hC.out.s
    clear hC
    replace hB := hB.out
    go_wp2_with (refine load27 hB rfl rfl rfl rfl ?_)
    refine (Left_no pl0 (.slice none 0 0) (.slice none 0 0) (.slice none 0 0) _ l A X 1 _ (inp_nil _ pl0 (by decide) rfl rfl rfl) hs.out hE.out (by decide)).mono ?_
    rintro e w6 ⟨rfl, hy⟩
    replace hB := hB.ext hy
    replace hx : Hid (Ext w w6) := hx.out.trans hy
    replace hs := show Hid _ from L8.Slc.ext hs.out hy
    clear hy
    go_wp2_with (refine load27 hB rfl rfl rfl rfl ?_)
    refine (Of_no pl0 (.slice none 0 0) (.slice none 0 0) (.slice none 0 0) _ l A 1 _ (inp_nil _ pl0 (by decide) rfl rfl rfl) hs.out hE.out (by decide)).mono ?_
    rintro e w7 ⟨rfl, hy⟩
    replace hx : Hid (Ext w w7) := hx.out.trans hy
    clear hy hs hB hE
    go_wp2_with fail
    refine (awake_w _).mono ?_
    rintro e w8 ⟨rfl, hy⟩
    replace hx : Hid (Ext w w8) := hx.out.trans hy
    clear hy
    go_wp2
    go_ret
    exact ⟨rfl, hx.out⟩

set_option maxRecDepth 100000 in
theorem lifted (os : Os) (started : os.Started) (H : Type) (enc : TypeId × Value → H) :
    ReturnsInHanded {} Tryd.checked os 4 .any (fun w args => (Rows.levelRefusesSpec.pre enc Tryd.prog Tryd.f4 [] false w args ∧ laidMetH Tryd.prog laid w) ∧ sizedMet enc Tryd.prog Tryd.f4 (OpenSpec.ofChange Rows.levelRefusesSpec) false w args)
      (Rows.levelRefusesSpec.post enc Tryd.prog Tryd.f4 false true false false) := by
  refine wrap started (by kernel_rfl) Tryd.func4
    (ChangeSpec.witness_shaped (enc := enc) (C := Tryd.checked) (os := os) (X := fun w _ => laidMetH Tryd.prog laid w) false (World.laidAll Tryd.prog os laid) #[.int .i64 0] 8 (World.laidAll_os _ _ _)
      (World.shaped_of_ZipB (by kernel_rfl) (by kernel_rfl)) (by kernel_rfl) (by kernel_rfl) (by kernel_rfl)
      (by rw [MakeChecks.laidMetH_plain _ _ _ (by kernel_rfl)]; exact laidMet_laidAll _ (by kernel_rfl) (by kernel_rfl))) ?_
  intro W base args ds gs before hval0 hW hE
  have hval : ∀ (j : Nat) t v, Tryd.f4.params[j]? = some t → args[j]? = some v → Value.okWide Tryd.prog W .any base t v := hval0
  have hW' := hW
  obtain ⟨p, q, hA0, hV, rfl, _, _⟩ := hW
  have hA : DataW.TrodAll enc Tryd.prog W 0 (fun _ => true) true Tryd.f4.params.toList args.toList ds p := hA0
  rw [Tryd.params4] at hA hval
  obtain ⟨v0, vs0, d0, ds0, p0, q0, hargs, rfl, rfl, h0, r0⟩ := trodAll_cons hA
  obtain ⟨rfl, rfl, rfl⟩ := trodAll_nil r0
  obtain rfl : args = #[v0] := by cases args; simp_all
  obtain ⟨rfl, rfl⟩ := trodVars_none hV
  obtain ⟨a0, rfl, rfl, rfl, w0⟩ := open_int Tryd.underlying3 (hval 0 3 v0 rfl rfl) h0
  clear hA0 hval0
  simp only [List.append_nil] at hW'
  refine (walk a0 w0 W hE).mono fun e W' ⟨he, hb⟩ => ?_
  subst he
  exact ⟨_, rfl, _, _, _, [], _, [], hW', (trodAll_cons_mk (shut_bool Tryd.underlying4 _) trodAll_mk0), (trodAll_cons_mk (shut_int Tryd.underlying3 w0) trodAll_mk0), rfl, hb.below.frame _, fun h => by cases h⟩

theorem over : Rows.levelRefusesRow.holds Tryd.pinned (OpenSpec.ofChange Rows.levelRefusesSpec) :=
  OpenClaim.holds_of_wide 4 Tryd.f4 rfl rfl rfl rfl rfl rfl rfl ⟨rfl, rfl, rfl, rfl, rfl⟩ rfl rfl rfl rfl rfl (by kernel_rfl) Tryd.func4 (by kernel_rfl)
    (of_decide_eq_true (by kernel_rfl)) (by unfold Func.isWrapper; first | (rw [if_pos (by decide +kernel)]; kernel_rfl) | (rw [if_neg (by decide +kernel)]; exact ⟨rfl, rfl⟩))
    (fun os started H enc _ => lifted os started H enc)
end Go.Proofs.YtafjmpaefikdcaaDoor.levelRefuses
namespace Go.Proofs.YtafjmpaefikdcaaDoor
theorem levelRefuses_holds : Rows.LevelRefusesCardSaid :=
  Claim7.holds_tied_plain_at .later [] [.data] true (true, "27b8051f214bc07ea0621669e8722eb796bc2a6b6ed32521ef53140e0e1bf1d8") true levelRefuses.over (fun _ h => by cases h) (by kernel_rfl) (fun _ h => by cases h) levelRefuses_row_tie rfl ⟨rfl, rfl⟩ (by kernel_rfl) rfl
    (fun f fn hf hfn => by
      obtain rfl : f = 4 := Option.some.inj ((show Tryd.prog.funcNamed "quittance/quittancelaw13.LevelRefuses" = some 4 by kernel_rfl).symm.trans hf) |>.symm
      obtain rfl : fn = Tryd.f4 := (Option.some.inj (Tryd.func4.symm.trans hfn)).symm
      exact ⟨by kernel_rfl, fun j t ht => by
        rw [Tryd.params4] at ht
        have hm : t ∈ [3] := by simpa using Array.mem_of_getElem? ht
        have hall : ([3].all fun u => !Tryd.prog.wantsStandIn u) = true := by kernel_rfl
        exact (show Tryd.prog.wantsStandIn t = false by simpa using List.all_eq_true.1 hall t hm)⟩)
    (by kernel_rfl)
#print axioms levelRefuses_holds
end Go.Proofs.YtafjmpaefikdcaaDoor
