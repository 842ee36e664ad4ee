/- For every byte c and bool more, of the project's tree at the commit that COMMIT names, LexerLong returns true and leaves its arguments as they were, with the listed variables laid as the program's text lays them. -/
import Derived.Test.YtocdkgmmnkmlpaaDoorFrame
import Derived.Test.YtocdkgmmnkmlpaaDoorLong0
namespace Go.Proofs.YtocdkgmmnkmlpaaDoor.lexerLong
open Go.ChangeShapes Go.WideShapes Go.ChangeAt Go.RowKit Go.Lib
set_option linter.unusedVariables false

set_option maxHeartbeats 4000000 in
set_option maxRecDepth 100000 in

theorem walk (a0 : Int) (w0 : (Lit.int .u8 a0).wf = true) (a1 : Bool) (w : World) (he : Env w) :
    Calls Tryd.prog 6 #[.int .u8 a0, .bool a1] w fun e w' => e = .returned (.bool true) ∧ Ext w w' := by
  replace he : Hid (Env w) := he
  have hb : 0 ≤ a0 ∧ a0 ≤ 255 := by
    have h : IntKind.u8.min ≤ a0 ∧ a0 ≤ IntKind.u8.max := by simpa [Lit.wf] using w0
    exact h
  clear w0
  obtain ⟨b0, b1⟩ := hb
  obtain ⟨i0, hi, hz0, hz1, hz2⟩ := info_parts info_u8
  obtain ⟨c, hc, hlet⟩ := let_of a0 b0
  obtain ⟨x, hx97⟩ : ∃ x, 97 + a0 % 26 = x := ⟨_, rfl⟩
  have x0 : 0 ≤ x := by omega
  have x1 : x ≤ 255 := by omega
  rw [hx97] at hc
  have hcx : Hid ((c.toNat : Int) = x) := hc
  replace hlet := show Hid _ from hlet
  clear hc
  cases a1
  · go_enter Tryd.func6, Tryd.ntmps6
    go_wp2_with (at_make; refine wpList_make_full w rfl (.tmp 14) (.tmp 14) 32 rfl w.heap.size 5 i0 (.int .u8 0) 1 Tryd.underlying32 hi hz0 hz1 .i64 .i64 20000 20000 20000 rfl rfl rfl rfl (by rw [hz2]; omega) (by unfold maxLen; omega) (Nat.le_refl _) ?_)
    intro w1 hown hg
    have hx := show Hid (Ext w w1) from Ext.grown hg
    have hr := show Hid (Fil w1 w.heap.size 20000 0 x) from Fil.made hown
    obtain ⟨g, hgg⟩ : ∃ g, w.heap.size = g := ⟨_, rfl⟩
    have lo : w.heap.size ≤ g := by omega
    rw [hgg] at hr ⊢
    clear hown hg hi hz0 hz1 hz2 hgg
    go_wp2_with fail
    go_loopw [18] (fun i wr => ∃ k : Nat, k ≤ 20000 ∧ i = .int .i64 (k : Int) ∧ Hid (Fil wr g 20000 k x) ∧ Hid (Ext w wr)) (fun i _ => 20000 - (RowKit.intOf i).toNat)
    case atStart => exact ⟨0, Nat.zero_le _, rfl, hr, hx⟩
    case round =>
      clear hr hx
      obtain ⟨k, hk, rfl, hr, hx⟩ := hrel
      by_cases hlt : k < 20000
      · have c1 := hr.out.cell k hlt
        have c2 := hr.out.free k hlt
        rw [if_neg (Nat.lt_irrefl k)] at c1
        go_wp2
        go_roundw
        case rel => exact ⟨k + 1, by omega, by go_num, hr.out.store, hx.out.setCell lo _⟩
        case measure => simp [RowKit.intOf]; omega
      · obtain rfl : k = 20000 := by omega
        have he1 : Hid (Env wr) := he.out.ext hx.out
        have hcv : (convert 32 9 (.slice (some ⟨g, 0, none⟩) 20000 20000)).run Tryd.prog wr = .ok (.string ⟨(List.replicate 20000 c).toArray⟩) wr := conv_fil (by rw [hcx.out]; exact hr.out) 20000
        obtain ⟨L, hL⟩ : ∃ L, List.replicate 20000 c = L := ⟨_, rfl⟩
        have hLl : L.length = 20000 := by rw [← hL, List.length_replicate]
        rw [hL] at hcv
        replace hL := show Hid _ from hL
        clear hr
        have h3 := rep_ok c hlet.out
        rw [hL.out] at h3
        replace h3 := show Hid _ from h3
        go_wp2_with fail
        refine (All_x L _ _ _ h3.out.2.2 h3.out.1 h3.out.2.1 _ (by omega) he1).mono ?_
        rintro e w2 ⟨⟨v, rfl, ho⟩, hx1⟩
        replace he1 : Hid (Env w2) := he1.out.ext hx1
        replace hx : Hid (Ext w w2) := hx.out.trans hx1
        clear hx1 hcv
        replace ho := show Hid (Own _ w2 v _) from ho
        go_wp2_with fail
        refine (awake_c _ he1).mono ?_
        rintro e w3 ⟨rfl, hx1⟩
        replace hx : Hid (Ext w w3) := hx.out.trans hx1
        obtain ⟨g2, c2, rfl, hrow⟩ := (ho.out.ext hx1).some (by simp)
        have s0 := hrow.s 0 _ rfl
        have s1 := hrow.a 1 _ rfl
        simp only at s0 s1
        replace hrow := show Hid _ from hrow
        clear hx1 ho
        go_wp2
        go_ret
        exact ⟨rfl, hx.out⟩
  · go_enter Tryd.func6, Tryd.ntmps6
    go_wp2_with (at_make; refine wpList_make_full w rfl (.tmp 14) (.tmp 14) 32 rfl w.heap.size 5 i0 (.int .u8 0) 1 Tryd.underlying32 hi hz0 hz1 .i64 .i64 20001 20001 20001 rfl rfl rfl rfl (by rw [hz2]; omega) (by unfold maxLen; omega) (Nat.le_refl _) ?_)
    intro w1 hown hg
    have hx := show Hid (Ext w w1) from Ext.grown hg
    have hr := show Hid (Fil w1 w.heap.size 20001 0 x) from Fil.made hown
    obtain ⟨g, hgg⟩ : ∃ g, w.heap.size = g := ⟨_, rfl⟩
    have lo : w.heap.size ≤ g := by omega
    rw [hgg] at hr ⊢
    clear hown hg hi hz0 hz1 hz2 hgg
    go_wp2_with fail
    go_loopw [18] (fun i wr => ∃ k : Nat, k ≤ 20001 ∧ i = .int .i64 (k : Int) ∧ Hid (Fil wr g 20001 k x) ∧ Hid (Ext w wr)) (fun i _ => 20001 - (RowKit.intOf i).toNat)
    case atStart => exact ⟨0, Nat.zero_le _, rfl, hr, hx⟩
    case round =>
      clear hr hx
      obtain ⟨k, hk, rfl, hr, hx⟩ := hrel
      by_cases hlt : k < 20001
      · have c1 := hr.out.cell k hlt
        have c2 := hr.out.free k hlt
        rw [if_neg (Nat.lt_irrefl k)] at c1
        go_wp2
        go_roundw
        case rel => exact ⟨k + 1, by omega, by go_num, hr.out.store, hx.out.setCell lo _⟩
        case measure => simp [RowKit.intOf]; omega
      · obtain rfl : k = 20001 := by omega
        have he1 : Hid (Env wr) := he.out.ext hx.out
        have hcv : (convert 32 9 (.slice (some ⟨g, 0, none⟩) 20001 20001)).run Tryd.prog wr = .ok (.string ⟨(List.replicate 20001 c).toArray⟩) wr := conv_fil (by rw [hcx.out]; exact hr.out) 20001
        obtain ⟨L, hL⟩ : ∃ L, List.replicate 20001 c = L := ⟨_, rfl⟩
        have hLl : L.length = 20001 := by rw [← hL, List.length_replicate]
        rw [hL] at hcv
        replace hL := show Hid _ from hL
        clear hr
        have h3 := rep_no c
        rw [hL.out] at h3
        replace h3 := show Hid _ from h3
        go_wp2_with fail
        refine (All_x L _ _ _ h3.out.2.2 h3.out.1 h3.out.2.1 _ (by omega) he1).mono ?_
        rintro e w2 ⟨⟨v, rfl, ho⟩, hx1⟩
        replace he1 : Hid (Env w2) := he1.out.ext hx1
        replace hx : Hid (Ext w w2) := hx.out.trans hx1
        clear hx1 hcv
        replace ho := show Hid (Own _ w2 v _) from ho
        go_wp2_with fail
        refine (awake_c _ he1).mono ?_
        rintro e w3 ⟨rfl, hx1⟩
        replace hx : Hid (Ext w w3) := hx.out.trans hx1
        obtain ⟨ao, m, rfl, hm0⟩ : ∃ ao m, v = .slice ao 0 m ∧ True := by
          rcases ho.out.read with ⟨rfl, _⟩ | ⟨g2, c2, rfl, _⟩
          · exact ⟨_, _, rfl, trivial⟩
          · exact ⟨_, _, rfl, trivial⟩
        clear hx1 ho hm0
        go_wp2
        go_ret
        exact ⟨rfl, hx.out⟩

set_option maxRecDepth 100000 in
theorem lifted (os : Os) (started : os.Started) (H : Type) (enc : TypeId × Value → H) :
    ReturnsInHanded {} Tryd.checked os 6 .any (fun w args => (Rows.lexerLongSpec.pre enc Tryd.prog Tryd.f6 [] false w args ∧ laidMetH Tryd.prog laid w) ∧ sizedMet enc Tryd.prog Tryd.f6 (OpenSpec.ofChange Rows.lexerLongSpec) false w args)
      (Rows.lexerLongSpec.post enc Tryd.prog Tryd.f6 false true false false) := by
  refine wrap started (by kernel_rfl) Tryd.func6
    (ChangeSpec.witness_shaped (enc := enc) (C := Tryd.checked) (os := os) (X := fun w _ => laidMetH Tryd.prog laid w) false (World.laidAll Tryd.prog os laid) #[.int .u8 0, .bool false] 8 (World.laidAll_os _ _ _)
      (World.shaped_of_ZipB (by kernel_rfl) (by kernel_rfl)) (by kernel_rfl) (by kernel_rfl) (by kernel_rfl)
      (by rw [MakeChecks.laidMetH_plain _ _ _ (by kernel_rfl)]; exact laidMet_laidAll _ (by kernel_rfl) (by kernel_rfl))) ?_
  intro W base args ds gs before hval0 hW hE
  have hval : ∀ (j : Nat) t v, Tryd.f6.params[j]? = some t → args[j]? = some v → Value.okWide Tryd.prog W .any base t v := hval0
  have hW' := hW
  obtain ⟨p, q, hA0, hV, rfl, _, _⟩ := hW
  have hA : DataW.TrodAll enc Tryd.prog W 0 (fun _ => true) true Tryd.f6.params.toList args.toList ds p := hA0
  rw [Tryd.params6] at hA hval
  obtain ⟨v0, vs0, d0, ds0, p0, q0, hargs, rfl, rfl, h0, r0⟩ := trodAll_cons hA
  obtain ⟨v1, vs1, d1, ds1, p1, q1, rfl, rfl, rfl, h1, r1⟩ := trodAll_cons r0
  obtain ⟨rfl, rfl, rfl⟩ := trodAll_nil r1
  obtain rfl : args = #[v0, v1] := by cases args; simp_all
  obtain ⟨rfl, rfl⟩ := trodVars_none hV
  obtain ⟨a0, rfl, rfl, rfl, w0⟩ := open_int Tryd.underlying5 (hval 0 5 v0 rfl rfl) h0
  obtain ⟨a1, rfl, rfl, rfl⟩ := open_bool Tryd.underlying4 (hval 1 4 v1 rfl rfl) h1
  clear hA0 hval0
  simp only [List.append_nil] at hW'
  refine (walk a0 w0 a1 W hE).mono fun e W' ⟨he, hb⟩ => ?_
  subst he
  exact ⟨_, rfl, _, _, _, [], _, [], hW', (trodAll_cons_mk (shut_bool Tryd.underlying4 _) trodAll_mk0), (trodAll_cons_mk (shut_int Tryd.underlying5 w0) (trodAll_cons_mk (shut_bool Tryd.underlying4 _) trodAll_mk0)), rfl, hb.below.frame _, fun h => by cases h⟩

theorem over : Rows.lexerLongRow.holds Tryd.pinned (OpenSpec.ofChange Rows.lexerLongSpec) :=
  OpenClaim.holds_of_wide 6 Tryd.f6 rfl rfl rfl rfl rfl rfl rfl ⟨rfl, rfl, rfl, rfl, rfl⟩ rfl rfl rfl rfl rfl (by kernel_rfl) Tryd.func6 (by kernel_rfl)
    (of_decide_eq_true (by kernel_rfl)) (by unfold Func.isWrapper; first | (rw [if_pos (by decide +kernel)]; kernel_rfl) | (rw [if_neg (by decide +kernel)]; exact ⟨rfl, rfl⟩))
    (fun os started H enc _ => lifted os started H enc)
end Go.Proofs.YtocdkgmmnkmlpaaDoor.lexerLong
namespace Go.Proofs.YtocdkgmmnkmlpaaDoor
theorem lexerLong_holds : Rows.LexerLongCardSaid :=
  Claim7.holds_tied_plain_at .later [] [.data, .pinned] true (true, "bb02076f46fe85bca606fee8305af3083b78a2dd3027bd5c5d7b576488f40cbf") true lexerLong.over (fun _ h => by cases h) (by kernel_rfl) (fun _ h => by cases h) lexerLong_row_tie rfl ⟨rfl, rfl⟩ (by kernel_rfl) rfl
    (fun f fn hf hfn => by
      obtain rfl : f = 6 := Option.some.inj ((show Tryd.prog.funcNamed "quittance/quittancelaw07.LexerLong" = some 6 by kernel_rfl).symm.trans hf) |>.symm
      obtain rfl : fn = Tryd.f6 := (Option.some.inj (Tryd.func6.symm.trans hfn)).symm
      exact ⟨by kernel_rfl, fun j t ht => by
        rw [Tryd.params6] at ht
        have hm : t ∈ [5, 4] := by simpa using Array.mem_of_getElem? ht
        have hall : ([5, 4].all fun u => !Tryd.prog.wantsStandIn u) = true := by kernel_rfl
        exact (show Tryd.prog.wantsStandIn t = false by simpa using List.all_eq_true.1 hall t hm)⟩)
    (by kernel_rfl)
#print axioms lexerLong_holds
end Go.Proofs.YtocdkgmmnkmlpaaDoor
