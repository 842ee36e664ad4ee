/- For every amount and all ints, of the project's tree at the commit that COMMIT names, LevelNothing returns true, with the listed variable laid as the program's text lays it. -/
import Derived.Test.YtafjmpaefikdcaaDoorPf
import Derived.Test.YtafjmpaefikdcaaDoorLv8
import Derived.Test.YtafjmpaefikdcaaDoorNo
import Derived.Test.YtafjmpaefikdcaaDoorM6
namespace Go.Proofs.YtafjmpaefikdcaaDoor.levelNothing
open Go.ChangeShapes Go.WideShapes Go.ChangeAt Go.RowKit Go.Lib
set_option linter.unusedVariables false

def plN (T : Nat) (g : Int) : Prd := { pl0 with rt := 0, tm := (T : Int), gr := g }
theorem ok_N (T : Nat) (g : Int) (h1 : 1 ≤ T) (h2 : T ≤ 60) (g0 : 0 ≤ g) (g1 : g < T) : okP (plN T g) = true := by
  obtain ⟨a0, a1, a2, a3, a4, a5, a6, a7, a8, a9, a10⟩ := ok_parts okI_0.ok
  refine ok_of ⟨a0, a1, a2, lz_of (show (1 : Int) ≤ (T : Int) by omega) (show (T : Int) ≤ 600 by omega), ?_, r5_of ⟨lz_of (show (0 : Int) ≤ 0 by decide) (show (0 : Int) ≤ 1000000000 by decide), (r5_parts a5).2⟩, rfl, a7, a8, a9, a10⟩
  show L8.r4B 1 (T : Int) g = true
  unfold L8.r4B
  by_cases h : g = 0
  · simp [h]
  · have : 0 < g := by omega
    simp [this, g1]
theorem okl_N (T : Nat) (g a : Int) (a1 : 1 ≤ a) (a2 : a ≤ 10000000000000) : Okl (plN T g).tm (List.replicate T 0) a :=
  ⟨by simp [plN], fun n hn => by rw [List.eq_of_mem_replicate hn]; decide, a1, a2⟩
theorem lst_N (T : Nat) (g a n : Int) (h1 : 1 ≤ T) (h2 : T ≤ 60) (g0 : 0 ≤ g) (hn : (T : Int) - g = n) (n1 : 1 ≤ n) (a1 : 1 ≤ a) (a2 : a ≤ 10000000000000) : Lst (lvl (plN T g) (List.replicate T 0) a) ((a + n - 1) / n) :=
  lst_free (m := 1) (W := whl 2) (g := g) (l := List.replicate T 0) (Or.inl rfl) (by decide) g0 (by simp; omega) n1 (by omega) a1 a2
theorem arr_rep {w : World} {g T : Nat} (h : L4.Arr w g T (fun _ => 0)) : ∀ (k : Nat) (x : Int), (List.replicate T (0 : Int))[k]? = some x → w.cell? ⟨g, 0 + k, none⟩ = some (.int .i64 x) := fun k x hk => by
  obtain ⟨h1, h2⟩ := List.getElem?_eq_some_iff.1 hk
  have hk' : k < T := by simpa using h1
  have : x = 0 := by rw [← h2]; simp
  rw [Nat.zero_add, h.cell k hk', this]
theorem load_prod {a : Act} {o : Oper} {x : Operand} {g : Nat} {cs : Array Value} {W : World} (ho : o.op = .load 27 x) (hx : a.eval x = .pointer (some ⟨g, 0, none⟩)) (h : Blk W g cs) (hn : cs.size = 19) :
    (execOp a.eval o).run Tryd.prog W = .ok (.value (.agg cs)) W := by
  unfold execOp
  simp only [ho, hx, Instr.loadAt, Instr.sureAddr, Sem.run_bind, Sem.run_pure, Result.andThen_ok, run_loadVar_row W g _ _ cs (0, 0) _ h Tryd.underlying27 rfl (by rw [hn]; kernel_rfl)]
set_option maxRecDepth 100000 in
set_option maxHeartbeats 4000000 in

theorem walk (a0 : Int) (w0 : (Lit.int .i64 a0).wf = true) (a1 : Int) (w1 : (Lit.int .i64 a1).wf = true) (a2 : Int) (w2 : (Lit.int .i64 a2).wf = true) (w : World) (he : Evn w) :
    Calls Tryd.prog 3 #[.int .i64 a0, .int .i64 a1, .int .i64 a2] w fun e w' => e = .returned (.bool true) ∧ Ext w w' := by
  obtain ⟨R1, e1, l1, r1, f1, g1, _⟩ := rem_w a1 60 (by decide) (by decide)
  obtain ⟨T, hT⟩ : ∃ T : Nat, 1 + R1 = (T : Int) := ⟨(1 + R1).toNat, by omega⟩
  rw [hT] at g1
  have t1 : 1 ≤ T := by omega
  have t2 : T ≤ 60 := by omega
  have hu : IntKind.u64.wrap (T : Int) = T := by rw [IntKind.wrap_u64]; omega
  obtain ⟨R2, e2, l2, r2, f2, _, _⟩ := rem_w a2 T (by omega) (by omega)
  obtain ⟨R3, e3, l3, r3, f3, g3, _⟩ := rem_w a0 10000000000000 (by decide) (by decide)
  obtain ⟨A, hA⟩ : ∃ A, 1 + R3 = A := ⟨_, rfl⟩
  rw [hA] at g3
  have A1 : 1 ≤ A := by omega
  have A2 : A ≤ 10000000000000 := by omega
  obtain ⟨n, hn⟩ : ∃ n, (T : Int) - R2 = n := ⟨_, rfl⟩
  have n1 : 1 ≤ n := by omega
  have n2 : n ≤ 60 := by omega
  have hok : Hid (okP (plN T R2) = true) := ok_N T R2 t1 t2 l2 r2
  obtain ⟨v, hv⟩ : ∃ v, (A + n - 1) / n = v := ⟨_, rfl⟩
  have hl : Hid (Lst (lvl (plN T R2) (List.replicate T 0) A) v) := hv ▸ lst_N T R2 A n t1 t2 l2 hn n1 A1 A2
  have hq : (A + n - 1).tdiv n = v := by rw [Int.tdiv_eq_ediv_of_nonneg (by omega)]; exact hv
  have hpo : (pcells pl0 (.slice none 0 0) (.slice none 0 0) (.slice none 0 0)).all (·.oneCell') = true := one_of (w := w) (L8.nilr w) (L8.nilr w) (L8.nilh w)
  obtain ⟨i0, hi0, hz0, hz1, hz2⟩ := info_parts info_i64
  clear he hv
  go_enter Tryd.func3, Tryd.ntmps3
  go_wp2_with fail
  refine (L8.Plain_c _).mono ?_
  rintro e w1 ⟨rfl, hx1⟩
  obtain ⟨W2, ba, hW2, hba, hx2, hB2⟩ := layZ w1
  have hla : w.heap.size ≤ ba := by have := hx1.size; omega
  go_wp2_with (refine store27 (cs := (pcells pl0 (.slice none 0 0) (.slice none 0 0) (.slice none 0 0))) hB2 rfl rfl hpo rfl rfl rfl rfl ?_)
  intro W3 hB3 hx3
  replace hx3 : Hid (Ext w W3) := hx3.ext (hx1.trans hx2) hla
  have z7 := frozen_of_row W3 ba 7 _ _ hB3
  have c7 := (cell_of_row W3 ba 7 _ _ _ hB3).trans (show _ = some (.int .i64 60000000) from rfl)
  have z5 := frozen_of_row W3 ba 5 _ _ hB3
  have c5 := (cell_of_row W3 ba 5 _ _ _ hB3).trans (show _ = some (.int .i64 12) from rfl)
  have z6 := frozen_of_row W3 ba 6 _ _ hB3
  have c6 := (cell_of_row W3 ba 6 _ _ _ hB3).trans (show _ = some (.int .i64 0) from rfl)
  have hB4 : Hid (Blk (((W3.setCell ⟨ba, 7, none⟩ (.int .i64 0)).setCell ⟨ba, 5, none⟩ (.int .i64 (T : Int))).setCell ⟨ba, 6, none⟩ (.int .i64 R2)) ba (pcells (plN T R2) (.slice none 0 0) (.slice none 0 0) (.slice none 0 0))) := L8.Blk.set (L8.Blk.set (L8.Blk.set hB3 7 _) 5 _) 6 _
  have hx4 : Hid (Ext w (((W3.setCell ⟨ba, 7, none⟩ (.int .i64 0)).setCell ⟨ba, 5, none⟩ (.int .i64 (T : Int))).setCell ⟨ba, 6, none⟩ (.int .i64 R2))) := ((hx3.out.setCell hla _).setCell hla _).setCell hla _
  clear hB2 hx2 hB3 hx1 hW2 hba hpo
  go_upto_region 6 with fail
  obtain ⟨W4, hW4⟩ : ∃ W, (((W3.setCell ⟨ba, 7, none⟩ (.int .i64 0)).setCell ⟨ba, 5, none⟩ (.int .i64 (T : Int))).setCell ⟨ba, 6, none⟩ (.int .i64 R2)) = W := ⟨_, rfl⟩
  rw [hW4] at hB4 hx4 ⊢
  clear hW4 c7 z7 c5 z5 c6 z6 hx3
  go_cut [9, 10] from 37 to 45 (fun x y wx => x = .int .i64 v ∧ y = .int .i64 0 ∧ Hid (Ext w wx))
  case first =>
    refine L6.wp_region_thrown (fun W => Blk W ba (pcells (plN T R2) (.slice none 0 0) (.slice none 0 0) (.slice none 0 0))) (fun a => False) [] (fun t => none) (fun c W => False) (by kernel_rfl) (fun _ _ _ _ _ h => h.elim) (hB4.out.ext (Ext.refl W4).drew) (fun hHeld => ?_)
    have hx5 : Hid (Ext w W4.drew) := hx4.out.trans (Ext.refl W4).drew
    obtain ⟨Wd, hWd⟩ : ∃ W, W4.drew = W := ⟨_, rfl⟩
    rw [hWd] at hx5 hHeld ⊢
    clear hWd hB4 hx4
    refine L6.takeT 0 (oi := { dst := some 38, op := Op.load 27 (Operand.tmp 7), type := 27, pos := "law.go:72", after := #[], guard := none }) (v := .agg (pcells (plN T R2) (.slice none 0 0) (.slice none 0 0) (.slice none 0 0))) rfl (by kernel_rfl) (by kernel_rfl) (by kernel_rfl) (by decide) (Or.inl ⟨by rfl, fun W hW => ?_⟩) hHeld ?_
    · exact load_prod rfl rfl hW rfl
    simp only [Act.put, List.setIfInBounds_toArray, List.set_cons_zero, List.set_cons_succ]
    refine L6.takeT 1 (oi := { dst := some 39, op := Op.fieldAddr 27 (Operand.tmp 7) 5, type := 0, pos := "law.go:72", after := #[], guard := none }) (v := .pointer (some ⟨ba, 5, none⟩)) rfl (by kernel_rfl) (by kernel_rfl) (by kernel_rfl) (by decide) (Or.inl ⟨by rfl, fun W hW => ?_⟩) hHeld ?_
    · go_simp
    simp only [Act.put, List.setIfInBounds_toArray, List.set_cons_zero, List.set_cons_succ]
    refine L6.takeT 2 (oi := { dst := some 40, op := Op.load 3 (Operand.tmp 39), type := 3, pos := "law.go:72", after := #[{ on := 1, ground := Ground.data }], guard := none }) (v := .int .i64 (T : Int)) rfl (by kernel_rfl) (by kernel_rfl) (by kernel_rfl) (by decide) (Or.inl ⟨by rfl, fun W hW => ?_⟩) hHeld ?_
    · have hW1 := (cell_of_row W ba 5 _ _ _ (show Blk W ba _ from hW)).trans (show _ = some (.int .i64 (T : Int)) from rfl)
      go_simp
    simp only [Act.put, List.setIfInBounds_toArray, List.set_cons_zero, List.set_cons_succ]
    refine L6.takeT 4 (oi := { dst := some 42, op := Op.move (Operand.tmp 0), type := 2, pos := "law.go:72", after := #[], guard := none }) (v := .int .i64 A) rfl (by kernel_rfl) (by kernel_rfl) (by kernel_rfl) (by decide) (Or.inl ⟨by rfl, fun W hW => ?_⟩) hHeld ?_
    · go_simp
    simp only [Act.put, List.setIfInBounds_toArray, List.set_cons_zero, List.set_cons_succ]
    refine wpAnyH_ready (rs := [3]) (by kernel_rfl) (by simp) ?_
    refine AllReadyH.cons (o := { dst := some 41, op := Op.makeSlice 34 (Operand.tmp 40) (Operand.tmp 40), type := 34, pos := "law.go:72", after := #[{ on := 2, ground := Ground.data }, { on := 2, ground := Ground.data }], guard := none }) rfl (fun K hK => ?_) AllReadyH.nil
    rw [if_pos (by rfl)]
    obtain ⟨W5, hrun, hown, hg⟩ := run_make_full (P := Tryd.prog) (w := Wd) Wd.heap.size 34 2 i0 (.int .i64 0) 1 Tryd.underlying34 hi0 hz0 hz1 .i64 .i64 T (by rw [hz2]; omega) (by unfold maxLen; omega) (Nat.le_refl _)
    have hx6 : Ext Wd W5 := Ext.grown hg
    have hr : L4.Arr W5 Wd.heap.size T (fun _ => 0) := L4.Arr.made (f := fun _ => 0) (by rw [Nat.mul_one] at hown; exact hown)
    obtain ⟨g, hgg⟩ : ∃ g, Wd.heap.size = g := ⟨_, rfl⟩
    rw [hgg] at hr hrun
    unfold Oper.wp
    simp [execOp, go_sem, hrun, Result.andThen]
    refine hK.out _ _ (hHeld.ext hx6) ?_
    clear hK K hHeld
    intro hHeld
    replace hr : Hid (L4.Arr W5 g T (fun _ => 0)) := hr
    replace hx6 : Hid (Ext w W5) := hx5.out.trans hx6
    clear hown hg hx5 hrun hgg
    try simp only [Act.put, List.setIfInBounds_toArray, List.set_cons_zero, List.set_cons_succ]
    refine wpAnyH_ready (rs := [5]) (by kernel_rfl) (by simp) ?_
    refine AllReadyH.cons (o := { dst := some 43, op := Op.call { callee := Callee.value (Operand.func 6), args := #[Operand.tmp 38, Operand.tmp 41, Operand.tmp 42], argTypes := #[27, 34, 2] }, type := 32, pos := "law.go:72", after := #[{ on := 0, ground := Ground.data }, { on := 3, ground := Ground.data }, { on := 4, ground := Ground.data }], guard := none }) rfl (fun K hK => ?_) AllReadyH.nil
    have hO := Of_yes (plN T R2) (.slice none 0 0) (.slice none 0 0) (.slice none 0 0) g 0 T (List.replicate T 0) A v W5 (inp_nil W5 (plN T R2) (by show (4 : Nat) ≤ _; decide) rfl rfl rfl) (arr_rep hr.out) hok.out (okl_N T R2 A A1 A2) hl.out
    rw [List.length_replicate] at hO
    replace hO := show Hid _ from hO
    go_simp
    refine Calls.mono hO.out ?_
    rintro e W6 ⟨rfl, hy⟩
    try dsimp only
    refine hK.out _ _ (hHeld.ext hy) ?_
    clear hK K hHeld
    intro hHeld
    replace hx6 : Hid (Ext w W6) := hx6.out.trans hy
    clear hy hr hO
    try simp only [Act.put, List.setIfInBounds_toArray, List.set_cons_zero, List.set_cons_succ]
    refine L6.takeT 6 (oi := { dst := some 37, op := Op.move (Operand.tmp 43), type := 32, pos := "law.go:72", after := #[{ on := 5, ground := Ground.data }], guard := none }) (v := .tuple #[.int .i64 v, .int .i64 0]) rfl (by kernel_rfl) (by kernel_rfl) (by kernel_rfl) (by decide) (Or.inl ⟨by rfl, fun W hW => ?_⟩) hHeld ?_
    · go_simp
    simp only [Act.put, List.setIfInBounds_toArray, List.set_cons_zero, List.set_cons_succ]
    refine L6.takeT 7 (oi := { dst := some 44, op := Op.extract (Operand.tmp 37) 0, type := 2, pos := "law.go:72", after := #[{ on := 6, ground := Ground.data }], guard := none }) (v := .int .i64 v) rfl (by kernel_rfl) (by kernel_rfl) (by kernel_rfl) (by decide) (Or.inl ⟨by rfl, fun W hW => ?_⟩) hHeld ?_
    · go_simp
    simp only [Act.put, List.setIfInBounds_toArray, List.set_cons_zero, List.set_cons_succ]
    refine L6.takeT 9 (oi := { dst := some 9, op := Op.assign (Operand.tmp 44), type := 2, pos := "law.go:72", after := #[{ on := 7, ground := Ground.data }, { on := 5, ground := Ground.chain }, { on := 0, ground := Ground.phase }, { on := 1, ground := Ground.phase }, { on := 2, ground := Ground.phase }, { on := 3, ground := Ground.phase }, { on := 4, ground := Ground.phase }, { on := 5, ground := Ground.phase }, { on := 6, ground := Ground.phase }, { on := 7, ground := Ground.phase }, { on := 8, ground := Ground.textOnly Departure.lateStores }], guard := none }) (v := .int .i64 v) rfl (by kernel_rfl) (by kernel_rfl) (by kernel_rfl) (by decide) (Or.inl ⟨by rfl, fun W hW => ?_⟩) hHeld ?_
    · go_simp
    simp only [Act.put, List.setIfInBounds_toArray, List.set_cons_zero, List.set_cons_succ]
    refine L6.takeT 8 (oi := { dst := some 45, op := Op.extract (Operand.tmp 37) 1, type := 31, pos := "law.go:72", after := #[{ on := 6, ground := Ground.data }, { on := 9, ground := Ground.gcOnly Departure.lateStores }], guard := none }) (v := .int .i64 0) rfl (by kernel_rfl) (by kernel_rfl) (by kernel_rfl) (by decide) (Or.inl ⟨by rfl, fun W hW => ?_⟩) hHeld ?_
    · go_simp
    simp only [Act.put, List.setIfInBounds_toArray, List.set_cons_zero, List.set_cons_succ]
    refine L6.takeT 10 (oi := { dst := some 10, op := Op.assign (Operand.tmp 45), type := 31, pos := "law.go:72", after := #[{ on := 8, ground := Ground.data }, { on := 9, ground := Ground.chain }, { on := 0, ground := Ground.phase }, { on := 1, ground := Ground.phase }, { on := 2, ground := Ground.phase }, { on := 3, ground := Ground.phase }, { on := 4, ground := Ground.phase }, { on := 5, ground := Ground.phase }, { on := 6, ground := Ground.phase }, { on := 7, ground := Ground.phase }, { on := 8, ground := Ground.phase }, { on := 9, ground := Ground.phase }], guard := none }) (v := .int .i64 0) rfl (by kernel_rfl) (by kernel_rfl) (by kernel_rfl) (by decide) (Or.inl ⟨by rfl, fun W hW => ?_⟩) hHeld ?_
    · go_simp
    simp only [Act.put, List.setIfInBounds_toArray, List.set_cons_zero, List.set_cons_succ]
    refine wpAnyH_done (by kernel_rfl) ?_ _
    refine L6.ThrowQ.normal ?_
    go_wp2
    go_meet
    exact ⟨rfl, rfl, hx6⟩
  case rest =>
  have v1 := hl.out.v1
  have v2 := hl.out.v2
  clear hB4 hx4 hi0 hz0 hz1 hz2 hok hl
  obtain ⟨rfl, rfl, hx⟩ := hcut
  go_wp2_with fail
  refine (awake_w _).mono ?_
  rintro e w8 ⟨rfl, hy⟩
  replace hx : Hid (Ext w w8) := hx.out.trans hy
  clear hy
  go_wp2
  go_ret
  exact ⟨rfl, hx.out⟩

set_option maxRecDepth 100000 in
theorem lifted (os : Os) (started : os.Started) (H : Type) (enc : TypeId × Value → H) :
    ReturnsInHanded {} Tryd.checked os 3 .any (fun w args => (Rows.levelNothingSpec.pre enc Tryd.prog Tryd.f3 [] false w args ∧ laidMetH Tryd.prog laid w) ∧ sizedMet enc Tryd.prog Tryd.f3 (OpenSpec.ofChange Rows.levelNothingSpec) false w args)
      (Rows.levelNothingSpec.post enc Tryd.prog Tryd.f3 false true false false) := by
  refine wrap started (by kernel_rfl) Tryd.func3
    (ChangeSpec.witness_shaped (enc := enc) (C := Tryd.checked) (os := os) (X := fun w _ => laidMetH Tryd.prog laid w) false (World.laidAll Tryd.prog os laid) #[.int .i64 0, .int .i64 0, .int .i64 0] 8 (World.laidAll_os _ _ _)
      (World.shaped_of_ZipB (by kernel_rfl) (by kernel_rfl)) (by kernel_rfl) (by kernel_rfl) (by kernel_rfl)
      (by rw [MakeChecks.laidMetH_plain _ _ _ (by kernel_rfl)]; exact laidMet_laidAll _ (by kernel_rfl) (by kernel_rfl))) ?_
  intro W base args ds gs before hval0 hW hE
  have hval : ∀ (j : Nat) t v, Tryd.f3.params[j]? = some t → args[j]? = some v → Value.okWide Tryd.prog W .any base t v := hval0
  have hW' := hW
  obtain ⟨p, q, hA0, hV, rfl, _, _⟩ := hW
  have hA : DataW.TrodAll enc Tryd.prog W 0 (fun _ => true) true Tryd.f3.params.toList args.toList ds p := hA0
  rw [Tryd.params3] at hA hval
  obtain ⟨v0, vs0, d0, ds0, p0, q0, hargs, rfl, rfl, h0, r0⟩ := trodAll_cons hA
  obtain ⟨v1, vs1, d1, ds1, p1, q1, rfl, rfl, rfl, h1, r1⟩ := trodAll_cons r0
  obtain ⟨v2, vs2, d2, ds2, p2, q2, rfl, rfl, rfl, h2, r2⟩ := trodAll_cons r1
  obtain ⟨rfl, rfl, rfl⟩ := trodAll_nil r2
  obtain rfl : args = #[v0, v1, v2] := by cases args; simp_all
  obtain ⟨rfl, rfl⟩ := trodVars_none hV
  obtain ⟨a0, rfl, rfl, rfl, w0⟩ := open_int Tryd.underlying2 (hval 0 2 v0 rfl rfl) h0
  obtain ⟨a1, rfl, rfl, rfl, w1⟩ := open_int Tryd.underlying3 (hval 1 3 v1 rfl rfl) h1
  obtain ⟨a2, rfl, rfl, rfl, w2⟩ := open_int Tryd.underlying3 (hval 2 3 v2 rfl rfl) h2
  clear hA0 hval0
  simp only [List.append_nil] at hW'
  refine (walk a0 w0 a1 w1 a2 w2 W hE).mono fun e W' ⟨he, hb⟩ => ?_
  subst he
  exact ⟨_, rfl, _, _, _, [], _, [], hW', (trodAll_cons_mk (shut_bool Tryd.underlying4 _) trodAll_mk0), (trodAll_cons_mk (shut_int Tryd.underlying2 w0) (trodAll_cons_mk (shut_int Tryd.underlying3 w1) (trodAll_cons_mk (shut_int Tryd.underlying3 w2) trodAll_mk0))), rfl, hb.below.frame _, fun h => by cases h⟩

theorem over : Rows.levelNothingRow.holds Tryd.pinned (OpenSpec.ofChange Rows.levelNothingSpec) :=
  OpenClaim.holds_of_wide 3 Tryd.f3 rfl rfl rfl rfl rfl rfl rfl ⟨rfl, rfl, rfl, rfl, rfl⟩ rfl rfl rfl rfl rfl (by kernel_rfl) Tryd.func3 (by kernel_rfl)
    (of_decide_eq_true (by kernel_rfl)) (by unfold Func.isWrapper; first | (rw [if_pos (by decide +kernel)]; kernel_rfl) | (rw [if_neg (by decide +kernel)]; exact ⟨rfl, rfl⟩))
    (fun os started H enc _ => lifted os started H enc)
end Go.Proofs.YtafjmpaefikdcaaDoor.levelNothing
namespace Go.Proofs.YtafjmpaefikdcaaDoor
theorem levelNothing_holds : Rows.LevelNothingCardSaid :=
  Claim7.holds_tied_plain_at .later [] [.data] true (true, "27b8051f214bc07ea0621669e8722eb796bc2a6b6ed32521ef53140e0e1bf1d8") true levelNothing.over (fun _ h => by cases h) (by kernel_rfl) (fun _ h => by cases h) levelNothing_row_tie rfl ⟨rfl, rfl⟩ (by kernel_rfl) rfl
    (fun f fn hf hfn => by
      obtain rfl : f = 3 := Option.some.inj ((show Tryd.prog.funcNamed "quittance/quittancelaw13.LevelNothing" = some 3 by kernel_rfl).symm.trans hf) |>.symm
      obtain rfl : fn = Tryd.f3 := (Option.some.inj (Tryd.func3.symm.trans hfn)).symm
      exact ⟨by kernel_rfl, fun j t ht => by
        rw [Tryd.params3] at ht
        have hm : t ∈ [2, 3, 3] := by simpa using Array.mem_of_getElem? ht
        have hall : ([2, 3, 3].all fun u => !Tryd.prog.wantsStandIn u) = true := by kernel_rfl
        exact (show Tryd.prog.wantsStandIn t = false by simpa using List.all_eq_true.1 hall t hm)⟩)
    (by kernel_rfl)
#print axioms levelNothing_holds
end Go.Proofs.YtafjmpaefikdcaaDoor
