/- Contracts that the proof of this law leans on: no statement of the seat is proved here. -/
import Derived.Carry
import Derived.ChangeSame
import Derived.ChangeSlices
import Derived.Deep.AppendSrc
import Derived.Deep.Cut
import Derived.Deep.RegionHeld3
import Derived.Deep.SlicePairs
import Derived.OpenShut
import Derived.ProofKit
import Derived.ShutString
import Derived.Test.YtaafagggjnemgaaGreatDoorRows
import Derived.Test.YtaafagggjnemgaaGreatDoorQ1
import Derived.Test.YtaafagggjnemgaaGreatDoorQ6

namespace Go.Proofs.YtaafagggjnemgaaGreatDoor.L8
open Go.RowKit
set_option linter.unusedVariables false
/-- What is asked behind a region; behind a throw: of what is deferred, of some slots, and of the world. -/
def ThrowQ (Q : Exit → Act → World → Prop) (D : Act → Prop) (keep : List Nat) (T : Nat → Option Value) (R : List PanicEntry → World → Prop) : Exit → Act → World → Prop
  | .panic c, a, w => D { a with tmps := #[] } ∧ (∀ t ∈ keep, a.tmps[t]? = T t) ∧ R c w
  | e, a, w => Q e a w
theorem ThrowQ.imp {Q : Exit → Act → World → Prop} {D : Act → Prop} {keep : List Nat} {T : Nat → Option Value} {R : List PanicEntry → World → Prop}
    (h : ∀ c a w, D { a with tmps := #[] } → (∀ t ∈ keep, a.tmps[t]? = T t) → R c w → Q (.panic c) a w) : ∀ e a w, ThrowQ Q D keep T R e a w → Q e a w := fun e a w k => by
  cases e <;> first | exact k | exact h _ _ _ k.1 k.2.1 k.2.2
theorem ThrowQ.normal {Q : Exit → Act → World → Prop} {D : Act → Prop} {keep : List Nat} {T : Nat → Option Value} {R : List PanicEntry → World → Prop} {a : Act} {w : World} (h : Q .normal a w) : ThrowQ Q D keep T R .normal a w := h
theorem put_defers (a : Act) (d : Option Tmp) (v : Value) : ({ a.put d v with tmps := #[] } : Act) = { a with tmps := #[] } := by cases d <;> rfl
theorem put_tmps (a : Act) (d : Option Tmp) (v : Value) (t : Nat) (h : d ≠ some t) : (a.put d v).tmps[t]? = a.tmps[t]? := by
  cases d with
  | none => rfl
  | some k => exact Array.getElem?_setIfInBounds_ne (fun e => h (by rw [e]))
section
variable {P : Program} {ops : Array Oper} {md : Region.Mode} {S : World → Prop} {Q : Exit → Act → World → Prop} {D : Act → Prop} {keep : List Nat} {T : Nat → Option Value} {R : List PanicEntry → World → Prop}
theorem takeT (i : Nat) {oi : Oper} {v : Value} {fuel : Nat} {listed : Array Bool} {a : Act} {w : World} (hi : ops[i]? = some oi)
    (hs : Region.noSelect ops = true) (hf : Region.free md ops listed i = true) (hr : (Region.ready md ops listed).contains i = true) (hd : ∀ t ∈ keep, oi.dst ≠ some t)
    (hy : YieldsIf P ops S oi v a) (hS : S w)
    (h : wpAnyH P md ops (ThrowQ Q D keep T R) S fuel (listed.setIfInBounds i true) (a.put oi.dst v) w) : wpAnyH P md ops (ThrowQ Q D keep T R) S (fuel + 1) listed a w :=
  wpAnyH_take hi hs hf hr (fun c a w ⟨h1, h2, h3⟩ => ⟨put_defers a oi.dst v ▸ h1, fun t ht => (put_tmps a oi.dst v t (hd t ht)) ▸ h2 t ht, h3⟩) hy hS h
end
theorem wp_region_thrown {P : Program} {id : Nat} {Q : Exit → Act → World → Prop} {a : Act} {w : World} {l : List Oper} (S : World → Prop) (D : Act → Prop) (keep : List Nat) (T : Nat → Option Value) (R : List PanicEntry → World → Prop) (hm : P.follows .mixedOrders = true)
    (hp : ∀ c a w, D { a with tmps := #[] } → (∀ t ∈ keep, a.tmps[t]? = T t) → R c w → Q (.panic c) a w) (hS : S w.drew)
    (h : S w.drew → wpAnyH P .any l.toArray (ThrowQ Q D keep T R) S l.toArray.size (Array.replicate l.toArray.size false) a w.drew) : (Code.region id l.toArray true).wp P Q a w :=
  Code.wp_mono (ThrowQ.imp hp) (wp_region_held_drew hm hS h)
end Go.Proofs.YtaafagggjnemgaaGreatDoor.L8

namespace Go.Proofs.YtaafagggjnemgaaGreatDoor.L8
open Go.RowKit Go.ChangeShapes Go.WideShapes Go.ChangeAt
theorem own : ownKnob Tryz.prog.godebug = none := by kernel_rfl
theorem cells_int : Tryz.prog.cellsOf 3 = 1 := by kernel_rfl
set_option maxRecDepth 100000 in
/-- A slice of ints among the arguments: its numbers; and it reads the same behind a call that only makes new memory. -/
theorem open_slc {H : Type} {enc : TypeId × Value → H} {W : World} {base : Nat} {v : Value} {d : DataW H} {ps : List MemPlace} (hval : Value.okWide Tryz.prog W .any base 25 v) (h : DataW.Trod enc Tryz.prog W 0 (fun _ => true) true 25 v d ps) :
    ∃ l : List Int, Slc W v l ∧ l.length ≤ maxLen ∧ (∀ x ∈ l, I64 x) ∧ ∀ W' : World, Ext W W' → DataW.Trod enc Tryz.prog W' 0 (fun b => decide (b < W.heap.size)) true 25 v d ps := by
  obtain ⟨a0, len, cap, rfl⟩ := okWide_slice Tryz.underlying25 hval
  obtain ⟨fuel, hf⟩ := h
  rcases open_ints Tryz.underlying25 Tryz.underlying3 cells_int hf with ⟨hcs, hx⟩ | ⟨a, len', cap', zs, hcs, _, hl, hm, hz, hx, hcell, hwz⟩
  · simp [Value.cells] at hcs
    obtain ⟨rfl, rfl, rfl⟩ := hcs
    simp only [Prod.mk.injEq] at hx
    obtain ⟨rfl, rfl⟩ := hx
    exact ⟨[], Or.inl ⟨none, 0, rfl, (fun _ => rfl), rfl⟩, Nat.zero_le _, (fun x hx => by cases hx), fun W' _ => shut_slice_nil Tryz.underlying25⟩
  · simp [Value.cells] at hcs
    obtain ⟨rfl, rfl, rfl⟩ := hcs
    simp only [Prod.mk.injEq] at hx
    obtain ⟨rfl, rfl⟩ := hx
    simp only [if_true] at hz
    have hwz' := hwz
    refine ⟨zs.take len, ?_, by simp; omega, fun x hx => bounds_i64 (hwz x (List.mem_of_mem_take hx)), fun W' hX => ?_⟩
    · by_cases hl0 : len = 0
      · subst hl0
        exact Or.inl ⟨some a, cap, rfl, (fun h => by cases h), by simp⟩
      · obtain ⟨b, off, spot⟩ := a
        have hspot : spot = none := by simpa [Addr.add] using World.cell?_spot (hcell 0 (by omega))
        subst hspot
        refine Or.inr ⟨b, off, cap, by rw [List.length_take, Nat.min_eq_left (by omega)], fun k x hk => ?_⟩
        have hk' : k < len := by
          have := (List.getElem?_eq_some_iff.1 hk).1
          simp at this; omega
        have := hcell k (by omega)
        rw [List.getElem?_take_of_lt hk'] at hk
        rw [add_plain] at this
        simpa [List.getD, hk] using this
    · by_cases hz0 : zs.length = 0
      · have hc0 : cap = 0 := by omega
        have hl0 : len = 0 := by omega
        subst hc0; subst hl0
        have t0 := shut_ints (enc := enc) (P := Tryz.prog) (w := W') (base := 0) (spare := fun b => decide (b < W.heap.size)) (held := true) (a := a) (len := 0) (cap := 0) (zs := zs) 0 Tryz.underlying25 Tryz.underlying3 cells_int (Nat.zero_le _) (Nat.le_refl _) hm (by simp [hz0]) (fun i hi => by omega) hwz
        exact ⟨2, by simpa [Value.cells] using t0⟩
      · obtain ⟨b, off, spot⟩ := a
        have hspot : spot = none := by simpa [Addr.add] using World.cell?_spot (hcell 0 (by omega))
        subst hspot
        have hb : b < W.heap.size := by have := hcell 0 (by omega); rw [add_plain] at this; exact lt_of_cell this
        have t0 := shut_ints (enc := enc) (P := Tryz.prog) (w := W') (base := 0) (spare := fun b => decide (b < W.heap.size)) (held := true) (a := ⟨b, off, none⟩) (len := len) (cap := cap) (zs := zs) 0 Tryz.underlying25 Tryz.underlying3 cells_int (Nat.zero_le _) hl hm (by simp [hb, hz]) (fun i hi => by
          have := hcell i hi
          rw [add_plain] at this ⊢
          exact hX.cell_of this) hwz
        exact ⟨2, by simpa [Value.cells] using t0⟩
end Go.Proofs.YtaafagggjnemgaaGreatDoor.L8

namespace Go.Proofs.YtaafagggjnemgaaGreatDoor.L8
open Go.RowKit
set_option linter.unusedVariables false
/-- A whole product out of its block, where it is wanted. -/
theorem load27 {ops : Array Oper} {rest : List Oper} {o : Oper} {a : Act} {w : World} {Q : Exit → Act → World → Prop} {x : Operand} {g : Nat} {cs : Array Value} (hg : Blk w g cs) (hn : cs.size = 19) (ho : o.op = .load 27 x)
    (hx : a.eval x = .pointer (some ⟨g, 0, none⟩)) (hw : Region.wanted o (yielded ops a.tmps) = true)
    (h : wpList Tryz.prog ops Q rest (a.put o.dst (.agg cs)) w) : wpList Tryz.prog ops Q (o :: rest) a w :=
  wpList_step fun K hK => by
    rw [if_pos hw]
    exact wp_load_row _ x ho g hx _ cs (0, 0) _ hg Tryz.underlying27 rfl (by rw [hn]; kernel_rfl) (hK _ _ h)
end Go.Proofs.YtaafagggjnemgaaGreatDoor.L8

namespace Go.Proofs.YtaafagggjnemgaaGreatDoor.L8
open Go.RowKit
set_option linter.unusedVariables false
theorem rbad1 {tm X x y : Int} {l : List (Int × Int)} (X0 : 0 ≤ X) (h : x < 1 ∨ tm - 1 < x) (n : Nat) : ((decide (X < x) && (decide (x < tm) && (lz y 0 1000000000 && rsB tm x l))) && decide (n ≤ 20)) = false := by
  rcases h with h | h
  · rw [decide_eq_false (show ¬ X < x by omega)]; rfl
  · rw [decide_eq_false (show ¬ x < tm by omega)]; simp
theorem rbad2 {tm X x y : Int} {l : List (Int × Int)} (Y0 : True) (h : y < 0 ∨ 1000000000 < y) (n : Nat) : ((decide (X < x) && (decide (x < tm) && (lz y 0 1000000000 && rsB tm x l))) && decide (n ≤ 20)) = false := by
  rw [(lz_no _ _ _).2 h]; simp
set_option maxHeartbeats 1000000 in
theorem rresets_x (nm : List UInt8) (cn rd kd ev tm gr rt : Int) (vr : Value) (rs : List (Int × Int)) (pn o0 o1 o2 o3 ov : Int) (vl : Value) (lt : List (Int × Int)) (cp rl : Int) (vh : Value) (hd : List Int) (s off c : Nat) (hvv : vr = .slice (some ⟨s, off, none⟩) rs.length c) (w : World) (ht1 : 1 ≤ tm) (ht2 : tm ≤ 600) (hl : rs.length ≤ 9223372036854775807) (sr : Slp w vr rs) (sl : Slp w vl lt) (sh : Slc w vh hd)
    (hc : ∀ (k : Nat) (x y : Int), rs[k]? = some (x, y) → w.cell? ⟨s, off + k * 2, none⟩ = some (.int .i64 x) ∧ w.cell? ⟨s, off + k * 2 + 1, none⟩ = some (.int .i64 y)) :
    Calls Tryz.prog 41 #[.agg #[.string ⟨nm.toArray⟩, .int .i64 cn, .int .i64 rd, .int .i64 kd, .int .i64 ev, .int .i64 tm, .int .i64 gr, .int .i64 rt, vr, .int .i64 pn, .int .i64 o0, .int .i64 o1, .int .i64 o2, .int .i64 o3, .int .i64 ov, vl, .int .i64 cp, .int .i64 rl, vh]] w fun e w' => e = .returned (.bool (r6B tm rs)) ∧ Ext w w' := by
  obtain ⟨n, hn⟩ : ∃ n, rs.length = n := ⟨_, rfl⟩
  obtain ⟨RES, hRES⟩ : ∃ B, (r6B tm rs) = B := ⟨_, rfl⟩
  rw [hRES]
  have hG : Hid (RES = (rsB tm 0 rs && decide (n ≤ 20))) := by
    show _ = _
    rw [← hRES, ← hn]
    unfold r6B; exact Bool.and_comm _ _
  obtain ⟨W0, P, hW0, hP, hx0, hbx⟩ : ∃ W P, w.alloc (.cells #[.string ⟨nm.toArray⟩, .int .i64 cn, .int .i64 rd, .int .i64 kd, .int .i64 ev, .int .i64 tm, .int .i64 gr, .int .i64 rt, vr, .int .i64 pn, .int .i64 o0, .int .i64 o1, .int .i64 o2, .int .i64 o3, .int .i64 ov, vl, .int .i64 cp, .int .i64 rl, vh] 27) = W ∧ w.heap.size = P ∧ Ext w W ∧ Bx W P nm cn rd kd ev tm gr rt vr rs pn o0 o1 o2 o3 ov vl lt cp rl vh hd := ⟨_, _, rfl, rfl, (Ext.refl w).alloc _ _, Bx.new w nm cn rd kd ev tm gr rt vr rs pn o0 o1 o2 o3 ov vl lt cp rl vh hd sr sl sh _⟩
  have e8 := hbx.c8
  have e5 := hbx.c5
  rw [hvv, hn] at e8
  subst hvv
  rw [hn] at hl hW0 ⊢
  clear hbx sr sl sh
  replace hn := show Hid _ from hn
  replace hc := show Hid _ from hc
  replace hx0 := show Hid _ from hx0
  replace e8 := show Hid (W0.cell? ⟨P, 8, none⟩ = _) from e8
  replace e5 := show Hid (W0.cell? ⟨P, 5, none⟩ = _) from e5
  go_enter Tryz.func41, Tryz.ntmps41
  go_wp2_with fail
  go_loopw [3] (fun i wr => ∃ (k : Nat) (X Y : Int), k ≤ n ∧ i = .int .i64 k ∧ 0 ≤ X ∧ 0 ≤ Y ∧ Hid (k = 0 ∧ X = 0 ∧ Y = 0 ∨ ∃ m, k = m + 1 ∧ rs[m]? = some (X, Y)) ∧ Hid (rsB tm 0 rs = rsB tm X (rs.drop k)) ∧ Hid (Ext W0 wr)) (fun i _ => n - (RowKit.intOf i).toNat)
  case atStart => exact ⟨0, 0, 0, Nat.zero_le _, rfl, Int.le_refl _, Int.le_refl _, Or.inl ⟨rfl, rfl, rfl⟩, rfl, Ext.refl _⟩
  case round =>
    obtain ⟨k, X, Y, hk, rfl, X0, Y0, hK, hR, hxr⟩ := hrel
    clear hW0 hP
    have hx : Hid (Ext w wr) := hx0.out.trans hxr.out
    have g8 := hxr.out.cell_of e8.out
    by_cases hlt : k < n
    · obtain ⟨⟨x, y⟩, hV⟩ : ∃ V, rs[k]? = some V := ⟨_, List.getElem?_eq_getElem (by have := hn.out; omega)⟩
      have hlt' : (k : Int) < (n : Int) := by omega
      have s0 := hx.out.cell_of (hc.out k x y hV).1
      have s1 := hx.out.cell_of (hc.out k x y hV).2
      have hd := show Hid _ from drop_at hV
      obtain ⟨W1, B, hW1, hB, hx1, hN⟩ := two_new wr 31
      obtain ⟨W2, hW2, hx2, hN2⟩ := hN.set (w0 := wr) (by omega) hx1 x y
      have t0 := hx1.cell_of s0
      have t1 := hx1.cell_of s1
      have m0 := hN.c0; have m1 := hN.c1; have m2 := hN.f0; have m3 := hN.f1
      have j0 := Late.cell hN2.c0; have j1 := Late.cell hN2.c1
      have j2 := Late.cell (hx2.cell_of g8)
      have j3 := Late.cell (hx2.cell_of (hxr.out.cell_of e5.out))
      have j4 := Late.cell (hx2.cell_of s0)
      have hNe1 : Nonempty (Late W2) := ⟨⟨_, Ext.refl _⟩⟩
      replace hV := show Hid _ from hV
      clear hN hN2
      replace hx2 := show Hid _ from hx2
      replace hx1 := show Hid _ from hx1
      clear hx1
      cases h1 : lz x 1 (tm - 1)
      · have h1o := (lz_no _ _ _).1 h1
        have hf : Hid (RES = false) := by show _ = _; rw [hG.out, hR.out, hd.out, rsB_at]; exact rbad1 X0 h1o _
        clear hR hd hG
        clear h1o
        go_wp2_with fail
        refine wp_region_late (by kernel_rfl) (by kernel_rfl) ?_
        repeat (go_big_quiet_step ((go_at_call 39; exact late_same (within_c _ _ _ _))))
        refine wpQuiet_nil ?_
        intro W3 hw'
        replace hx : Hid (Ext w W3) := hx.out.trans (hx2.out.trans (late_ext hw'))
        replace hxr : Hid (Ext W0 W3) := hxr.out.trans (hx2.out.trans (late_ext hw'))
        clear hw' j0 j1 j2 j3 j4
        go_wp2
        go_ret
        exact ⟨ret_bool hf.out.symm, hx.out⟩
      · have h1o := (lz_iff _ _ _).1 h1
        cases h2 : lz y 0 1000000000
        · have h2o := (lz_no _ _ _).1 h2
          have hf : Hid (RES = false) := by show _ = _; rw [hG.out, hR.out, hd.out, rsB_at]; exact rbad2 trivial h2o _
          clear hR hd hG
          clear h1o h2o
          go_wp2_with fail
          refine wp_region_late (by kernel_rfl) (by kernel_rfl) ?_
          repeat (go_big_quiet_step ((go_at_call 39; exact late_same (within_c _ _ _ _))))
          refine wpQuiet_nil ?_
          intro W3 hw'
          replace hx : Hid (Ext w W3) := hx.out.trans (hx2.out.trans (late_ext hw'))
          replace hxr : Hid (Ext W0 W3) := hxr.out.trans (hx2.out.trans (late_ext hw'))
          clear hw' j0 j1 j2 j3 j4
          go_wp2
          go_ret
          exact ⟨ret_bool hf.out.symm, hx.out⟩
        · have h2o := (lz_iff _ _ _).1 h2
          have X0' : 0 ≤ x := by omega
          have Y0' : 0 ≤ y := by omega
          rcases hK.out with ⟨hk0, rfl, rfl⟩ | ⟨m, rfl, hm⟩
          · have hz : decide (0 < k) = false := decide_eq_false (by omega)
            have d1 : decide ((0 : Int) < x) = true := decide_eq_true (by omega)
            have d2 : decide (x < tm) = true := decide_eq_true (by omega)
            replace hk0 := show Hid _ from hk0
            have hf : Hid (rsB tm 0 rs = rsB tm x (rs.drop (k + 1))) := by show _ = _; rw [hR.out, hd.out, rsB_at, d1, d2, h2]; rfl
            clear hR hd
            clear d1 d2 hK h1o h2o
            go_wp2_with fail
            refine wp_region_late (by kernel_rfl) (by kernel_rfl) ?_
            repeat (go_big_quiet_step ((go_at_call 39; exact late_same (within_c _ _ _ _))))
            refine wpQuiet_nil ?_
            intro W3 hw'
            replace hx : Hid (Ext w W3) := hx.out.trans (hx2.out.trans (late_ext hw'))
            replace hxr : Hid (Ext W0 W3) := hxr.out.trans (hx2.out.trans (late_ext hw'))
            clear hw' j0 j1 j2 j3 j4
            go_wp2
            go_roundw
            case rel => exact ⟨k + 1, x, y, by omega, by go_num, X0', Y0', Or.inr ⟨k, rfl, hV.out⟩, hf, hxr⟩
            case measure => simp [RowKit.intOf]; omega
          · have jm := Late.cell (hx2.out.cell_of (hx.out.cell_of (hc.out m X Y hm).1))
            have hz : decide (0 < m + 1) = true := decide_eq_true (by omega)
            have hzI : decide ((0 : Int) < ((m : Int) + 1)) = true := decide_eq_true (by omega)
            by_cases h3 : x ≤ X
            · have e1 : decide (x ≤ X) = true := decide_eq_true h3
              have hf : Hid (RES = false) := by show _ = _; rw [hG.out, hR.out, hd.out, rsB_at]; rw [decide_eq_false (by omega)]; rfl
              clear hR hd hG
              clear h1o h2o
              go_wp2_with fail
              refine wp_region_late (by kernel_rfl) (by kernel_rfl) ?_
              repeat (go_big_quiet_step ((go_at_call 39; exact late_same (within_c _ _ _ _))))
              refine wpQuiet_nil ?_
              intro W3 hw'
              replace hx : Hid (Ext w W3) := hx.out.trans (hx2.out.trans (late_ext hw'))
              replace hxr : Hid (Ext W0 W3) := hxr.out.trans (hx2.out.trans (late_ext hw'))
              clear hw' j0 j1 j2 j3 j4 jm
              go_wp2
              go_ret
              exact ⟨ret_bool hf.out.symm, hx.out⟩
            · have e1 : decide (x ≤ X) = false := decide_eq_false h3
              have d1 : decide (X < x) = true := decide_eq_true (by omega)
              have d2 : decide (x < tm) = true := decide_eq_true (by omega)
              have hf : Hid (rsB tm 0 rs = rsB tm x (rs.drop ((m + 1) + 1))) := by show _ = _; rw [hR.out, hd.out, rsB_at, d1, d2, h2]; rfl
              clear hR hd
              clear d1 d2 hK h1o h2o
              go_wp2_with fail
              refine wp_region_late (by kernel_rfl) (by kernel_rfl) ?_
              repeat (go_big_quiet_step ((go_at_call 39; exact late_same (within_c _ _ _ _))))
              refine wpQuiet_nil ?_
              intro W3 hw'
              replace hx : Hid (Ext w W3) := hx.out.trans (hx2.out.trans (late_ext hw'))
              replace hxr : Hid (Ext W0 W3) := hxr.out.trans (hx2.out.trans (late_ext hw'))
              clear hw' j0 j1 j2 j3 j4 jm
              go_wp2
              go_roundw
              case rel => exact ⟨(m + 1) + 1, x, y, by omega, by go_num, X0', Y0', Or.inr ⟨(m + 1), rfl, hV.out⟩, hf, hxr⟩
              case measure => simp [RowKit.intOf]; omega
    · obtain rfl : k = n := by omega
      have hf : Hid (RES = decide ((k : Int) ≤ 20)) := by
        show _ = _
        rw [hG.out, hR.out, drop_end (by have := hn.out; omega)]
        by_cases h : k ≤ 20
        · rw [decide_eq_true h, decide_eq_true (by omega)]; rfl
        · rw [decide_eq_false h, decide_eq_false (by omega)]; rfl
      clear hR hK hG
      go_wp2
      go_ret
      exact ⟨ret_bool hf.out.symm, hx.out⟩
theorem tbad1 {X Y x y : Int} {l : List (Int × Int)} (X0 : 0 ≤ X) (h : x < 1 ∨ 365 < x) (n : Nat) (B : Bool) : ((decide (X < x) && (decide (x ≤ 365) && (lz y Y 10000000000000 && ltB x y l))) && (decide (n ≤ 8) && B)) = false := by
  rcases h with h | h
  · rw [decide_eq_false (show ¬ X < x by omega)]; rfl
  · rw [decide_eq_false (show ¬ x ≤ 365 by omega)]; simp
theorem tbad2 {X Y x y : Int} {l : List (Int × Int)} (Y0 : 0 ≤ Y) (h : y < 0 ∨ 10000000000000 < y) (n : Nat) (B : Bool) : ((decide (X < x) && (decide (x ≤ 365) && (lz y Y 10000000000000 && ltB x y l))) && (decide (n ≤ 8) && B)) = false := by
  rw [(lz_no y Y 10000000000000).2 (by omega)]; simp
set_option maxHeartbeats 1000000 in
theorem ttiers_x (nm : List UInt8) (cn rd kd ev tm gr rt : Int) (vr : Value) (rs : List (Int × Int)) (pn o0 o1 o2 o3 ov : Int) (vl : Value) (lt : List (Int × Int)) (cp rl : Int) (vh : Value) (hd : List Int) (s off c : Nat) (hvv : vl = .slice (some ⟨s, off, none⟩) lt.length c) (w : World) (hl : lt.length ≤ 9223372036854775807) (sr : Slp w vr rs) (sl : Slp w vl lt) (sh : Slc w vh hd)
    (hc : ∀ (k : Nat) (x y : Int), lt[k]? = some (x, y) → w.cell? ⟨s, off + k * 2, none⟩ = some (.int .i64 x) ∧ w.cell? ⟨s, off + k * 2 + 1, none⟩ = some (.int .i64 y)) :
    Calls Tryz.prog 43 #[.agg #[.string ⟨nm.toArray⟩, .int .i64 cn, .int .i64 rd, .int .i64 kd, .int .i64 ev, .int .i64 tm, .int .i64 gr, .int .i64 rt, vr, .int .i64 pn, .int .i64 o0, .int .i64 o1, .int .i64 o2, .int .i64 o3, .int .i64 ov, vl, .int .i64 cp, .int .i64 rl, vh]] w fun e w' => e = .returned (.bool (r8B lt && r9B lt.length cp)) ∧ Ext w w' := by
  obtain ⟨n, hn⟩ : ∃ n, lt.length = n := ⟨_, rfl⟩
  obtain ⟨RES, hRES⟩ : ∃ B, (r8B lt && r9B lt.length cp) = B := ⟨_, rfl⟩
  rw [hRES]
  have hG : Hid (RES = (ltB 0 0 lt && (decide (n ≤ 8) && r9B n cp))) := by
    show _ = _
    rw [← hRES, ← hn]
    unfold r8B; rw [Bool.and_comm (decide _) (ltB 0 0 lt), Bool.and_assoc]
  obtain ⟨W0, P, hW0, hP, hx0, hbx⟩ : ∃ W P, w.alloc (.cells #[.string ⟨nm.toArray⟩, .int .i64 cn, .int .i64 rd, .int .i64 kd, .int .i64 ev, .int .i64 tm, .int .i64 gr, .int .i64 rt, vr, .int .i64 pn, .int .i64 o0, .int .i64 o1, .int .i64 o2, .int .i64 o3, .int .i64 ov, vl, .int .i64 cp, .int .i64 rl, vh] 27) = W ∧ w.heap.size = P ∧ Ext w W ∧ Bx W P nm cn rd kd ev tm gr rt vr rs pn o0 o1 o2 o3 ov vl lt cp rl vh hd := ⟨_, _, rfl, rfl, (Ext.refl w).alloc _ _, Bx.new w nm cn rd kd ev tm gr rt vr rs pn o0 o1 o2 o3 ov vl lt cp rl vh hd sr sl sh _⟩
  have e15 := hbx.c15
  have e16 := hbx.c16
  rw [hvv, hn] at e15
  subst hvv
  rw [hn] at hl hW0 ⊢
  clear hbx sr sl sh
  replace hn := show Hid _ from hn
  replace hc := show Hid _ from hc
  replace hx0 := show Hid _ from hx0
  replace e15 := show Hid (W0.cell? ⟨P, 15, none⟩ = _) from e15
  replace e16 := show Hid (W0.cell? ⟨P, 16, none⟩ = _) from e16
  go_enter Tryz.func43, Tryz.ntmps43
  go_wp2_with fail
  go_loopw [3] (fun i wr => ∃ (k : Nat) (X Y : Int), k ≤ n ∧ i = .int .i64 k ∧ 0 ≤ X ∧ 0 ≤ Y ∧ Hid (k = 0 ∧ X = 0 ∧ Y = 0 ∨ ∃ m, k = m + 1 ∧ lt[m]? = some (X, Y)) ∧ Hid (ltB 0 0 lt = ltB X Y (lt.drop k)) ∧ Hid (Ext W0 wr)) (fun i _ => n - (RowKit.intOf i).toNat)
  case atStart => exact ⟨0, 0, 0, Nat.zero_le _, rfl, Int.le_refl _, Int.le_refl _, Or.inl ⟨rfl, rfl, rfl⟩, rfl, Ext.refl _⟩
  case round =>
    obtain ⟨k, X, Y, hk, rfl, X0, Y0, hK, hR, hxr⟩ := hrel
    clear hW0 hP
    have hx : Hid (Ext w wr) := hx0.out.trans hxr.out
    have g15 := hxr.out.cell_of e15.out
    by_cases hlt : k < n
    · obtain ⟨⟨x, y⟩, hV⟩ : ∃ V, lt[k]? = some V := ⟨_, List.getElem?_eq_getElem (by have := hn.out; omega)⟩
      have hlt' : (k : Int) < (n : Int) := by omega
      have s0 := hx.out.cell_of (hc.out k x y hV).1
      have s1 := hx.out.cell_of (hc.out k x y hV).2
      have hd := show Hid _ from drop_at hV
      obtain ⟨W1, B, hW1, hB, hx1, hN⟩ := two_new wr 34
      obtain ⟨W2, hW2, hx2, hN2⟩ := hN.set (w0 := wr) (by omega) hx1 x y
      have t0 := hx1.cell_of s0
      have t1 := hx1.cell_of s1
      have m0 := hN.c0; have m1 := hN.c1; have m2 := hN.f0; have m3 := hN.f1
      have j0 := Late.cell hN2.c0; have j1 := Late.cell hN2.c1
      have j2 := Late.cell (hx2.cell_of g15)
      have j3 := Late.cell (hx2.cell_of s0)
      
      have hNe1 : Nonempty (Late W2) := ⟨⟨_, Ext.refl _⟩⟩
      replace hV := show Hid _ from hV
      clear hN hN2
      replace hx2 := show Hid _ from hx2
      replace hx1 := show Hid _ from hx1
      clear hx1
      cases h1 : lz x 1 365
      · have h1o := (lz_no _ _ _).1 h1
        have hf : Hid (RES = false) := by show _ = _; rw [hG.out, hR.out, hd.out, ltB_at]; exact tbad1 X0 h1o _ _
        clear hR hd hG
        clear h1o
        go_wp2_with fail
        refine wp_region_late (by kernel_rfl) (by kernel_rfl) ?_
        repeat (go_big_quiet_step ((go_at_call 39; exact late_same (within_c _ _ _ _))))
        refine wpQuiet_nil ?_
        intro W3 hw'
        replace hx : Hid (Ext w W3) := hx.out.trans (hx2.out.trans (late_ext hw'))
        replace hxr : Hid (Ext W0 W3) := hxr.out.trans (hx2.out.trans (late_ext hw'))
        clear hw' j0 j1 j2 j3
        go_wp2
        go_ret
        exact ⟨ret_bool hf.out.symm, hx.out⟩
      · have h1o := (lz_iff _ _ _).1 h1
        cases h2 : lz y 0 10000000000000
        · have h2o := (lz_no _ _ _).1 h2
          have hf : Hid (RES = false) := by show _ = _; rw [hG.out, hR.out, hd.out, ltB_at]; exact tbad2 Y0 h2o _ _
          clear hR hd hG
          clear h1o h2o
          go_wp2_with fail
          refine wp_region_late (by kernel_rfl) (by kernel_rfl) ?_
          repeat (go_big_quiet_step ((go_at_call 39; exact late_same (within_c _ _ _ _))))
          refine wpQuiet_nil ?_
          intro W3 hw'
          replace hx : Hid (Ext w W3) := hx.out.trans (hx2.out.trans (late_ext hw'))
          replace hxr : Hid (Ext W0 W3) := hxr.out.trans (hx2.out.trans (late_ext hw'))
          clear hw' j0 j1 j2 j3
          go_wp2
          go_ret
          exact ⟨ret_bool hf.out.symm, hx.out⟩
        · have h2o := (lz_iff _ _ _).1 h2
          have X0' : 0 ≤ x := by omega
          have Y0' : 0 ≤ y := by omega
          rcases hK.out with ⟨hk0, rfl, rfl⟩ | ⟨m, rfl, hm⟩
          · have hz : decide (0 < k) = false := decide_eq_false (by omega)
            have d1 : decide ((0 : Int) < x) = true := decide_eq_true (by omega)
            have d2 : decide (x ≤ 365) = true := decide_eq_true (by omega)
            replace hk0 := show Hid _ from hk0
            have hf : Hid (ltB 0 0 lt = ltB x y (lt.drop (k + 1))) := by show _ = _; rw [hR.out, hd.out, ltB_at, d1, d2, h2]; rfl
            clear hR hd
            clear d1 d2 hK h1o h2o
            go_wp2_with fail
            refine wp_region_late (by kernel_rfl) (by kernel_rfl) ?_
            repeat (go_big_quiet_step ((go_at_call 39; exact late_same (within_c _ _ _ _))))
            refine wpQuiet_nil ?_
            intro W3 hw'
            replace hx : Hid (Ext w W3) := hx.out.trans (hx2.out.trans (late_ext hw'))
            replace hxr : Hid (Ext W0 W3) := hxr.out.trans (hx2.out.trans (late_ext hw'))
            clear hw' j0 j1 j2 j3
            go_wp2
            go_roundw
            case rel => exact ⟨k + 1, x, y, by omega, by go_num, X0', Y0', Or.inr ⟨k, rfl, hV.out⟩, hf, hxr⟩
            case measure => simp [RowKit.intOf]; omega
          · have jm := Late.cell (hx2.out.cell_of (hx.out.cell_of (hc.out m X Y hm).1))
            have jn := Late.cell (hx2.out.cell_of (hx.out.cell_of (hc.out m X Y hm).2))
            have hz : decide (0 < m + 1) = true := decide_eq_true (by omega)
            have hzI : decide ((0 : Int) < ((m : Int) + 1)) = true := decide_eq_true (by omega)
            by_cases h3 : x ≤ X
            · have e1 : decide (x ≤ X) = true := decide_eq_true h3
              have hf : Hid (RES = false) := by show _ = _; rw [hG.out, hR.out, hd.out, ltB_at]; rw [decide_eq_false (by omega)]; rfl
              clear hR hd hG
              clear h1o h2o
              go_wp2_with fail
              refine wp_region_late (by kernel_rfl) (by kernel_rfl) ?_
              repeat (go_big_quiet_step ((go_at_call 39; exact late_same (within_c _ _ _ _))))
              refine wpQuiet_nil ?_
              intro W3 hw'
              replace hx : Hid (Ext w W3) := hx.out.trans (hx2.out.trans (late_ext hw'))
              replace hxr : Hid (Ext W0 W3) := hxr.out.trans (hx2.out.trans (late_ext hw'))
              clear hw' j0 j1 j2 j3 jm jn
              go_wp2
              go_ret
              exact ⟨ret_bool hf.out.symm, hx.out⟩
            · have e1 : decide (x ≤ X) = false := decide_eq_false h3
              have d1 : decide (X < x) = true := decide_eq_true (by omega)
              have d2 : decide (x ≤ 365) = true := decide_eq_true (by omega)
              by_cases h4 : y < Y
              · have e2 : decide (y < Y) = true := decide_eq_true h4
                have d3 : lz y Y 10000000000000 = false := (lz_no _ _ _).2 (by omega)
                have hf : Hid (RES = false) := by show _ = _; rw [hG.out, hR.out, hd.out, ltB_at]; rw [d1, d2, d3]; rfl
                clear hR hd hG
                clear d1 d2 d3 h1o h2o
                go_wp2_with fail
                refine wp_region_late (by kernel_rfl) (by kernel_rfl) ?_
                repeat (go_big_quiet_step ((go_at_call 39; exact late_same (within_c _ _ _ _))))
                refine wpQuiet_nil ?_
                intro W3 hw'
                replace hx : Hid (Ext w W3) := hx.out.trans (hx2.out.trans (late_ext hw'))
                replace hxr : Hid (Ext W0 W3) := hxr.out.trans (hx2.out.trans (late_ext hw'))
                clear hw' j0 j1 j2 j3 jm jn
                go_wp2
                go_ret
                exact ⟨ret_bool hf.out.symm, hx.out⟩
              · have e2 : decide (y < Y) = false := decide_eq_false h4
                have d3 : lz y Y 10000000000000 = true := (lz_iff _ _ _).2 (by omega)
                have hf : Hid (ltB 0 0 lt = ltB x y (lt.drop ((m + 1) + 1))) := by show _ = _; rw [hR.out, hd.out, ltB_at, d1, d2, d3]; rfl
                clear hR hd
                clear d1 d2 d3 hK h1o h2o
                go_wp2_with fail
                refine wp_region_late (by kernel_rfl) (by kernel_rfl) ?_
                repeat (go_big_quiet_step ((go_at_call 39; exact late_same (within_c _ _ _ _))))
                refine wpQuiet_nil ?_
                intro W3 hw'
                replace hx : Hid (Ext w W3) := hx.out.trans (hx2.out.trans (late_ext hw'))
                replace hxr : Hid (Ext W0 W3) := hxr.out.trans (hx2.out.trans (late_ext hw'))
                clear hw' j0 j1 j2 j3 jm jn
                go_wp2
                go_roundw
                case rel => exact ⟨(m + 1) + 1, x, y, by omega, by go_num, X0', Y0', Or.inr ⟨(m + 1), rfl, hV.out⟩, hf, hxr⟩
                case measure => simp [RowKit.intOf]; omega
    · obtain rfl : k = n := by omega
      have g16 := hxr.out.cell_of e16.out
      have hf : Hid (RES = (decide (k ≤ 8) && r9B k cp)) := by
        show _ = _
        rw [hG.out, hR.out, drop_end (by have := hn.out; omega)]; rfl
      clear hR hK hG
      by_cases h8 : k ≤ 8
      · have h8' : (k : Int) ≤ 8 := by omega
        rw [decide_eq_true h8] at hf
        cases hl3 : lz cp 0 10000000000000
        · have hc0 : (cp == 0) = false := by have := (lz_no _ _ _).1 hl3; simp; omega
          have hr : Hid (RES = false) := by show _ = _; rw [hf.out]; unfold r9B; rw [hc0, hl3]; simp
          replace hl3 := show Hid _ from hl3
          clear hf hc0
          go_wp2_with fail
          refine (within_x cp 0 10000000000000 false hl3.out _).mono ?_
          rintro e w3 ⟨rfl, rfl⟩
          go_wp2
          go_ret
          exact ⟨ret_bool hr.out.symm, hx.out⟩
        · cases hc0 : (cp == 0)
          · have hr : Hid (RES = decide (0 < k)) := by show _ = _; rw [hf.out]; unfold r9B; rw [hc0, hl3]; simp
            replace hl3 := show Hid _ from hl3
            clear hf
            have hI : Hid (decide ((0 : Int) < (k : Int)) = decide (0 < k)) := by show _ = _; by_cases h : 0 < k <;> simp [h]
            go_wp2_with fail
            refine (within_x cp 0 10000000000000 true hl3.out _).mono ?_
            rintro e w3 ⟨rfl, rfl⟩
            go_wp2
            go_ret
            exact ⟨ret_bool (by first | exact hr.out.symm | (rw [hr.out]; exact hI.out)), hx.out⟩
          · have hr : Hid (RES = true) := by show _ = _; rw [hf.out]; unfold r9B; rw [hc0]; simp
            replace hl3 := show Hid _ from hl3
            clear hf
            go_wp2_with fail
            refine (within_x cp 0 10000000000000 true hl3.out _).mono ?_
            rintro e w3 ⟨rfl, rfl⟩
            go_wp2
            go_ret
            exact ⟨ret_bool hr.out.symm, hx.out⟩
      · have h8' : ¬ (k : Int) ≤ 8 := by omega
        have hr : Hid (RES = false) := by show _ = _; rw [hf.out, decide_eq_false h8]; rfl
        clear hf
        go_wp2
        go_ret
        exact ⟨ret_bool hr.out.symm, hx.out⟩
theorem rresets_nil (nm : List UInt8) (cn rd kd ev tm gr rt : Int) (vr : Value) (rs : List (Int × Int)) (pn o0 o1 o2 o3 ov : Int) (vl : Value) (lt : List (Int × Int)) (cp rl : Int) (vh : Value) (hd : List Int) (a : Option Addr) (c : Nat) (hvv : vr = .slice a 0 c) (w : World) (sr : Slp w vr rs) (sl : Slp w vl lt) (sh : Slc w vh hd) :
    Calls Tryz.prog 41 #[.agg #[.string ⟨nm.toArray⟩, .int .i64 cn, .int .i64 rd, .int .i64 kd, .int .i64 ev, .int .i64 tm, .int .i64 gr, .int .i64 rt, vr, .int .i64 pn, .int .i64 o0, .int .i64 o1, .int .i64 o2, .int .i64 o3, .int .i64 ov, vl, .int .i64 cp, .int .i64 rl, vh]] w fun e w' => e = .returned (.bool true) ∧ Ext w w' := by
  obtain ⟨W0, P, hW0, hP, hx0, hbx⟩ : ∃ W P, w.alloc (.cells #[.string ⟨nm.toArray⟩, .int .i64 cn, .int .i64 rd, .int .i64 kd, .int .i64 ev, .int .i64 tm, .int .i64 gr, .int .i64 rt, vr, .int .i64 pn, .int .i64 o0, .int .i64 o1, .int .i64 o2, .int .i64 o3, .int .i64 ov, vl, .int .i64 cp, .int .i64 rl, vh] 27) = W ∧ w.heap.size = P ∧ Ext w W ∧ Bx W P nm cn rd kd ev tm gr rt vr rs pn o0 o1 o2 o3 ov vl lt cp rl vh hd := ⟨_, _, rfl, rfl, (Ext.refl w).alloc _ _, Bx.new w nm cn rd kd ev tm gr rt vr rs pn o0 o1 o2 o3 ov vl lt cp rl vh hd sr sl sh _⟩
  have e8 := hbx.c8
  subst hvv
  clear hbx sr sl sh
  replace hx0 := show Hid _ from hx0
  go_enter Tryz.func41, Tryz.ntmps41
  go_wp2_with fail
  refine wp_loop_rounds 1 ?_
  rw [rounds_succ]
  go_wp2
  go_ret
  exact ⟨rfl, hx0.out⟩
theorem rresets_c (nm : List UInt8) (cn rd kd ev tm gr rt : Int) (vr : Value) (rs : List (Int × Int)) (pn o0 o1 o2 o3 ov : Int) (vl : Value) (lt : List (Int × Int)) (cp rl : Int) (vh : Value) (hd : List Int) (w : World) (ht1 : 1 ≤ tm) (ht2 : tm ≤ 600) (hl : rs.length ≤ 9223372036854775807) (sr : Slp w vr rs) (sl : Slp w vl lt) (sh : Slc w vh hd) :
    Calls Tryz.prog 41 #[.agg #[.string ⟨nm.toArray⟩, .int .i64 cn, .int .i64 rd, .int .i64 kd, .int .i64 ev, .int .i64 tm, .int .i64 gr, .int .i64 rt, vr, .int .i64 pn, .int .i64 o0, .int .i64 o1, .int .i64 o2, .int .i64 o3, .int .i64 ov, vl, .int .i64 cp, .int .i64 rl, vh]] w fun e w' => e = .returned (.bool (r6B tm rs)) ∧ Ext w w' := by
  have sr' := sr
  rcases sr' with ⟨a, c, hvv, _, rfl⟩ | ⟨s, off, c, hvv, hc⟩
  · exact rresets_nil nm cn rd kd ev tm gr rt vr [] pn o0 o1 o2 o3 ov vl lt cp rl vh hd a c hvv w sr sl sh
  · exact rresets_x nm cn rd kd ev tm gr rt vr rs pn o0 o1 o2 o3 ov vl lt cp rl vh hd s off c hvv w ht1 ht2 hl sr sl sh hc
theorem ttiers_nil (nm : List UInt8) (cn rd kd ev tm gr rt : Int) (vr : Value) (rs : List (Int × Int)) (pn o0 o1 o2 o3 ov : Int) (vl : Value) (lt : List (Int × Int)) (cp rl : Int) (vh : Value) (hd : List Int) (a : Option Addr) (c : Nat) (hvv : vl = .slice a 0 c) (w : World) (sr : Slp w vr rs) (sl : Slp w vl lt) (sh : Slc w vh hd) :
    Calls Tryz.prog 43 #[.agg #[.string ⟨nm.toArray⟩, .int .i64 cn, .int .i64 rd, .int .i64 kd, .int .i64 ev, .int .i64 tm, .int .i64 gr, .int .i64 rt, vr, .int .i64 pn, .int .i64 o0, .int .i64 o1, .int .i64 o2, .int .i64 o3, .int .i64 ov, vl, .int .i64 cp, .int .i64 rl, vh]] w fun e w' => e = .returned (.bool (r9B 0 cp)) ∧ Ext w w' := by
  obtain ⟨W0, P, hW0, hP, hx0, hbx⟩ : ∃ W P, w.alloc (.cells #[.string ⟨nm.toArray⟩, .int .i64 cn, .int .i64 rd, .int .i64 kd, .int .i64 ev, .int .i64 tm, .int .i64 gr, .int .i64 rt, vr, .int .i64 pn, .int .i64 o0, .int .i64 o1, .int .i64 o2, .int .i64 o3, .int .i64 ov, vl, .int .i64 cp, .int .i64 rl, vh] 27) = W ∧ w.heap.size = P ∧ Ext w W ∧ Bx W P nm cn rd kd ev tm gr rt vr rs pn o0 o1 o2 o3 ov vl lt cp rl vh hd := ⟨_, _, rfl, rfl, (Ext.refl w).alloc _ _, Bx.new w nm cn rd kd ev tm gr rt vr rs pn o0 o1 o2 o3 ov vl lt cp rl vh hd sr sl sh _⟩
  have e15 := hbx.c15
  have e16 := hbx.c16
  subst hvv
  clear hbx sr sl sh
  replace hx0 := show Hid _ from hx0
  unfold r9B
  cases hl3 : lz cp 0 10000000000000
  · have hc0 : (cp == 0) = false := by have := (lz_no _ _ _).1 hl3; simp; omega
    rw [hc0]
    replace hl3 := show Hid _ from hl3
    go_enter Tryz.func43, Tryz.ntmps43
    go_wp2_with fail
    refine wp_loop_rounds 1 ?_
    rw [rounds_succ]
    go_wp2_with fail
    refine (within_x cp 0 10000000000000 false hl3.out _).mono ?_
    rintro e w3 ⟨rfl, rfl⟩
    go_wp2
    go_ret
    exact ⟨rfl, hx0.out⟩
  · replace hl3 := show Hid _ from hl3
    cases hc0 : (cp == 0)
    all_goals
      go_enter Tryz.func43, Tryz.ntmps43
      go_wp2_with fail
      refine wp_loop_rounds 1 ?_
      rw [rounds_succ]
      go_wp2_with fail
      refine (within_x cp 0 10000000000000 true hl3.out _).mono ?_
      rintro e w3 ⟨rfl, rfl⟩
      go_wp2
      go_ret
      exact ⟨rfl, hx0.out⟩
theorem ttiers_c (nm : List UInt8) (cn rd kd ev tm gr rt : Int) (vr : Value) (rs : List (Int × Int)) (pn o0 o1 o2 o3 ov : Int) (vl : Value) (lt : List (Int × Int)) (cp rl : Int) (vh : Value) (hd : List Int) (w : World) (hl : lt.length ≤ 9223372036854775807) (sr : Slp w vr rs) (sl : Slp w vl lt) (sh : Slc w vh hd) :
    Calls Tryz.prog 43 #[.agg #[.string ⟨nm.toArray⟩, .int .i64 cn, .int .i64 rd, .int .i64 kd, .int .i64 ev, .int .i64 tm, .int .i64 gr, .int .i64 rt, vr, .int .i64 pn, .int .i64 o0, .int .i64 o1, .int .i64 o2, .int .i64 o3, .int .i64 ov, vl, .int .i64 cp, .int .i64 rl, vh]] w fun e w' => e = .returned (.bool (r8B lt && r9B lt.length cp)) ∧ Ext w w' := by
  have sl' := sl
  rcases sl' with ⟨a, c, hvv, _, rfl⟩ | ⟨s, off, c, hvv, hc⟩
  · exact ttiers_nil nm cn rd kd ev tm gr rt vr rs pn o0 o1 o2 o3 ov vl [] cp rl vh hd a c hvv w sr sl sh
  · exact ttiers_x nm cn rd kd ev tm gr rt vr rs pn o0 o1 o2 o3 ov vl lt cp rl vh hd s off c hvv w hl sr sl sh hc
end Go.Proofs.YtaafagggjnemgaaGreatDoor.L8

namespace Go.Proofs.YtaafagggjnemgaaGreatDoor.L8
open Go.RowKit
set_option linter.unusedVariables false
theorem every_in (ev : Int) : decide (ev ∈ [1, 2, 3, 4, 6, 12]) = r2B ev := by
  unfold r2B
  by_cases h : ev ∈ [1, 2, 3, 4, 6, 12]
  · simp at h; rcases h with rfl | rfl | rfl | rfl | rfl | rfl <;> rfl
  · rw [decide_eq_false h]; simp at h; simp [h]
/-- The row of months that may lie between instalments. -/
theorem lay_every (w : World) : ∃ W, w.alloc (.cells #[.int .i64 1, .int .i64 2, .int .i64 3, .int .i64 4, .int .i64 6, .int .i64 12] 3) = W ∧ Ext w W ∧ Slc W (.slice (some ⟨w.heap.size, 0, none⟩) 6 6) [1, 2, 3, 4, 6, 12] := by
  refine ⟨_, rfl, (Ext.refl w).alloc _ _, Or.inr ⟨_, 0, 6, rfl, fun k x hk => ?_⟩⟩
  match k, hk with
  | 0, hk => simp at hk; subst hk; simp [go_sem]
  | 1, hk => simp at hk; subst hk; simp [go_sem]
  | 2, hk => simp at hk; subst hk; simp [go_sem]
  | 3, hk => simp at hk; subst hk; simp [go_sem]
  | 4, hk => simp at hk; subst hk; simp [go_sem]
  | 5, hk => simp at hk; subst hk; simp [go_sem]
  | k + 6, hk => simp at hk
theorem chk_ref (nm : List UInt8) (cn rd kd ev tm gr rt : Int) (rs : List (Int × Int)) (pn o0 o1 o2 o3 ov : Int) (lt : List (Int × Int)) (cp rl : Int) (hd : List Int) : ((((nmb nm && (lz cn 1 3 && ((rd == 1 || rd == 3) && lz kd 1 3))) && (r2B ev && (lz tm 1 600 && (lz gr 0 (tm - 1) && (kd != 3 || gr == 0))))) && (lz rt 0 1000000000 && (lz pn 0 1000000000 && (r6B tm rs && (r7B o0 o1 o2 o3 && (lz ov 1 3 && (r8B lt && r9B lt.length cp))))))) && (lz rl 1 4 && (rgt hd && (rl != 1 || hd.length == 0)))) = chkB nm cn rd kd ev tm gr rt rs pn o0 o1 o2 o3 ov lt cp rl hd := by
  unfold chkB r1B r4B r5B r10B
  cases htm : lz tm 1 600
  · simp
  · have h := (lz_iff _ _ _).1 htm
    have hg : (lz gr 0 (tm - 1) && (kd != 3 || gr == 0)) = (gr == 0 || (kd != 3 && (decide (0 < gr) && decide (gr < tm)))) := by
      unfold lz
      by_cases h0 : gr = 0
      · subst h0; simp; omega
      · have e0 : (gr == 0) = false := by simpa using h0
        rw [e0]
        by_cases h1 : 0 < gr
        · rw [decide_eq_true h1, decide_eq_true (show 0 ≤ gr by omega)]
          by_cases h2 : gr < tm
          · rw [decide_eq_true h2, decide_eq_true (show gr ≤ tm - 1 by omega)]; simp
          · rw [decide_eq_false h2, decide_eq_false (show ¬ gr ≤ tm - 1 by omega)]; simp
        · rw [decide_eq_false h1, decide_eq_false (show ¬ 0 ≤ gr by omega)]; simp
    have hh : (rgt hd && (rl != 1 || hd.length == 0)) = (if rl = 1 then decide (hd.length = 0) else rgt hd) := by
      by_cases h0 : rl = 1
      · subst h0
        rw [if_pos rfl]
        cases hd with
        | nil => rfl
        | cons x t => simp
      · rw [if_neg h0]
        have : (rl != 1) = true := by simpa using h0
        rw [this]; simp
    rw [← hh, ← hg]
    simp only [Bool.true_and]
    ac_rfl
theorem Order_x (a b c d : Int) (B : Bool) (h : r7B a b c d = B) (w : World) :
    Calls Tryz.prog 42 #[.agg #[.int .i64 a, .int .i64 b, .int .i64 c, .int .i64 d]] w fun e w' => e = .returned (.bool B) ∧ Ext w w' := h ▸ Order_c a b c d w
theorem rresets_x2 (nm : List UInt8) (cn rd kd ev tm gr rt : Int) (vr : Value) (rs : List (Int × Int)) (pn o0 o1 o2 o3 ov : Int) (vl : Value) (lt : List (Int × Int)) (cp rl : Int) (vh : Value) (hd : List Int) (B : Bool) (h : r6B tm rs = B) (w : World) (ht1 : 1 ≤ tm) (ht2 : tm ≤ 600) (hl : rs.length ≤ 9223372036854775807) (sr : Slp w vr rs) (sl : Slp w vl lt) (sh : Slc w vh hd) :
    Calls Tryz.prog 41 #[.agg #[.string ⟨nm.toArray⟩, .int .i64 cn, .int .i64 rd, .int .i64 kd, .int .i64 ev, .int .i64 tm, .int .i64 gr, .int .i64 rt, vr, .int .i64 pn, .int .i64 o0, .int .i64 o1, .int .i64 o2, .int .i64 o3, .int .i64 ov, vl, .int .i64 cp, .int .i64 rl, vh]] w fun e w' => e = .returned (.bool B) ∧ Ext w w' := h ▸ rresets_c nm cn rd kd ev tm gr rt vr rs pn o0 o1 o2 o3 ov vl lt cp rl vh hd w ht1 ht2 hl sr sl sh
theorem ttiers_x2 (nm : List UInt8) (cn rd kd ev tm gr rt : Int) (vr : Value) (rs : List (Int × Int)) (pn o0 o1 o2 o3 ov : Int) (vl : Value) (lt : List (Int × Int)) (cp rl : Int) (vh : Value) (hd : List Int) (B : Bool) (h : (r8B lt && r9B lt.length cp) = B) (w : World) (hl : lt.length ≤ 9223372036854775807) (sr : Slp w vr rs) (sl : Slp w vl lt) (sh : Slc w vh hd) :
    Calls Tryz.prog 43 #[.agg #[.string ⟨nm.toArray⟩, .int .i64 cn, .int .i64 rd, .int .i64 kd, .int .i64 ev, .int .i64 tm, .int .i64 gr, .int .i64 rt, vr, .int .i64 pn, .int .i64 o0, .int .i64 o1, .int .i64 o2, .int .i64 o3, .int .i64 ov, vl, .int .i64 cp, .int .i64 rl, vh]] w fun e w' => e = .returned (.bool B) ∧ Ext w w' := h ▸ ttiers_c nm cn rd kd ev tm gr rt vr rs pn o0 o1 o2 o3 ov vl lt cp rl vh hd w hl sr sl sh
theorem Right_x (v : Value) (l : List Int) (B : Bool) (h : rgt l = B) (w : World) (hl : l.length ≤ 9223372036854775807) (hv : Slc w v l) :
    Calls Tryz.prog 44 #[v] w fun e w' => e = .returned (.bool B) ∧ Ext w w' := h ▸ Right_ok v l w hl hv
theorem tm_of {A : Bool} {tm : Int} {E G : Bool} (h : (A && (E && (lz tm 1 600 && G))) = true) : 1 ≤ tm ∧ tm ≤ 600 := by
  simp only [Bool.and_eq_true] at h
  exact (lz_iff _ _ _).1 h.2.2.1
set_option maxHeartbeats 2000000 in
set_option maxRecDepth 100000 in
theorem rCheck_x (nm : List UInt8) (cn rd kd ev tm gr rt : Int) (vr : Value) (rs : List (Int × Int)) (pn o0 o1 o2 o3 ov : Int) (vl : Value) (lt : List (Int × Int)) (cp rl : Int) (vh : Value) (hd : List Int) (E : Int) (hE : E = if chkB nm cn rd kd ev tm gr rt rs pn o0 o1 o2 o3 ov lt cp rl hd then 0 else 9) (w : World) (hnm : nm.length ≤ 9223372036854775807) (hrs : rs.length ≤ 9223372036854775807) (hlt : lt.length ≤ 9223372036854775807) (hhd : hd.length ≤ 9223372036854775807) (sr : Slp w vr rs) (sl : Slp w vl lt) (sh : Slc w vh hd) :
    Calls Tryz.prog 22 #[.agg #[.string ⟨nm.toArray⟩, .int .i64 cn, .int .i64 rd, .int .i64 kd, .int .i64 ev, .int .i64 tm, .int .i64 gr, .int .i64 rt, vr, .int .i64 pn, .int .i64 o0, .int .i64 o1, .int .i64 o2, .int .i64 o3, .int .i64 ov, vl, .int .i64 cp, .int .i64 rl, vh]] w fun e w' => e = .returned (.int .i64 E) ∧ Ext w w' := by
  rw [← chk_ref] at hE
  obtain ⟨va, vc, hvh⟩ := sh.len
  subst hvh
  obtain ⟨W0, P, hW0, hP, hx0, hk, hb⟩ : ∃ W P, w.alloc (.cells #[.string ⟨nm.toArray⟩, .int .i64 cn, .int .i64 rd, .int .i64 kd, .int .i64 ev, .int .i64 tm, .int .i64 gr, .int .i64 rt, vr, .int .i64 pn, .int .i64 o0, .int .i64 o1, .int .i64 o2, .int .i64 o3, .int .i64 ov, vl, .int .i64 cp, .int .i64 rl, .slice va hd.length vc] 27) = W ∧ w.heap.size = P ∧ Ext w W ∧ Blk W P #[.string ⟨nm.toArray⟩, .int .i64 cn, .int .i64 rd, .int .i64 kd, .int .i64 ev, .int .i64 tm, .int .i64 gr, .int .i64 rt, vr, .int .i64 pn, .int .i64 o0, .int .i64 o1, .int .i64 o2, .int .i64 o3, .int .i64 ov, vl, .int .i64 cp, .int .i64 rl, .slice va hd.length vc] ∧ Bx W P nm cn rd kd ev tm gr rt vr rs pn o0 o1 o2 o3 ov vl lt cp rl (.slice va hd.length vc) hd := ⟨_, _, rfl, rfl, (Ext.refl w).alloc _ _, heap_alloc_last w _, Bx.new w nm cn rd kd ev tm gr rt vr rs pn o0 o1 o2 o3 ov vl lt cp rl (.slice va hd.length vc) hd sr sl sh _⟩
  clear sr sl sh
  have y0 := hb.c0
  replace hb := show Hid (Bx W0 P nm cn rd kd ev tm gr rt vr rs pn o0 o1 o2 o3 ov vl lt cp rl (.slice va hd.length vc) hd) from hb
  replace hk := show Hid (Blk W0 P _) from hk
  replace hx0 := show Hid _ from hx0
  replace hE := show Hid _ from hE
  go_enter Tryz.func22, Tryz.ntmps22
  go_upto_region 1 with fail
  clear hW0 hP
  go_cut [3] from 4 (fun t wx => t = .bool (nmb nm && (lz cn 1 3 && ((rd == 1 || rd == 3) && lz kd 1 3))) ∧ Hid (Ext W0 wx))
  case first =>
    cases h0 : nmb nm
    · replace h0 := show Hid _ from h0
      go_wp2_with fail
      refine (rName_x nm false h0.out _ hnm).mono ?_
      rintro e w1 ⟨rfl, hx1⟩
      have hb1 := hb.out.ext hx1
      have y1 := hb1.c1
      have y2 := hb1.c2
      have y3 := hb1.c3
      replace hx1 := show Hid (Ext W0 w1) from hx1
      clear hb1
      go_wp2
      go_meet
      exact ⟨congrArg Value.bool (by rw [h0.out] <;> rfl), hx1⟩
    · replace h0 := show Hid _ from h0
      cases h1 : lz cn 1 3
      · replace h1 := show Hid _ from h1
        go_wp2_with fail
        refine (rName_x nm true h0.out _ hnm).mono ?_
        rintro e w1 ⟨rfl, hx1⟩
        have hb1 := hb.out.ext hx1
        have y1 := hb1.c1
        have y2 := hb1.c2
        have y3 := hb1.c3
        replace hx1 := show Hid (Ext W0 w1) from hx1
        clear hb1
        go_wp2_with fail
        refine (within_x _ _ _ false h1.out _).mono ?_
        rintro e w9 ⟨rfl, rfl⟩
        go_wp2
        go_meet
        exact ⟨congrArg Value.bool (by rw [h0.out, h1.out] <;> rfl), hx1⟩
      · replace h1 := show Hid _ from h1
        cases h2 : (rd == 1)
        · cases h3 : (rd == 3)
          · go_wp2_with fail
            refine (rName_x nm true h0.out _ hnm).mono ?_
            rintro e w1 ⟨rfl, hx1⟩
            have hb1 := hb.out.ext hx1
            have y1 := hb1.c1
            have y2 := hb1.c2
            have y3 := hb1.c3
            replace hx1 := show Hid (Ext W0 w1) from hx1
            clear hb1
            go_wp2_with fail
            refine (within_x _ _ _ true h1.out _).mono ?_
            rintro e w9 ⟨rfl, rfl⟩
            go_wp2
            go_meet
            exact ⟨congrArg Value.bool (by rw [h0.out, h1.out, h2, h3] <;> rfl), hx1⟩
          · cases h4 : lz kd 1 3
            · replace h4 := show Hid _ from h4
              go_wp2_with fail
              refine (rName_x nm true h0.out _ hnm).mono ?_
              rintro e w1 ⟨rfl, hx1⟩
              have hb1 := hb.out.ext hx1
              have y1 := hb1.c1
              have y2 := hb1.c2
              have y3 := hb1.c3
              replace hx1 := show Hid (Ext W0 w1) from hx1
              clear hb1
              go_wp2_with fail
              refine (within_x _ _ _ true h1.out _).mono ?_
              rintro e w9 ⟨rfl, rfl⟩
              go_wp2_with fail
              refine (within_x _ _ _ false h4.out _).mono ?_
              rintro e w9 ⟨rfl, rfl⟩
              go_wp2
              go_meet
              exact ⟨congrArg Value.bool (by rw [h0.out, h1.out, h2, h3, h4.out] <;> rfl), hx1⟩
            · replace h4 := show Hid _ from h4
              go_wp2_with fail
              refine (rName_x nm true h0.out _ hnm).mono ?_
              rintro e w1 ⟨rfl, hx1⟩
              have hb1 := hb.out.ext hx1
              have y1 := hb1.c1
              have y2 := hb1.c2
              have y3 := hb1.c3
              replace hx1 := show Hid (Ext W0 w1) from hx1
              clear hb1
              go_wp2_with fail
              refine (within_x _ _ _ true h1.out _).mono ?_
              rintro e w9 ⟨rfl, rfl⟩
              go_wp2_with fail
              refine (within_x _ _ _ true h4.out _).mono ?_
              rintro e w9 ⟨rfl, rfl⟩
              go_wp2
              go_meet
              exact ⟨congrArg Value.bool (by rw [h0.out, h1.out, h2, h3, h4.out] <;> rfl), hx1⟩
        · cases h4 : lz kd 1 3
          · replace h4 := show Hid _ from h4
            go_wp2_with fail
            refine (rName_x nm true h0.out _ hnm).mono ?_
            rintro e w1 ⟨rfl, hx1⟩
            have hb1 := hb.out.ext hx1
            have y1 := hb1.c1
            have y2 := hb1.c2
            have y3 := hb1.c3
            replace hx1 := show Hid (Ext W0 w1) from hx1
            clear hb1
            go_wp2_with fail
            refine (within_x _ _ _ true h1.out _).mono ?_
            rintro e w9 ⟨rfl, rfl⟩
            go_wp2_with fail
            refine (within_x _ _ _ false h4.out _).mono ?_
            rintro e w9 ⟨rfl, rfl⟩
            go_wp2
            go_meet
            exact ⟨congrArg Value.bool (by rw [h0.out, h1.out, h2, h4.out] <;> rfl), hx1⟩
          · replace h4 := show Hid _ from h4
            go_wp2_with fail
            refine (rName_x nm true h0.out _ hnm).mono ?_
            rintro e w1 ⟨rfl, hx1⟩
            have hb1 := hb.out.ext hx1
            have y1 := hb1.c1
            have y2 := hb1.c2
            have y3 := hb1.c3
            replace hx1 := show Hid (Ext W0 w1) from hx1
            clear hb1
            go_wp2_with fail
            refine (within_x _ _ _ true h1.out _).mono ?_
            rintro e w9 ⟨rfl, rfl⟩
            go_wp2_with fail
            refine (within_x _ _ _ true h4.out _).mono ?_
            rintro e w9 ⟨rfl, rfl⟩
            go_wp2
            go_meet
            exact ⟨congrArg Value.bool (by rw [h0.out, h1.out, h2, h4.out] <;> rfl), hx1⟩
  case rest =>
    obtain ⟨rfl, hx⟩ := hcut
    clear y0
    go_upto_region 2 with fail
    go_cut [3] from 4 (fun t wx => t = .bool ((nmb nm && (lz cn 1 3 && ((rd == 1 || rd == 3) && lz kd 1 3))) && (r2B ev && (lz tm 1 600 && (lz gr 0 (tm - 1) && (kd != 3 || gr == 0))))) ∧ Hid (Ext W0 wx))
    case first =>
      have hb1 := hb.out.ext hx.out
      have y3 := hb1.c3
      have y4 := hb1.c4
      have y5 := hb1.c5
      have y6 := hb1.c6
      clear hb1
      cases hB : (nmb nm && (lz cn 1 3 && ((rd == 1 || rd == 3) && lz kd 1 3)))
      · go_wp2
        go_meet
        exact ⟨congrArg Value.bool (by rw [hB] <;> rfl), hx⟩
      · obtain ⟨W1, hW1, hx1, hS⟩ := lay_every wc
        have z3 := hx1.cell_of y3
        have z4 := hx1.cell_of y4
        have z5 := hx1.cell_of y5
        have z6 := hx1.cell_of y6
        have hx2 := show Hid (Ext W0 W1) from hx.out.trans hx1
        replace hS := show Hid (Slc W1 _ _) from hS
        clear hx1
        cases h0 : r2B ev
        · replace h0 := show Hid _ from h0
          go_wp2_with fail
          refine (In_y _ [1, 2, 3, 4, 6, 12] ev false (by rw [every_in]; exact h0.out) _ (by decide) hS.out).mono ?_
          rintro e w9 ⟨rfl, rfl⟩
          go_wp2
          go_meet
          exact ⟨congrArg Value.bool (by rw [hB, h0.out] <;> rfl), hx2⟩
        · replace h0 := show Hid _ from h0
          cases h1 : lz tm 1 600
          · replace h1 := show Hid _ from h1
            go_wp2_with fail
            refine (In_y _ [1, 2, 3, 4, 6, 12] ev true (by rw [every_in]; exact h0.out) _ (by decide) hS.out).mono ?_
            rintro e w9 ⟨rfl, rfl⟩
            go_wp2_with fail
            refine (within_x _ _ _ false h1.out _).mono ?_
            rintro e w9 ⟨rfl, rfl⟩
            go_wp2
            go_meet
            exact ⟨congrArg Value.bool (by rw [hB, h0.out, h1.out] <;> rfl), hx2⟩
          · replace h1 := show Hid _ from h1
            have htm := (lz_iff _ _ _).1 h1.out
            cases h2 : lz gr 0 (tm - 1)
            · replace h2 := show Hid _ from h2
              go_wp2_with fail
              refine (In_y _ [1, 2, 3, 4, 6, 12] ev true (by rw [every_in]; exact h0.out) _ (by decide) hS.out).mono ?_
              rintro e w9 ⟨rfl, rfl⟩
              go_wp2_with fail
              refine (within_x _ _ _ true h1.out _).mono ?_
              rintro e w9 ⟨rfl, rfl⟩
              go_wp2_with fail
              refine (within_x _ _ _ false h2.out _).mono ?_
              rintro e w9 ⟨rfl, rfl⟩
              go_wp2
              go_meet
              exact ⟨congrArg Value.bool (by rw [hB, h0.out, h1.out, h2.out] <;> rfl), hx2⟩
            · replace h2 := show Hid _ from h2
              cases h3 : (kd != 3)
              · cases h4 : (gr == 0)
                · go_wp2_with fail
                  refine (In_y _ [1, 2, 3, 4, 6, 12] ev true (by rw [every_in]; exact h0.out) _ (by decide) hS.out).mono ?_
                  rintro e w9 ⟨rfl, rfl⟩
                  go_wp2_with fail
                  refine (within_x _ _ _ true h1.out _).mono ?_
                  rintro e w9 ⟨rfl, rfl⟩
                  go_wp2_with fail
                  refine (within_x _ _ _ true h2.out _).mono ?_
                  rintro e w9 ⟨rfl, rfl⟩
                  go_wp2
                  go_meet
                  exact ⟨congrArg Value.bool (by rw [hB, h0.out, h1.out, h2.out, h3, h4] <;> rfl), hx2⟩
                · go_wp2_with fail
                  refine (In_y _ [1, 2, 3, 4, 6, 12] ev true (by rw [every_in]; exact h0.out) _ (by decide) hS.out).mono ?_
                  rintro e w9 ⟨rfl, rfl⟩
                  go_wp2_with fail
                  refine (within_x _ _ _ true h1.out _).mono ?_
                  rintro e w9 ⟨rfl, rfl⟩
                  go_wp2_with fail
                  refine (within_x _ _ _ true h2.out _).mono ?_
                  rintro e w9 ⟨rfl, rfl⟩
                  go_wp2
                  go_meet
                  exact ⟨congrArg Value.bool (by rw [hB, h0.out, h1.out, h2.out, h3, h4] <;> rfl), hx2⟩
              · go_wp2_with fail
                refine (In_y _ [1, 2, 3, 4, 6, 12] ev true (by rw [every_in]; exact h0.out) _ (by decide) hS.out).mono ?_
                rintro e w9 ⟨rfl, rfl⟩
                go_wp2_with fail
                refine (within_x _ _ _ true h1.out _).mono ?_
                rintro e w9 ⟨rfl, rfl⟩
                go_wp2_with fail
                refine (within_x _ _ _ true h2.out _).mono ?_
                rintro e w9 ⟨rfl, rfl⟩
                go_wp2
                go_meet
                exact ⟨congrArg Value.bool (by rw [hB, h0.out, h1.out, h2.out, h3] <;> rfl), hx2⟩
    case rest =>
      clear hx
      obtain ⟨rfl, hx⟩ := hcut
      go_upto_region 3 with fail
      go_cut [3] from 4 (fun t wx => t = .bool (((nmb nm && (lz cn 1 3 && ((rd == 1 || rd == 3) && lz kd 1 3))) && (r2B ev && (lz tm 1 600 && (lz gr 0 (tm - 1) && (kd != 3 || gr == 0))))) && (lz rt 0 1000000000 && (lz pn 0 1000000000 && (r6B tm rs && (r7B o0 o1 o2 o3 && (lz ov 1 3 && (r8B lt && r9B lt.length cp))))))) ∧ Hid (Ext W0 wx))
      case first =>
        have hb1 := hb.out.ext hx.out
        have y7 := hb1.c7
        have y9 := hb1.c9
        clear hb1
        cases hB : ((nmb nm && (lz cn 1 3 && ((rd == 1 || rd == 3) && lz kd 1 3))) && (r2B ev && (lz tm 1 600 && (lz gr 0 (tm - 1) && (kd != 3 || gr == 0)))))
        · go_wp2
          go_meet
          exact ⟨congrArg Value.bool (by rw [hB] <;> rfl), hx⟩
        · have htm := tm_of hB
          cases h0 : lz rt 0 1000000000
          · replace h0 := show Hid _ from h0
            go_wp2_with fail
            refine (within_x _ _ _ false h0.out _).mono ?_
            rintro e w9 ⟨rfl, rfl⟩
            go_wp2
            go_meet
            exact ⟨congrArg Value.bool (by rw [hB, h0.out] <;> rfl), hx⟩
          · replace h0 := show Hid _ from h0
            cases h1 : lz pn 0 1000000000
            · replace h1 := show Hid _ from h1
              go_wp2_with fail
              refine (within_x _ _ _ true h0.out _).mono ?_
              rintro e w9 ⟨rfl, rfl⟩
              go_wp2_with fail
              refine (within_x _ _ _ false h1.out _).mono ?_
              rintro e w9 ⟨rfl, rfl⟩
              go_wp2
              go_meet
              exact ⟨congrArg Value.bool (by rw [hB, h0.out, h1.out] <;> rfl), hx⟩
            · replace h1 := show Hid _ from h1
              cases h2 : r6B tm rs
              · replace h2 := show Hid _ from h2
                have hk0 := show Hid (Blk _ P _) from hk.out.ext hx.out
                have hb0 := show Hid (Bx _ P _ _ _ _ _ _ _ _ _ _ _ _ _ _ _ _ _ _ _ _ _ _) from hb.out.ext hx.out
                go_wp2_with fail
                refine (within_x _ _ _ true h0.out _).mono ?_
                rintro e w9 ⟨rfl, rfl⟩
                go_wp2_with fail
                refine (within_x _ _ _ true h1.out _).mono ?_
                rintro e w9 ⟨rfl, rfl⟩
                go_wp2_with (refine load27 hk0.out rfl rfl rfl rfl ?_)
                refine (rresets_x2 nm cn rd kd ev tm gr rt vr rs pn o0 o1 o2 o3 ov vl lt cp rl (.slice va hd.length vc) hd false h2.out _ htm.1 htm.2 hrs hb0.out.sr hb0.out.sl hb0.out.sh).mono ?_
                rintro e w2 ⟨rfl, hx2⟩
                have hb2 := hb0.out.ext hx2
                have y10 := hb2.c10
                have y11 := hb2.c11
                have y12 := hb2.c12
                have y13 := hb2.c13
                have y14 := hb2.c14
                have hk2 := show Hid (Blk w2 P _) from hk0.out.ext hx2
                replace hb2 := show Hid (Bx w2 P _ _ _ _ _ _ _ _ _ _ _ _ _ _ _ _ _ _ _ _ _ _) from hb2
                replace hx2 := show Hid (Ext W0 w2) from hx.out.trans hx2
                clear hb0 hk0
                go_wp2
                go_meet
                exact ⟨congrArg Value.bool (by rw [hB, h0.out, h1.out, h2.out] <;> rfl), hx2⟩
              · replace h2 := show Hid _ from h2
                cases h3 : r7B o0 o1 o2 o3
                · replace h3 := show Hid _ from h3
                  have hk0 := show Hid (Blk _ P _) from hk.out.ext hx.out
                  have hb0 := show Hid (Bx _ P _ _ _ _ _ _ _ _ _ _ _ _ _ _ _ _ _ _ _ _ _ _) from hb.out.ext hx.out
                  go_wp2_with fail
                  refine (within_x _ _ _ true h0.out _).mono ?_
                  rintro e w9 ⟨rfl, rfl⟩
                  go_wp2_with fail
                  refine (within_x _ _ _ true h1.out _).mono ?_
                  rintro e w9 ⟨rfl, rfl⟩
                  go_wp2_with (refine load27 hk0.out rfl rfl rfl rfl ?_)
                  refine (rresets_x2 nm cn rd kd ev tm gr rt vr rs pn o0 o1 o2 o3 ov vl lt cp rl (.slice va hd.length vc) hd true h2.out _ htm.1 htm.2 hrs hb0.out.sr hb0.out.sl hb0.out.sh).mono ?_
                  rintro e w2 ⟨rfl, hx2⟩
                  have hb2 := hb0.out.ext hx2
                  have y10 := hb2.c10
                  have y11 := hb2.c11
                  have y12 := hb2.c12
                  have y13 := hb2.c13
                  have y14 := hb2.c14
                  have hk2 := show Hid (Blk w2 P _) from hk0.out.ext hx2
                  replace hb2 := show Hid (Bx w2 P _ _ _ _ _ _ _ _ _ _ _ _ _ _ _ _ _ _ _ _ _ _) from hb2
                  replace hx2 := show Hid (Ext W0 w2) from hx.out.trans hx2
                  clear hb0 hk0
                  go_wp2_with fail
                  refine (Order_x o0 o1 o2 o3 false h3.out _).mono ?_
                  rintro e w3 ⟨rfl, hx3⟩
                  have hb3 := hb2.out.ext hx3
                  have y14 := hb3.c14
                  have hk3 := show Hid (Blk w3 P _) from hk2.out.ext hx3
                  replace hb3 := show Hid (Bx w3 P _ _ _ _ _ _ _ _ _ _ _ _ _ _ _ _ _ _ _ _ _ _) from hb3
                  replace hx3 := show Hid (Ext W0 w3) from hx2.out.trans hx3
                  go_wp2
                  go_meet
                  exact ⟨congrArg Value.bool (by rw [hB, h0.out, h1.out, h2.out, h3.out] <;> rfl), hx3⟩
                · replace h3 := show Hid _ from h3
                  cases h4 : lz ov 1 3
                  · replace h4 := show Hid _ from h4
                    have hk0 := show Hid (Blk _ P _) from hk.out.ext hx.out
                    have hb0 := show Hid (Bx _ P _ _ _ _ _ _ _ _ _ _ _ _ _ _ _ _ _ _ _ _ _ _) from hb.out.ext hx.out
                    go_wp2_with fail
                    refine (within_x _ _ _ true h0.out _).mono ?_
                    rintro e w9 ⟨rfl, rfl⟩
                    go_wp2_with fail
                    refine (within_x _ _ _ true h1.out _).mono ?_
                    rintro e w9 ⟨rfl, rfl⟩
                    go_wp2_with (refine load27 hk0.out rfl rfl rfl rfl ?_)
                    refine (rresets_x2 nm cn rd kd ev tm gr rt vr rs pn o0 o1 o2 o3 ov vl lt cp rl (.slice va hd.length vc) hd true h2.out _ htm.1 htm.2 hrs hb0.out.sr hb0.out.sl hb0.out.sh).mono ?_
                    rintro e w2 ⟨rfl, hx2⟩
                    have hb2 := hb0.out.ext hx2
                    have y10 := hb2.c10
                    have y11 := hb2.c11
                    have y12 := hb2.c12
                    have y13 := hb2.c13
                    have y14 := hb2.c14
                    have hk2 := show Hid (Blk w2 P _) from hk0.out.ext hx2
                    replace hb2 := show Hid (Bx w2 P _ _ _ _ _ _ _ _ _ _ _ _ _ _ _ _ _ _ _ _ _ _) from hb2
                    replace hx2 := show Hid (Ext W0 w2) from hx.out.trans hx2
                    clear hb0 hk0
                    go_wp2_with fail
                    refine (Order_x o0 o1 o2 o3 true h3.out _).mono ?_
                    rintro e w3 ⟨rfl, hx3⟩
                    have hb3 := hb2.out.ext hx3
                    have y14 := hb3.c14
                    have hk3 := show Hid (Blk w3 P _) from hk2.out.ext hx3
                    replace hb3 := show Hid (Bx w3 P _ _ _ _ _ _ _ _ _ _ _ _ _ _ _ _ _ _ _ _ _ _) from hb3
                    replace hx3 := show Hid (Ext W0 w3) from hx2.out.trans hx3
                    go_wp2_with fail
                    refine (within_x _ _ _ false h4.out _).mono ?_
                    rintro e w9 ⟨rfl, rfl⟩
                    go_wp2
                    go_meet
                    exact ⟨congrArg Value.bool (by rw [hB, h0.out, h1.out, h2.out, h3.out, h4.out] <;> rfl), hx3⟩
                  · replace h4 := show Hid _ from h4
                    cases h5 : (r8B lt && r9B lt.length cp)
                    · replace h5 := show Hid _ from h5
                      have hk0 := show Hid (Blk _ P _) from hk.out.ext hx.out
                      have hb0 := show Hid (Bx _ P _ _ _ _ _ _ _ _ _ _ _ _ _ _ _ _ _ _ _ _ _ _) from hb.out.ext hx.out
                      go_wp2_with fail
                      refine (within_x _ _ _ true h0.out _).mono ?_
                      rintro e w9 ⟨rfl, rfl⟩
                      go_wp2_with fail
                      refine (within_x _ _ _ true h1.out _).mono ?_
                      rintro e w9 ⟨rfl, rfl⟩
                      go_wp2_with (refine load27 hk0.out rfl rfl rfl rfl ?_)
                      refine (rresets_x2 nm cn rd kd ev tm gr rt vr rs pn o0 o1 o2 o3 ov vl lt cp rl (.slice va hd.length vc) hd true h2.out _ htm.1 htm.2 hrs hb0.out.sr hb0.out.sl hb0.out.sh).mono ?_
                      rintro e w2 ⟨rfl, hx2⟩
                      have hb2 := hb0.out.ext hx2
                      have y10 := hb2.c10
                      have y11 := hb2.c11
                      have y12 := hb2.c12
                      have y13 := hb2.c13
                      have y14 := hb2.c14
                      have hk2 := show Hid (Blk w2 P _) from hk0.out.ext hx2
                      replace hb2 := show Hid (Bx w2 P _ _ _ _ _ _ _ _ _ _ _ _ _ _ _ _ _ _ _ _ _ _) from hb2
                      replace hx2 := show Hid (Ext W0 w2) from hx.out.trans hx2
                      clear hb0 hk0
                      go_wp2_with fail
                      refine (Order_x o0 o1 o2 o3 true h3.out _).mono ?_
                      rintro e w3 ⟨rfl, hx3⟩
                      have hb3 := hb2.out.ext hx3
                      have y14 := hb3.c14
                      have hk3 := show Hid (Blk w3 P _) from hk2.out.ext hx3
                      replace hb3 := show Hid (Bx w3 P _ _ _ _ _ _ _ _ _ _ _ _ _ _ _ _ _ _ _ _ _ _) from hb3
                      replace hx3 := show Hid (Ext W0 w3) from hx2.out.trans hx3
                      go_wp2_with fail
                      refine (within_x _ _ _ true h4.out _).mono ?_
                      rintro e w9 ⟨rfl, rfl⟩
                      go_wp2_with (refine load27 hk3.out rfl rfl rfl rfl ?_)
                      refine (ttiers_x2 nm cn rd kd ev tm gr rt vr rs pn o0 o1 o2 o3 ov vl lt cp rl (.slice va hd.length vc) hd false h5.out _ hlt hb3.out.sr hb3.out.sl hb3.out.sh).mono ?_
                      rintro e w4 ⟨rfl, hx4⟩
                      replace hx4 := show Hid (Ext W0 w4) from hx3.out.trans hx4
                      go_wp2
                      go_meet
                      exact ⟨congrArg Value.bool (by rw [hB, h0.out, h1.out, h2.out, h3.out, h4.out, h5.out] <;> rfl), hx4⟩
                    · replace h5 := show Hid _ from h5
                      have hk0 := show Hid (Blk _ P _) from hk.out.ext hx.out
                      have hb0 := show Hid (Bx _ P _ _ _ _ _ _ _ _ _ _ _ _ _ _ _ _ _ _ _ _ _ _) from hb.out.ext hx.out
                      go_wp2_with fail
                      refine (within_x _ _ _ true h0.out _).mono ?_
                      rintro e w9 ⟨rfl, rfl⟩
                      go_wp2_with fail
                      refine (within_x _ _ _ true h1.out _).mono ?_
                      rintro e w9 ⟨rfl, rfl⟩
                      go_wp2_with (refine load27 hk0.out rfl rfl rfl rfl ?_)
                      refine (rresets_x2 nm cn rd kd ev tm gr rt vr rs pn o0 o1 o2 o3 ov vl lt cp rl (.slice va hd.length vc) hd true h2.out _ htm.1 htm.2 hrs hb0.out.sr hb0.out.sl hb0.out.sh).mono ?_
                      rintro e w2 ⟨rfl, hx2⟩
                      have hb2 := hb0.out.ext hx2
                      have y10 := hb2.c10
                      have y11 := hb2.c11
                      have y12 := hb2.c12
                      have y13 := hb2.c13
                      have y14 := hb2.c14
                      have hk2 := show Hid (Blk w2 P _) from hk0.out.ext hx2
                      replace hb2 := show Hid (Bx w2 P _ _ _ _ _ _ _ _ _ _ _ _ _ _ _ _ _ _ _ _ _ _) from hb2
                      replace hx2 := show Hid (Ext W0 w2) from hx.out.trans hx2
                      clear hb0 hk0
                      go_wp2_with fail
                      refine (Order_x o0 o1 o2 o3 true h3.out _).mono ?_
                      rintro e w3 ⟨rfl, hx3⟩
                      have hb3 := hb2.out.ext hx3
                      have y14 := hb3.c14
                      have hk3 := show Hid (Blk w3 P _) from hk2.out.ext hx3
                      replace hb3 := show Hid (Bx w3 P _ _ _ _ _ _ _ _ _ _ _ _ _ _ _ _ _ _ _ _ _ _) from hb3
                      replace hx3 := show Hid (Ext W0 w3) from hx2.out.trans hx3
                      go_wp2_with fail
                      refine (within_x _ _ _ true h4.out _).mono ?_
                      rintro e w9 ⟨rfl, rfl⟩
                      go_wp2_with (refine load27 hk3.out rfl rfl rfl rfl ?_)
                      refine (ttiers_x2 nm cn rd kd ev tm gr rt vr rs pn o0 o1 o2 o3 ov vl lt cp rl (.slice va hd.length vc) hd true h5.out _ hlt hb3.out.sr hb3.out.sl hb3.out.sh).mono ?_
                      rintro e w4 ⟨rfl, hx4⟩
                      replace hx4 := show Hid (Ext W0 w4) from hx3.out.trans hx4
                      go_wp2
                      go_meet
                      exact ⟨congrArg Value.bool (by rw [hB, h0.out, h1.out, h2.out, h3.out, h4.out, h5.out] <;> rfl), hx4⟩
      case rest =>
        clear hx
        obtain ⟨rfl, hx⟩ := hcut
        go_upto_region 4 with fail
        go_cut [3] from 4 (fun t wx => t = .bool ((((nmb nm && (lz cn 1 3 && ((rd == 1 || rd == 3) && lz kd 1 3))) && (r2B ev && (lz tm 1 600 && (lz gr 0 (tm - 1) && (kd != 3 || gr == 0))))) && (lz rt 0 1000000000 && (lz pn 0 1000000000 && (r6B tm rs && (r7B o0 o1 o2 o3 && (lz ov 1 3 && (r8B lt && r9B lt.length cp))))))) && (lz rl 1 4 && (rgt hd && (rl != 1 || hd.length == 0)))) ∧ Hid (Ext W0 wx))
        case first =>
          have hb1 := hb.out.ext hx.out
          have y17 := hb1.c17
          have y18 := hb1.c18
          have hs1 := show Hid (Slc wc (.slice va hd.length vc) hd) from hb1.sh
          clear hb1
          cases hB : (((nmb nm && (lz cn 1 3 && ((rd == 1 || rd == 3) && lz kd 1 3))) && (r2B ev && (lz tm 1 600 && (lz gr 0 (tm - 1) && (kd != 3 || gr == 0))))) && (lz rt 0 1000000000 && (lz pn 0 1000000000 && (r6B tm rs && (r7B o0 o1 o2 o3 && (lz ov 1 3 && (r8B lt && r9B lt.length cp)))))))
          · go_wp2
            go_meet
            exact ⟨congrArg Value.bool (by rw [hB] <;> rfl), hx⟩
          · cases h0 : lz rl 1 4
            · replace h0 := show Hid _ from h0
              go_wp2_with fail
              refine (within_x _ _ _ false h0.out _).mono ?_
              rintro e w9 ⟨rfl, rfl⟩
              go_wp2
              go_meet
              exact ⟨congrArg Value.bool (by rw [hB, h0.out] <;> rfl), hx⟩
            · replace h0 := show Hid _ from h0
              cases h1 : rgt hd
              · replace h1 := show Hid _ from h1
                go_wp2_with fail
                refine (within_x _ _ _ true h0.out _).mono ?_
                rintro e w9 ⟨rfl, rfl⟩
                go_wp2_with fail
                refine (Right_x (.slice va hd.length vc) hd false h1.out _ hhd hs1.out).mono ?_
                rintro e w2 ⟨rfl, hx2⟩
                have hb2 := hb.out.ext (hx.out.trans hx2)
                have y17 := hb2.c17
                have y18 := hb2.c18
                clear hb2
                replace hx2 := show Hid (Ext W0 w2) from hx.out.trans hx2
                go_wp2
                go_meet
                exact ⟨congrArg Value.bool (by rw [hB, h0.out, h1.out] <;> rfl), hx2⟩
              · replace h1 := show Hid _ from h1
                cases h2 : (rl != 1)
                · by_cases h3 : hd.length = 0
                  · have h3b : (hd.length == 0) = true := by simpa using h3
                    have h3i : (((hd.length : Nat) : Int) == 0) = true := by rw [beq_iff_eq]; omega
                    replace h3 := show Hid _ from h3
                    go_wp2_with fail
                    refine (within_x _ _ _ true h0.out _).mono ?_
                    rintro e w9 ⟨rfl, rfl⟩
                    go_wp2_with fail
                    refine (Right_x (.slice va hd.length vc) hd true h1.out _ hhd hs1.out).mono ?_
                    rintro e w2 ⟨rfl, hx2⟩
                    have hb2 := hb.out.ext (hx.out.trans hx2)
                    have y17 := hb2.c17
                    have y18 := hb2.c18
                    clear hb2
                    replace hx2 := show Hid (Ext W0 w2) from hx.out.trans hx2
                    go_wp2
                    go_meet
                    exact ⟨congrArg Value.bool (by rw [hB, h0.out, h1.out, h2, h3b] <;> rfl), hx2⟩
                  · have h3b : (hd.length == 0) = false := by simpa using h3
                    have h3i : (((hd.length : Nat) : Int) == 0) = false := by rw [beq_eq_false_iff_ne]; omega
                    go_wp2_with fail
                    refine (within_x _ _ _ true h0.out _).mono ?_
                    rintro e w9 ⟨rfl, rfl⟩
                    go_wp2_with fail
                    refine (Right_x (.slice va hd.length vc) hd true h1.out _ hhd hs1.out).mono ?_
                    rintro e w2 ⟨rfl, hx2⟩
                    have hb2 := hb.out.ext (hx.out.trans hx2)
                    have y17 := hb2.c17
                    have y18 := hb2.c18
                    clear hb2
                    replace hx2 := show Hid (Ext W0 w2) from hx.out.trans hx2
                    go_wp2
                    go_meet
                    exact ⟨congrArg Value.bool (by rw [hB, h0.out, h1.out, h2, h3b] <;> rfl), hx2⟩
                · go_wp2_with fail
                  refine (within_x _ _ _ true h0.out _).mono ?_
                  rintro e w9 ⟨rfl, rfl⟩
                  go_wp2_with fail
                  refine (Right_x (.slice va hd.length vc) hd true h1.out _ hhd hs1.out).mono ?_
                  rintro e w2 ⟨rfl, hx2⟩
                  have hb2 := hb.out.ext (hx.out.trans hx2)
                  have y17 := hb2.c17
                  have y18 := hb2.c18
                  clear hb2
                  replace hx2 := show Hid (Ext W0 w2) from hx.out.trans hx2
                  go_wp2
                  go_meet
                  exact ⟨congrArg Value.bool (by rw [hB, h0.out, h1.out, h2] <;> rfl), hx2⟩
        case rest =>
          clear hx
          obtain ⟨rfl, hx⟩ := hcut
          cases hB : ((((nmb nm && (lz cn 1 3 && ((rd == 1 || rd == 3) && lz kd 1 3))) && (r2B ev && (lz tm 1 600 && (lz gr 0 (tm - 1) && (kd != 3 || gr == 0))))) && (lz rt 0 1000000000 && (lz pn 0 1000000000 && (r6B tm rs && (r7B o0 o1 o2 o3 && (lz ov 1 3 && (r8B lt && r9B lt.length cp))))))) && (lz rl 1 4 && (rgt hd && (rl != 1 || hd.length == 0))))
          · have hE9 : Hid (E = 9) := by show _ = _; rw [hE.out, hB]; rfl
            clear hE
            go_wp2
            go_ret
            exact ⟨ret_int hE9.out.symm, hx0.out.trans hx.out⟩
          · have hE9 : Hid (E = 0) := by show _ = _; rw [hE.out, hB]; rfl
            clear hE
            go_wp2
            go_ret
            exact ⟨ret_int hE9.out.symm, hx0.out.trans hx.out⟩
end Go.Proofs.YtaafagggjnemgaaGreatDoor.L8

namespace Go.Proofs.YtaafagggjnemgaaGreatDoor.L8
open Go.RowKit
set_option linter.unusedVariables false
set_option maxRecDepth 100000
/-- These numbers lie in a block's first cells, and may be written. -/
structure Lst (w : World) (g : Nat) (L : List Int) : Prop where
  cell : ∀ (k : Nat) (x : Int), L[k]? = some x → w.cell? ⟨g, k, none⟩ = some (.int .i64 x)
  free : ∀ (k : Nat) (x : Int), L[k]? = some x → w.frozen? ⟨g, k, none⟩ = false
theorem Lst.ext {w w' : World} {g : Nat} {L : List Int} (h : Lst w g L) (hx : Ext w w') : Lst w' g L :=
  ⟨fun k x hk => hx.cell_of (h.cell k x hk), fun k x hk => hx.froz_of (h.cell k x hk) (h.free k x hk)⟩
theorem Lst.front {w : World} {g : Nat} {L M : List Int} (h : Lst w g (L ++ M)) : Lst w g L :=
  ⟨fun k x hk => h.cell k x (by rw [List.getElem?_append_left (List.getElem?_eq_some_iff.1 hk).1]; exact hk), fun k x hk => h.free k x (by rw [List.getElem?_append_left (List.getElem?_eq_some_iff.1 hk).1]; exact hk)⟩
/-- A block of so many cells that may be written. -/
def Cells (w : World) (g T : Nat) : Prop := ∀ k, k < T → (∃ u, w.cell? ⟨g, k, none⟩ = some u) ∧ w.frozen? ⟨g, k, none⟩ = false
theorem Cells.set {w : World} {g T : Nat} (h : Cells w g T) (j : Nat) (v : Value) : Cells (w.setCell ⟨g, j, none⟩ v) g T := by
  intro k hk
  obtain ⟨⟨u, hu⟩, hf⟩ := h k hk
  refine ⟨?_, by simpa using hf⟩
  by_cases e : k = j
  · subst e; exact ⟨v, same hu⟩
  · exact ⟨u, by rw [other _ (Or.inr (fun h => e h.symm))]; exact hu⟩
theorem Lst.put {w : World} {g T : Nat} {L : List Int} (h : Lst w g L) (hc : Cells w g T) (hT : L.length < T) (v : Int) : Lst (w.setCell ⟨g, L.length, none⟩ (.int .i64 v)) g (L ++ [v]) := by
  have key : ∀ (k : Nat) (x : Int), (L ++ [v])[k]? = some x → (w.setCell ⟨g, L.length, none⟩ (.int .i64 v)).cell? ⟨g, k, none⟩ = some (.int .i64 x) := by
    intro k x hk
    by_cases e : k = L.length
    · subst e
      simp at hk
      subst hk
      obtain ⟨⟨u, hu⟩, _⟩ := hc _ hT
      exact same hu
    · have hlt : k < L.length := by
        have := (List.getElem?_eq_some_iff.1 hk).1
        simp at this; omega
      rw [other _ (Or.inr (fun h => e h.symm))]
      rw [List.getElem?_append_left hlt] at hk
      exact h.cell k x hk
  refine ⟨key, fun k x hk => ?_⟩
  have : k < T := by
    have := (List.getElem?_eq_some_iff.1 hk).1
    simp at this; omega
  simpa using (hc k this).2
theorem Cells.of_own {w : World} {B g n T : Nat} {e : TypeId} {xs : List Value} (h : w.ownsRow B e 1 (.slice (some ⟨g, 0, none⟩) n T) n xs) : Cells w g T := by
  intro k hk
  refine ⟨?_, h.frozenAt k⟩
  rcases h.2 with ⟨h0, _⟩ | ⟨g', c', cur, h1, h2, h3, h4, h5, h6, h7⟩
  · cases h0
  · injection h1 with e1 e2 e3
    injection e1 with e1
    injection e1 with e1
    subst e1; subst e3
    refine ⟨cur[k]'(by omega), ?_⟩
    simp [World.cell?, h3]
theorem Lst.of_own {w : World} {B g T : Nat} {e : TypeId} {l : List Int} (h : w.ownsRow B e 1 (.slice (some ⟨g, 0, none⟩) l.length T) l.length (l.map (.int .i64))) : Lst w g l :=
  ⟨fun k x hk => by rw [h.cellAt k (by have := (List.getElem?_eq_some_iff.1 hk).1; omega)]; simp [hk], fun k x hk => h.frozenAt k⟩
/-- What a slice's address gives to an append of its numbers. -/
theorem Slc.src {w : World} {v : Value} {l : List Int} (h : Slc w v l) : ∃ ao c, v = .slice ao l.length c ∧ (ao = none → l.length = 0 ∧ c = 0) ∧
    ∀ w' : World, Ext w w' → ∀ ad, ao = some ad → ∀ j u, (l.map (Value.int .i64))[j]? = some u → w'.cell? (ad.add j) = some u := by
  rcases h with ⟨a, c, rfl, hn, rfl⟩ | ⟨b, off, c, rfl, hc⟩
  · exact ⟨a, c, rfl, (fun h => ⟨rfl, hn h⟩), fun w' hx ad _ j u hj => by simp at hj⟩
  · refine ⟨_, c, rfl, (fun h => by cases h), fun w' hx ad had j u hj => ?_⟩
    obtain rfl := Option.some.inj had
    simp at hj
    obtain ⟨x, h1, rfl⟩ := hj
    rw [Addr.add_lit]
    exact hx.cell_of (hc j x h1)
set_option maxHeartbeats 1000000 in
theorem OwnI_c (v : Value) (l : List Int) (w : World) (hl : l.length ≤ 1000) (hv : Slc w v l) :
    Calls Tryz.prog 9 #[v, .int .i64 71] w fun e w' => (∃ g, e = .returned (.slice (some ⟨g, 0, none⟩) l.length (l.length + 3)) ∧ w.heap.size ≤ g ∧ g < w'.heap.size ∧ Lst w' g (l ++ [71, 71, 71])) ∧ Ext w w' := by
  obtain ⟨ao, c, rfl, hnone, hcl⟩ := hv.src
  clear hv
  replace hcl := show Hid _ from hcl
  replace hnone := show Hid _ from hnone
  obtain ⟨i0, hi, hz0, hz1, hz2⟩ := info_parts info_int
  obtain ⟨n, hn⟩ : ∃ n, l.length = n := ⟨_, rfl⟩
  rw [hn] at hl ⊢
  rw [hn] at hnone
  replace hn := show Hid _ from hn
  go_enter Tryz.func9, Tryz.ntmps9
  go_wp2_with (at_make; refine wpList_make_own w rfl _ (.tmp 10) 25 rfl w.heap.size 3 i0 (.int .i64 0) 1 Tryz.underlying25 hi hz0 hz1 .i64 .i64 _ (n + 3) rfl rfl (by omega) (by rw [hz2]; omega) (by unfold maxLen; omega) (Nat.le_refl _) ?_)
  intro w1 hown1 hg1
  have hx1 := show Hid (Ext w w1) from Ext.grown hg1
  obtain ⟨g, hgg⟩ : ∃ g, w.heap.size = g := ⟨_, rfl⟩
  have lo : w.heap.size ≤ g := by omega
  rw [hgg] at hown1 ⊢
  clear hg1
  go_wp2_with (at_builtin; refine wpList_append_fits_any w1 rfl (.tmp 12) (.tmp 13) 25 rfl g 3 i0 1 Tryz.underlying25 hi hz1 g 0 (n + 3) [] rfl hown1 ao n c (l.map (.int .i64)) rfl ?c0 hnone.out (hcl.out _ hx1.out) ?c2 ?c3 ?_)
  case c0 => simp; exact hn.out
  case c2 => intro u hu; simp at hu; obtain ⟨x, _, rfl⟩ := hu; rfl
  case c3 => omega
  intro w2 hown2 hg2
  have hx2 : Hid (Ext w w2) := ⟨hx1.out.below.grown hg2 (by have := hx1.out.size; omega) (fun k hk => by injection hk with hk; subst hk; exact lo)⟩
  have hL : Hid (Lst w2 g (l ++ List.replicate 0 71)) := by
    show Lst _ _ _
    have : w2.ownsRow g 3 1 (.slice (some ⟨g, 0, none⟩) l.length (n + 3)) l.length (l.map (.int .i64)) := by rw [hn.out]; simpa using hown2
    simpa using Lst.of_own this
  have hC : Hid (Cells w2 g (n + 3)) := Cells.of_own hown2
  have hsz : g < w2.heap.size := (hown2.lt g rfl).2
  clear hown1 hown2 hg2 hx1 hi hz0 hz1 hz2 hcl hnone hgg
  go_wp2_with fail
  go_loopw [7] (fun i wr => ∃ k : Nat, n ≤ k ∧ k ≤ n + 3 ∧ i = .int .i64 k ∧ Hid (Lst wr g (l ++ List.replicate (k - n) 71)) ∧ Hid (Cells wr g (n + 3)) ∧ Hid (Ext w wr) ∧ Hid (g < wr.heap.size)) (fun i _ => n + 3 - (intOf i).toNat)
  case atStart => exact ⟨n, Nat.le_refl _, by omega, rfl, by rw [Nat.sub_self]; exact hL, hC, hx2, hsz⟩
  case round =>
    clear hL hC hx2 hsz
    obtain ⟨k, hk1, hk2, rfl, hL, hC, hx, hsz⟩ := hrel
    by_cases hlt : k < n + 3
    · obtain ⟨⟨u, hu⟩, hf⟩ := hC.out k hlt
      go_wp2
      go_roundw
      case rel =>
        refine ⟨k + 1, by omega, by omega, by go_num, ?_, hC.out.set k _, hx.out.setCell lo _, by show _ < _; simpa using hsz.out⟩
        show Lst _ _ _
        have hlen : (l ++ List.replicate (k - n) (71 : Int)).length = k := by have := hn.out; simp; omega
        have := hL.out.put (T := n + 3) hC.out (by rw [hlen]; omega) 71
        rw [hlen] at this
        rw [show k + 1 - n = (k - n) + 1 by omega, List.replicate_succ', ← List.append_assoc]
        exact this
      case measure => simp [intOf]; omega
    · obtain rfl : k = n + 3 := by omega
      have hL' : Hid (Lst wr g (l ++ [71, 71, 71])) := by show Lst _ _ _; have := hL.out; rwa [show n + 3 - n = 3 by omega] at this
      clear hL hC
      go_wp2
      go_ret
      exact ⟨⟨g, rfl, lo, hsz.out, hL'.out⟩, hx.out⟩
theorem oneI_t (x : Int) (w : World) :
    Calls Tryz.prog 54 #[.int .i64 x, .int .i64 x] w fun e w' => e = .returned (.bool true) ∧ w' = w := by
  go_enter Tryz.func54, Tryz.ntmps54
  go_wp2
  go_ret
  exact ⟨ret_bool (by simp), rfl⟩
theorem SameI_nil (a : Option Addr) (c d : Nat) (x : Option Addr) (w : World) :
    Calls Tryz.prog 53 #[.slice x 0 d, .slice a 0 c, .func (.func 54) #[] #[]] w fun e w' => e = .returned (.bool true) ∧ w' = w := by
  go_enter Tryz.func53, Tryz.ntmps53
  go_wp2_with fail
  refine wp_loop_rounds 1 ?_
  rw [rounds_succ]
  go_wp2
  go_ret
  exact ⟨rfl, rfl⟩
theorem SameI_x (g b off c d : Nat) (l : List Int) (w : World) (hl : l.length ≤ 1000) (hg : Lst w g l) (hc : ∀ (k : Nat) (v : Int), l[k]? = some v → w.cell? ⟨b, off + k, none⟩ = some (.int .i64 v)) :
    Calls Tryz.prog 53 #[.slice (some ⟨g, 0, none⟩) l.length d, .slice (some ⟨b, off, none⟩) l.length c, .func (.func 54) #[] #[]] w fun e w' => e = .returned (.bool true) ∧ Ext w w' := by
  replace hg := show Hid _ from hg
  replace hc := show Hid _ from hc
  obtain ⟨T, hT⟩ : ∃ n, l.length = n := ⟨_, rfl⟩
  rw [hT] at hl ⊢
  replace hT := show Hid _ from hT
  go_enter Tryz.func53, Tryz.ntmps53
  go_wp2_with fail
  go_loopw [7] (fun i wr => ∃ k : Nat, k ≤ T ∧ i = .int .i64 k ∧ Hid (Ext w wr)) (fun i _ => T - (intOf i).toNat)
  case atStart => exact ⟨0, Nat.zero_le _, rfl, Ext.refl w⟩
  case round =>
    obtain ⟨k, hk, rfl, hx⟩ := hrel
    by_cases hlt : k < T
    · obtain ⟨V, hV⟩ : ∃ V, l[k]? = some V := ⟨_, List.getElem?_eq_getElem (by have := hT.out; omega)⟩
      have k0 := hx.out.cell_of (hg.out.cell k V hV)
      have k1 := hx.out.cell_of (hc.out k V hV)
      clear hV
      have hlt' : (k : Int) < (T : Int) := by omega
      have j0 := Late.cell k0; have j1 := Late.cell k1
      have hNe1 : Nonempty (Late wr) := ⟨⟨_, Ext.refl _⟩⟩
      go_wp2_with fail
      refine wp_region_late (by kernel_rfl) (by kernel_rfl) ?_
      repeat (go_big_quiet_step ((first
        | (go_at_call 54; exact late_same (oneI_t _ _)))))
      refine wpQuiet_nil ?_
      intro W1 hw'
      replace hx : Hid (Ext w W1) := hx.out.trans (late_ext hw')
      clear hw' j0 j1 k0 k1
      go_wp2
      go_roundw
      case rel => exact ⟨k + 1, by omega, by go_num, hx⟩
      case measure => simp [intOf]; omega
    · obtain rfl : k = T := by omega
      go_wp2
      go_ret
      exact ⟨rfl, hx.out⟩
theorem PlainI_c (g d : Nat) (v : Value) (l : List Int) (w : World) (hl : l.length ≤ 1000) (hg : Lst w g l) (hv : Slc w v l) :
    Calls Tryz.prog 30 #[.slice (some ⟨g, 0, none⟩) l.length d, v] w fun e w' => e = .returned (.bool true) ∧ Ext w w' := by
  have hS : Hid (Calls Tryz.prog 53 #[.slice (some ⟨g, 0, none⟩) l.length d, v, .func (.func 54) #[] #[]] w fun e w' => e = .returned (.bool true) ∧ Ext w w') := by
    rcases hv with ⟨a, c, rfl, _, rfl⟩ | ⟨b, off, c, rfl, hc⟩
    · exact (SameI_nil a c d _ w).mono fun e w' h => ⟨h.1, by rw [h.2]; exact Ext.refl _⟩
    · exact SameI_x g b off c d l w hl hg hc
  clear hg hv hl
  generalize l.length = n at *
  go_enter Tryz.func30, Tryz.ntmps30
  go_wp2_with fail
  refine Calls.mono hS.out ?_
  rintro e w1 ⟨rfl, hx⟩
  replace hx := show Hid _ from hx
  go_wp2
  go_ret
  exact ⟨rfl, hx.out⟩
theorem KeptI_c (g : Nat) (v : Value) (l : List Int) (w : World) (hl : l.length ≤ 1000) (hg : Lst w g (l ++ [71, 71, 71])) (hv : Slc w v l) :
    Calls Tryz.prog 14 #[.slice (some ⟨g, 0, none⟩) l.length (l.length + 3), v, .int .i64 71] w fun e w' => e = .returned (.bool true) ∧ Ext w w' := by
  have hP : Hid (Calls Tryz.prog 30 #[.slice (some ⟨g, 0, none⟩) l.length (l.length + 3), v] w fun e w' => e = .returned (.bool true) ∧ Ext w w') := PlainI_c g _ v l w hl hg.front hv
  obtain ⟨ao, c, rfl, _, _⟩ := hv.src
  clear hv
  replace hg := show Hid _ from hg
  obtain ⟨n, hn⟩ : ∃ n, l.length = n := ⟨_, rfl⟩
  rw [hn] at hl ⊢
  rw [hn] at hP
  replace hn := show Hid _ from hn
  go_enter Tryz.func14, Tryz.ntmps14
  go_wp2_with fail
  refine Calls.mono hP.out ?_
  rintro e w1 ⟨rfl, hx⟩
  replace hg : Hid (Lst w1 g (l ++ [71, 71, 71])) := hg.out.ext hx
  replace hx := show Hid _ from hx
  clear hP
  go_wp2_with fail
  go_loop [8] (fun i => ∃ k : Nat, n ≤ k ∧ k ≤ n + 3 ∧ i = .int .i64 k) (fun i => n + 3 - (RowKit.intOf i).toNat)
  case atStart => exact ⟨n, Nat.le_refl _, by omega, rfl⟩
  case round =>
    obtain ⟨k, hk1, hk2, rfl⟩ := hrel
    by_cases hlt : k < n + 3
    · have hcell := hg.out.cell k 71 (by
        have := hn.out
        rw [List.getElem?_append_right (by omega), this]
        obtain h | h | h : k - n = 0 ∨ k - n = 1 ∨ k - n = 2 := by omega
        all_goals rw [h]; rfl)
      go_wp2
      go_round
      case rel => exact ⟨k + 1, by omega, by omega, by go_num⟩
      case measure => simp [RowKit.intOf]; omega
    · obtain rfl : k = n + 3 := by omega
      go_wp2
      go_ret
      exact ⟨rfl, hx.out⟩
theorem Lst.slc {w : World} {g n c : Nat} {l M : List Int} (h : Lst w g (l ++ M)) (hn : l.length = n) : Slc w (.slice (some ⟨g, 0, none⟩) n c) l := by
  subst hn
  exact Or.inr ⟨g, 0, c, rfl, fun k x hk => by rw [Nat.zero_add]; exact h.front.cell k x hk⟩
/-- The cells of pairs. -/
def cellsP (l : List (Int × Int)) : List Value := l.flatMap fun p => [.int .i64 p.1, .int .i64 p.2]
theorem cellsP_len : ∀ l : List (Int × Int), (cellsP l).length = l.length * 2
  | [] => rfl
  | p :: l => by
    show (cellsP l).length + 1 + 1 = _
    rw [cellsP_len l]; simp; omega
theorem cellsP_at : ∀ (l : List (Int × Int)) (k : Nat) (x y : Int), l[k]? = some (x, y) → (cellsP l)[k * 2]? = some (.int .i64 x) ∧ (cellsP l)[k * 2 + 1]? = some (.int .i64 y)
  | [], k, x, y, h => by simp at h
  | p :: l, 0, x, y, h => by
    obtain rfl : p = (x, y) := by simpa using h
    exact ⟨rfl, rfl⟩
  | p :: l, k + 1, x, y, h => by
    have ih := cellsP_at l k x y (by simpa using h)
    have e : (k + 1) * 2 = k * 2 + 2 := by omega
    rw [e]
    exact ih
theorem cellsP_of : ∀ (l : List (Int × Int)) (j : Nat) (u : Value), (cellsP l)[j]? = some u → ∃ k x y, l[k]? = some (x, y) ∧ (j = k * 2 ∧ u = .int .i64 x ∨ j = k * 2 + 1 ∧ u = .int .i64 y)
  | [], j, u, h => by simp [cellsP] at h
  | p :: l, 0, u, h => ⟨0, p.1, p.2, rfl, Or.inl ⟨rfl, by have : some (Value.int .i64 p.1) = some u := h; exact (Option.some.inj this).symm⟩⟩
  | p :: l, 1, u, h => ⟨0, p.1, p.2, rfl, Or.inr ⟨rfl, by have : some (Value.int .i64 p.2) = some u := h; exact (Option.some.inj this).symm⟩⟩
  | p :: l, j + 2, u, h => by
    obtain ⟨k, x, y, h1, h2⟩ := cellsP_of l j u h
    refine ⟨k + 1, x, y, by simpa using h1, ?_⟩
    rcases h2 with ⟨a, b⟩ | ⟨a, b⟩
    · exact Or.inl ⟨by omega, b⟩
    · exact Or.inr ⟨by omega, b⟩
theorem cellsP_one (l : List (Int × Int)) : ∀ u ∈ cellsP l, u.oneCell' = true := fun u hu => by
  simp [cellsP] at hu
  obtain ⟨a, b, _, rfl | rfl⟩ := hu <;> rfl
/-- These pairs lie in a block's first cells, and may be written. -/
structure Lsp (w : World) (g : Nat) (L : List (Int × Int)) : Prop where
  cell : ∀ (k : Nat) (x y : Int), L[k]? = some (x, y) → w.cell? ⟨g, k * 2, none⟩ = some (.int .i64 x) ∧ w.cell? ⟨g, k * 2 + 1, none⟩ = some (.int .i64 y)
theorem Lsp.ext {w w' : World} {g : Nat} {L : List (Int × Int)} (h : Lsp w g L) (hx : Ext w w') : Lsp w' g L :=
  ⟨fun k x y hk => ⟨hx.cell_of (h.cell k x y hk).1, hx.cell_of (h.cell k x y hk).2⟩⟩
theorem Lsp.front {w : World} {g : Nat} {L M : List (Int × Int)} (h : Lsp w g (L ++ M)) : Lsp w g L :=
  ⟨fun k x y hk => h.cell k x y (by rw [List.getElem?_append_left (List.getElem?_eq_some_iff.1 hk).1]; exact hk)⟩
theorem Lsp.slp {w : World} {g c : Nat} {l M : List (Int × Int)} (h : Lsp w g (l ++ M)) : Slp w (.slice (some ⟨g, 0, none⟩) l.length c) l :=
  Or.inr ⟨g, 0, c, rfl, fun k x y hk => by rw [Nat.zero_add]; exact h.front.cell k x y hk⟩
theorem Lsp.put {w : World} {g T : Nat} {L : List (Int × Int)} (h : Lsp w g L) (hc : Cells w g T) (hT : L.length * 2 + 1 < T) (x y : Int) : Lsp ((w.setCell ⟨g, L.length * 2, none⟩ (.int .i64 x)).setCell ⟨g, L.length * 2 + 1, none⟩ (.int .i64 y)) g (L ++ [(x, y)]) := by
  refine ⟨fun k u v hk => ?_⟩
  obtain ⟨⟨c0, hc0⟩, _⟩ := hc (L.length * 2) (by omega)
  obtain ⟨⟨c1, hc1⟩, _⟩ := hc (L.length * 2 + 1) hT
  by_cases e : k = L.length
  · subst e
    simp at hk
    obtain ⟨rfl, rfl⟩ := hk
    exact ⟨by rw [other _ (Or.inr (by omega))]; exact same hc0, same (by rw [other _ (Or.inr (by omega))]; exact hc1)⟩
  · have hlt : k < L.length := by
      have := (List.getElem?_eq_some_iff.1 hk).1
      simp at this; omega
    rw [List.getElem?_append_left hlt] at hk
    have := h.cell k u v hk
    refine ⟨?_, ?_⟩
    · rw [other _ (Or.inr (by omega)), other _ (Or.inr (by omega))]; exact this.1
    · rw [other _ (Or.inr (by omega)), other _ (Or.inr (by omega))]; exact this.2
theorem Cells.of_own2 {w : World} {B g n T : Nat} {e : TypeId} {xs : List Value} (h : w.ownsRow B e 2 (.slice (some ⟨g, 0, none⟩) n T) n xs) : Cells w g (T * 2) := by
  intro k hk
  refine ⟨?_, h.frozenAt k⟩
  rcases h.2 with ⟨h0, _⟩ | ⟨g', c', cur, h1, h2, h3, h4, h5, h6, h7⟩
  · cases h0
  · injection h1 with e1 e2 e3
    injection e1 with e1
    injection e1 with e1
    subst e1; subst e3
    refine ⟨cur[k]'(by omega), ?_⟩
    simp [World.cell?, h3]
theorem Lsp.of_own {w : World} {B g T : Nat} {e : TypeId} {l : List (Int × Int)} (h : w.ownsRow B e 2 (.slice (some ⟨g, 0, none⟩) l.length T) l.length (cellsP l)) : Lsp w g l :=
  ⟨fun k x y hk => by
    have hlt := (List.getElem?_eq_some_iff.1 hk).1
    rw [h.cellAt (k * 2) (by omega), h.cellAt (k * 2 + 1) (by omega)]
    exact cellsP_at l k x y hk⟩
theorem Slp.src {w : World} {v : Value} {l : List (Int × Int)} (h : Slp w v l) : ∃ ao c, v = .slice ao l.length c ∧ (ao = none → l.length = 0 ∧ c = 0) ∧
    ∀ w' : World, Ext w w' → ∀ ad, ao = some ad → ∀ j u, (cellsP l)[j]? = some u → w'.cell? (ad.add j) = some u := by
  rcases h with ⟨a, c, rfl, hn, rfl⟩ | ⟨b, off, c, rfl, hc⟩
  · exact ⟨a, c, rfl, (fun h => ⟨rfl, hn h⟩), fun w' hx ad _ j u hj => by simp [cellsP] at hj⟩
  · refine ⟨_, c, rfl, (fun h => by cases h), fun w' hx ad had j u hj => ?_⟩
    obtain rfl := Option.some.inj had
    obtain ⟨k, x, y, h1, h2⟩ := cellsP_of l j u hj
    rw [Addr.add_lit]
    rcases h2 with ⟨rfl, rfl⟩ | ⟨rfl, rfl⟩
    · exact hx.cell_of (hc k x y h1).1
    · exact hx.cell_of (hc k x y h1).2
theorem fill_two (w : World) (t : TypeId) : ∃ W F, w.alloc (.cells #[.int .i64 71, .int .i64 0] t) = W ∧ w.heap.size = F ∧ Ext w W ∧ W.cell? ⟨F, 0, none⟩ = some (.int .i64 71) ∧ W.cell? ⟨F, 1, none⟩ = some (.int .i64 0) ∧ F < W.heap.size :=
  ⟨_, _, rfl, rfl, (Ext.refl w).alloc _ _, by simp [go_sem], by simp [go_sem], by simp⟩
theorem infoR : (Tryz.prog.info? 31).map (fun i => (i.zero, i.size, i.bytes)) = some (some (.agg #[.int .i64 0, .int .i64 0]), 2, 16) := by kernel_rfl
set_option maxHeartbeats 1000000 in
theorem OwnR_c (v : Value) (l : List (Int × Int)) (w : World) (hl : l.length ≤ 1000) (hv : Slp w v l) :
    Calls Tryz.prog 7 #[v, .agg #[.int .i64 71, .int .i64 0]] w fun e w' => (∃ g, e = .returned (.slice (some ⟨g, 0, none⟩) l.length (l.length + 3)) ∧ w.heap.size ≤ g ∧ g < w'.heap.size ∧ Lsp w' g (l ++ [(71, 0), (71, 0), (71, 0)])) ∧ Ext w w' := by
  obtain ⟨ao, c, rfl, hnone, hcl⟩ := hv.src
  clear hv
  replace hcl := show Hid _ from hcl
  replace hnone := show Hid _ from hnone
  obtain ⟨i0, hi, hz0, hz1, hz2⟩ := info_parts infoR
  obtain ⟨n, hn⟩ : ∃ n, l.length = n := ⟨_, rfl⟩
  rw [hn] at hl ⊢
  rw [hn] at hnone
  replace hn := show Hid _ from hn
  obtain ⟨W0, F, hW0, hF, hx0, f0, f1, hFlt⟩ := fill_two w 31
  replace hx0 := show Hid _ from hx0
  go_enter Tryz.func7, Tryz.ntmps7
  go_wp2_with (at_make; refine wpList_make_own W0 rfl _ (.tmp 10) 22 rfl W0.heap.size 31 i0 (.agg #[.int .i64 0, .int .i64 0]) 2 Tryz.underlying22 hi hz0 hz1 .i64 .i64 _ (n + 3) rfl rfl (by omega) (by rw [hz2]; omega) (by unfold maxLen; omega) (Nat.le_refl _) ?_)
  intro w1 hown1 hg1
  have hx1 := show Hid (Ext W0 w1) from Ext.grown hg1
  obtain ⟨g, hgg⟩ : ∃ g, W0.heap.size = g := ⟨_, rfl⟩
  have lo0 : W0.heap.size ≤ g := by omega
  have lo : w.heap.size ≤ g := by have := hx0.out.size; omega
  have hFg : F ≠ g := by omega
  rw [hgg] at hown1 ⊢
  clear hg1 hW0
  go_wp2_with (at_builtin; refine wpList_append_fits_any w1 rfl (.tmp 12) (.tmp 13) 22 rfl g 31 i0 2 Tryz.underlying22 hi hz1 g 0 (n + 3) [] rfl hown1 ao n c (cellsP l) rfl ?c0 hnone.out (hcl.out _ (hx0.out.trans hx1.out)) (cellsP_one l) ?c3 ?_)
  case c0 => rw [cellsP_len, hn.out]
  case c3 => omega
  intro w2 hown2 hg2
  have hx2 : Hid (Ext w w2) := ⟨(hx0.out.trans hx1.out).below.grown hg2 (by have := hx1.out.size; omega) (fun k hk => by injection hk with hk; subst hk; exact lo)⟩
  have hx3 : Ext W0 w2 := ⟨hx1.out.below.grown hg2 (by have := hx1.out.size; omega) (fun k hk => by injection hk with hk; subst hk; exact lo0)⟩
  have h0 := show Hid _ from hx3.cell_of f0
  have h1 := show Hid _ from hx3.cell_of f1
  have hL : Hid (Lsp w2 g (l ++ List.replicate 0 (71, 0))) := by
    show Lsp _ _ _
    have : w2.ownsRow g 31 2 (.slice (some ⟨g, 0, none⟩) l.length (n + 3)) l.length (cellsP l) := by rw [hn.out]; simpa using hown2
    simpa using Lsp.of_own this
  have hC : Hid (Cells w2 g ((n + 3) * 2)) := Cells.of_own2 hown2
  have hsz : g < w2.heap.size := (hown2.lt g rfl).2
  clear hown1 hown2 hg2 hx1 hx0 hx3 hi hz0 hz1 hz2 hcl hnone hgg f0 f1 hFlt
  go_wp2_with fail
  go_loopw [7] (fun i wr => ∃ k : Nat, n ≤ k ∧ k ≤ n + 3 ∧ i = .int .i64 k ∧ Hid (Lsp wr g (l ++ List.replicate (k - n) (71, 0))) ∧ Hid (Cells wr g ((n + 3) * 2)) ∧ Hid (Ext w wr) ∧ Hid (g < wr.heap.size) ∧ Hid (wr.cell? ⟨F, 0, none⟩ = some (.int .i64 71)) ∧ Hid (wr.cell? ⟨F, 1, none⟩ = some (.int .i64 0))) (fun i _ => n + 3 - (intOf i).toNat)
  case atStart => exact ⟨n, Nat.le_refl _, by omega, rfl, by rw [Nat.sub_self]; exact hL, hC, hx2, hsz, h0, h1⟩
  case round =>
    clear hL hC hx2 hsz h0 h1
    obtain ⟨k, hk1, hk2, rfl, hL, hC, hx, hsz, h0, h1⟩ := hrel
    by_cases hlt : k < n + 3
    · obtain ⟨⟨u, hu⟩, hf⟩ := hC.out (k * 2) (by omega)
      obtain ⟨⟨u', hu'⟩, hf'⟩ := hC.out (k * 2 + 1) (by omega)
      have q0 := h0.out; have q1 := h1.out
      have hC2 := hC.out.set (k * 2) (.int .i64 71)
      have p0 : (wr.setCell ⟨g, k * 2, none⟩ (.int .i64 71)).cell? ⟨g, k * 2 + 1, none⟩ = some u' := by rw [other _ (Or.inr (by omega))]; exact hu'
      have p1 : (wr.setCell ⟨g, k * 2, none⟩ (.int .i64 71)).frozen? ⟨g, k * 2 + 1, none⟩ = false := (hC2 (k * 2 + 1) (by omega)).2
      have hL2 : Hid (Lsp ((wr.setCell ⟨g, k * 2, none⟩ (.int .i64 71)).setCell ⟨g, k * 2 + 1, none⟩ (.int .i64 0)) g (l ++ List.replicate (k + 1 - n) (71, 0))) := by
        show Lsp _ _ _
        have hlen : (l ++ List.replicate (k - n) ((71, 0) : Int × Int)).length = k := by have := hn.out; simp; omega
        have := hL.out.put (T := (n + 3) * 2) hC.out (by rw [hlen]; omega) 71 0
        rw [hlen] at this
        rw [show k + 1 - n = (k - n) + 1 by omega, List.replicate_succ', ← List.append_assoc]
        exact this
      have hC3 := show Hid (Cells ((wr.setCell ⟨g, k * 2, none⟩ (.int .i64 71)).setCell ⟨g, k * 2 + 1, none⟩ (.int .i64 0)) g ((n + 3) * 2)) from hC2.set (k * 2 + 1) _
      have r0 := show Hid (((wr.setCell ⟨g, k * 2, none⟩ (.int .i64 71)).setCell ⟨g, k * 2 + 1, none⟩ (.int .i64 0)).cell? ⟨F, 0, none⟩ = some (.int .i64 71)) from by
        show _ = _
        rw [other _ (Or.inl (Ne.symm hFg)), other _ (Or.inl (Ne.symm hFg))]; exact q0
      have r1 := show Hid (((wr.setCell ⟨g, k * 2, none⟩ (.int .i64 71)).setCell ⟨g, k * 2 + 1, none⟩ (.int .i64 0)).cell? ⟨F, 1, none⟩ = some (.int .i64 0)) from by
        show _ = _
        rw [other _ (Or.inl (Ne.symm hFg)), other _ (Or.inl (Ne.symm hFg))]; exact q1
      have hx4 := show Hid (Ext w ((wr.setCell ⟨g, k * 2, none⟩ (.int .i64 71)).setCell ⟨g, k * 2 + 1, none⟩ (.int .i64 0))) from (hx.out.setCell lo _).setCell lo _
      have hs4 := show Hid (g < ((wr.setCell ⟨g, k * 2, none⟩ (.int .i64 71)).setCell ⟨g, k * 2 + 1, none⟩ (.int .i64 0)).heap.size) from by show _ < _; simpa using hsz.out
      obtain ⟨W4, hW4⟩ : ∃ W, (wr.setCell ⟨g, k * 2, none⟩ (.int .i64 71)).setCell ⟨g, k * 2 + 1, none⟩ (.int .i64 0) = W := ⟨_, rfl⟩
      rw [hW4] at hL2 hC3 r0 r1 hx4 hs4
      clear hC2 hL hC hx hsz h0 h1
      go_wp2
      go_roundw
      case rel => exact ⟨k + 1, by omega, by omega, by go_num, hL2, hC3, hx4, hs4, r0, r1⟩
      case measure => simp [intOf]; omega
    · obtain rfl : k = n + 3 := by omega
      have hL' : Hid (Lsp wr g (l ++ [(71, 0), (71, 0), (71, 0)])) := by show Lsp _ _ _; have := hL.out; rwa [show n + 3 - n = 3 by omega] at this
      clear hL hC
      go_wp2
      go_ret
      exact ⟨⟨g, rfl, lo, hsz.out, hL'.out⟩, hx.out⟩
theorem oneR_t (x y : Int) (w : World) :
    Calls Tryz.prog 50 #[.agg #[.int .i64 x, .int .i64 y], .agg #[.int .i64 x, .int .i64 y]] w fun e w' => e = .returned (.bool true) ∧ Ext w w' := by
  go_enter Tryz.func50, Tryz.ntmps50
  go_wp2
  go_ret
  exact ⟨rfl, ((Ext.refl w).alloc _ _).alloc _ _⟩
theorem SameR_nil (a : Option Addr) (c d : Nat) (x : Option Addr) (w : World) :
    Calls Tryz.prog 49 #[.slice x 0 d, .slice a 0 c, .func (.func 50) #[] #[]] w fun e w' => e = .returned (.bool true) ∧ w' = w := by
  go_enter Tryz.func49, Tryz.ntmps49
  go_wp2_with fail
  refine wp_loop_rounds 1 ?_
  rw [rounds_succ]
  go_wp2
  go_ret
  exact ⟨rfl, rfl⟩
theorem SameR_x (g b off c d : Nat) (l : List (Int × Int)) (w : World) (hl : l.length ≤ 1000) (hg : Lsp w g l) (hc : ∀ (k : Nat) (x y : Int), l[k]? = some (x, y) → w.cell? ⟨b, off + k * 2, none⟩ = some (.int .i64 x) ∧ w.cell? ⟨b, off + k * 2 + 1, none⟩ = some (.int .i64 y)) :
    Calls Tryz.prog 49 #[.slice (some ⟨g, 0, none⟩) l.length d, .slice (some ⟨b, off, none⟩) l.length c, .func (.func 50) #[] #[]] w fun e w' => e = .returned (.bool true) ∧ Ext w w' := by
  replace hg := show Hid _ from hg
  replace hc := show Hid _ from hc
  obtain ⟨T, hT⟩ : ∃ n, l.length = n := ⟨_, rfl⟩
  rw [hT] at hl ⊢
  replace hT := show Hid _ from hT
  go_enter Tryz.func49, Tryz.ntmps49
  go_wp2_with fail
  go_loopw [7] (fun i wr => ∃ k : Nat, k ≤ T ∧ i = .int .i64 k ∧ Hid (Ext w wr)) (fun i _ => T - (intOf i).toNat)
  case atStart => exact ⟨0, Nat.zero_le _, rfl, Ext.refl w⟩
  case round =>
    obtain ⟨k, hk, rfl, hx⟩ := hrel
    by_cases hlt : k < T
    · obtain ⟨⟨x, y⟩, hV⟩ : ∃ V, l[k]? = some V := ⟨_, List.getElem?_eq_getElem (by have := hT.out; omega)⟩
      have k0 := hx.out.cell_of (hg.out.cell k x y hV).1
      have k1 := hx.out.cell_of (hg.out.cell k x y hV).2
      have k2 := hx.out.cell_of (hc.out k x y hV).1
      have k3 := hx.out.cell_of (hc.out k x y hV).2
      clear hV
      have hlt' : (k : Int) < (T : Int) := by omega
      have j0 := Late.cell k0; have j1 := Late.cell k1; have j2 := Late.cell k2; have j3 := Late.cell k3
      have hNe1 : Nonempty (Late wr) := ⟨⟨_, Ext.refl _⟩⟩
      go_wp2_with fail
      refine wp_region_late (by kernel_rfl) (by kernel_rfl) ?_
      repeat (go_big_quiet_step ((first
        | (go_at_call 50; exact late_of (oneR_t _ _ _)))))
      refine wpQuiet_nil ?_
      intro W1 hw'
      replace hx : Hid (Ext w W1) := hx.out.trans (late_ext hw')
      clear hw' j0 j1 j2 j3 k0 k1 k2 k3
      go_wp2
      go_roundw
      case rel => exact ⟨k + 1, by omega, by go_num, hx⟩
      case measure => simp [intOf]; omega
    · obtain rfl : k = T := by omega
      go_wp2
      go_ret
      exact ⟨rfl, hx.out⟩
theorem PlainR_c (g d : Nat) (v : Value) (l : List (Int × Int)) (w : World) (hl : l.length ≤ 1000) (hg : Lsp w g l) (hv : Slp w v l) :
    Calls Tryz.prog 28 #[.slice (some ⟨g, 0, none⟩) l.length d, v] w fun e w' => e = .returned (.bool true) ∧ Ext w w' := by
  have hS : Hid (Calls Tryz.prog 49 #[.slice (some ⟨g, 0, none⟩) l.length d, v, .func (.func 50) #[] #[]] w fun e w' => e = .returned (.bool true) ∧ Ext w w') := by
    rcases hv with ⟨a, c, rfl, _, rfl⟩ | ⟨b, off, c, rfl, hc⟩
    · exact (SameR_nil a c d _ w).mono fun e w' h => ⟨h.1, by rw [h.2]; exact Ext.refl _⟩
    · exact SameR_x g b off c d l w hl hg hc
  clear hg hv hl
  generalize l.length = n at *
  go_enter Tryz.func28, Tryz.ntmps28
  go_wp2_with fail
  refine Calls.mono hS.out ?_
  rintro e w1 ⟨rfl, hx⟩
  replace hx := show Hid _ from hx
  go_wp2
  go_ret
  exact ⟨rfl, hx.out⟩
theorem KeptR_c (g : Nat) (v : Value) (l : List (Int × Int)) (w : World) (hl : l.length ≤ 1000) (hg : Lsp w g (l ++ [(71, 0), (71, 0), (71, 0)])) (hv : Slp w v l) :
    Calls Tryz.prog 12 #[.slice (some ⟨g, 0, none⟩) l.length (l.length + 3), v, .agg #[.int .i64 71, .int .i64 0]] w fun e w' => e = .returned (.bool true) ∧ Ext w w' := by
  obtain ⟨W0, F, hW0, hF, hx0, f0, f1, hFlt⟩ := fill_two w 31
  have hP : Hid (Calls Tryz.prog 28 #[.slice (some ⟨g, 0, none⟩) l.length (l.length + 3), v] W0 fun e w' => e = .returned (.bool true) ∧ Ext W0 w') := PlainR_c g _ v l W0 hl (hg.ext hx0).front (hv.ext hx0)
  obtain ⟨ao, c, rfl, _, _⟩ := hv.src
  clear hv
  replace hg := show Hid (Lsp W0 g _) from hg.ext hx0
  replace f0 := show Hid (W0.cell? ⟨F, 0, none⟩ = _) from f0
  replace f1 := show Hid (W0.cell? ⟨F, 1, none⟩ = _) from f1
  replace hx0 := show Hid _ from hx0
  obtain ⟨n, hn⟩ : ∃ n, l.length = n := ⟨_, rfl⟩
  rw [hn] at hl ⊢
  rw [hn] at hP
  replace hn := show Hid _ from hn
  go_enter Tryz.func12, Tryz.ntmps12
  go_wp2_with fail
  refine Calls.mono hP.out ?_
  rintro e w1 ⟨rfl, hx⟩
  replace hg : Hid (Lsp w1 g (l ++ [(71, 0), (71, 0), (71, 0)])) := hg.out.ext hx
  replace f0 := show Hid (w1.cell? ⟨F, 0, none⟩ = _) from hx.cell_of f0.out
  replace f1 := show Hid (w1.cell? ⟨F, 1, none⟩ = _) from hx.cell_of f1.out
  have hx1 : Hid (Ext w w1) := hx0.out.trans hx
  clear hP hx hx0 hW0 hF hFlt
  go_wp2_with fail
  go_loopw [8] (fun i wr => ∃ k : Nat, n ≤ k ∧ k ≤ n + 3 ∧ i = .int .i64 k ∧ Hid (Ext w1 wr)) (fun i _ => n + 3 - (RowKit.intOf i).toNat)
  case atStart => exact ⟨n, Nat.le_refl _, by omega, rfl, Ext.refl _⟩
  case round =>
    obtain ⟨k, hk1, hk2, rfl, hxr⟩ := hrel
    by_cases hlt : k < n + 3
    · have hcell := hg.out.cell k 71 0 (by
        have := hn.out
        rw [List.getElem?_append_right (by omega), this]
        obtain h | h | h : k - n = 0 ∨ k - n = 1 ∨ k - n = 2 := by omega
        all_goals rw [h]; rfl)
      have j0 := Late.cell (hxr.out.cell_of hcell.1); have j1 := Late.cell (hxr.out.cell_of hcell.2)
      have j2 := Late.cell (hxr.out.cell_of f0.out); have j3 := Late.cell (hxr.out.cell_of f1.out)
      have hNe1 : Nonempty (Late wr) := ⟨⟨_, Ext.refl _⟩⟩
      have hlt' : (k : Int) < (n : Int) + 3 := by omega
      clear hcell
      go_wp2_with fail
      refine wp_region_late (by kernel_rfl) (by kernel_rfl) ?_
      repeat (go_big_quiet_step (fail))
      refine wpQuiet_nil ?_
      intro W1 hw'
      replace hxr : Hid (Ext w1 W1) := hxr.out.trans (late_ext hw')
      clear hw' j0 j1 j2 j3
      go_wp2
      go_roundw
      case rel => exact ⟨k + 1, by omega, by omega, by go_num, hxr⟩
      case measure => simp [RowKit.intOf]; omega
    · obtain rfl : k = n + 3 := by omega
      go_wp2
      go_ret
      exact ⟨rfl, hx1.out.trans hxr.out⟩
theorem infoT : (Tryz.prog.info? 34).map (fun i => (i.zero, i.size, i.bytes)) = some (some (.agg #[.int .i64 0, .int .i64 0]), 2, 16) := by kernel_rfl
set_option maxHeartbeats 1000000 in
theorem OwnT_c (v : Value) (l : List (Int × Int)) (w : World) (hl : l.length ≤ 1000) (hv : Slp w v l) :
    Calls Tryz.prog 8 #[v, .agg #[.int .i64 71, .int .i64 0]] w fun e w' => (∃ g, e = .returned (.slice (some ⟨g, 0, none⟩) l.length (l.length + 3)) ∧ w.heap.size ≤ g ∧ g < w'.heap.size ∧ Lsp w' g (l ++ [(71, 0), (71, 0), (71, 0)])) ∧ Ext w w' := by
  obtain ⟨ao, c, rfl, hnone, hcl⟩ := hv.src
  clear hv
  replace hcl := show Hid _ from hcl
  replace hnone := show Hid _ from hnone
  obtain ⟨i0, hi, hz0, hz1, hz2⟩ := info_parts infoT
  obtain ⟨n, hn⟩ : ∃ n, l.length = n := ⟨_, rfl⟩
  rw [hn] at hl ⊢
  rw [hn] at hnone
  replace hn := show Hid _ from hn
  obtain ⟨W0, F, hW0, hF, hx0, f0, f1, hFlt⟩ := fill_two w 34
  replace hx0 := show Hid _ from hx0
  go_enter Tryz.func8, Tryz.ntmps8
  go_wp2_with (at_make; refine wpList_make_own W0 rfl _ (.tmp 10) 24 rfl W0.heap.size 34 i0 (.agg #[.int .i64 0, .int .i64 0]) 2 Tryz.underlying24 hi hz0 hz1 .i64 .i64 _ (n + 3) rfl rfl (by omega) (by rw [hz2]; omega) (by unfold maxLen; omega) (Nat.le_refl _) ?_)
  intro w1 hown1 hg1
  have hx1 := show Hid (Ext W0 w1) from Ext.grown hg1
  obtain ⟨g, hgg⟩ : ∃ g, W0.heap.size = g := ⟨_, rfl⟩
  have lo0 : W0.heap.size ≤ g := by omega
  have lo : w.heap.size ≤ g := by have := hx0.out.size; omega
  have hFg : F ≠ g := by omega
  rw [hgg] at hown1 ⊢
  clear hg1 hW0
  go_wp2_with (at_builtin; refine wpList_append_fits_any w1 rfl (.tmp 12) (.tmp 13) 24 rfl g 34 i0 2 Tryz.underlying24 hi hz1 g 0 (n + 3) [] rfl hown1 ao n c (cellsP l) rfl ?c0 hnone.out (hcl.out _ (hx0.out.trans hx1.out)) (cellsP_one l) ?c3 ?_)
  case c0 => rw [cellsP_len, hn.out]
  case c3 => omega
  intro w2 hown2 hg2
  have hx2 : Hid (Ext w w2) := ⟨(hx0.out.trans hx1.out).below.grown hg2 (by have := hx1.out.size; omega) (fun k hk => by injection hk with hk; subst hk; exact lo)⟩
  have hx3 : Ext W0 w2 := ⟨hx1.out.below.grown hg2 (by have := hx1.out.size; omega) (fun k hk => by injection hk with hk; subst hk; exact lo0)⟩
  have h0 := show Hid _ from hx3.cell_of f0
  have h1 := show Hid _ from hx3.cell_of f1
  have hL : Hid (Lsp w2 g (l ++ List.replicate 0 (71, 0))) := by
    show Lsp _ _ _
    have : w2.ownsRow g 34 2 (.slice (some ⟨g, 0, none⟩) l.length (n + 3)) l.length (cellsP l) := by rw [hn.out]; simpa using hown2
    simpa using Lsp.of_own this
  have hC : Hid (Cells w2 g ((n + 3) * 2)) := Cells.of_own2 hown2
  have hsz : g < w2.heap.size := (hown2.lt g rfl).2
  clear hown1 hown2 hg2 hx1 hx0 hx3 hi hz0 hz1 hz2 hcl hnone hgg f0 f1 hFlt
  go_wp2_with fail
  go_loopw [7] (fun i wr => ∃ k : Nat, n ≤ k ∧ k ≤ n + 3 ∧ i = .int .i64 k ∧ Hid (Lsp wr g (l ++ List.replicate (k - n) (71, 0))) ∧ Hid (Cells wr g ((n + 3) * 2)) ∧ Hid (Ext w wr) ∧ Hid (g < wr.heap.size) ∧ Hid (wr.cell? ⟨F, 0, none⟩ = some (.int .i64 71)) ∧ Hid (wr.cell? ⟨F, 1, none⟩ = some (.int .i64 0))) (fun i _ => n + 3 - (intOf i).toNat)
  case atStart => exact ⟨n, Nat.le_refl _, by omega, rfl, by rw [Nat.sub_self]; exact hL, hC, hx2, hsz, h0, h1⟩
  case round =>
    clear hL hC hx2 hsz h0 h1
    obtain ⟨k, hk1, hk2, rfl, hL, hC, hx, hsz, h0, h1⟩ := hrel
    by_cases hlt : k < n + 3
    · obtain ⟨⟨u, hu⟩, hf⟩ := hC.out (k * 2) (by omega)
      obtain ⟨⟨u', hu'⟩, hf'⟩ := hC.out (k * 2 + 1) (by omega)
      have q0 := h0.out; have q1 := h1.out
      have hC2 := hC.out.set (k * 2) (.int .i64 71)
      have p0 : (wr.setCell ⟨g, k * 2, none⟩ (.int .i64 71)).cell? ⟨g, k * 2 + 1, none⟩ = some u' := by rw [other _ (Or.inr (by omega))]; exact hu'
      have p1 : (wr.setCell ⟨g, k * 2, none⟩ (.int .i64 71)).frozen? ⟨g, k * 2 + 1, none⟩ = false := (hC2 (k * 2 + 1) (by omega)).2
      have hL2 : Hid (Lsp ((wr.setCell ⟨g, k * 2, none⟩ (.int .i64 71)).setCell ⟨g, k * 2 + 1, none⟩ (.int .i64 0)) g (l ++ List.replicate (k + 1 - n) (71, 0))) := by
        show Lsp _ _ _
        have hlen : (l ++ List.replicate (k - n) ((71, 0) : Int × Int)).length = k := by have := hn.out; simp; omega
        have := hL.out.put (T := (n + 3) * 2) hC.out (by rw [hlen]; omega) 71 0
        rw [hlen] at this
        rw [show k + 1 - n = (k - n) + 1 by omega, List.replicate_succ', ← List.append_assoc]
        exact this
      have hC3 := show Hid (Cells ((wr.setCell ⟨g, k * 2, none⟩ (.int .i64 71)).setCell ⟨g, k * 2 + 1, none⟩ (.int .i64 0)) g ((n + 3) * 2)) from hC2.set (k * 2 + 1) _
      have r0 := show Hid (((wr.setCell ⟨g, k * 2, none⟩ (.int .i64 71)).setCell ⟨g, k * 2 + 1, none⟩ (.int .i64 0)).cell? ⟨F, 0, none⟩ = some (.int .i64 71)) from by
        show _ = _
        rw [other _ (Or.inl (Ne.symm hFg)), other _ (Or.inl (Ne.symm hFg))]; exact q0
      have r1 := show Hid (((wr.setCell ⟨g, k * 2, none⟩ (.int .i64 71)).setCell ⟨g, k * 2 + 1, none⟩ (.int .i64 0)).cell? ⟨F, 1, none⟩ = some (.int .i64 0)) from by
        show _ = _
        rw [other _ (Or.inl (Ne.symm hFg)), other _ (Or.inl (Ne.symm hFg))]; exact q1
      have hx4 := show Hid (Ext w ((wr.setCell ⟨g, k * 2, none⟩ (.int .i64 71)).setCell ⟨g, k * 2 + 1, none⟩ (.int .i64 0))) from (hx.out.setCell lo _).setCell lo _
      have hs4 := show Hid (g < ((wr.setCell ⟨g, k * 2, none⟩ (.int .i64 71)).setCell ⟨g, k * 2 + 1, none⟩ (.int .i64 0)).heap.size) from by show _ < _; simpa using hsz.out
      obtain ⟨W4, hW4⟩ : ∃ W, (wr.setCell ⟨g, k * 2, none⟩ (.int .i64 71)).setCell ⟨g, k * 2 + 1, none⟩ (.int .i64 0) = W := ⟨_, rfl⟩
      rw [hW4] at hL2 hC3 r0 r1 hx4 hs4
      clear hC2 hL hC hx hsz h0 h1
      go_wp2
      go_roundw
      case rel => exact ⟨k + 1, by omega, by omega, by go_num, hL2, hC3, hx4, hs4, r0, r1⟩
      case measure => simp [intOf]; omega
    · obtain rfl : k = n + 3 := by omega
      have hL' : Hid (Lsp wr g (l ++ [(71, 0), (71, 0), (71, 0)])) := by show Lsp _ _ _; have := hL.out; rwa [show n + 3 - n = 3 by omega] at this
      clear hL hC
      go_wp2
      go_ret
      exact ⟨⟨g, rfl, lo, hsz.out, hL'.out⟩, hx.out⟩
theorem oneT_t (x y : Int) (w : World) :
    Calls Tryz.prog 52 #[.agg #[.int .i64 x, .int .i64 y], .agg #[.int .i64 x, .int .i64 y]] w fun e w' => e = .returned (.bool true) ∧ Ext w w' := by
  go_enter Tryz.func52, Tryz.ntmps52
  go_wp2
  go_ret
  exact ⟨rfl, ((Ext.refl w).alloc _ _).alloc _ _⟩
theorem SameT_nil (a : Option Addr) (c d : Nat) (x : Option Addr) (w : World) :
    Calls Tryz.prog 51 #[.slice x 0 d, .slice a 0 c, .func (.func 52) #[] #[]] w fun e w' => e = .returned (.bool true) ∧ w' = w := by
  go_enter Tryz.func51, Tryz.ntmps51
  go_wp2_with fail
  refine wp_loop_rounds 1 ?_
  rw [rounds_succ]
  go_wp2
  go_ret
  exact ⟨rfl, rfl⟩
theorem SameT_x (g b off c d : Nat) (l : List (Int × Int)) (w : World) (hl : l.length ≤ 1000) (hg : Lsp w g l) (hc : ∀ (k : Nat) (x y : Int), l[k]? = some (x, y) → w.cell? ⟨b, off + k * 2, none⟩ = some (.int .i64 x) ∧ w.cell? ⟨b, off + k * 2 + 1, none⟩ = some (.int .i64 y)) :
    Calls Tryz.prog 51 #[.slice (some ⟨g, 0, none⟩) l.length d, .slice (some ⟨b, off, none⟩) l.length c, .func (.func 52) #[] #[]] w fun e w' => e = .returned (.bool true) ∧ Ext w w' := by
  replace hg := show Hid _ from hg
  replace hc := show Hid _ from hc
  obtain ⟨T, hT⟩ : ∃ n, l.length = n := ⟨_, rfl⟩
  rw [hT] at hl ⊢
  replace hT := show Hid _ from hT
  go_enter Tryz.func51, Tryz.ntmps51
  go_wp2_with fail
  go_loopw [7] (fun i wr => ∃ k : Nat, k ≤ T ∧ i = .int .i64 k ∧ Hid (Ext w wr)) (fun i _ => T - (intOf i).toNat)
  case atStart => exact ⟨0, Nat.zero_le _, rfl, Ext.refl w⟩
  case round =>
    obtain ⟨k, hk, rfl, hx⟩ := hrel
    by_cases hlt : k < T
    · obtain ⟨⟨x, y⟩, hV⟩ : ∃ V, l[k]? = some V := ⟨_, List.getElem?_eq_getElem (by have := hT.out; omega)⟩
      have k0 := hx.out.cell_of (hg.out.cell k x y hV).1
      have k1 := hx.out.cell_of (hg.out.cell k x y hV).2
      have k2 := hx.out.cell_of (hc.out k x y hV).1
      have k3 := hx.out.cell_of (hc.out k x y hV).2
      clear hV
      have hlt' : (k : Int) < (T : Int) := by omega
      have j0 := Late.cell k0; have j1 := Late.cell k1; have j2 := Late.cell k2; have j3 := Late.cell k3
      have hNe1 : Nonempty (Late wr) := ⟨⟨_, Ext.refl _⟩⟩
      go_wp2_with fail
      refine wp_region_late (by kernel_rfl) (by kernel_rfl) ?_
      repeat (go_big_quiet_step ((first
        | (go_at_call 52; exact late_of (oneT_t _ _ _)))))
      refine wpQuiet_nil ?_
      intro W1 hw'
      replace hx : Hid (Ext w W1) := hx.out.trans (late_ext hw')
      clear hw' j0 j1 j2 j3 k0 k1 k2 k3
      go_wp2
      go_roundw
      case rel => exact ⟨k + 1, by omega, by go_num, hx⟩
      case measure => simp [intOf]; omega
    · obtain rfl : k = T := by omega
      go_wp2
      go_ret
      exact ⟨rfl, hx.out⟩
theorem PlainT_c (g d : Nat) (v : Value) (l : List (Int × Int)) (w : World) (hl : l.length ≤ 1000) (hg : Lsp w g l) (hv : Slp w v l) :
    Calls Tryz.prog 29 #[.slice (some ⟨g, 0, none⟩) l.length d, v] w fun e w' => e = .returned (.bool true) ∧ Ext w w' := by
  have hS : Hid (Calls Tryz.prog 51 #[.slice (some ⟨g, 0, none⟩) l.length d, v, .func (.func 52) #[] #[]] w fun e w' => e = .returned (.bool true) ∧ Ext w w') := by
    rcases hv with ⟨a, c, rfl, _, rfl⟩ | ⟨b, off, c, rfl, hc⟩
    · exact (SameT_nil a c d _ w).mono fun e w' h => ⟨h.1, by rw [h.2]; exact Ext.refl _⟩
    · exact SameT_x g b off c d l w hl hg hc
  clear hg hv hl
  generalize l.length = n at *
  go_enter Tryz.func29, Tryz.ntmps29
  go_wp2_with fail
  refine Calls.mono hS.out ?_
  rintro e w1 ⟨rfl, hx⟩
  replace hx := show Hid _ from hx
  go_wp2
  go_ret
  exact ⟨rfl, hx.out⟩
theorem KeptT_c (g : Nat) (v : Value) (l : List (Int × Int)) (w : World) (hl : l.length ≤ 1000) (hg : Lsp w g (l ++ [(71, 0), (71, 0), (71, 0)])) (hv : Slp w v l) :
    Calls Tryz.prog 13 #[.slice (some ⟨g, 0, none⟩) l.length (l.length + 3), v, .agg #[.int .i64 71, .int .i64 0]] w fun e w' => e = .returned (.bool true) ∧ Ext w w' := by
  obtain ⟨W0, F, hW0, hF, hx0, f0, f1, hFlt⟩ := fill_two w 34
  have hP : Hid (Calls Tryz.prog 29 #[.slice (some ⟨g, 0, none⟩) l.length (l.length + 3), v] W0 fun e w' => e = .returned (.bool true) ∧ Ext W0 w') := PlainT_c g _ v l W0 hl (hg.ext hx0).front (hv.ext hx0)
  obtain ⟨ao, c, rfl, _, _⟩ := hv.src
  clear hv
  replace hg := show Hid (Lsp W0 g _) from hg.ext hx0
  replace f0 := show Hid (W0.cell? ⟨F, 0, none⟩ = _) from f0
  replace f1 := show Hid (W0.cell? ⟨F, 1, none⟩ = _) from f1
  replace hx0 := show Hid _ from hx0
  obtain ⟨n, hn⟩ : ∃ n, l.length = n := ⟨_, rfl⟩
  rw [hn] at hl ⊢
  rw [hn] at hP
  replace hn := show Hid _ from hn
  go_enter Tryz.func13, Tryz.ntmps13
  go_wp2_with fail
  refine Calls.mono hP.out ?_
  rintro e w1 ⟨rfl, hx⟩
  replace hg : Hid (Lsp w1 g (l ++ [(71, 0), (71, 0), (71, 0)])) := hg.out.ext hx
  replace f0 := show Hid (w1.cell? ⟨F, 0, none⟩ = _) from hx.cell_of f0.out
  replace f1 := show Hid (w1.cell? ⟨F, 1, none⟩ = _) from hx.cell_of f1.out
  have hx1 : Hid (Ext w w1) := hx0.out.trans hx
  clear hP hx hx0 hW0 hF hFlt
  go_wp2_with fail
  go_loopw [8] (fun i wr => ∃ k : Nat, n ≤ k ∧ k ≤ n + 3 ∧ i = .int .i64 k ∧ Hid (Ext w1 wr)) (fun i _ => n + 3 - (RowKit.intOf i).toNat)
  case atStart => exact ⟨n, Nat.le_refl _, by omega, rfl, Ext.refl _⟩
  case round =>
    obtain ⟨k, hk1, hk2, rfl, hxr⟩ := hrel
    by_cases hlt : k < n + 3
    · have hcell := hg.out.cell k 71 0 (by
        have := hn.out
        rw [List.getElem?_append_right (by omega), this]
        obtain h | h | h : k - n = 0 ∨ k - n = 1 ∨ k - n = 2 := by omega
        all_goals rw [h]; rfl)
      have j0 := Late.cell (hxr.out.cell_of hcell.1); have j1 := Late.cell (hxr.out.cell_of hcell.2)
      have j2 := Late.cell (hxr.out.cell_of f0.out); have j3 := Late.cell (hxr.out.cell_of f1.out)
      have hNe1 : Nonempty (Late wr) := ⟨⟨_, Ext.refl _⟩⟩
      have hlt' : (k : Int) < (n : Int) + 3 := by omega
      clear hcell
      go_wp2_with fail
      refine wp_region_late (by kernel_rfl) (by kernel_rfl) ?_
      repeat (go_big_quiet_step (fail))
      refine wpQuiet_nil ?_
      intro W1 hw'
      replace hxr : Hid (Ext w1 W1) := hxr.out.trans (late_ext hw')
      clear hw' j0 j1 j2 j3
      go_wp2
      go_roundw
      case rel => exact ⟨k + 1, by omega, by omega, by go_num, hxr⟩
      case measure => simp [RowKit.intOf]; omega
    · obtain rfl : k = n + 3 := by omega
      go_wp2
      go_ret
      exact ⟨rfl, hx1.out.trans hxr.out⟩
end Go.Proofs.YtaafagggjnemgaaGreatDoor.L8

namespace Go.Proofs.YtaafagggjnemgaaGreatDoor.L8
open Go.RowKit Go.ChangeShapes Go.WideShapes Go.ChangeAt
theorem laidOut : laidOutB Tryz.prog = true := by kernel_rfl
/-- The number in a cell. -/
def numV : Value → Int
  | .int _ n => n
  | _ => 0
theorem cells_i64 : Tryz.prog.cellsOf 2 = 1 := by kernel_rfl
theorem cells_str : Tryz.prog.cellsOf 9 = 1 := by kernel_rfl
theorem cells_rs : Tryz.prog.cellsOf 22 = 1 := by kernel_rfl
theorem cells_lt : Tryz.prog.cellsOf 24 = 1 := by kernel_rfl
theorem cells_hd : Tryz.prog.cellsOf 25 = 1 := by kernel_rfl
theorem cells_or : Tryz.prog.cellsOf 23 = 4 := by kernel_rfl
/-- A slice of pairs, read: its pairs. -/
theorem read_rs {H : Type} {enc : TypeId × Value → H} {W : World} {sp : Nat → Bool} {fuel : Nat} {v : Value} {x : DataW H × List MemPlace} (h : DataW.trod enc Tryz.prog W 0 sp true fuel 22 [v] = some x) :
    ∃ l : List (Int × Int), Slp W v l ∧ l.length ≤ maxLen := by
  rcases Go.Deep.open_slice_pairs (e := 31) Tryz.underlying22 Tryz.underlying31 (by kernel_rfl) rfl rfl (by kernel_rfl) (by kernel_rfl) h with ⟨hcs, _⟩ | ⟨a, len, cap, m, n, V0, V1, D0, D1, P0, P1, hcs, _, hl, hm, hmm, _, hx⟩
  · obtain rfl : v = .slice none 0 0 := by simpa using hcs
    exact ⟨[], Or.inl ⟨none, 0, rfl, (fun _ => rfl), rfl⟩, Nat.zero_le _⟩
  · obtain rfl : v = .slice (some a) len cap := by simpa using hcs
    have hlm : len ≤ m := by rw [hmm]; split <;> omega
    by_cases hl0 : len = 0
    · subst hl0
      exact ⟨[], Or.inl ⟨some a, cap, rfl, (fun h => by cases h), rfl⟩, Nat.zero_le _⟩
    · refine ⟨(List.range len).map fun i => (numV (V0 i), numV (V1 i)), ?_, by simp; omega⟩
      obtain ⟨b, off, spot⟩ := a
      have hspot : spot = none := by simpa [Addr.add] using World.cell?_spot (hx 0 (by omega)).1
      subst hspot
      refine Or.inr ⟨b, off, cap, by simp, fun k x y hk => ?_⟩
      have hk' : k < len := by
        have := (List.getElem?_eq_some_iff.1 hk).1
        simpa using this
      obtain ⟨c0, c1, t0, t1⟩ := hx k (by omega)
      obtain ⟨u0, e0, _, _⟩ := DataW.trod_int Tryz.underlying3 t0
      obtain ⟨u1, e1, _, _⟩ := DataW.trod_int Tryz.underlying2 t1
      have e0' : V0 k = .int .i64 u0 := by simpa using e0
      have e1' : V1 k = .int .i64 u1 := by simpa using e1
      have hxy : (numV (V0 k), numV (V1 k)) = (x, y) := by simpa [hk'] using hk
      rw [e0', e1'] at hxy
      obtain ⟨rfl, rfl⟩ : u0 = x ∧ u1 = y := by simpa [numV] using hxy
      rw [add_plain] at c0 c1
      rw [e0'] at c0
      rw [e1'] at c1
      exact ⟨c0, by simpa [Nat.add_assoc] using c1⟩
/-- A slice of pairs, read: its pairs. -/
theorem read_lt {H : Type} {enc : TypeId × Value → H} {W : World} {sp : Nat → Bool} {fuel : Nat} {v : Value} {x : DataW H × List MemPlace} (h : DataW.trod enc Tryz.prog W 0 sp true fuel 24 [v] = some x) :
    ∃ l : List (Int × Int), Slp W v l ∧ l.length ≤ maxLen := by
  rcases Go.Deep.open_slice_pairs (e := 34) Tryz.underlying24 Tryz.underlying34 (by kernel_rfl) rfl rfl (by kernel_rfl) (by kernel_rfl) h with ⟨hcs, _⟩ | ⟨a, len, cap, m, n, V0, V1, D0, D1, P0, P1, hcs, _, hl, hm, hmm, _, hx⟩
  · obtain rfl : v = .slice none 0 0 := by simpa using hcs
    exact ⟨[], Or.inl ⟨none, 0, rfl, (fun _ => rfl), rfl⟩, Nat.zero_le _⟩
  · obtain rfl : v = .slice (some a) len cap := by simpa using hcs
    have hlm : len ≤ m := by rw [hmm]; split <;> omega
    by_cases hl0 : len = 0
    · subst hl0
      exact ⟨[], Or.inl ⟨some a, cap, rfl, (fun h => by cases h), rfl⟩, Nat.zero_le _⟩
    · refine ⟨(List.range len).map fun i => (numV (V0 i), numV (V1 i)), ?_, by simp; omega⟩
      obtain ⟨b, off, spot⟩ := a
      have hspot : spot = none := by simpa [Addr.add] using World.cell?_spot (hx 0 (by omega)).1
      subst hspot
      refine Or.inr ⟨b, off, cap, by simp, fun k x y hk => ?_⟩
      have hk' : k < len := by
        have := (List.getElem?_eq_some_iff.1 hk).1
        simpa using this
      obtain ⟨c0, c1, t0, t1⟩ := hx k (by omega)
      obtain ⟨u0, e0, _, _⟩ := DataW.trod_int Tryz.underlying3 t0
      obtain ⟨u1, e1, _, _⟩ := DataW.trod_int Tryz.underlying2 t1
      have e0' : V0 k = .int .i64 u0 := by simpa using e0
      have e1' : V1 k = .int .i64 u1 := by simpa using e1
      have hxy : (numV (V0 k), numV (V1 k)) = (x, y) := by simpa [hk'] using hk
      rw [e0', e1'] at hxy
      obtain ⟨rfl, rfl⟩ : u0 = x ∧ u1 = y := by simpa [numV] using hxy
      rw [add_plain] at c0 c1
      rw [e0'] at c0
      rw [e1'] at c1
      exact ⟨c0, by simpa [Nat.add_assoc] using c1⟩
/-- A slice of ints, read: its numbers. -/
theorem read_hd {H : Type} {enc : TypeId × Value → H} {W : World} {sp : Nat → Bool} {fuel : Nat} {v : Value} {x : DataW H × List MemPlace} (h : DataW.trod enc Tryz.prog W 0 sp true fuel 25 [v] = some x) :
    ∃ l : List Int, Slc W v l ∧ l.length ≤ maxLen := by
  rcases open_ints Tryz.underlying25 Tryz.underlying3 cells_int h with ⟨hcs, _⟩ | ⟨a, len, cap, zs, hcs, _, hl, hm, hz, _, hcell, _⟩
  · obtain rfl : v = .slice none 0 0 := by simpa using hcs
    exact ⟨[], Or.inl ⟨none, 0, rfl, (fun _ => rfl), rfl⟩, Nat.zero_le _⟩
  · obtain rfl : v = .slice (some a) len cap := by simpa using hcs
    have hlz : len ≤ zs.length := by rw [hz]; split <;> omega
    by_cases hl0 : len = 0
    · subst hl0
      exact ⟨[], Or.inl ⟨some a, cap, rfl, (fun h => by cases h), rfl⟩, Nat.zero_le _⟩
    · refine ⟨zs.take len, ?_, by simp; omega⟩
      obtain ⟨b, off, spot⟩ := a
      have hspot : spot = none := by simpa [Addr.add] using World.cell?_spot (hcell 0 (by omega))
      subst hspot
      refine Or.inr ⟨b, off, cap, by rw [List.length_take, Nat.min_eq_left (by omega)], fun k x hk => ?_⟩
      have hk' : k < len := by
        have := (List.getElem?_eq_some_iff.1 hk).1
        simp at this; omega
      have := hcell k (by omega)
      rw [List.getElem?_take_of_lt hk'] at hk
      rw [add_plain] at this
      simpa [List.getD, hk] using this
/-- How long a product's parts may be. -/
structure Fits (nm : List UInt8) (rs lt : List (Int × Int)) (hd : List Int) : Prop where
  nm : nm.length ≤ maxLen
  rs : rs.length ≤ maxLen
  lt : lt.length ≤ maxLen
  hd : hd.length ≤ maxLen
set_option maxRecDepth 100000 in
set_option maxHeartbeats 1000000 in
theorem open_prod {H : Type} {enc : TypeId × Value → H} {W : World} {b0 : Nat} {v : Value} {d : DataW H} {ps : List MemPlace}
    (hval : Value.okWide Tryz.prog W .any b0 27 v) (h : DataW.Trod enc Tryz.prog W 0 (fun _ => true) true 27 v d ps) :
    ∃ (nm : List UInt8) (cn rd kd ev tm gr rt : Int) (vr : Value) (rs : List (Int × Int)) (pn o0 o1 o2 o3 ov : Int) (vl : Value) (lt : List (Int × Int)) (cp rl : Int) (vh : Value) (hd : List Int), v = .agg #[.string ⟨nm.toArray⟩, .int .i64 cn, .int .i64 rd, .int .i64 kd, .int .i64 ev, .int .i64 tm, .int .i64 gr, .int .i64 rt, vr, .int .i64 pn, .int .i64 o0, .int .i64 o1, .int .i64 o2, .int .i64 o3, .int .i64 ov, vl, .int .i64 cp, .int .i64 rl, vh] ∧ Fits nm rs lt hd ∧ Slp W vr rs ∧ Slp W vl lt ∧ Slc W vh hd ∧
      ∀ W' : World, Ext W W' → DataW.Trod enc Tryz.prog W' 0 (fun b => decide (b < W.heap.size)) true 27 v d ps := by
  have hshut : ∀ W' : World, Ext W W' → DataW.Trod enc Tryz.prog W' 0 (fun b => decide (b < W.heap.size)) true 27 v d ps := fun W' hX =>
    Below.trod laidOut (by kernel_rfl) (of_decide_eq_true (by kernel_rfl)) h hX.below (by
      obtain ⟨fuel, hf⟩ := h
      exact DataW.trod_lt fuel _ _ _ hf)
  have hc : Tryz.prog.cellsOf 27 = 19 := by kernel_rfl
  obtain ⟨cs, rfl, hsz⟩ := okWide_struct Tryz.underlying27 hval
  rw [hc] at hsz
  obtain ⟨l⟩ := cs
  match l, hsz with
  | [c0, c1, c2, c3, c4, c5, c6, c7, c8, c9, c10, c11, c12, c13, c14, c15, c16, c17, c18], _ =>
    obtain ⟨fuel, hf⟩ := h
    obtain ⟨xs, n, _, _, _, hl, hy⟩ := DataW.trod_struct Tryz.underlying27 hf
    match xs, hl with
    | [y0, y1, y2, y3, y4, y5, y6, y7, y8, y9, y10, y11, y12, y13, y14, y15], _ =>
      have g0 := hy 0 _ rfl
      have g1 := hy 1 _ rfl
      have g2 := hy 2 _ rfl
      have g3 := hy 3 _ rfl
      have g4 := hy 4 _ rfl
      have g5 := hy 5 _ rfl
      have g6 := hy 6 _ rfl
      have g7 := hy 7 _ rfl
      have g8 := hy 8 _ rfl
      have g9 := hy 9 _ rfl
      have g10 := hy 10 _ rfl
      have g11 := hy 11 _ rfl
      have g12 := hy 12 _ rfl
      have g13 := hy 13 _ rfl
      have g14 := hy 14 _ rfl
      have g15 := hy 15 _ rfl
      simp only [Value.cells, List.getElem?_cons_zero, List.getElem?_cons_succ] at g0 g1 g2 g3 g4 g5 g6 g7 g8 g9 g10 g11 g12 g13 g14 g15
      obtain ⟨⟨⟨nm⟩⟩, e0, _, hnm⟩ := DataW.trod_string Tryz.underlying9 g0
      simp [cells_str] at e0
      obtain ⟨cn, e1, _, _⟩ := DataW.trod_int Tryz.underlying3 g1
      simp [cells_int] at e1
      obtain ⟨rd, e2, _, _⟩ := DataW.trod_int Tryz.underlying3 g2
      simp [cells_int] at e2
      obtain ⟨kd, e3, _, _⟩ := DataW.trod_int Tryz.underlying3 g3
      simp [cells_int] at e3
      obtain ⟨ev, e4, _, _⟩ := DataW.trod_int Tryz.underlying3 g4
      simp [cells_int] at e4
      obtain ⟨tm, e5, _, _⟩ := DataW.trod_int Tryz.underlying3 g5
      simp [cells_int] at e5
      obtain ⟨gr, e6, _, _⟩ := DataW.trod_int Tryz.underlying3 g6
      simp [cells_int] at e6
      obtain ⟨rt, e7, _, _⟩ := DataW.trod_int Tryz.underlying2 g7
      simp [cells_i64] at e7
      replace g8 : DataW.trod enc Tryz.prog W 0 (fun _ => true) true n 22 [c8] = some y8 := by
        have e : (List.drop 8 [c0, c1, c2, c3, c4, c5, c6, c7, c8, c9, c10, c11, c12, c13, c14, c15, c16, c17, c18]).take (Tryz.prog.cellsOf 22) = [c8] := by rw [cells_rs]; rfl
        rw [← e]; exact g8
      obtain ⟨rs, sr, nr⟩ := read_rs g8
      obtain ⟨pn, e9, _, _⟩ := DataW.trod_int Tryz.underlying2 g9
      simp [cells_i64] at e9
      replace g10 : DataW.trod enc Tryz.prog W 0 (fun _ => true) true n 23 [c10, c11, c12, c13] = some y10 := by
        have e : (List.drop 10 [c0, c1, c2, c3, c4, c5, c6, c7, c8, c9, c10, c11, c12, c13, c14, c15, c16, c17, c18]).take (Tryz.prog.cellsOf 23) = [c10, c11, c12, c13] := by rw [cells_or]; rfl
        rw [← e]; exact g10
      obtain ⟨zs, m, _, _, _, hzl, hz⟩ := DataW.trod_array Tryz.underlying23 g10
      match zs, hzl with
      | [z0, z1, z2, z3], _ =>
      have k0 : DataW.trod enc Tryz.prog W 0 (fun _ => true) true m 3 [c10] = some z0 := by
        have := hz 0 (by omega)
        rw [cells_int] at this
        exact this
      obtain ⟨o0, f0, _, _⟩ := DataW.trod_int Tryz.underlying3 k0
      simp only [List.cons.injEq, and_true] at f0
      have k1 : DataW.trod enc Tryz.prog W 0 (fun _ => true) true m 3 [c11] = some z1 := by
        have := hz 1 (by omega)
        rw [cells_int] at this
        exact this
      obtain ⟨o1, f1, _, _⟩ := DataW.trod_int Tryz.underlying3 k1
      simp only [List.cons.injEq, and_true] at f1
      have k2 : DataW.trod enc Tryz.prog W 0 (fun _ => true) true m 3 [c12] = some z2 := by
        have := hz 2 (by omega)
        rw [cells_int] at this
        exact this
      obtain ⟨o2, f2, _, _⟩ := DataW.trod_int Tryz.underlying3 k2
      simp only [List.cons.injEq, and_true] at f2
      have k3 : DataW.trod enc Tryz.prog W 0 (fun _ => true) true m 3 [c13] = some z3 := by
        have := hz 3 (by omega)
        rw [cells_int] at this
        exact this
      obtain ⟨o3, f3, _, _⟩ := DataW.trod_int Tryz.underlying3 k3
      simp only [List.cons.injEq, and_true] at f3
      obtain ⟨ov, e11, _, _⟩ := DataW.trod_int Tryz.underlying3 g11
      simp [cells_int] at e11
      replace g12 : DataW.trod enc Tryz.prog W 0 (fun _ => true) true n 24 [c15] = some y12 := by
        have e : (List.drop 15 [c0, c1, c2, c3, c4, c5, c6, c7, c8, c9, c10, c11, c12, c13, c14, c15, c16, c17, c18]).take (Tryz.prog.cellsOf 24) = [c15] := by rw [cells_lt]; rfl
        rw [← e]; exact g12
      obtain ⟨lt, sl, nl⟩ := read_lt g12
      obtain ⟨cp, e13, _, _⟩ := DataW.trod_int Tryz.underlying2 g13
      simp [cells_i64] at e13
      obtain ⟨rl, e14, _, _⟩ := DataW.trod_int Tryz.underlying3 g14
      simp [cells_int] at e14
      replace g15 : DataW.trod enc Tryz.prog W 0 (fun _ => true) true n 25 [c18] = some y15 := by
        have e : (List.drop 18 [c0, c1, c2, c3, c4, c5, c6, c7, c8, c9, c10, c11, c12, c13, c14, c15, c16, c17, c18]).take (Tryz.prog.cellsOf 25) = [c18] := by rw [cells_hd]; rfl
        rw [← e]; exact g15
      obtain ⟨hd, sh, nh⟩ := read_hd g15
      subst e0 e1 e2 e3 e4 e5 e6 e7 e9 f0 f1 f2 f3 e11 e13 e14
      exact ⟨nm, cn, rd, kd, ev, tm, gr, rt, c8, rs, pn, o0, o1, o2, o3, ov, c15, lt, cp, rl, c18, hd, rfl, ⟨by simpa [ByteArray.size] using hnm, nr, nl, nh⟩, sr, sl, sh, hshut⟩
end Go.Proofs.YtaafagggjnemgaaGreatDoor.L8

namespace Go.Proofs.YtaafagggjnemgaaGreatDoor.L8
open Go.RowKit
set_option linter.unusedVariables false
theorem held3 {W W' : World} {b : Nat} {u v x : Value} (hx : Ext W W') (h : W.cell? ⟨b, 8, none⟩ = some u ∧ W.cell? ⟨b, 15, none⟩ = some v ∧ W.cell? ⟨b, 18, none⟩ = some x) : W'.cell? ⟨b, 8, none⟩ = some u ∧ W'.cell? ⟨b, 15, none⟩ = some v ∧ W'.cell? ⟨b, 18, none⟩ = some x :=
  ⟨hx.cell_of h.1, hx.cell_of h.2.1, hx.cell_of h.2.2⟩
theorem held3_far {W : World} {b i : Nat} {u v x y : Value} (h : W.cell? ⟨b, 8, none⟩ = some u ∧ W.cell? ⟨b, 15, none⟩ = some v ∧ W.cell? ⟨b, 18, none⟩ = some x) : (W.setCell ⟨b + 1, i, none⟩ y).cell? ⟨b, 8, none⟩ = some u ∧ (W.setCell ⟨b + 1, i, none⟩ y).cell? ⟨b, 15, none⟩ = some v ∧ (W.setCell ⟨b + 1, i, none⟩ y).cell? ⟨b, 18, none⟩ = some x :=
  ⟨by rw [other _ (Or.inl (by omega))]; exact h.1, by rw [other _ (Or.inl (by omega))]; exact h.2.1, by rw [other _ (Or.inl (by omega))]; exact h.2.2⟩
theorem Lsp.far {w : World} {g b : Nat} {L : List (Int × Int)} (h : Lsp w g L) (hb : b ≠ g) (i : Nat) (v : Value) : Lsp (w.setCell ⟨b, i, none⟩ v) g L :=
  ⟨fun k x y hk => ⟨by rw [other _ (Or.inl hb)]; exact (h.cell k x y hk).1, by rw [other _ (Or.inl hb)]; exact (h.cell k x y hk).2⟩⟩
theorem Lst.far {w : World} {g b : Nat} {L : List Int} (h : Lst w g L) (hb : b ≠ g) (i : Nat) (v : Value) : Lst (w.setCell ⟨b, i, none⟩ v) g L :=
  ⟨fun k x hk => by rw [other _ (Or.inl hb)]; exact h.cell k x hk, fun k x hk => by simpa using h.free k x hk⟩
theorem lay_copy (w : World) (c : Array Value) (hn : c.size = 19) (h1 : c.all (·.oneCell') = true) : ∃ W0 W1 b, w.alloc (.cells #[.string ⟨#[]⟩, .int .i64 0, .int .i64 0, .int .i64 0, .int .i64 0, .int .i64 0, .int .i64 0, .int .i64 0, .slice none 0 0, .int .i64 0, .int .i64 0, .int .i64 0, .int .i64 0, .int .i64 0, .int .i64 0, .slice none 0 0, .int .i64 0, .int .i64 0, .slice none 0 0] 27) = W0 ∧ w.heap.size = b ∧ W0.heap.size = b + 1 ∧ (storeCells ⟨b, 0, none⟩ c.toList 0).run Tryz.prog W0 = .ok () W1 ∧ W1.heap.size = b + 1 ∧ Blk W1 b c ∧ Ext w W1 :=
  ⟨_, _, _, rfl, rfl, by simp, run_storeCells_new w 27 _ c (by rw [hn]; kernel_rfl) (by rw [hn]; rfl) h1, by simp, heap_alloc_last w _, (Ext.refl w).alloc _ _⟩
end Go.Proofs.YtaafagggjnemgaaGreatDoor.L8
