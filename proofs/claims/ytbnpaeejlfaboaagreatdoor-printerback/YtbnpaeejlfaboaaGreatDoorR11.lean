/- Contracts that the proof of this law leans on: no statement of the seat is proved here. -/
import Derived.Deep.DeepCutAuto
import Derived.Deep.RegionHeld3
import Derived.LaidEql
import Derived.LaidLaws
import Derived.Lay
import Derived.Lib.LaidU8
import Derived.OpenShut
import Derived.ProofKit
import Derived.SevenTiedAt
import Derived.Shelf.LaysM
import Derived.Test.YtbnpaeejlfaboaaGreatDoorCards
import Derived.Test.YtbnpaeejlfaboaaGreatDoorTie
import Derived.Test.YtbnpaeejlfaboaaGreatDoorR2
import Derived.Test.YtbnpaeejlfaboaaGreatDoorR3
import Derived.Test.YtbnpaeejlfaboaaGreatDoorR4
import Derived.Test.YtbnpaeejlfaboaaGreatDoorR5
import Derived.Test.YtbnpaeejlfaboaaGreatDoorR6
import Derived.Test.YtbnpaeejlfaboaaGreatDoorR7
import Derived.Test.YtbnpaeejlfaboaaGreatDoorR8
import Derived.Test.YtbnpaeejlfaboaaGreatDoorR9
import Derived.Test.YtbnpaeejlfaboaaGreatDoorR10

namespace Go.Proofs.YtbnpaeejlfaboaaGreatDoor
open Go.RowKit Go.Lib
set_option linter.unusedVariables false
/-- What is read of the listed variables. -/
structure Pnv (w : World) : Prop where
  two : L2.Env w
  three : L3.Env w
  cts : ∀ (i : Nat) u, ([] :: txCount)[i]? = some u → w.cell? ⟨0, i, none⟩ = some (.string ⟨u.toArray⟩)
  rds : ∀ (i : Nat) u, ([] :: txRound)[i]? = some u → w.cell? ⟨1, i, none⟩ = some (.string ⟨u.toArray⟩)
  kds : ∀ (i : Nat) u, ([] :: txKind)[i]? = some u → w.cell? ⟨2, i, none⟩ = some (.string ⟨u.toArray⟩)
  owd : ∀ (i : Nat) u, ([] :: txOrder)[i]? = some u → w.cell? ⟨3, i, none⟩ = some (.string ⟨u.toArray⟩)
  ovs : ∀ (i : Nat) u, ([] :: txOver)[i]? = some u → w.cell? ⟨4, i, none⟩ = some (.string ⟨u.toArray⟩)
  rls : ∀ (i : Nat) u, ([] :: txRoll)[i]? = some u → w.cell? ⟨5, i, none⟩ = some (.string ⟨u.toArray⟩)
theorem Pnv.ext {w w' : World} (h : Pnv w) (hx : Ext w w') : Pnv w' :=
  ⟨h.two.ext hx, h.three.ext hx, fun i u hi => hx.cell_of (h.cts i u hi), fun i u hi => hx.cell_of (h.rds i u hi), fun i u hi => hx.cell_of (h.kds i u hi), fun i u hi => hx.cell_of (h.owd i u hi), fun i u hi => hx.cell_of (h.ovs i u hi), fun i u hi => hx.cell_of (h.rls i u hi)⟩
theorem tab_nth {o : List (List UInt8)} {m : Nat} (h : 1 ≤ m) (hl : m ≤ o.length) : ([] :: o)[m]? = some (nthL o (m : Int)) := by
  obtain ⟨i, rfl⟩ : ∃ i, m = i + 1 := ⟨m - 1, by omega⟩
  rw [List.getElem?_cons_succ]
  unfold nthL
  rw [show (((i + 1 : Nat) : Int) - 1).toNat = i by omega, List.getElem?_eq_getElem (by omega)]
  rfl
theorem lay2s (w : World) (x y : List UInt8) : ∃ W d, w.alloc (.cells #[.string ⟨x.toArray⟩, .string ⟨y.toArray⟩] 9) = W ∧ w.heap.size = d ∧ Ext w W ∧ L8.Strs W d [x, y] ∧ d < W.heap.size := by
  refine ⟨_, _, rfl, rfl, (Ext.refl w).alloc _ _, fun k u hk => ?_, by simp⟩
  have hr := heap_alloc_last w (.cells #[.string ⟨x.toArray⟩, .string ⟨y.toArray⟩] 9)
  refine (cell_of_row _ _ k _ _ _ hr).trans ?_
  match k, hk with
  | 0, hk => simp at hk; subst hk; rfl
  | 1, hk => simp at hk; subst hk; rfl
  | k + 2, hk => simp at hk
theorem Itoa_w (v : Int) (h0 : 0 ≤ v) (h1 : v ≤ 99999) (w : World) (he : Hid (L2.Env w)) :
    Calls Tryz.prog 114 #[.int .i64 v] w fun e w' => e = .returned (.string ⟨(decDigits v.toNat).toArray⟩) ∧ Ext w w' := by
  refine (Tryz.strconv_Itoa v (by omega) (by omega) w he.out.2).mono ?_
  rintro e w' ⟨rfl, k, os, rfl⟩
  exact ⟨by rw [show itoa v = decDigits v.toNat by unfold itoa; rw [if_neg (by omega)]], ((Ext.refl w).drewN k).grow os⟩
/-- What a clause's method tells: its lines stand behind what was written. -/
def Wrote (w0 w w' : World) (b : Nat) (p : Prd) (vr vl vh : Value) (l : List UInt8) (k : Nat) (e : Ending) : Prop :=
  e = .returned (.tuple #[]) ∧ Wrt w0 w' b p vr vl vh (l ++ rowsL (grpC p k)) ∧ Stp b w w'
theorem Wrote.one {w0 w w1 w' : World} {b : Nat} {p : Prd} {vr vl vh : Value} {l : List UInt8} {k : Nat} {ws : List (List UInt8)} {c : Cl} (hx : Ext w w1) (hg : grpC p k = [c]) (hc : c.ws = ws) (hW : Wrt w0 w' b p vr vl vh (l ++ lineL (spL ws))) (hS : Stp b w1 w') : Wrote w0 w w' b p vr vl vh l k (.returned (.tuple #[])) := by
  refine ⟨rfl, ?_, (Stp.of hx).trans hS⟩
  rw [hg, rowsL_one]
  unfold rowL
  rw [hc]
  exact hW
set_option maxRecDepth 100000 in
set_option maxHeartbeats 1000000 in
theorem count_w (w0 w : World) (b : Nat) (p : Prd) (vr vl vh : Value) (l : List UInt8) (hK : Okf p) (he : Hid (Pnv w0)) (h : Wrt w0 w b p vr vl vh l) (hl : l.length ≤ 50000) :
    Calls Tryz.prog 68 #[.pointer (some ⟨b, 0, none⟩)] w fun e w' => Wrote w0 w w' b p vr vl vh l 0 e := by
  obtain ⟨m, hm, m1, m2⟩ : ∃ m : Nat, p.cn = (m : Int) ∧ 1 ≤ m ∧ m ≤ 3 := ⟨p.cn.toNat, by have := hK.cn; omega, by have := hK.cn; omega, by have := hK.cn; omega⟩
  have ck := h.cell (k := 1) (by decide) (show _ = some (.int .i64 (m : Int)) from by rw [← hm]; rfl)
  obtain ⟨q, hq⟩ : ∃ q, nthL txCount p.cn = q := ⟨_, rfl⟩
  have hg := h.ext.cell_of (he.out.cts m q (by rw [← hq, hm]; exact tab_nth m1 m2))
  have hlen : (spL [[99, 111, 117, 110, 116], q]).length ≤ 76 := by rw [← hq]; exact (cls_count hK).len
  have mI : (m : Int) < 4 := by omega
  have mI0 : (0 : Int) ≤ (m : Int) := by omega
  obtain ⟨W3, d, hW3, hd, hx3, hS3, hd3⟩ := lay2s w [99, 111, 117, 110, 116] q
  replace hq := show Hid _ from hq
  replace hlen := show Hid _ from hlen
  replace hx3 := show Hid _ from hx3
  replace hS3 := show Hid _ from hS3
  replace hd3 := show Hid _ from hd3
  have hR := show Hid _ from h
  clear h hm m1
  go_enter Tryz.func68, Tryz.ntmps68
  go_wp2_with fail
  refine Calls.mono (line_w w0 W3 b p vr vl vh l [[99, 111, 117, 110, 116], q] d 2 2 (hR.out.on hx3.out) hS3.out hd3.out rfl (by decide) (by decide) (by omega) (by have := hlen.out; omega)) ?_
  rintro e w4 ⟨rfl, hW4, hS4⟩
  replace hW4 := show Hid _ from hW4
  replace hS4 := show Hid _ from hS4
  go_wp2
  go_end0
  exact Wrote.one hx3.out rfl (by rw [← hq.out]; rfl) hW4.out hS4.out
set_option maxRecDepth 100000 in
set_option maxHeartbeats 1000000 in
theorem round_w (w0 w : World) (b : Nat) (p : Prd) (vr vl vh : Value) (l : List UInt8) (hK : Okf p) (he : Hid (Pnv w0)) (h : Wrt w0 w b p vr vl vh l) (hl : l.length ≤ 50000) :
    Calls Tryz.prog 69 #[.pointer (some ⟨b, 0, none⟩)] w fun e w' => Wrote w0 w w' b p vr vl vh l 1 e := by
  obtain ⟨m, hm, m1, m2⟩ : ∃ m : Nat, p.rd = (m : Int) ∧ 1 ≤ m ∧ m ≤ 3 := ⟨p.rd.toNat, by have := hK.rd; omega, by have := hK.rd; omega, by have := hK.rd; omega⟩
  have ck := h.cell (k := 2) (by decide) (show _ = some (.int .i64 (m : Int)) from by rw [← hm]; rfl)
  obtain ⟨q, hq⟩ : ∃ q, nthL txRound p.rd = q := ⟨_, rfl⟩
  have hg := h.ext.cell_of (he.out.rds m q (by rw [← hq, hm]; exact tab_nth m1 m2))
  have hlen : (spL [[114, 111, 117, 110, 100], q]).length ≤ 76 := by rw [← hq]; exact (cls_round hK).len
  have mI : (m : Int) < 4 := by omega
  have mI0 : (0 : Int) ≤ (m : Int) := by omega
  obtain ⟨W3, d, hW3, hd, hx3, hS3, hd3⟩ := lay2s w [114, 111, 117, 110, 100] q
  replace hq := show Hid _ from hq
  replace hlen := show Hid _ from hlen
  replace hx3 := show Hid _ from hx3
  replace hS3 := show Hid _ from hS3
  replace hd3 := show Hid _ from hd3
  have hR := show Hid _ from h
  clear h hm m1
  go_enter Tryz.func69, Tryz.ntmps69
  go_wp2_with fail
  refine Calls.mono (line_w w0 W3 b p vr vl vh l [[114, 111, 117, 110, 100], q] d 2 2 (hR.out.on hx3.out) hS3.out hd3.out rfl (by decide) (by decide) (by omega) (by have := hlen.out; omega)) ?_
  rintro e w4 ⟨rfl, hW4, hS4⟩
  replace hW4 := show Hid _ from hW4
  replace hS4 := show Hid _ from hS4
  go_wp2
  go_end0
  exact Wrote.one hx3.out rfl (by rw [← hq.out]; rfl) hW4.out hS4.out
set_option maxRecDepth 100000 in
set_option maxHeartbeats 1000000 in
theorem kind_w (w0 w : World) (b : Nat) (p : Prd) (vr vl vh : Value) (l : List UInt8) (hK : Okf p) (he : Hid (Pnv w0)) (h : Wrt w0 w b p vr vl vh l) (hl : l.length ≤ 50000) :
    Calls Tryz.prog 70 #[.pointer (some ⟨b, 0, none⟩)] w fun e w' => Wrote w0 w w' b p vr vl vh l 2 e := by
  obtain ⟨m, hm, m1, m2⟩ : ∃ m : Nat, p.kd = (m : Int) ∧ 1 ≤ m ∧ m ≤ 3 := ⟨p.kd.toNat, by have := hK.kd; omega, by have := hK.kd; omega, by have := hK.kd; omega⟩
  have ck := h.cell (k := 3) (by decide) (show _ = some (.int .i64 (m : Int)) from by rw [← hm]; rfl)
  obtain ⟨q, hq⟩ : ∃ q, nthL txKind p.kd = q := ⟨_, rfl⟩
  have hg := h.ext.cell_of (he.out.kds m q (by rw [← hq, hm]; exact tab_nth m1 m2))
  have hlen : (spL [[107, 105, 110, 100], q]).length ≤ 76 := by rw [← hq]; exact (cls_kind hK).len
  have mI : (m : Int) < 4 := by omega
  have mI0 : (0 : Int) ≤ (m : Int) := by omega
  obtain ⟨W3, d, hW3, hd, hx3, hS3, hd3⟩ := lay2s w [107, 105, 110, 100] q
  replace hq := show Hid _ from hq
  replace hlen := show Hid _ from hlen
  replace hx3 := show Hid _ from hx3
  replace hS3 := show Hid _ from hS3
  replace hd3 := show Hid _ from hd3
  have hR := show Hid _ from h
  clear h hm m1
  go_enter Tryz.func70, Tryz.ntmps70
  go_wp2_with fail
  refine Calls.mono (line_w w0 W3 b p vr vl vh l [[107, 105, 110, 100], q] d 2 2 (hR.out.on hx3.out) hS3.out hd3.out rfl (by decide) (by decide) (by omega) (by have := hlen.out; omega)) ?_
  rintro e w4 ⟨rfl, hW4, hS4⟩
  replace hW4 := show Hid _ from hW4
  replace hS4 := show Hid _ from hS4
  go_wp2
  go_end0
  exact Wrote.one hx3.out rfl (by rw [← hq.out]; rfl) hW4.out hS4.out
set_option maxRecDepth 100000 in
set_option maxHeartbeats 1000000 in
theorem over_w (w0 w : World) (b : Nat) (p : Prd) (vr vl vh : Value) (l : List UInt8) (hK : Okf p) (he : Hid (Pnv w0)) (h : Wrt w0 w b p vr vl vh l) (hl : l.length ≤ 50000) :
    Calls Tryz.prog 78 #[.pointer (some ⟨b, 0, none⟩)] w fun e w' => Wrote w0 w w' b p vr vl vh l 10 e := by
  obtain ⟨m, hm, m1, m2⟩ : ∃ m : Nat, p.ov = (m : Int) ∧ 1 ≤ m ∧ m ≤ 3 := ⟨p.ov.toNat, by have := hK.ov; omega, by have := hK.ov; omega, by have := hK.ov; omega⟩
  have ck := h.cell (k := 14) (by decide) (show _ = some (.int .i64 (m : Int)) from by rw [← hm]; rfl)
  obtain ⟨q, hq⟩ : ∃ q, nthL txOver p.ov = q := ⟨_, rfl⟩
  have hg := h.ext.cell_of (he.out.ovs m q (by rw [← hq, hm]; exact tab_nth m1 m2))
  have hlen : (spL [[111, 118, 101, 114], q]).length ≤ 76 := by rw [← hq]; exact (cls_over hK).len
  have mI : (m : Int) < 4 := by omega
  have mI0 : (0 : Int) ≤ (m : Int) := by omega
  obtain ⟨W3, d, hW3, hd, hx3, hS3, hd3⟩ := lay2s w [111, 118, 101, 114] q
  replace hq := show Hid _ from hq
  replace hlen := show Hid _ from hlen
  replace hx3 := show Hid _ from hx3
  replace hS3 := show Hid _ from hS3
  replace hd3 := show Hid _ from hd3
  have hR := show Hid _ from h
  clear h hm m1
  go_enter Tryz.func78, Tryz.ntmps78
  go_wp2_with fail
  refine Calls.mono (line_w w0 W3 b p vr vl vh l [[111, 118, 101, 114], q] d 2 2 (hR.out.on hx3.out) hS3.out hd3.out rfl (by decide) (by decide) (by omega) (by have := hlen.out; omega)) ?_
  rintro e w4 ⟨rfl, hW4, hS4⟩
  replace hW4 := show Hid _ from hW4
  replace hS4 := show Hid _ from hS4
  go_wp2
  go_end0
  exact Wrote.one hx3.out rfl (by rw [← hq.out]; rfl) hW4.out hS4.out
set_option maxRecDepth 100000 in
set_option maxHeartbeats 1000000 in
theorem roll_w (w0 w : World) (b : Nat) (p : Prd) (vr vl vh : Value) (l : List UInt8) (hK : Okf p) (he : Hid (Pnv w0)) (h : Wrt w0 w b p vr vl vh l) (hl : l.length ≤ 50000) :
    Calls Tryz.prog 81 #[.pointer (some ⟨b, 0, none⟩)] w fun e w' => Wrote w0 w w' b p vr vl vh l 13 e := by
  obtain ⟨m, hm, m1, m2⟩ : ∃ m : Nat, p.rl = (m : Int) ∧ 1 ≤ m ∧ m ≤ 4 := ⟨p.rl.toNat, by have := hK.rl; omega, by have := hK.rl; omega, by have := hK.rl; omega⟩
  have ck := h.cell (k := 17) (by decide) (show _ = some (.int .i64 (m : Int)) from by rw [← hm]; rfl)
  obtain ⟨q, hq⟩ : ∃ q, nthL txRoll p.rl = q := ⟨_, rfl⟩
  have hg := h.ext.cell_of (he.out.rls m q (by rw [← hq, hm]; exact tab_nth m1 m2))
  have hlen : (spL [[114, 111, 108, 108], q]).length ≤ 76 := by rw [← hq]; exact (cls_roll hK).len
  have mI : (m : Int) < 5 := by omega
  have mI0 : (0 : Int) ≤ (m : Int) := by omega
  obtain ⟨W3, d, hW3, hd, hx3, hS3, hd3⟩ := lay2s w [114, 111, 108, 108] q
  replace hq := show Hid _ from hq
  replace hlen := show Hid _ from hlen
  replace hx3 := show Hid _ from hx3
  replace hS3 := show Hid _ from hS3
  replace hd3 := show Hid _ from hd3
  have hR := show Hid _ from h
  clear h hm m1
  go_enter Tryz.func81, Tryz.ntmps81
  go_wp2_with fail
  refine Calls.mono (line_w w0 W3 b p vr vl vh l [[114, 111, 108, 108], q] d 2 2 (hR.out.on hx3.out) hS3.out hd3.out rfl (by decide) (by decide) (by omega) (by have := hlen.out; omega)) ?_
  rintro e w4 ⟨rfl, hW4, hS4⟩
  replace hW4 := show Hid _ from hW4
  replace hS4 := show Hid _ from hS4
  go_wp2
  go_end0
  exact Wrote.one hx3.out rfl (by rw [← hq.out]; rfl) hW4.out hS4.out
set_option maxRecDepth 100000 in
set_option maxHeartbeats 1000000 in
theorem every_w (w0 w : World) (b : Nat) (p : Prd) (vr vl vh : Value) (l : List UInt8) (hK : Okf p) (he : Hid (Pnv w0)) (h : Wrt w0 w b p vr vl vh l) (hl : l.length ≤ 50000) :
    Calls Tryz.prog 71 #[.pointer (some ⟨b, 0, none⟩)] w fun e w' => Wrote w0 w w' b p vr vl vh l 3 e := by
  obtain ⟨v, hv⟩ : ∃ v, p.ev = v := ⟨_, rfl⟩
  have hb := hK.ev
  rw [hv] at hb
  have ck := h.cell (k := 4) (by decide) (show _ = some (.int .i64 v) from by rw [← hv]; rfl)
  obtain ⟨q, hq⟩ : ∃ q, decDigits v.toNat = q := ⟨_, rfl⟩
  have hlen : (spL [[101, 118, 101, 114, 121], q]).length ≤ 76 := by rw [← hq, ← hv]; exact (cls_every hK).len
  have he2 := show Hid _ from h.ext
  replace he2 : Hid (L2.Env w) := he.out.two.ext he2.out
  have hc := Itoa_w v (by omega) (by omega) w he2
  rw [hq] at hc
  replace hq := show Hid _ from hq
  replace hc := show Hid _ from hc
  replace hlen := show Hid _ from hlen
  have hR := show Hid _ from h
  clear h hb he2
  replace hv := show Hid _ from hv
  go_enter Tryz.func71, Tryz.ntmps71
  go_wp2_with fail
  refine Calls.mono hc.out ?_
  rintro e w1 ⟨rfl, hx1⟩
  replace hx1 := show Hid _ from hx1
  obtain ⟨W3, d, hW3, hd, hx3, hS3, hd3⟩ := lay2s w1 [101, 118, 101, 114, 121] q
  replace hx3 : Hid (Ext w W3) := hx1.out.trans hx3
  replace hS3 := show Hid _ from hS3
  replace hd3 := show Hid _ from hd3
  clear hc ck hx1
  go_wp2_with fail
  refine Calls.mono (line_w w0 W3 b p vr vl vh l [[101, 118, 101, 114, 121], q] d 2 2 (hR.out.on hx3.out) hS3.out hd3.out rfl (by decide) (by decide) (by omega) (by have := hlen.out; omega)) ?_
  rintro e w4 ⟨rfl, hW4, hS4⟩
  replace hW4 := show Hid _ from hW4
  replace hS4 := show Hid _ from hS4
  go_wp2
  go_end0
  exact Wrote.one hx3.out rfl (by rw [← hq.out, ← hv.out]; rfl) hW4.out hS4.out
set_option maxRecDepth 100000 in
set_option maxHeartbeats 1000000 in
theorem times_w (w0 w : World) (b : Nat) (p : Prd) (vr vl vh : Value) (l : List UInt8) (hK : Okf p) (he : Hid (Pnv w0)) (h : Wrt w0 w b p vr vl vh l) (hl : l.length ≤ 50000) :
    Calls Tryz.prog 72 #[.pointer (some ⟨b, 0, none⟩)] w fun e w' => Wrote w0 w w' b p vr vl vh l 4 e := by
  obtain ⟨v, hv⟩ : ∃ v, p.tm = v := ⟨_, rfl⟩
  have hb := hK.tm
  rw [hv] at hb
  have ck := h.cell (k := 5) (by decide) (show _ = some (.int .i64 v) from by rw [← hv]; rfl)
  obtain ⟨q, hq⟩ : ∃ q, decDigits v.toNat = q := ⟨_, rfl⟩
  have hlen : (spL [[116, 105, 109, 101, 115], q]).length ≤ 76 := by rw [← hq, ← hv]; exact (cls_times hK).len
  have he2 := show Hid _ from h.ext
  replace he2 : Hid (L2.Env w) := he.out.two.ext he2.out
  have hc := Itoa_w v (by omega) (by omega) w he2
  rw [hq] at hc
  replace hq := show Hid _ from hq
  replace hc := show Hid _ from hc
  replace hlen := show Hid _ from hlen
  have hR := show Hid _ from h
  clear h hb he2
  replace hv := show Hid _ from hv
  go_enter Tryz.func72, Tryz.ntmps72
  go_wp2_with fail
  refine Calls.mono hc.out ?_
  rintro e w1 ⟨rfl, hx1⟩
  replace hx1 := show Hid _ from hx1
  obtain ⟨W3, d, hW3, hd, hx3, hS3, hd3⟩ := lay2s w1 [116, 105, 109, 101, 115] q
  replace hx3 : Hid (Ext w W3) := hx1.out.trans hx3
  replace hS3 := show Hid _ from hS3
  replace hd3 := show Hid _ from hd3
  clear hc ck hx1
  go_wp2_with fail
  refine Calls.mono (line_w w0 W3 b p vr vl vh l [[116, 105, 109, 101, 115], q] d 2 2 (hR.out.on hx3.out) hS3.out hd3.out rfl (by decide) (by decide) (by omega) (by have := hlen.out; omega)) ?_
  rintro e w4 ⟨rfl, hW4, hS4⟩
  replace hW4 := show Hid _ from hW4
  replace hS4 := show Hid _ from hS4
  go_wp2
  go_end0
  exact Wrote.one hx3.out rfl (by rw [← hq.out, ← hv.out]; rfl) hW4.out hS4.out
set_option maxRecDepth 100000 in
set_option maxHeartbeats 1000000 in
theorem grace_w (w0 w : World) (b : Nat) (p : Prd) (vr vl vh : Value) (l : List UInt8) (hK : Okf p) (he : Hid (Pnv w0)) (h : Wrt w0 w b p vr vl vh l) (hl : l.length ≤ 50000) :
    Calls Tryz.prog 73 #[.pointer (some ⟨b, 0, none⟩)] w fun e w' => Wrote w0 w w' b p vr vl vh l 5 e := by
  obtain ⟨v, hv⟩ : ∃ v, p.gr = v := ⟨_, rfl⟩
  have hb := hK.gr
  rw [hv] at hb
  have ck := h.cell (k := 6) (by decide) (show _ = some (.int .i64 v) from by rw [← hv]; rfl)
  obtain ⟨q, hq⟩ : ∃ q, decDigits v.toNat = q := ⟨_, rfl⟩
  have hlen : (spL [[103, 114, 97, 99, 101], q]).length ≤ 76 := by rw [← hq, ← hv]; exact (cls_grace hK).len
  have he2 := show Hid _ from h.ext
  replace he2 : Hid (L2.Env w) := he.out.two.ext he2.out
  have hc := Itoa_w v (by omega) (by omega) w he2
  rw [hq] at hc
  replace hq := show Hid _ from hq
  replace hc := show Hid _ from hc
  replace hlen := show Hid _ from hlen
  have hR := show Hid _ from h
  clear h hb he2
  replace hv := show Hid _ from hv
  go_enter Tryz.func73, Tryz.ntmps73
  go_wp2_with fail
  refine Calls.mono hc.out ?_
  rintro e w1 ⟨rfl, hx1⟩
  replace hx1 := show Hid _ from hx1
  obtain ⟨W3, d, hW3, hd, hx3, hS3, hd3⟩ := lay2s w1 [103, 114, 97, 99, 101] q
  replace hx3 : Hid (Ext w W3) := hx1.out.trans hx3
  replace hS3 := show Hid _ from hS3
  replace hd3 := show Hid _ from hd3
  clear hc ck hx1
  go_wp2_with fail
  refine Calls.mono (line_w w0 W3 b p vr vl vh l [[103, 114, 97, 99, 101], q] d 2 2 (hR.out.on hx3.out) hS3.out hd3.out rfl (by decide) (by decide) (by omega) (by have := hlen.out; omega)) ?_
  rintro e w4 ⟨rfl, hW4, hS4⟩
  replace hW4 := show Hid _ from hW4
  replace hS4 := show Hid _ from hS4
  go_wp2
  go_end0
  exact Wrote.one hx3.out rfl (by rw [← hq.out, ← hv.out]; rfl) hW4.out hS4.out
set_option maxRecDepth 100000 in
set_option maxHeartbeats 1000000 in
theorem rate_w (w0 w : World) (b : Nat) (p : Prd) (vr vl vh : Value) (l : List UInt8) (hK : Okf p) (he : Hid (Pnv w0)) (h : Wrt w0 w b p vr vl vh l) (hl : l.length ≤ 50000) :
    Calls Tryz.prog 74 #[.pointer (some ⟨b, 0, none⟩)] w fun e w' => Wrote w0 w w' b p vr vl vh l 6 e := by
  obtain ⟨v, hv⟩ : ∃ v, p.rt = v := ⟨_, rfl⟩
  have hb := hK.rt
  rw [hv] at hb
  have ck := h.cell (k := 7) (by decide) (show _ = some (.int .i64 v) from by rw [← hv]; rfl)
  obtain ⟨q, hq⟩ : ∃ q, L2.rateL v = q := ⟨_, rfl⟩
  have hlen : (spL [[114, 97, 116, 101], q]).length ≤ 76 := by rw [← hq, ← hv]; exact (cls_rate hK).len
  have he2 := show Hid _ from h.ext
  replace he2 : Hid (L2.Env w) := he.out.two.ext he2.out
  have hc := L2.rate_c v w (i64_ofP (by omega) (by omega)) he2
  rw [hq] at hc
  replace hq := show Hid _ from hq
  replace hc := show Hid _ from hc
  replace hlen := show Hid _ from hlen
  have hR := show Hid _ from h
  clear h hb he2
  replace hv := show Hid _ from hv
  go_enter Tryz.func74, Tryz.ntmps74
  go_wp2_with fail
  refine Calls.mono hc.out ?_
  rintro e w1 ⟨rfl, hx1⟩
  replace hx1 := show Hid _ from hx1
  obtain ⟨W3, d, hW3, hd, hx3, hS3, hd3⟩ := lay2s w1 [114, 97, 116, 101] q
  replace hx3 : Hid (Ext w W3) := hx1.out.trans hx3
  replace hS3 := show Hid _ from hS3
  replace hd3 := show Hid _ from hd3
  clear hc ck hx1
  go_wp2_with fail
  refine Calls.mono (line_w w0 W3 b p vr vl vh l [[114, 97, 116, 101], q] d 2 2 (hR.out.on hx3.out) hS3.out hd3.out rfl (by decide) (by decide) (by omega) (by have := hlen.out; omega)) ?_
  rintro e w4 ⟨rfl, hW4, hS4⟩
  replace hW4 := show Hid _ from hW4
  replace hS4 := show Hid _ from hS4
  go_wp2
  go_end0
  exact Wrote.one hx3.out rfl (by rw [← hq.out, ← hv.out]; rfl) hW4.out hS4.out
set_option maxRecDepth 100000 in
set_option maxHeartbeats 1000000 in
theorem penalty_w (w0 w : World) (b : Nat) (p : Prd) (vr vl vh : Value) (l : List UInt8) (hK : Okf p) (he : Hid (Pnv w0)) (h : Wrt w0 w b p vr vl vh l) (hl : l.length ≤ 50000) :
    Calls Tryz.prog 75 #[.pointer (some ⟨b, 0, none⟩)] w fun e w' => Wrote w0 w w' b p vr vl vh l 7 e := by
  obtain ⟨v, hv⟩ : ∃ v, p.pn = v := ⟨_, rfl⟩
  have hb := hK.pn
  rw [hv] at hb
  have ck := h.cell (k := 9) (by decide) (show _ = some (.int .i64 v) from by rw [← hv]; rfl)
  obtain ⟨q, hq⟩ : ∃ q, L2.rateL v = q := ⟨_, rfl⟩
  have hlen : (spL [[112, 101, 110, 97, 108, 116, 121], q]).length ≤ 76 := by rw [← hq, ← hv]; exact (cls_penalty hK).len
  have he2 := show Hid _ from h.ext
  replace he2 : Hid (L2.Env w) := he.out.two.ext he2.out
  have hc := L2.rate_c v w (i64_ofP (by omega) (by omega)) he2
  rw [hq] at hc
  replace hq := show Hid _ from hq
  replace hc := show Hid _ from hc
  replace hlen := show Hid _ from hlen
  have hR := show Hid _ from h
  clear h hb he2
  replace hv := show Hid _ from hv
  go_enter Tryz.func75, Tryz.ntmps75
  go_wp2_with fail
  refine Calls.mono hc.out ?_
  rintro e w1 ⟨rfl, hx1⟩
  replace hx1 := show Hid _ from hx1
  obtain ⟨W3, d, hW3, hd, hx3, hS3, hd3⟩ := lay2s w1 [112, 101, 110, 97, 108, 116, 121] q
  replace hx3 : Hid (Ext w W3) := hx1.out.trans hx3
  replace hS3 := show Hid _ from hS3
  replace hd3 := show Hid _ from hd3
  clear hc ck hx1
  go_wp2_with fail
  refine Calls.mono (line_w w0 W3 b p vr vl vh l [[112, 101, 110, 97, 108, 116, 121], q] d 2 2 (hR.out.on hx3.out) hS3.out hd3.out rfl (by decide) (by decide) (by omega) (by have := hlen.out; omega)) ?_
  rintro e w4 ⟨rfl, hW4, hS4⟩
  replace hW4 := show Hid _ from hW4
  replace hS4 := show Hid _ from hS4
  go_wp2
  go_end0
  exact Wrote.one hx3.out rfl (by rw [← hq.out, ← hv.out]; rfl) hW4.out hS4.out
set_option maxRecDepth 100000 in
set_option maxHeartbeats 1000000 in
theorem cap_w (w0 w : World) (b : Nat) (p : Prd) (vr vl vh : Value) (l : List UInt8) (hK : Okf p) (he : Hid (Pnv w0)) (h : Wrt w0 w b p vr vl vh l) (hl : l.length ≤ 50000) :
    Calls Tryz.prog 80 #[.pointer (some ⟨b, 0, none⟩)] w fun e w' => Wrote w0 w w' b p vr vl vh l 12 e := by
  obtain ⟨v, hv⟩ : ∃ v, p.cp = v := ⟨_, rfl⟩
  have hb := hK.cp
  rw [hv] at hb
  have ck := h.cell (k := 16) (by decide) (show _ = some (.int .i64 v) from by rw [← hv]; rfl)
  obtain ⟨q, hq⟩ : ∃ q, L2.moneyL v = q := ⟨_, rfl⟩
  have hlen : (spL [[99, 97, 112], q]).length ≤ 76 := by rw [← hq, ← hv]; exact (cls_cap hK).len
  have he2 := show Hid _ from h.ext
  replace he2 : Hid (L2.Env w) := he.out.two.ext he2.out
  have hc := L2.money_c v w (i64_ofP (by omega) (by omega)) he2
  rw [hq] at hc
  replace hq := show Hid _ from hq
  replace hc := show Hid _ from hc
  replace hlen := show Hid _ from hlen
  have hR := show Hid _ from h
  clear h hb he2
  replace hv := show Hid _ from hv
  go_enter Tryz.func80, Tryz.ntmps80
  go_wp2_with fail
  refine Calls.mono hc.out ?_
  rintro e w1 ⟨rfl, hx1⟩
  replace hx1 := show Hid _ from hx1
  obtain ⟨W3, d, hW3, hd, hx3, hS3, hd3⟩ := lay2s w1 [99, 97, 112] q
  replace hx3 : Hid (Ext w W3) := hx1.out.trans hx3
  replace hS3 := show Hid _ from hS3
  replace hd3 := show Hid _ from hd3
  clear hc ck hx1
  go_wp2_with fail
  refine Calls.mono (line_w w0 W3 b p vr vl vh l [[99, 97, 112], q] d 2 2 (hR.out.on hx3.out) hS3.out hd3.out rfl (by decide) (by decide) (by omega) (by have := hlen.out; omega)) ?_
  rintro e w4 ⟨rfl, hW4, hS4⟩
  replace hW4 := show Hid _ from hW4
  replace hS4 := show Hid _ from hS4
  go_wp2
  go_end0
  exact Wrote.one hx3.out rfl (by rw [← hq.out, ← hv.out]; rfl) hW4.out hS4.out
end Go.Proofs.YtbnpaeejlfaboaaGreatDoor
namespace Go.Proofs.YtbnpaeejlfaboaaGreatDoor
open Go.RowKit Go.ChangeShapes Go.WideShapes Go.ChangeAt
theorem own : ownKnob Tryz.prog.godebug = none := by kernel_rfl
/-- The listed variables. -/
def laid : List (String × DataW Unit) := Rows.printerBackRow.laid
/-- A table of texts, cell for cell. -/
theorem str_tab {P : Program} {W : World} {n : String} {T : List (List UInt8)} {g t e : Nat} (h : Lib.VarReads P W n (.agg (T.map fun l => .lit (.string l)))) (hn : P.globalNamed n = some g) (hy : (P.globals[g]?).map (·.type) = some t) (ht : P.underlying t = some (.array T.length e)) (he : P.underlying e = some .string) (hc : P.cellsOf e = 1) :
    ∀ (i : Nat) (l : List UInt8), T[i]? = some l → W.cell? ⟨g, i, none⟩ = some (.string ⟨l.toArray⟩) := by
  intro i l hl
  obtain ⟨g', t', cs, fuel, p, h1, h2, h3, h4⟩ := h
  obtain rfl := Option.some.inj (h1.symm.trans hn)
  obtain rfl := Option.some.inj (h2.symm.trans hy)
  have hi : i < T.length := (List.getElem?_eq_some_iff.1 hl).1
  obtain ⟨f', d, q, hd, htr⟩ := Lib.array_elem ht h4 i hi
  rw [hc, Nat.mul_one] at htr
  obtain ⟨s, hs, hx, _⟩ := DataW.trod_string he htr
  have hd2 : d = .lit (.string l) := by
    rw [List.getElem?_map, hl] at hd
    exact (Option.some.inj hd).symm
  have h5 : d = .lit (.string s.data.toList) := congrArg Prod.fst hx
  have h6 : s.data.toList = l := by
    rw [hd2] at h5
    injection h5 with h5
    injection h5 with h5
    exact h5.symm
  have h7 := World.var?_cell h1 h3 i
  rw [h7, ← Array.getElem?_toList]
  have h8 : cs.toList[i]? = some (.string s) := by
    have := congrArg (·[0]?) hs
    simpa [List.getElem?_take, List.getElem?_drop] using this
  rw [h8, ← h6]
theorem pnv_of (W : World) (hL : laidMetH Tryz.prog laid W) (hsh : W.ShapedOpen Tryz.prog) : Pnv W := by
  have h7 : ∃ m, W.cell? ⟨7, 0, none⟩ = some (.int .i64 m) := Go.Proofs.cell_of_shapedOpen_int (zero := #[.int .i64 0]) (t := 3) hsh (of_decide_eq_true (by kernel_rfl)) (by kernel_rfl) rfl (by kernel_rfl) (by kernel_rfl) Tryz.underlying3
  rw [MakeChecks.laidMetH_plain _ _ _ (by kernel_rfl)] at hL
  have hpow : Lib.TabIs Tryz.prog W "internal/strconv.uint64pow10" .u64 Lib.pow10Tab := by
    obtain ⟨g, t, cs, fuel, p, h1, h2, h3, h4⟩ : Lib.VarReads Tryz.prog W "internal/strconv.uint64pow10" (Lib.tabData .u64 Lib.pow10Tab) := Lib.laidMet.reads hL (.tail _ (.tail _ (.head _)))
    obtain rfl : g = 8 := Option.some.inj (h1.symm.trans (show Tryz.prog.globalNamed "internal/strconv.uint64pow10" = some 8 by kernel_rfl))
    obtain rfl : t = 225 := Option.some.inj (h2.symm.trans (show (Tryz.prog.globals[8]?).map (·.type) = some 225 by kernel_rfl))
    unfold Lib.TabIs
    rw [h3, ← Lib.cells_of_tab Tryz.underlying225 Tryz.underlying200 (by kernel_rfl) (by kernel_rfl) h4]
  refine ⟨⟨h7, hpow⟩, ⟨?_, hpow⟩, ?_, ?_, ?_, ?_, ?_, ?_⟩
  · obtain ⟨g, t, cs, fuel, p, h1, h2, h3, h4⟩ : Lib.VarReads Tryz.prog W "quittance/civil.monthDays" (Lib.tabData .i64 L3.mtab) := Lib.laidMet.reads hL (.tail _ (.tail _ (.tail _ (.tail _ (.tail _ (.tail _ (.head _)))))))
    obtain rfl : g = 6 := Option.some.inj (h1.symm.trans (show Tryz.prog.globalNamed "quittance/civil.monthDays" = some 6 by kernel_rfl))
    obtain rfl : t = 209 := Option.some.inj (h2.symm.trans (show (Tryz.prog.globals[6]?).map (·.type) = some 209 by kernel_rfl))
    have hcs := Lib.cells_of_tab Tryz.underlying209 Tryz.underlying3 (by kernel_rfl) (by kernel_rfl) h4
    intro i v hv
    have := World.var?_cell h1 h3 i
    rw [this, ← Array.getElem?_toList, hcs]
    simp [hv]
  · exact str_tab (T := [] :: txCount) (n := "quittance/printer.counts") (t := 126) (e := 9) (Lib.laidMet.reads hL (.tail _ (.tail _ (.tail _ (.tail _ (.tail _ (.tail _ (.tail _ (.head _))))))))) (by kernel_rfl) (by kernel_rfl) Tryz.underlying126 Tryz.underlying9 (by kernel_rfl)
  · exact str_tab (T := [] :: txRound) (n := "quittance/printer.rounds") (t := 126) (e := 9) (Lib.laidMet.reads hL (.tail _ (.tail _ (.tail _ (.tail _ (.tail _ (.tail _ (.tail _ (.tail _ (.head _)))))))))) (by kernel_rfl) (by kernel_rfl) Tryz.underlying126 Tryz.underlying9 (by kernel_rfl)
  · exact str_tab (T := [] :: txKind) (n := "quittance/printer.kinds") (t := 126) (e := 9) (Lib.laidMet.reads hL (.tail _ (.tail _ (.tail _ (.tail _ (.tail _ (.tail _ (.tail _ (.tail _ (.tail _ (.head _))))))))))) (by kernel_rfl) (by kernel_rfl) Tryz.underlying126 Tryz.underlying9 (by kernel_rfl)
  · exact str_tab (T := [] :: txOrder) (n := "quittance/printer.owed") (t := 129) (e := 9) (Lib.laidMet.reads hL (.tail _ (.tail _ (.tail _ (.tail _ (.tail _ (.tail _ (.tail _ (.tail _ (.tail _ (.tail _ (.head _)))))))))))) (by kernel_rfl) (by kernel_rfl) Tryz.underlying129 Tryz.underlying9 (by kernel_rfl)
  · exact str_tab (T := [] :: txOver) (n := "quittance/printer.overs") (t := 126) (e := 9) (Lib.laidMet.reads hL (.tail _ (.tail _ (.tail _ (.tail _ (.tail _ (.tail _ (.tail _ (.tail _ (.tail _ (.tail _ (.tail _ (.head _))))))))))))) (by kernel_rfl) (by kernel_rfl) Tryz.underlying126 Tryz.underlying9 (by kernel_rfl)
  · exact str_tab (T := [] :: txRoll) (n := "quittance/printer.rolls") (t := 129) (e := 9) (Lib.laidMet.reads hL (.tail _ (.tail _ (.tail _ (.tail _ (.tail _ (.tail _ (.tail _ (.tail _ (.tail _ (.tail _ (.tail _ (.tail _ (.head _)))))))))))))) (by kernel_rfl) (by kernel_rfl) Tryz.underlying129 Tryz.underlying9 (by kernel_rfl)
theorem env_of (W : World) (hL : laidMetH Tryz.prog laid W) (hP : Pnv W) : Env W := by
  rw [MakeChecks.laidMetH_plain _ _ _ (by kernel_rfl)] at hL
  refine ⟨hP.two, hP.three, hP.two.1, ?_, ?_⟩
  · obtain ⟨g, t, cs, fuel, p, h1, h2, h3, h4⟩ : Lib.VarReads Tryz.prog W "strconv.ErrSyntax" Rows.laid_strconv_ErrSyntax := Lib.laidMet.reads hL (.tail _ (.tail _ (.tail _ (.tail _ (.tail _ (.head _))))))
    obtain rfl : g = 9 := Option.some.inj (h1.symm.trans (show Tryz.prog.globalNamed "strconv.ErrSyntax" = some 9 by kernel_rfl))
    obtain rfl : t = 75 := Option.some.inj (h2.symm.trans (show (Tryz.prog.globals[9]?).map (·.type) = some 75 by kernel_rfl))
    obtain ⟨_, u, v, hcs, _, _⟩ := iface_of_trod Tryz.underlying75 h4
    refine ⟨u, v, ?_⟩
    have := World.var?_cell h1 h3 0
    rw [this, ← Array.getElem?_toList, hcs]
    rfl
  · obtain ⟨g, t, cs, fuel, p, h1, h2, h3, h4⟩ : Lib.VarReads Tryz.prog W "strconv.ErrRange" Rows.laid_strconv_ErrRange := Lib.laidMet.reads hL (.tail _ (.tail _ (.tail _ (.tail _ (.head _)))))
    obtain rfl : g = 10 := Option.some.inj (h1.symm.trans (show Tryz.prog.globalNamed "strconv.ErrRange" = some 10 by kernel_rfl))
    obtain rfl : t = 75 := Option.some.inj (h2.symm.trans (show (Tryz.prog.globals[10]?).map (·.type) = some 75 by kernel_rfl))
    obtain ⟨_, u, v, hcs, _, _⟩ := iface_of_trod Tryz.underlying75 h4
    refine ⟨u, v, ?_⟩
    have := World.var?_cell h1 h3 0
    rw [this, ← Array.getElem?_toList, hcs]
    rfl
/-- What is read of the listed variables, all of it. -/
structure Evn (W : World) : Prop where
  env : Env W
  pnv : Pnv W
theorem evn_of (W : World) (hL : laidMetH Tryz.prog laid W) (hsh : W.ShapedOpen Tryz.prog) : Evn W := ⟨env_of W hL (pnv_of W hL hsh), pnv_of W hL hsh⟩
theorem carried (w w' : World) (hh : w.heap = w'.heap) (h : laidMetH Tryz.prog laid w) : laidMetH Tryz.prog laid w' := h.of_heap hh
set_option maxRecDepth 100000 in
/-- The wrap: what the listed variables read as, and the world's shape, are handed to the walk. -/
theorem wrap {H : Type} {enc : TypeId × Value → H} {os : Os} {f : FuncId} {fn : Func} {s : ChangeSpec} {fresh handsOn again : Bool}
    (started : os.Started) (noInit : Tryz.checked.prog.inits.idxOf? f = none) (hfn : Tryz.checked.prog.funcs[f]? = some fn)
    (witness : ∃ (w : World) (tape : Tape) (i : Input), w.os = os ∧ (w.forCall tape i).Shaped Tryz.checked.prog ∧ i.vars = [] ∧ Input.okWide Tryz.checked.prog (w.forCall tape i) .any w.heap.size f i ∧
      ((s.pre enc Tryz.checked.prog fn [] false (w.forCall tape i).memory i.args ∧ laidMetH Tryz.checked.prog laid (w.forCall tape i).memory) ∧ sizedMet enc Tryz.checked.prog fn (OpenSpec.ofChange s) false (w.forCall tape i).memory i.args) ∧ ({} : Assume).holds Tryz.checked.prog (lone (Frame.enter Tryz.checked.prog f i.args .normal) [] (w.forCall tape i)))
    (contract : ∀ (W : World) (base : Nat) (args : Array Value) (ds gs : List (DataW H)) (before : List MemPlace),
      (∀ (j : Nat) t v, fn.params[j]? = some t → args[j]? = some v → Value.okWide Tryz.checked.prog W .any base t v) →
      DataW.Whole enc Tryz.checked.prog fn.params.toList s.vars false W args.toList ds gs before → Evn W →
      Calls Tryz.checked.prog f args W fun e W' => ∃ v, e = .returned v ∧ s.post enc Tryz.checked.prog fn false fresh handsOn again W args v W') :
    ReturnsInHanded {} Tryz.checked os f .any (fun w args => (s.pre enc Tryz.checked.prog fn [] false w args ∧ laidMetH Tryz.checked.prog laid w) ∧ sizedMet enc Tryz.checked.prog fn (OpenSpec.ofChange s) false w args) (s.post enc Tryz.checked.prog fn false fresh handsOn again) := by
  refine returnsInHanded_of_calls own started noInit witness ?_
  intro w tape i _ hsh _ hok hpre _
  obtain ⟨_, _, _, fn', hfn', _, _, _, _, hval⟩ := hok
  obtain rfl : fn' = fn := Option.some.inj (hfn'.symm.trans hfn)
  obtain ⟨⟨⟨ds, gs, before, hw, _⟩, hL⟩, _⟩ := hpre
  have hh : (w.forCall tape i).memory.heap = (w.forCall tape i).heap := rfl
  have hE : Evn (w.forCall tape i) := evn_of (w.forCall tape i) (carried (w.forCall tape i).memory (w.forCall tape i) hh hL) hsh
  refine (contract (w.forCall tape i) w.heap.size i.args ds gs before hval (DataW.Whole.of_heap (w' := w.forCall tape i) (by rfl) hw) hE).mono fun e W' ⟨v, he, hp⟩ => ?_
  subst he
  exact ChangeSpec.post_blind hp
end Go.Proofs.YtbnpaeejlfaboaaGreatDoor

namespace Go.Proofs.YtbnpaeejlfaboaaGreatDoor
open Go.RowKit Go.Lib
set_option linter.unusedVariables false
open L8 (Slc Slp)
theorem SameI_y (g o b off c d : Nat) (l : List Int) (w : World) (hl : l.length ≤ 30000) (hg : ∀ (k : Nat) (x : Int), l[k]? = some x → w.cell? ⟨g, o + k, none⟩ = some (.int .i64 x)) (hc : ∀ (k : Nat) (x : Int), l[k]? = some x → w.cell? ⟨b, off + k, none⟩ = some (.int .i64 x)) :
    Calls Tryz.prog 53 #[.slice (some ⟨g, o, none⟩) l.length d, .slice (some ⟨b, off, none⟩) l.length c, .func (.func 54) #[] #[]] w fun e w' => e = .returned (.bool true) ∧ Ext w w' := by
  replace hg := show Hid _ from hg
  replace hc := show Hid _ from hc
  obtain ⟨T, hT⟩ : ∃ n, l.length = n := ⟨_, rfl⟩
  rw [hT] at hl ⊢
  replace hT := show Hid _ from hT
  go_enter Tryz.func53, Tryz.ntmps53
  go_wp2_with fail
  go_loopw [7] (fun i wr => ∃ k : Nat, k ≤ T ∧ i = .int .i64 k ∧ Hid (Ext w wr)) (fun i _ => T - (RowKit.intOf i).toNat)
  case atStart => exact ⟨0, Nat.zero_le _, rfl, Ext.refl w⟩
  case round =>
    obtain ⟨k, hk, rfl, hx⟩ := hrel
    by_cases hlt : k < T
    · obtain ⟨V, hV⟩ : ∃ V, l[k]? = some V := ⟨_, List.getElem?_eq_getElem (by have := hT.out; omega)⟩
      have k0 := hx.out.cell_of (hg.out k V hV)
      have k1 := hx.out.cell_of (hc.out k V hV)
      clear hV
      have hlt' : (k : Int) < (T : Int) := by omega
      have j0 := Late.cell k0; have j1 := Late.cell k1
      have hNe1 : Nonempty (Late wr) := ⟨⟨_, Ext.refl _⟩⟩
      go_wp2_with fail
      refine wp_region_late (by kernel_rfl) (by kernel_rfl) ?_
      repeat (go_big_quiet_step ((first
        | (go_at_call 54; exact late_same (L8.oneI_t _ _)))))
      refine wpQuiet_nil ?_
      intro W1 hw'
      replace hx : Hid (Ext w W1) := hx.out.trans (late_ext hw')
      clear hw' j0 j1 k0 k1
      go_wp2
      go_roundw
      case rel => exact ⟨k + 1, by omega, by go_num, hx⟩
      case measure => simp [RowKit.intOf]; omega
    · obtain rfl : k = T := by omega
      go_wp2
      go_ret
      exact ⟨rfl, hx.out⟩
theorem PlainI_y (u v : Value) (l : List Int) (w : World) (hl : l.length ≤ 30000) (hu : Slc w u l) (hv : Slc w v l) :
    Calls Tryz.prog 29 #[u, v] w fun e w' => e = .returned (.bool true) ∧ Ext w w' := by
  have hS : Hid (Calls Tryz.prog 53 #[u, v, .func (.func 54) #[] #[]] w fun e w' => e = .returned (.bool true) ∧ Ext w w') := by
    rcases hu with ⟨a, c, rfl, _, rfl⟩ | ⟨b, off, c, rfl, hc⟩
    · rcases hv with ⟨a2, c2, rfl, _, _⟩ | ⟨b2, off2, c2, rfl, _⟩
      · exact (L8.SameI_nil _ _ _ _ w).mono fun e w' h => ⟨h.1, by rw [h.2]; exact Ext.refl _⟩
      · exact (L8.SameI_nil _ _ _ _ w).mono fun e w' h => ⟨h.1, by rw [h.2]; exact Ext.refl _⟩
    · rcases hv with ⟨a2, c2, rfl, _, rfl⟩ | ⟨b2, off2, c2, rfl, hc2⟩
      · exact (L8.SameI_nil _ _ _ _ w).mono fun e w' h => ⟨h.1, by rw [h.2]; exact Ext.refl _⟩
      · exact SameI_y b off b2 off2 c2 c l w hl hc hc2
  obtain ⟨a1, c1, rfl⟩ := hu.len
  obtain ⟨a2, c2, rfl⟩ := hv.len
  clear hu hv hl
  generalize l.length = n at *
  go_enter Tryz.func29, Tryz.ntmps29
  go_wp2_with fail
  refine Calls.mono hS.out ?_
  rintro e w1 ⟨rfl, hx⟩
  replace hx := show Hid _ from hx
  go_wp2
  go_ret
  exact ⟨rfl, hx.out⟩
theorem SameR_y (g o b off c d : Nat) (l : List (Int × Int)) (w : World) (hl : l.length ≤ 30000) (hg : ∀ (k : Nat) (x y : Int), l[k]? = some (x, y) → w.cell? ⟨g, o + k * 2, none⟩ = some (.int .i64 x) ∧ w.cell? ⟨g, o + k * 2 + 1, none⟩ = some (.int .i64 y)) (hc : ∀ (k : Nat) (x y : Int), l[k]? = some (x, y) → w.cell? ⟨b, off + k * 2, none⟩ = some (.int .i64 x) ∧ w.cell? ⟨b, off + k * 2 + 1, none⟩ = some (.int .i64 y)) :
    Calls Tryz.prog 49 #[.slice (some ⟨g, o, none⟩) l.length d, .slice (some ⟨b, off, none⟩) l.length c, .func (.func 50) #[] #[]] w fun e w' => e = .returned (.bool true) ∧ Ext w w' := by
  replace hg := show Hid _ from hg
  replace hc := show Hid _ from hc
  obtain ⟨T, hT⟩ : ∃ n, l.length = n := ⟨_, rfl⟩
  rw [hT] at hl ⊢
  replace hT := show Hid _ from hT
  go_enter Tryz.func49, Tryz.ntmps49
  go_wp2_with fail
  go_loopw [7] (fun i wr => ∃ k : Nat, k ≤ T ∧ i = .int .i64 k ∧ Hid (Ext w wr)) (fun i _ => T - (RowKit.intOf i).toNat)
  case atStart => exact ⟨0, Nat.zero_le _, rfl, Ext.refl w⟩
  case round =>
    obtain ⟨k, hk, rfl, hx⟩ := hrel
    by_cases hlt : k < T
    · obtain ⟨⟨x, y⟩, hV⟩ : ∃ V, l[k]? = some V := ⟨_, List.getElem?_eq_getElem (by have := hT.out; omega)⟩
      have k0 := hx.out.cell_of (hg.out k x y hV).1
      have k1 := hx.out.cell_of (hg.out k x y hV).2
      have k2 := hx.out.cell_of (hc.out k x y hV).1
      have k3 := hx.out.cell_of (hc.out k x y hV).2
      clear hV
      have hlt' : (k : Int) < (T : Int) := by omega
      have j0 := Late.cell k0; have j1 := Late.cell k1; have j2 := Late.cell k2; have j3 := Late.cell k3
      have hNe1 : Nonempty (Late wr) := ⟨⟨_, Ext.refl _⟩⟩
      go_wp2_with fail
      refine wp_region_late (by kernel_rfl) (by kernel_rfl) ?_
      repeat (go_big_quiet_step ((first
        | (go_at_call 50; exact late_of (L8.oneR_t _ _ _)))))
      refine wpQuiet_nil ?_
      intro W1 hw'
      replace hx : Hid (Ext w W1) := hx.out.trans (late_ext hw')
      clear hw' j0 j1 j2 j3 k0 k1 k2 k3
      go_wp2
      go_roundw
      case rel => exact ⟨k + 1, by omega, by go_num, hx⟩
      case measure => simp [RowKit.intOf]; omega
    · obtain rfl : k = T := by omega
      go_wp2
      go_ret
      exact ⟨rfl, hx.out⟩
theorem PlainR_y (u v : Value) (l : List (Int × Int)) (w : World) (hl : l.length ≤ 30000) (hu : Slp w u l) (hv : Slp w v l) :
    Calls Tryz.prog 27 #[u, v] w fun e w' => e = .returned (.bool true) ∧ Ext w w' := by
  have hS : Hid (Calls Tryz.prog 49 #[u, v, .func (.func 50) #[] #[]] w fun e w' => e = .returned (.bool true) ∧ Ext w w') := by
    rcases hu with ⟨a, c, rfl, _, rfl⟩ | ⟨b, off, c, rfl, hc⟩
    · rcases hv with ⟨a2, c2, rfl, _, _⟩ | ⟨b2, off2, c2, rfl, _⟩
      · exact (L8.SameR_nil _ _ _ _ w).mono fun e w' h => ⟨h.1, by rw [h.2]; exact Ext.refl _⟩
      · exact (L8.SameR_nil _ _ _ _ w).mono fun e w' h => ⟨h.1, by rw [h.2]; exact Ext.refl _⟩
    · rcases hv with ⟨a2, c2, rfl, _, rfl⟩ | ⟨b2, off2, c2, rfl, hc2⟩
      · exact (L8.SameR_nil _ _ _ _ w).mono fun e w' h => ⟨h.1, by rw [h.2]; exact Ext.refl _⟩
      · exact SameR_y b off b2 off2 c2 c l w hl hc hc2
  obtain ⟨a1, c1, rfl⟩ := hu.len
  obtain ⟨a2, c2, rfl⟩ := hv.len
  clear hu hv hl
  generalize l.length = n at *
  go_enter Tryz.func27, Tryz.ntmps27
  go_wp2_with fail
  refine Calls.mono hS.out ?_
  rintro e w1 ⟨rfl, hx⟩
  replace hx := show Hid _ from hx
  go_wp2
  go_ret
  exact ⟨rfl, hx.out⟩
theorem SameT_y (g o b off c d : Nat) (l : List (Int × Int)) (w : World) (hl : l.length ≤ 30000) (hg : ∀ (k : Nat) (x y : Int), l[k]? = some (x, y) → w.cell? ⟨g, o + k * 2, none⟩ = some (.int .i64 x) ∧ w.cell? ⟨g, o + k * 2 + 1, none⟩ = some (.int .i64 y)) (hc : ∀ (k : Nat) (x y : Int), l[k]? = some (x, y) → w.cell? ⟨b, off + k * 2, none⟩ = some (.int .i64 x) ∧ w.cell? ⟨b, off + k * 2 + 1, none⟩ = some (.int .i64 y)) :
    Calls Tryz.prog 51 #[.slice (some ⟨g, o, none⟩) l.length d, .slice (some ⟨b, off, none⟩) l.length c, .func (.func 52) #[] #[]] w fun e w' => e = .returned (.bool true) ∧ Ext w w' := by
  replace hg := show Hid _ from hg
  replace hc := show Hid _ from hc
  obtain ⟨T, hT⟩ : ∃ n, l.length = n := ⟨_, rfl⟩
  rw [hT] at hl ⊢
  replace hT := show Hid _ from hT
  go_enter Tryz.func51, Tryz.ntmps51
  go_wp2_with fail
  go_loopw [7] (fun i wr => ∃ k : Nat, k ≤ T ∧ i = .int .i64 k ∧ Hid (Ext w wr)) (fun i _ => T - (RowKit.intOf i).toNat)
  case atStart => exact ⟨0, Nat.zero_le _, rfl, Ext.refl w⟩
  case round =>
    obtain ⟨k, hk, rfl, hx⟩ := hrel
    by_cases hlt : k < T
    · obtain ⟨⟨x, y⟩, hV⟩ : ∃ V, l[k]? = some V := ⟨_, List.getElem?_eq_getElem (by have := hT.out; omega)⟩
      have k0 := hx.out.cell_of (hg.out k x y hV).1
      have k1 := hx.out.cell_of (hg.out k x y hV).2
      have k2 := hx.out.cell_of (hc.out k x y hV).1
      have k3 := hx.out.cell_of (hc.out k x y hV).2
      clear hV
      have hlt' : (k : Int) < (T : Int) := by omega
      have j0 := Late.cell k0; have j1 := Late.cell k1; have j2 := Late.cell k2; have j3 := Late.cell k3
      have hNe1 : Nonempty (Late wr) := ⟨⟨_, Ext.refl _⟩⟩
      go_wp2_with fail
      refine wp_region_late (by kernel_rfl) (by kernel_rfl) ?_
      repeat (go_big_quiet_step ((first
        | (go_at_call 52; exact late_of (L8.oneT_t _ _ _)))))
      refine wpQuiet_nil ?_
      intro W1 hw'
      replace hx : Hid (Ext w W1) := hx.out.trans (late_ext hw')
      clear hw' j0 j1 j2 j3 k0 k1 k2 k3
      go_wp2
      go_roundw
      case rel => exact ⟨k + 1, by omega, by go_num, hx⟩
      case measure => simp [RowKit.intOf]; omega
    · obtain rfl : k = T := by omega
      go_wp2
      go_ret
      exact ⟨rfl, hx.out⟩
theorem PlainT_y (u v : Value) (l : List (Int × Int)) (w : World) (hl : l.length ≤ 30000) (hu : Slp w u l) (hv : Slp w v l) :
    Calls Tryz.prog 28 #[u, v] w fun e w' => e = .returned (.bool true) ∧ Ext w w' := by
  have hS : Hid (Calls Tryz.prog 51 #[u, v, .func (.func 52) #[] #[]] w fun e w' => e = .returned (.bool true) ∧ Ext w w') := by
    rcases hu with ⟨a, c, rfl, _, rfl⟩ | ⟨b, off, c, rfl, hc⟩
    · rcases hv with ⟨a2, c2, rfl, _, _⟩ | ⟨b2, off2, c2, rfl, _⟩
      · exact (L8.SameT_nil _ _ _ _ w).mono fun e w' h => ⟨h.1, by rw [h.2]; exact Ext.refl _⟩
      · exact (L8.SameT_nil _ _ _ _ w).mono fun e w' h => ⟨h.1, by rw [h.2]; exact Ext.refl _⟩
    · rcases hv with ⟨a2, c2, rfl, _, rfl⟩ | ⟨b2, off2, c2, rfl, hc2⟩
      · exact (L8.SameT_nil _ _ _ _ w).mono fun e w' h => ⟨h.1, by rw [h.2]; exact Ext.refl _⟩
      · exact SameT_y b off b2 off2 c2 c l w hl hc hc2
  obtain ⟨a1, c1, rfl⟩ := hu.len
  obtain ⟨a2, c2, rfl⟩ := hv.len
  clear hu hv hl
  generalize l.length = n at *
  go_enter Tryz.func28, Tryz.ntmps28
  go_wp2_with fail
  refine Calls.mono hS.out ?_
  rintro e w1 ⟨rfl, hx⟩
  replace hx := show Hid _ from hx
  go_wp2
  go_ret
  exact ⟨rfl, hx.out⟩
end Go.Proofs.YtbnpaeejlfaboaaGreatDoor

namespace Go.Proofs.YtbnpaeejlfaboaaGreatDoor
open Go.RowKit Go.Lib
set_option linter.unusedVariables false
end Go.Proofs.YtbnpaeejlfaboaaGreatDoor

namespace Go.Proofs.YtbnpaeejlfaboaaGreatDoor
open Go.RowKit Go.Lib
set_option linter.unusedVariables false
theorem lay2 (w : World) (cs ds : Array Value) (m n : TypeId) : ∃ W1 W2 b, w.alloc (.cells cs m) = W1 ∧ w.heap.size = b ∧ W1.alloc (.cells ds n) = W2 ∧ W1.heap.size = b + 1 ∧ Ext w W2 ∧ W2.heap[b]? = some (.cells cs m (0, 0)) ∧ W2.heap[b + 1]? = some (.cells ds n (0, 0)) := by
  have hs : (w.alloc (.cells cs m)).heap.size = w.heap.size + 1 := by simp
  refine ⟨_, _, _, rfl, rfl, rfl, hs, ((Ext.refl w).alloc _ _).alloc _ _, ?_, ?_⟩
  · have hx : Ext (w.alloc (.cells cs m)) ((w.alloc (.cells cs m)).alloc (.cells ds n)) := (Ext.refl _).alloc _ _
    rw [hx.below.block _ (by rw [hs]; omega)]
    exact heap_alloc_last w _
  · rw [← hs]
    exact heap_alloc_last _ _
theorem eql4 (a b c d : Int) (w : World) : (binOp .eql 23 (.agg #[.int .i64 a, .int .i64 b, .int .i64 c, .int .i64 d]) (.agg #[.int .i64 a, .int .i64 b, .int .i64 c, .int .i64 d])).run Tryz.prog w = .ok (.bool true) w := by
  have h0 : ∀ (e : Nat) (x : Int), (Op.equalIn (e + 1) 3 (.int .i64 x) (.int .i64 x)).run Tryz.prog w = .ok true w := fun e x => by simp [Op.equalIn, run_underlying Tryz.underlying3]
  have h1 : ∀ (x : Int), (Op.equalIn 9999 3 (.int .i64 x) (.int .i64 x)).run Tryz.prog w = .ok true w := fun x => h0 9998 x
  have h2 : Tryz.prog.underlying 23 = some (.array 4 3) := Tryz.underlying23
  have h3 : (sizeOf 3).run Tryz.prog w = .ok 1 w := by kernel_rfl
  have p0 : (part 3 #[.int .i64 a, .int .i64 b, .int .i64 c, .int .i64 d] 0).run Tryz.prog w = .ok (.int .i64 a) w := by kernel_rfl
  have p1 : (part 3 #[.int .i64 a, .int .i64 b, .int .i64 c, .int .i64 d] 1).run Tryz.prog w = .ok (.int .i64 b) w := by kernel_rfl
  have p2 : (part 3 #[.int .i64 a, .int .i64 b, .int .i64 c, .int .i64 d] 2).run Tryz.prog w = .ok (.int .i64 c) w := by kernel_rfl
  have p3 : (part 3 #[.int .i64 a, .int .i64 b, .int .i64 c, .int .i64 d] 3).run Tryz.prog w = .ok (.int .i64 d) w := by kernel_rfl
  simp only [binOp]
  have h4 : (Op.equalIn (9999 + 1) 23 (.agg #[.int .i64 a, .int .i64 b, .int .i64 c, .int .i64 d]) (.agg #[.int .i64 a, .int .i64 b, .int .i64 c, .int .i64 d])).run Tryz.prog w = .ok true w := by
    rw [Op.equalIn]
    simp [run_underlying h2, h3, List.range', p0, p1, p2, p3, h1]
  simp [Op.equal, Op.maxDepth, h4]
theorem keep19 {w w' : World} {b : Nat} {cs : Array Value} {m : TypeId} (h : w.heap[b]? = some (.cells cs m (0, 0))) (hx : Ext w w') : w'.heap[b]? = some (.cells cs m (0, 0)) := by
  rw [hx.below.block b (Array.getElem?_eq_some_iff.1 h).1]; exact h
set_option maxRecDepth 100000 in
set_option maxHeartbeats 4000000 in
theorem Prod_v (nm : List UInt8) (cn rd kd ev tm gr rt pn o0 o1 o2 o3 ov cp rl : Int) (rs lt : List (Int × Int)) (hd : List Int) (vr vl vh ur ul uh : Value) (w : World) (hn : rs.length ≤ 30000 ∧ lt.length ≤ 30000 ∧ hd.length ≤ 30000) (s1 : L8.Slp w vr rs) (s2 : L8.Slp w vl lt) (s3 : L8.Slc w vh hd) (s4 : L8.Slp w ur rs) (s5 : L8.Slp w ul lt) (s6 : L8.Slc w uh hd)
    (hb1 : ∀ W : World, (Instr.box 27 (.agg #[.string ⟨nm.toArray⟩, .int .i64 cn, .int .i64 rd, .int .i64 kd, .int .i64 ev, .int .i64 tm, .int .i64 gr, .int .i64 rt, vr, .int .i64 pn, .int .i64 o0, .int .i64 o1, .int .i64 o2, .int .i64 o3, .int .i64 ov, vl, .int .i64 cp, .int .i64 rl, vh])).run Tryz.prog W = .ok (.pointer (some ⟨W.heap.size, 0, none⟩)) (W.alloc (.cells #[.string ⟨nm.toArray⟩, .int .i64 cn, .int .i64 rd, .int .i64 kd, .int .i64 ev, .int .i64 tm, .int .i64 gr, .int .i64 rt, vr, .int .i64 pn, .int .i64 o0, .int .i64 o1, .int .i64 o2, .int .i64 o3, .int .i64 ov, vl, .int .i64 cp, .int .i64 rl, vh] 27)))
    (hb2 : ∀ W : World, (Instr.box 27 (.agg #[.string ⟨nm.toArray⟩, .int .i64 cn, .int .i64 rd, .int .i64 kd, .int .i64 ev, .int .i64 tm, .int .i64 gr, .int .i64 rt, ur, .int .i64 pn, .int .i64 o0, .int .i64 o1, .int .i64 o2, .int .i64 o3, .int .i64 ov, ul, .int .i64 cp, .int .i64 rl, uh])).run Tryz.prog W = .ok (.pointer (some ⟨W.heap.size, 0, none⟩)) (W.alloc (.cells #[.string ⟨nm.toArray⟩, .int .i64 cn, .int .i64 rd, .int .i64 kd, .int .i64 ev, .int .i64 tm, .int .i64 gr, .int .i64 rt, ur, .int .i64 pn, .int .i64 o0, .int .i64 o1, .int .i64 o2, .int .i64 o3, .int .i64 ov, ul, .int .i64 cp, .int .i64 rl, uh] 27))) :
    Calls Tryz.prog 8 #[.agg #[.string ⟨nm.toArray⟩, .int .i64 cn, .int .i64 rd, .int .i64 kd, .int .i64 ev, .int .i64 tm, .int .i64 gr, .int .i64 rt, vr, .int .i64 pn, .int .i64 o0, .int .i64 o1, .int .i64 o2, .int .i64 o3, .int .i64 ov, vl, .int .i64 cp, .int .i64 rl, vh], .agg #[.string ⟨nm.toArray⟩, .int .i64 cn, .int .i64 rd, .int .i64 kd, .int .i64 ev, .int .i64 tm, .int .i64 gr, .int .i64 rt, ur, .int .i64 pn, .int .i64 o0, .int .i64 o1, .int .i64 o2, .int .i64 o3, .int .i64 ov, ul, .int .i64 cp, .int .i64 rl, uh]] w fun e w' => e = .returned (.bool true) ∧ Ext w w' := by
  obtain ⟨W1, W2, b, hW1, hb, hW2, hsz, hx, B1, B2⟩ := lay2 w #[.string ⟨nm.toArray⟩, .int .i64 cn, .int .i64 rd, .int .i64 kd, .int .i64 ev, .int .i64 tm, .int .i64 gr, .int .i64 rt, vr, .int .i64 pn, .int .i64 o0, .int .i64 o1, .int .i64 o2, .int .i64 o3, .int .i64 ov, vl, .int .i64 cp, .int .i64 rl, vh] #[.string ⟨nm.toArray⟩, .int .i64 cn, .int .i64 rd, .int .i64 kd, .int .i64 ev, .int .i64 tm, .int .i64 gr, .int .i64 rt, ur, .int .i64 pn, .int .i64 o0, .int .i64 o1, .int .i64 o2, .int .i64 o3, .int .i64 ov, ul, .int .i64 cp, .int .i64 rl, uh] 27 27
  have hR : Hid (∀ W, Ext W2 W → Calls Tryz.prog 27 #[vr, ur] W fun e w' => e = .returned (.bool true) ∧ Ext W w') := fun W hW => PlainR_y vr ur rs W hn.1 (s1.ext (hx.trans hW)) (s4.ext (hx.trans hW))
  have hT : Hid (∀ W, Ext W2 W → Calls Tryz.prog 28 #[vl, ul] W fun e w' => e = .returned (.bool true) ∧ Ext W w') := fun W hW => PlainT_y vl ul lt W hn.2.1 (s2.ext (hx.trans hW)) (s5.ext (hx.trans hW))
  have hI : Hid (∀ W, Ext W2 W → Calls Tryz.prog 29 #[vh, uh] W fun e w' => e = .returned (.bool true) ∧ Ext W w') := fun W hW => PlainI_y vh uh hd W hn.2.2 (s3.ext (hx.trans hW)) (s6.ext (hx.trans hW))
  clear s1 s2 s3 s4 s5 s6 hn
  replace hx := show Hid _ from hx
  have hL := show Hid (Ext W2 W2) from Ext.refl W2
  replace B1 := show Hid _ from B1
  replace B2 := show Hid _ from B2
  have j0 := (cell_of_row W2 b 0 _ _ _ B1.out).trans (show _ = some (.string ⟨nm.toArray⟩) from rfl)
  have i0 := (cell_of_row W2 (b + 1) 0 _ _ _ B2.out).trans (show _ = some (.string ⟨nm.toArray⟩) from rfl)
  have j1 := (cell_of_row W2 b 1 _ _ _ B1.out).trans (show _ = some (.int .i64 cn) from rfl)
  have i1 := (cell_of_row W2 (b + 1) 1 _ _ _ B2.out).trans (show _ = some (.int .i64 cn) from rfl)
  have j2 := (cell_of_row W2 b 2 _ _ _ B1.out).trans (show _ = some (.int .i64 rd) from rfl)
  have i2 := (cell_of_row W2 (b + 1) 2 _ _ _ B2.out).trans (show _ = some (.int .i64 rd) from rfl)
  have j3 := (cell_of_row W2 b 3 _ _ _ B1.out).trans (show _ = some (.int .i64 kd) from rfl)
  have i3 := (cell_of_row W2 (b + 1) 3 _ _ _ B2.out).trans (show _ = some (.int .i64 kd) from rfl)
  have j4 := (cell_of_row W2 b 4 _ _ _ B1.out).trans (show _ = some (.int .i64 ev) from rfl)
  have i4 := (cell_of_row W2 (b + 1) 4 _ _ _ B2.out).trans (show _ = some (.int .i64 ev) from rfl)
  have j5 := (cell_of_row W2 b 5 _ _ _ B1.out).trans (show _ = some (.int .i64 tm) from rfl)
  have i5 := (cell_of_row W2 (b + 1) 5 _ _ _ B2.out).trans (show _ = some (.int .i64 tm) from rfl)
  have j6 := (cell_of_row W2 b 6 _ _ _ B1.out).trans (show _ = some (.int .i64 gr) from rfl)
  have i6 := (cell_of_row W2 (b + 1) 6 _ _ _ B2.out).trans (show _ = some (.int .i64 gr) from rfl)
  have j7 := (cell_of_row W2 b 7 _ _ _ B1.out).trans (show _ = some (.int .i64 rt) from rfl)
  have i7 := (cell_of_row W2 (b + 1) 7 _ _ _ B2.out).trans (show _ = some (.int .i64 rt) from rfl)
  have j8 := (cell_of_row W2 b 8 _ _ _ B1.out).trans (show _ = some (vr) from rfl)
  have i8 := (cell_of_row W2 (b + 1) 8 _ _ _ B2.out).trans (show _ = some (ur) from rfl)
  go_enter Tryz.func8, Tryz.ntmps8
  go_upto_region 1 with fail
  clear hW1 hW2 hsz hb1 hb2
  have hq4 := eql4 o0 o1 o2 o3
  go_wp2_with fail
  refine Calls.mono (hR.out _ hL.out) ?_
  rintro e w3 ⟨rfl, hx1⟩
  replace hL := show Hid (Ext W2 w3) from hL.out.trans hx1
  replace hx := show Hid _ from hx.out.trans hx1
  replace B1 := show Hid _ from keep19 B1.out hx1
  replace B2 := show Hid _ from keep19 B2.out hx1
  clear hx1
  clear j0 i0 j1 i1 j2 i2 j3 i3 j4 i4 j5 i5 j6 i6 j7 i7 j8 i8
  have j9 := (cell_of_row w3 b 9 _ _ _ B1.out).trans (show _ = some (.int .i64 pn) from rfl)
  have i9 := (cell_of_row w3 (b + 1) 9 _ _ _ B2.out).trans (show _ = some (.int .i64 pn) from rfl)
  have j10 := (cell_of_row w3 b 10 _ _ _ B1.out).trans (show _ = some (.int .i64 o0) from rfl)
  have i10 := (cell_of_row w3 (b + 1) 10 _ _ _ B2.out).trans (show _ = some (.int .i64 o0) from rfl)
  have j11 := (cell_of_row w3 b 11 _ _ _ B1.out).trans (show _ = some (.int .i64 o1) from rfl)
  have i11 := (cell_of_row w3 (b + 1) 11 _ _ _ B2.out).trans (show _ = some (.int .i64 o1) from rfl)
  have j12 := (cell_of_row w3 b 12 _ _ _ B1.out).trans (show _ = some (.int .i64 o2) from rfl)
  have i12 := (cell_of_row w3 (b + 1) 12 _ _ _ B2.out).trans (show _ = some (.int .i64 o2) from rfl)
  have j13 := (cell_of_row w3 b 13 _ _ _ B1.out).trans (show _ = some (.int .i64 o3) from rfl)
  have i13 := (cell_of_row w3 (b + 1) 13 _ _ _ B2.out).trans (show _ = some (.int .i64 o3) from rfl)
  have j14 := (cell_of_row w3 b 14 _ _ _ B1.out).trans (show _ = some (.int .i64 ov) from rfl)
  have i14 := (cell_of_row w3 (b + 1) 14 _ _ _ B2.out).trans (show _ = some (.int .i64 ov) from rfl)
  have j15 := (cell_of_row w3 b 15 _ _ _ B1.out).trans (show _ = some (vl) from rfl)
  have i15 := (cell_of_row w3 (b + 1) 15 _ _ _ B2.out).trans (show _ = some (ul) from rfl)
  go_wp2_with fail
  refine Calls.mono (hT.out _ hL.out) ?_
  rintro e w4 ⟨rfl, hx1⟩
  replace hL := show Hid (Ext W2 w4) from hL.out.trans hx1
  replace hx := show Hid _ from hx.out.trans hx1
  replace B1 := show Hid _ from keep19 B1.out hx1
  replace B2 := show Hid _ from keep19 B2.out hx1
  clear hx1
  clear j9 i9 j10 i10 j11 i11 j12 i12 j13 i13 j14 i14 j15 i15
  have j16 := (cell_of_row w4 b 16 _ _ _ B1.out).trans (show _ = some (.int .i64 cp) from rfl)
  have i16 := (cell_of_row w4 (b + 1) 16 _ _ _ B2.out).trans (show _ = some (.int .i64 cp) from rfl)
  have j17 := (cell_of_row w4 b 17 _ _ _ B1.out).trans (show _ = some (.int .i64 rl) from rfl)
  have i17 := (cell_of_row w4 (b + 1) 17 _ _ _ B2.out).trans (show _ = some (.int .i64 rl) from rfl)
  have j18 := (cell_of_row w4 b 18 _ _ _ B1.out).trans (show _ = some (vh) from rfl)
  have i18 := (cell_of_row w4 (b + 1) 18 _ _ _ B2.out).trans (show _ = some (uh) from rfl)
  go_wp2_with fail
  refine Calls.mono (hI.out _ hL.out) ?_
  rintro e w5 ⟨rfl, hx1⟩
  replace hL := show Hid (Ext W2 w5) from hL.out.trans hx1
  replace hx := show Hid _ from hx.out.trans hx1
  replace B1 := show Hid _ from keep19 B1.out hx1
  replace B2 := show Hid _ from keep19 B2.out hx1
  clear hx1
  clear j16 i16 j17 i17 j18 i18
  go_wp2
  go_ret
  exact ⟨rfl, hx.out⟩
theorem box_prod (p : Prd) (vr vl vh : Value) (h1 : (pcells p vr vl vh).all (·.oneCell') = true) : ∀ W : World, (Instr.box 27 (.agg (pcells p vr vl vh))).run Tryz.prog W = .ok (.pointer (some ⟨W.heap.size, 0, none⟩)) (W.alloc (.cells (pcells p vr vl vh) 27)) := (flat_of (cs := pcells p vr vl vh) rfl h1).box
theorem pcells_slp {w : World} {p : Prd} {vr vl vh : Value} (s1 : L8.Slp w vr p.rs) (s2 : L8.Slp w vl p.lt) (s3 : L8.Slc w vh p.hd) : (pcells p vr vl vh).all (·.oneCell') = true := by
  obtain ⟨a1, c1, rfl⟩ := s1.len
  obtain ⟨a2, c2, rfl⟩ := s2.len
  obtain ⟨a3, c3, rfl⟩ := s3.len
  simp [pcells, Value.oneCell']
/-- Two products of the same parts. -/
theorem Prod_c (p : Prd) (vr vl vh ur ul uh : Value) (w : World) (hn : p.rs.length ≤ 30000 ∧ p.lt.length ≤ 30000 ∧ p.hd.length ≤ 30000) (s1 : L8.Slp w vr p.rs) (s2 : L8.Slp w vl p.lt) (s3 : L8.Slc w vh p.hd) (s4 : L8.Slp w ur p.rs) (s5 : L8.Slp w ul p.lt) (s6 : L8.Slc w uh p.hd) :
    Calls Tryz.prog 8 #[.agg (pcells p vr vl vh), .agg (pcells p ur ul uh)] w fun e w' => e = .returned (.bool true) ∧ Ext w w' :=
  Prod_v p.nm p.cn p.rd p.kd p.ev p.tm p.gr p.rt p.pn p.o0 p.o1 p.o2 p.o3 p.ov p.cp p.rl p.rs p.lt p.hd vr vl vh ur ul uh w hn s1 s2 s3 s4 s5 s6 (box_prod p vr vl vh (pcells_slp s1 s2 s3)) (box_prod p ur ul uh (pcells_slp s4 s5 s6))
end Go.Proofs.YtbnpaeejlfaboaaGreatDoor

namespace Go.Proofs.YtbnpaeejlfaboaaGreatDoor
open Go.RowKit Go.Lib
set_option linter.unusedVariables false
end Go.Proofs.YtbnpaeejlfaboaaGreatDoor

namespace Go.Proofs.YtbnpaeejlfaboaaGreatDoor
open Go.RowKit Go.Lib
set_option linter.unusedVariables false
end Go.Proofs.YtbnpaeejlfaboaaGreatDoor

namespace Go.Proofs.YtbnpaeejlfaboaaGreatDoor
open Go.RowKit Go.Lib
set_option linter.unusedVariables false
end Go.Proofs.YtbnpaeejlfaboaaGreatDoor

namespace Go.Proofs.YtbnpaeejlfaboaaGreatDoor
open Go.RowKit Go.Lib
set_option linter.unusedVariables false
end Go.Proofs.YtbnpaeejlfaboaaGreatDoor

namespace Go.Proofs.YtbnpaeejlfaboaaGreatDoor
open Go.RowKit Go.Lib
set_option linter.unusedVariables false
end Go.Proofs.YtbnpaeejlfaboaaGreatDoor

namespace Go.Proofs.YtbnpaeejlfaboaaGreatDoor
open Go.RowKit Go.Lib
set_option linter.unusedVariables false
end Go.Proofs.YtbnpaeejlfaboaaGreatDoor

namespace Go.Proofs.YtbnpaeejlfaboaaGreatDoor
open Go.RowKit Go.Lib
set_option linter.unusedVariables false
end Go.Proofs.YtbnpaeejlfaboaaGreatDoor

namespace Go.Proofs.YtbnpaeejlfaboaaGreatDoor
open Go.RowKit Go.Lib
set_option linter.unusedVariables false
end Go.Proofs.YtbnpaeejlfaboaaGreatDoor

namespace Go.Proofs.YtbnpaeejlfaboaaGreatDoor
open Go.RowKit Go.Lib
set_option linter.unusedVariables false
end Go.Proofs.YtbnpaeejlfaboaaGreatDoor

namespace Go.Proofs.YtbnpaeejlfaboaaGreatDoor
open Go.RowKit Go.Lib
set_option linter.unusedVariables false
end Go.Proofs.YtbnpaeejlfaboaaGreatDoor

namespace Go.Proofs.YtbnpaeejlfaboaaGreatDoor
open Go.RowKit Go.Lib
set_option linter.unusedVariables false
theorem nmb_ne {l : List UInt8} (h : L8.nmb l = true) : l ≠ [] := by
  rintro rfl
  revert h; decide
theorem rCheck_p (p : Prd) (vr vl vh : Value) (B : Bool) (hB : okP p = B) (w : World) (hnm : p.nm.length ≤ 30000) (hf : p.rs.length + p.lt.length + p.hd.length ≤ 30000) (sr : L8.Slp w vr p.rs) (sl : L8.Slp w vl p.lt) (sh : L8.Slc w vh p.hd) :
    Calls Tryz.prog 6 #[.agg (pcells p vr vl vh)] w fun e w' => e = .returned (.int .i64 (if B then 0 else 9)) ∧ Ext w w' :=
  L8.rCheck_x p.nm p.cn p.rd p.kd p.ev p.tm p.gr p.rt vr p.rs p.pn p.o0 p.o1 p.o2 p.o3 p.ov vl p.lt p.cp p.rl vh p.hd (if B then 0 else 9) (by rw [← hB]; rfl) w (by omega) (by omega) (by omega) (by omega) sr sl sh
end Go.Proofs.YtbnpaeejlfaboaaGreatDoor

namespace Go.Proofs.YtbnpaeejlfaboaaGreatDoor
open Go.RowKit Go.Lib
set_option linter.unusedVariables false
theorem pair_new (w : World) (T : TypeId) (x y : Int) : ∃ W1 B W2, w.alloc (.cells #[.int .i64 0, .int .i64 0] T) = W1 ∧ w.heap.size = B ∧ Ext w W1 ∧ W1.cell? ⟨B, 0, none⟩ = some (.int .i64 0) ∧ W1.cell? ⟨B, 1, none⟩ = some (.int .i64 0) ∧ W1.frozen? ⟨B, 0, none⟩ = false ∧ W1.frozen? ⟨B, 1, none⟩ = false ∧
    (W1.setCell ⟨B, 0, none⟩ (.int .i64 x)).setCell ⟨B, 1, none⟩ (.int .i64 y) = W2 ∧ Ext w W2 ∧ W2.heap[B]? = some (Obj.cells #[.int .i64 x, .int .i64 y] T (0, 0)) := by
  refine ⟨_, _, _, rfl, rfl, (Ext.refl w).alloc _ _, by simp [go_sem], by simp [go_sem], by simp [go_sem], by simp [go_sem], rfl, (((Ext.refl w).alloc _ _).setCell (Nat.le_refl _) _).setCell (Nat.le_refl _) _, ?_⟩
  have h := heap_alloc_last w (.cells #[.int .i64 0, .int .i64 0] T)
  unfold World.setCell
  simp only []
  rw [Array.getElem?_modify, if_pos rfl, Array.getElem?_modify, if_pos rfl, h]
  rfl
theorem lay3w (w : World) (x y z : List UInt8) : ∃ W d, w.alloc (.cells #[.string ⟨x.toArray⟩, .string ⟨y.toArray⟩, .string ⟨z.toArray⟩] 9) = W ∧ w.heap.size = d ∧ Ext w W ∧ L8.Strs W d [x, y, z] ∧ d < W.heap.size := by
  refine ⟨_, _, rfl, rfl, (Ext.refl w).alloc _ _, fun k u hk => ?_, by simp⟩
  have hr := heap_alloc_last w (.cells #[.string ⟨x.toArray⟩, .string ⟨y.toArray⟩, .string ⟨z.toArray⟩] 9)
  refine (cell_of_row _ _ k _ _ _ hr).trans ?_
  match k, hk with
  | 0, hk => simp at hk; subst hk; rfl
  | 1, hk => simp at hk; subst hk; rfl
  | 2, hk => simp at hk; subst hk; rfl
  | k + 3, hk => simp at hk
theorem lay5w (w : World) (x y z u v : List UInt8) : ∃ W d, w.alloc (.cells #[.string ⟨x.toArray⟩, .string ⟨y.toArray⟩, .string ⟨z.toArray⟩, .string ⟨u.toArray⟩, .string ⟨v.toArray⟩] 9) = W ∧ w.heap.size = d ∧ Ext w W ∧ L8.Strs W d [x, y, z, u, v] ∧ d < W.heap.size := by
  refine ⟨_, _, rfl, rfl, (Ext.refl w).alloc _ _, fun k q hk => ?_, by simp⟩
  have hr := heap_alloc_last w (.cells #[.string ⟨x.toArray⟩, .string ⟨y.toArray⟩, .string ⟨z.toArray⟩, .string ⟨u.toArray⟩, .string ⟨v.toArray⟩] 9)
  refine (cell_of_row _ _ k _ _ _ hr).trans ?_
  match k, hk with
  | 0, hk => simp at hk; subst hk; rfl
  | 1, hk => simp at hk; subst hk; rfl
  | 2, hk => simp at hk; subst hk; rfl
  | 3, hk => simp at hk; subst hk; rfl
  | 4, hk => simp at hk; subst hk; rfl
  | k + 5, hk => simp at hk
theorem rows_next {α : Type} {f : α → Cl} {L : List α} {k : Nat} {x : α} (h : L[k]? = some x) : rowsL ((L.take (k + 1)).map f) = rowsL ((L.take k).map f) ++ rowL (f x) := by
  rw [List.take_add_one, h, List.map_append, rowsL_app]
  simp [rowsL]
theorem rows_some {α : Type} {f : α → Cl} {L : List α} (hC : ∀ x ∈ L, Cls (f x)) (k : Nat) : (rowsL ((L.take k).map f)).length ≤ 80 * L.length := by
  have h := rows_len ((L.take k).map f) (fun c hc => by
    obtain ⟨x, hx, rfl⟩ := List.mem_map.1 hc
    exact hC x (List.mem_of_mem_take hx))
  rw [List.length_map, List.length_take] at h
  omega
theorem Text_w (n : Int) (w : World) (h1 : -25567 ≤ n) (h2 : n ≤ 84370) (he : Hid (L3.Env w)) :
    Calls Tryz.prog 117 #[.int .i64 n] w fun e w' => e = .returned (.tuple #[.string ⟨(dayL n).toArray⟩, .int .i64 0]) ∧ Ext w w' := by
  refine (L3.Text_ok n w h1 h2 he).mono ?_
  rintro e w' ⟨⟨y, m, d, rfl, hv, hn⟩, hx⟩
  obtain ⟨rfl, rfl, rfl⟩ := L3.ofDay_of hv hn
  exact ⟨rfl, hx⟩
set_option maxRecDepth 100000 in
set_option maxHeartbeats 2000000 in
theorem resets_w (w0 w : World) (b : Nat) (p : Prd) (vr vl vh : Value) (l : List UInt8) (hK : Okf p) (he : Hid (Pnv w0)) (h : Wrt w0 w b p vr vl vh l) (hl : l.length ≤ 50000) (sr : L8.Slp w0 vr p.rs) :
    Calls Tryz.prog 76 #[.pointer (some ⟨b, 0, none⟩)] w fun e w' => Wrote w0 w w' b p vr vl vh l 8 e := by
  obtain ⟨ar, cr, hvr⟩ := sr.len
  have ck := h.cell (k := 8) (by decide) (show _ = some (.slice ar p.rs.length cr) from by rw [← hvr]; rfl)
  have hrl := hK.rl_
  have hC : ∀ x ∈ p.rs, Cls (cReset x) := fun x hx => cls_reset (hK.rs x hx)
  have hrows := rows_some hC
  obtain ⟨n, hn⟩ : ∃ n, p.rs.length = n := ⟨_, rfl⟩
  rw [hn] at ck hrl hrows
  replace hn := show Hid _ from hn
  have h0 : Hid (Wrt w0 w b p vr vl vh (l ++ rowsL ((p.rs.take 0).map cReset))) := by show Wrt _ _ _ _ _ _ _ _; simpa [rowsL] using h
  replace sr := show Hid _ from sr
  replace hvr := show Hid _ from hvr
  replace hC := show Hid _ from hC
  replace hrows := show Hid _ from hrows
  have hb := show Hid _ from h.lt
  clear h
  go_enter Tryz.func76, Tryz.ntmps76
  go_wp2_with fail
  go_loopw [10] (fun i wr => ∃ k : Nat, k ≤ n ∧ i = .int .i64 k ∧ Hid (Wrt w0 wr b p vr vl vh (l ++ rowsL ((p.rs.take k).map cReset))) ∧ Hid (Stp b w wr)) (fun i _ => n - (RowKit.intOf i).toNat)
  case atStart => exact ⟨0, Nat.zero_le _, rfl, h0, Stp.refl b w⟩
  case round =>
  clear h0 ck
  obtain ⟨k, hk, rfl, hW, hSt⟩ := hrel
  by_cases hlt : k < n
  · have hki : (k : Int) < (n : Int) := by omega
    have hk0 : (0 : Int) ≤ (k : Int) := by omega
    obtain ⟨⟨x, y⟩, hxy⟩ : ∃ z, p.rs[k]? = some z := ⟨_, List.getElem?_eq_getElem (by have := hn.out; omega)⟩
    have hbd := hK.rs (x, y) (List.mem_of_getElem? hxy)
    simp only [] at hbd
    have hlen := (hC.out (x, y) (List.mem_of_getElem? hxy)).len
    have hcell : ∃ g off, ar = some ⟨g, off, none⟩ ∧ wr.cell? ⟨g, off + k * 2, none⟩ = some (.int .i64 x) ∧ wr.cell? ⟨g, off + k * 2 + 1, none⟩ = some (.int .i64 y) := by
      rcases sr.out with ⟨_, _, _, _, hz⟩ | ⟨g, off, c, hv, hc⟩
      · have := hn.out; rw [hz] at this; simp at this; omega
      · have hv2 := hv.symm.trans hvr.out
        simp only [Value.slice.injEq] at hv2
        exact ⟨g, off, hv2.1.symm, hW.out.ext.cell_of (hc k _ _ hxy).1, hW.out.ext.cell_of (hc k _ _ hxy).2⟩
    obtain ⟨g, off, rfl, cx, cy⟩ := hcell
    obtain ⟨W1, B, W2, hW1, hB, hx1, m0, m1, m2, m3, hW2, hx2, hrow⟩ := pair_new wr 57 x y
    have t0 := hx1.cell_of cx
    have t1 := hx1.cell_of cy
    have hBb : Hid (B ≠ b) := by have := hW.out.lt; show _ ≠ _; omega
    have hlk := hrows.out k
    have hq : Hid (rowsL ((p.rs.take (k + 1)).map cReset) = rowsL ((p.rs.take k).map cReset) ++ rowL (cReset (x, y))) := rows_next hxy
    have hW2' : Hid (Wrt w0 W2 b p vr vl vh (l ++ rowsL ((p.rs.take k).map cReset))) := hW.out.on hx2
    have hSt2 : Hid (Stp b w W2) := hSt.out.trans (Stp.of hx2)
    have hE2 := hW2'.out.ext
    replace hE2 : Hid (Ext w0 W2) := hE2
    have hR : Hid (rowL (cReset (x, y)) = lineL (spL [[114, 101, 115, 101, 116], decDigits x.toNat, L2.rateL y])) := rfl
    replace hlen := show Hid ((spL [[114, 101, 115, 101, 116], decDigits x.toNat, L2.rateL y]).length ≤ 76) from hlen
    obtain ⟨L, hL⟩ : ∃ L, l ++ rowsL ((p.rs.take k).map cReset) = L := ⟨_, rfl⟩
    have hLl : L.length ≤ 80000 := by rw [← hL, List.length_append]; omega
    rw [hL] at hW2'
    replace hL := show Hid _ from hL
    replace hrow := show Hid _ from hrow
    replace hx2 := show Hid _ from hx2
    have hI := fun (W : World) (hx : Ext w0 W) => Itoa_w x (by omega) (by omega) W (he.out.two.ext hx)
    have hM := fun (W : World) (hx : Ext w0 W) => L2.rate_c y W (i64_ofP (by omega) (by omega)) (he.out.two.ext hx)
    replace hI := show Hid _ from hI
    replace hM := show Hid _ from hM
    generalize decDigits x.toNat = D at *
    generalize L2.rateL y = R at *
    clear hbd hlk hxy hW hSt
    go_upto_region 3 with fail
    clear cx cy t0 t1 m0 m1 m2 m3 hW1 hx1
    refine L8.wp_region_thrown (fun W => Ext w0 W ∧ W.cell? ⟨B, 0, none⟩ = some (.int .i64 x) ∧ W.cell? ⟨B, 1, none⟩ = some (.int .i64 y)) (fun a => False) [] (fun t => none) (fun x W => False) (by kernel_rfl) (fun _ _ _ h1 _ h3 => h3.elim) (⟨hE2.out.drew, (cell_of_row W2 B 0 _ _ _ hrow.out).trans rfl, (cell_of_row W2 B 1 _ _ _ hrow.out).trans rfl⟩) (fun hSt => ?_)
    obtain ⟨wz, hwz⟩ : ∃ W, W = W2.drew := ⟨_, rfl⟩
    rw [← hwz] at hSt ⊢
    have hxz : Hid (Ext W2 wz) := by rw [hwz]; exact (Ext.refl W2).drew
    clear hwz hW2
    refine L8.takeT 0 (oi := { dst := some 14, op := Op.move (Operand.tmp 0), type := 39, pos := "clauses.go:64", after := #[], guard := none }) (v := .pointer (some ⟨b, 0, none⟩)) rfl (by kernel_rfl) (by kernel_rfl) (by kernel_rfl) (by decide) (Or.inl ⟨by rfl, fun W hW => ?_⟩) hSt ?_
    · go_simp
    simp only [Act.put, List.setIfInBounds_toArray, List.set_cons_zero, List.set_cons_succ]
    refine L8.takeT 1 (oi := { dst := some 15, op := Op.fieldAddr 57 (Operand.tmp 3) 0, type := 0, pos := "clauses.go:64", after := #[], guard := none }) (v := .pointer (some ⟨B, 0, none⟩)) rfl (by kernel_rfl) (by kernel_rfl) (by kernel_rfl) (by decide) (Or.inl ⟨by rfl, fun W hW => ?_⟩) hSt ?_
    · go_simp
    simp only [Act.put, List.setIfInBounds_toArray, List.set_cons_zero, List.set_cons_succ]
    refine L8.takeT 2 (oi := { dst := some 16, op := Op.load 3 (Operand.tmp 15), type := 3, pos := "clauses.go:64", after := #[{ on := 1, ground := Ground.data }], guard := none }) (v := .int .i64 x) rfl (by kernel_rfl) (by kernel_rfl) (by kernel_rfl) (by decide) (Or.inl ⟨by rfl, fun W hW => ?_⟩) hSt ?_
    · have hWc := (show _ ∧ _ from hW).2.1
      go_simp
    simp only [Act.put, List.setIfInBounds_toArray, List.set_cons_zero, List.set_cons_succ]
    refine L8.takeT 4 (oi := { dst := some 18, op := Op.fieldAddr 57 (Operand.tmp 3) 1, type := 0, pos := "clauses.go:64", after := #[], guard := none }) (v := .pointer (some ⟨B, 1, none⟩)) rfl (by kernel_rfl) (by kernel_rfl) (by kernel_rfl) (by decide) (Or.inl ⟨by rfl, fun W hW => ?_⟩) hSt ?_
    · go_simp
    simp only [Act.put, List.setIfInBounds_toArray, List.set_cons_zero, List.set_cons_succ]
    refine L8.takeT 5 (oi := { dst := some 19, op := Op.load 2 (Operand.tmp 18), type := 2, pos := "clauses.go:64", after := #[{ on := 4, ground := Ground.data }], guard := none }) (v := .int .i64 y) rfl (by kernel_rfl) (by kernel_rfl) (by kernel_rfl) (by decide) (Or.inl ⟨by rfl, fun W hW => ?_⟩) hSt ?_
    · have hWc := (show _ ∧ _ from hW).2.2
      go_simp
    simp only [Act.put, List.setIfInBounds_toArray, List.set_cons_zero, List.set_cons_succ]
    refine wpAnyH_ready (rs := [3]) (by kernel_rfl) (by simp) ?_
    refine AllReadyH.cons (o := { dst := some 17, op := Op.call { callee := Callee.value (Operand.func 114), args := #[Operand.tmp 16], argTypes := #[3] }, type := 9, pos := "clauses.go:64", after := #[{ on := 2, ground := Ground.data }], guard := none }) rfl (fun K hK => ?_) AllReadyH.nil
    go_simp
    refine Calls.mono (hI.out _ hSt.1) ?_
    rintro e wm0 ⟨rfl, hxm⟩
    try dsimp only
    have hE0 : (fun W => Ext w0 W ∧ W.cell? ⟨B, 0, none⟩ = some (.int .i64 x) ∧ W.cell? ⟨B, 1, none⟩ = some (.int .i64 y)) wm0 := ⟨hSt.1.trans hxm, hxm.cell_of hSt.2.1, hxm.cell_of hSt.2.2⟩
    replace hxz : Hid (Ext W2 wm0) := hxz.out.trans hxm
    clear hxm
    refine hK.out _ _ hE0 ?_
    clear hK K
    intro _
    try simp only [Act.put, List.setIfInBounds_toArray, List.set_cons_zero, List.set_cons_succ]
    refine wpAnyH_ready (rs := [6]) (by kernel_rfl) (by simp) ?_
    refine AllReadyH.cons (o := { dst := some 20, op := Op.call { callee := Callee.value (Operand.func 115), args := #[Operand.tmp 19], argTypes := #[2] }, type := 9, pos := "clauses.go:64", after := #[{ on := 5, ground := Ground.data }, { on := 3, ground := Ground.chain }], guard := none }) rfl (fun K hK => ?_) AllReadyH.nil
    go_simp
    refine Calls.mono (hM.out _ hE0.1) ?_
    rintro e wm1 ⟨rfl, hxm⟩
    try dsimp only
    have hE1 : (fun W => Ext w0 W ∧ W.cell? ⟨B, 0, none⟩ = some (.int .i64 x) ∧ W.cell? ⟨B, 1, none⟩ = some (.int .i64 y)) wm1 := ⟨hE0.1.trans hxm, hxm.cell_of hE0.2.1, hxm.cell_of hE0.2.2⟩
    replace hxz : Hid (Ext W2 wm1) := hxz.out.trans hxm
    clear hxm
    refine hK.out _ _ hE1 ?_
    clear hK K
    intro _
    try simp only [Act.put, List.setIfInBounds_toArray, List.set_cons_zero, List.set_cons_succ]
    refine wpAnyH_ready (rs := [7]) (by kernel_rfl) (by simp) ?_
    refine AllReadyH.cons (o := { dst := some 21, op := Op.buildSlice 81 3 #[(0, Operand.const (Value.string { data := #[114, 101, 115, 101, 116] })), (1, Operand.tmp 17), (2, Operand.tmp 20)], type := 81, pos := "clauses.go:64", after := #[{ on := 3, ground := Ground.data }, { on := 6, ground := Ground.data }], guard := none }) rfl (fun K hK => ?_) AllReadyH.nil
    obtain ⟨V, dd, hV, hdd, hxv, hSS, hdl⟩ := lay3w wm1 [114, 101, 115, 101, 116] D R
    go_simp
    have hE2 : (fun W => Ext w0 W ∧ W.cell? ⟨B, 0, none⟩ = some (.int .i64 x) ∧ W.cell? ⟨B, 1, none⟩ = some (.int .i64 y)) V := ⟨hE1.1.trans hxv, hxv.cell_of hE1.2.1, hxv.cell_of hE1.2.2⟩
    replace hxz : Hid (Ext W2 V) := hxz.out.trans hxv
    refine hK.out _ _ hE2 ?_
    clear hK K
    intro _
    try simp only [Act.put, List.setIfInBounds_toArray, List.set_cons_zero, List.set_cons_succ]
    refine wpAnyH_ready (rs := [8]) (by kernel_rfl) (by simp) ?_
    refine AllReadyH.cons (o := { dst := some 22, op := Op.call { callee := Callee.value (Operand.func 113), args := #[Operand.tmp 14, Operand.tmp 21], argTypes := #[39, 81] }, type := 0, pos := "clauses.go:64", after := #[{ on := 0, ground := Ground.data }, { on := 7, ground := Ground.data }, { on := 6, ground := Ground.chain }], guard := none }) rfl (fun K hK => ?_) AllReadyH.nil
    go_simp
    refine Calls.mono (line_w w0 V b p vr vl vh L [[114, 101, 115, 101, 116], D, R] dd 3 3 (hW2'.out.on hxz.out) hSS hdl rfl (by decide) (by decide) (by omega) (by have := hlen.out; omega)) ?_
    rintro e wn ⟨rfl, hWn, hSn⟩
    try dsimp only
    have hE3 : (fun W => Ext w0 W ∧ W.cell? ⟨B, 0, none⟩ = some (.int .i64 x) ∧ W.cell? ⟨B, 1, none⟩ = some (.int .i64 y)) wn := ⟨hWn.ext, (hSn.cell (by decide) hBb.out ((hxz.out.below.block B (Array.getElem?_eq_some_iff.1 hrow.out).1).trans hrow.out)).trans rfl, (hSn.cell (by decide) hBb.out ((hxz.out.below.block B (Array.getElem?_eq_some_iff.1 hrow.out).1).trans hrow.out)).trans rfl⟩
    refine hK.out _ _ hE3 ?_
    clear hK K
    intro _
    try simp only [Act.put, List.setIfInBounds_toArray, List.set_cons_zero, List.set_cons_succ]
    refine wpAnyH_done (by kernel_rfl) (L8.ThrowQ.normal ?_) _
    have hfin := show Hid _ from hWn
    have hst := show Hid _ from (hSt2.out.trans (Stp.of hxz.out)).trans hSn
    clear hE3 hWn hSn hSS hdl hE0 hE1 hE2 hxv hdd hV
    go_wp2
    go_roundw
    case rel => exact ⟨k + 1, by omega, by go_num, by show Wrt _ _ _ _ _ _ _ _; rw [hq.out, hR.out, ← List.append_assoc, hL.out]; exact hfin.out, hst⟩
    case measure => simp [RowKit.intOf]; omega
  · obtain rfl : k = n := by omega
    have hfin : Hid (Wrt w0 wr b p vr vl vh (l ++ rowsL (grpC p 8))) := by
      show Wrt _ _ _ _ _ _ _ _
      have := hW.out
      rwa [List.take_of_length_le (by rw [hn.out]; exact Nat.le_refl _)] at this
    clear hW
    go_wp2
    go_end0
    exact ⟨rfl, hfin.out, hSt.out⟩
set_option maxRecDepth 100000 in
set_option maxHeartbeats 2000000 in
theorem late_w (w0 w : World) (b : Nat) (p : Prd) (vr vl vh : Value) (l : List UInt8) (hK : Okf p) (he : Hid (Pnv w0)) (h : Wrt w0 w b p vr vl vh l) (hl : l.length ≤ 50000) (sr : L8.Slp w0 vl p.lt) :
    Calls Tryz.prog 79 #[.pointer (some ⟨b, 0, none⟩)] w fun e w' => Wrote w0 w w' b p vr vl vh l 11 e := by
  obtain ⟨ar, cr, hvr⟩ := sr.len
  have ck := h.cell (k := 15) (by decide) (show _ = some (.slice ar p.lt.length cr) from by rw [← hvr]; rfl)
  have hrl := hK.ll
  have hC : ∀ x ∈ p.lt, Cls (cLate x) := fun x hx => cls_late (hK.lt x hx)
  have hrows := rows_some hC
  obtain ⟨n, hn⟩ : ∃ n, p.lt.length = n := ⟨_, rfl⟩
  rw [hn] at ck hrl hrows
  replace hn := show Hid _ from hn
  have h0 : Hid (Wrt w0 w b p vr vl vh (l ++ rowsL ((p.lt.take 0).map cLate))) := by show Wrt _ _ _ _ _ _ _ _; simpa [rowsL] using h
  replace sr := show Hid _ from sr
  replace hvr := show Hid _ from hvr
  replace hC := show Hid _ from hC
  replace hrows := show Hid _ from hrows
  have hb := show Hid _ from h.lt
  clear h
  go_enter Tryz.func79, Tryz.ntmps79
  go_wp2_with fail
  go_loopw [10] (fun i wr => ∃ k : Nat, k ≤ n ∧ i = .int .i64 k ∧ Hid (Wrt w0 wr b p vr vl vh (l ++ rowsL ((p.lt.take k).map cLate))) ∧ Hid (Stp b w wr)) (fun i _ => n - (RowKit.intOf i).toNat)
  case atStart => exact ⟨0, Nat.zero_le _, rfl, h0, Stp.refl b w⟩
  case round =>
  clear h0 ck
  obtain ⟨k, hk, rfl, hW, hSt⟩ := hrel
  by_cases hlt : k < n
  · have hki : (k : Int) < (n : Int) := by omega
    have hk0 : (0 : Int) ≤ (k : Int) := by omega
    obtain ⟨⟨x, y⟩, hxy⟩ : ∃ z, p.lt[k]? = some z := ⟨_, List.getElem?_eq_getElem (by have := hn.out; omega)⟩
    have hbd := hK.lt (x, y) (List.mem_of_getElem? hxy)
    simp only [] at hbd
    have hlen := (hC.out (x, y) (List.mem_of_getElem? hxy)).len
    have hcell : ∃ g off, ar = some ⟨g, off, none⟩ ∧ wr.cell? ⟨g, off + k * 2, none⟩ = some (.int .i64 x) ∧ wr.cell? ⟨g, off + k * 2 + 1, none⟩ = some (.int .i64 y) := by
      rcases sr.out with ⟨_, _, _, _, hz⟩ | ⟨g, off, c, hv, hc⟩
      · have := hn.out; rw [hz] at this; simp at this; omega
      · have hv2 := hv.symm.trans hvr.out
        simp only [Value.slice.injEq] at hv2
        exact ⟨g, off, hv2.1.symm, hW.out.ext.cell_of (hc k _ _ hxy).1, hW.out.ext.cell_of (hc k _ _ hxy).2⟩
    obtain ⟨g, off, rfl, cx, cy⟩ := hcell
    obtain ⟨W1, B, W2, hW1, hB, hx1, m0, m1, m2, m3, hW2, hx2, hrow⟩ := pair_new wr 60 x y
    have t0 := hx1.cell_of cx
    have t1 := hx1.cell_of cy
    have hBb : Hid (B ≠ b) := by have := hW.out.lt; show _ ≠ _; omega
    have hlk := hrows.out k
    have hq : Hid (rowsL ((p.lt.take (k + 1)).map cLate) = rowsL ((p.lt.take k).map cLate) ++ rowL (cLate (x, y))) := rows_next hxy
    have hW2' : Hid (Wrt w0 W2 b p vr vl vh (l ++ rowsL ((p.lt.take k).map cLate))) := hW.out.on hx2
    have hSt2 : Hid (Stp b w W2) := hSt.out.trans (Stp.of hx2)
    have hE2 := hW2'.out.ext
    replace hE2 : Hid (Ext w0 W2) := hE2
    have hR : Hid (rowL (cLate (x, y)) = lineL (spL [[108, 97, 116, 101], decDigits x.toNat, L2.moneyL y])) := rfl
    replace hlen := show Hid ((spL [[108, 97, 116, 101], decDigits x.toNat, L2.moneyL y]).length ≤ 76) from hlen
    obtain ⟨L, hL⟩ : ∃ L, l ++ rowsL ((p.lt.take k).map cLate) = L := ⟨_, rfl⟩
    have hLl : L.length ≤ 80000 := by rw [← hL, List.length_append]; omega
    rw [hL] at hW2'
    replace hL := show Hid _ from hL
    replace hrow := show Hid _ from hrow
    replace hx2 := show Hid _ from hx2
    have hI := fun (W : World) (hx : Ext w0 W) => Itoa_w x (by omega) (by omega) W (he.out.two.ext hx)
    have hM := fun (W : World) (hx : Ext w0 W) => L2.money_c y W (i64_ofP (by omega) (by omega)) (he.out.two.ext hx)
    replace hI := show Hid _ from hI
    replace hM := show Hid _ from hM
    generalize decDigits x.toNat = D at *
    generalize L2.moneyL y = R at *
    clear hbd hlk hxy hW hSt
    go_upto_region 3 with fail
    clear cx cy t0 t1 m0 m1 m2 m3 hW1 hx1
    refine L8.wp_region_thrown (fun W => Ext w0 W ∧ W.cell? ⟨B, 0, none⟩ = some (.int .i64 x) ∧ W.cell? ⟨B, 1, none⟩ = some (.int .i64 y)) (fun a => False) [] (fun t => none) (fun x W => False) (by kernel_rfl) (fun _ _ _ h1 _ h3 => h3.elim) (⟨hE2.out.drew, (cell_of_row W2 B 0 _ _ _ hrow.out).trans rfl, (cell_of_row W2 B 1 _ _ _ hrow.out).trans rfl⟩) (fun hSt => ?_)
    obtain ⟨wz, hwz⟩ : ∃ W, W = W2.drew := ⟨_, rfl⟩
    rw [← hwz] at hSt ⊢
    have hxz : Hid (Ext W2 wz) := by rw [hwz]; exact (Ext.refl W2).drew
    clear hwz hW2
    refine L8.takeT 0 (oi := { dst := some 14, op := Op.move (Operand.tmp 0), type := 39, pos := "clauses.go:79", after := #[], guard := none }) (v := .pointer (some ⟨b, 0, none⟩)) rfl (by kernel_rfl) (by kernel_rfl) (by kernel_rfl) (by decide) (Or.inl ⟨by rfl, fun W hW => ?_⟩) hSt ?_
    · go_simp
    simp only [Act.put, List.setIfInBounds_toArray, List.set_cons_zero, List.set_cons_succ]
    refine L8.takeT 1 (oi := { dst := some 15, op := Op.fieldAddr 60 (Operand.tmp 3) 0, type := 0, pos := "clauses.go:79", after := #[], guard := none }) (v := .pointer (some ⟨B, 0, none⟩)) rfl (by kernel_rfl) (by kernel_rfl) (by kernel_rfl) (by decide) (Or.inl ⟨by rfl, fun W hW => ?_⟩) hSt ?_
    · go_simp
    simp only [Act.put, List.setIfInBounds_toArray, List.set_cons_zero, List.set_cons_succ]
    refine L8.takeT 2 (oi := { dst := some 16, op := Op.load 3 (Operand.tmp 15), type := 3, pos := "clauses.go:79", after := #[{ on := 1, ground := Ground.data }], guard := none }) (v := .int .i64 x) rfl (by kernel_rfl) (by kernel_rfl) (by kernel_rfl) (by decide) (Or.inl ⟨by rfl, fun W hW => ?_⟩) hSt ?_
    · have hWc := (show _ ∧ _ from hW).2.1
      go_simp
    simp only [Act.put, List.setIfInBounds_toArray, List.set_cons_zero, List.set_cons_succ]
    refine L8.takeT 4 (oi := { dst := some 18, op := Op.fieldAddr 60 (Operand.tmp 3) 1, type := 0, pos := "clauses.go:79", after := #[], guard := none }) (v := .pointer (some ⟨B, 1, none⟩)) rfl (by kernel_rfl) (by kernel_rfl) (by kernel_rfl) (by decide) (Or.inl ⟨by rfl, fun W hW => ?_⟩) hSt ?_
    · go_simp
    simp only [Act.put, List.setIfInBounds_toArray, List.set_cons_zero, List.set_cons_succ]
    refine L8.takeT 5 (oi := { dst := some 19, op := Op.load 2 (Operand.tmp 18), type := 2, pos := "clauses.go:79", after := #[{ on := 4, ground := Ground.data }], guard := none }) (v := .int .i64 y) rfl (by kernel_rfl) (by kernel_rfl) (by kernel_rfl) (by decide) (Or.inl ⟨by rfl, fun W hW => ?_⟩) hSt ?_
    · have hWc := (show _ ∧ _ from hW).2.2
      go_simp
    simp only [Act.put, List.setIfInBounds_toArray, List.set_cons_zero, List.set_cons_succ]
    refine wpAnyH_ready (rs := [3]) (by kernel_rfl) (by simp) ?_
    refine AllReadyH.cons (o := { dst := some 17, op := Op.call { callee := Callee.value (Operand.func 114), args := #[Operand.tmp 16], argTypes := #[3] }, type := 9, pos := "clauses.go:79", after := #[{ on := 2, ground := Ground.data }], guard := none }) rfl (fun K hK => ?_) AllReadyH.nil
    go_simp
    refine Calls.mono (hI.out _ hSt.1) ?_
    rintro e wm0 ⟨rfl, hxm⟩
    try dsimp only
    have hE0 : (fun W => Ext w0 W ∧ W.cell? ⟨B, 0, none⟩ = some (.int .i64 x) ∧ W.cell? ⟨B, 1, none⟩ = some (.int .i64 y)) wm0 := ⟨hSt.1.trans hxm, hxm.cell_of hSt.2.1, hxm.cell_of hSt.2.2⟩
    replace hxz : Hid (Ext W2 wm0) := hxz.out.trans hxm
    clear hxm
    refine hK.out _ _ hE0 ?_
    clear hK K
    intro _
    try simp only [Act.put, List.setIfInBounds_toArray, List.set_cons_zero, List.set_cons_succ]
    refine wpAnyH_ready (rs := [6]) (by kernel_rfl) (by simp) ?_
    refine AllReadyH.cons (o := { dst := some 20, op := Op.call { callee := Callee.value (Operand.func 116), args := #[Operand.tmp 19], argTypes := #[2] }, type := 9, pos := "clauses.go:79", after := #[{ on := 5, ground := Ground.data }, { on := 3, ground := Ground.chain }], guard := none }) rfl (fun K hK => ?_) AllReadyH.nil
    go_simp
    refine Calls.mono (hM.out _ hE0.1) ?_
    rintro e wm1 ⟨rfl, hxm⟩
    try dsimp only
    have hE1 : (fun W => Ext w0 W ∧ W.cell? ⟨B, 0, none⟩ = some (.int .i64 x) ∧ W.cell? ⟨B, 1, none⟩ = some (.int .i64 y)) wm1 := ⟨hE0.1.trans hxm, hxm.cell_of hE0.2.1, hxm.cell_of hE0.2.2⟩
    replace hxz : Hid (Ext W2 wm1) := hxz.out.trans hxm
    clear hxm
    refine hK.out _ _ hE1 ?_
    clear hK K
    intro _
    try simp only [Act.put, List.setIfInBounds_toArray, List.set_cons_zero, List.set_cons_succ]
    refine wpAnyH_ready (rs := [7]) (by kernel_rfl) (by simp) ?_
    refine AllReadyH.cons (o := { dst := some 21, op := Op.buildSlice 81 3 #[(0, Operand.const (Value.string { data := #[108, 97, 116, 101] })), (1, Operand.tmp 17), (2, Operand.tmp 20)], type := 81, pos := "clauses.go:79", after := #[{ on := 3, ground := Ground.data }, { on := 6, ground := Ground.data }], guard := none }) rfl (fun K hK => ?_) AllReadyH.nil
    obtain ⟨V, dd, hV, hdd, hxv, hSS, hdl⟩ := lay3w wm1 [108, 97, 116, 101] D R
    go_simp
    have hE2 : (fun W => Ext w0 W ∧ W.cell? ⟨B, 0, none⟩ = some (.int .i64 x) ∧ W.cell? ⟨B, 1, none⟩ = some (.int .i64 y)) V := ⟨hE1.1.trans hxv, hxv.cell_of hE1.2.1, hxv.cell_of hE1.2.2⟩
    replace hxz : Hid (Ext W2 V) := hxz.out.trans hxv
    refine hK.out _ _ hE2 ?_
    clear hK K
    intro _
    try simp only [Act.put, List.setIfInBounds_toArray, List.set_cons_zero, List.set_cons_succ]
    refine wpAnyH_ready (rs := [8]) (by kernel_rfl) (by simp) ?_
    refine AllReadyH.cons (o := { dst := some 22, op := Op.call { callee := Callee.value (Operand.func 113), args := #[Operand.tmp 14, Operand.tmp 21], argTypes := #[39, 81] }, type := 0, pos := "clauses.go:79", after := #[{ on := 0, ground := Ground.data }, { on := 7, ground := Ground.data }, { on := 6, ground := Ground.chain }], guard := none }) rfl (fun K hK => ?_) AllReadyH.nil
    go_simp
    refine Calls.mono (line_w w0 V b p vr vl vh L [[108, 97, 116, 101], D, R] dd 3 3 (hW2'.out.on hxz.out) hSS hdl rfl (by decide) (by decide) (by omega) (by have := hlen.out; omega)) ?_
    rintro e wn ⟨rfl, hWn, hSn⟩
    try dsimp only
    have hE3 : (fun W => Ext w0 W ∧ W.cell? ⟨B, 0, none⟩ = some (.int .i64 x) ∧ W.cell? ⟨B, 1, none⟩ = some (.int .i64 y)) wn := ⟨hWn.ext, (hSn.cell (by decide) hBb.out ((hxz.out.below.block B (Array.getElem?_eq_some_iff.1 hrow.out).1).trans hrow.out)).trans rfl, (hSn.cell (by decide) hBb.out ((hxz.out.below.block B (Array.getElem?_eq_some_iff.1 hrow.out).1).trans hrow.out)).trans rfl⟩
    refine hK.out _ _ hE3 ?_
    clear hK K
    intro _
    try simp only [Act.put, List.setIfInBounds_toArray, List.set_cons_zero, List.set_cons_succ]
    refine wpAnyH_done (by kernel_rfl) (L8.ThrowQ.normal ?_) _
    have hfin := show Hid _ from hWn
    have hst := show Hid _ from (hSt2.out.trans (Stp.of hxz.out)).trans hSn
    clear hE3 hWn hSn hSS hdl hE0 hE1 hE2 hxv hdd hV
    go_wp2
    go_roundw
    case rel => exact ⟨k + 1, by omega, by go_num, by show Wrt _ _ _ _ _ _ _ _; rw [hq.out, hR.out, ← List.append_assoc, hL.out]; exact hfin.out, hst⟩
    case measure => simp [RowKit.intOf]; omega
  · obtain rfl : k = n := by omega
    have hfin : Hid (Wrt w0 wr b p vr vl vh (l ++ rowsL (grpC p 11))) := by
      show Wrt _ _ _ _ _ _ _ _
      have := hW.out
      rwa [List.take_of_length_le (by rw [hn.out]; exact Nat.le_refl _)] at this
    clear hW
    go_wp2
    go_end0
    exact ⟨rfl, hfin.out, hSt.out⟩
set_option maxRecDepth 100000 in
set_option maxHeartbeats 2000000 in
theorem holidays_w (w0 w : World) (b : Nat) (p : Prd) (vr vl vh : Value) (l : List UInt8) (hK : Okf p) (he : Hid (Pnv w0)) (h : Wrt w0 w b p vr vl vh l) (hl : l.length ≤ 50000) (sh : L8.Slc w0 vh p.hd) :
    Calls Tryz.prog 82 #[.pointer (some ⟨b, 0, none⟩)] w fun e w' => Wrote w0 w w' b p vr vl vh l 14 e := by
  obtain ⟨ar, cr, hvr⟩ := sh.len
  have ck := h.cell (k := 18) (by decide) (show _ = some (.slice ar p.hd.length cr) from by rw [← hvr]; rfl)
  have hrl := hK.hl
  have hC : ∀ x ∈ p.hd, Cls (cHol x) := fun x hx => cls_hol (hK.hd x hx)
  have hrows := rows_some hC
  obtain ⟨n, hn⟩ : ∃ n, p.hd.length = n := ⟨_, rfl⟩
  rw [hn] at ck hrl hrows
  replace hn := show Hid _ from hn
  have h0 : Hid (Wrt w0 w b p vr vl vh (l ++ rowsL ((p.hd.take 0).map cHol))) := by show Wrt _ _ _ _ _ _ _ _; simpa [rowsL] using h
  replace sh := show Hid _ from sh
  replace hvr := show Hid _ from hvr
  replace hC := show Hid _ from hC
  replace hrows := show Hid _ from hrows
  clear h
  go_enter Tryz.func82, Tryz.ntmps82
  go_wp2_with fail
  go_loopw [12] (fun i wr => ∃ k : Nat, k ≤ n ∧ i = .int .i64 k ∧ Hid (Wrt w0 wr b p vr vl vh (l ++ rowsL ((p.hd.take k).map cHol))) ∧ Hid (Stp b w wr)) (fun i _ => n - (RowKit.intOf i).toNat)
  case atStart => exact ⟨0, Nat.zero_le _, rfl, h0, Stp.refl b w⟩
  case round =>
  clear h0 ck
  obtain ⟨k, hk, rfl, hW, hSt⟩ := hrel
  by_cases hlt : k < n
  · have hki : (k : Int) < (n : Int) := by omega
    have hk0 : (0 : Int) ≤ (k : Int) := by omega
    obtain ⟨x, hxy⟩ : ∃ z, p.hd[k]? = some z := ⟨_, List.getElem?_eq_getElem (by have := hn.out; omega)⟩
    have hbd := hK.hd x (List.mem_of_getElem? hxy)
    have hlen := (hC.out x (List.mem_of_getElem? hxy)).len
    have hcell : ∃ g off, ar = some ⟨g, off, none⟩ ∧ wr.cell? ⟨g, off + k, none⟩ = some (.int .i64 x) := by
      rcases sh.out with ⟨_, _, _, _, hz⟩ | ⟨g, off, c, hv, hc⟩
      · have := hn.out; rw [hz] at this; simp at this; omega
      · have hv2 := hv.symm.trans hvr.out
        simp only [Value.slice.injEq] at hv2
        exact ⟨g, off, hv2.1.symm, hW.out.ext.cell_of (hc k _ hxy)⟩
    obtain ⟨g, off, rfl, cx⟩ := hcell
    have hlk := hrows.out k
    have hq : Hid (rowsL ((p.hd.take (k + 1)).map cHol) = rowsL ((p.hd.take k).map cHol) ++ rowL (cHol x)) := rows_next hxy
    have hR : Hid (rowL (cHol x) = lineL (spL [[104, 111, 108, 105, 100, 97, 121], dayL x])) := rfl
    replace hlen := show Hid ((spL [[104, 111, 108, 105, 100, 97, 121], dayL x]).length ≤ 76) from hlen
    obtain ⟨L, hL⟩ : ∃ L, l ++ rowsL ((p.hd.take k).map cHol) = L := ⟨_, rfl⟩
    have hLl : L.length ≤ 80000 := by rw [← hL, List.length_append]; omega
    rw [hL] at hW
    replace hL := show Hid _ from hL
    have hX := show Hid _ from hW.out.ext
    have hT := show Hid _ from Text_w x wr (by omega) (by omega) (he.out.three.ext hX.out)
    generalize dayL x = D at *
    clear hbd hlk hxy hX
    go_wp2_with fail
    refine Calls.mono hT.out ?_
    rintro e w1 ⟨rfl, hx1⟩
    clear hT
    replace hW : Hid (Wrt w0 w1 b p vr vl vh L) := hW.out.on hx1
    replace hSt : Hid (Stp b w w1) := hSt.out.trans (Stp.of hx1)
    clear cx hx1
    obtain ⟨W3, d, hW3, hd, hx3, hS3, hd3⟩ := lay2s w1 [104, 111, 108, 105, 100, 97, 121] D
    replace hW : Hid (Wrt w0 W3 b p vr vl vh L) := hW.out.on hx3
    replace hSt : Hid (Stp b w W3) := hSt.out.trans (Stp.of hx3)
    replace hS3 := show Hid _ from hS3
    replace hd3 := show Hid _ from hd3
    clear hx3
    go_wp2_with fail
    refine Calls.mono (line_w w0 W3 b p vr vl vh L [[104, 111, 108, 105, 100, 97, 121], D] d 2 2 hW.out hS3.out hd3.out rfl (by decide) (by decide) (by omega) (by have := hlen.out; omega)) ?_
    rintro e w4 ⟨rfl, hW4, hS4⟩
    clear hW hS3 hd3
    replace hSt : Hid (Stp b w w4) := hSt.out.trans hS4
    replace hW4 := show Hid _ from hW4
    clear hS4
    go_wp2
    go_roundw
    case rel => exact ⟨k + 1, by omega, by go_num, by show Wrt _ _ _ _ _ _ _ _; rw [hq.out, hR.out, ← List.append_assoc, hL.out]; exact hW4.out, hSt⟩
    case measure => simp [RowKit.intOf]; omega
  · obtain rfl : k = n := by omega
    have hfin : Hid (Wrt w0 wr b p vr vl vh (l ++ rowsL (grpC p 14))) := by
      show Wrt _ _ _ _ _ _ _ _
      have := hW.out
      rwa [List.take_of_length_le (by rw [hn.out]; exact Nat.le_refl _)] at this
    clear hW
    go_wp2
    go_end0
    exact ⟨rfl, hfin.out, hSt.out⟩
end Go.Proofs.YtbnpaeejlfaboaaGreatDoor

namespace Go.Proofs.YtbnpaeejlfaboaaGreatDoor
open Go.RowKit Go.Lib
set_option linter.unusedVariables false
set_option maxRecDepth 100000 in
set_option maxHeartbeats 2000000 in
theorem order_w (w0 w : World) (b : Nat) (p : Prd) (vr vl vh : Value) (l : List UInt8) (hK : Okf p) (he : Hid (Pnv w0)) (h : Wrt w0 w b p vr vl vh l) (hl : l.length ≤ 50000) (h7 : L8.r7B p.o0 p.o1 p.o2 p.o3 = true) :
    Calls Tryz.prog 77 #[.pointer (some ⟨b, 0, none⟩)] w fun e w' => Wrote w0 w w' b p vr vl vh l 9 e := by
  have hlen := (cls_order hK h7).len
  obtain ⟨m0, hm0, a0, b0⟩ : ∃ m : Nat, p.o0 = (m : Int) ∧ 1 ≤ m ∧ m ≤ 4 := ⟨p.o0.toNat, by have := hK.o0; omega, by have := hK.o0; omega, by have := hK.o0; omega⟩
  have ck0 := h.cell (k := 10) (by decide) (show _ = some (.int .i64 (m0 : Int)) from by rw [← hm0]; rfl)
  obtain ⟨q0, hq0⟩ : ∃ q, nthL txOrder p.o0 = q := ⟨_, rfl⟩
  have ht0 : Hid (([] :: txOrder)[m0]? = some q0) := by show _ = _; rw [← hq0, hm0]; exact tab_nth a0 b0
  have mI0 : (m0 : Int) < 5 := by omega
  have mZ0 : (0 : Int) ≤ (m0 : Int) := by omega
  obtain ⟨m1, hm1, a1, b1⟩ : ∃ m : Nat, p.o1 = (m : Int) ∧ 1 ≤ m ∧ m ≤ 4 := ⟨p.o1.toNat, by have := hK.o1; omega, by have := hK.o1; omega, by have := hK.o1; omega⟩
  have ck1 := h.cell (k := 11) (by decide) (show _ = some (.int .i64 (m1 : Int)) from by rw [← hm1]; rfl)
  obtain ⟨q1, hq1⟩ : ∃ q, nthL txOrder p.o1 = q := ⟨_, rfl⟩
  have ht1 : Hid (([] :: txOrder)[m1]? = some q1) := by show _ = _; rw [← hq1, hm1]; exact tab_nth a1 b1
  have mI1 : (m1 : Int) < 5 := by omega
  have mZ1 : (0 : Int) ≤ (m1 : Int) := by omega
  obtain ⟨m2, hm2, a2, b2⟩ : ∃ m : Nat, p.o2 = (m : Int) ∧ 1 ≤ m ∧ m ≤ 4 := ⟨p.o2.toNat, by have := hK.o2; omega, by have := hK.o2; omega, by have := hK.o2; omega⟩
  have ck2 := h.cell (k := 12) (by decide) (show _ = some (.int .i64 (m2 : Int)) from by rw [← hm2]; rfl)
  obtain ⟨q2, hq2⟩ : ∃ q, nthL txOrder p.o2 = q := ⟨_, rfl⟩
  have ht2 : Hid (([] :: txOrder)[m2]? = some q2) := by show _ = _; rw [← hq2, hm2]; exact tab_nth a2 b2
  have mI2 : (m2 : Int) < 5 := by omega
  have mZ2 : (0 : Int) ≤ (m2 : Int) := by omega
  obtain ⟨m3, hm3, a3, b3⟩ : ∃ m : Nat, p.o3 = (m : Int) ∧ 1 ≤ m ∧ m ≤ 4 := ⟨p.o3.toNat, by have := hK.o3; omega, by have := hK.o3; omega, by have := hK.o3; omega⟩
  have ck3 := h.cell (k := 13) (by decide) (show _ = some (.int .i64 (m3 : Int)) from by rw [← hm3]; rfl)
  obtain ⟨q3, hq3⟩ : ∃ q, nthL txOrder p.o3 = q := ⟨_, rfl⟩
  have ht3 : Hid (([] :: txOrder)[m3]? = some q3) := by show _ = _; rw [← hq3, hm3]; exact tab_nth a3 b3
  have mI3 : (m3 : Int) < 5 := by omega
  have mZ3 : (0 : Int) ≤ (m3 : Int) := by omega
  replace hlen : Hid ((spL [[111, 114, 100, 101, 114], q0, q1, q2, q3]).length ≤ 76) := by
    show _ ≤ _
    have := hlen
    unfold cOrder at this
    rw [hq0, hq1, hq2, hq3] at this
    exact this
  have hG : Hid (grpC p 9 = [cOrder p] ∧ (cOrder p).ws = [[111, 114, 100, 101, 114], q0, q1, q2, q3]) := ⟨rfl, by unfold cOrder; rw [hq0, hq1, hq2, hq3]⟩
  obtain ⟨W2, B, hW2, hB, hx2, hrow⟩ : ∃ W B, w.alloc (.cells #[.int .i64 (m0 : Int), .int .i64 (m1 : Int), .int .i64 (m2 : Int), .int .i64 (m3 : Int)] 23) = W ∧ w.heap.size = B ∧ Ext w W ∧ W.heap[B]? = some (Obj.cells #[.int .i64 (m0 : Int), .int .i64 (m1 : Int), .int .i64 (m2 : Int), .int .i64 (m3 : Int)] 23 (0, 0)) := ⟨_, _, rfl, rfl, (Ext.refl w).alloc _ _, heap_alloc_last w _⟩
  have hBb : Hid (B ≠ b) := by have := h.lt; show _ ≠ _; omega
  have hW2' : Hid (Wrt w0 W2 b p vr vl vh l) := h.on hx2
  have hE2 : Hid (Ext w0 W2) := h.ext.trans hx2
  replace hrow := show Hid _ from hrow
  replace hx2 := show Hid _ from hx2
  clear h hm0 hm1 hm2 hm3 hq0 hq1 hq2 hq3 a0 a1 a2 a3 b0 b1 b2 b3
  go_enter Tryz.func77, Tryz.ntmps77
  go_upto_region 1 with fail
  clear ck0 ck1 ck2 ck3
  refine L8.wp_region_thrown (fun W => Ext w0 W ∧ W.cell? ⟨B, 0, none⟩ = some (.int .i64 (m0 : Int)) ∧ W.cell? ⟨B, 1, none⟩ = some (.int .i64 (m1 : Int)) ∧ W.cell? ⟨B, 2, none⟩ = some (.int .i64 (m2 : Int)) ∧ W.cell? ⟨B, 3, none⟩ = some (.int .i64 (m3 : Int))) (fun a => False) [] (fun t => none) (fun x W => False) (by kernel_rfl) (fun _ _ _ h1 _ h3 => h3.elim) (⟨hE2.out.drew, (cell_of_row W2 B 0 _ _ _ hrow.out).trans rfl, (cell_of_row W2 B 1 _ _ _ hrow.out).trans rfl, (cell_of_row W2 B 2 _ _ _ hrow.out).trans rfl, (cell_of_row W2 B 3 _ _ _ hrow.out).trans rfl⟩) (fun hSt => ?_)
  obtain ⟨wz, hwz⟩ : ∃ W, W = W2.drew := ⟨_, rfl⟩
  rw [← hwz] at hSt ⊢
  have hxz : Hid (Ext W2 wz) := by rw [hwz]; exact (Ext.refl W2).drew
  clear hwz hW2
  refine L8.takeT 0 (oi := { dst := some 8, op := Op.move (Operand.tmp 0), type := 39, pos := "clauses.go:70", after := #[], guard := none }) (v := .pointer (some ⟨b, 0, none⟩)) rfl (by kernel_rfl) (by kernel_rfl) (by kernel_rfl) (by decide) (Or.inl ⟨by rfl, fun W hW => ?_⟩) hSt ?_
  · go_simp
  simp only [Act.put, List.setIfInBounds_toArray, List.set_cons_zero, List.set_cons_succ]
  refine L8.takeT 1 (oi := { dst := some 9, op := Op.indexAddr 23 (Operand.tmp 2) (Operand.const (Value.int IntKind.i64 0)), type := 0, pos := "clauses.go:70", after := #[], guard := none }) (v := .pointer (some ⟨B, 0, none⟩)) rfl (by kernel_rfl) (by kernel_rfl) (by kernel_rfl) (by decide) (Or.inl ⟨by rfl, fun W hW => ?_⟩) hSt ?_
  · go_simp
  simp only [Act.put, List.setIfInBounds_toArray, List.set_cons_zero, List.set_cons_succ]
  refine L8.takeT 2 (oi := { dst := some 10, op := Op.load 3 (Operand.tmp 9), type := 3, pos := "clauses.go:70", after := #[{ on := 1, ground := Ground.data }], guard := none }) (v := .int .i64 (m0 : Int)) rfl (by kernel_rfl) (by kernel_rfl) (by kernel_rfl) (by decide) (Or.inl ⟨by rfl, fun W hW => ?_⟩) hSt ?_
  · have hWc := (show _ ∧ _ from hW).2.1
    go_simp
  simp only [Act.put, List.setIfInBounds_toArray, List.set_cons_zero, List.set_cons_succ]
  refine L8.takeT 3 (oi := { dst := some 11, op := Op.indexAddr 129 (Operand.global 3) (Operand.tmp 10), type := 0, pos := "clauses.go:70", after := #[{ on := 2, ground := Ground.data }], guard := none }) (v := .pointer (some ⟨3, m0, none⟩)) rfl (by kernel_rfl) (by kernel_rfl) (by kernel_rfl) (by decide) (Or.inl ⟨by rfl, fun W hW => ?_⟩) hSt ?_
  · go_simp
  simp only [Act.put, List.setIfInBounds_toArray, List.set_cons_zero, List.set_cons_succ]
  refine L8.takeT 4 (oi := { dst := some 12, op := Op.load 9 (Operand.tmp 11), type := 9, pos := "clauses.go:70", after := #[{ on := 3, ground := Ground.data }], guard := none }) (v := .string ⟨q0.toArray⟩) rfl (by kernel_rfl) (by kernel_rfl) (by kernel_rfl) (by decide) (Or.inl ⟨by rfl, fun W hW => ?_⟩) hSt ?_
  · have hWc := (he.out.ext (show _ ∧ _ from hW).1).owd m0 _ ht0.out
    go_simp
  simp only [Act.put, List.setIfInBounds_toArray, List.set_cons_zero, List.set_cons_succ]
  refine L8.takeT 5 (oi := { dst := some 13, op := Op.indexAddr 23 (Operand.tmp 2) (Operand.const (Value.int IntKind.i64 1)), type := 0, pos := "clauses.go:70", after := #[], guard := none }) (v := .pointer (some ⟨B, 1, none⟩)) rfl (by kernel_rfl) (by kernel_rfl) (by kernel_rfl) (by decide) (Or.inl ⟨by rfl, fun W hW => ?_⟩) hSt ?_
  · go_simp
  simp only [Act.put, List.setIfInBounds_toArray, List.set_cons_zero, List.set_cons_succ]
  refine L8.takeT 6 (oi := { dst := some 14, op := Op.load 3 (Operand.tmp 13), type := 3, pos := "clauses.go:70", after := #[{ on := 5, ground := Ground.data }], guard := none }) (v := .int .i64 (m1 : Int)) rfl (by kernel_rfl) (by kernel_rfl) (by kernel_rfl) (by decide) (Or.inl ⟨by rfl, fun W hW => ?_⟩) hSt ?_
  · have hWc := (show _ ∧ _ from hW).2.2.1
    go_simp
  simp only [Act.put, List.setIfInBounds_toArray, List.set_cons_zero, List.set_cons_succ]
  refine L8.takeT 7 (oi := { dst := some 15, op := Op.indexAddr 129 (Operand.global 3) (Operand.tmp 14), type := 0, pos := "clauses.go:70", after := #[{ on := 6, ground := Ground.data }], guard := none }) (v := .pointer (some ⟨3, m1, none⟩)) rfl (by kernel_rfl) (by kernel_rfl) (by kernel_rfl) (by decide) (Or.inl ⟨by rfl, fun W hW => ?_⟩) hSt ?_
  · go_simp
  simp only [Act.put, List.setIfInBounds_toArray, List.set_cons_zero, List.set_cons_succ]
  refine L8.takeT 8 (oi := { dst := some 16, op := Op.load 9 (Operand.tmp 15), type := 9, pos := "clauses.go:70", after := #[{ on := 7, ground := Ground.data }], guard := none }) (v := .string ⟨q1.toArray⟩) rfl (by kernel_rfl) (by kernel_rfl) (by kernel_rfl) (by decide) (Or.inl ⟨by rfl, fun W hW => ?_⟩) hSt ?_
  · have hWc := (he.out.ext (show _ ∧ _ from hW).1).owd m1 _ ht1.out
    go_simp
  simp only [Act.put, List.setIfInBounds_toArray, List.set_cons_zero, List.set_cons_succ]
  refine L8.takeT 9 (oi := { dst := some 17, op := Op.indexAddr 23 (Operand.tmp 2) (Operand.const (Value.int IntKind.i64 2)), type := 0, pos := "clauses.go:70", after := #[], guard := none }) (v := .pointer (some ⟨B, 2, none⟩)) rfl (by kernel_rfl) (by kernel_rfl) (by kernel_rfl) (by decide) (Or.inl ⟨by rfl, fun W hW => ?_⟩) hSt ?_
  · go_simp
  simp only [Act.put, List.setIfInBounds_toArray, List.set_cons_zero, List.set_cons_succ]
  refine L8.takeT 10 (oi := { dst := some 18, op := Op.load 3 (Operand.tmp 17), type := 3, pos := "clauses.go:70", after := #[{ on := 9, ground := Ground.data }], guard := none }) (v := .int .i64 (m2 : Int)) rfl (by kernel_rfl) (by kernel_rfl) (by kernel_rfl) (by decide) (Or.inl ⟨by rfl, fun W hW => ?_⟩) hSt ?_
  · have hWc := (show _ ∧ _ from hW).2.2.2.1
    go_simp
  simp only [Act.put, List.setIfInBounds_toArray, List.set_cons_zero, List.set_cons_succ]
  refine L8.takeT 11 (oi := { dst := some 19, op := Op.indexAddr 129 (Operand.global 3) (Operand.tmp 18), type := 0, pos := "clauses.go:70", after := #[{ on := 10, ground := Ground.data }], guard := none }) (v := .pointer (some ⟨3, m2, none⟩)) rfl (by kernel_rfl) (by kernel_rfl) (by kernel_rfl) (by decide) (Or.inl ⟨by rfl, fun W hW => ?_⟩) hSt ?_
  · go_simp
  simp only [Act.put, List.setIfInBounds_toArray, List.set_cons_zero, List.set_cons_succ]
  refine L8.takeT 12 (oi := { dst := some 20, op := Op.load 9 (Operand.tmp 19), type := 9, pos := "clauses.go:70", after := #[{ on := 11, ground := Ground.data }], guard := none }) (v := .string ⟨q2.toArray⟩) rfl (by kernel_rfl) (by kernel_rfl) (by kernel_rfl) (by decide) (Or.inl ⟨by rfl, fun W hW => ?_⟩) hSt ?_
  · have hWc := (he.out.ext (show _ ∧ _ from hW).1).owd m2 _ ht2.out
    go_simp
  simp only [Act.put, List.setIfInBounds_toArray, List.set_cons_zero, List.set_cons_succ]
  refine L8.takeT 13 (oi := { dst := some 21, op := Op.indexAddr 23 (Operand.tmp 2) (Operand.const (Value.int IntKind.i64 3)), type := 0, pos := "clauses.go:70", after := #[], guard := none }) (v := .pointer (some ⟨B, 3, none⟩)) rfl (by kernel_rfl) (by kernel_rfl) (by kernel_rfl) (by decide) (Or.inl ⟨by rfl, fun W hW => ?_⟩) hSt ?_
  · go_simp
  simp only [Act.put, List.setIfInBounds_toArray, List.set_cons_zero, List.set_cons_succ]
  refine L8.takeT 14 (oi := { dst := some 22, op := Op.load 3 (Operand.tmp 21), type := 3, pos := "clauses.go:70", after := #[{ on := 13, ground := Ground.data }], guard := none }) (v := .int .i64 (m3 : Int)) rfl (by kernel_rfl) (by kernel_rfl) (by kernel_rfl) (by decide) (Or.inl ⟨by rfl, fun W hW => ?_⟩) hSt ?_
  · have hWc := (show _ ∧ _ from hW).2.2.2.2
    go_simp
  simp only [Act.put, List.setIfInBounds_toArray, List.set_cons_zero, List.set_cons_succ]
  refine L8.takeT 15 (oi := { dst := some 23, op := Op.indexAddr 129 (Operand.global 3) (Operand.tmp 22), type := 0, pos := "clauses.go:70", after := #[{ on := 14, ground := Ground.data }], guard := none }) (v := .pointer (some ⟨3, m3, none⟩)) rfl (by kernel_rfl) (by kernel_rfl) (by kernel_rfl) (by decide) (Or.inl ⟨by rfl, fun W hW => ?_⟩) hSt ?_
  · go_simp
  simp only [Act.put, List.setIfInBounds_toArray, List.set_cons_zero, List.set_cons_succ]
  refine L8.takeT 16 (oi := { dst := some 24, op := Op.load 9 (Operand.tmp 23), type := 9, pos := "clauses.go:70", after := #[{ on := 15, ground := Ground.data }], guard := none }) (v := .string ⟨q3.toArray⟩) rfl (by kernel_rfl) (by kernel_rfl) (by kernel_rfl) (by decide) (Or.inl ⟨by rfl, fun W hW => ?_⟩) hSt ?_
  · have hWc := (he.out.ext (show _ ∧ _ from hW).1).owd m3 _ ht3.out
    go_simp
  simp only [Act.put, List.setIfInBounds_toArray, List.set_cons_zero, List.set_cons_succ]
  refine wpAnyH_ready (rs := [17]) (by kernel_rfl) (by simp) ?_
  refine AllReadyH.cons (o := { dst := some 25, op := Op.buildSlice 81 5 #[(0, Operand.const (Value.string { data := #[111, 114, 100, 101, 114] })), (1, Operand.tmp 12), (2, Operand.tmp 16), (3, Operand.tmp 20), (4, Operand.tmp 24)], type := 81, pos := "clauses.go:70", after := #[{ on := 4, ground := Ground.data }, { on := 8, ground := Ground.data }, { on := 12, ground := Ground.data }, { on := 16, ground := Ground.data }], guard := none }) rfl (fun K hK => ?_) AllReadyH.nil
  obtain ⟨V, dd, hV, hdd, hxv, hSS, hdl⟩ := lay5w wz [111, 114, 100, 101, 114] q0 q1 q2 q3
  go_simp
  have hE0 : (fun W => Ext w0 W ∧ W.cell? ⟨B, 0, none⟩ = some (.int .i64 (m0 : Int)) ∧ W.cell? ⟨B, 1, none⟩ = some (.int .i64 (m1 : Int)) ∧ W.cell? ⟨B, 2, none⟩ = some (.int .i64 (m2 : Int)) ∧ W.cell? ⟨B, 3, none⟩ = some (.int .i64 (m3 : Int))) V := ⟨hSt.1.trans hxv, hxv.cell_of hSt.2.1, hxv.cell_of hSt.2.2.1, hxv.cell_of hSt.2.2.2.1, hxv.cell_of hSt.2.2.2.2⟩
  replace hxz : Hid (Ext W2 V) := hxz.out.trans hxv
  refine hK.out _ _ hE0 ?_
  clear hK K
  intro _
  try simp only [Act.put, List.setIfInBounds_toArray, List.set_cons_zero, List.set_cons_succ]
  refine wpAnyH_ready (rs := [18]) (by kernel_rfl) (by simp) ?_
  refine AllReadyH.cons (o := { dst := some 26, op := Op.call { callee := Callee.value (Operand.func 113), args := #[Operand.tmp 8, Operand.tmp 25], argTypes := #[39, 81] }, type := 0, pos := "clauses.go:70", after := #[{ on := 0, ground := Ground.data }, { on := 17, ground := Ground.data }], guard := none }) rfl (fun K hK => ?_) AllReadyH.nil
  go_simp
  refine Calls.mono (line_w w0 V b p vr vl vh l [[111, 114, 100, 101, 114], q0, q1, q2, q3] dd 5 5 (hW2'.out.on hxz.out) hSS hdl rfl (by decide) (by decide) (by omega) (by have := hlen.out; omega)) ?_
  rintro e wn ⟨rfl, hWn, hSn⟩
  try dsimp only
  have hE1 : (fun W => Ext w0 W ∧ W.cell? ⟨B, 0, none⟩ = some (.int .i64 (m0 : Int)) ∧ W.cell? ⟨B, 1, none⟩ = some (.int .i64 (m1 : Int)) ∧ W.cell? ⟨B, 2, none⟩ = some (.int .i64 (m2 : Int)) ∧ W.cell? ⟨B, 3, none⟩ = some (.int .i64 (m3 : Int))) wn := ⟨hWn.ext, (hSn.cell (by decide) hBb.out ((hxz.out.below.block B (Array.getElem?_eq_some_iff.1 hrow.out).1).trans hrow.out)).trans rfl, (hSn.cell (by decide) hBb.out ((hxz.out.below.block B (Array.getElem?_eq_some_iff.1 hrow.out).1).trans hrow.out)).trans rfl, (hSn.cell (by decide) hBb.out ((hxz.out.below.block B (Array.getElem?_eq_some_iff.1 hrow.out).1).trans hrow.out)).trans rfl, (hSn.cell (by decide) hBb.out ((hxz.out.below.block B (Array.getElem?_eq_some_iff.1 hrow.out).1).trans hrow.out)).trans rfl⟩
  refine hK.out _ _ hE1 ?_
  clear hK K
  intro _
  try simp only [Act.put, List.setIfInBounds_toArray, List.set_cons_zero, List.set_cons_succ]
  refine wpAnyH_done (by kernel_rfl) (L8.ThrowQ.normal ?_) _
  have hfin := show Hid _ from hWn
  have hst := show Hid _ from (Stp.of hxz.out).trans hSn
  clear hE1 hWn hSn hSS hdl hE0 hxv hdd hV
  go_wp2
  go_end0
  exact Wrote.one hx2.out hG.out.1 hG.out.2 hfin.out hst.out
end Go.Proofs.YtbnpaeejlfaboaaGreatDoor

namespace Go.Proofs.YtbnpaeejlfaboaaGreatDoor
open Go.RowKit Go.Lib
set_option linter.unusedVariables false
set_option maxRecDepth 100000 in
set_option maxHeartbeats 1000000 in
theorem newWriter_w (p : Prd) (vr vl vh : Value) (w : World) (sr : L8.Slp w vr p.rs) (sl : L8.Slp w vl p.lt) (sh : L8.Slc w vh p.hd) :
    Calls Tryz.prog 12 #[.agg (pcells p vr vl vh)] w fun e w' => ∃ b, e = .returned (.pointer (some ⟨b, 0, none⟩)) ∧ Wrt w w' b p vr vl vh [] := by
  have hone := pcells_slp sr sl sh
  have hbox := box_prod p vr vl vh hone
  obtain ⟨W1, B, hW1, hB, hx1, hB1⟩ : ∃ W b, w.alloc (.cells (pcells p vr vl vh) 27) = W ∧ w.heap.size = b ∧ Ext w W ∧ Blk W b (pcells p vr vl vh) := ⟨_, _, rfl, rfl, (Ext.refl w).alloc _ _, heap_alloc_last w _⟩
  have hsz : (pcells p vr vl vh).size = 19 := rfl
  obtain ⟨ar, cr, rfl⟩ := sr.len
  obtain ⟨al, cll, rfl⟩ := sl.len
  obtain ⟨ah, ch, rfl⟩ := sh.len
  clear sr sl sh
  have hxs := show Hid _ from hx1
  go_enter Tryz.func12, Tryz.ntmps12
  go_wp2_with (refine load27 hB1 hsz rfl rfl rfl ?_)
  go_ret
  refine ⟨_, rfl, hxs.out.alloc _ _, hxs.out.size, .pointer none, .slice none 0 0, (heap_alloc_last W1 _).trans ?_, Or.inl rfl, World.ownsRow_nil _ _ _ _⟩
  refine congrArg some (congrArg (fun c => Obj.cells c 73 (0, 0)) ?_)
  kernel_rfl
set_option maxRecDepth 100000 in
theorem fitted_w (s : List UInt8) (hs : s.length ≤ 20000) (w : World) :
    Calls Tryz.prog 11 #[.string ⟨s.toArray⟩] w fun e w' => e = .returned (.tuple #[.string ⟨s.toArray⟩, .int .i64 0]) ∧ w' = w := by
  have h1 : ¬ (20000 : Int) < (s.length : Int) := by omega
  go_enter Tryz.func11, Tryz.ntmps11
  go_wp2
  go_ret2
  exact ⟨rfl, rfl⟩
/-- The writer's fifteen methods, bound to it. -/
def fcells (b : Nat) : Array Value := #[.func (.func 68) #[.pointer (some ⟨b, 0, none⟩)] #[], .func (.func 69) #[.pointer (some ⟨b, 0, none⟩)] #[], .func (.func 70) #[.pointer (some ⟨b, 0, none⟩)] #[], .func (.func 71) #[.pointer (some ⟨b, 0, none⟩)] #[], .func (.func 72) #[.pointer (some ⟨b, 0, none⟩)] #[], .func (.func 73) #[.pointer (some ⟨b, 0, none⟩)] #[], .func (.func 74) #[.pointer (some ⟨b, 0, none⟩)] #[], .func (.func 75) #[.pointer (some ⟨b, 0, none⟩)] #[], .func (.func 76) #[.pointer (some ⟨b, 0, none⟩)] #[], .func (.func 77) #[.pointer (some ⟨b, 0, none⟩)] #[], .func (.func 78) #[.pointer (some ⟨b, 0, none⟩)] #[], .func (.func 79) #[.pointer (some ⟨b, 0, none⟩)] #[], .func (.func 80) #[.pointer (some ⟨b, 0, none⟩)] #[], .func (.func 81) #[.pointer (some ⟨b, 0, none⟩)] #[], .func (.func 82) #[.pointer (some ⟨b, 0, none⟩)] #[]]
set_option maxRecDepth 100000 in
theorem clauses_w (b : Nat) (w : World) :
    Calls Tryz.prog 35 #[.pointer (some ⟨b, 0, none⟩)] w fun e w' => (∃ c, e = .returned (.slice (some ⟨c, 0, none⟩) 15 15) ∧ w'.heap[c]? = some (Obj.cells (fcells b) 1 (0, 0)) ∧ w.heap.size ≤ c) ∧ Ext w w' := by
  have hmf := L8.make_func
  have hR : Hid ((w.alloc (.cells (fcells b) 1)).heap[w.heap.size]? = some (Obj.cells (fcells b) 1 (0, 0))) := heap_alloc_last w _
  go_enter Tryz.func35, Tryz.ntmps35
  go_wp2
  go_ret
  exact ⟨⟨_, rfl, hR.out, Nat.le_refl _⟩, (Ext.refl _).alloc _ _⟩
theorem preL_mono (p : Prd) (k : Nat) : ∀ j, (preL p k).length ≤ (preL p (k + j)).length
  | 0 => Nat.le_refl _
  | j + 1 => by
    have := preL_mono p k j
    rw [show k + (j + 1) = (k + j) + 1 from rfl, preL_succ, List.length_append]
    omega
theorem preL_len {p : Prd} (hp : okP p = true) {k : Nat} (hk : k ≤ 15) : (preL p k).length ≤ 19300 := by
  have h1 := preL_mono p k (15 - k)
  rw [show k + (15 - k) = 15 by omega] at h1
  have h2 := prt_len hp
  rw [prt_pre, List.length_append] at h2
  omega
theorem sevenP {p : Prd} (hp : okP p = true) : L8.r7B p.o0 p.o1 p.o2 p.o3 = true := by
  unfold okP at hp
  simp only [Bool.and_eq_true] at hp
  exact hp.2.2.2.2.2.2.2.1
theorem mth0 {w0 : World} {b : Nat} {p : Prd} {vr vl vh : Value} (hp : okP p = true) (he : Hid (Pnv w0)) (sr : L8.Slp w0 vr p.rs) (sl : L8.Slp w0 vl p.lt) (sh : L8.Slc w0 vh p.hd) : ∃ fn : Nat, (fn = 68 ∨ fn = 69 ∨ fn = 70 ∨ fn = 71 ∨ fn = 72 ∨ fn = 73 ∨ fn = 74 ∨ fn = 75 ∨ fn = 76 ∨ fn = 77 ∨ fn = 78 ∨ fn = 79 ∨ fn = 80 ∨ fn = 81 ∨ fn = 82) ∧ (fcells b)[0]? = some (.func (.func fn) #[.pointer (some ⟨b, 0, none⟩)] #[]) ∧ ∀ W, Wrt w0 W b p vr vl vh (preL p 0) → Calls Tryz.prog fn #[.pointer (some ⟨b, 0, none⟩)] W fun e w' => Wrote w0 W w' b p vr vl vh (preL p 0) 0 e := by
  have hK := okf hp
  have h7 := sevenP hp
  have hl := preL_len hp (k := 0) (by omega)
  exact ⟨68, by simp, rfl, fun W hW => count_w w0 W b p vr vl vh _ hK he hW (by omega)⟩
theorem mth1 {w0 : World} {b : Nat} {p : Prd} {vr vl vh : Value} (hp : okP p = true) (he : Hid (Pnv w0)) (sr : L8.Slp w0 vr p.rs) (sl : L8.Slp w0 vl p.lt) (sh : L8.Slc w0 vh p.hd) : ∃ fn : Nat, (fn = 68 ∨ fn = 69 ∨ fn = 70 ∨ fn = 71 ∨ fn = 72 ∨ fn = 73 ∨ fn = 74 ∨ fn = 75 ∨ fn = 76 ∨ fn = 77 ∨ fn = 78 ∨ fn = 79 ∨ fn = 80 ∨ fn = 81 ∨ fn = 82) ∧ (fcells b)[1]? = some (.func (.func fn) #[.pointer (some ⟨b, 0, none⟩)] #[]) ∧ ∀ W, Wrt w0 W b p vr vl vh (preL p 1) → Calls Tryz.prog fn #[.pointer (some ⟨b, 0, none⟩)] W fun e w' => Wrote w0 W w' b p vr vl vh (preL p 1) 1 e := by
  have hK := okf hp
  have h7 := sevenP hp
  have hl := preL_len hp (k := 1) (by omega)
  exact ⟨69, by simp, rfl, fun W hW => round_w w0 W b p vr vl vh _ hK he hW (by omega)⟩
theorem mth2 {w0 : World} {b : Nat} {p : Prd} {vr vl vh : Value} (hp : okP p = true) (he : Hid (Pnv w0)) (sr : L8.Slp w0 vr p.rs) (sl : L8.Slp w0 vl p.lt) (sh : L8.Slc w0 vh p.hd) : ∃ fn : Nat, (fn = 68 ∨ fn = 69 ∨ fn = 70 ∨ fn = 71 ∨ fn = 72 ∨ fn = 73 ∨ fn = 74 ∨ fn = 75 ∨ fn = 76 ∨ fn = 77 ∨ fn = 78 ∨ fn = 79 ∨ fn = 80 ∨ fn = 81 ∨ fn = 82) ∧ (fcells b)[2]? = some (.func (.func fn) #[.pointer (some ⟨b, 0, none⟩)] #[]) ∧ ∀ W, Wrt w0 W b p vr vl vh (preL p 2) → Calls Tryz.prog fn #[.pointer (some ⟨b, 0, none⟩)] W fun e w' => Wrote w0 W w' b p vr vl vh (preL p 2) 2 e := by
  have hK := okf hp
  have h7 := sevenP hp
  have hl := preL_len hp (k := 2) (by omega)
  exact ⟨70, by simp, rfl, fun W hW => kind_w w0 W b p vr vl vh _ hK he hW (by omega)⟩
theorem mth3 {w0 : World} {b : Nat} {p : Prd} {vr vl vh : Value} (hp : okP p = true) (he : Hid (Pnv w0)) (sr : L8.Slp w0 vr p.rs) (sl : L8.Slp w0 vl p.lt) (sh : L8.Slc w0 vh p.hd) : ∃ fn : Nat, (fn = 68 ∨ fn = 69 ∨ fn = 70 ∨ fn = 71 ∨ fn = 72 ∨ fn = 73 ∨ fn = 74 ∨ fn = 75 ∨ fn = 76 ∨ fn = 77 ∨ fn = 78 ∨ fn = 79 ∨ fn = 80 ∨ fn = 81 ∨ fn = 82) ∧ (fcells b)[3]? = some (.func (.func fn) #[.pointer (some ⟨b, 0, none⟩)] #[]) ∧ ∀ W, Wrt w0 W b p vr vl vh (preL p 3) → Calls Tryz.prog fn #[.pointer (some ⟨b, 0, none⟩)] W fun e w' => Wrote w0 W w' b p vr vl vh (preL p 3) 3 e := by
  have hK := okf hp
  have h7 := sevenP hp
  have hl := preL_len hp (k := 3) (by omega)
  exact ⟨71, by simp, rfl, fun W hW => every_w w0 W b p vr vl vh _ hK he hW (by omega)⟩
theorem mth4 {w0 : World} {b : Nat} {p : Prd} {vr vl vh : Value} (hp : okP p = true) (he : Hid (Pnv w0)) (sr : L8.Slp w0 vr p.rs) (sl : L8.Slp w0 vl p.lt) (sh : L8.Slc w0 vh p.hd) : ∃ fn : Nat, (fn = 68 ∨ fn = 69 ∨ fn = 70 ∨ fn = 71 ∨ fn = 72 ∨ fn = 73 ∨ fn = 74 ∨ fn = 75 ∨ fn = 76 ∨ fn = 77 ∨ fn = 78 ∨ fn = 79 ∨ fn = 80 ∨ fn = 81 ∨ fn = 82) ∧ (fcells b)[4]? = some (.func (.func fn) #[.pointer (some ⟨b, 0, none⟩)] #[]) ∧ ∀ W, Wrt w0 W b p vr vl vh (preL p 4) → Calls Tryz.prog fn #[.pointer (some ⟨b, 0, none⟩)] W fun e w' => Wrote w0 W w' b p vr vl vh (preL p 4) 4 e := by
  have hK := okf hp
  have h7 := sevenP hp
  have hl := preL_len hp (k := 4) (by omega)
  exact ⟨72, by simp, rfl, fun W hW => times_w w0 W b p vr vl vh _ hK he hW (by omega)⟩
theorem mth5 {w0 : World} {b : Nat} {p : Prd} {vr vl vh : Value} (hp : okP p = true) (he : Hid (Pnv w0)) (sr : L8.Slp w0 vr p.rs) (sl : L8.Slp w0 vl p.lt) (sh : L8.Slc w0 vh p.hd) : ∃ fn : Nat, (fn = 68 ∨ fn = 69 ∨ fn = 70 ∨ fn = 71 ∨ fn = 72 ∨ fn = 73 ∨ fn = 74 ∨ fn = 75 ∨ fn = 76 ∨ fn = 77 ∨ fn = 78 ∨ fn = 79 ∨ fn = 80 ∨ fn = 81 ∨ fn = 82) ∧ (fcells b)[5]? = some (.func (.func fn) #[.pointer (some ⟨b, 0, none⟩)] #[]) ∧ ∀ W, Wrt w0 W b p vr vl vh (preL p 5) → Calls Tryz.prog fn #[.pointer (some ⟨b, 0, none⟩)] W fun e w' => Wrote w0 W w' b p vr vl vh (preL p 5) 5 e := by
  have hK := okf hp
  have h7 := sevenP hp
  have hl := preL_len hp (k := 5) (by omega)
  exact ⟨73, by simp, rfl, fun W hW => grace_w w0 W b p vr vl vh _ hK he hW (by omega)⟩
theorem mth6 {w0 : World} {b : Nat} {p : Prd} {vr vl vh : Value} (hp : okP p = true) (he : Hid (Pnv w0)) (sr : L8.Slp w0 vr p.rs) (sl : L8.Slp w0 vl p.lt) (sh : L8.Slc w0 vh p.hd) : ∃ fn : Nat, (fn = 68 ∨ fn = 69 ∨ fn = 70 ∨ fn = 71 ∨ fn = 72 ∨ fn = 73 ∨ fn = 74 ∨ fn = 75 ∨ fn = 76 ∨ fn = 77 ∨ fn = 78 ∨ fn = 79 ∨ fn = 80 ∨ fn = 81 ∨ fn = 82) ∧ (fcells b)[6]? = some (.func (.func fn) #[.pointer (some ⟨b, 0, none⟩)] #[]) ∧ ∀ W, Wrt w0 W b p vr vl vh (preL p 6) → Calls Tryz.prog fn #[.pointer (some ⟨b, 0, none⟩)] W fun e w' => Wrote w0 W w' b p vr vl vh (preL p 6) 6 e := by
  have hK := okf hp
  have h7 := sevenP hp
  have hl := preL_len hp (k := 6) (by omega)
  exact ⟨74, by simp, rfl, fun W hW => rate_w w0 W b p vr vl vh _ hK he hW (by omega)⟩
theorem mth7 {w0 : World} {b : Nat} {p : Prd} {vr vl vh : Value} (hp : okP p = true) (he : Hid (Pnv w0)) (sr : L8.Slp w0 vr p.rs) (sl : L8.Slp w0 vl p.lt) (sh : L8.Slc w0 vh p.hd) : ∃ fn : Nat, (fn = 68 ∨ fn = 69 ∨ fn = 70 ∨ fn = 71 ∨ fn = 72 ∨ fn = 73 ∨ fn = 74 ∨ fn = 75 ∨ fn = 76 ∨ fn = 77 ∨ fn = 78 ∨ fn = 79 ∨ fn = 80 ∨ fn = 81 ∨ fn = 82) ∧ (fcells b)[7]? = some (.func (.func fn) #[.pointer (some ⟨b, 0, none⟩)] #[]) ∧ ∀ W, Wrt w0 W b p vr vl vh (preL p 7) → Calls Tryz.prog fn #[.pointer (some ⟨b, 0, none⟩)] W fun e w' => Wrote w0 W w' b p vr vl vh (preL p 7) 7 e := by
  have hK := okf hp
  have h7 := sevenP hp
  have hl := preL_len hp (k := 7) (by omega)
  exact ⟨75, by simp, rfl, fun W hW => penalty_w w0 W b p vr vl vh _ hK he hW (by omega)⟩
theorem mth8 {w0 : World} {b : Nat} {p : Prd} {vr vl vh : Value} (hp : okP p = true) (he : Hid (Pnv w0)) (sr : L8.Slp w0 vr p.rs) (sl : L8.Slp w0 vl p.lt) (sh : L8.Slc w0 vh p.hd) : ∃ fn : Nat, (fn = 68 ∨ fn = 69 ∨ fn = 70 ∨ fn = 71 ∨ fn = 72 ∨ fn = 73 ∨ fn = 74 ∨ fn = 75 ∨ fn = 76 ∨ fn = 77 ∨ fn = 78 ∨ fn = 79 ∨ fn = 80 ∨ fn = 81 ∨ fn = 82) ∧ (fcells b)[8]? = some (.func (.func fn) #[.pointer (some ⟨b, 0, none⟩)] #[]) ∧ ∀ W, Wrt w0 W b p vr vl vh (preL p 8) → Calls Tryz.prog fn #[.pointer (some ⟨b, 0, none⟩)] W fun e w' => Wrote w0 W w' b p vr vl vh (preL p 8) 8 e := by
  have hK := okf hp
  have h7 := sevenP hp
  have hl := preL_len hp (k := 8) (by omega)
  exact ⟨76, by simp, rfl, fun W hW => resets_w w0 W b p vr vl vh _ hK he hW (by omega) sr⟩
theorem mth9 {w0 : World} {b : Nat} {p : Prd} {vr vl vh : Value} (hp : okP p = true) (he : Hid (Pnv w0)) (sr : L8.Slp w0 vr p.rs) (sl : L8.Slp w0 vl p.lt) (sh : L8.Slc w0 vh p.hd) : ∃ fn : Nat, (fn = 68 ∨ fn = 69 ∨ fn = 70 ∨ fn = 71 ∨ fn = 72 ∨ fn = 73 ∨ fn = 74 ∨ fn = 75 ∨ fn = 76 ∨ fn = 77 ∨ fn = 78 ∨ fn = 79 ∨ fn = 80 ∨ fn = 81 ∨ fn = 82) ∧ (fcells b)[9]? = some (.func (.func fn) #[.pointer (some ⟨b, 0, none⟩)] #[]) ∧ ∀ W, Wrt w0 W b p vr vl vh (preL p 9) → Calls Tryz.prog fn #[.pointer (some ⟨b, 0, none⟩)] W fun e w' => Wrote w0 W w' b p vr vl vh (preL p 9) 9 e := by
  have hK := okf hp
  have h7 := sevenP hp
  have hl := preL_len hp (k := 9) (by omega)
  exact ⟨77, by simp, rfl, fun W hW => order_w w0 W b p vr vl vh _ hK he hW (by omega) h7⟩
theorem mth10 {w0 : World} {b : Nat} {p : Prd} {vr vl vh : Value} (hp : okP p = true) (he : Hid (Pnv w0)) (sr : L8.Slp w0 vr p.rs) (sl : L8.Slp w0 vl p.lt) (sh : L8.Slc w0 vh p.hd) : ∃ fn : Nat, (fn = 68 ∨ fn = 69 ∨ fn = 70 ∨ fn = 71 ∨ fn = 72 ∨ fn = 73 ∨ fn = 74 ∨ fn = 75 ∨ fn = 76 ∨ fn = 77 ∨ fn = 78 ∨ fn = 79 ∨ fn = 80 ∨ fn = 81 ∨ fn = 82) ∧ (fcells b)[10]? = some (.func (.func fn) #[.pointer (some ⟨b, 0, none⟩)] #[]) ∧ ∀ W, Wrt w0 W b p vr vl vh (preL p 10) → Calls Tryz.prog fn #[.pointer (some ⟨b, 0, none⟩)] W fun e w' => Wrote w0 W w' b p vr vl vh (preL p 10) 10 e := by
  have hK := okf hp
  have h7 := sevenP hp
  have hl := preL_len hp (k := 10) (by omega)
  exact ⟨78, by simp, rfl, fun W hW => over_w w0 W b p vr vl vh _ hK he hW (by omega)⟩
theorem mth11 {w0 : World} {b : Nat} {p : Prd} {vr vl vh : Value} (hp : okP p = true) (he : Hid (Pnv w0)) (sr : L8.Slp w0 vr p.rs) (sl : L8.Slp w0 vl p.lt) (sh : L8.Slc w0 vh p.hd) : ∃ fn : Nat, (fn = 68 ∨ fn = 69 ∨ fn = 70 ∨ fn = 71 ∨ fn = 72 ∨ fn = 73 ∨ fn = 74 ∨ fn = 75 ∨ fn = 76 ∨ fn = 77 ∨ fn = 78 ∨ fn = 79 ∨ fn = 80 ∨ fn = 81 ∨ fn = 82) ∧ (fcells b)[11]? = some (.func (.func fn) #[.pointer (some ⟨b, 0, none⟩)] #[]) ∧ ∀ W, Wrt w0 W b p vr vl vh (preL p 11) → Calls Tryz.prog fn #[.pointer (some ⟨b, 0, none⟩)] W fun e w' => Wrote w0 W w' b p vr vl vh (preL p 11) 11 e := by
  have hK := okf hp
  have h7 := sevenP hp
  have hl := preL_len hp (k := 11) (by omega)
  exact ⟨79, by simp, rfl, fun W hW => late_w w0 W b p vr vl vh _ hK he hW (by omega) sl⟩
theorem mth12 {w0 : World} {b : Nat} {p : Prd} {vr vl vh : Value} (hp : okP p = true) (he : Hid (Pnv w0)) (sr : L8.Slp w0 vr p.rs) (sl : L8.Slp w0 vl p.lt) (sh : L8.Slc w0 vh p.hd) : ∃ fn : Nat, (fn = 68 ∨ fn = 69 ∨ fn = 70 ∨ fn = 71 ∨ fn = 72 ∨ fn = 73 ∨ fn = 74 ∨ fn = 75 ∨ fn = 76 ∨ fn = 77 ∨ fn = 78 ∨ fn = 79 ∨ fn = 80 ∨ fn = 81 ∨ fn = 82) ∧ (fcells b)[12]? = some (.func (.func fn) #[.pointer (some ⟨b, 0, none⟩)] #[]) ∧ ∀ W, Wrt w0 W b p vr vl vh (preL p 12) → Calls Tryz.prog fn #[.pointer (some ⟨b, 0, none⟩)] W fun e w' => Wrote w0 W w' b p vr vl vh (preL p 12) 12 e := by
  have hK := okf hp
  have h7 := sevenP hp
  have hl := preL_len hp (k := 12) (by omega)
  exact ⟨80, by simp, rfl, fun W hW => cap_w w0 W b p vr vl vh _ hK he hW (by omega)⟩
theorem mth13 {w0 : World} {b : Nat} {p : Prd} {vr vl vh : Value} (hp : okP p = true) (he : Hid (Pnv w0)) (sr : L8.Slp w0 vr p.rs) (sl : L8.Slp w0 vl p.lt) (sh : L8.Slc w0 vh p.hd) : ∃ fn : Nat, (fn = 68 ∨ fn = 69 ∨ fn = 70 ∨ fn = 71 ∨ fn = 72 ∨ fn = 73 ∨ fn = 74 ∨ fn = 75 ∨ fn = 76 ∨ fn = 77 ∨ fn = 78 ∨ fn = 79 ∨ fn = 80 ∨ fn = 81 ∨ fn = 82) ∧ (fcells b)[13]? = some (.func (.func fn) #[.pointer (some ⟨b, 0, none⟩)] #[]) ∧ ∀ W, Wrt w0 W b p vr vl vh (preL p 13) → Calls Tryz.prog fn #[.pointer (some ⟨b, 0, none⟩)] W fun e w' => Wrote w0 W w' b p vr vl vh (preL p 13) 13 e := by
  have hK := okf hp
  have h7 := sevenP hp
  have hl := preL_len hp (k := 13) (by omega)
  exact ⟨81, by simp, rfl, fun W hW => roll_w w0 W b p vr vl vh _ hK he hW (by omega)⟩
theorem mth14 {w0 : World} {b : Nat} {p : Prd} {vr vl vh : Value} (hp : okP p = true) (he : Hid (Pnv w0)) (sr : L8.Slp w0 vr p.rs) (sl : L8.Slp w0 vl p.lt) (sh : L8.Slc w0 vh p.hd) : ∃ fn : Nat, (fn = 68 ∨ fn = 69 ∨ fn = 70 ∨ fn = 71 ∨ fn = 72 ∨ fn = 73 ∨ fn = 74 ∨ fn = 75 ∨ fn = 76 ∨ fn = 77 ∨ fn = 78 ∨ fn = 79 ∨ fn = 80 ∨ fn = 81 ∨ fn = 82) ∧ (fcells b)[14]? = some (.func (.func fn) #[.pointer (some ⟨b, 0, none⟩)] #[]) ∧ ∀ W, Wrt w0 W b p vr vl vh (preL p 14) → Calls Tryz.prog fn #[.pointer (some ⟨b, 0, none⟩)] W fun e w' => Wrote w0 W w' b p vr vl vh (preL p 14) 14 e := by
  have hK := okf hp
  have h7 := sevenP hp
  have hl := preL_len hp (k := 14) (by omega)
  exact ⟨82, by simp, rfl, fun W hW => holidays_w w0 W b p vr vl vh _ hK he hW (by omega) sh⟩
/-- What is known of each. -/
theorem mth {w0 : World} {b : Nat} {p : Prd} {vr vl vh : Value} (hp : okP p = true) (he : Hid (Pnv w0)) (sr : L8.Slp w0 vr p.rs) (sl : L8.Slp w0 vl p.lt) (sh : L8.Slc w0 vh p.hd) (k : Nat) (hk : k < 15) : ∃ fn : Nat, (fn = 68 ∨ fn = 69 ∨ fn = 70 ∨ fn = 71 ∨ fn = 72 ∨ fn = 73 ∨ fn = 74 ∨ fn = 75 ∨ fn = 76 ∨ fn = 77 ∨ fn = 78 ∨ fn = 79 ∨ fn = 80 ∨ fn = 81 ∨ fn = 82) ∧ (fcells b)[k]? = some (.func (.func fn) #[.pointer (some ⟨b, 0, none⟩)] #[]) ∧ ∀ W, Wrt w0 W b p vr vl vh (preL p k) → Calls Tryz.prog fn #[.pointer (some ⟨b, 0, none⟩)] W fun e w' => Wrote w0 W w' b p vr vl vh (preL p k) k e := by
  have h : k = 0 ∨ k = 1 ∨ k = 2 ∨ k = 3 ∨ k = 4 ∨ k = 5 ∨ k = 6 ∨ k = 7 ∨ k = 8 ∨ k = 9 ∨ k = 10 ∨ k = 11 ∨ k = 12 ∨ k = 13 ∨ k = 14 := by omega
  rcases h with rfl | rfl | rfl | rfl | rfl | rfl | rfl | rfl | rfl | rfl | rfl | rfl | rfl | rfl | rfl
  · exact mth0 hp he sr sl sh
  · exact mth1 hp he sr sl sh
  · exact mth2 hp he sr sl sh
  · exact mth3 hp he sr sl sh
  · exact mth4 hp he sr sl sh
  · exact mth5 hp he sr sl sh
  · exact mth6 hp he sr sl sh
  · exact mth7 hp he sr sl sh
  · exact mth8 hp he sr sl sh
  · exact mth9 hp he sr sl sh
  · exact mth10 hp he sr sl sh
  · exact mth11 hp he sr sl sh
  · exact mth12 hp he sr sl sh
  · exact mth13 hp he sr sl sh
  · exact mth14 hp he sr sl sh
set_option maxRecDepth 100000 in
set_option maxHeartbeats 4000000 in
theorem all_w (w0 w : World) (b : Nat) (p : Prd) (vr vl vh : Value) (hp : okP p = true) (he : Hid (Pnv w0)) (sr : L8.Slp w0 vr p.rs) (sl : L8.Slp w0 vl p.lt) (sh : L8.Slc w0 vh p.hd) (h : Wrt w0 w b p vr vl vh []) :
    Calls Tryz.prog 13 #[.pointer (some ⟨b, 0, none⟩)] w fun e w' => e = .returned (.string ⟨(prt p).toArray⟩) ∧ Ext w0 w' := by
  have hM := show Hid _ from fun k hk => mth (b := b) hp he sr sl sh k hk
  have hpl := show Hid _ from fun k (hk : k ≤ 15) => preL_len hp hk
  have hpt : Hid (prt p = preL p 15 ++ [125, 10]) := prt_pre p
  have htop : Hid (preL p 0 = 112 :: 114 :: 111 :: 100 :: 117 :: 99 :: 116 :: 32 :: (p.nm ++ [32, 123, 10])) := by
    show _ = _
    unfold preL topL
    rw [show upC p 0 = [] from rfl, rowsL_nil, List.append_nil]
    rfl
  have hnl := (okf hp).nl
  obtain ⟨N, hN⟩ : ∃ N, p.nm = N := ⟨_, rfl⟩
  have hNl : N.length ≤ 20 := by rw [← hN]; exact hnl
  have hc0 : Hid (∀ (W : World) (m : List UInt8), Wrt w0 W b p vr vl vh m → W.cell? ⟨b, 0, none⟩ = some (.string ⟨N.toArray⟩)) := fun W m hW => hW.cell (k := 0) (by decide) (show (wcells p vr vl vh (.pointer none) (.pointer none))[0]? = some (Value.string ⟨N.toArray⟩) from by rw [← hN]; rfl)
  rw [hN] at htop
  have g1 : ¬ 9223372036854775807 < 8 + N.length := by omega
  have g2 : ¬ 9223372036854775807 < 8 + N.length + 3 := by omega
  have g3 : ¬ 9223372036854775807 < 8 + (N.length + 3) := by omega
  have g4 : ¬ 9223372036854775807 < N.length + 8 := by omega
  have g5 : ¬ 9223372036854775807 < N.length + 8 + 3 := by omega
  have g6 : ¬ 9223372036854775807 < N.length + 1 + 1 + 1 + 1 + 1 + 1 + 1 + 1 := by omega
  have g7 : ¬ 9223372036854775807 < N.length + 1 + 1 + 1 + 1 + 1 + 1 + 1 + 1 + 3 := by omega
  have hWS := show Hid _ from fun (W : World) (hW : Wrt w0 W b p vr vl vh []) => WriteString_w w0 W b p vr vl vh [] (112 :: 114 :: 111 :: 100 :: 117 :: 99 :: 116 :: 32 :: (N ++ [32, 123, 10])) hW (by simp only [List.length_cons, List.length_append, List.length_nil]; omega)
  have hx0 := show Hid _ from h.ext
  have hcc := show Hid _ from hc0.out w [] h
  replace h := show Hid _ from h
  clear sr sl sh hnl hN hNl
  replace hp := show Hid _ from hp
  go_enter Tryz.func13, Tryz.ntmps13
  go_upto_region 1 with fail
  refine L8.wp_region_thrown (fun W => Ext w0 W ∧ W.cell? ⟨b, 0, none⟩ = some (.string ⟨N.toArray⟩)) (fun a => False) [] (fun t => none) (fun x W => False) (by kernel_rfl) (fun _ _ _ h1 _ h3 => h3.elim) (⟨hx0.out.drew, hcc.out⟩) (fun hSt => ?_)
  obtain ⟨wz, hwz⟩ : ∃ W, W = w.drew := ⟨_, rfl⟩
  rw [← hwz] at hSt ⊢
  have hxz : Hid (Ext w wz) := by rw [hwz]; exact (Ext.refl w).drew
  clear hwz
  refine L8.takeT 0 (oi := { dst := some 5, op := Op.move (Operand.tmp 0), type := 39, pos := "writer.go:21", after := #[], guard := none }) (v := .pointer (some ⟨b, 0, none⟩)) rfl (by kernel_rfl) (by kernel_rfl) (by kernel_rfl) (by decide) (Or.inl ⟨by rfl, fun W hW => ?_⟩) hSt ?_
  · go_simp
  simp only [Act.put, List.setIfInBounds_toArray, List.set_cons_zero, List.set_cons_succ]
  refine L8.takeT 1 (oi := { dst := some 6, op := Op.nilCheck (Operand.tmp 5), type := 0, pos := "writer.go:21", after := #[{ on := 0, ground := Ground.data }], guard := none }) (v := .pointer (some ⟨b, 0, none⟩)) rfl (by kernel_rfl) (by kernel_rfl) (by kernel_rfl) (by decide) (Or.inl ⟨by rfl, fun W hW => ?_⟩) hSt ?_
  · go_simp
  simp only [Act.put, List.setIfInBounds_toArray, List.set_cons_zero, List.set_cons_succ]
  refine L8.takeT 2 (oi := { dst := some 7, op := Op.fieldAddr 73 (Operand.tmp 6) 1, type := 0, pos := "writer.go:21", after := #[{ on := 1, ground := Ground.data }], guard := none }) (v := .pointer (some ⟨b, 19, none⟩)) rfl (by kernel_rfl) (by kernel_rfl) (by kernel_rfl) (by decide) (Or.inl ⟨by rfl, fun W hW => ?_⟩) hSt ?_
  · go_simp
  simp only [Act.put, List.setIfInBounds_toArray, List.set_cons_zero, List.set_cons_succ]
  refine L8.takeT 3 (oi := { dst := some 8, op := Op.move (Operand.tmp 0), type := 39, pos := "writer.go:21", after := #[], guard := none }) (v := .pointer (some ⟨b, 0, none⟩)) rfl (by kernel_rfl) (by kernel_rfl) (by kernel_rfl) (by decide) (Or.inl ⟨by rfl, fun W hW => ?_⟩) hSt ?_
  · go_simp
  simp only [Act.put, List.setIfInBounds_toArray, List.set_cons_zero, List.set_cons_succ]
  refine L8.takeT 4 (oi := { dst := some 9, op := Op.nilCheck (Operand.tmp 8), type := 0, pos := "writer.go:21", after := #[{ on := 3, ground := Ground.data }], guard := none }) (v := .pointer (some ⟨b, 0, none⟩)) rfl (by kernel_rfl) (by kernel_rfl) (by kernel_rfl) (by decide) (Or.inl ⟨by rfl, fun W hW => ?_⟩) hSt ?_
  · go_simp
  simp only [Act.put, List.setIfInBounds_toArray, List.set_cons_zero, List.set_cons_succ]
  refine L8.takeT 5 (oi := { dst := some 10, op := Op.fieldAddr 73 (Operand.tmp 9) 0, type := 0, pos := "writer.go:21", after := #[{ on := 4, ground := Ground.data }], guard := none }) (v := .pointer (some ⟨b, 0, none⟩)) rfl (by kernel_rfl) (by kernel_rfl) (by kernel_rfl) (by decide) (Or.inl ⟨by rfl, fun W hW => ?_⟩) hSt ?_
  · go_simp
  simp only [Act.put, List.setIfInBounds_toArray, List.set_cons_zero, List.set_cons_succ]
  refine L8.takeT 6 (oi := { dst := some 11, op := Op.fieldAddr 27 (Operand.tmp 10) 0, type := 0, pos := "writer.go:21", after := #[{ on := 5, ground := Ground.data }], guard := none }) (v := .pointer (some ⟨b, 0, none⟩)) rfl (by kernel_rfl) (by kernel_rfl) (by kernel_rfl) (by decide) (Or.inl ⟨by rfl, fun W hW => ?_⟩) hSt ?_
  · go_simp
  simp only [Act.put, List.setIfInBounds_toArray, List.set_cons_zero, List.set_cons_succ]
  refine L8.takeT 7 (oi := { dst := some 12, op := Op.load 9 (Operand.tmp 11), type := 9, pos := "writer.go:21", after := #[{ on := 6, ground := Ground.data }], guard := none }) (v := .string ⟨N.toArray⟩) rfl (by kernel_rfl) (by kernel_rfl) (by kernel_rfl) (by decide) (Or.inl ⟨by rfl, fun W hW => ?_⟩) hSt ?_
  · have hWc := (show _ ∧ _ from hW).2
    go_simp
  simp only [Act.put, List.setIfInBounds_toArray, List.set_cons_zero, List.set_cons_succ]
  refine L8.takeT 8 (oi := { dst := some 13, op := Op.binOp BinOp.add 9 (Operand.const (Value.string { data := #[112, 114, 111, 100, 117, 99, 116, 32] })) (Operand.tmp 12) 9, type := 9, pos := "writer.go:21", after := #[{ on := 7, ground := Ground.data }], guard := none }) (v := .string ⟨(112 :: 114 :: 111 :: 100 :: 117 :: 99 :: 116 :: 32 :: N).toArray⟩) rfl (by kernel_rfl) (by kernel_rfl) (by kernel_rfl) (by decide) (Or.inl ⟨by rfl, fun W hW => ?_⟩) hSt ?_
  · go_simp
  simp only [Act.put, List.setIfInBounds_toArray, List.set_cons_zero, List.set_cons_succ]
  refine L8.takeT 9 (oi := { dst := some 14, op := Op.binOp BinOp.add 9 (Operand.tmp 13) (Operand.const (Value.string { data := #[32, 123, 10] })) 9, type := 9, pos := "writer.go:21", after := #[{ on := 8, ground := Ground.data }], guard := none }) (v := .string ⟨(112 :: 114 :: 111 :: 100 :: 117 :: 99 :: 116 :: 32 :: (N ++ [32, 123, 10])).toArray⟩) rfl (by kernel_rfl) (by kernel_rfl) (by kernel_rfl) (by decide) (Or.inl ⟨by rfl, fun W hW => ?_⟩) hSt ?_
  · go_simp
  simp only [Act.put, List.setIfInBounds_toArray, List.set_cons_zero, List.set_cons_succ]
  refine wpAnyH_ready (rs := [10]) (by kernel_rfl) (by simp) ?_
  refine AllReadyH.cons (o := { dst := some 15, op := Op.call { callee := Callee.value (Operand.func 34), args := #[Operand.tmp 7, Operand.tmp 14], argTypes := #[71, 9] }, type := 76, pos := "writer.go:21", after := #[{ on := 2, ground := Ground.data }, { on := 9, ground := Ground.data }], guard := none }) rfl (fun K hK => ?_) AllReadyH.nil
  go_simp
  refine Calls.mono (hWS.out _ (h.out.on hxz.out)) ?_
  rintro e wn ⟨rfl, hWn, hSn⟩
  try dsimp only
  have hE0 : (fun W => Ext w0 W ∧ W.cell? ⟨b, 0, none⟩ = some (.string ⟨N.toArray⟩)) wn := ⟨hWn.ext, hc0.out _ _ hWn⟩
  refine hK.out _ _ hE0 ?_
  clear hK K
  intro _
  try simp only [Act.put, List.setIfInBounds_toArray, List.set_cons_zero, List.set_cons_succ]
  refine wpAnyH_done (by kernel_rfl) (L8.ThrowQ.normal ?_) _
  rw [List.nil_append, ← htop.out] at hWn
  have hW := show Hid _ from hWn
  clear hE0 hWn hSn hSt g1 g2 g3 g4 g5 g6 g7 hWS hcc h hxz htop
  go_wp2_with fail
  refine Calls.mono (clauses_w b wn) ?_
  rintro e w1 ⟨⟨c, rfl, hrow, hcl⟩, hx1⟩
  have hcb : Hid (c ≠ b) := by have := hW.out.lt; show _ ≠ _; omega
  replace hW : Hid (Wrt w0 w1 b p vr vl vh (preL p 0)) := hW.out.on hx1
  replace hrow := show Hid _ from hrow
  clear hx1 hcl
  go_wp2_with fail
  go_loopw [19] (fun i wr => ∃ k : Nat, k ≤ 15 ∧ i = .int .i64 k ∧ Hid (Wrt w0 wr b p vr vl vh (preL p k)) ∧ Hid (wr.heap[c]? = some (Obj.cells (fcells b) 1 (0, 0)))) (fun i _ => 15 - (RowKit.intOf i).toNat)
  case atStart => exact ⟨0, by omega, rfl, hW, hrow⟩
  case round =>
  clear hW hrow
  obtain ⟨k, hk, rfl, hW, hrow⟩ := hrel
  by_cases hlt : k < 15
  · have hki : (k : Int) < 15 := by omega
    have hk0 : (0 : Int) ≤ (k : Int) := by omega
    obtain ⟨fn, hfn, hcell, hcal⟩ := hM.out k hlt
    have ck : wr.cell? ⟨c, k, none⟩ = some (.func (.func fn) #[.pointer (some ⟨b, 0, none⟩)] #[]) := (cell_of_row wr c k _ _ _ hrow.out).trans hcell
    replace hcal := show Hid _ from hcal wr hW.out
    have hsu : Hid (preL p (k + 1) = preL p k ++ rowsL (grpC p k)) := preL_succ p k
    clear hcell hM hc0
    rcases hfn with rfl | rfl | rfl | rfl | rfl | rfl | rfl | rfl | rfl | rfl | rfl | rfl | rfl | rfl | rfl
    all_goals
      go_wp2_with fail
      refine Calls.mono hcal.out ?_
      rintro e w2 ⟨rfl, hW2, hS2⟩
      clear hcal
      rw [← hsu.out] at hW2
      have hrow2 : Hid (w2.heap[c]? = some (Obj.cells (fcells b) 1 (0, 0))) := hS2.keep c _ _ (by decide) hcb.out hrow.out
      replace hW2 := show Hid _ from hW2
      clear hS2 hW hrow ck hsu
      go_wp2
      go_roundw
      case rel => exact ⟨k + 1, by omega, by go_num, hW2, hrow2⟩
      case measure => simp [RowKit.intOf]; omega
  · obtain rfl : k = 15 := by omega
    have hl := hpl.out 15 (Nat.le_refl _)
    clear hM hc0 hrow
    go_wp2_with fail
    refine Calls.mono (WriteString_w w0 wr b p vr vl vh (preL p 15) [125, 10] hW.out (by simp only [List.length_cons, List.length_nil]; omega)) ?_
    rintro e w2 ⟨rfl, hW2, hS2⟩
    rw [← hpt.out] at hW2
    replace hW2 := show Hid _ from hW2
    clear hS2 hW hl
    go_wp2_with fail
    refine Calls.mono (String_w w0 w2 b p vr vl vh (prt p) hW2.out (by rw [hpt.out]; simp)) ?_
    rintro e w3 ⟨rfl, hx3⟩
    replace hx3 := show Hid _ from hx3
    clear hW2
    go_wp2
    go_ret
    exact ⟨rfl, hx3.out⟩
set_option maxRecDepth 100000 in
set_option maxHeartbeats 1000000 in
/-- Print of any product whose lists are so. -/
theorem Print_w (p : Prd) (vr vl vh : Value) (w : World) (he : Hid (Pnv w)) (hnm : p.nm.length ≤ 30000) (hf : p.rs.length + p.lt.length + p.hd.length ≤ 30000) (sr : L8.Slp w vr p.rs) (sl : L8.Slp w vl p.lt) (sh : L8.Slc w vh p.hd) :
    Calls Tryz.prog 5 #[.agg (pcells p vr vl vh)] w fun e w' => e = .returned (.tuple (if okP p then #[.string ⟨(prt p).toArray⟩, .int .i64 0] else #[.string ⟨#[]⟩, .int .i64 9])) ∧ Ext w w' := by
  have hone := pcells_slp sr sl sh
  have hbox := box_prod p vr vl vh hone
  obtain ⟨W1, b, hW1, hb, hx1, hB1⟩ : ∃ W b, w.alloc (.cells (pcells p vr vl vh) 27) = W ∧ w.heap.size = b ∧ Ext w W ∧ Blk W b (pcells p vr vl vh) := ⟨_, _, rfl, rfl, (Ext.refl w).alloc _ _, heap_alloc_last w _⟩
  have hsz : (pcells p vr vl vh).size = 19 := rfl
  have hC := Check_p p vr vl vh W1 hnm hf (sr.ext hx1) (sl.ext hx1) (sh.ext hx1)
  obtain ⟨B, hok⟩ : ∃ B, okP p = B := ⟨_, rfl⟩
  rw [hok] at hC ⊢
  replace hC := show Hid _ from hC
  replace sr : Hid (L8.Slp w vr p.rs) := sr
  replace sl : Hid (L8.Slp w vl p.lt) := sl
  replace sh : Hid (L8.Slc w vh p.hd) := sh
  have hx := show Hid _ from hx1
  go_enter Tryz.func5, Tryz.ntmps5
  go_wp2_with (refine load27 hB1 hsz rfl rfl rfl ?_)
  refine Calls.mono hC.out ?_
  rintro e w2 ⟨rfl, hx2⟩
  replace hB1 := show Hid _ from hB1.ext hx2
  replace hx : Hid (Ext w w2) := hx.out.trans hx2
  clear hC hbox hW1 hb hx1 hx2 hone
  cases B
  case false =>
    simp only [Bool.false_eq_true, if_false]
    go_wp2
    go_ret2
    exact ⟨rfl, hx.out⟩
  simp only [if_true]
  have hB2 := hB1.out
  go_wp2_with (refine load27 hB2 hsz rfl rfl rfl ?_)
  refine Calls.mono (newWriter_w p vr vl vh w2 (sr.out.ext hx.out) (sl.out.ext hx.out) (sh.out.ext hx.out)) ?_
  rintro e w3 ⟨c, rfl, hW⟩
  replace hW := show Hid _ from hW
  clear hB2
  go_wp2_with fail
  refine Calls.mono (all_w w2 w3 c p vr vl vh hok (he.out.ext hx.out) (sr.out.ext hx.out) (sl.out.ext hx.out) (sh.out.ext hx.out) hW.out) ?_
  rintro e w4 ⟨rfl, hx4⟩
  replace hx : Hid (Ext w w4) := hx.out.trans hx4
  clear hx4 hW
  have hpl := prt_len hok
  go_wp2_with fail
  refine Calls.mono (fitted_w (prt p) (by omega) w4) ?_
  rintro e w5 ⟨rfl, rfl⟩
  clear hpl
  go_wp2
  go_ret2
  exact ⟨rfl, hx.out⟩
end Go.Proofs.YtbnpaeejlfaboaaGreatDoor

namespace Go.Proofs.YtbnpaeejlfaboaaGreatDoor
open Go.RowKit Go.Lib
set_option linter.unusedVariables false
/-- Package play's plain product. -/
def plnP : Prd := ⟨[104, 111, 109, 101], 2, 1, 1, 1, 12, 0, 60000000, [], 100000000, 1, 2, 3, 4, 1, [], 0, 1, []⟩
theorem plnP_ok : okP plnP = true := by decide +kernel
theorem pln_cells : L8.plainA = pcells plnP (.slice none 0 0) (.slice none 0 0) (.slice none 0 0) := rfl
theorem rows_least : ∀ l : List Cl, 4 * l.length ≤ (rowsL l).length
  | [] => Nat.le_refl _
  | c :: l => by
    have h := rows_least l
    rw [rowsL_cons, List.length_append]
    have e : (rowL c).length = (spL c.ws).length + 4 := by unfold rowL lineL; simp
    simp only [List.length_cons]
    omega
theorem pln_text : ∃ R, prt plnP = [112, 114, 111, 100, 117, 99, 116, 32, 104, 111, 109, 101, 32, 123, 10] ++ R ∧ 48 ≤ R.length := by
  refine ⟨rowsL (cls plnP) ++ [125, 10], rfl, ?_⟩
  have h := rows_least (cls plnP)
  rw [cls_len] at h
  rw [List.length_append]
  have : plnP.rs.length = 0 ∧ plnP.lt.length = 0 ∧ plnP.hd.length = 0 := ⟨rfl, rfl, rfl⟩
  omega
set_option maxRecDepth 100000 in
set_option maxHeartbeats 1000000 in
theorem awake_w (w : World) (he : Hid (Pnv w)) : Calls Tryz.prog 4 #[] w fun e w' => e = .returned (.bool true) ∧ Ext w w' := by
  go_enter Tryz.func4, Tryz.ntmps4
  go_wp2_with fail
  refine (L8.Plain_c _).mono ?_
  rintro e w1 ⟨rfl, hx1⟩
  have hP := Print_w plnP (.slice none 0 0) (.slice none 0 0) (.slice none 0 0) w1 (he.out.ext hx1) (by decide) (by decide) (L8.nilr w1) (L8.nilr w1) (L8.nilh w1)
  rw [← pln_cells, plnP_ok, if_pos rfl] at hP
  obtain ⟨R, hR, hl⟩ := pln_text
  obtain ⟨L, hL⟩ : ∃ L, prt plnP = L := ⟨_, rfl⟩
  rw [hL] at hP hR
  have h1 : (50 : Int) < (L.length : Int) := by rw [hR, List.length_append]; simp only [List.length_cons, List.length_nil]; omega
  have h1n : 50 < L.length := by omega
  have h2 : (15 : Int) ≤ (L.length : Int) := by omega
  have h2n : 15 ≤ L.length := by omega
  have h3 : (⟨L.toArray⟩ : ByteArray).extract 0 15 = ⟨#[112, 114, 111, 100, 117, 99, 116, 32, 104, 111, 109, 101, 32, 123, 10]⟩ := by
    rw [L7.ext_part, hR]
    rfl
  replace hP := show Hid _ from hP
  replace hx1 := show Hid _ from hx1
  clear hR hL hl
  go_wp2_with fail
  refine Calls.mono hP.out ?_
  rintro e w2 ⟨rfl, hx2⟩
  clear hP
  replace hx1 := show Hid _ from hx1.out.trans hx2
  clear hx2
  go_wp2
  go_ret
  exact ⟨rfl, hx1.out⟩
end Go.Proofs.YtbnpaeejlfaboaaGreatDoor

namespace Go.Proofs.YtbnpaeejlfaboaaGreatDoor
open Go.RowKit Go.Lib
set_option linter.unusedVariables false
theorem lex_end2 (p : Nat) (r : List UInt8) : L7.lex p ([59, 10] ++ r) = (⟨3, p, [59]⟩ :: (L7.lex (p + 2) r).1, (L7.lex (p + 2) r).2) := by
  rw [L7.lex_piece (T := [⟨3, 0, [59]⟩]) (by kernel_rfl) (by decide) (by decide)]
  simp [L7.shT]
theorem lex_bl (p : Nat) (r : List UInt8) : L7.lex p ([32] ++ r) = ((L7.lex (p + 1) r).1, (L7.lex (p + 1) r).2) := by
  rw [L7.lex_piece (T := []) (by kernel_rfl) (by decide) (by decide)]
  simp
theorem lex_arg {a : List UInt8} (h : Arg a) (p : Nat) {c : UInt8} (hc : L7.closer c = true) (r : List UInt8) : ∃ t, L7.lex p (a ++ (c :: r)) = (t :: (L7.lex (p + a.length) (c :: r)).1, (L7.lex (p + a.length) (c :: r)).2) ∧ t.text = a := by
  obtain ⟨k, hk⟩ := h.ex
  exact ⟨⟨k, p, a⟩, L7.lex_then (hk p) h.no35 (L7.closer_stops hc r), rfl⟩
theorem lex_sp : ∀ (l : List (List UInt8)), l ≠ [] → (∀ a ∈ l, Arg a) → ∀ (p : Nat) (r : List UInt8), ∃ T, L7.lex p (spL l ++ ([59, 10] ++ r)) = (T ++ (L7.lex (p + ((spL l).length + 2)) r).1, (L7.lex (p + ((spL l).length + 2)) r).2) ∧ T.map (·.text) = l ++ [[59]]
  | [], h, _, _, _ => absurd rfl h
  | [a], _, hA, p, r => by
    obtain ⟨t, h1, h2⟩ := lex_arg (hA a (by simp)) p (c := 59) (by decide) (10 :: r)
    refine ⟨[t, ⟨3, p + a.length, [59]⟩], ?_, by simp [h2]⟩
    show L7.lex p (a ++ (59 :: 10 :: r)) = _
    rw [h1, show (59 : UInt8) :: 10 :: r = [59, 10] ++ r from rfl, lex_end2]
    simp [spL, Nat.add_assoc]
  | a :: b :: s, _, hA, p, r => by
    obtain ⟨t, h1, h2⟩ := lex_arg (hA a (by simp)) p (c := 32) (by decide) (spL (b :: s) ++ ([59, 10] ++ r))
    obtain ⟨T, h3, h4⟩ := lex_sp (b :: s) (by simp) (fun x hx => hA x (List.mem_cons_of_mem _ hx)) (p + a.length + 1) r
    refine ⟨t :: T, ?_, by simp [h2, h4]⟩
    rw [show spL (a :: b :: s) ++ ([59, 10] ++ r) = a ++ (32 :: (spL (b :: s) ++ ([59, 10] ++ r))) by simp [spL]]
    rw [h1, show (32 : UInt8) :: (spL (b :: s) ++ ([59, 10] ++ r)) = [32] ++ (spL (b :: s) ++ ([59, 10] ++ r)) from rfl, lex_bl, h3]
    have e : (spL (a :: b :: s)).length = a.length + 1 + (spL (b :: s)).length := by simp [spL]; omega
    rw [e, show p + (a.length + 1 + (spL (b :: s)).length + 2) = p + a.length + 1 + ((spL (b :: s)).length + 2) by omega]
    simp
/-- The words of a clause, and its end. -/
def wrd (c : Cl) : List (List UInt8) := c.ws ++ [[59]]
theorem lex_row {c : Cl} (h : Cls c) (p : Nat) (r : List UInt8) : ∃ T, L7.lex p (rowL c ++ r) = (T ++ (L7.lex (p + (rowL c).length) r).1, (L7.lex (p + (rowL c).length) r).2) ∧ T.map (·.text) = wrd c := by
  obtain ⟨w, args, hw, _⟩ := h.tell
  obtain ⟨T, h1, h2⟩ := lex_sp c.ws (by rw [hw]; simp) h.arg (p + 2) r
  refine ⟨T, ?_, h2⟩
  have e : rowL c ++ r = [32] ++ ([32] ++ (spL c.ws ++ ([59, 10] ++ r))) := by unfold rowL lineL; simp
  have el : (rowL c).length = (spL c.ws).length + 4 := by unfold rowL lineL; simp
  rw [e, lex_bl, lex_bl, h1, el, show p + 2 + ((spL c.ws).length + 2) = p + ((spL c.ws).length + 4) by omega]
theorem lex_rows : ∀ (l : List Cl), (∀ c ∈ l, Cls c) → ∀ (p : Nat) (r : List UInt8), ∃ T, L7.lex p (rowsL l ++ r) = (T ++ (L7.lex (p + (rowsL l).length) r).1, (L7.lex (p + (rowsL l).length) r).2) ∧ T.map (·.text) = l.flatMap wrd
  | [], _, p, r => ⟨[], by simp [rowsL_nil], rfl⟩
  | c :: l, h, p, r => by
    obtain ⟨T, h1, h2⟩ := lex_row (h c (by simp)) p (rowsL l ++ r)
    obtain ⟨S, h3, h4⟩ := lex_rows l (fun d hd => h d (List.mem_cons_of_mem _ hd)) (p + (rowL c).length) r
    refine ⟨T ++ S, ?_, by simp [h2, h4]⟩
    rw [rowsL_cons, List.append_assoc, h1, h3, List.length_append, Nat.add_assoc, List.append_assoc]
theorem lex_prt {p : Prd} (hp : okP p = true) : ∃ t0 t1 t2 T t9, L7.lex 0 (prt p) = (t0 :: t1 :: t2 :: (T ++ [t9]), none) ∧ t0.text = prodL ∧ t1.text = p.nm ∧ t2.text = [123] ∧ T.map (·.text) = (cls p).flatMap wrd ∧ t9.text = [125] := by
  have hK := okf hp
  obtain ⟨t1, h1, e1⟩ := lex_arg (arg_name hK.nm) 8 (c := 32) (by decide) ([123, 10] ++ (rowsL (cls p) ++ [125, 10]))
  obtain ⟨T, h2, e2⟩ := lex_rows (cls p) (cls_all hp) (8 + p.nm.length + 1 + 2) [125, 10]
  refine ⟨⟨1, 0, prodL⟩, t1, ⟨3, 8 + p.nm.length + 1, [123]⟩, T, ⟨3, 8 + p.nm.length + 1 + 2 + (rowsL (cls p)).length, [125]⟩, ?_, rfl, e1, rfl, e2, rfl⟩
  have e : prt p = [112, 114, 111, 100, 117, 99, 116, 32] ++ (p.nm ++ (32 :: ([123, 10] ++ (rowsL (cls p) ++ [125, 10])))) := by unfold prt topL; simp
  rw [e, L7.lex_piece (T := [⟨1, 0, prodL⟩]) (by kernel_rfl) (by decide) (by decide)]
  rw [show 0 + ([112, 114, 111, 100, 117, 99, 116, 32] : List UInt8).length = 8 from rfl, h1]
  rw [show (32 : UInt8) :: ([123, 10] ++ (rowsL (cls p) ++ [125, 10])) = [32] ++ ([123, 10] ++ (rowsL (cls p) ++ [125, 10])) from rfl, lex_bl]
  rw [L7.lex_piece (T := [⟨3, 0, [123]⟩]) (by kernel_rfl) (by decide) (by decide)]
  rw [show 8 + p.nm.length + 1 + ([123, 10] : List UInt8).length = 8 + p.nm.length + 1 + 2 from rfl, h2]
  rw [L7.lex_at (T := [⟨3, 0, [125]⟩]) (by kernel_rfl)]
  simp [L7.shT]
/-- What clauses, one behind the other, come to; and which there were. -/
def runC (l : List Cl) (p : Prd) : Prd := l.foldl (fun q c => c.f q) p
def hadC (l : List Cl) (h : Nat → Bool) : Nat → Bool := l.foldl (fun g c => seen g c.i) h
/-- May each be there? -/
def mayC : List Nat → (Nat → Bool) → Bool
  | [], _ => true
  | i :: l, h => (often i || !h i) && mayC l (seen h i)
theorem map_split {us : List Tok} {l m : List (List UInt8)} (h : us.map (·.text) = l ++ m) : ∃ vs ws, us = vs ++ ws ∧ vs.map (·.text) = l ∧ ws.map (·.text) = m := by
  obtain ⟨vs, ws, h1, h2, h3⟩ := List.map_eq_append_iff.1 h
  exact ⟨vs, ws, h1, h2, h3⟩
theorem map_cons {us : List Tok} {q : List UInt8} {m : List (List UInt8)} (h : us.map (·.text) = q :: m) : ∃ t ws, us = t :: ws ∧ t.text = q ∧ ws.map (·.text) = m := by
  cases us with
  | nil => cases h
  | cons t ws =>
    simp only [List.map_cons, List.cons.injEq] at h
    exact ⟨t, ws, rfl, h.1, h.2⟩
theorem grp_run (d : Nat) : ∀ (l : List Cl), (∀ c ∈ l, Cls c) → ∀ (T rest : List Tok) (p : Prd) (h : Nat → Bool), T.map (·.text) = l.flatMap wrd → mayC (l.map (·.i)) h = true → Fine ⟨T ++ rest, p, h⟩ →
    grpR d ⟨T ++ rest, p, h⟩ = grpR d ⟨rest, runC l p, hadC l h⟩ ∧ Fine ⟨rest, runC l p, hadC l h⟩
  | [], _, T, rest, p, h, hT, _, hf => by
    obtain rfl : T = [] := by simpa using hT
    exact ⟨rfl, hf⟩
  | c :: l, hC, T, rest, p, h, hT, ho, hf => by
    obtain ⟨w, args, hw, hi, h15, hr⟩ := (hC c (by simp)).tell
    rw [List.flatMap_cons] at hT
    obtain ⟨U, V, rfl, hU, hV⟩ := map_split hT
    unfold wrd at hU
    rw [hw, List.cons_append] at hU
    obtain ⟨t, U2, rfl, ht, hU2⟩ := map_cons hU
    obtain ⟨us, E, rfl, hus, hE⟩ := map_split hU2
    obtain ⟨e, rfl, he⟩ := map_one hE
    simp only [List.map_cons, mayC, Bool.and_eq_true] at ho
    have e1 : (t :: (us ++ [e])) ++ V ++ rest = t :: (us ++ e :: (V ++ rest)) := by simp
    rw [e1] at hf ⊢
    obtain ⟨k1, k2⟩ := grp_clause (d := d) (by rw [ht]; exact hi) h15 ho.1 (hr p us (e :: (V ++ rest)) hus) he hf
    rw [k1]
    exact grp_run d l (fun x hx => hC x (List.mem_cons_of_mem _ hx)) V rest _ _ hV ho.2 k2
theorem mayC_app : ∀ (l m : List Nat) (h : Nat → Bool), mayC (l ++ m) h = (mayC l h && mayC m (l.foldl seen h))
  | [], m, h => by simp [mayC]
  | i :: l, m, h => by
    rw [List.cons_append, mayC, mayC, mayC_app l m, List.foldl_cons, Bool.and_assoc]
theorem mayC_rep (i : Nat) (hi : often i = true) : ∀ (n : Nat) (h : Nat → Bool), mayC (List.replicate n i) h = true
  | 0, _ => rfl
  | n + 1, h => by rw [List.replicate_succ, mayC, hi, mayC_rep i hi n]; rfl
theorem seen_rep (i j : Nat) (hj : j ≠ i) : ∀ (n : Nat) (h : Nat → Bool), (List.replicate n i).foldl seen h j = h j
  | 0, _ => rfl
  | n + 1, h => by
    rw [List.replicate_succ, List.foldl_cons, seen_rep i j hj n]
    unfold seen
    rw [show (j == i) = false by simpa using hj, Bool.or_false]
theorem seen_keep (l : List Nat) : ∀ (h : Nat → Bool) (j : Nat), h j = true → l.foldl seen h j = true := by
  induction l with
  | nil => exact fun h j hj => hj
  | cons i l ih => exact fun h j hj => ih _ _ (by unfold seen; rw [hj]; rfl)
theorem hadC_eq (l : List Cl) (h : Nat → Bool) : hadC l h = (l.map (·.i)).foldl seen h := by
  unfold hadC
  rw [List.foldl_map]
theorem idx_cls (p : Prd) : (cls p).map (·.i) = [0, 1, 2, 3, 4, 5, 6, 7] ++ (List.replicate p.rs.length 8 ++ ([12, 13] ++ (List.replicate p.lt.length 9 ++ ([10, 14] ++ List.replicate p.hd.length 11)))) := by
  rw [cls_eq]
  simp only [List.map_append, List.map_cons, List.map_nil, List.map_map]
  have e1 : p.rs.map ((fun c => Cl.i c) ∘ cReset) = List.replicate p.rs.length 8 := by
    rw [List.eq_replicate_iff]
    refine ⟨by simp, fun b hb => ?_⟩
    obtain ⟨x, _, rfl⟩ := List.mem_map.1 hb
    rfl
  have e2 : p.lt.map ((fun c => Cl.i c) ∘ cLate) = List.replicate p.lt.length 9 := by
    rw [List.eq_replicate_iff]
    refine ⟨by simp, fun b hb => ?_⟩
    obtain ⟨x, _, rfl⟩ := List.mem_map.1 hb
    rfl
  have e3 : p.hd.map ((fun c => Cl.i c) ∘ cHol) = List.replicate p.hd.length 11 := by
    rw [List.eq_replicate_iff]
    refine ⟨by simp, fun b hb => ?_⟩
    obtain ⟨x, _, rfl⟩ := List.mem_map.1 hb
    rfl
  rw [e1, e2, e3]
  rfl
theorem seen_two (h : Nat → Bool) (i j k : Nat) (h1 : k ≠ i) (h2 : k ≠ j) : ([i, j] : List Nat).foldl seen h k = h k := by
  show ((h k || k == i) || k == j) = h k
  rw [show (k == i) = false by simpa using h1, show (k == j) = false by simpa using h2, Bool.or_false, Bool.or_false]
theorem may_cls (p : Prd) : mayC ((cls p).map (·.i)) had0 = true := by
  rw [idx_cls]
  rw [mayC_app, mayC_app, mayC_app, mayC_app, mayC_app]
  rw [mayC_rep 8 (by decide), mayC_rep 9 (by decide), mayC_rep 11 (by decide)]
  rw [show mayC [0, 1, 2, 3, 4, 5, 6, 7] had0 = true by decide]
  have one : ∀ (i j : Nat) (h : Nat → Bool), i ≠ j → h i = false → h j = false → mayC [i, j] h = true := by
    intro i j h hij hi hj
    simp [mayC, seen, hi, hj, Ne.symm hij]
  rw [one 12 13 _ (by decide) ?_ ?_, one 10 14 _ (by decide) ?_ ?_]
  · rfl
  · rw [seen_rep 9 10 (by decide), seen_two _ _ _ _ (by decide) (by decide), seen_rep 8 10 (by decide)]; decide
  · rw [seen_rep 9 14 (by decide), seen_two _ _ _ _ (by decide) (by decide), seen_rep 8 14 (by decide)]; decide
  · rw [seen_rep 8 12 (by decide)]; decide
  · rw [seen_rep 8 13 (by decide)]; decide
theorem whole_cls (p : Prd) : whole (hadC (cls p) had0) = true := by
  rw [hadC_eq, idx_cls]
  rw [List.foldl_append, List.foldl_append, List.foldl_append]
  unfold whole
  simp only [Bool.and_eq_true]
  have k : ∀ j, j = 0 ∨ j = 1 ∨ j = 2 ∨ j = 3 ∨ j = 4 ∨ j = 6 → (List.replicate p.lt.length 9 ++ ([10, 14] ++ List.replicate p.hd.length 11)).foldl seen (([12, 13] : List Nat).foldl seen ((List.replicate p.rs.length 8).foldl seen (([0, 1, 2, 3, 4, 5, 6, 7] : List Nat).foldl seen had0))) j = true := by
    intro j hj
    refine seen_keep _ _ _ (seen_keep _ _ _ (seen_keep _ _ _ ?_))
    rcases hj with rfl | rfl | rfl | rfl | rfl | rfl <;> decide
  refine ⟨k 0 (by simp), k 1 (by simp), k 2 (by simp), k 3 (by simp), k 4 (by simp), k 6 (by simp), seen_keep _ _ _ ?_⟩
  simp [seen]
theorem run_rs : ∀ (l : List (Int × Int)) (q : Prd), runC (l.map cReset) q = { q with rs := q.rs ++ l }
  | [], q => by simp [runC]
  | x :: l, q => by
    show runC (l.map cReset) { q with rs := q.rs ++ [x] } = _
    rw [run_rs l]
    simp
theorem run_lt : ∀ (l : List (Int × Int)) (q : Prd), runC (l.map cLate) q = { q with lt := q.lt ++ l }
  | [], q => by simp [runC]
  | x :: l, q => by
    show runC (l.map cLate) { q with lt := q.lt ++ [x] } = _
    rw [run_lt l]
    simp
theorem run_hd : ∀ (l : List Int) (q : Prd), runC (l.map cHol) q = { q with hd := q.hd ++ l }
  | [], q => by simp [runC]
  | x :: l, q => by
    show runC (l.map cHol) { q with hd := q.hd ++ [x] } = _
    rw [run_hd l]
    simp
theorem runC_app (l m : List Cl) (q : Prd) : runC (l ++ m) q = runC m (runC l q) := by unfold runC; rw [List.foldl_append]
theorem run_cls (p : Prd) : runC (cls p) { prd0 with nm := p.nm } = p := by
  rw [cls_eq, runC_app, runC_app, runC_app, runC_app, runC_app, run_rs, run_lt, run_hd]
  cases p
  rfl
/-- What is printed is read as what it is. -/
theorem prs_prt {p : Prd} (hp : okP p = true) : prs (prt p) = .ok p := by
  have hl : (prt p).length ≤ 20000 := by have := prt_len hp; omega
  obtain ⟨t0, t1, t2, T, t9, hx, h0, h1, h2, hT, h9⟩ := lex_prt hp
  have hf := fine_text hx hl { prd0 with nm := p.nm } rfl had0
  rw [prs_of hx hl]
  clear hx
  generalize (prt p).length = N at *
  simp only [List.cons_append, List.append_assoc] at hf ⊢
  have f1 := hf.next (s := ⟨t0 :: t1 :: t2 :: (T ++ ([t9] ++ [⟨0, N, []⟩])), { prd0 with nm := p.nm }, had0⟩) rfl (by rw [h0]; decide)
  have hn := (okf hp).nm
  have hne : p.nm ≠ [] := by
    rintro e
    rw [e] at hn
    exact absurd hn (by decide)
  have f2 := f1.next (s := ⟨t1 :: t2 :: (T ++ ([t9] ++ [⟨0, N, []⟩])), { prd0 with nm := p.nm }, had0⟩) rfl (by rw [h1]; exact hne)
  have f3 := f2.next (s := ⟨t2 :: (T ++ ([t9] ++ [⟨0, N, []⟩])), { prd0 with nm := p.nm }, had0⟩) rfl (by rw [h2]; decide)
  obtain ⟨k1, k2⟩ := grp_run 1 (cls p) (cls_all hp) T ([t9] ++ [⟨0, N, []⟩]) { prd0 with nm := p.nm } had0 hT (may_cls p) f3
  rw [run_cls] at k1
  have hwh := whole_cls p
  generalize hadC (cls p) had0 = H at *
  have hg : grpR 1 (st0 t1.text (T ++ ([t9] ++ [⟨0, N, []⟩]))) = .ok ⟨[⟨0, N, []⟩], p, H⟩ := by
    unfold st0
    rw [h1, k1]
    exact grpR_shut (s := ⟨[t9] ++ [⟨0, N, []⟩], p, H⟩) (t := t9) (ts := [⟨0, N, []⟩]) rfl h9
  obtain ⟨u, hu⟩ : ∃ u : St, u = ⟨[⟨0, N, []⟩], p, H⟩ := ⟨_, rfl⟩
  rw [← hu] at hg
  have e1 : u.ts = ⟨0, N, []⟩ :: [] := by rw [hu]
  have e2 : whole u.had = true := by rw [hu]; exact hwh
  have e3 : u.p = p := by rw [hu]
  have hfin := text_end h0 (by rw [h1]; exact hn) h2 hg e1 rfl e2 (by rw [e3]; exact hp)
  rw [e3] at hfin
  exact hfin
end Go.Proofs.YtbnpaeejlfaboaaGreatDoor

namespace Go.Proofs.YtbnpaeejlfaboaaGreatDoor
open Go.RowKit Go.Lib
set_option linter.unusedVariables false
/-- Not an error of number nought. -/
def Nz {α : Type} (r : Res α) : Prop := ∀ y, r ≠ .no 0 y
theorem Nz.ok {α : Type} (a : α) : Nz (.ok a : Res α) := fun y h => by cases h
theorem Nz.no {α : Type} {e p : Nat} (h : e ≠ 0) : Nz (.no e p : Res α) := fun y hy => by
  injection hy with h1 _
  exact h h1
theorem Nz.bind {α β : Type} {r : Res α} {f : α → Res β} (h : Nz r) (hf : ∀ a, r = .ok a → Nz (f a)) : Nz (r.bind f) := by
  cases r with
  | ok a => exact hf a rfl
  | no e p =>
    refine Nz.no ?_
    rintro rfl
    exact h p rfl
theorem tk_nz {f : List UInt8 → Option Int} {s : St} (hf : Fine s) : Nz (tk f s.ts) := by
  obtain ⟨t, ts, hs, _, _⟩ := hf.cons
  rw [hs]
  cases hp : f t.text with
  | none => rw [tk_none hp]; exact Nz.no (by decide)
  | some v => rw [tk_some hp]; exact Nz.ok _
theorem tk_one {f : List UInt8 → Option Int} {s : St} {b : Int × List Tok} (hf : Fine s) (hn : f [] = none) (hb : tk f s.ts = .ok b) : Fine { s with ts := b.2 } := by
  obtain ⟨t, ts, hs, _, _⟩ := hf.cons
  rw [hs] at hb
  cases hp : f t.text with
  | none => rw [tk_none hp] at hb; cases hb
  | some v =>
    rw [tk_some hp] at hb
    obtain rfl : (v, ts) = b := by simpa using hb
    exact hf.next hs (some_ne hn hp)
theorem one_nz {f : List UInt8 → Option Int} {g : Int × List Tok → Prd × List Tok} {s : St} (hf : Fine s) : Nz ((tk f s.ts).bind fun b => Res.ok (g b)) := Nz.bind (tk_nz hf) fun _ _ => Nz.ok _
theorem two_nz {f g : List UInt8 → Option Int} {q : Int → Int × List Tok → Prd × List Tok} {s : St} (hf : Fine s) (hn : f [] = none) : Nz ((tk f s.ts).bind fun a => (tk g a.2).bind fun b => Res.ok (q a.1 b)) :=
  Nz.bind (tk_nz hf) fun _ h => Nz.bind (tk_nz (tk_one hf hn h)) fun _ _ => Nz.ok _
theorem less_sub {o : Opts} {v : Int} (h : ∀ x ∈ o, x.1 ≠ []) : ∀ x ∈ lessO o v, x.1 ≠ [] := fun x hx => h x (List.mem_filter.1 hx).1
theorem order_nz {s : St} (hf : Fine s) : Nz (orderR s.p s.ts) := by
  have h0 : ∀ x ∈ oOrder, x.1 ≠ [] := by decide
  unfold orderR
  refine Nz.bind (tk_nz hf) fun a ha => ?_
  have f1 := tk_one hf (pick_nil h0) ha
  refine Nz.bind (tk_nz f1) fun b hb => ?_
  have f2 := tk_one f1 (pick_nil (less_sub h0)) hb
  refine Nz.bind (tk_nz f2) fun c hc => ?_
  have f3 := tk_one f2 (pick_nil (less_sub (less_sub h0))) hc
  exact Nz.bind (tk_nz f3) fun d _ => Nz.ok _
theorem clause_nz : ∀ (i : Nat) {s : St}, i < 15 → Fine s → Nz (clauseR i s.p s.ts)
  | 0, s, _, hf => one_nz (g := fun a => ({ s.p with cn := a.1 }, a.2)) hf
  | 1, s, _, hf => one_nz (g := fun a => ({ s.p with rd := a.1 }, a.2)) hf
  | 2, s, _, hf => one_nz (g := fun a => ({ s.p with kd := a.1 }, a.2)) hf
  | 3, s, _, hf => one_nz (g := fun a => ({ s.p with ev := a.1 }, a.2)) hf
  | 4, s, _, hf => one_nz (g := fun a => ({ s.p with tm := a.1 }, a.2)) hf
  | 5, s, _, hf => one_nz (g := fun a => ({ s.p with gr := a.1 }, a.2)) hf
  | 6, s, _, hf => one_nz (g := fun a => ({ s.p with rt := a.1 }, a.2)) hf
  | 7, s, _, hf => one_nz (g := fun a => ({ s.p with pn := a.1 }, a.2)) hf
  | 8, s, _, hf => two_nz (q := fun u b => ({ s.p with rs := s.p.rs ++ [(u, b.1)] }, b.2)) hf num_nil
  | 9, s, _, hf => two_nz (q := fun u b => ({ s.p with lt := s.p.lt ++ [(u, b.1)] }, b.2)) hf num_nil
  | 10, s, _, hf => one_nz (g := fun a => ({ s.p with cp := a.1 }, a.2)) hf
  | 11, s, _, hf => one_nz (g := fun a => ({ s.p with hd := s.p.hd ++ [a.1] }, a.2)) hf
  | 12, s, _, hf => order_nz hf
  | 13, s, _, hf => one_nz (g := fun a => ({ s.p with ov := a.1 }, a.2)) hf
  | 14, s, _, hf => one_nz (g := fun a => ({ s.p with rl := a.1 }, a.2)) hf
  | i + 15, s, h, _ => by omega
theorem clR_nz {s : St} {t : Tok} (hf : Fine s) : Nz (clR t s) := by
  unfold clR
  split
  · rename_i hi
    split
    · refine Nz.bind (clause_nz _ hi hf) fun a ha => ?_
      obtain ⟨h1, _⟩ := reads_fine hf ha (seen s.had (which t.text))
      obtain ⟨t6, ts6, hs6, _, _⟩ := h1.cons
      have hs6' : a.2 = t6 :: ts6 := hs6
      rw [hs6']
      refine Nz.bind ?_ fun _ _ => Nz.ok _
      by_cases hq : t6.text = [59]
      · rw [xp_ok hq]; exact Nz.ok _
      · rw [xp_no hq]; exact Nz.no (by decide)
    · exact Nz.no (by decide)
  · exact Nz.no (by decide)
theorem grp_nz : ∀ (f d : Nat) (s : St), Fine s → s.ts.length < f → Nz (grp f d s)
  | 0, d, s, _, h => by omega
  | f + 1, d, s, hf, hl => by
    obtain ⟨t, ts, hs, _, _⟩ := hf.cons
    have hl2 : ts.length < f := by rw [hs] at hl; simp only [List.length_cons] at hl; omega
    rw [grp, hs]
    simp only []
    split
    · exact Nz.ok _
    · split
      · rename_i hq
        have hf1 := hf.next hs (by rw [hq]; simp)
        split
        · refine Nz.bind (grp_nz f (d + 1) _ hf1 hl2) fun v hv => ?_
          obtain ⟨h1, h2⟩ := grp_fine f (d + 1) _ v hf1 hv
          have h3 : v.ts.length < ts.length := h2
          exact grp_nz f d v h1 (by omega)
        · exact Nz.no (by decide)
      · by_cases hn : t.text = []
        · have h7 : clR t { s with ts := ts } = .no 7 t.at_ := by unfold clR; rw [hn]; rfl
          rw [h7]
          exact Nz.no (by decide)
        · have hf1 := hf.next hs hn
          refine Nz.bind (clR_nz hf1) fun v hv => ?_
          obtain ⟨h1, h2⟩ := clR_fine hf1 hv
          have h3 : v.ts.length < ts.length := h2
          exact grp_nz f d v h1 (by omega)
/-- What signs tell: an error is one, and a product may be. -/
theorem textR_nz {T : List Tok} (hf : Fine ⟨T, prd0, had0⟩) : Nz (textR T) ∧ ∀ p, textR T = .ok p → okP p = true := by
  have stop : ∀ {X : Res Prd} {a : Nat}, X = .no 7 a → Nz X ∧ ∀ p, X = .ok p → okP p = true := by
    rintro X a rfl
    exact ⟨Nz.no (by decide), fun p h => by cases h⟩
  obtain ⟨t0, ts, hs, _, _⟩ := hf.cons
  have hs' : T = t0 :: ts := hs
  subst hs'
  by_cases hq : t0.text = prodL
  case neg => exact stop (textR_a hq)
  have hf2 := hf.next rfl (show t0.text ≠ [] by rw [hq]; decide)
  obtain ⟨t1, ts1, hs1, _, _⟩ := hf2.cons
  have hs1' : ts = t1 :: ts1 := hs1
  subst hs1'
  cases hn : L8.nmb t1.text
  case false => exact stop (textR_b hq hn)
  have hf3 := hf2.next rfl (nmb_ne hn)
  obtain ⟨t2, ts2, hs2, _, _⟩ := hf3.cons
  have hs2' : ts1 = t2 :: ts2 := hs2
  subst hs2'
  by_cases hb : t2.text = [123]
  case neg => exact stop (textR_c hq hn hb)
  have hf4 := hf3.next rfl (show t2.text ≠ [] by rw [hb]; decide)
  rw [textR_d hq hn hb]
  have hf5 : Fine (st0 t1.text ts2) := ⟨hf4.fin, hf4.len, hf4.few⟩
  refine ⟨Nz.bind (grp_nz _ _ _ hf5 (Nat.lt_succ_self _)) fun u hu => ?_, fun p h => ?_⟩
  · obtain ⟨hfu, _⟩ := grp_fine _ _ _ u hf5 hu
    obtain ⟨e, es, hes, _, _⟩ := hfu.cons
    unfold lastR
    rw [hes]
    simp only []
    split
    · split
      · exact Nz.ok _
      · exact Nz.no (by decide)
    · exact Nz.no (by decide)
  · obtain ⟨u, hu, hl⟩ := bind_ok h
    unfold lastR at hl
    split at hl
    · cases hl
    · split at hl
      · split at hl
        · rename_i hw
          rw [← Res.ok.inj hl]
          rw [Bool.and_eq_true] at hw
          exact hw.2
        · cases hl
      · cases hl
theorem prs_okP {l : List UInt8} {p : Prd} (h : prs l = .ok p) : okP p = true := by
  unfold prs at h
  split at h
  · rename_i hE
    exact (textR_nz (fine_of hE prd0 rfl had0)).2 p h
  · cases h
theorem prs_nz {l : List UInt8} {x y : Nat} (h : prs l = .no x y) : x ≠ 0 := by
  rintro rfl
  unfold prs at h
  split at h
  · rename_i hE
    exact (textR_nz (fine_of hE prd0 rfl had0)).1 y h
  · rename_i hE
    injection h with h1 _
    exact hE h1
theorem Parse_k {l : List UInt8} {x : Prd} (h : prs l = .ok x) (w : World) (hm : l.length ≤ 30000) (he : Hid (Env w)) :
    Calls Tryz.prog 7 #[.string ⟨l.toArray⟩] w fun e w' => ∃ ur ul uh, e = .returned (.tuple #[.agg (pcells x ur ul uh), .int .i64 0, .int .i64 0]) ∧ Ext w w' ∧ Hid (L8.Slp w' ur x.rs) ∧ Hid (L8.Slp w' ul x.lt) ∧ Hid (L8.Slc w' uh x.hd) := by
  refine (Parse_c l w (by omega) he).mono ?_
  rintro e w' ⟨hx, hA⟩
  rw [h] at hA
  obtain ⟨ur, ul, uh, rfl, hL⟩ := hA
  exact ⟨ur, ul, uh, rfl, hx, slp_own hL.sr, slp_own hL.sl, slc_own hL.sh⟩
theorem Parse_n {l : List UInt8} {x y : Nat} (h : prs l = .no x y) (w : World) (hm : l.length ≤ 30000) (he : Hid (Env w)) :
    Calls Tryz.prog 7 #[.string ⟨l.toArray⟩] w fun e w' => e = .returned (.tuple #[.agg zP, .int .i64 y, .int .i64 x]) ∧ Ext w w' := by
  refine (Parse_c l w (by omega) he).mono ?_
  rintro e w' ⟨hx, hA⟩
  rw [h] at hA
  exact ⟨hA, hx⟩
theorem layY (w : World) : ∃ W b, w.alloc (.cells #[.string ⟨#[]⟩, .int .i64 0, .int .i64 0, .int .i64 0, .int .i64 0, .int .i64 0, .int .i64 0, .int .i64 0, .slice none 0 0, .int .i64 0, .int .i64 0, .int .i64 0, .int .i64 0, .int .i64 0, .int .i64 0, .slice none 0 0, .int .i64 0, .int .i64 0, .slice none 0 0] 27) = W ∧ w.heap.size = b ∧ Ext w W ∧ Blk W b zP := ⟨_, _, rfl, rfl, (Ext.refl w).alloc _ _, heap_alloc_last w _⟩
end Go.Proofs.YtbnpaeejlfaboaaGreatDoor
