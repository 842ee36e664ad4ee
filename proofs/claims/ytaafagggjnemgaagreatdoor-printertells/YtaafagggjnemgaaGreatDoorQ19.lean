/- Contracts that the proof of this law leans on: no statement of the seat is proved here. -/
import Derived.Deep.DeepCutAuto
import Derived.Test.YtaafagggjnemgaaGreatDoorQ3
import Derived.Test.YtaafagggjnemgaaGreatDoorQ8
import Derived.Test.YtaafagggjnemgaaGreatDoorQ9

namespace Go.Proofs.YtaafagggjnemgaaGreatDoor
open Go.RowKit Go.Lib
set_option linter.unusedVariables false
theorem lineL_len (q : List UInt8) : (lineL q).length = q.length + 4 := by unfold lineL; simp
theorem lay3d (w : World) (x y z : List UInt8) : ∃ W d, w.alloc (.cells #[.string ⟨x.toArray⟩, .string ⟨y.toArray⟩, .string ⟨z.toArray⟩] 9) = W ∧ w.heap.size = d ∧ Ext w W ∧ L8.Strs W d [x, y, z] := by
  refine ⟨_, _, rfl, rfl, (Ext.refl w).alloc _ _, fun k u hk => ?_⟩
  have hr := heap_alloc_last w (.cells #[.string ⟨x.toArray⟩, .string ⟨y.toArray⟩, .string ⟨z.toArray⟩] 9)
  refine (cell_of_row _ _ k _ _ _ hr).trans ?_
  match k, hk with
  | 0, hk => simp at hk; subst hk; rfl
  | 1, hk => simp at hk; subst hk; rfl
  | 2, hk => simp at hk; subst hk; rfl
  | k + 3, hk => simp at hk
theorem i64_of {v : Int} (h0 : 0 ≤ v) (h1 : v ≤ 10000000000000) : L2.I64 v := ⟨by omega, by omega⟩
theorem rate_len (v : Int) (h0 : 0 ≤ v) (h1 : v ≤ 10000000000000) : (L2.rateL v).length ≤ 40 := by
  unfold L2.rateL L2.signL
  rw [if_neg (by omega), List.nil_append]
  have hd := (L2.dec_len v (i64_of h0 h1) 10000000).2
  have ht : (L2.tailL v.natAbs).length ≤ 7 := by
    unfold L2.tailL
    have := L2.trimRightB_le (L2.fix 7 v.natAbs) 48
    rw [L2.fix_length] at this
    exact this
  have hdot : (L2.dotL (L2.tailL v.natAbs)).length ≤ 8 := by
    unfold L2.dotL
    split
    · simp
    · simp only [List.length_cons]; omega
  simp only [List.length_append, List.length_cons, List.length_nil]
  omega
theorem money_len (v : Int) (h0 : 0 ≤ v) (h1 : v ≤ 10000000000000) : (L2.moneyL v).length ≤ 40 := by
  unfold L2.moneyL L2.signL
  rw [if_neg (by omega), List.nil_append]
  have hd := (L2.dec_len v (i64_of h0 h1) 100).2
  simp only [List.length_append, List.length_cons, L2.fix_length]
  omega
theorem lay4d (w : World) (x y z u : List UInt8) : ∃ W d, w.alloc (.cells #[.string ⟨x.toArray⟩, .string ⟨y.toArray⟩, .string ⟨z.toArray⟩, .string ⟨u.toArray⟩] 9) = W ∧ w.heap.size = d ∧ Ext w W ∧ L8.Strs W d [x, y, z, u] := by
  refine ⟨_, _, rfl, rfl, (Ext.refl w).alloc _ _, fun k v hk => ?_⟩
  have hr := heap_alloc_last w (.cells #[.string ⟨x.toArray⟩, .string ⟨y.toArray⟩, .string ⟨z.toArray⟩, .string ⟨u.toArray⟩] 9)
  refine (cell_of_row _ _ k _ _ _ hr).trans ?_
  match k, hk with
  | 0, hk => simp at hk; subst hk; rfl
  | 1, hk => simp at hk; subst hk; rfl
  | 2, hk => simp at hk; subst hk; rfl
  | 3, hk => simp at hk; subst hk; rfl
  | k + 4, hk => simp at hk
theorem ord_cell {p : Prd} (hK : Okf p) {W : World} {b : Nat} {vr vl vh : Value} (hB : Blk W b (pcells p vr vl vh)) (k : Nat) (hk : k < 4) : ∃ i : Nat, i < 4 ∧ W.cell? ⟨b, 10 + k, none⟩ = some (.int .i64 ((i : Int) + 1)) := by
  have one : ∀ v : Int, 1 ≤ v ∧ v ≤ 4 → ∃ i : Nat, i < 4 ∧ v = (i : Int) + 1 := fun v h => ⟨(v - 1).toNat, by omega, by omega⟩
  match k, hk with
  | 0, _ => obtain ⟨i, h1, h2⟩ := one _ hK.o0; exact ⟨i, h1, (cell_of_row W b 10 _ _ _ hB).trans (by rw [← h2]; rfl)⟩
  | 1, _ => obtain ⟨i, h1, h2⟩ := one _ hK.o1; exact ⟨i, h1, (cell_of_row W b 11 _ _ _ hB).trans (by rw [← h2]; rfl)⟩
  | 2, _ => obtain ⟨i, h1, h2⟩ := one _ hK.o2; exact ⟨i, h1, (cell_of_row W b 12 _ _ _ hB).trans (by rw [← h2]; rfl)⟩
  | 3, _ => obtain ⟨i, h1, h2⟩ := one _ hK.o3; exact ⟨i, h1, (cell_of_row W b 13 _ _ _ hB).trans (by rw [← h2]; rfl)⟩
/-- The product in its block, and what has been printed so far. -/
structure Pru (w w' : World) (b : Nat) (cs : Array Value) (S : List UInt8) (N : Nat) (nm : List UInt8) (qs : List Cl) : Prop where
  ext : Ext w w'
  blk : Blk w' b cs
  len : S.length ≤ N
  is : S = topL nm ++ rowsL qs
theorem Pru.le {w w' : World} {b : Nat} {cs : Array Value} {S : List UInt8} {N M : Nat} {nm : List UInt8} {qs : List Cl} (h : Pru w w' b cs S N nm qs) (hl : N ≤ M) : Pru w w' b cs S M nm qs := ⟨h.ext, h.blk, Nat.le_trans h.len hl, h.is⟩
theorem Pru.ext_ {w w' w'' : World} {b : Nat} {cs : Array Value} {S : List UInt8} {N : Nat} {nm : List UInt8} {qs : List Cl} (h : Pru w w' b cs S N nm qs) (hx : Ext w' w'') : Pru w w'' b cs S N nm qs := ⟨h.ext.trans hx, h.blk.ext hx, h.len, h.is⟩
theorem Pru.on {w w' w'' : World} {b : Nat} {cs : Array Value} {S q : List UInt8} {N M : Nat} {nm : List UInt8} {qs : List Cl} {c : Cl} (h : Pru w w' b cs S N nm qs) (hx : Ext w' w'') (he : rowL c = lineL q) (hl : q.length + 4 + N ≤ M) : Pru w w'' b cs (S ++ lineL q) M nm (qs ++ [c]) :=
  ⟨h.ext.trans hx, h.blk.ext hx, by rw [List.length_append, lineL_len]; have := h.len; omega, by rw [rowsL_app, rowsL_one, he, ← List.append_assoc, ← h.is]⟩
theorem Pru.to {w w' : World} {b : Nat} {cs : Array Value} {S : List UInt8} {N : Nat} {nm : List UInt8} {qs rs : List Cl} (h : Pru w w' b cs S N nm qs) (e : rowsL qs = rowsL rs) : Pru w w' b cs S N nm rs := ⟨h.ext, h.blk, h.len, by rw [← e]; exact h.is⟩
/-- The kinds of an order, one by one. -/
def ordK (p : Prd) : Nat → Int
  | 0 => p.o0
  | 1 => p.o1
  | 2 => p.o2
  | _ => p.o3
def ordT (p : Prd) : Nat → List UInt8
  | 0 => [111, 114, 100, 101, 114]
  | k + 1 => ordT p k ++ 32 :: nthL txOrder (ordK p k)
theorem ordT_4 (p : Prd) : rowL (cOrder p) = lineL (ordT p 4) := by
  unfold rowL cOrder
  simp [ordT, ordK, spL]
theorem ord_cell2 {p : Prd} (hK : Okf p) {W : World} {b : Nat} {vr vl vh : Value} (hB : Blk W b (pcells p vr vl vh)) (k : Nat) (hk : k < 4) : ∃ i : Nat, i < 4 ∧ ordK p k = (i : Int) + 1 ∧ W.cell? ⟨b, 10 + k, none⟩ = some (.int .i64 ((i : Int) + 1)) := by
  have one : ∀ v : Int, 1 ≤ v ∧ v ≤ 4 → ∃ i : Nat, i < 4 ∧ v = (i : Int) + 1 := fun v h => ⟨(v - 1).toNat, by omega, by omega⟩
  match k, hk with
  | 0, _ => obtain ⟨i, h1, h2⟩ := one _ hK.o0; exact ⟨i, h1, h2, (cell_of_row W b 10 _ _ _ hB).trans (by rw [← h2]; rfl)⟩
  | 1, _ => obtain ⟨i, h1, h2⟩ := one _ hK.o1; exact ⟨i, h1, h2, (cell_of_row W b 11 _ _ _ hB).trans (by rw [← h2]; rfl)⟩
  | 2, _ => obtain ⟨i, h1, h2⟩ := one _ hK.o2; exact ⟨i, h1, h2, (cell_of_row W b 12 _ _ _ hB).trans (by rw [← h2]; rfl)⟩
  | 3, _ => obtain ⟨i, h1, h2⟩ := one _ hK.o3; exact ⟨i, h1, h2, (cell_of_row W b 13 _ _ _ hB).trans (by rw [← h2]; rfl)⟩
set_option maxRecDepth 100000 in
set_option maxHeartbeats 4000000 in
theorem Print_d (p : Prd) (vr vl vh : Value) (w : World) (he : Hid (Pnv w)) (hn : p.nm.length ≤ 30000) (hf : p.rs.length + p.lt.length + p.hd.length ≤ 30000) (sr : L8.Slp w vr p.rs) (sl : L8.Slp w vl p.lt) (sh : L8.Slc w vh p.hd) :
    Calls Tryz.prog 11 #[.agg (pcells p vr vl vh)] w fun e w' => Ext w w' ∧ ((okP p = false ∧ e = .returned (.tuple #[.string ⟨#[]⟩, .int .i64 9])) ∨ (okP p = true ∧ e = .returned (.tuple #[.string ⟨(prt p).toArray⟩, .int .i64 0]))) := by
  have hone := pcells_slp sr sl sh
  have hbox := box_prod p vr vl vh hone
  obtain ⟨W1, b, hW1, hb, hx1, hB1⟩ : ∃ W b, w.alloc (.cells (pcells p vr vl vh) 27) = W ∧ w.heap.size = b ∧ Ext w W ∧ Blk W b (pcells p vr vl vh) := ⟨_, _, rfl, rfl, (Ext.refl w).alloc _ _, heap_alloc_last w _⟩
  have hsz : (pcells p vr vl vh).size = 19 := rfl
  obtain ⟨B, hB⟩ : ∃ B, okP p = B := ⟨_, rfl⟩
  have hC := show Hid _ from rCheck_p p vr vl vh B hB W1 hn hf (sr.ext hx1) (sl.ext hx1) (sh.ext hx1)
  obtain ⟨ar, cr, hvr⟩ := sr.len
  obtain ⟨al, cll, hvl⟩ := sl.len
  obtain ⟨ah, ch, hvh⟩ := sh.len
  replace hvr := show Hid _ from hvr
  replace hvl := show Hid _ from hvl
  replace hvh := show Hid _ from hvh
  replace sr := show Hid _ from sr
  replace sl := show Hid _ from sl
  replace sh := show Hid _ from sh
  replace hx1 := show Hid _ from hx1
  go_enter Tryz.func11, Tryz.ntmps11
  go_wp2_with (refine load27 hB1 hsz rfl rfl rfl ?_)
  refine Calls.mono hC.out ?_
  rintro e w2 ⟨rfl, hx2⟩
  replace hB1 := show Hid _ from hB1.ext hx2
  replace hx2 := show Hid _ from hx1.out.trans hx2
  clear hC hbox hW1 hb hx1 hone
  cases B
  case false =>
    simp only [Bool.false_eq_true, if_false]
    go_wp2
    go_ret2
    exact ⟨hx2.out, Or.inl ⟨hB, rfl⟩⟩
  simp only [if_true]
  have hK := show Hid _ from okf hB
  have c0 := (cell_of_row w2 b 0 _ _ _ hB1.out).trans (show _ = some (.string ⟨p.nm.toArray⟩) from rfl)
  have hnl := hK.out.nl
  have g1 : ¬ 9223372036854775807 < 8 + p.nm.length := by omega
  have g2 : ¬ 9223372036854775807 < 8 + p.nm.length + 3 := by omega
  have g3 : ¬ 9223372036854775807 < 8 + (p.nm.length + 3) := by omega
  have g4 : ¬ 9223372036854775807 < p.nm.length + 8 := by omega
  have g5 : ¬ 9223372036854775807 < p.nm.length + 8 + 3 := by omega
  go_upto_region 3 with fail

  go_cut [4] from 15 to 18 (fun s wx => ∃ S : List UInt8, s = .string ⟨S.toArray⟩ ∧ Pru w wx b (pcells p vr vl vh) S 40 p.nm [])
  case first =>
    go_wp2
    go_meet
    exact ⟨topL p.nm, rfl, hx2.out, hB1.out, by unfold topL; simp; omega, by rw [rowsL_nil, List.append_nil]⟩
  case rest =>
  obtain ⟨S, rfl, hP⟩ := hcut
  clear g1 g2 g3 g4 g5 c0 hB1 hx2
  replace hP := show Hid _ from hP

  go_upto_region 4 with fail
  go_cut [4] from 19 to 28 (fun s wx => ∃ S : List UInt8, s = .string ⟨S.toArray⟩ ∧ Pru w wx b (pcells p vr vl vh) S 70 p.nm ([] ++ [cCount p]))
  case first =>
    obtain ⟨i, hi, hi3⟩ : ∃ i : Nat, p.cn = (i : Int) + 1 ∧ i < 3 := ⟨(p.cn - 1).toNat, by have := hK.out.cn; omega, by have := hK.out.cn; omega⟩
    obtain ⟨W3, d, hW3, hd, hx3, hS3⟩ := lay3d wc [116, 104, 105, 114, 116, 121] [102, 105, 120, 101, 100] [97, 99, 116, 117, 97, 108]
    obtain ⟨q, hq⟩ : ∃ q, ([[116, 104, 105, 114, 116, 121], [102, 105, 120, 101, 100], [97, 99, 116, 117, 97, 108]] : List (List UInt8))[i]? = some q := ⟨_, List.getElem?_eq_getElem hi3⟩
    have cq := hS3 i q hq
    have hpq : Pce ([99, 111, 117, 110, 116, 32] ++ q) ∧ q.length ≤ 8 := by
      match i, hi3, hq with
      | 0, _, hq => simp at hq; subst hq; exact ⟨⟨by decide, by decide, by decide⟩, by decide⟩
      | 1, _, hq => simp at hq; subst hq; exact ⟨⟨by decide, by decide, by decide⟩, by decide⟩
      | 2, _, hq => simp at hq; subst hq; exact ⟨⟨by decide, by decide, by decide⟩, by decide⟩
    have ck := (cell_of_row W3 b 1 _ _ _ (hP.out.blk.ext hx3)).trans (show _ = some (.int .i64 ((i : Int) + 1)) from by rw [← hi]; rfl)
    have hiI : (i : Int) < 3 := by omega
    have g1 : ¬ 9223372036854775807 < 6 + q.length := by have := hpq.2; omega
    have g2 : ¬ 9223372036854775807 < q.length + 6 := by have := hpq.2; omega
    have hl := hP.out.len
    have g3 : ¬ 9223372036854775807 < S.length + (lineL ([99, 111, 117, 110, 116, 32] ++ q)).length := by rw [lineL_len]; simp only [List.length_append, List.length_cons, List.length_nil]; have := hpq.2; omega
    have hec : Hid (rowL (cCount p) = lineL ([99, 111, 117, 110, 116, 32] ++ q)) := by
      show rowL _ = _
      unfold rowL cCount
      rw [hi, nth_of (o := txCount) hq]
      rfl
    replace hpq := show Hid _ from hpq
    replace hx3 := show Hid _ from hx3
    have hlc := show Hid _ from line_c ([99, 111, 117, 110, 116, 32] ++ q) W3 (by simp only [List.length_append, List.length_cons, List.length_nil]; have := hpq.out.2; omega)
    clear hq hS3 hi hl
    go_wp2_with fail
    refine Calls.mono hlc.out ?_
    rintro e w4 ⟨rfl, rfl⟩
    clear hlc
    go_wp2
    go_meet
    exact ⟨S ++ lineL ([99, 111, 117, 110, 116, 32] ++ q), rfl, hP.out.on hx3.out hec.out (by simp only [List.length_append, List.length_cons, List.length_nil]; have := hpq.out.2; omega)⟩
  case rest =>
  clear hP
  obtain ⟨S, rfl, hP⟩ := hcut
  replace hP := show Hid _ from hP

  go_upto_region 5 with fail
  go_cut [4] from 29 to 38 (fun s wx => ∃ S : List UInt8, s = .string ⟨S.toArray⟩ ∧ Pru w wx b (pcells p vr vl vh) S 100 p.nm (([] ++ [cCount p]) ++ [cRound p]))
  case first =>
    obtain ⟨i, hi, hi3⟩ : ∃ i : Nat, p.rd = (i : Int) + 1 ∧ i < 3 := ⟨(p.rd - 1).toNat, by have := hK.out.rd; omega, by have := hK.out.rd; omega⟩
    obtain ⟨W3, d, hW3, hd, hx3, hS3⟩ := lay3d wc [104, 97, 108, 102, 45, 117, 112] [] [100, 111, 119, 110]
    obtain ⟨q, hq⟩ : ∃ q, ([[104, 97, 108, 102, 45, 117, 112], [], [100, 111, 119, 110]] : List (List UInt8))[i]? = some q := ⟨_, List.getElem?_eq_getElem hi3⟩
    have cq := hS3 i q hq
    have hpq : Pce ([114, 111, 117, 110, 100, 32] ++ q) ∧ q.length ≤ 8 := by
      match i, hi3, hq with
      | 0, _, hq => simp at hq; subst hq; exact ⟨⟨by decide, by decide, by decide⟩, by decide⟩
      | 1, _, hq => exfalso; have := hK.out.rd; omega
      | 2, _, hq => simp at hq; subst hq; exact ⟨⟨by decide, by decide, by decide⟩, by decide⟩
    have ck := (cell_of_row W3 b 2 _ _ _ (hP.out.blk.ext hx3)).trans (show _ = some (.int .i64 ((i : Int) + 1)) from by rw [← hi]; rfl)
    have hiI : (i : Int) < 3 := by omega
    have g1 : ¬ 9223372036854775807 < 6 + q.length := by have := hpq.2; omega
    have g2 : ¬ 9223372036854775807 < q.length + 6 := by have := hpq.2; omega
    have hl := hP.out.len
    have g3 : ¬ 9223372036854775807 < S.length + (lineL ([114, 111, 117, 110, 100, 32] ++ q)).length := by rw [lineL_len]; simp only [List.length_append, List.length_cons, List.length_nil]; have := hpq.2; omega
    have hec : Hid (rowL (cRound p) = lineL ([114, 111, 117, 110, 100, 32] ++ q)) := by
      show rowL _ = _
      unfold rowL cRound
      rw [hi, nth_of (o := txRound) hq]
      rfl
    replace hpq := show Hid _ from hpq
    replace hx3 := show Hid _ from hx3
    have hlc := show Hid _ from line_c ([114, 111, 117, 110, 100, 32] ++ q) W3 (by simp only [List.length_append, List.length_cons, List.length_nil]; have := hpq.out.2; omega)
    clear hq hS3 hi hl
    go_wp2_with fail
    refine Calls.mono hlc.out ?_
    rintro e w4 ⟨rfl, rfl⟩
    clear hlc
    go_wp2
    go_meet
    exact ⟨S ++ lineL ([114, 111, 117, 110, 100, 32] ++ q), rfl, hP.out.on hx3.out hec.out (by simp only [List.length_append, List.length_cons, List.length_nil]; have := hpq.out.2; omega)⟩
  case rest =>
  clear hP
  obtain ⟨S, rfl, hP⟩ := hcut
  replace hP := show Hid _ from hP

  go_upto_region 6 with fail
  go_cut [4] from 39 to 48 (fun s wx => ∃ S : List UInt8, s = .string ⟨S.toArray⟩ ∧ Pru w wx b (pcells p vr vl vh) S 130 p.nm ((([] ++ [cCount p]) ++ [cRound p]) ++ [cKind p]))
  case first =>
    obtain ⟨i, hi, hi3⟩ : ∃ i : Nat, p.kd = (i : Int) + 1 ∧ i < 3 := ⟨(p.kd - 1).toNat, by have := hK.out.kd; omega, by have := hK.out.kd; omega⟩
    obtain ⟨W3, d, hW3, hd, hx3, hS3⟩ := lay3d wc [97, 110, 110, 117, 105, 116, 121] [101, 113, 117, 97, 108] [98, 117, 108, 108, 101, 116]
    obtain ⟨q, hq⟩ : ∃ q, ([[97, 110, 110, 117, 105, 116, 121], [101, 113, 117, 97, 108], [98, 117, 108, 108, 101, 116]] : List (List UInt8))[i]? = some q := ⟨_, List.getElem?_eq_getElem hi3⟩
    have cq := hS3 i q hq
    have hpq : Pce ([107, 105, 110, 100, 32] ++ q) ∧ q.length ≤ 8 := by
      match i, hi3, hq with
      | 0, _, hq => simp at hq; subst hq; exact ⟨⟨by decide, by decide, by decide⟩, by decide⟩
      | 1, _, hq => simp at hq; subst hq; exact ⟨⟨by decide, by decide, by decide⟩, by decide⟩
      | 2, _, hq => simp at hq; subst hq; exact ⟨⟨by decide, by decide, by decide⟩, by decide⟩
    have ck := (cell_of_row W3 b 3 _ _ _ (hP.out.blk.ext hx3)).trans (show _ = some (.int .i64 ((i : Int) + 1)) from by rw [← hi]; rfl)
    have hiI : (i : Int) < 3 := by omega
    have g1 : ¬ 9223372036854775807 < 5 + q.length := by have := hpq.2; omega
    have g2 : ¬ 9223372036854775807 < q.length + 5 := by have := hpq.2; omega
    have hl := hP.out.len
    have g3 : ¬ 9223372036854775807 < S.length + (lineL ([107, 105, 110, 100, 32] ++ q)).length := by rw [lineL_len]; simp only [List.length_append, List.length_cons, List.length_nil]; have := hpq.2; omega
    have hec : Hid (rowL (cKind p) = lineL ([107, 105, 110, 100, 32] ++ q)) := by
      show rowL _ = _
      unfold rowL cKind
      rw [hi, nth_of (o := txKind) hq]
      rfl
    replace hpq := show Hid _ from hpq
    replace hx3 := show Hid _ from hx3
    have hlc := show Hid _ from line_c ([107, 105, 110, 100, 32] ++ q) W3 (by simp only [List.length_append, List.length_cons, List.length_nil]; have := hpq.out.2; omega)
    clear hq hS3 hi hl
    go_wp2_with fail
    refine Calls.mono hlc.out ?_
    rintro e w4 ⟨rfl, rfl⟩
    clear hlc
    go_wp2
    go_meet
    exact ⟨S ++ lineL ([107, 105, 110, 100, 32] ++ q), rfl, hP.out.on hx3.out hec.out (by simp only [List.length_append, List.length_cons, List.length_nil]; have := hpq.out.2; omega)⟩
  case rest =>
  clear hP
  obtain ⟨S, rfl, hP⟩ := hcut
  replace hP := show Hid _ from hP

  go_upto_region 7 with fail
  go_cut [4] from 49 to 67 (fun s wx => ∃ S : List UInt8, s = .string ⟨S.toArray⟩ ∧ Pru w wx b (pcells p vr vl vh) S 280 p.nm (((((([] ++ [cCount p]) ++ [cRound p]) ++ [cKind p]) ++ [cEvery p]) ++ [cTimes p]) ++ [cGrace p]))
  case first =>
    obtain ⟨n0, hn0, hb0⟩ : ∃ n : Nat, p.ev = (n : Int) ∧ n ≤ 600 := ⟨p.ev.toNat, by have := hK.out.ev; omega, by have := hK.out.ev; omega⟩
    have ck0 := (cell_of_row wc b 4 _ _ _ hP.out.blk).trans (show _ = some (.int .i64 (n0 : Int)) from by rw [← hn0]; rfl)
    have hD0 : Pce (decDigits n0) ∧ (decDigits n0).length ≤ 9 := ⟨pce_dec _, by have := dec_len 8 n0 (by omega); omega⟩
    have hec0 : Hid (rowL (cEvery p) = lineL ([101, 118, 101, 114, 121, 32] ++ decDigits n0)) := by
      show rowL _ = _
      unfold rowL cEvery
      rw [hn0, Int.toNat_natCast]
      rfl
    have hc0 := fun W => numP_c n0 W (by omega)
    generalize decDigits n0 = D0 at *
    clear hn0 hb0
    have gA0 : ¬ 9223372036854775807 < 6 + D0.length := by have := hD0.2; omega
    have gB0 : ¬ 9223372036854775807 < D0.length + 6 := by have := hD0.2; omega
    have hA0 : ([101, 118, 101, 114, 121, 32] ++ D0).length ≤ 6 + 40 := by rw [List.length_append]; have := hD0.2; show 6 + _ ≤ _; omega
    have hl0 := fun W => line_c ([101, 118, 101, 114, 121, 32] ++ D0) W (by omega)
    have hLn0 := lineL_len ([101, 118, 101, 114, 121, 32] ++ D0)
    obtain ⟨n1, hn1, hb1⟩ : ∃ n : Nat, p.tm = (n : Int) ∧ n ≤ 600 := ⟨p.tm.toNat, by have := hK.out.tm; omega, by have := hK.out.tm; omega⟩
    have ck1 := (cell_of_row wc b 5 _ _ _ hP.out.blk).trans (show _ = some (.int .i64 (n1 : Int)) from by rw [← hn1]; rfl)
    have hD1 : Pce (decDigits n1) ∧ (decDigits n1).length ≤ 9 := ⟨pce_dec _, by have := dec_len 8 n1 (by omega); omega⟩
    have hec1 : Hid (rowL (cTimes p) = lineL ([116, 105, 109, 101, 115, 32] ++ decDigits n1)) := by
      show rowL _ = _
      unfold rowL cTimes
      rw [hn1, Int.toNat_natCast]
      rfl
    have hc1 := fun W => numP_c n1 W (by omega)
    generalize decDigits n1 = D1 at *
    clear hn1 hb1
    have gA1 : ¬ 9223372036854775807 < 6 + D1.length := by have := hD1.2; omega
    have gB1 : ¬ 9223372036854775807 < D1.length + 6 := by have := hD1.2; omega
    have hA1 : ([116, 105, 109, 101, 115, 32] ++ D1).length ≤ 6 + 40 := by rw [List.length_append]; have := hD1.2; show 6 + _ ≤ _; omega
    have hl1 := fun W => line_c ([116, 105, 109, 101, 115, 32] ++ D1) W (by omega)
    have hLn1 := lineL_len ([116, 105, 109, 101, 115, 32] ++ D1)
    obtain ⟨n2, hn2, hb2⟩ : ∃ n : Nat, p.gr = (n : Int) ∧ n ≤ 600 := ⟨p.gr.toNat, by have := hK.out.gr; omega, by have := hK.out.gr; omega⟩
    have ck2 := (cell_of_row wc b 6 _ _ _ hP.out.blk).trans (show _ = some (.int .i64 (n2 : Int)) from by rw [← hn2]; rfl)
    have hD2 : Pce (decDigits n2) ∧ (decDigits n2).length ≤ 9 := ⟨pce_dec _, by have := dec_len 8 n2 (by omega); omega⟩
    have hec2 : Hid (rowL (cGrace p) = lineL ([103, 114, 97, 99, 101, 32] ++ decDigits n2)) := by
      show rowL _ = _
      unfold rowL cGrace
      rw [hn2, Int.toNat_natCast]
      rfl
    have hc2 := fun W => numP_c n2 W (by omega)
    generalize decDigits n2 = D2 at *
    clear hn2 hb2
    have gA2 : ¬ 9223372036854775807 < 6 + D2.length := by have := hD2.2; omega
    have gB2 : ¬ 9223372036854775807 < D2.length + 6 := by have := hD2.2; omega
    have hA2 : ([103, 114, 97, 99, 101, 32] ++ D2).length ≤ 6 + 40 := by rw [List.length_append]; have := hD2.2; show 6 + _ ≤ _; omega
    have hl2 := fun W => line_c ([103, 114, 97, 99, 101, 32] ++ D2) W (by omega)
    have hLn2 := lineL_len ([103, 114, 97, 99, 101, 32] ++ D2)
    have hl := hP.out.len
    have gS0 : ¬ 9223372036854775807 < S.length + (lineL ([101, 118, 101, 114, 121, 32] ++ D0)).length := by omega
    have gS1 : ¬ 9223372036854775807 < S.length + (lineL ([101, 118, 101, 114, 121, 32] ++ D0)).length + (lineL ([116, 105, 109, 101, 115, 32] ++ D1)).length := by omega
    have gT1 : ¬ 9223372036854775807 < S.length + ((lineL ([101, 118, 101, 114, 121, 32] ++ D0)).length + (lineL ([116, 105, 109, 101, 115, 32] ++ D1)).length) := by omega
    have gS2 : ¬ 9223372036854775807 < S.length + (lineL ([101, 118, 101, 114, 121, 32] ++ D0)).length + (lineL ([116, 105, 109, 101, 115, 32] ++ D1)).length + (lineL ([103, 114, 97, 99, 101, 32] ++ D2)).length := by omega
    have gT2 : ¬ 9223372036854775807 < S.length + ((lineL ([101, 118, 101, 114, 121, 32] ++ D0)).length + (lineL ([116, 105, 109, 101, 115, 32] ++ D1)).length + (lineL ([103, 114, 97, 99, 101, 32] ++ D2)).length) := by omega
    have gU2 : ¬ 9223372036854775807 < S.length + ((lineL ([101, 118, 101, 114, 121, 32] ++ D0)).length + ((lineL ([116, 105, 109, 101, 115, 32] ++ D1)).length + (lineL ([103, 114, 97, 99, 101, 32] ++ D2)).length)) := by omega
    have gV2 : ¬ 9223372036854775807 < S.length + ((lineL ([101, 118, 101, 114, 121, 32] ++ D0)).length + (lineL ([116, 105, 109, 101, 115, 32] ++ D1)).length) + (lineL ([103, 114, 97, 99, 101, 32] ++ D2)).length := by omega
    have gSc0 : ¬ 9223372036854775807 < S.length + (lineL (101 :: 118 :: 101 :: 114 :: 121 :: 32 :: D0)).length := gS0
    have gSc1 : ¬ 9223372036854775807 < S.length + (lineL (101 :: 118 :: 101 :: 114 :: 121 :: 32 :: D0)).length + (lineL (116 :: 105 :: 109 :: 101 :: 115 :: 32 :: D1)).length := gS1
    have gTc1 : ¬ 9223372036854775807 < S.length + ((lineL (101 :: 118 :: 101 :: 114 :: 121 :: 32 :: D0)).length + (lineL (116 :: 105 :: 109 :: 101 :: 115 :: 32 :: D1)).length) := gT1
    have gSc2 : ¬ 9223372036854775807 < S.length + (lineL (101 :: 118 :: 101 :: 114 :: 121 :: 32 :: D0)).length + (lineL (116 :: 105 :: 109 :: 101 :: 115 :: 32 :: D1)).length + (lineL (103 :: 114 :: 97 :: 99 :: 101 :: 32 :: D2)).length := gS2
    have gTc2 : ¬ 9223372036854775807 < S.length + ((lineL (101 :: 118 :: 101 :: 114 :: 121 :: 32 :: D0)).length + (lineL (116 :: 105 :: 109 :: 101 :: 115 :: 32 :: D1)).length + (lineL (103 :: 114 :: 97 :: 99 :: 101 :: 32 :: D2)).length) := gT2
    have gUc2 : ¬ 9223372036854775807 < S.length + ((lineL (101 :: 118 :: 101 :: 114 :: 121 :: 32 :: D0)).length + ((lineL (116 :: 105 :: 109 :: 101 :: 115 :: 32 :: D1)).length + (lineL (103 :: 114 :: 97 :: 99 :: 101 :: 32 :: D2)).length)) := gU2
    have gVc2 : ¬ 9223372036854775807 < S.length + ((lineL (101 :: 118 :: 101 :: 114 :: 121 :: 32 :: D0)).length + (lineL (116 :: 105 :: 109 :: 101 :: 115 :: 32 :: D1)).length) + (lineL (103 :: 114 :: 97 :: 99 :: 101 :: 32 :: D2)).length := gV2
    have j0 := Late.cell ck0
    have j1 := Late.cell ck1
    have j2 := Late.cell ck2
    have hNe : Nonempty (Late wc) := ⟨⟨_, Ext.refl _⟩⟩
    clear hl ck0 hA0 hLn0 ck1 hA1 hLn1 ck2 hA2 hLn2
    replace hD0 := show Hid _ from hD0
    replace hc0 := show Hid _ from hc0
    replace hl0 := show Hid _ from hl0
    replace hD1 := show Hid _ from hD1
    replace hc1 := show Hid _ from hc1
    replace hl1 := show Hid _ from hl1
    replace hD2 := show Hid _ from hD2
    replace hc2 := show Hid _ from hc2
    replace hl2 := show Hid _ from hl2
    refine wp_region_late (by kernel_rfl) (by kernel_rfl) ?_
    repeat (go_big_quiet_step (first | (go_at_call 24; first | exact late_of (hc0.out _) | exact late_of (hc1.out _) | exact late_of (hc2.out _)) | (go_at_call 23; first | exact late_same (hl0.out _) | exact late_same (hl1.out _) | exact late_same (hl2.out _))))
    refine wpQuiet_nil ?_
    intro wq hw'
    have hxq := show Hid _ from late_ext hw'
    clear hw' hNe j0 j1 j2
    go_wp2
    go_meet
    exact ⟨(((S ++ lineL ([101, 118, 101, 114, 121, 32] ++ D0)) ++ lineL ([116, 105, 109, 101, 115, 32] ++ D1)) ++ lineL ([103, 114, 97, 99, 101, 32] ++ D2)), by simp only [List.append_assoc]; rfl, ((((((hP.out).on hxq.out hec0.out (M := 180) (by simp only [List.length_append, List.length_cons, List.length_nil]; have := hD0.out.2; omega))).on (Ext.refl _) hec1.out (M := 230) (by simp only [List.length_append, List.length_cons, List.length_nil]; have := hD1.out.2; omega))).on (Ext.refl _) hec2.out (M := 280) (by simp only [List.length_append, List.length_cons, List.length_nil]; have := hD2.out.2; omega))⟩
  case rest =>
  clear hP
  obtain ⟨S, rfl, hP⟩ := hcut
  replace hP := show Hid _ from hP

  go_upto_region 8 with fail
  go_cut [4] from 68 to 80 (fun s wx => ∃ S : List UInt8, s = .string ⟨S.toArray⟩ ∧ Pru w wx b (pcells p vr vl vh) S 381 p.nm (((((((([] ++ [cCount p]) ++ [cRound p]) ++ [cKind p]) ++ [cEvery p]) ++ [cTimes p]) ++ [cGrace p]) ++ [cRate p]) ++ [cPenalty p]))
  case first =>
    obtain ⟨v0, hv0⟩ : ∃ v : Int, p.rt = v := ⟨_, rfl⟩
    have hb0 := hK.out.rt
    rw [hv0] at hb0
    have ck0 := (cell_of_row wc b 7 _ _ _ hP.out.blk).trans (show _ = some (.int .i64 v0) from by rw [← hv0]; rfl)
    have hD0 : Pce (L2.rateL v0) ∧ (L2.rateL v0).length ≤ 40 := ⟨pce_rate _ hb0.1, rate_len _ hb0.1 (by have := hb0.2; omega)⟩
    have hec0 : Hid (rowL (cRate p) = lineL ([114, 97, 116, 101, 32] ++ L2.rateL v0)) := by
      show rowL _ = _
      unfold rowL cRate
      rw [hv0]
      rfl
    have hc0 := trivial
    have hI0 := i64_of hb0.1 (by have := hb0.2; omega)
    clear hv0 hb0
    have gA0 : ¬ 9223372036854775807 < 5 + (L2.rateL v0).length := by have := hD0.2; omega
    have gB0 : ¬ 9223372036854775807 < (L2.rateL v0).length + 5 := by have := hD0.2; omega
    have hA0 : ([114, 97, 116, 101, 32] ++ (L2.rateL v0)).length ≤ 5 + 40 := by rw [List.length_append]; have := hD0.2; show 5 + _ ≤ _; omega
    have hl0 := fun W => line_c ([114, 97, 116, 101, 32] ++ (L2.rateL v0)) W (by omega)
    have hLn0 := lineL_len ([114, 97, 116, 101, 32] ++ (L2.rateL v0))
    obtain ⟨v1, hv1⟩ : ∃ v : Int, p.pn = v := ⟨_, rfl⟩
    have hb1 := hK.out.pn
    rw [hv1] at hb1
    have ck1 := (cell_of_row wc b 9 _ _ _ hP.out.blk).trans (show _ = some (.int .i64 v1) from by rw [← hv1]; rfl)
    have hD1 : Pce (L2.rateL v1) ∧ (L2.rateL v1).length ≤ 40 := ⟨pce_rate _ hb1.1, rate_len _ hb1.1 (by have := hb1.2; omega)⟩
    have hec1 : Hid (rowL (cPenalty p) = lineL ([112, 101, 110, 97, 108, 116, 121, 32] ++ L2.rateL v1)) := by
      show rowL _ = _
      unfold rowL cPenalty
      rw [hv1]
      rfl
    have hc1 := trivial
    have hI1 := i64_of hb1.1 (by have := hb1.2; omega)
    clear hv1 hb1
    have gA1 : ¬ 9223372036854775807 < 8 + (L2.rateL v1).length := by have := hD1.2; omega
    have gB1 : ¬ 9223372036854775807 < (L2.rateL v1).length + 8 := by have := hD1.2; omega
    have hA1 : ([112, 101, 110, 97, 108, 116, 121, 32] ++ (L2.rateL v1)).length ≤ 8 + 40 := by rw [List.length_append]; have := hD1.2; show 8 + _ ≤ _; omega
    have hl1 := fun W => line_c ([112, 101, 110, 97, 108, 116, 121, 32] ++ (L2.rateL v1)) W (by omega)
    have hLn1 := lineL_len ([112, 101, 110, 97, 108, 116, 121, 32] ++ (L2.rateL v1))
    have hl := hP.out.len
    have gS0 : ¬ 9223372036854775807 < S.length + (lineL ([114, 97, 116, 101, 32] ++ (L2.rateL v0))).length := by omega
    have gS1 : ¬ 9223372036854775807 < S.length + (lineL ([114, 97, 116, 101, 32] ++ (L2.rateL v0))).length + (lineL ([112, 101, 110, 97, 108, 116, 121, 32] ++ (L2.rateL v1))).length := by omega
    have gT1 : ¬ 9223372036854775807 < S.length + ((lineL ([114, 97, 116, 101, 32] ++ (L2.rateL v0))).length + (lineL ([112, 101, 110, 97, 108, 116, 121, 32] ++ (L2.rateL v1))).length) := by omega
    have gSc0 : ¬ 9223372036854775807 < S.length + (lineL (114 :: 97 :: 116 :: 101 :: 32 :: (L2.rateL v0))).length := gS0
    have gSc1 : ¬ 9223372036854775807 < S.length + (lineL (114 :: 97 :: 116 :: 101 :: 32 :: (L2.rateL v0))).length + (lineL (112 :: 101 :: 110 :: 97 :: 108 :: 116 :: 121 :: 32 :: (L2.rateL v1))).length := gS1
    have gTc1 : ¬ 9223372036854775807 < S.length + ((lineL (114 :: 97 :: 116 :: 101 :: 32 :: (L2.rateL v0))).length + (lineL (112 :: 101 :: 110 :: 97 :: 108 :: 116 :: 121 :: 32 :: (L2.rateL v1))).length) := gT1
    have j0 := Late.cell ck0
    have j1 := Late.cell ck1
    have hNe : Nonempty (Late wc) := ⟨⟨_, Ext.refl _⟩⟩
    clear hl ck0 hA0 hLn0 ck1 hA1 hLn1
    replace hD0 := show Hid _ from hD0
    replace hc0 := show Hid _ from hc0
    replace hl0 := show Hid _ from hl0
    replace hD1 := show Hid _ from hD1
    replace hc1 := show Hid _ from hc1
    replace hl1 := show Hid _ from hl1
    refine wp_region_late (by kernel_rfl) (by kernel_rfl) ?_
    repeat (go_big_quiet_step (first | (go_at_call 25; first | exact late_of (L2.rrate_c _ _ (by assumption))) | (go_at_call 23; first | exact late_same (hl0.out _) | exact late_same (hl1.out _))))
    refine wpQuiet_nil ?_
    intro wq hw'
    have hxq := show Hid _ from late_ext hw'
    clear hw' hNe j0 j1
    go_wp2
    go_meet
    exact ⟨((S ++ lineL ([114, 97, 116, 101, 32] ++ (L2.rateL v0))) ++ lineL ([112, 101, 110, 97, 108, 116, 121, 32] ++ (L2.rateL v1))), by simp only [List.append_assoc]; rfl, ((((hP.out).on hxq.out hec0.out (M := 329) (by simp only [List.length_append, List.length_cons, List.length_nil]; have := hD0.out.2; omega))).on (Ext.refl _) hec1.out (M := 381) (by simp only [List.length_append, List.length_cons, List.length_nil]; have := hD1.out.2; omega))⟩
  case rest =>
  clear hP
  obtain ⟨S, rfl, hP⟩ := hcut
  replace hP := show Hid _ from hP

  go_wp2_with fail
  go_loopw [4, 5] (fun s i wr => ∃ (k : Nat) (S : List UInt8), k ≤ p.rs.length ∧ i = .int .i64 k ∧ s = .string ⟨S.toArray⟩ ∧ Hid (Pru w wr b (pcells p vr vl vh) S (381 + 80 * k) p.nm ((((((((([] ++ [cCount p]) ++ [cRound p]) ++ [cKind p]) ++ [cEvery p]) ++ [cTimes p]) ++ [cGrace p]) ++ [cRate p]) ++ [cPenalty p]) ++ (p.rs.take k).map cReset))) (fun _ i _ => p.rs.length - (RowKit.intOf i).toNat)
  case atStart => exact ⟨0, S, Nat.zero_le _, rfl, rfl, hP.out.to (by rw [List.take_zero, List.map_nil, List.append_nil])⟩
  case round =>
  clear hP
  obtain ⟨k, S, hk, rfl, rfl, hP⟩ := hrel
  have hrl := hK.out.rl_
  have ck := (cell_of_row wr b 8 _ _ _ hP.out.blk).trans (show _ = some (.slice ar p.rs.length cr) from congrArg some hvr.out)
  by_cases hlt : k < p.rs.length
  · have hki : (k : Int) < (p.rs.length : Int) := by omega
    have hk0 : (0 : Int) ≤ (k : Int) := by omega
    obtain ⟨⟨x, y⟩, hxy⟩ : ∃ z, p.rs[k]? = some z := ⟨_, List.getElem?_eq_getElem hlt⟩
    obtain ⟨b1, b2, b3, b4⟩ := hK.out.rs (x, y) (List.mem_of_getElem? hxy)
    obtain ⟨n, hn⟩ : ∃ n : Nat, x = (n : Int) := ⟨x.toNat, by simp only [] at b1; omega⟩
    subst hn
    have hst : Hid (rowsL (((((((((([] ++ [cCount p]) ++ [cRound p]) ++ [cKind p]) ++ [cEvery p]) ++ [cTimes p]) ++ [cGrace p]) ++ [cRate p]) ++ [cPenalty p]) ++ (p.rs.take k).map cReset) ++ [cReset ((n : Int), y)]) = rowsL ((((((((([] ++ [cCount p]) ++ [cRound p]) ++ [cKind p]) ++ [cEvery p]) ++ [cTimes p]) ++ [cGrace p]) ++ [cRate p]) ++ [cPenalty p]) ++ (p.rs.take (k + 1)).map cReset)) := by
      show rowsL _ = _
      rw [rowsL_app _ [cReset ((n : Int), y)], rowsL_app _ ((p.rs.take k).map cReset), rowsL_app _ ((p.rs.take (k + 1)).map cReset), rows_next hxy, rowsL_one, List.append_assoc]
    have hec : Hid (rowL (cReset ((n : Int), y)) = lineL ([114, 101, 115, 101, 116, 32] ++ (decDigits n ++ 32 :: L2.rateL y))) := by
      show rowL _ = _
      unfold rowL cReset
      simp only [Int.toNat_natCast]
      rfl
    have hcell : ∃ g off, ar = some ⟨g, off, none⟩ ∧ wr.cell? ⟨g, off + k * 2, none⟩ = some (.int .i64 (n : Int)) ∧ wr.cell? ⟨g, off + k * 2 + 1, none⟩ = some (.int .i64 y) := by
      rcases sr.out with ⟨_, _, _, _, hl⟩ | ⟨g, off, c, hv, hc⟩
      · rw [hl] at hlt; simp at hlt
      · have hv2 := hv.symm.trans hvr.out
        simp only [Value.slice.injEq] at hv2
        exact ⟨g, off, hv2.1.symm, hP.out.ext.cell_of (hc k _ _ hxy).1, hP.out.ext.cell_of (hc k _ _ hxy).2⟩
    obtain ⟨g, off, rfl, cx, cy⟩ := hcell
    have hI := i64_of b3 (by simp only [] at b4; omega)
    have hR : Pce (L2.rateL y) ∧ (L2.rateL y).length ≤ 40 := ⟨pce_rate _ b3, rate_len _ b3 (by simp only [] at b4; omega)⟩
    have hD : Pce (decDigits n) ∧ (decDigits n).length ≤ 9 := ⟨pce_dec _, by have := dec_len 8 n (by simp only [] at b2; omega); omega⟩
    have hc := fun W => numP_c n W (by simp only [] at b2; omega)
    generalize decDigits n = D at *
    have hA : ([114, 101, 115, 101, 116, 32] ++ (D ++ 32 :: L2.rateL y)).length ≤ 100 := by simp only [List.length_append, List.length_cons, List.length_nil]; have := hD.2; have := hR.2; omega
    have hl := fun W => line_c ([114, 101, 115, 101, 116, 32] ++ (D ++ 32 :: L2.rateL y)) W (by omega)
    have hLn := lineL_len ([114, 101, 115, 101, 116, 32] ++ (D ++ 32 :: L2.rateL y))
    have hSl := hP.out.len
    have gS : ¬ 9223372036854775807 < S.length + (lineL ([114, 101, 115, 101, 116, 32] ++ (D ++ 32 :: L2.rateL y))).length := by omega
    have gSc : ¬ 9223372036854775807 < S.length + (lineL (114 :: 101 :: 115 :: 101 :: 116 :: 32 :: (D ++ 32 :: L2.rateL y))).length := gS
    have ga0 : ¬ 9223372036854775807 < 6 + D.length := by have := hD.2; have := hR.2; omega
    have ga1 : ¬ 9223372036854775807 < D.length + 6 := by have := hD.2; have := hR.2; omega
    have ga2 : ¬ 9223372036854775807 < 6 + D.length + 1 := by have := hD.2; have := hR.2; omega
    have ga3 : ¬ 9223372036854775807 < 6 + (D.length + 1) := by have := hD.2; have := hR.2; omega
    have ga4 : ¬ 9223372036854775807 < D.length + 6 + 1 := by have := hD.2; have := hR.2; omega
    have ga5 : ¬ 9223372036854775807 < D.length + 1 + 6 := by have := hD.2; have := hR.2; omega
    have ga6 : ¬ 9223372036854775807 < 6 + D.length + 1 + (L2.rateL y).length := by have := hD.2; have := hR.2; omega
    have ga7 : ¬ 9223372036854775807 < 6 + (D.length + 1) + (L2.rateL y).length := by have := hD.2; have := hR.2; omega
    have ga8 : ¬ 9223372036854775807 < 6 + (D.length + 1 + (L2.rateL y).length) := by have := hD.2; have := hR.2; omega
    have ga9 : ¬ 9223372036854775807 < 6 + (D.length + (1 + (L2.rateL y).length)) := by have := hD.2; have := hR.2; omega
    have ga10 : ¬ 9223372036854775807 < 6 + (D.length + ((L2.rateL y).length + 1)) := by have := hD.2; have := hR.2; omega
    have ga11 : ¬ 9223372036854775807 < D.length + 6 + 1 + (L2.rateL y).length := by have := hD.2; have := hR.2; omega
    have ga12 : ¬ 9223372036854775807 < D.length + 1 + 6 + (L2.rateL y).length := by have := hD.2; have := hR.2; omega
    have ga13 : ¬ 9223372036854775807 < D.length + (1 + (L2.rateL y).length) + 6 := by have := hD.2; have := hR.2; omega
    have ga14 : ¬ 9223372036854775807 < 6 + (D.length + 1) + (L2.rateL y).length := by have := hD.2; have := hR.2; omega
    have j0 := Late.cell ck; have j1 := Late.cell cx; have j2 := Late.cell cy
    have hNe : Nonempty (Late wr) := ⟨⟨_, Ext.refl _⟩⟩
    replace hD := show Hid _ from hD
    replace hR := show Hid _ from hR
    replace hc := show Hid _ from hc
    replace hl := show Hid _ from hl
    go_upto_region 12 with fail
    clear ck cx cy hA hLn hSl hxy b1 b2 b3 b4
    refine wp_region_late (by kernel_rfl) (by kernel_rfl) ?_
    repeat (go_big_quiet_step (first | (go_at_call 24; exact late_of (hc.out _)) | (go_at_call 25; exact late_of (L2.rrate_c _ _ (by assumption))) | (go_at_call 23; exact late_same (hl.out _))))
    refine wpQuiet_nil ?_
    intro wq hw'
    have hxq := show Hid _ from late_ext hw'
    clear hw' hNe j0 j1 j2
    go_wp2
    go_roundw
    case rel => exact ⟨k + 1, S ++ lineL ([114, 101, 115, 101, 116, 32] ++ (D ++ 32 :: L2.rateL y)), by omega, by go_num, rfl, (hP.out.on hxq.out hec.out (by simp only [List.length_append, List.length_cons, List.length_nil]; have := hD.out.2; have := hR.out.2; omega)).to hst.out⟩
    case measure => simp [RowKit.intOf]; omega
  obtain hke : k = p.rs.length := by omega

  obtain ⟨wa, hwa⟩ : ∃ x, x = wr := ⟨_, rfl⟩
  subst hwa
  have hrl20 := hK.out.rl_
  replace hP : Hid (Pru w wa b (pcells p vr vl vh) S 1981 p.nm ((((((((([] ++ [cCount p]) ++ [cRound p]) ++ [cKind p]) ++ [cEvery p]) ++ [cTimes p]) ++ [cGrace p]) ++ [cRate p]) ++ [cPenalty p]) ++ p.rs.map cReset)) := (hP.out.le (by omega)).to (by rw [hke, List.take_length])
  have hkn : ¬ (k : Int) < (p.rs.length : Int) := by omega
  clear hke hrl hrl20 hlt hk
  go_wp2_with fail
  clear ck hkn
  go_loopw [6, 7] (fun s i wr => ∃ (k : Nat) (O : List UInt8), k ≤ 4 ∧ i = .int .i64 k ∧ s = .string ⟨O.toArray⟩ ∧ Hid (O = ordT p k) ∧ O.length ≤ 5 + 12 * k ∧ Hid (Ext wa wr)) (fun _ i _ => 4 - (RowKit.intOf i).toNat)
  case atStart => exact ⟨0, [111, 114, 100, 101, 114], Nat.zero_le _, rfl, rfl, (show _ = _ from rfl), by decide, Ext.refl wa⟩
  case round =>
  obtain ⟨k, O, hk, rfl, rfl, hO, hol, hx⟩ := hrel
  by_cases hlt : k < 4
  · have hki : (k : Int) < 4 := by omega
    have hk0 : (0 : Int) ≤ (k : Int) := by omega
    obtain ⟨W3, d, hW3, hd, hx3, hS3⟩ := lay4d wr [102, 101, 101, 115] [112, 101, 110, 97, 108, 116, 121] [105, 110, 116, 101, 114, 101, 115, 116] [112, 114, 105, 110, 99, 105, 112, 97, 108]
    obtain ⟨i, hi4, hik, ci⟩ := ord_cell2 hK.out ((hP.out.blk.ext hx.out).ext hx3) k hlt
    obtain ⟨q, hq⟩ : ∃ q, ([[102, 101, 101, 115], [112, 101, 110, 97, 108, 116, 121], [105, 110, 116, 101, 114, 101, 115, 116], [112, 114, 105, 110, 99, 105, 112, 97, 108]] : List (List UInt8))[i]? = some q := ⟨_, List.getElem?_eq_getElem hi4⟩
    have cq := hS3 i q hq
    have hpq : Pce q ∧ q.length ≤ 9 := by
      match i, hi4, hq with
      | 0, _, hq => simp at hq; subst hq; exact ⟨⟨by decide, by decide, by decide⟩, by decide⟩
      | 1, _, hq => simp at hq; subst hq; exact ⟨⟨by decide, by decide, by decide⟩, by decide⟩
      | 2, _, hq => simp at hq; subst hq; exact ⟨⟨by decide, by decide, by decide⟩, by decide⟩
      | 3, _, hq => simp at hq; subst hq; exact ⟨⟨by decide, by decide, by decide⟩, by decide⟩
    have hiI : (i : Int) < 4 := by omega
    have g1 : ¬ 9223372036854775807 < O.length + 1 := by omega
    have g2 : ¬ 9223372036854775807 < O.length + 1 + q.length := by have := hpq.2; omega
    have g3 : ¬ 9223372036854775807 < O.length + (1 + q.length) := by have := hpq.2; omega
    have g4 : ¬ 9223372036854775807 < O.length + (q.length + 1) := by have := hpq.2; omega
    have hx4 := show Hid _ from hx.out.trans hx3
    have hO2 : Hid (O ++ 32 :: q = ordT p (k + 1)) := by
      show _ = _
      rw [ordT, hik, nth_of (o := txOrder) hq, ← hO.out]
    clear hO hik
    replace hpq := show Hid _ from hpq
    replace hol := show Hid _ from hol
    clear hq hS3 hx3
    go_wp2
    go_roundw
    case rel => exact ⟨k + 1, O ++ 32 :: q, by omega, by go_num, rfl, hO2, by simp only [List.length_append, List.length_cons]; have := hol.out; have := hpq.out.2; omega, hx4⟩
    case measure => simp [RowKit.intOf]; omega
  have hk4 : ¬ (k : Int) < 4 := by omega
  replace hol : O.length ≤ 53 := by omega
  replace hP : Hid (Pru w wr b (pcells p vr vl vh) S 1981 p.nm ((((((((([] ++ [cCount p]) ++ [cRound p]) ++ [cKind p]) ++ [cEvery p]) ++ [cTimes p]) ++ [cGrace p]) ++ [cRate p]) ++ [cPenalty p]) ++ p.rs.map cReset)) := hP.out.ext_ hx.out
  have heO : Hid (rowL (cOrder p) = lineL O) := by
    show rowL _ = _
    rw [hO.out, show k = 4 by omega]
    exact ordT_4 p
  obtain ⟨wo, hwo⟩ : ∃ x, x = wr := ⟨_, rfl⟩
  subst hwo
  clear hx hlt hk

  go_upto_region 18 with fail
  clear hk4
  go_cut [4] from 123 to 135 (fun s wx => ∃ S : List UInt8, s = .string ⟨S.toArray⟩ ∧ Pru w wx b (pcells p vr vl vh) S 2091 p.nm ((((((((((([] ++ [cCount p]) ++ [cRound p]) ++ [cKind p]) ++ [cEvery p]) ++ [cTimes p]) ++ [cGrace p]) ++ [cRate p]) ++ [cPenalty p]) ++ p.rs.map cReset) ++ [cOrder p]) ++ [cOver p]))
  case first =>
    obtain ⟨i, hi, hi3⟩ : ∃ i : Nat, p.ov = (i : Int) + 1 ∧ i < 3 := ⟨(p.ov - 1).toNat, by have := hK.out.ov; omega, by have := hK.out.ov; omega⟩
    have hiI : (i : Int) < 3 := by omega
    have hi0 : (0 : Int) ≤ (i : Int) := by omega
    have hwi : IntKind.i64.wrap (i : Int) = (i : Int) := by
      match i, hi3 with
      | 0, _ => rfl
      | 1, _ => rfl
      | 2, _ => rfl
    obtain ⟨q, hq⟩ : ∃ q, ([[104, 111, 108, 100], [112, 114, 101, 112, 97, 121], [114, 101, 102, 117, 110, 100]] : List (List UInt8))[i]? = some q := ⟨_, List.getElem?_eq_getElem hi3⟩
    have hpq : Pce q ∧ q.length ≤ 9 := by
      match i, hi3, hq with
      | 0, _, hq => simp at hq; subst hq; exact ⟨⟨by decide, by decide, by decide⟩, by decide⟩
      | 1, _, hq => simp at hq; subst hq; exact ⟨⟨by decide, by decide, by decide⟩, by decide⟩
      | 2, _, hq => simp at hq; subst hq; exact ⟨⟨by decide, by decide, by decide⟩, by decide⟩
    have hlO := fun W => line_c O W (by omega)
    have hlq := fun W => line_c ([111, 118, 101, 114, 32] ++ q) W (by simp only [List.length_append, List.length_cons, List.length_nil]; have := hpq.2; omega)
    have hl1 := lineL_len O
    have hl2 : (lineL ([111, 118, 101, 114, 32] ++ q)).length = q.length + 9 := by rw [lineL_len]; simp only [List.length_append, List.length_cons, List.length_nil]; omega
    have hSl := hP.out.len
    have g1 : ¬ 9223372036854775807 < 5 + q.length := by have := hpq.2; omega
    have g2 : ¬ 9223372036854775807 < q.length + 5 := by have := hpq.2; omega
    have g3 : ¬ 9223372036854775807 < S.length + (lineL O).length := by have := hpq.2; omega
    have g4 : ¬ 9223372036854775807 < S.length + (lineL O).length + (lineL ([111, 118, 101, 114, 32] ++ q)).length := by have := hpq.2; omega
    have g5 : ¬ 9223372036854775807 < S.length + ((lineL O).length + (lineL ([111, 118, 101, 114, 32] ++ q)).length) := by have := hpq.2; omega
    have g6 : ¬ 9223372036854775807 < S.length + ((lineL O).length + (lineL (111 :: 118 :: 101 :: 114 :: 32 :: q)).length) := g5
    have g7 : ¬ 9223372036854775807 < S.length + (lineL O).length + (lineL (111 :: 118 :: 101 :: 114 :: 32 :: q)).length := g4
    have ck := (cell_of_row wo b 14 _ _ _ hP.out.blk).trans (show _ = some (.int .i64 ((i : Int) + 1)) from by rw [← hi]; rfl)
    have heV : Hid (rowL (cOver p) = lineL ([111, 118, 101, 114, 32] ++ q)) := by
      show rowL _ = _
      unfold rowL cOver
      rw [hi, nth_of (o := txOver) hq]
      rfl
    replace hlO := show Hid _ from hlO
    replace hlq := show Hid _ from hlq
    replace hpq := show Hid _ from hpq
    clear hl1 hl2 hSl hi
    refine L8.wp_region_thrown (fun W => Ext wo W) (fun a => False) [] (fun t => none) (fun x W => False) (by kernel_rfl) (fun _ _ _ h1 _ h3 => h3.elim) (Ext.refl wo).drew (fun hSt => ?_)
    obtain ⟨wz, hwz⟩ : ∃ W, W = wo.drew := ⟨_, rfl⟩
    rw [← hwz] at hSt ⊢
    clear hwz
    refine L8.takeT 0 (oi := { dst := some 123, op := Op.move (Operand.tmp 4), type := 9, pos := "printer.go:37", after := #[], guard := none }) (v := .string ⟨S.toArray⟩) rfl (by kernel_rfl) (by kernel_rfl) (by kernel_rfl) (by decide) (Or.inl ⟨by rfl, fun W hW => ?_⟩) hSt ?_
    · go_simp
    simp only [Act.put, List.setIfInBounds_toArray, List.set_cons_zero, List.set_cons_succ]
    refine L8.takeT 1 (oi := { dst := some 124, op := Op.move (Operand.tmp 6), type := 9, pos := "printer.go:37", after := #[], guard := none }) (v := .string ⟨O.toArray⟩) rfl (by kernel_rfl) (by kernel_rfl) (by kernel_rfl) (by decide) (Or.inl ⟨by rfl, fun W hW => ?_⟩) hSt ?_
    · go_simp
    simp only [Act.put, List.setIfInBounds_toArray, List.set_cons_zero, List.set_cons_succ]
    refine L8.takeT 5 (oi := { dst := some 128, op := Op.fieldAddr 27 (Operand.tmp 1) 11, type := 0, pos := "printer.go:37", after := #[], guard := none }) (v := .pointer (some ⟨b, 14, none⟩)) rfl (by kernel_rfl) (by kernel_rfl) (by kernel_rfl) (by decide) (Or.inl ⟨by rfl, fun W hW => ?_⟩) hSt ?_
    · go_simp
    simp only [Act.put, List.setIfInBounds_toArray, List.set_cons_zero, List.set_cons_succ]
    refine L8.takeT 6 (oi := { dst := some 129, op := Op.load 3 (Operand.tmp 128), type := 3, pos := "printer.go:37", after := #[{ on := 5, ground := Ground.data }], guard := none }) (v := .int .i64 ((i : Int) + 1)) rfl (by kernel_rfl) (by kernel_rfl) (by kernel_rfl) (by decide) (Or.inl ⟨by rfl, fun W hW => ?_⟩) hSt ?_
    · have hW1 := (show Ext wo W from hW).cell_of ck
      go_simp
    simp only [Act.put, List.setIfInBounds_toArray, List.set_cons_zero, List.set_cons_succ]
    refine L8.takeT 7 (oi := { dst := some 130, op := Op.binOp BinOp.sub 3 (Operand.tmp 129) (Operand.const (Value.int IntKind.i64 1)) 3, type := 3, pos := "printer.go:37", after := #[{ on := 6, ground := Ground.data }], guard := none }) (v := .int .i64 (i : Int)) rfl (by kernel_rfl) (by kernel_rfl) (by kernel_rfl) (by decide) (Or.inl ⟨by rfl, fun W hW => ?_⟩) hSt ?_
    · go_simp
    simp only [Act.put, List.setIfInBounds_toArray, List.set_cons_zero, List.set_cons_succ]
    refine wpAnyH_ready (rs := [2, 4]) (by kernel_rfl) (by simp) ?_
    refine AllReadyH.cons (o := { dst := some 125, op := Op.call { callee := Callee.value (Operand.func 23), args := #[Operand.tmp 124], argTypes := #[9] }, type := 9, pos := "printer.go:37", after := #[{ on := 1, ground := Ground.data }], guard := none }) rfl (fun K hK => ?_) (AllReadyH.cons (o := { dst := some 127, op := Op.buildSlice 54 3 #[(0, Operand.const (Value.string { data := #[104, 111, 108, 100] })), (1, Operand.const (Value.string { data := #[112, 114, 101, 112, 97, 121] })), (2, Operand.const (Value.string { data := #[114, 101, 102, 117, 110, 100] }))], type := 54, pos := "printer.go:37", after := #[], guard := none }) rfl (fun K hK => ?_) AllReadyH.nil)
    · go_simp
      refine Calls.mono (hlO.out _) ?_
      rintro e w' ⟨he1, he2⟩
      subst e
      subst w'
      try dsimp only
      refine hK.out _ _ hSt ?_
      clear hK K
      intro _
      try simp only [Act.put, List.setIfInBounds_toArray, List.set_cons_zero, List.set_cons_succ]
      refine L8.takeT 3 (oi := { dst := some 126, op := Op.binOp BinOp.add 9 (Operand.tmp 123) (Operand.tmp 125) 9, type := 9, pos := "printer.go:37", after := #[{ on := 0, ground := Ground.data }, { on := 2, ground := Ground.data }], guard := none }) (v := .string ⟨(S ++ lineL O).toArray⟩) rfl (by kernel_rfl) (by kernel_rfl) (by kernel_rfl) (by decide) (Or.inl ⟨by rfl, fun W hW => ?_⟩) hSt ?_
      · go_simp
      simp only [Act.put, List.setIfInBounds_toArray, List.set_cons_zero, List.set_cons_succ]
      refine wpAnyH_ready (rs := [4]) (by kernel_rfl) (by simp) ?_
      refine AllReadyH.cons (o := { dst := some 127, op := Op.buildSlice 54 3 #[(0, Operand.const (Value.string { data := #[104, 111, 108, 100] })), (1, Operand.const (Value.string { data := #[112, 114, 101, 112, 97, 121] })), (2, Operand.const (Value.string { data := #[114, 101, 102, 117, 110, 100] }))], type := 54, pos := "printer.go:37", after := #[], guard := none }) rfl (fun K hK => ?_) AllReadyH.nil
      obtain ⟨V, dd, hV, hdd, hxv, hSS⟩ := lay3d wz [104, 111, 108, 100] [112, 114, 101, 112, 97, 121] [114, 101, 102, 117, 110, 100]
      have cqq := hSS i q hq
      go_simp
      have hE1 := Ext.trans hSt hxv
      refine hK.out _ _ hE1 ?_
      clear hK K
      intro _
      try simp only [Act.put, List.setIfInBounds_toArray, List.set_cons_zero, List.set_cons_succ]
      refine L8.takeT 8 (oi := { dst := some 131, op := Op.indexAddr 54 (Operand.tmp 127) (Operand.tmp 130), type := 0, pos := "printer.go:37", after := #[{ on := 4, ground := Ground.data }, { on := 7, ground := Ground.data }], guard := none }) (v := .pointer (some ⟨dd, i, none⟩)) rfl (by kernel_rfl) (by kernel_rfl) (by kernel_rfl) (by decide) (Or.inl ⟨by rfl, fun W hW => ?_⟩) hE1 ?_
      · go_simp
      simp only [Act.put, List.setIfInBounds_toArray, List.set_cons_zero, List.set_cons_succ]
      refine wpAnyH_ready (rs := [9]) (by kernel_rfl) (by simp) ?_
      refine AllReadyH.cons (o := { dst := some 132, op := Op.load 9 (Operand.tmp 131), type := 9, pos := "printer.go:37", after := #[{ on := 8, ground := Ground.data }], guard := none }) rfl (fun K hK => ?_) AllReadyH.nil
      go_simp
      refine hK.out _ _ hE1 ?_
      clear hK K
      intro _
      try simp only [Act.put, List.setIfInBounds_toArray, List.set_cons_zero, List.set_cons_succ]
      refine L8.takeT 10 (oi := { dst := some 133, op := Op.binOp BinOp.add 9 (Operand.const (Value.string { data := #[111, 118, 101, 114, 32] })) (Operand.tmp 132) 9, type := 9, pos := "printer.go:37", after := #[{ on := 9, ground := Ground.data }], guard := none }) (v := .string ⟨([111, 118, 101, 114, 32] ++ q).toArray⟩) rfl (by kernel_rfl) (by kernel_rfl) (by kernel_rfl) (by decide) (Or.inl ⟨by rfl, fun W hW => ?_⟩) hE1 ?_
      · go_simp
      simp only [Act.put, List.setIfInBounds_toArray, List.set_cons_zero, List.set_cons_succ]
      refine wpAnyH_ready (rs := [11]) (by kernel_rfl) (by simp) ?_
      refine AllReadyH.cons (o := { dst := some 134, op := Op.call { callee := Callee.value (Operand.func 23), args := #[Operand.tmp 133], argTypes := #[9] }, type := 9, pos := "printer.go:37", after := #[{ on := 10, ground := Ground.data }, { on := 2, ground := Ground.chain }], guard := none }) rfl (fun K hK => ?_) AllReadyH.nil
      go_simp
      refine Calls.mono (hlq.out _) ?_
      rintro e w' ⟨he1, he2⟩
      subst e
      subst w'
      try dsimp only
      refine hK.out _ _ hE1 ?_
      clear hK K
      intro _
      try simp only [Act.put, List.setIfInBounds_toArray, List.set_cons_zero, List.set_cons_succ]
      refine L8.takeT 12 (oi := { dst := some 135, op := Op.binOp BinOp.add 9 (Operand.tmp 126) (Operand.tmp 134) 9, type := 9, pos := "printer.go:37", after := #[{ on := 3, ground := Ground.data }, { on := 11, ground := Ground.data }], guard := none }) (v := .string ⟨((S ++ lineL O) ++ lineL ([111, 118, 101, 114, 32] ++ q)).toArray⟩) rfl (by kernel_rfl) (by kernel_rfl) (by kernel_rfl) (by decide) (Or.inl ⟨by rfl, fun W hW => ?_⟩) hE1 ?_
      · go_simp
      simp only [Act.put, List.setIfInBounds_toArray, List.set_cons_zero, List.set_cons_succ]
      refine L8.takeT 13 (oi := { dst := some 4, op := Op.assign (Operand.tmp 135), type := 9, pos := "printer.go:37", after := #[{ on := 12, ground := Ground.data }, { on := 11, ground := Ground.chain }, { on := 0, ground := Ground.phase }, { on := 1, ground := Ground.phase }, { on := 2, ground := Ground.phase }, { on := 3, ground := Ground.phase }, { on := 4, ground := Ground.phase }, { on := 5, ground := Ground.phase }, { on := 6, ground := Ground.phase }, { on := 7, ground := Ground.phase }, { on := 8, ground := Ground.phase }, { on := 9, ground := Ground.phase }, { on := 10, ground := Ground.phase }, { on := 11, ground := Ground.phase }, { on := 12, ground := Ground.phase }], guard := none }) (v := .string ⟨((S ++ lineL O) ++ lineL ([111, 118, 101, 114, 32] ++ q)).toArray⟩) rfl (by kernel_rfl) (by kernel_rfl) (by kernel_rfl) (by decide) (Or.inl ⟨by rfl, fun W hW => ?_⟩) hE1 ?_
      · go_simp
      simp only [Act.put, List.setIfInBounds_toArray, List.set_cons_zero, List.set_cons_succ]
      refine wpAnyH_done (by kernel_rfl) (L8.ThrowQ.normal ?_) _
      have hfin := show Hid _ from hE1
      clear ck g1 g2 g3 g4 g5 g6 g7
      go_wp2
      go_meet
      exact ⟨(S ++ lineL O) ++ lineL ([111, 118, 101, 114, 32] ++ q), by simp only [List.append_assoc], (hP.out.on hfin.out heO.out (M := 2051) (by omega)).on (Ext.refl _) heV.out (by simp only [List.length_append, List.length_cons, List.length_nil]; have := hpq.out.2; omega)⟩
    · obtain ⟨V, dd, hV, hdd, hxv, hSS⟩ := lay3d wz [104, 111, 108, 100] [112, 114, 101, 112, 97, 121] [114, 101, 102, 117, 110, 100]
      have cqq := hSS i q hq
      go_simp
      have hE0 := Ext.trans hSt hxv
      refine hK.out _ _ hE0 ?_
      clear hK K
      intro _
      try simp only [Act.put, List.setIfInBounds_toArray, List.set_cons_zero, List.set_cons_succ]
      refine L8.takeT 8 (oi := { dst := some 131, op := Op.indexAddr 54 (Operand.tmp 127) (Operand.tmp 130), type := 0, pos := "printer.go:37", after := #[{ on := 4, ground := Ground.data }, { on := 7, ground := Ground.data }], guard := none }) (v := .pointer (some ⟨dd, i, none⟩)) rfl (by kernel_rfl) (by kernel_rfl) (by kernel_rfl) (by decide) (Or.inl ⟨by rfl, fun W hW => ?_⟩) hE0 ?_
      · go_simp
      simp only [Act.put, List.setIfInBounds_toArray, List.set_cons_zero, List.set_cons_succ]
      refine wpAnyH_ready (rs := [2, 9]) (by kernel_rfl) (by simp) ?_
      refine AllReadyH.cons (o := { dst := some 125, op := Op.call { callee := Callee.value (Operand.func 23), args := #[Operand.tmp 124], argTypes := #[9] }, type := 9, pos := "printer.go:37", after := #[{ on := 1, ground := Ground.data }], guard := none }) rfl (fun K hK => ?_) (AllReadyH.cons (o := { dst := some 132, op := Op.load 9 (Operand.tmp 131), type := 9, pos := "printer.go:37", after := #[{ on := 8, ground := Ground.data }], guard := none }) rfl (fun K hK => ?_) AllReadyH.nil)
      · go_simp
        refine Calls.mono (hlO.out _) ?_
        rintro e w' ⟨he1, he2⟩
        subst e
        subst w'
        try dsimp only
        refine hK.out _ _ hE0 ?_
        clear hK K
        intro _
        try simp only [Act.put, List.setIfInBounds_toArray, List.set_cons_zero, List.set_cons_succ]
        refine L8.takeT 3 (oi := { dst := some 126, op := Op.binOp BinOp.add 9 (Operand.tmp 123) (Operand.tmp 125) 9, type := 9, pos := "printer.go:37", after := #[{ on := 0, ground := Ground.data }, { on := 2, ground := Ground.data }], guard := none }) (v := .string ⟨(S ++ lineL O).toArray⟩) rfl (by kernel_rfl) (by kernel_rfl) (by kernel_rfl) (by decide) (Or.inl ⟨by rfl, fun W hW => ?_⟩) hE0 ?_
        · go_simp
        simp only [Act.put, List.setIfInBounds_toArray, List.set_cons_zero, List.set_cons_succ]
        refine wpAnyH_ready (rs := [9]) (by kernel_rfl) (by simp) ?_
        refine AllReadyH.cons (o := { dst := some 132, op := Op.load 9 (Operand.tmp 131), type := 9, pos := "printer.go:37", after := #[{ on := 8, ground := Ground.data }], guard := none }) rfl (fun K hK => ?_) AllReadyH.nil
        go_simp
        refine hK.out _ _ hE0 ?_
        clear hK K
        intro _
        try simp only [Act.put, List.setIfInBounds_toArray, List.set_cons_zero, List.set_cons_succ]
        refine L8.takeT 10 (oi := { dst := some 133, op := Op.binOp BinOp.add 9 (Operand.const (Value.string { data := #[111, 118, 101, 114, 32] })) (Operand.tmp 132) 9, type := 9, pos := "printer.go:37", after := #[{ on := 9, ground := Ground.data }], guard := none }) (v := .string ⟨([111, 118, 101, 114, 32] ++ q).toArray⟩) rfl (by kernel_rfl) (by kernel_rfl) (by kernel_rfl) (by decide) (Or.inl ⟨by rfl, fun W hW => ?_⟩) hE0 ?_
        · go_simp
        simp only [Act.put, List.setIfInBounds_toArray, List.set_cons_zero, List.set_cons_succ]
        refine wpAnyH_ready (rs := [11]) (by kernel_rfl) (by simp) ?_
        refine AllReadyH.cons (o := { dst := some 134, op := Op.call { callee := Callee.value (Operand.func 23), args := #[Operand.tmp 133], argTypes := #[9] }, type := 9, pos := "printer.go:37", after := #[{ on := 10, ground := Ground.data }, { on := 2, ground := Ground.chain }], guard := none }) rfl (fun K hK => ?_) AllReadyH.nil
        go_simp
        refine Calls.mono (hlq.out _) ?_
        rintro e w' ⟨he1, he2⟩
        subst e
        subst w'
        try dsimp only
        refine hK.out _ _ hE0 ?_
        clear hK K
        intro _
        try simp only [Act.put, List.setIfInBounds_toArray, List.set_cons_zero, List.set_cons_succ]
        refine L8.takeT 12 (oi := { dst := some 135, op := Op.binOp BinOp.add 9 (Operand.tmp 126) (Operand.tmp 134) 9, type := 9, pos := "printer.go:37", after := #[{ on := 3, ground := Ground.data }, { on := 11, ground := Ground.data }], guard := none }) (v := .string ⟨((S ++ lineL O) ++ lineL ([111, 118, 101, 114, 32] ++ q)).toArray⟩) rfl (by kernel_rfl) (by kernel_rfl) (by kernel_rfl) (by decide) (Or.inl ⟨by rfl, fun W hW => ?_⟩) hE0 ?_
        · go_simp
        simp only [Act.put, List.setIfInBounds_toArray, List.set_cons_zero, List.set_cons_succ]
        refine L8.takeT 13 (oi := { dst := some 4, op := Op.assign (Operand.tmp 135), type := 9, pos := "printer.go:37", after := #[{ on := 12, ground := Ground.data }, { on := 11, ground := Ground.chain }, { on := 0, ground := Ground.phase }, { on := 1, ground := Ground.phase }, { on := 2, ground := Ground.phase }, { on := 3, ground := Ground.phase }, { on := 4, ground := Ground.phase }, { on := 5, ground := Ground.phase }, { on := 6, ground := Ground.phase }, { on := 7, ground := Ground.phase }, { on := 8, ground := Ground.phase }, { on := 9, ground := Ground.phase }, { on := 10, ground := Ground.phase }, { on := 11, ground := Ground.phase }, { on := 12, ground := Ground.phase }], guard := none }) (v := .string ⟨((S ++ lineL O) ++ lineL ([111, 118, 101, 114, 32] ++ q)).toArray⟩) rfl (by kernel_rfl) (by kernel_rfl) (by kernel_rfl) (by decide) (Or.inl ⟨by rfl, fun W hW => ?_⟩) hE0 ?_
        · go_simp
        simp only [Act.put, List.setIfInBounds_toArray, List.set_cons_zero, List.set_cons_succ]
        refine wpAnyH_done (by kernel_rfl) (L8.ThrowQ.normal ?_) _
        have hfin := show Hid _ from hE0
        clear ck g1 g2 g3 g4 g5 g6 g7
        go_wp2
        go_meet
        exact ⟨(S ++ lineL O) ++ lineL ([111, 118, 101, 114, 32] ++ q), by simp only [List.append_assoc], (hP.out.on hfin.out heO.out (M := 2051) (by omega)).on (Ext.refl _) heV.out (by simp only [List.length_append, List.length_cons, List.length_nil]; have := hpq.out.2; omega)⟩
      · go_simp
        refine hK.out _ _ hE0 ?_
        clear hK K
        intro _
        try simp only [Act.put, List.setIfInBounds_toArray, List.set_cons_zero, List.set_cons_succ]
        refine L8.takeT 10 (oi := { dst := some 133, op := Op.binOp BinOp.add 9 (Operand.const (Value.string { data := #[111, 118, 101, 114, 32] })) (Operand.tmp 132) 9, type := 9, pos := "printer.go:37", after := #[{ on := 9, ground := Ground.data }], guard := none }) (v := .string ⟨([111, 118, 101, 114, 32] ++ q).toArray⟩) rfl (by kernel_rfl) (by kernel_rfl) (by kernel_rfl) (by decide) (Or.inl ⟨by rfl, fun W hW => ?_⟩) hE0 ?_
        · go_simp
        simp only [Act.put, List.setIfInBounds_toArray, List.set_cons_zero, List.set_cons_succ]
        refine wpAnyH_ready (rs := [2]) (by kernel_rfl) (by simp) ?_
        refine AllReadyH.cons (o := { dst := some 125, op := Op.call { callee := Callee.value (Operand.func 23), args := #[Operand.tmp 124], argTypes := #[9] }, type := 9, pos := "printer.go:37", after := #[{ on := 1, ground := Ground.data }], guard := none }) rfl (fun K hK => ?_) AllReadyH.nil
        go_simp
        refine Calls.mono (hlO.out _) ?_
        rintro e w' ⟨he1, he2⟩
        subst e
        subst w'
        try dsimp only
        refine hK.out _ _ hE0 ?_
        clear hK K
        intro _
        try simp only [Act.put, List.setIfInBounds_toArray, List.set_cons_zero, List.set_cons_succ]
        refine L8.takeT 3 (oi := { dst := some 126, op := Op.binOp BinOp.add 9 (Operand.tmp 123) (Operand.tmp 125) 9, type := 9, pos := "printer.go:37", after := #[{ on := 0, ground := Ground.data }, { on := 2, ground := Ground.data }], guard := none }) (v := .string ⟨(S ++ lineL O).toArray⟩) rfl (by kernel_rfl) (by kernel_rfl) (by kernel_rfl) (by decide) (Or.inl ⟨by rfl, fun W hW => ?_⟩) hE0 ?_
        · go_simp
        simp only [Act.put, List.setIfInBounds_toArray, List.set_cons_zero, List.set_cons_succ]
        refine wpAnyH_ready (rs := [11]) (by kernel_rfl) (by simp) ?_
        refine AllReadyH.cons (o := { dst := some 134, op := Op.call { callee := Callee.value (Operand.func 23), args := #[Operand.tmp 133], argTypes := #[9] }, type := 9, pos := "printer.go:37", after := #[{ on := 10, ground := Ground.data }, { on := 2, ground := Ground.chain }], guard := none }) rfl (fun K hK => ?_) AllReadyH.nil
        go_simp
        refine Calls.mono (hlq.out _) ?_
        rintro e w' ⟨he1, he2⟩
        subst e
        subst w'
        try dsimp only
        refine hK.out _ _ hE0 ?_
        clear hK K
        intro _
        try simp only [Act.put, List.setIfInBounds_toArray, List.set_cons_zero, List.set_cons_succ]
        refine L8.takeT 12 (oi := { dst := some 135, op := Op.binOp BinOp.add 9 (Operand.tmp 126) (Operand.tmp 134) 9, type := 9, pos := "printer.go:37", after := #[{ on := 3, ground := Ground.data }, { on := 11, ground := Ground.data }], guard := none }) (v := .string ⟨((S ++ lineL O) ++ lineL ([111, 118, 101, 114, 32] ++ q)).toArray⟩) rfl (by kernel_rfl) (by kernel_rfl) (by kernel_rfl) (by decide) (Or.inl ⟨by rfl, fun W hW => ?_⟩) hE0 ?_
        · go_simp
        simp only [Act.put, List.setIfInBounds_toArray, List.set_cons_zero, List.set_cons_succ]
        refine L8.takeT 13 (oi := { dst := some 4, op := Op.assign (Operand.tmp 135), type := 9, pos := "printer.go:37", after := #[{ on := 12, ground := Ground.data }, { on := 11, ground := Ground.chain }, { on := 0, ground := Ground.phase }, { on := 1, ground := Ground.phase }, { on := 2, ground := Ground.phase }, { on := 3, ground := Ground.phase }, { on := 4, ground := Ground.phase }, { on := 5, ground := Ground.phase }, { on := 6, ground := Ground.phase }, { on := 7, ground := Ground.phase }, { on := 8, ground := Ground.phase }, { on := 9, ground := Ground.phase }, { on := 10, ground := Ground.phase }, { on := 11, ground := Ground.phase }, { on := 12, ground := Ground.phase }], guard := none }) (v := .string ⟨((S ++ lineL O) ++ lineL ([111, 118, 101, 114, 32] ++ q)).toArray⟩) rfl (by kernel_rfl) (by kernel_rfl) (by kernel_rfl) (by decide) (Or.inl ⟨by rfl, fun W hW => ?_⟩) hE0 ?_
        · go_simp
        simp only [Act.put, List.setIfInBounds_toArray, List.set_cons_zero, List.set_cons_succ]
        refine wpAnyH_done (by kernel_rfl) (L8.ThrowQ.normal ?_) _
        have hfin := show Hid _ from hE0
        clear ck g1 g2 g3 g4 g5 g6 g7
        go_wp2
        go_meet
        exact ⟨(S ++ lineL O) ++ lineL ([111, 118, 101, 114, 32] ++ q), by simp only [List.append_assoc], (hP.out.on hfin.out heO.out (M := 2051) (by omega)).on (Ext.refl _) heV.out (by simp only [List.length_append, List.length_cons, List.length_nil]; have := hpq.out.2; omega)⟩
  case rest =>
  clear hP
  obtain ⟨S, rfl, hP⟩ := hcut
  replace hP := show Hid _ from hP


  go_wp2_with fail
  go_loopw [4, 8] (fun s i wr => ∃ (k : Nat) (S : List UInt8), k ≤ p.lt.length ∧ i = .int .i64 k ∧ s = .string ⟨S.toArray⟩ ∧ Hid (Pru w wr b (pcells p vr vl vh) S (2091 + 80 * k) p.nm (((((((((((([] ++ [cCount p]) ++ [cRound p]) ++ [cKind p]) ++ [cEvery p]) ++ [cTimes p]) ++ [cGrace p]) ++ [cRate p]) ++ [cPenalty p]) ++ p.rs.map cReset) ++ [cOrder p]) ++ [cOver p]) ++ (p.lt.take k).map cLate))) (fun _ i _ => p.lt.length - (RowKit.intOf i).toNat)
  case atStart => exact ⟨0, S, Nat.zero_le _, rfl, rfl, hP.out.to (by rw [List.take_zero, List.map_nil, List.append_nil])⟩
  case round =>
  clear hP
  obtain ⟨k, S, hk, rfl, rfl, hP⟩ := hrel
  have hrl := hK.out.ll
  have ck := (cell_of_row wr b 15 _ _ _ hP.out.blk).trans (show _ = some (.slice al p.lt.length cll) from congrArg some hvl.out)
  by_cases hlt : k < p.lt.length
  · have hki : (k : Int) < (p.lt.length : Int) := by omega
    have hk0 : (0 : Int) ≤ (k : Int) := by omega
    obtain ⟨⟨x, y⟩, hxy⟩ : ∃ z, p.lt[k]? = some z := ⟨_, List.getElem?_eq_getElem hlt⟩
    obtain ⟨b1, b2, b3, b4⟩ := hK.out.lt (x, y) (List.mem_of_getElem? hxy)
    obtain ⟨n, hn⟩ : ∃ n : Nat, x = (n : Int) := ⟨x.toNat, by simp only [] at b1; omega⟩
    subst hn
    have hst : Hid (rowsL ((((((((((((([] ++ [cCount p]) ++ [cRound p]) ++ [cKind p]) ++ [cEvery p]) ++ [cTimes p]) ++ [cGrace p]) ++ [cRate p]) ++ [cPenalty p]) ++ p.rs.map cReset) ++ [cOrder p]) ++ [cOver p]) ++ (p.lt.take k).map cLate) ++ [cLate ((n : Int), y)]) = rowsL (((((((((((([] ++ [cCount p]) ++ [cRound p]) ++ [cKind p]) ++ [cEvery p]) ++ [cTimes p]) ++ [cGrace p]) ++ [cRate p]) ++ [cPenalty p]) ++ p.rs.map cReset) ++ [cOrder p]) ++ [cOver p]) ++ (p.lt.take (k + 1)).map cLate)) := by
      show rowsL _ = _
      rw [rowsL_app _ [cLate ((n : Int), y)], rowsL_app _ ((p.lt.take k).map cLate), rowsL_app _ ((p.lt.take (k + 1)).map cLate), rows_next hxy, rowsL_one, List.append_assoc]
    have hec : Hid (rowL (cLate ((n : Int), y)) = lineL ([108, 97, 116, 101, 32] ++ (decDigits n ++ 32 :: L2.moneyL y))) := by
      show rowL _ = _
      unfold rowL cLate
      simp only [Int.toNat_natCast]
      rfl
    have hcell : ∃ g off, al = some ⟨g, off, none⟩ ∧ wr.cell? ⟨g, off + k * 2, none⟩ = some (.int .i64 (n : Int)) ∧ wr.cell? ⟨g, off + k * 2 + 1, none⟩ = some (.int .i64 y) := by
      rcases sl.out with ⟨_, _, _, _, hl⟩ | ⟨g, off, c, hv, hc⟩
      · rw [hl] at hlt; simp at hlt
      · have hv2 := hv.symm.trans hvl.out
        simp only [Value.slice.injEq] at hv2
        exact ⟨g, off, hv2.1.symm, hP.out.ext.cell_of (hc k _ _ hxy).1, hP.out.ext.cell_of (hc k _ _ hxy).2⟩
    obtain ⟨g, off, rfl, cx, cy⟩ := hcell
    have hI := i64_of b3 (by simp only [] at b4; omega)
    have hR : Pce (L2.moneyL y) ∧ (L2.moneyL y).length ≤ 40 := ⟨pce_money _ b3, money_len _ b3 (by simp only [] at b4; omega)⟩
    have hD : Pce (decDigits n) ∧ (decDigits n).length ≤ 9 := ⟨pce_dec _, by have := dec_len 8 n (by simp only [] at b2; omega); omega⟩
    have hc := fun W => numP_c n W (by simp only [] at b2; omega)
    generalize decDigits n = D at *
    have hA : ([108, 97, 116, 101, 32] ++ (D ++ 32 :: L2.moneyL y)).length ≤ 100 := by simp only [List.length_append, List.length_cons, List.length_nil]; have := hD.2; have := hR.2; omega
    have hl := fun W => line_c ([108, 97, 116, 101, 32] ++ (D ++ 32 :: L2.moneyL y)) W (by omega)
    have hLn := lineL_len ([108, 97, 116, 101, 32] ++ (D ++ 32 :: L2.moneyL y))
    have hSl := hP.out.len
    have gS : ¬ 9223372036854775807 < S.length + (lineL ([108, 97, 116, 101, 32] ++ (D ++ 32 :: L2.moneyL y))).length := by omega
    have gSc : ¬ 9223372036854775807 < S.length + (lineL (108 :: 97 :: 116 :: 101 :: 32 :: (D ++ 32 :: L2.moneyL y))).length := gS
    have ga0 : ¬ 9223372036854775807 < 5 + D.length := by have := hD.2; have := hR.2; omega
    have ga1 : ¬ 9223372036854775807 < D.length + 5 := by have := hD.2; have := hR.2; omega
    have ga2 : ¬ 9223372036854775807 < 5 + D.length + 1 := by have := hD.2; have := hR.2; omega
    have ga3 : ¬ 9223372036854775807 < 5 + (D.length + 1) := by have := hD.2; have := hR.2; omega
    have ga4 : ¬ 9223372036854775807 < D.length + 5 + 1 := by have := hD.2; have := hR.2; omega
    have ga5 : ¬ 9223372036854775807 < D.length + 1 + 5 := by have := hD.2; have := hR.2; omega
    have ga6 : ¬ 9223372036854775807 < 5 + D.length + 1 + (L2.moneyL y).length := by have := hD.2; have := hR.2; omega
    have ga7 : ¬ 9223372036854775807 < 5 + (D.length + 1) + (L2.moneyL y).length := by have := hD.2; have := hR.2; omega
    have ga8 : ¬ 9223372036854775807 < 5 + (D.length + 1 + (L2.moneyL y).length) := by have := hD.2; have := hR.2; omega
    have ga9 : ¬ 9223372036854775807 < 5 + (D.length + (1 + (L2.moneyL y).length)) := by have := hD.2; have := hR.2; omega
    have ga10 : ¬ 9223372036854775807 < 5 + (D.length + ((L2.moneyL y).length + 1)) := by have := hD.2; have := hR.2; omega
    have ga11 : ¬ 9223372036854775807 < D.length + 5 + 1 + (L2.moneyL y).length := by have := hD.2; have := hR.2; omega
    have ga12 : ¬ 9223372036854775807 < D.length + 1 + 5 + (L2.moneyL y).length := by have := hD.2; have := hR.2; omega
    have ga13 : ¬ 9223372036854775807 < D.length + (1 + (L2.moneyL y).length) + 5 := by have := hD.2; have := hR.2; omega
    have ga14 : ¬ 9223372036854775807 < 5 + (D.length + 1) + (L2.moneyL y).length := by have := hD.2; have := hR.2; omega
    have j0 := Late.cell ck; have j1 := Late.cell cx; have j2 := Late.cell cy
    have hNe : Nonempty (Late wr) := ⟨⟨_, Ext.refl _⟩⟩
    replace hD := show Hid _ from hD
    replace hR := show Hid _ from hR
    replace hc := show Hid _ from hc
    replace hl := show Hid _ from hl
    go_upto_region 22 with fail
    clear ck cx cy hA hLn hSl hxy b1 b2 b3 b4
    refine wp_region_late (by kernel_rfl) (by kernel_rfl) ?_
    repeat (go_big_quiet_step (first | (go_at_call 24; exact late_of (hc.out _)) | (go_at_call 26; exact late_of (L2.rmoney_c _ _ (by assumption))) | (go_at_call 23; exact late_same (hl.out _))))
    refine wpQuiet_nil ?_
    intro wq hw'
    have hxq := show Hid _ from late_ext hw'
    clear hw' hNe j0 j1 j2
    go_wp2
    go_roundw
    case rel => exact ⟨k + 1, S ++ lineL ([108, 97, 116, 101, 32] ++ (D ++ 32 :: L2.moneyL y)), by omega, by go_num, rfl, (hP.out.on hxq.out hec.out (by simp only [List.length_append, List.length_cons, List.length_nil]; have := hD.out.2; have := hR.out.2; omega)).to hst.out⟩
    case measure => simp [RowKit.intOf]; omega
  obtain hke : k = p.lt.length := by omega

  obtain ⟨wb, hwb⟩ : ∃ x, x = wr := ⟨_, rfl⟩
  subst hwb
  have hll8 := hK.out.ll
  replace hP : Hid (Pru w wb b (pcells p vr vl vh) S 2731 p.nm (((((((((((([] ++ [cCount p]) ++ [cRound p]) ++ [cKind p]) ++ [cEvery p]) ++ [cTimes p]) ++ [cGrace p]) ++ [cRate p]) ++ [cPenalty p]) ++ p.rs.map cReset) ++ [cOrder p]) ++ [cOver p]) ++ p.lt.map cLate)) := (hP.out.le (by omega)).to (by rw [hke, List.take_length])
  have hkn : ¬ (k : Int) < (p.lt.length : Int) := by omega
  clear hke hrl hll8 hlt hk

  go_upto_region 23 with fail
  clear ck hkn
  go_cut [4] from 163 to 178 (fun s wx => ∃ S : List UInt8, s = .string ⟨S.toArray⟩ ∧ Pru w wx b (pcells p vr vl vh) S 2828 p.nm (((((((((((((([] ++ [cCount p]) ++ [cRound p]) ++ [cKind p]) ++ [cEvery p]) ++ [cTimes p]) ++ [cGrace p]) ++ [cRate p]) ++ [cPenalty p]) ++ p.rs.map cReset) ++ [cOrder p]) ++ [cOver p]) ++ p.lt.map cLate) ++ [cCap p]) ++ [cRoll p]))
  case first =>
    obtain ⟨i, hi, hi3⟩ : ∃ i : Nat, p.rl = (i : Int) + 1 ∧ i < 4 := ⟨(p.rl - 1).toNat, by have := hK.out.rl; omega, by have := hK.out.rl; omega⟩
    have hiI : (i : Int) < 4 := by omega
    have hi0 : (0 : Int) ≤ (i : Int) := by omega
    have hwi : IntKind.i64.wrap (i : Int) = (i : Int) := by
      match i, hi3 with
      | 0, _ => rfl
      | 1, _ => rfl
      | 2, _ => rfl
      | 3, _ => rfl
    obtain ⟨q, hq⟩ : ∃ q, ([[115, 116, 97, 121], [110, 101, 120, 116], [119, 105, 116, 104, 105, 110], [112, 114, 101, 118, 105, 111, 117, 115]] : List (List UInt8))[i]? = some q := ⟨_, List.getElem?_eq_getElem hi3⟩
    have hpq : Pce q ∧ q.length ≤ 9 := by
      match i, hi3, hq with
      | 0, _, hq => simp at hq; subst hq; exact ⟨⟨by decide, by decide, by decide⟩, by decide⟩
      | 1, _, hq => simp at hq; subst hq; exact ⟨⟨by decide, by decide, by decide⟩, by decide⟩
      | 2, _, hq => simp at hq; subst hq; exact ⟨⟨by decide, by decide, by decide⟩, by decide⟩
      | 3, _, hq => simp at hq; subst hq; exact ⟨⟨by decide, by decide, by decide⟩, by decide⟩
    obtain ⟨v, hv⟩ : ∃ v : Int, p.cp = v := ⟨_, rfl⟩
    have hb := hK.out.cp
    rw [hv] at hb
    have hM : Pce (L2.moneyL v) ∧ (L2.moneyL v).length ≤ 40 := ⟨pce_money _ hb.1, money_len _ hb.1 (by have := hb.2; omega)⟩
    have hmo := fun W => L2.rmoney_c v W (i64_of hb.1 (by have := hb.2; omega))
    have hlO := fun W => line_c ([99, 97, 112, 32] ++ L2.moneyL v) W (by simp only [List.length_append, List.length_cons, List.length_nil]; have := hM.2; omega)
    have hlq := fun W => line_c ([114, 111, 108, 108, 32] ++ q) W (by simp only [List.length_append, List.length_cons, List.length_nil]; have := hpq.2; omega)
    have hl1 : (lineL ([99, 97, 112, 32] ++ L2.moneyL v)).length = (L2.moneyL v).length + 8 := by rw [lineL_len]; simp only [List.length_append, List.length_cons, List.length_nil]; omega
    have hl2 : (lineL ([114, 111, 108, 108, 32] ++ q)).length = q.length + 9 := by rw [lineL_len]; simp only [List.length_append, List.length_cons, List.length_nil]; omega
    have hSl := hP.out.len
    have hM2 := hM.2
    have g0 : ¬ 9223372036854775807 < 5 + q.length := by have := hpq.2; omega
    have g1 : ¬ 9223372036854775807 < q.length + 5 := by have := hpq.2; omega
    have g2 : ¬ 9223372036854775807 < 4 + (L2.moneyL v).length := by have := hpq.2; omega
    have g3 : ¬ 9223372036854775807 < (L2.moneyL v).length + 4 := by have := hpq.2; omega
    have g4 : ¬ 9223372036854775807 < S.length + (lineL ([99, 97, 112, 32] ++ L2.moneyL v)).length := by have := hpq.2; omega
    have g5 : ¬ 9223372036854775807 < S.length + (lineL ([99, 97, 112, 32] ++ L2.moneyL v)).length + (lineL ([114, 111, 108, 108, 32] ++ q)).length := by have := hpq.2; omega
    have g6 : ¬ 9223372036854775807 < S.length + ((lineL ([99, 97, 112, 32] ++ L2.moneyL v)).length + (lineL ([114, 111, 108, 108, 32] ++ q)).length) := by have := hpq.2; omega
    have g7 : ¬ 9223372036854775807 < S.length + (lineL (99 :: 97 :: 112 :: 32 :: L2.moneyL v)).length := g4
    have g8 : ¬ 9223372036854775807 < S.length + (lineL (99 :: 97 :: 112 :: 32 :: L2.moneyL v)).length + (lineL (114 :: 111 :: 108 :: 108 :: 32 :: q)).length := g5
    have g9 : ¬ 9223372036854775807 < S.length + ((lineL (99 :: 97 :: 112 :: 32 :: L2.moneyL v)).length + (lineL (114 :: 111 :: 108 :: 108 :: 32 :: q)).length) := g6
    have ck := (cell_of_row wb b 17 _ _ _ hP.out.blk).trans (show _ = some (.int .i64 ((i : Int) + 1)) from by rw [← hi]; rfl)
    have cm := (cell_of_row wb b 16 _ _ _ hP.out.blk).trans (show _ = some (.int .i64 v) from by rw [← hv]; rfl)
    have heC : Hid (rowL (cCap p) = lineL ([99, 97, 112, 32] ++ L2.moneyL v)) := by
      show rowL _ = _
      unfold rowL cCap
      rw [hv]
      rfl
    have heR : Hid (rowL (cRoll p) = lineL ([114, 111, 108, 108, 32] ++ q)) := by
      show rowL _ = _
      unfold rowL cRoll
      rw [hi, nth_of (o := txRoll) hq]
      rfl
    replace hmo := show Hid _ from hmo
    replace hM := show Hid _ from hM
    replace hlO := show Hid _ from hlO
    replace hlq := show Hid _ from hlq
    replace hpq := show Hid _ from hpq
    clear hl1 hl2 hSl hi hv hM2 hb
    refine L8.wp_region_thrown (fun W => Ext wb W) (fun a => False) [] (fun t => none) (fun x W => False) (by kernel_rfl) (fun _ _ _ h1 _ h3 => h3.elim) (Ext.refl wb).drew (fun hSt => ?_)
    obtain ⟨wz, hwz⟩ : ∃ W, W = wb.drew := ⟨_, rfl⟩
    rw [← hwz] at hSt ⊢
    clear hwz
    refine L8.takeT 0 (oi := { dst := some 163, op := Op.move (Operand.tmp 4), type := 9, pos := "printer.go:41", after := #[], guard := none }) (v := .string ⟨S.toArray⟩) rfl (by kernel_rfl) (by kernel_rfl) (by kernel_rfl) (by decide) (Or.inl ⟨by rfl, fun W hW => ?_⟩) hSt ?_
    · go_simp
    simp only [Act.put, List.setIfInBounds_toArray, List.set_cons_zero, List.set_cons_succ]
    refine L8.takeT 1 (oi := { dst := some 164, op := Op.fieldAddr 27 (Operand.tmp 1) 13, type := 0, pos := "printer.go:41", after := #[], guard := none }) (v := .pointer (some ⟨b, 16, none⟩)) rfl (by kernel_rfl) (by kernel_rfl) (by kernel_rfl) (by decide) (Or.inl ⟨by rfl, fun W hW => ?_⟩) hSt ?_
    · go_simp
    simp only [Act.put, List.setIfInBounds_toArray, List.set_cons_zero, List.set_cons_succ]
    refine L8.takeT 2 (oi := { dst := some 165, op := Op.load 2 (Operand.tmp 164), type := 2, pos := "printer.go:41", after := #[{ on := 1, ground := Ground.data }], guard := none }) (v := .int .i64 v) rfl (by kernel_rfl) (by kernel_rfl) (by kernel_rfl) (by decide) (Or.inl ⟨by rfl, fun W hW => ?_⟩) hSt ?_
    · have hW1 := (show Ext wb W from hW).cell_of cm
      go_simp
    simp only [Act.put, List.setIfInBounds_toArray, List.set_cons_zero, List.set_cons_succ]
    refine L8.takeT 8 (oi := { dst := some 171, op := Op.fieldAddr 27 (Operand.tmp 1) 14, type := 0, pos := "printer.go:41", after := #[], guard := none }) (v := .pointer (some ⟨b, 17, none⟩)) rfl (by kernel_rfl) (by kernel_rfl) (by kernel_rfl) (by decide) (Or.inl ⟨by rfl, fun W hW => ?_⟩) hSt ?_
    · go_simp
    simp only [Act.put, List.setIfInBounds_toArray, List.set_cons_zero, List.set_cons_succ]
    refine L8.takeT 9 (oi := { dst := some 172, op := Op.load 3 (Operand.tmp 171), type := 3, pos := "printer.go:41", after := #[{ on := 8, ground := Ground.data }], guard := none }) (v := .int .i64 ((i : Int) + 1)) rfl (by kernel_rfl) (by kernel_rfl) (by kernel_rfl) (by decide) (Or.inl ⟨by rfl, fun W hW => ?_⟩) hSt ?_
    · have hW1 := (show Ext wb W from hW).cell_of ck
      go_simp
    simp only [Act.put, List.setIfInBounds_toArray, List.set_cons_zero, List.set_cons_succ]
    refine L8.takeT 10 (oi := { dst := some 173, op := Op.binOp BinOp.sub 3 (Operand.tmp 172) (Operand.const (Value.int IntKind.i64 1)) 3, type := 3, pos := "printer.go:41", after := #[{ on := 9, ground := Ground.data }], guard := none }) (v := .int .i64 (i : Int)) rfl (by kernel_rfl) (by kernel_rfl) (by kernel_rfl) (by decide) (Or.inl ⟨by rfl, fun W hW => ?_⟩) hSt ?_
    · go_simp
    simp only [Act.put, List.setIfInBounds_toArray, List.set_cons_zero, List.set_cons_succ]
    refine wpAnyH_ready (rs := [3, 7]) (by kernel_rfl) (by simp) ?_
    refine AllReadyH.cons (o := { dst := some 166, op := Op.call { callee := Callee.value (Operand.func 26), args := #[Operand.tmp 165], argTypes := #[2] }, type := 9, pos := "printer.go:41", after := #[{ on := 2, ground := Ground.data }], guard := none }) rfl (fun K hK => ?_) (AllReadyH.cons (o := { dst := some 170, op := Op.buildSlice 54 4 #[(0, Operand.const (Value.string { data := #[115, 116, 97, 121] })), (1, Operand.const (Value.string { data := #[110, 101, 120, 116] })), (2, Operand.const (Value.string { data := #[119, 105, 116, 104, 105, 110] })), (3, Operand.const (Value.string { data := #[112, 114, 101, 118, 105, 111, 117, 115] }))], type := 54, pos := "printer.go:41", after := #[], guard := none }) rfl (fun K hK => ?_) AllReadyH.nil)
    · go_simp
      refine Calls.mono (hmo.out _) ?_
      rintro e wm ⟨rfl, hxm⟩
      try dsimp only
      have hE0 := Ext.trans hSt hxm
      try (replace cqq := hxm.cell_of cqq)
      refine hK.out _ _ hE0 ?_
      clear hK K
      intro _
      try simp only [Act.put, List.setIfInBounds_toArray, List.set_cons_zero, List.set_cons_succ]
      refine L8.takeT 4 (oi := { dst := some 167, op := Op.binOp BinOp.add 9 (Operand.const (Value.string { data := #[99, 97, 112, 32] })) (Operand.tmp 166) 9, type := 9, pos := "printer.go:41", after := #[{ on := 3, ground := Ground.data }], guard := none }) (v := .string ⟨([99, 97, 112, 32] ++ L2.moneyL v).toArray⟩) rfl (by kernel_rfl) (by kernel_rfl) (by kernel_rfl) (by decide) (Or.inl ⟨by rfl, fun W hW => ?_⟩) hE0 ?_
      · go_simp
      simp only [Act.put, List.setIfInBounds_toArray, List.set_cons_zero, List.set_cons_succ]
      refine wpAnyH_ready (rs := [5, 7]) (by kernel_rfl) (by simp) ?_
      refine AllReadyH.cons (o := { dst := some 168, op := Op.call { callee := Callee.value (Operand.func 23), args := #[Operand.tmp 167], argTypes := #[9] }, type := 9, pos := "printer.go:41", after := #[{ on := 4, ground := Ground.data }, { on := 3, ground := Ground.chain }], guard := none }) rfl (fun K hK => ?_) (AllReadyH.cons (o := { dst := some 170, op := Op.buildSlice 54 4 #[(0, Operand.const (Value.string { data := #[115, 116, 97, 121] })), (1, Operand.const (Value.string { data := #[110, 101, 120, 116] })), (2, Operand.const (Value.string { data := #[119, 105, 116, 104, 105, 110] })), (3, Operand.const (Value.string { data := #[112, 114, 101, 118, 105, 111, 117, 115] }))], type := 54, pos := "printer.go:41", after := #[], guard := none }) rfl (fun K hK => ?_) AllReadyH.nil)
      · go_simp
        refine Calls.mono (hlO.out _) ?_
        rintro e w' ⟨he1, he2⟩
        subst e
        subst w'
        try dsimp only
        refine hK.out _ _ hE0 ?_
        clear hK K
        intro _
        try simp only [Act.put, List.setIfInBounds_toArray, List.set_cons_zero, List.set_cons_succ]
        refine L8.takeT 6 (oi := { dst := some 169, op := Op.binOp BinOp.add 9 (Operand.tmp 163) (Operand.tmp 168) 9, type := 9, pos := "printer.go:41", after := #[{ on := 0, ground := Ground.data }, { on := 5, ground := Ground.data }], guard := none }) (v := .string ⟨(S ++ lineL ([99, 97, 112, 32] ++ L2.moneyL v)).toArray⟩) rfl (by kernel_rfl) (by kernel_rfl) (by kernel_rfl) (by decide) (Or.inl ⟨by rfl, fun W hW => ?_⟩) hE0 ?_
        · go_simp
        simp only [Act.put, List.setIfInBounds_toArray, List.set_cons_zero, List.set_cons_succ]
        refine wpAnyH_ready (rs := [7]) (by kernel_rfl) (by simp) ?_
        refine AllReadyH.cons (o := { dst := some 170, op := Op.buildSlice 54 4 #[(0, Operand.const (Value.string { data := #[115, 116, 97, 121] })), (1, Operand.const (Value.string { data := #[110, 101, 120, 116] })), (2, Operand.const (Value.string { data := #[119, 105, 116, 104, 105, 110] })), (3, Operand.const (Value.string { data := #[112, 114, 101, 118, 105, 111, 117, 115] }))], type := 54, pos := "printer.go:41", after := #[], guard := none }) rfl (fun K hK => ?_) AllReadyH.nil
        obtain ⟨V, dd, hV, hdd, hxv, hSS⟩ := lay4d wm [115, 116, 97, 121] [110, 101, 120, 116] [119, 105, 116, 104, 105, 110] [112, 114, 101, 118, 105, 111, 117, 115]
        have cqq := hSS i q hq
        go_simp
        have hE2 := Ext.trans hE0 hxv
        refine hK.out _ _ hE2 ?_
        clear hK K
        intro _
        try simp only [Act.put, List.setIfInBounds_toArray, List.set_cons_zero, List.set_cons_succ]
        refine L8.takeT 11 (oi := { dst := some 174, op := Op.indexAddr 54 (Operand.tmp 170) (Operand.tmp 173), type := 0, pos := "printer.go:41", after := #[{ on := 7, ground := Ground.data }, { on := 10, ground := Ground.data }], guard := none }) (v := .pointer (some ⟨dd, i, none⟩)) rfl (by kernel_rfl) (by kernel_rfl) (by kernel_rfl) (by decide) (Or.inl ⟨by rfl, fun W hW => ?_⟩) hE2 ?_
        · go_simp
        simp only [Act.put, List.setIfInBounds_toArray, List.set_cons_zero, List.set_cons_succ]
        refine wpAnyH_ready (rs := [12]) (by kernel_rfl) (by simp) ?_
        refine AllReadyH.cons (o := { dst := some 175, op := Op.load 9 (Operand.tmp 174), type := 9, pos := "printer.go:41", after := #[{ on := 11, ground := Ground.data }], guard := none }) rfl (fun K hK => ?_) AllReadyH.nil
        go_simp
        refine hK.out _ _ hE2 ?_
        clear hK K
        intro _
        try simp only [Act.put, List.setIfInBounds_toArray, List.set_cons_zero, List.set_cons_succ]
        refine L8.takeT 13 (oi := { dst := some 176, op := Op.binOp BinOp.add 9 (Operand.const (Value.string { data := #[114, 111, 108, 108, 32] })) (Operand.tmp 175) 9, type := 9, pos := "printer.go:41", after := #[{ on := 12, ground := Ground.data }], guard := none }) (v := .string ⟨([114, 111, 108, 108, 32] ++ q).toArray⟩) rfl (by kernel_rfl) (by kernel_rfl) (by kernel_rfl) (by decide) (Or.inl ⟨by rfl, fun W hW => ?_⟩) hE2 ?_
        · go_simp
        simp only [Act.put, List.setIfInBounds_toArray, List.set_cons_zero, List.set_cons_succ]
        refine wpAnyH_ready (rs := [14]) (by kernel_rfl) (by simp) ?_
        refine AllReadyH.cons (o := { dst := some 177, op := Op.call { callee := Callee.value (Operand.func 23), args := #[Operand.tmp 176], argTypes := #[9] }, type := 9, pos := "printer.go:41", after := #[{ on := 13, ground := Ground.data }, { on := 5, ground := Ground.chain }], guard := none }) rfl (fun K hK => ?_) AllReadyH.nil
        go_simp
        refine Calls.mono (hlq.out _) ?_
        rintro e w' ⟨he1, he2⟩
        subst e
        subst w'
        try dsimp only
        refine hK.out _ _ hE2 ?_
        clear hK K
        intro _
        try simp only [Act.put, List.setIfInBounds_toArray, List.set_cons_zero, List.set_cons_succ]
        refine L8.takeT 15 (oi := { dst := some 178, op := Op.binOp BinOp.add 9 (Operand.tmp 169) (Operand.tmp 177) 9, type := 9, pos := "printer.go:41", after := #[{ on := 6, ground := Ground.data }, { on := 14, ground := Ground.data }], guard := none }) (v := .string ⟨((S ++ lineL ([99, 97, 112, 32] ++ L2.moneyL v)) ++ lineL ([114, 111, 108, 108, 32] ++ q)).toArray⟩) rfl (by kernel_rfl) (by kernel_rfl) (by kernel_rfl) (by decide) (Or.inl ⟨by rfl, fun W hW => ?_⟩) hE2 ?_
        · go_simp
        simp only [Act.put, List.setIfInBounds_toArray, List.set_cons_zero, List.set_cons_succ]
        refine L8.takeT 16 (oi := { dst := some 4, op := Op.assign (Operand.tmp 178), type := 9, pos := "printer.go:41", after := #[{ on := 15, ground := Ground.data }, { on := 14, ground := Ground.chain }, { on := 0, ground := Ground.phase }, { on := 1, ground := Ground.phase }, { on := 2, ground := Ground.phase }, { on := 3, ground := Ground.phase }, { on := 4, ground := Ground.phase }, { on := 5, ground := Ground.phase }, { on := 6, ground := Ground.phase }, { on := 7, ground := Ground.phase }, { on := 8, ground := Ground.phase }, { on := 9, ground := Ground.phase }, { on := 10, ground := Ground.phase }, { on := 11, ground := Ground.phase }, { on := 12, ground := Ground.phase }, { on := 13, ground := Ground.phase }, { on := 14, ground := Ground.phase }, { on := 15, ground := Ground.phase }], guard := none }) (v := .string ⟨((S ++ lineL ([99, 97, 112, 32] ++ L2.moneyL v)) ++ lineL ([114, 111, 108, 108, 32] ++ q)).toArray⟩) rfl (by kernel_rfl) (by kernel_rfl) (by kernel_rfl) (by decide) (Or.inl ⟨by rfl, fun W hW => ?_⟩) hE2 ?_
        · go_simp
        simp only [Act.put, List.setIfInBounds_toArray, List.set_cons_zero, List.set_cons_succ]
        refine wpAnyH_done (by kernel_rfl) (L8.ThrowQ.normal ?_) _
        have hfin := show Hid _ from hE2
        clear ck cm g0 g1 g2 g3 g4 g5 g6 g7 g8 g9
        go_wp2
        go_meet
        exact ⟨((S ++ lineL ([99, 97, 112, 32] ++ L2.moneyL v)) ++ lineL ([114, 111, 108, 108, 32] ++ q)), by simp only [List.append_assoc], (hP.out.on hfin.out heC.out (M := 2791) (by simp only [List.length_append, List.length_cons, List.length_nil]; have := hM.out.2; omega)).on (Ext.refl _) heR.out (by simp only [List.length_append, List.length_cons, List.length_nil]; have := hpq.out.2; omega)⟩
      · obtain ⟨V, dd, hV, hdd, hxv, hSS⟩ := lay4d wm [115, 116, 97, 121] [110, 101, 120, 116] [119, 105, 116, 104, 105, 110] [112, 114, 101, 118, 105, 111, 117, 115]
        have cqq := hSS i q hq
        go_simp
        have hE1 := Ext.trans hE0 hxv
        refine hK.out _ _ hE1 ?_
        clear hK K
        intro _
        try simp only [Act.put, List.setIfInBounds_toArray, List.set_cons_zero, List.set_cons_succ]
        refine L8.takeT 11 (oi := { dst := some 174, op := Op.indexAddr 54 (Operand.tmp 170) (Operand.tmp 173), type := 0, pos := "printer.go:41", after := #[{ on := 7, ground := Ground.data }, { on := 10, ground := Ground.data }], guard := none }) (v := .pointer (some ⟨dd, i, none⟩)) rfl (by kernel_rfl) (by kernel_rfl) (by kernel_rfl) (by decide) (Or.inl ⟨by rfl, fun W hW => ?_⟩) hE1 ?_
        · go_simp
        simp only [Act.put, List.setIfInBounds_toArray, List.set_cons_zero, List.set_cons_succ]
        refine wpAnyH_ready (rs := [5, 12]) (by kernel_rfl) (by simp) ?_
        refine AllReadyH.cons (o := { dst := some 168, op := Op.call { callee := Callee.value (Operand.func 23), args := #[Operand.tmp 167], argTypes := #[9] }, type := 9, pos := "printer.go:41", after := #[{ on := 4, ground := Ground.data }, { on := 3, ground := Ground.chain }], guard := none }) rfl (fun K hK => ?_) (AllReadyH.cons (o := { dst := some 175, op := Op.load 9 (Operand.tmp 174), type := 9, pos := "printer.go:41", after := #[{ on := 11, ground := Ground.data }], guard := none }) rfl (fun K hK => ?_) AllReadyH.nil)
        · go_simp
          refine Calls.mono (hlO.out _) ?_
          rintro e w' ⟨he1, he2⟩
          subst e
          subst w'
          try dsimp only
          refine hK.out _ _ hE1 ?_
          clear hK K
          intro _
          try simp only [Act.put, List.setIfInBounds_toArray, List.set_cons_zero, List.set_cons_succ]
          refine L8.takeT 6 (oi := { dst := some 169, op := Op.binOp BinOp.add 9 (Operand.tmp 163) (Operand.tmp 168) 9, type := 9, pos := "printer.go:41", after := #[{ on := 0, ground := Ground.data }, { on := 5, ground := Ground.data }], guard := none }) (v := .string ⟨(S ++ lineL ([99, 97, 112, 32] ++ L2.moneyL v)).toArray⟩) rfl (by kernel_rfl) (by kernel_rfl) (by kernel_rfl) (by decide) (Or.inl ⟨by rfl, fun W hW => ?_⟩) hE1 ?_
          · go_simp
          simp only [Act.put, List.setIfInBounds_toArray, List.set_cons_zero, List.set_cons_succ]
          refine wpAnyH_ready (rs := [12]) (by kernel_rfl) (by simp) ?_
          refine AllReadyH.cons (o := { dst := some 175, op := Op.load 9 (Operand.tmp 174), type := 9, pos := "printer.go:41", after := #[{ on := 11, ground := Ground.data }], guard := none }) rfl (fun K hK => ?_) AllReadyH.nil
          go_simp
          refine hK.out _ _ hE1 ?_
          clear hK K
          intro _
          try simp only [Act.put, List.setIfInBounds_toArray, List.set_cons_zero, List.set_cons_succ]
          refine L8.takeT 13 (oi := { dst := some 176, op := Op.binOp BinOp.add 9 (Operand.const (Value.string { data := #[114, 111, 108, 108, 32] })) (Operand.tmp 175) 9, type := 9, pos := "printer.go:41", after := #[{ on := 12, ground := Ground.data }], guard := none }) (v := .string ⟨([114, 111, 108, 108, 32] ++ q).toArray⟩) rfl (by kernel_rfl) (by kernel_rfl) (by kernel_rfl) (by decide) (Or.inl ⟨by rfl, fun W hW => ?_⟩) hE1 ?_
          · go_simp
          simp only [Act.put, List.setIfInBounds_toArray, List.set_cons_zero, List.set_cons_succ]
          refine wpAnyH_ready (rs := [14]) (by kernel_rfl) (by simp) ?_
          refine AllReadyH.cons (o := { dst := some 177, op := Op.call { callee := Callee.value (Operand.func 23), args := #[Operand.tmp 176], argTypes := #[9] }, type := 9, pos := "printer.go:41", after := #[{ on := 13, ground := Ground.data }, { on := 5, ground := Ground.chain }], guard := none }) rfl (fun K hK => ?_) AllReadyH.nil
          go_simp
          refine Calls.mono (hlq.out _) ?_
          rintro e w' ⟨he1, he2⟩
          subst e
          subst w'
          try dsimp only
          refine hK.out _ _ hE1 ?_
          clear hK K
          intro _
          try simp only [Act.put, List.setIfInBounds_toArray, List.set_cons_zero, List.set_cons_succ]
          refine L8.takeT 15 (oi := { dst := some 178, op := Op.binOp BinOp.add 9 (Operand.tmp 169) (Operand.tmp 177) 9, type := 9, pos := "printer.go:41", after := #[{ on := 6, ground := Ground.data }, { on := 14, ground := Ground.data }], guard := none }) (v := .string ⟨((S ++ lineL ([99, 97, 112, 32] ++ L2.moneyL v)) ++ lineL ([114, 111, 108, 108, 32] ++ q)).toArray⟩) rfl (by kernel_rfl) (by kernel_rfl) (by kernel_rfl) (by decide) (Or.inl ⟨by rfl, fun W hW => ?_⟩) hE1 ?_
          · go_simp
          simp only [Act.put, List.setIfInBounds_toArray, List.set_cons_zero, List.set_cons_succ]
          refine L8.takeT 16 (oi := { dst := some 4, op := Op.assign (Operand.tmp 178), type := 9, pos := "printer.go:41", after := #[{ on := 15, ground := Ground.data }, { on := 14, ground := Ground.chain }, { on := 0, ground := Ground.phase }, { on := 1, ground := Ground.phase }, { on := 2, ground := Ground.phase }, { on := 3, ground := Ground.phase }, { on := 4, ground := Ground.phase }, { on := 5, ground := Ground.phase }, { on := 6, ground := Ground.phase }, { on := 7, ground := Ground.phase }, { on := 8, ground := Ground.phase }, { on := 9, ground := Ground.phase }, { on := 10, ground := Ground.phase }, { on := 11, ground := Ground.phase }, { on := 12, ground := Ground.phase }, { on := 13, ground := Ground.phase }, { on := 14, ground := Ground.phase }, { on := 15, ground := Ground.phase }], guard := none }) (v := .string ⟨((S ++ lineL ([99, 97, 112, 32] ++ L2.moneyL v)) ++ lineL ([114, 111, 108, 108, 32] ++ q)).toArray⟩) rfl (by kernel_rfl) (by kernel_rfl) (by kernel_rfl) (by decide) (Or.inl ⟨by rfl, fun W hW => ?_⟩) hE1 ?_
          · go_simp
          simp only [Act.put, List.setIfInBounds_toArray, List.set_cons_zero, List.set_cons_succ]
          refine wpAnyH_done (by kernel_rfl) (L8.ThrowQ.normal ?_) _
          have hfin := show Hid _ from hE1
          clear ck cm g0 g1 g2 g3 g4 g5 g6 g7 g8 g9
          go_wp2
          go_meet
          exact ⟨((S ++ lineL ([99, 97, 112, 32] ++ L2.moneyL v)) ++ lineL ([114, 111, 108, 108, 32] ++ q)), by simp only [List.append_assoc], (hP.out.on hfin.out heC.out (M := 2791) (by simp only [List.length_append, List.length_cons, List.length_nil]; have := hM.out.2; omega)).on (Ext.refl _) heR.out (by simp only [List.length_append, List.length_cons, List.length_nil]; have := hpq.out.2; omega)⟩
        · go_simp
          refine hK.out _ _ hE1 ?_
          clear hK K
          intro _
          try simp only [Act.put, List.setIfInBounds_toArray, List.set_cons_zero, List.set_cons_succ]
          refine L8.takeT 13 (oi := { dst := some 176, op := Op.binOp BinOp.add 9 (Operand.const (Value.string { data := #[114, 111, 108, 108, 32] })) (Operand.tmp 175) 9, type := 9, pos := "printer.go:41", after := #[{ on := 12, ground := Ground.data }], guard := none }) (v := .string ⟨([114, 111, 108, 108, 32] ++ q).toArray⟩) rfl (by kernel_rfl) (by kernel_rfl) (by kernel_rfl) (by decide) (Or.inl ⟨by rfl, fun W hW => ?_⟩) hE1 ?_
          · go_simp
          simp only [Act.put, List.setIfInBounds_toArray, List.set_cons_zero, List.set_cons_succ]
          refine wpAnyH_ready (rs := [5]) (by kernel_rfl) (by simp) ?_
          refine AllReadyH.cons (o := { dst := some 168, op := Op.call { callee := Callee.value (Operand.func 23), args := #[Operand.tmp 167], argTypes := #[9] }, type := 9, pos := "printer.go:41", after := #[{ on := 4, ground := Ground.data }, { on := 3, ground := Ground.chain }], guard := none }) rfl (fun K hK => ?_) AllReadyH.nil
          go_simp
          refine Calls.mono (hlO.out _) ?_
          rintro e w' ⟨he1, he2⟩
          subst e
          subst w'
          try dsimp only
          refine hK.out _ _ hE1 ?_
          clear hK K
          intro _
          try simp only [Act.put, List.setIfInBounds_toArray, List.set_cons_zero, List.set_cons_succ]
          refine L8.takeT 6 (oi := { dst := some 169, op := Op.binOp BinOp.add 9 (Operand.tmp 163) (Operand.tmp 168) 9, type := 9, pos := "printer.go:41", after := #[{ on := 0, ground := Ground.data }, { on := 5, ground := Ground.data }], guard := none }) (v := .string ⟨(S ++ lineL ([99, 97, 112, 32] ++ L2.moneyL v)).toArray⟩) rfl (by kernel_rfl) (by kernel_rfl) (by kernel_rfl) (by decide) (Or.inl ⟨by rfl, fun W hW => ?_⟩) hE1 ?_
          · go_simp
          simp only [Act.put, List.setIfInBounds_toArray, List.set_cons_zero, List.set_cons_succ]
          refine wpAnyH_ready (rs := [14]) (by kernel_rfl) (by simp) ?_
          refine AllReadyH.cons (o := { dst := some 177, op := Op.call { callee := Callee.value (Operand.func 23), args := #[Operand.tmp 176], argTypes := #[9] }, type := 9, pos := "printer.go:41", after := #[{ on := 13, ground := Ground.data }, { on := 5, ground := Ground.chain }], guard := none }) rfl (fun K hK => ?_) AllReadyH.nil
          go_simp
          refine Calls.mono (hlq.out _) ?_
          rintro e w' ⟨he1, he2⟩
          subst e
          subst w'
          try dsimp only
          refine hK.out _ _ hE1 ?_
          clear hK K
          intro _
          try simp only [Act.put, List.setIfInBounds_toArray, List.set_cons_zero, List.set_cons_succ]
          refine L8.takeT 15 (oi := { dst := some 178, op := Op.binOp BinOp.add 9 (Operand.tmp 169) (Operand.tmp 177) 9, type := 9, pos := "printer.go:41", after := #[{ on := 6, ground := Ground.data }, { on := 14, ground := Ground.data }], guard := none }) (v := .string ⟨((S ++ lineL ([99, 97, 112, 32] ++ L2.moneyL v)) ++ lineL ([114, 111, 108, 108, 32] ++ q)).toArray⟩) rfl (by kernel_rfl) (by kernel_rfl) (by kernel_rfl) (by decide) (Or.inl ⟨by rfl, fun W hW => ?_⟩) hE1 ?_
          · go_simp
          simp only [Act.put, List.setIfInBounds_toArray, List.set_cons_zero, List.set_cons_succ]
          refine L8.takeT 16 (oi := { dst := some 4, op := Op.assign (Operand.tmp 178), type := 9, pos := "printer.go:41", after := #[{ on := 15, ground := Ground.data }, { on := 14, ground := Ground.chain }, { on := 0, ground := Ground.phase }, { on := 1, ground := Ground.phase }, { on := 2, ground := Ground.phase }, { on := 3, ground := Ground.phase }, { on := 4, ground := Ground.phase }, { on := 5, ground := Ground.phase }, { on := 6, ground := Ground.phase }, { on := 7, ground := Ground.phase }, { on := 8, ground := Ground.phase }, { on := 9, ground := Ground.phase }, { on := 10, ground := Ground.phase }, { on := 11, ground := Ground.phase }, { on := 12, ground := Ground.phase }, { on := 13, ground := Ground.phase }, { on := 14, ground := Ground.phase }, { on := 15, ground := Ground.phase }], guard := none }) (v := .string ⟨((S ++ lineL ([99, 97, 112, 32] ++ L2.moneyL v)) ++ lineL ([114, 111, 108, 108, 32] ++ q)).toArray⟩) rfl (by kernel_rfl) (by kernel_rfl) (by kernel_rfl) (by decide) (Or.inl ⟨by rfl, fun W hW => ?_⟩) hE1 ?_
          · go_simp
          simp only [Act.put, List.setIfInBounds_toArray, List.set_cons_zero, List.set_cons_succ]
          refine wpAnyH_done (by kernel_rfl) (L8.ThrowQ.normal ?_) _
          have hfin := show Hid _ from hE1
          clear ck cm g0 g1 g2 g3 g4 g5 g6 g7 g8 g9
          go_wp2
          go_meet
          exact ⟨((S ++ lineL ([99, 97, 112, 32] ++ L2.moneyL v)) ++ lineL ([114, 111, 108, 108, 32] ++ q)), by simp only [List.append_assoc], (hP.out.on hfin.out heC.out (M := 2791) (by simp only [List.length_append, List.length_cons, List.length_nil]; have := hM.out.2; omega)).on (Ext.refl _) heR.out (by simp only [List.length_append, List.length_cons, List.length_nil]; have := hpq.out.2; omega)⟩
    · obtain ⟨V, dd, hV, hdd, hxv, hSS⟩ := lay4d wz [115, 116, 97, 121] [110, 101, 120, 116] [119, 105, 116, 104, 105, 110] [112, 114, 101, 118, 105, 111, 117, 115]
      have cqq := hSS i q hq
      go_simp
      have hE0 := Ext.trans hSt hxv
      refine hK.out _ _ hE0 ?_
      clear hK K
      intro _
      try simp only [Act.put, List.setIfInBounds_toArray, List.set_cons_zero, List.set_cons_succ]
      refine L8.takeT 11 (oi := { dst := some 174, op := Op.indexAddr 54 (Operand.tmp 170) (Operand.tmp 173), type := 0, pos := "printer.go:41", after := #[{ on := 7, ground := Ground.data }, { on := 10, ground := Ground.data }], guard := none }) (v := .pointer (some ⟨dd, i, none⟩)) rfl (by kernel_rfl) (by kernel_rfl) (by kernel_rfl) (by decide) (Or.inl ⟨by rfl, fun W hW => ?_⟩) hE0 ?_
      · go_simp
      simp only [Act.put, List.setIfInBounds_toArray, List.set_cons_zero, List.set_cons_succ]
      refine wpAnyH_ready (rs := [3, 12]) (by kernel_rfl) (by simp) ?_
      refine AllReadyH.cons (o := { dst := some 166, op := Op.call { callee := Callee.value (Operand.func 26), args := #[Operand.tmp 165], argTypes := #[2] }, type := 9, pos := "printer.go:41", after := #[{ on := 2, ground := Ground.data }], guard := none }) rfl (fun K hK => ?_) (AllReadyH.cons (o := { dst := some 175, op := Op.load 9 (Operand.tmp 174), type := 9, pos := "printer.go:41", after := #[{ on := 11, ground := Ground.data }], guard := none }) rfl (fun K hK => ?_) AllReadyH.nil)
      · go_simp
        refine Calls.mono (hmo.out _) ?_
        rintro e wm ⟨rfl, hxm⟩
        try dsimp only
        have hE1 := Ext.trans hE0 hxm
        try (replace cqq := hxm.cell_of cqq)
        refine hK.out _ _ hE1 ?_
        clear hK K
        intro _
        try simp only [Act.put, List.setIfInBounds_toArray, List.set_cons_zero, List.set_cons_succ]
        refine L8.takeT 4 (oi := { dst := some 167, op := Op.binOp BinOp.add 9 (Operand.const (Value.string { data := #[99, 97, 112, 32] })) (Operand.tmp 166) 9, type := 9, pos := "printer.go:41", after := #[{ on := 3, ground := Ground.data }], guard := none }) (v := .string ⟨([99, 97, 112, 32] ++ L2.moneyL v).toArray⟩) rfl (by kernel_rfl) (by kernel_rfl) (by kernel_rfl) (by decide) (Or.inl ⟨by rfl, fun W hW => ?_⟩) hE1 ?_
        · go_simp
        simp only [Act.put, List.setIfInBounds_toArray, List.set_cons_zero, List.set_cons_succ]
        refine wpAnyH_ready (rs := [5, 12]) (by kernel_rfl) (by simp) ?_
        refine AllReadyH.cons (o := { dst := some 168, op := Op.call { callee := Callee.value (Operand.func 23), args := #[Operand.tmp 167], argTypes := #[9] }, type := 9, pos := "printer.go:41", after := #[{ on := 4, ground := Ground.data }, { on := 3, ground := Ground.chain }], guard := none }) rfl (fun K hK => ?_) (AllReadyH.cons (o := { dst := some 175, op := Op.load 9 (Operand.tmp 174), type := 9, pos := "printer.go:41", after := #[{ on := 11, ground := Ground.data }], guard := none }) rfl (fun K hK => ?_) AllReadyH.nil)
        · go_simp
          refine Calls.mono (hlO.out _) ?_
          rintro e w' ⟨he1, he2⟩
          subst e
          subst w'
          try dsimp only
          refine hK.out _ _ hE1 ?_
          clear hK K
          intro _
          try simp only [Act.put, List.setIfInBounds_toArray, List.set_cons_zero, List.set_cons_succ]
          refine L8.takeT 6 (oi := { dst := some 169, op := Op.binOp BinOp.add 9 (Operand.tmp 163) (Operand.tmp 168) 9, type := 9, pos := "printer.go:41", after := #[{ on := 0, ground := Ground.data }, { on := 5, ground := Ground.data }], guard := none }) (v := .string ⟨(S ++ lineL ([99, 97, 112, 32] ++ L2.moneyL v)).toArray⟩) rfl (by kernel_rfl) (by kernel_rfl) (by kernel_rfl) (by decide) (Or.inl ⟨by rfl, fun W hW => ?_⟩) hE1 ?_
          · go_simp
          simp only [Act.put, List.setIfInBounds_toArray, List.set_cons_zero, List.set_cons_succ]
          refine wpAnyH_ready (rs := [12]) (by kernel_rfl) (by simp) ?_
          refine AllReadyH.cons (o := { dst := some 175, op := Op.load 9 (Operand.tmp 174), type := 9, pos := "printer.go:41", after := #[{ on := 11, ground := Ground.data }], guard := none }) rfl (fun K hK => ?_) AllReadyH.nil
          go_simp
          refine hK.out _ _ hE1 ?_
          clear hK K
          intro _
          try simp only [Act.put, List.setIfInBounds_toArray, List.set_cons_zero, List.set_cons_succ]
          refine L8.takeT 13 (oi := { dst := some 176, op := Op.binOp BinOp.add 9 (Operand.const (Value.string { data := #[114, 111, 108, 108, 32] })) (Operand.tmp 175) 9, type := 9, pos := "printer.go:41", after := #[{ on := 12, ground := Ground.data }], guard := none }) (v := .string ⟨([114, 111, 108, 108, 32] ++ q).toArray⟩) rfl (by kernel_rfl) (by kernel_rfl) (by kernel_rfl) (by decide) (Or.inl ⟨by rfl, fun W hW => ?_⟩) hE1 ?_
          · go_simp
          simp only [Act.put, List.setIfInBounds_toArray, List.set_cons_zero, List.set_cons_succ]
          refine wpAnyH_ready (rs := [14]) (by kernel_rfl) (by simp) ?_
          refine AllReadyH.cons (o := { dst := some 177, op := Op.call { callee := Callee.value (Operand.func 23), args := #[Operand.tmp 176], argTypes := #[9] }, type := 9, pos := "printer.go:41", after := #[{ on := 13, ground := Ground.data }, { on := 5, ground := Ground.chain }], guard := none }) rfl (fun K hK => ?_) AllReadyH.nil
          go_simp
          refine Calls.mono (hlq.out _) ?_
          rintro e w' ⟨he1, he2⟩
          subst e
          subst w'
          try dsimp only
          refine hK.out _ _ hE1 ?_
          clear hK K
          intro _
          try simp only [Act.put, List.setIfInBounds_toArray, List.set_cons_zero, List.set_cons_succ]
          refine L8.takeT 15 (oi := { dst := some 178, op := Op.binOp BinOp.add 9 (Operand.tmp 169) (Operand.tmp 177) 9, type := 9, pos := "printer.go:41", after := #[{ on := 6, ground := Ground.data }, { on := 14, ground := Ground.data }], guard := none }) (v := .string ⟨((S ++ lineL ([99, 97, 112, 32] ++ L2.moneyL v)) ++ lineL ([114, 111, 108, 108, 32] ++ q)).toArray⟩) rfl (by kernel_rfl) (by kernel_rfl) (by kernel_rfl) (by decide) (Or.inl ⟨by rfl, fun W hW => ?_⟩) hE1 ?_
          · go_simp
          simp only [Act.put, List.setIfInBounds_toArray, List.set_cons_zero, List.set_cons_succ]
          refine L8.takeT 16 (oi := { dst := some 4, op := Op.assign (Operand.tmp 178), type := 9, pos := "printer.go:41", after := #[{ on := 15, ground := Ground.data }, { on := 14, ground := Ground.chain }, { on := 0, ground := Ground.phase }, { on := 1, ground := Ground.phase }, { on := 2, ground := Ground.phase }, { on := 3, ground := Ground.phase }, { on := 4, ground := Ground.phase }, { on := 5, ground := Ground.phase }, { on := 6, ground := Ground.phase }, { on := 7, ground := Ground.phase }, { on := 8, ground := Ground.phase }, { on := 9, ground := Ground.phase }, { on := 10, ground := Ground.phase }, { on := 11, ground := Ground.phase }, { on := 12, ground := Ground.phase }, { on := 13, ground := Ground.phase }, { on := 14, ground := Ground.phase }, { on := 15, ground := Ground.phase }], guard := none }) (v := .string ⟨((S ++ lineL ([99, 97, 112, 32] ++ L2.moneyL v)) ++ lineL ([114, 111, 108, 108, 32] ++ q)).toArray⟩) rfl (by kernel_rfl) (by kernel_rfl) (by kernel_rfl) (by decide) (Or.inl ⟨by rfl, fun W hW => ?_⟩) hE1 ?_
          · go_simp
          simp only [Act.put, List.setIfInBounds_toArray, List.set_cons_zero, List.set_cons_succ]
          refine wpAnyH_done (by kernel_rfl) (L8.ThrowQ.normal ?_) _
          have hfin := show Hid _ from hE1
          clear ck cm g0 g1 g2 g3 g4 g5 g6 g7 g8 g9
          go_wp2
          go_meet
          exact ⟨((S ++ lineL ([99, 97, 112, 32] ++ L2.moneyL v)) ++ lineL ([114, 111, 108, 108, 32] ++ q)), by simp only [List.append_assoc], (hP.out.on hfin.out heC.out (M := 2791) (by simp only [List.length_append, List.length_cons, List.length_nil]; have := hM.out.2; omega)).on (Ext.refl _) heR.out (by simp only [List.length_append, List.length_cons, List.length_nil]; have := hpq.out.2; omega)⟩
        · go_simp
          refine hK.out _ _ hE1 ?_
          clear hK K
          intro _
          try simp only [Act.put, List.setIfInBounds_toArray, List.set_cons_zero, List.set_cons_succ]
          refine L8.takeT 13 (oi := { dst := some 176, op := Op.binOp BinOp.add 9 (Operand.const (Value.string { data := #[114, 111, 108, 108, 32] })) (Operand.tmp 175) 9, type := 9, pos := "printer.go:41", after := #[{ on := 12, ground := Ground.data }], guard := none }) (v := .string ⟨([114, 111, 108, 108, 32] ++ q).toArray⟩) rfl (by kernel_rfl) (by kernel_rfl) (by kernel_rfl) (by decide) (Or.inl ⟨by rfl, fun W hW => ?_⟩) hE1 ?_
          · go_simp
          simp only [Act.put, List.setIfInBounds_toArray, List.set_cons_zero, List.set_cons_succ]
          refine wpAnyH_ready (rs := [5]) (by kernel_rfl) (by simp) ?_
          refine AllReadyH.cons (o := { dst := some 168, op := Op.call { callee := Callee.value (Operand.func 23), args := #[Operand.tmp 167], argTypes := #[9] }, type := 9, pos := "printer.go:41", after := #[{ on := 4, ground := Ground.data }, { on := 3, ground := Ground.chain }], guard := none }) rfl (fun K hK => ?_) AllReadyH.nil
          go_simp
          refine Calls.mono (hlO.out _) ?_
          rintro e w' ⟨he1, he2⟩
          subst e
          subst w'
          try dsimp only
          refine hK.out _ _ hE1 ?_
          clear hK K
          intro _
          try simp only [Act.put, List.setIfInBounds_toArray, List.set_cons_zero, List.set_cons_succ]
          refine L8.takeT 6 (oi := { dst := some 169, op := Op.binOp BinOp.add 9 (Operand.tmp 163) (Operand.tmp 168) 9, type := 9, pos := "printer.go:41", after := #[{ on := 0, ground := Ground.data }, { on := 5, ground := Ground.data }], guard := none }) (v := .string ⟨(S ++ lineL ([99, 97, 112, 32] ++ L2.moneyL v)).toArray⟩) rfl (by kernel_rfl) (by kernel_rfl) (by kernel_rfl) (by decide) (Or.inl ⟨by rfl, fun W hW => ?_⟩) hE1 ?_
          · go_simp
          simp only [Act.put, List.setIfInBounds_toArray, List.set_cons_zero, List.set_cons_succ]
          refine wpAnyH_ready (rs := [14]) (by kernel_rfl) (by simp) ?_
          refine AllReadyH.cons (o := { dst := some 177, op := Op.call { callee := Callee.value (Operand.func 23), args := #[Operand.tmp 176], argTypes := #[9] }, type := 9, pos := "printer.go:41", after := #[{ on := 13, ground := Ground.data }, { on := 5, ground := Ground.chain }], guard := none }) rfl (fun K hK => ?_) AllReadyH.nil
          go_simp
          refine Calls.mono (hlq.out _) ?_
          rintro e w' ⟨he1, he2⟩
          subst e
          subst w'
          try dsimp only
          refine hK.out _ _ hE1 ?_
          clear hK K
          intro _
          try simp only [Act.put, List.setIfInBounds_toArray, List.set_cons_zero, List.set_cons_succ]
          refine L8.takeT 15 (oi := { dst := some 178, op := Op.binOp BinOp.add 9 (Operand.tmp 169) (Operand.tmp 177) 9, type := 9, pos := "printer.go:41", after := #[{ on := 6, ground := Ground.data }, { on := 14, ground := Ground.data }], guard := none }) (v := .string ⟨((S ++ lineL ([99, 97, 112, 32] ++ L2.moneyL v)) ++ lineL ([114, 111, 108, 108, 32] ++ q)).toArray⟩) rfl (by kernel_rfl) (by kernel_rfl) (by kernel_rfl) (by decide) (Or.inl ⟨by rfl, fun W hW => ?_⟩) hE1 ?_
          · go_simp
          simp only [Act.put, List.setIfInBounds_toArray, List.set_cons_zero, List.set_cons_succ]
          refine L8.takeT 16 (oi := { dst := some 4, op := Op.assign (Operand.tmp 178), type := 9, pos := "printer.go:41", after := #[{ on := 15, ground := Ground.data }, { on := 14, ground := Ground.chain }, { on := 0, ground := Ground.phase }, { on := 1, ground := Ground.phase }, { on := 2, ground := Ground.phase }, { on := 3, ground := Ground.phase }, { on := 4, ground := Ground.phase }, { on := 5, ground := Ground.phase }, { on := 6, ground := Ground.phase }, { on := 7, ground := Ground.phase }, { on := 8, ground := Ground.phase }, { on := 9, ground := Ground.phase }, { on := 10, ground := Ground.phase }, { on := 11, ground := Ground.phase }, { on := 12, ground := Ground.phase }, { on := 13, ground := Ground.phase }, { on := 14, ground := Ground.phase }, { on := 15, ground := Ground.phase }], guard := none }) (v := .string ⟨((S ++ lineL ([99, 97, 112, 32] ++ L2.moneyL v)) ++ lineL ([114, 111, 108, 108, 32] ++ q)).toArray⟩) rfl (by kernel_rfl) (by kernel_rfl) (by kernel_rfl) (by decide) (Or.inl ⟨by rfl, fun W hW => ?_⟩) hE1 ?_
          · go_simp
          simp only [Act.put, List.setIfInBounds_toArray, List.set_cons_zero, List.set_cons_succ]
          refine wpAnyH_done (by kernel_rfl) (L8.ThrowQ.normal ?_) _
          have hfin := show Hid _ from hE1
          clear ck cm g0 g1 g2 g3 g4 g5 g6 g7 g8 g9
          go_wp2
          go_meet
          exact ⟨((S ++ lineL ([99, 97, 112, 32] ++ L2.moneyL v)) ++ lineL ([114, 111, 108, 108, 32] ++ q)), by simp only [List.append_assoc], (hP.out.on hfin.out heC.out (M := 2791) (by simp only [List.length_append, List.length_cons, List.length_nil]; have := hM.out.2; omega)).on (Ext.refl _) heR.out (by simp only [List.length_append, List.length_cons, List.length_nil]; have := hpq.out.2; omega)⟩
      · go_simp
        refine hK.out _ _ hE0 ?_
        clear hK K
        intro _
        try simp only [Act.put, List.setIfInBounds_toArray, List.set_cons_zero, List.set_cons_succ]
        refine L8.takeT 13 (oi := { dst := some 176, op := Op.binOp BinOp.add 9 (Operand.const (Value.string { data := #[114, 111, 108, 108, 32] })) (Operand.tmp 175) 9, type := 9, pos := "printer.go:41", after := #[{ on := 12, ground := Ground.data }], guard := none }) (v := .string ⟨([114, 111, 108, 108, 32] ++ q).toArray⟩) rfl (by kernel_rfl) (by kernel_rfl) (by kernel_rfl) (by decide) (Or.inl ⟨by rfl, fun W hW => ?_⟩) hE0 ?_
        · go_simp
        simp only [Act.put, List.setIfInBounds_toArray, List.set_cons_zero, List.set_cons_succ]
        refine wpAnyH_ready (rs := [3]) (by kernel_rfl) (by simp) ?_
        refine AllReadyH.cons (o := { dst := some 166, op := Op.call { callee := Callee.value (Operand.func 26), args := #[Operand.tmp 165], argTypes := #[2] }, type := 9, pos := "printer.go:41", after := #[{ on := 2, ground := Ground.data }], guard := none }) rfl (fun K hK => ?_) AllReadyH.nil
        go_simp
        refine Calls.mono (hmo.out _) ?_
        rintro e wm ⟨rfl, hxm⟩
        try dsimp only
        have hE2 := Ext.trans hE0 hxm
        try (replace cqq := hxm.cell_of cqq)
        refine hK.out _ _ hE2 ?_
        clear hK K
        intro _
        try simp only [Act.put, List.setIfInBounds_toArray, List.set_cons_zero, List.set_cons_succ]
        refine L8.takeT 4 (oi := { dst := some 167, op := Op.binOp BinOp.add 9 (Operand.const (Value.string { data := #[99, 97, 112, 32] })) (Operand.tmp 166) 9, type := 9, pos := "printer.go:41", after := #[{ on := 3, ground := Ground.data }], guard := none }) (v := .string ⟨([99, 97, 112, 32] ++ L2.moneyL v).toArray⟩) rfl (by kernel_rfl) (by kernel_rfl) (by kernel_rfl) (by decide) (Or.inl ⟨by rfl, fun W hW => ?_⟩) hE2 ?_
        · go_simp
        simp only [Act.put, List.setIfInBounds_toArray, List.set_cons_zero, List.set_cons_succ]
        refine wpAnyH_ready (rs := [5]) (by kernel_rfl) (by simp) ?_
        refine AllReadyH.cons (o := { dst := some 168, op := Op.call { callee := Callee.value (Operand.func 23), args := #[Operand.tmp 167], argTypes := #[9] }, type := 9, pos := "printer.go:41", after := #[{ on := 4, ground := Ground.data }, { on := 3, ground := Ground.chain }], guard := none }) rfl (fun K hK => ?_) AllReadyH.nil
        go_simp
        refine Calls.mono (hlO.out _) ?_
        rintro e w' ⟨he1, he2⟩
        subst e
        subst w'
        try dsimp only
        refine hK.out _ _ hE2 ?_
        clear hK K
        intro _
        try simp only [Act.put, List.setIfInBounds_toArray, List.set_cons_zero, List.set_cons_succ]
        refine L8.takeT 6 (oi := { dst := some 169, op := Op.binOp BinOp.add 9 (Operand.tmp 163) (Operand.tmp 168) 9, type := 9, pos := "printer.go:41", after := #[{ on := 0, ground := Ground.data }, { on := 5, ground := Ground.data }], guard := none }) (v := .string ⟨(S ++ lineL ([99, 97, 112, 32] ++ L2.moneyL v)).toArray⟩) rfl (by kernel_rfl) (by kernel_rfl) (by kernel_rfl) (by decide) (Or.inl ⟨by rfl, fun W hW => ?_⟩) hE2 ?_
        · go_simp
        simp only [Act.put, List.setIfInBounds_toArray, List.set_cons_zero, List.set_cons_succ]
        refine wpAnyH_ready (rs := [14]) (by kernel_rfl) (by simp) ?_
        refine AllReadyH.cons (o := { dst := some 177, op := Op.call { callee := Callee.value (Operand.func 23), args := #[Operand.tmp 176], argTypes := #[9] }, type := 9, pos := "printer.go:41", after := #[{ on := 13, ground := Ground.data }, { on := 5, ground := Ground.chain }], guard := none }) rfl (fun K hK => ?_) AllReadyH.nil
        go_simp
        refine Calls.mono (hlq.out _) ?_
        rintro e w' ⟨he1, he2⟩
        subst e
        subst w'
        try dsimp only
        refine hK.out _ _ hE2 ?_
        clear hK K
        intro _
        try simp only [Act.put, List.setIfInBounds_toArray, List.set_cons_zero, List.set_cons_succ]
        refine L8.takeT 15 (oi := { dst := some 178, op := Op.binOp BinOp.add 9 (Operand.tmp 169) (Operand.tmp 177) 9, type := 9, pos := "printer.go:41", after := #[{ on := 6, ground := Ground.data }, { on := 14, ground := Ground.data }], guard := none }) (v := .string ⟨((S ++ lineL ([99, 97, 112, 32] ++ L2.moneyL v)) ++ lineL ([114, 111, 108, 108, 32] ++ q)).toArray⟩) rfl (by kernel_rfl) (by kernel_rfl) (by kernel_rfl) (by decide) (Or.inl ⟨by rfl, fun W hW => ?_⟩) hE2 ?_
        · go_simp
        simp only [Act.put, List.setIfInBounds_toArray, List.set_cons_zero, List.set_cons_succ]
        refine L8.takeT 16 (oi := { dst := some 4, op := Op.assign (Operand.tmp 178), type := 9, pos := "printer.go:41", after := #[{ on := 15, ground := Ground.data }, { on := 14, ground := Ground.chain }, { on := 0, ground := Ground.phase }, { on := 1, ground := Ground.phase }, { on := 2, ground := Ground.phase }, { on := 3, ground := Ground.phase }, { on := 4, ground := Ground.phase }, { on := 5, ground := Ground.phase }, { on := 6, ground := Ground.phase }, { on := 7, ground := Ground.phase }, { on := 8, ground := Ground.phase }, { on := 9, ground := Ground.phase }, { on := 10, ground := Ground.phase }, { on := 11, ground := Ground.phase }, { on := 12, ground := Ground.phase }, { on := 13, ground := Ground.phase }, { on := 14, ground := Ground.phase }, { on := 15, ground := Ground.phase }], guard := none }) (v := .string ⟨((S ++ lineL ([99, 97, 112, 32] ++ L2.moneyL v)) ++ lineL ([114, 111, 108, 108, 32] ++ q)).toArray⟩) rfl (by kernel_rfl) (by kernel_rfl) (by kernel_rfl) (by decide) (Or.inl ⟨by rfl, fun W hW => ?_⟩) hE2 ?_
        · go_simp
        simp only [Act.put, List.setIfInBounds_toArray, List.set_cons_zero, List.set_cons_succ]
        refine wpAnyH_done (by kernel_rfl) (L8.ThrowQ.normal ?_) _
        have hfin := show Hid _ from hE2
        clear ck cm g0 g1 g2 g3 g4 g5 g6 g7 g8 g9
        go_wp2
        go_meet
        exact ⟨((S ++ lineL ([99, 97, 112, 32] ++ L2.moneyL v)) ++ lineL ([114, 111, 108, 108, 32] ++ q)), by simp only [List.append_assoc], (hP.out.on hfin.out heC.out (M := 2791) (by simp only [List.length_append, List.length_cons, List.length_nil]; have := hM.out.2; omega)).on (Ext.refl _) heR.out (by simp only [List.length_append, List.length_cons, List.length_nil]; have := hpq.out.2; omega)⟩
  case rest =>
  clear hP
  obtain ⟨S, rfl, hP⟩ := hcut
  replace hP := show Hid _ from hP

  go_wp2_with fail
  go_loopw [4, 9, 10, 11] (fun s i _ _ wr => ∃ (k : Nat) (S : List UInt8), k ≤ p.hd.length ∧ i = .int .i64 k ∧ s = .string ⟨S.toArray⟩ ∧ Hid (Pru w wr b (pcells p vr vl vh) S (2828 + 22 * k) p.nm ((((((((((((((([] ++ [cCount p]) ++ [cRound p]) ++ [cKind p]) ++ [cEvery p]) ++ [cTimes p]) ++ [cGrace p]) ++ [cRate p]) ++ [cPenalty p]) ++ p.rs.map cReset) ++ [cOrder p]) ++ [cOver p]) ++ p.lt.map cLate) ++ [cCap p]) ++ [cRoll p]) ++ (p.hd.take k).map cHol))) (fun _ i _ _ _ => p.hd.length - (RowKit.intOf i).toNat)
  case atStart => exact ⟨0, S, Nat.zero_le _, rfl, rfl, hP.out.to (by rw [List.take_zero, List.map_nil, List.append_nil])⟩
  case round =>
  clear hP
  obtain ⟨k, S, hk, rfl, rfl, hP⟩ := hrel
  have hhl := hK.out.hl
  have ck := (cell_of_row wr b 18 _ _ _ hP.out.blk).trans (show _ = some (.slice ah p.hd.length ch) from congrArg some hvh.out)
  by_cases hlt : k < p.hd.length
  · have hki : (k : Int) < (p.hd.length : Int) := by omega
    have hk0 : (0 : Int) ≤ (k : Int) := by omega
    obtain ⟨x, hx⟩ : ∃ z, p.hd[k]? = some z := ⟨_, List.getElem?_eq_getElem hlt⟩
    obtain ⟨b1, b2⟩ := hK.out.hd x (List.mem_of_getElem? hx)
    have hcell : ∃ g off, ah = some ⟨g, off, none⟩ ∧ wr.cell? ⟨g, off + k, none⟩ = some (.int .i64 x) := by
      rcases sh.out with ⟨_, _, _, _, hl⟩ | ⟨g, off, c, hv, hc⟩
      · rw [hl] at hlt; simp at hlt
      · have hv2 := hv.symm.trans hvh.out
        simp only [Value.slice.injEq] at hv2
        exact ⟨g, off, hv2.1.symm, hP.out.ext.cell_of (hc k _ hx)⟩
    obtain ⟨g, off, rfl, cx⟩ := hcell
    have hst : Hid (rowsL (((((((((((((((([] ++ [cCount p]) ++ [cRound p]) ++ [cKind p]) ++ [cEvery p]) ++ [cTimes p]) ++ [cGrace p]) ++ [cRate p]) ++ [cPenalty p]) ++ p.rs.map cReset) ++ [cOrder p]) ++ [cOver p]) ++ p.lt.map cLate) ++ [cCap p]) ++ [cRoll p]) ++ (p.hd.take k).map cHol) ++ [cHol x]) = rowsL ((((((((((((((([] ++ [cCount p]) ++ [cRound p]) ++ [cKind p]) ++ [cEvery p]) ++ [cTimes p]) ++ [cGrace p]) ++ [cRate p]) ++ [cPenalty p]) ++ p.rs.map cReset) ++ [cOrder p]) ++ [cOver p]) ++ p.lt.map cLate) ++ [cCap p]) ++ [cRoll p]) ++ (p.hd.take (k + 1)).map cHol)) := by
      show rowsL _ = _
      rw [rowsL_app _ [cHol x], rowsL_app _ ((p.hd.take k).map cHol), rowsL_app _ ((p.hd.take (k + 1)).map cHol), rows_next hx, rowsL_one, List.append_assoc]
    have hEn : L3.Env wr := (he.out.ext hP.out.ext).three
    have hT := show Hid _ from L3.rText_ok x wr b1 b2 (show Hid _ from hEn)
    clear hEn
    clear b1 b2 hx
    go_wp2_with fail
    refine Calls.mono hT.out ?_
    rintro e wt ⟨⟨Y, M, D, rfl, hvl, hnu⟩, hxt⟩
    have hec : Hid (rowL (cHol x) = lineL ([104, 111, 108, 105, 100, 97, 121, 32] ++ L3.textL Y M D)) := by
      show rowL _ = _
      obtain ⟨e1, e2, e3⟩ := L3.ofDay_of hvl hnu
      unfold rowL cHol dayL
      rw [← e1, ← e2, ← e3]
      rfl
    clear hvl hnu
    replace hP := show Hid _ from hP.out.ext_ hxt
    clear hT hxt ck cx
    have hTl : (L3.textL Y M D).length = 10 := L3.text_length Y M D
    have hTp := show Hid _ from pce_text Y M D
    have hl := show Hid _ from line_c ([104, 111, 108, 105, 100, 97, 121, 32] ++ L3.textL Y M D) wt (by simp only [List.length_append, List.length_cons, List.length_nil]; omega)
    have hl1 : (lineL ([104, 111, 108, 105, 100, 97, 121, 32] ++ L3.textL Y M D)).length = 22 := by rw [lineL_len]; simp only [List.length_append, List.length_cons, List.length_nil]; omega
    have hSl := hP.out.len
    have g1 : ¬ 9223372036854775807 < 8 + (L3.textL Y M D).length := by omega
    have g2 : ¬ 9223372036854775807 < (L3.textL Y M D).length + 8 := by omega
    have g3 : ¬ 9223372036854775807 < S.length + (lineL ([104, 111, 108, 105, 100, 97, 121, 32] ++ L3.textL Y M D)).length := by omega
    have g4 : ¬ 9223372036854775807 < S.length + (lineL (104 :: 111 :: 108 :: 105 :: 100 :: 97 :: 121 :: 32 :: L3.textL Y M D)).length := g3
    replace hTl := show Hid _ from hTl
    replace hl1 := show Hid _ from hl1
    clear hSl
    go_wp2_with fail
    refine Calls.mono hl.out ?_
    rintro e w' ⟨he1, he2⟩
    subst e
    subst w'
    go_wp2
    go_roundw
    case rel =>
      have hr : (lineL ([104, 111, 108, 105, 100, 97, 121, 32] ++ L3.textL Y M D)).length = 22 := hl1.out
      exact ⟨k + 1, S ++ lineL ([104, 111, 108, 105, 100, 97, 121, 32] ++ L3.textL Y M D), by omega, by go_num, rfl, (hP.out.on (Ext.refl _) hec.out (by simp only [List.length_append, List.length_cons, List.length_nil]; have := hTl.out; omega)).to hst.out⟩
    case measure => simp [RowKit.intOf]; omega
  obtain hke : k = p.hd.length := by omega
  obtain ⟨wf, hwf⟩ : ∃ x, x = wr := ⟨_, rfl⟩
  subst hwf
  have hfin : Hid (prt p = S ++ [125, 10]) := by
    show prt p = _
    unfold prt
    rw [hP.out.is, cls_eq, List.append_assoc, hke, List.take_length]
    congr 2
    simp
  have hS2 : S.length ≤ 19000 := by have := hP.out.len; omega
  have hkn : ¬ (k : Int) < (p.hd.length : Int) := by omega
  have g1 : ¬ 9223372036854775807 < S.length + 2 := by omega
  have g2 : ¬ (20000 : Int) < (S.length : Int) + 2 := by omega
  have g3 : ¬ 20000 < S.length + 2 := by omega
  have g4 : S.length + 2 ≤ 20000 := by omega
  clear hke hhl hlt hk
  go_wp2
  go_ret2
  exact ⟨hP.out.ext, by first | exact Or.inr ⟨hB, by rw [hfin.out]; rfl⟩ | (rw [hfin.out]; rfl)⟩
end Go.Proofs.YtaafagggjnemgaaGreatDoor
