/- Contracts that the proof of this law leans on: no statement of the seat is proved here. -/
import Derived.Deep.DeepCutAuto
import Derived.Deep.MidRow
import Derived.Deep.RegionHeld3
import Derived.Deep.SlicePairs
import Derived.LaidLaws
import Derived.Laws.EntriesVeiled
import Derived.Laws.Externs
import Derived.Lay
import Derived.Lib.AppendStr
import Derived.Lib.AtoiTie
import Derived.Lib.Builder
import Derived.Lib.LaidU8
import Derived.Lib.SliceRun
import Derived.Lib.UnsafeStr
import Derived.OpenShut
import Derived.ProofKit
import Derived.SevenTiedAt
import Derived.Shelf.LaysM
import Derived.StillTailTactics
import Derived.Test.YtaafagggjnemgaaGreatDoorCards
import Derived.Test.YtaafagggjnemgaaGreatDoorTie
import Derived.Test.YtaafagggjnemgaaGreatDoorQ0
import Derived.Test.YtaafagggjnemgaaGreatDoorQ2
import Derived.Test.YtaafagggjnemgaaGreatDoorQ3
import Derived.Test.YtaafagggjnemgaaGreatDoorQ4
import Derived.Test.YtaafagggjnemgaaGreatDoorQ5
import Derived.Test.YtaafagggjnemgaaGreatDoorQ6
import Derived.Test.YtaafagggjnemgaaGreatDoorQ7

namespace Go.Proofs.YtaafagggjnemgaaGreatDoor
open Go.RowKit Go.Lib
set_option linter.unusedVariables false
export L7 (Tok)
/-- A product. -/
structure Prd where
  nm : List UInt8
  cn : Int
  rd : Int
  kd : Int
  ev : Int
  tm : Int
  gr : Int
  rt : Int
  rs : List (Int × Int)
  pn : Int
  o0 : Int
  o1 : Int
  o2 : Int
  o3 : Int
  ov : Int
  lt : List (Int × Int)
  cp : Int
  rl : Int
  hd : List Int
/-- What counts without a clause. -/
def prd0 : Prd := ⟨[], 0, 0, 0, 0, 0, 0, 0, [], 0, 0, 0, 0, 0, 1, [], 0, 1, []⟩
/-- May it be? -/
def okP (p : Prd) : Bool := L8.nmb p.nm && (L8.r1B p.cn p.rd p.kd p.ov p.rl && (L8.r2B p.ev && (L8.lz p.tm 1 600 && (L8.r4B p.kd p.tm p.gr && (L8.r5B p.rt p.pn && (L8.r6B p.tm p.rs && (L8.r7B p.o0 p.o1 p.o2 p.o3 && (L8.r8B p.lt && (L8.r9B p.lt.length p.cp && (L8.r10B p.rl p.hd))))))))))
/-- An answer, or an error and its place. -/
inductive Res (α : Type) where
  | ok (a : α) : Res α
  | no (e p : Nat) : Res α
def Res.bind {α β : Type} (r : Res α) (f : α → Res β) : Res β :=
  match r with
  | .ok a => f a
  | .no e p => .no e p
/-- A number of at most nine digits, without noughts ahead. -/
def numO (l : List UInt8) : Option Int := if L2.okWhole l 9 then some (L2.valL l : Nat) else none
def rateO (l : List UInt8) : Option Int := if (L2.takeR l).2 = 0 then some (L2.takeR l).1 else none
def monO (l : List UInt8) : Option Int := if (L2.takeM l).2 = 0 then some (L2.takeM l).1 else none
def dayO (l : List UInt8) : Option Int := if L3.takE l = 0 then some (L3.takA l) else none
abbrev Opts := List (List UInt8 × Int)
/-- What a word stands for, out of some. -/
def pick : Opts → List UInt8 → Option Int
  | [], _ => none
  | (s, v) :: o, l => if s = l then some v else pick o l
/-- The next sign, taken for something; else it may not stand there. -/
def tk (f : List UInt8 → Option Int) : List Tok → Res (Int × List Tok)
  | [] => .no 0 0
  | t :: ts => match f t.text with
    | some v => .ok (v, ts)
    | none => .no 7 t.at_
/-- A sign that is nothing but this. -/
def xp (l : List UInt8) : List Tok → Res (List Tok)
  | [] => .no 0 0
  | t :: ts => if t.text = l then .ok ts else .no 7 t.at_
def oCount : Opts := [([116, 104, 105, 114, 116, 121], 1), ([102, 105, 120, 101, 100], 2), ([97, 99, 116, 117, 97, 108], 3)]
def oRound : Opts := [([104, 97, 108, 102, 45, 117, 112], 1), ([100, 111, 119, 110], 3)]
def oKind : Opts := [([97, 110, 110, 117, 105, 116, 121], 1), ([101, 113, 117, 97, 108], 2), ([98, 117, 108, 108, 101, 116], 3)]
def oOrder : Opts := [([102, 101, 101, 115], 1), ([112, 101, 110, 97, 108, 116, 121], 2), ([105, 110, 116, 101, 114, 101, 115, 116], 3), ([112, 114, 105, 110, 99, 105, 112, 97, 108], 4)]
def oOver : Opts := [([104, 111, 108, 100], 1), ([112, 114, 101, 112, 97, 121], 2), ([114, 101, 102, 117, 110, 100], 3)]
def oRoll : Opts := [([115, 116, 97, 121], 1), ([110, 101, 120, 116], 2), ([119, 105, 116, 104, 105, 110], 3), ([112, 114, 101, 118, 105, 111, 117, 115], 4)]
/-- What is left to choose from behind v. -/
def lessO (o : Opts) (v : Int) : Opts := o.filter fun x => !decide (x.2 = v)
/-- Four words, each once. -/
def orderR (p : Prd) (ts : List Tok) : Res (Prd × List Tok) :=
  (tk (pick oOrder) ts).bind fun a =>
  (tk (pick (lessO oOrder a.1)) a.2).bind fun b =>
  (tk (pick (lessO (lessO oOrder a.1) b.1)) b.2).bind fun c =>
  (tk (pick (lessO (lessO (lessO oOrder a.1) b.1) c.1)) c.2).bind fun d =>
  .ok ({ p with o0 := a.1, o1 := b.1, o2 := c.1, o3 := d.1 }, d.2)
/-- The words of the clauses. -/
def words : List (List UInt8) := [[99, 111, 117, 110, 116], [114, 111, 117, 110, 100], [107, 105, 110, 100], [101, 118, 101, 114, 121], [116, 105, 109, 101, 115], [103, 114, 97, 99, 101], [114, 97, 116, 101], [112, 101, 110, 97, 108, 116, 121], [114, 101, 115, 101, 116], [108, 97, 116, 101], [99, 97, 112], [104, 111, 108, 105, 100, 97, 121], [111, 114, 100, 101, 114], [111, 118, 101, 114], [114, 111, 108, 108]]
/-- Which clause a word begins: 15 if none. -/
def which (l : List UInt8) : Nat := words.findIdx (fun s => decide (s = l))
/-- May it stand often? Must it be there? -/
def often (i : Nat) : Bool := i == 8 || (i == 9 || i == 11)
def must (i : Nat) : Bool := i == 0 || (i == 1 || (i == 2 || (i == 3 || (i == 4 || (i == 6 || i == 12)))))
/-- What stands behind a clause's word. -/
def clauseR (i : Nat) (p : Prd) (ts : List Tok) : Res (Prd × List Tok) :=
  match i with
  | 0 => (tk (pick oCount) ts).bind fun a => .ok ({ p with cn := a.1 }, a.2)
  | 1 => (tk (pick oRound) ts).bind fun a => .ok ({ p with rd := a.1 }, a.2)
  | 2 => (tk (pick oKind) ts).bind fun a => .ok ({ p with kd := a.1 }, a.2)
  | 3 => (tk numO ts).bind fun a => .ok ({ p with ev := a.1 }, a.2)
  | 4 => (tk numO ts).bind fun a => .ok ({ p with tm := a.1 }, a.2)
  | 5 => (tk numO ts).bind fun a => .ok ({ p with gr := a.1 }, a.2)
  | 6 => (tk rateO ts).bind fun a => .ok ({ p with rt := a.1 }, a.2)
  | 7 => (tk rateO ts).bind fun a => .ok ({ p with pn := a.1 }, a.2)
  | 8 => (tk numO ts).bind fun a => (tk rateO a.2).bind fun b => .ok ({ p with rs := p.rs ++ [(a.1, b.1)] }, b.2)
  | 9 => (tk numO ts).bind fun a => (tk monO a.2).bind fun b => .ok ({ p with lt := p.lt ++ [(a.1, b.1)] }, b.2)
  | 10 => (tk monO ts).bind fun a => .ok ({ p with cp := a.1 }, a.2)
  | 11 => (tk dayO ts).bind fun a => .ok ({ p with hd := p.hd ++ [a.1] }, a.2)
  | 12 => orderR p ts
  | 13 => (tk (pick oOver) ts).bind fun a => .ok ({ p with ov := a.1 }, a.2)
  | 14 => (tk (pick oRoll) ts).bind fun a => .ok ({ p with rl := a.1 }, a.2)
  | _ => .no 0 0
/-- Signs that are left, the product so far, and which clauses there were. -/
structure St where
  ts : List Tok
  p : Prd
  had : Nat → Bool
def seen (h : Nat → Bool) (i : Nat) : Nat → Bool := fun j => h j || j == i
/-- A clause whose word is t, up to its end. -/
def clR (t : Tok) (s : St) : Res St :=
  if which t.text < 15 then
    if often (which t.text) || !s.had (which t.text) then
      (clauseR (which t.text) s.p s.ts).bind fun a => (xp [59] a.2).bind fun ts => .ok ⟨ts, a.1, seen s.had (which t.text)⟩
    else .no 7 t.at_
  else .no 7 t.at_
/-- What stands in a group so deep, up to its end. -/
def grp : Nat → Nat → St → Res St
  | 0, _, _ => .no 0 0
  | f + 1, d, s =>
    match s.ts with
    | [] => .no 0 0
    | t :: ts =>
      if t.text = [125] then .ok { s with ts := ts }
      else if t.text = [123] then
        if d < 32 then (grp f (d + 1) { s with ts := ts }).bind fun u => grp f d u
        else .no 8 t.at_
      else (clR t { s with ts := ts }).bind fun u => grp f d u
def had0 : Nat → Bool := fun _ => false
def whole (h : Nat → Bool) : Bool := h 0 && (h 1 && (h 2 && (h 3 && (h 4 && (h 6 && h 12)))))
/-- What signs tell. -/
def textR (ts : List Tok) : Res Prd :=
  match ts with
  | [] => .no 0 0
  | t0 :: _ =>
    (xp [112, 114, 111, 100, 117, 99, 116] ts).bind fun u =>
    match u with
    | [] => .no 0 0
    | t :: v =>
      if L8.nmb t.text then
        (xp [123] v).bind fun x =>
        (grp (x.length + 1) 1 ⟨x, { prd0 with nm := t.text }, had0⟩).bind fun s =>
        match s.ts with
        | [] => .no 0 0
        | e :: _ => if e.kind = 0 then (if whole s.had && okP s.p then .ok s.p else .no 9 t0.at_) else .no 7 e.at_
      else .no 7 t.at_
/-- What a text tells. -/
def prs (l : List UInt8) : Res Prd := if L7.aE l = 0 then textR (L7.aT l) else .no (L7.aE l) (L7.aP l)
end Go.Proofs.YtaafagggjnemgaaGreatDoor

namespace Go.Proofs.YtaafagggjnemgaaGreatDoor
open Go.RowKit Go.Lib
set_option linter.unusedVariables false
/-- Nothing that was there has turned, but for the block r. -/
structure Exr (r : Nat) (w w' : World) : Prop where
  os : w'.os = w.os
  tape : w'.tape = w.tape
  output : w'.output = w.output
  size : w.heap.size ≤ w'.heap.size
  block : ∀ k, k < w.heap.size → k ≠ r → w'.heap[k]? = w.heap[k]?
theorem Exr.ext {r : Nat} {w0 w w' : World} (h : Exr r w w') (k : Ext w0 w) (hr : w0.heap.size ≤ r) : Ext w0 w' :=
  ⟨h.os.trans k.below.os, h.tape.trans k.below.tape, h.output.trans k.below.output, Nat.le_trans k.below.size h.size, fun i hi => (h.block i (Nat.lt_of_lt_of_le hi k.below.size) (by omega)).trans (k.below.block i hi)⟩
/-- A row of its own keeps, where its block is another. -/
theorem own_keep {w w' : World} {B : Nat} {e : TypeId} {z : Nat} {v : Value} {T : Nat} {xs : List Value} (h : w.ownsRow B e z v T xs) (hx : ∀ (k : Nat) (cur : Array Value), w.heap[k]? = some (Obj.cells cur e (0, 0)) → w'.heap[k]? = w.heap[k]?) : w'.ownsRow B e z v T xs := by
  refine ⟨h.1, ?_⟩
  rcases h.2 with h0 | ⟨g, c, cur, h1, h2, h3, h4⟩
  · exact Or.inl h0
  · refine Or.inr ⟨g, c, cur, h1, h2, ?_, h4⟩
    rw [hx g cur h3]
    exact h3
def cellsP (l : List (Int × Int)) : List Value := l.flatMap fun p => [.int .i64 p.1, .int .i64 p.2]
end Go.Proofs.YtaafagggjnemgaaGreatDoor

namespace Go.Proofs.YtaafagggjnemgaaGreatDoor
open Go.RowKit Go.Lib
set_option linter.unusedVariables false
/-- What is thrown with a place. -/
def thrown (e p : Nat) : Ending := .panicked [{ v := .iface 123 (.agg #[.int .i64 e, .int .i64 p]), recovered := false }]
end Go.Proofs.YtaafagggjnemgaaGreatDoor

namespace Go.Proofs.YtaafagggjnemgaaGreatDoor
open Go.RowKit Go.Lib
set_option linter.unusedVariables false
theorem drop_at {α : Type} {l : List α} {k : Nat} {v : α} (h : l[k]? = some v) : l.drop k = v :: l.drop (k + 1) := L8.drop_at h
end Go.Proofs.YtaafagggjnemgaaGreatDoor

namespace Go.Proofs.YtaafagggjnemgaaGreatDoor
open Go.RowKit Go.Lib
set_option linter.unusedVariables false
theorem dec_len : ∀ (k u : Nat), u < 10 ^ (k + 1) → (decDigits u).length ≤ k + 1
  | 0, u, h => by rw [L2.decDigits_small (by simpa using h)]; simp
  | k + 1, u, h => by
    by_cases h1 : u < 10
    · rw [L2.decDigits_small h1]; simp
    · rw [L2.decDigits_big h1, List.length_append]
      have := dec_len k (u / 10) (by rw [Nat.div_lt_iff_lt_mul (by omega)]; rw [Nat.pow_succ] at h; exact h)
      simp; omega
theorem num_of (v : Int) (h0 : ¬ v < 0) (h1 : ¬ 999999999 < v) : numO (itoa v) = some v := by
  obtain ⟨n, rfl⟩ : ∃ n : Nat, v = n := ⟨v.toNat, by omega⟩
  have hi : itoa (n : Int) = decDigits n := by unfold itoa; rw [if_neg h0, Int.toNat_natCast]
  rw [hi]
  have hw : L2.okWhole (decDigits n) 9 = true := by
    unfold L2.okWhole L2.digOnly L2.headOk
    have h2 := dec_len 8 n (by omega)
    have h3 := L2.decDigits_all n
    have h4 := L2.decDigits_ne n
    have h5 := L2.decDigits_head n
    simp only [Bool.and_eq_true, decide_eq_true_eq, Bool.or_eq_true, beq_iff_eq, bne_iff_ne, Bool.not_eq_true']
    refine ⟨⟨h2, ?_, h3⟩, h5⟩
    simpa using h4
  unfold numO
  rw [hw, if_pos rfl, L2.valL_decDigits]
end Go.Proofs.YtaafagggjnemgaaGreatDoor

namespace Go.Proofs.YtaafagggjnemgaaGreatDoor
open Go.RowKit Go.Lib
set_option linter.unusedVariables false
set_option maxRecDepth 100000 in
set_option maxHeartbeats 2000000 in
theorem hdigits_c (v : Nat) (w : World) (hv : v < 100000) (h1 : 1 ≤ v) :
    Calls Tryz.prog 45 #[.int .i64 (v : Int), .int .i64 1] w fun e w' => (∃ j, L2.Ends v 1 j ∧ e = .returned (.string ⟨(L2.fix j v).toArray⟩)) ∧ Ext w w' := by
  go_enter Tryz.func45, Tryz.ntmps45
  go_wp2
  go_loopw [0, 5] (fun vv s wr => ∃ j : Nat, j ≤ 20 ∧ vv = .int .i64 ((v / 10 ^ j : Nat) : Int) ∧ s = .string ⟨(L2.fix j v).toArray⟩ ∧ (j ≤ 1 ∨ v / 10 ^ (j - 1) ≠ 0) ∧ Hid (Ext w wr)) (fun vv s _ => (RowKit.intOf vv).toNat + (20 - strSize s))
  case atStart => exact ⟨0, by omega, by simp, rfl, Or.inl (Nat.zero_le _), Ext.refl _⟩
  case round =>
    obtain ⟨j, hj, rfl, rfl, hor, hx⟩ := hrel
    have hvj : v / 10 ^ j < 100000 := Nat.lt_of_le_of_lt (Nat.div_le_self _ _) hv
    have hj19 : 0 < v / 10 ^ j → j ≤ 19 := fun h0 => by
      rcases Nat.lt_or_ge j 20 with k | k
      · omega
      · have : v / 10 ^ j = 0 := Nat.div_eq_of_lt (Nat.lt_of_lt_of_le hv (Nat.le_trans (by decide) (Nat.pow_le_pow_right (n := 10) (by omega) k)))
        omega
    generalize hq : v / 10 ^ j = q at *
    by_cases hz : 0 < q
    · have hj1 := hj19 hz
      clear hj19
      have hq10 : v / 10 ^ (j + 1) = q / 10 := by rw [Nat.pow_succ, ← Nat.div_div_eq_div_mul, hq]
      obtain ⟨c, hc⟩ : ∃ c : UInt8, c = L2.dgt q := ⟨_, rfl⟩
      have hcb := fun (W : World) (b : Nat) (h : W.cell? ⟨b, 0, none⟩ = some (.int .u8 (c.toNat : Int))) => L2.one_byte W b c h
      have hfc : L2.fix (j + 1) v = c :: L2.fix j v := by rw [L2.fix_cons, hq, hc]
      have hfl := L2.fix_length j v
      have hbig : ¬ 9223372036854775807 < 1 + j := by omega
      replace hfc := show Hid _ from hfc
      replace hq10 := show Hid _ from hq10
      replace hq := show Hid _ from hq
      have hqI : (0 : Int) < (q : Int) := by omega
      have e2 : 48 + (q : Int) % 10 = (c.toNat : Int) := by rw [hc, L2.dgt_toNat]; omega
      replace hc := show Hid _ from hc
      go_wp2
      go_roundw
      case rel => exact ⟨j + 1, by omega, by rw [hq10.out]; go_num, by rw [hfc.out], Or.inr (by rw [Nat.add_sub_cancel, hq.out]; omega), (hx.out.alloc _ _)⟩
      case measure => simp [RowKit.intOf, strSize_string, Lib.size_mk, hfl]; omega
    · have hq0 : q = 0 := by omega
      subst hq0
      clear hj19 hz
      have hj0 : ¬ j = 0 := by
        rintro rfl
        simp at hq
        omega
      have hle : ¬ (j : Int) < 1 := by omega
      have hfl := L2.fix_length j v
      replace hq := show Hid _ from hq
      go_wp2
      go_ret
      exact ⟨⟨j, ⟨by omega, hq.out, by rcases hor with h | h; exact Or.inl (by omega); exact Or.inr h⟩, rfl⟩, hx.out⟩
end Go.Proofs.YtaafagggjnemgaaGreatDoor

namespace Go.Proofs.YtaafagggjnemgaaGreatDoor
open Go.RowKit Go.Lib
set_option linter.unusedVariables false
end Go.Proofs.YtaafagggjnemgaaGreatDoor

namespace Go.Proofs.YtaafagggjnemgaaGreatDoor
open Go.RowKit Go.Lib
set_option linter.unusedVariables false
theorem tk_some {f : List UInt8 → Option Int} {t : Tok} {ts : List Tok} {v : Int} (h : f t.text = some v) : tk f (t :: ts) = .ok (v, ts) := by
  simp only [tk, h]
theorem tk_none {f : List UInt8 → Option Int} {t : Tok} {ts : List Tok} (h : f t.text = none) : tk f (t :: ts) = .no 7 t.at_ := by
  simp only [tk, h]
end Go.Proofs.YtaafagggjnemgaaGreatDoor

namespace Go.Proofs.YtaafagggjnemgaaGreatDoor
open Go.RowKit Go.Lib
set_option linter.unusedVariables false
theorem info_int : (Tryz.prog.info? 3).map (fun i => (i.zero, i.size, i.bytes)) = some (some (.int .i64 0), 1, 8) := by kernel_rfl
theorem own_slice {w : World} {B : Nat} {e : TypeId} {z n : Nat} {v : Value} {xs : List Value} (h : w.ownsRow B e z v n xs) : ∃ ao c, v = .slice ao n c := by
  rcases h.2 with ⟨rfl, h0⟩ | ⟨g, c, cur, rfl, _⟩
  · subst h0; exact ⟨_, _, rfl⟩
  · exact ⟨_, _, rfl⟩
end Go.Proofs.YtaafagggjnemgaaGreatDoor

namespace Go.Proofs.YtaafagggjnemgaaGreatDoor
open Go.RowKit Go.Lib
set_option linter.unusedVariables false
/-- The end comes last; no sign is too long; no list is. -/
structure Fine (s : St) : Prop where
  fin : ∃ pre e, s.ts = pre ++ [e] ∧ e.text = []
  len : ∀ t ∈ s.ts, t.text.length ≤ 20000
  few : s.ts.length + s.p.rs.length + s.p.lt.length + s.p.hd.length ≤ 20010
theorem Fine.cons {s : St} (h : Fine s) : ∃ t ts, s.ts = t :: ts ∧ t.text.length ≤ 20000 ∧ ts.length + 1 ≤ 20010 := by
  obtain ⟨pre, e, h1, _⟩ := h.fin
  cases hs : s.ts with
  | nil => rw [hs] at h1; simp at h1
  | cons t ts =>
    have := h.few
    rw [hs] at this
    simp only [List.length_cons] at this
    exact ⟨t, ts, rfl, h.len t (by rw [hs]; simp), by omega⟩
theorem Fine.next {s : St} {t : Tok} {ts : List Tok} (h : Fine s) (hs : s.ts = t :: ts) (ht : t.text ≠ []) : Fine { s with ts := ts } := by
  refine ⟨?_, fun u hu => h.len u (by rw [hs]; exact List.mem_cons_of_mem _ hu), ?_⟩
  · obtain ⟨pre, e, h1, h2⟩ := h.fin
    rw [hs] at h1
    cases pre with
    | nil =>
      simp only [List.nil_append, List.cons.injEq] at h1
      exact absurd (h1.1 ▸ h2) ht
    | cons a pre =>
      simp only [List.cons_append, List.cons.injEq] at h1
      exact ⟨pre, e, h1.2, h2⟩
  · have := h.few
    rw [hs] at this
    simp only [List.length_cons] at this
    show ts.length + s.p.rs.length + s.p.lt.length + s.p.hd.length ≤ 20010
    omega
theorem num_nil : numO [] = none := by decide +kernel
theorem rate_nil : rateO [] = none := by decide +kernel
theorem mon_nil : monO [] = none := by decide +kernel
theorem day_nil : dayO [] = none := by decide +kernel
theorem some_ne {f : List UInt8 → Option Int} (hf : f [] = none) {l : List UInt8} {v : Int} (h : f l = some v) : l ≠ [] := by
  rintro rfl
  rw [hf] at h
  cases h
end Go.Proofs.YtaafagggjnemgaaGreatDoor

namespace Go.Proofs.YtaafagggjnemgaaGreatDoor
open Go.RowKit Go.Lib
set_option linter.unusedVariables false
end Go.Proofs.YtaafagggjnemgaaGreatDoor

namespace Go.Proofs.YtaafagggjnemgaaGreatDoor
open Go.RowKit Go.Lib
set_option linter.unusedVariables false
/-- Words that are chosen, one behind the other. -/
def ordF : Nat → Opts → List Tok → Res (List Int × List Tok)
  | 0, _, ts => .ok ([], ts)
  | k + 1, o, ts => (tk (pick o) ts).bind fun a => (ordF k (lessO o a.1) a.2).bind fun b => .ok (a.1 :: b.1, b.2)
def ordP (p : Prd) (ch : List Int) : Prd := { p with o0 := ch.getD 0 p.o0, o1 := ch.getD 1 p.o1, o2 := ch.getD 2 p.o2, o3 := ch.getD 3 p.o3 }
theorem Res.bind_assoc {α β γ : Type} (r : Res α) (f : α → Res β) (g : β → Res γ) : (r.bind f).bind g = r.bind fun a => (f a).bind g := by cases r <;> rfl
theorem order_ord (p : Prd) (ts : List Tok) : orderR p ts = (ordF 4 oOrder ts).bind fun b => .ok (ordP p b.1, b.2) := by
  unfold orderR
  simp only [ordF, Res.bind_assoc]
  rfl
theorem pick_nil {o : Opts} (h : ∀ x ∈ o, x.1 ≠ []) : pick o [] = none := by
  induction o with
  | nil => rfl
  | cons x o ih =>
    obtain ⟨s, v⟩ := x
    have h1 : s ≠ [] := h (s, v) (by simp)
    simp only [pick, if_neg h1]
    exact ih fun y hy => h y (by simp [hy])
theorem wrd_less {o : Opts} {v : Int} (h : ∀ x ∈ o, x.1 ≠ []) : ∀ x ∈ lessO o v, x.1 ≠ [] := fun x hx => h x (List.mem_filter.1 hx).1
end Go.Proofs.YtaafagggjnemgaaGreatDoor

namespace Go.Proofs.YtaafagggjnemgaaGreatDoor
open Go.RowKit Go.Lib
set_option linter.unusedVariables false
end Go.Proofs.YtaafagggjnemgaaGreatDoor

namespace Go.Proofs.YtaafagggjnemgaaGreatDoor
open Go.RowKit Go.Lib
set_option linter.unusedVariables false
/-- What clauses' readers keep to. -/
theorem reads_fine {s : St} {i : Nat} {a : Prd × List Tok} (hf : Fine s) (h : clauseR i s.p s.ts = .ok a) (hd : Nat → Bool) : Fine ⟨a.2, a.1, hd⟩ ∧ a.2.length < s.ts.length := by
  have one : ∀ {f : List UInt8 → Option Int} {s : St} {b : Int × List Tok}, Fine s → f [] = none → tk f s.ts = .ok b → Fine { s with ts := b.2 } ∧ s.ts.length = b.2.length + 1 := by
    intro f s b hf hn hb
    obtain ⟨t, ts, hs, _, _⟩ := hf.cons
    rw [hs] at hb
    cases hp : f t.text with
    | none => rw [tk_none hp] at hb; cases hb
    | some v =>
      rw [tk_some hp] at hb
      obtain rfl : (v, ts) = b := by simpa using hb
      exact ⟨hf.next hs (some_ne hn hp), by rw [hs]; simp⟩
  have fin : ∀ {f : List UInt8 → Option Int} {g : Int → Prd}, f [] = none → (∀ v, (g v).rs = s.p.rs ∧ (g v).lt = s.p.lt ∧ (g v).hd = s.p.hd) → ((tk f s.ts).bind fun b => Res.ok (g b.1, b.2)) = .ok a → Fine ⟨a.2, a.1, hd⟩ ∧ a.2.length < s.ts.length := by
    intro f g hn hg hb
    cases ht : tk f s.ts with
    | no x y => rw [ht] at hb; cases hb
    | ok b =>
      rw [ht] at hb
      obtain rfl : (g b.1, b.2) = a := by simpa [Res.bind] using hb
      obtain ⟨h1, h2⟩ := one hf hn ht
      obtain ⟨g1, g2, g3⟩ := hg b.1
      refine ⟨⟨h1.fin, h1.len, ?_⟩, by show b.2.length < _; omega⟩
      have := h1.few
      show b.2.length + (g b.1).rs.length + (g b.1).lt.length + (g b.1).hd.length ≤ 20010
      rw [g1, g2, g3]
      exact this
  have grow : ∀ {f g : List UInt8 → Option Int} {q : Int → Int → Prd}, f [] = none → g [] = none → (∀ u v, (q u v).rs.length + (q u v).lt.length + (q u v).hd.length ≤ s.p.rs.length + s.p.lt.length + s.p.hd.length + 1) → ((tk f s.ts).bind fun b => (tk g b.2).bind fun d => Res.ok (q b.1 d.1, d.2)) = .ok a → Fine ⟨a.2, a.1, hd⟩ ∧ a.2.length < s.ts.length := by
    intro f g q hn1 hn2 hq hb
    cases ht : tk f s.ts with
    | no x y => rw [ht] at hb; cases hb
    | ok b =>
      rw [ht] at hb
      obtain ⟨h1, h2⟩ := one hf hn1 ht
      have hb2 : ((tk g b.2).bind fun d => Res.ok (q b.1 d.1, d.2)) = .ok a := hb
      cases ht2 : tk g b.2 with
      | no x y => rw [ht2] at hb2; cases hb2
      | ok d =>
        rw [ht2] at hb2
        obtain rfl : (q b.1 d.1, d.2) = a := by simpa [Res.bind] using hb2
        obtain ⟨h3, h4⟩ := one h1 hn2 ht2
        have e4 : b.2.length = d.2.length + 1 := h4
        refine ⟨⟨h3.fin, h3.len, ?_⟩, by show d.2.length < _; omega⟩
        have := hf.few
        have := hq b.1 d.1
        show d.2.length + (q b.1 d.1).rs.length + (q b.1 d.1).lt.length + (q b.1 d.1).hd.length ≤ 20010
        omega
  match i, h with
  | 0, h => exact fin (g := fun v => { s.p with cn := v }) (by decide) (fun v => ⟨rfl, rfl, rfl⟩) h
  | 1, h => exact fin (g := fun v => { s.p with rd := v }) (by decide) (fun v => ⟨rfl, rfl, rfl⟩) h
  | 2, h => exact fin (g := fun v => { s.p with kd := v }) (by decide) (fun v => ⟨rfl, rfl, rfl⟩) h
  | 3, h => exact fin (g := fun v => { s.p with ev := v }) num_nil (fun v => ⟨rfl, rfl, rfl⟩) h
  | 4, h => exact fin (g := fun v => { s.p with tm := v }) num_nil (fun v => ⟨rfl, rfl, rfl⟩) h
  | 5, h => exact fin (g := fun v => { s.p with gr := v }) num_nil (fun v => ⟨rfl, rfl, rfl⟩) h
  | 6, h => exact fin (g := fun v => { s.p with rt := v }) rate_nil (fun v => ⟨rfl, rfl, rfl⟩) h
  | 7, h => exact fin (g := fun v => { s.p with pn := v }) rate_nil (fun v => ⟨rfl, rfl, rfl⟩) h
  | 8, h => exact grow (q := fun u v => { s.p with rs := s.p.rs ++ [(u, v)] }) num_nil rate_nil (fun u v => by simp; omega) h
  | 9, h => exact grow (q := fun u v => { s.p with lt := s.p.lt ++ [(u, v)] }) num_nil mon_nil (fun u v => by simp; omega) h
  | 10, h => exact fin (g := fun v => { s.p with cp := v }) mon_nil (fun v => ⟨rfl, rfl, rfl⟩) h
  | 11, h =>
    have hb : ((tk dayO s.ts).bind fun b => Res.ok ({ s.p with hd := s.p.hd ++ [b.1] }, b.2)) = .ok a := h
    cases ht : tk dayO s.ts with
    | no x y => rw [ht] at hb; cases hb
    | ok b =>
      rw [ht] at hb
      obtain rfl : ({ s.p with hd := s.p.hd ++ [b.1] }, b.2) = a := by simpa [Res.bind] using hb
      obtain ⟨h1, h2⟩ := one hf day_nil ht
      refine ⟨⟨h1.fin, h1.len, ?_⟩, by show b.2.length < _; omega⟩
      have := hf.few
      show b.2.length + s.p.rs.length + s.p.lt.length + (s.p.hd ++ [b.1]).length ≤ 20010
      simp only [List.length_append, List.length_cons, List.length_nil]
      omega
  | 12, h =>
    have hb : ((ordF 4 oOrder s.ts).bind fun b => Res.ok (ordP s.p b.1, b.2)) = .ok a := by rw [← order_ord]; exact h
    have all : ∀ (n : Nat) (o : Opts) (u : St) (b : List Int × List Tok), Fine u → (∀ x ∈ o, x.1 ≠ []) → ordF n o u.ts = .ok b → Fine { u with ts := b.2 } ∧ u.ts.length = b.2.length + n := by
      intro n
      induction n with
      | zero =>
        intro o u b hu _ hb
        obtain rfl : ([], u.ts) = b := by simpa [ordF] using hb
        exact ⟨hu, rfl⟩
      | succ n ih =>
        intro o u b hu ho hb
        simp only [ordF] at hb
        cases ht : tk (pick o) u.ts with
        | no x y => rw [ht] at hb; cases hb
        | ok d =>
          rw [ht] at hb
          obtain ⟨h1, h2⟩ := one hu (pick_nil ho) ht
          have hb2 : ((ordF n (lessO o d.1) d.2).bind fun b => Res.ok (d.1 :: b.1, b.2)) = .ok b := hb
          cases ht2 : ordF n (lessO o d.1) d.2 with
          | no x y => rw [ht2] at hb2; cases hb2
          | ok f =>
            rw [ht2] at hb2
            obtain rfl : (d.1 :: f.1, f.2) = b := by simpa [Res.bind] using hb2
            obtain ⟨h3, h4⟩ := ih (lessO o d.1) { u with ts := d.2 } f h1 (wrd_less ho) ht2
            have e4 : d.2.length = f.2.length + n := h4
            exact ⟨h3, by show u.ts.length = f.2.length + (n + 1); omega⟩
    cases ht : ordF 4 oOrder s.ts with
    | no x y => rw [ht] at hb; cases hb
    | ok b =>
      rw [ht] at hb
      obtain rfl : (ordP s.p b.1, b.2) = a := by simpa [Res.bind] using hb
      obtain ⟨h1, h2⟩ := all 4 oOrder s b hf (by decide) ht
      exact ⟨⟨h1.fin, h1.len, h1.few⟩, by show b.2.length < _; omega⟩
  | 13, h => exact fin (g := fun v => { s.p with ov := v }) (by decide) (fun v => ⟨rfl, rfl, rfl⟩) h
  | 14, h => exact fin (g := fun v => { s.p with rl := v }) (by decide) (fun v => ⟨rfl, rfl, rfl⟩) h
  | i + 15, h => cases h
end Go.Proofs.YtaafagggjnemgaaGreatDoor

namespace Go.Proofs.YtaafagggjnemgaaGreatDoor
open Go.RowKit Go.Lib
set_option linter.unusedVariables false
theorem clR_fine {s u : St} {t : Tok} (hf : Fine s) (h : clR t s = .ok u) : Fine u ∧ u.ts.length < s.ts.length := by
  unfold clR at h
  split at h
  · split at h
    · cases hr : clauseR (which t.text) s.p s.ts with
      | no x y => rw [hr] at h; cases h
      | ok a =>
        rw [hr] at h
        obtain ⟨h1, h2⟩ := reads_fine hf hr (seen s.had (which t.text))
        obtain ⟨t6, ts6, hs6, _, _⟩ := h1.cons
        have hs6' : a.2 = t6 :: ts6 := hs6
        have h3 : (xp [59] a.2).bind (fun ts => Res.ok (⟨ts, a.1, seen s.had (which t.text)⟩ : St)) = .ok u := h
        rw [hs6'] at h3
        by_cases hq : t6.text = [59]
        · have h4 : (Res.ok (⟨ts6, a.1, seen s.had (which t.text)⟩ : St)) = .ok u := by simpa [xp, hq, Res.bind] using h3
          obtain rfl := Res.ok.inj h4
          refine ⟨h1.next hs6 (by rw [hq]; simp), ?_⟩
          rw [hs6'] at h2
          simp only [List.length_cons] at h2
          show ts6.length < _
          omega
        · simp [xp, hq, Res.bind] at h3
    · cases h
  · cases h
theorem grp_fine : ∀ (f d : Nat) (s u : St), Fine s → grp f d s = .ok u → Fine u ∧ u.ts.length < s.ts.length
  | 0, d, s, u, _, h => by cases h
  | f + 1, d, s, u, hf, h => by
    obtain ⟨t, ts, hs, _, _⟩ := hf.cons
    have hl : s.ts.length = ts.length + 1 := by rw [hs]; rfl
    rw [grp, hs] at h
    simp only [] at h
    split at h
    · rename_i hq
      obtain rfl := Res.ok.inj h
      exact ⟨hf.next hs (by rw [hq]; simp), by show ts.length < _; omega⟩
    · split at h
      · rename_i hq
        have hf1 := hf.next hs (by rw [hq]; simp)
        split at h
        · cases hg : grp f (d + 1) { s with ts := ts } with
          | no x y => rw [hg] at h; cases h
          | ok v =>
            rw [hg] at h
            obtain ⟨h1, h2⟩ := grp_fine f (d + 1) _ v hf1 hg
            obtain ⟨h3, h4⟩ := grp_fine f d v u h1 h
            have : v.ts.length < ts.length := h2
            exact ⟨h3, by omega⟩
        · cases h
      · rename_i hq1 hq2
        cases hc : clR t { s with ts := ts } with
        | no x y => rw [hc] at h; cases h
        | ok v =>
          rw [hc] at h
          by_cases hn : t.text = []
          · have : clR t { s with ts := ts } = .no 7 t.at_ := by unfold clR; rw [hn]; rfl
            rw [this] at hc
            cases hc
          · obtain ⟨h1, h2⟩ := clR_fine (hf.next hs hn) hc
            obtain ⟨h3, h4⟩ := grp_fine f d v u h1 h
            have : v.ts.length < ts.length := h2
            exact ⟨h3, by omega⟩
theorem grp_fuel : ∀ (f g d : Nat) (s : St), Fine s → s.ts.length < f → s.ts.length < g → grp f d s = grp g d s
  | 0, _, _, s, _, h, _ => by omega
  | _, 0, _, s, _, _, h => by omega
  | f + 1, g + 1, d, s, hf, h1, h2 => by
    obtain ⟨t, ts, hs, _, _⟩ := hf.cons
    have hl : s.ts.length = ts.length + 1 := by rw [hs]; rfl
    rw [grp, grp, hs]
    simp only []
    split
    · rfl
    · split
      · rename_i hq
        have hf1 := hf.next hs (by rw [hq]; simp)
        split
        · rw [grp_fuel f g (d + 1) { s with ts := ts } hf1 (by show ts.length < f; omega) (by show ts.length < g; omega)]
          cases hg : grp g (d + 1) { s with ts := ts } with
          | no x y => rfl
          | ok v =>
            obtain ⟨h3, h4⟩ := grp_fine g (d + 1) _ v hf1 hg
            have : v.ts.length < ts.length := h4
            exact grp_fuel f g d v h3 (by omega) (by omega)
        · rfl
      · cases hc : clR t { s with ts := ts } with
        | no x y => rfl
        | ok v =>
          by_cases hn : t.text = []
          · have : clR t { s with ts := ts } = .no 7 t.at_ := by unfold clR; rw [hn]; rfl
            rw [this] at hc
            cases hc
          · obtain ⟨h3, h4⟩ := clR_fine (hf.next hs hn) hc
            have : v.ts.length < ts.length := h4
            exact grp_fuel f g d v h3 (by omega) (by omega)
/-- A group, from its beginning. -/
def grpR (d : Nat) (s : St) : Res St := grp (s.ts.length + 1) d s
theorem grpR_shut {d : Nat} {s : St} {t : Tok} {ts : List Tok} (hs : s.ts = t :: ts) (hq : t.text = [125]) : grpR d s = .ok { s with ts := ts } := by
  unfold grpR
  rw [grp, hs]
  simp only [if_pos hq]
theorem grpR_else {d : Nat} {s : St} {t : Tok} {ts : List Tok} (hf : Fine s) (hs : s.ts = t :: ts) (h1 : ¬ t.text = [125]) (h2 : ¬ t.text = [123]) : grpR d s = (clR t { s with ts := ts }).bind fun u => grpR d u := by
  have hl : s.ts.length = ts.length + 1 := by rw [hs]; rfl
  unfold grpR
  rw [grp, hs]
  simp only [if_neg h1, if_neg h2]
  cases hc : clR t { s with ts := ts } with
  | no x y => rfl
  | ok v =>
    by_cases hn : t.text = []
    · have : clR t { s with ts := ts } = .no 7 t.at_ := by unfold clR; rw [hn]; rfl
      rw [this] at hc
      cases hc
    · obtain ⟨h3, h4⟩ := clR_fine (hf.next hs hn) hc
      have : v.ts.length < ts.length := h4
      exact grp_fuel _ _ d v h3 (by simp; omega) (by omega)
end Go.Proofs.YtaafagggjnemgaaGreatDoor

namespace Go.Proofs.YtaafagggjnemgaaGreatDoor
open Go.RowKit Go.Lib
set_option linter.unusedVariables false
end Go.Proofs.YtaafagggjnemgaaGreatDoor

namespace Go.Proofs.YtaafagggjnemgaaGreatDoor
open Go.RowKit Go.Lib
set_option linter.unusedVariables false
/-- A product's block. -/
def Blk (w : World) (b : Nat) (c : Array Value) : Prop := w.heap[b]? = some (Obj.cells c 27 (0, 0))
theorem Blk.ext {w w' : World} {b : Nat} {c : Array Value} (h : Blk w b c) (hx : Ext w w') : Blk w' b c := (hx.below.block b (Array.getElem?_eq_some_iff.1 h).1).trans h
theorem Blk.exr {w w' : World} {b g : Nat} {c : Array Value} (h : Blk w b c) (hx : Exr g w w') (hn : b ≠ g) : Blk w' b c := (hx.block b (Array.getElem?_eq_some_iff.1 h).1 hn).trans h
theorem Exr.setRow (w : World) (g : Nat) (c : Array Value) : Exr g w (w.setRow g c) :=
  ⟨rfl, rfl, rfl, by simp [World.setRow], fun k _ hk => by
    unfold World.setRow
    simp only []
    rw [Array.getElem?_modify, if_neg (Ne.symm hk)]⟩
theorem load27 {ops : Array Oper} {rest : List Oper} {o : Oper} {a : Act} {w : World} {Q : Exit → Act → World → Prop} {x : Operand} {g : Nat} {cs : Array Value} (hg : Blk w g cs) (hn : cs.size = 19) (ho : o.op = .load 27 x)
    (hx : a.eval x = .pointer (some ⟨g, 0, none⟩)) (hw : Region.wanted o (yielded ops a.tmps) = true)
    (h : wpList Tryz.prog ops Q rest (a.put o.dst (.agg cs)) w) : wpList Tryz.prog ops Q (o :: rest) a w :=
  L8.load27 hg hn ho hx hw h
theorem store27 {ops : Array Oper} {rest : List Oper} {o : Oper} {a : Act} {w : World} {Q : Exit → Act → World → Prop} {x y : Operand} {g : Nat} {old cs : Array Value} (hg : Blk w g old) (hm : old.size = 19) (hn : cs.size = 19) (h1 : cs.all (·.oneCell') = true) (hgd : o.guard = none) (ho : o.op = .store 27 x y)
    (hx : a.eval x = .pointer (some ⟨g, 0, none⟩)) (hy : a.eval y = .agg cs)
    (h : ∀ W, Blk W g cs → Exr g w W → wpList Tryz.prog ops Q rest (a.put o.dst undef) W) : wpList Tryz.prog ops Q (o :: rest) a w :=
  wpList_store_row hgd _ x y ho g cs hx hy _ old hg (by rw [hn]; kernel_rfl) (by rw [hm, hn]) h1 (h _ (setRow_heap w g old cs _ _ hg) (Exr.setRow w g cs))
def zP : Array Value := #[.string ⟨#[]⟩, .int .i64 0, .int .i64 0, .int .i64 0, .int .i64 0, .int .i64 0, .int .i64 0, .int .i64 0, .slice none 0 0, .int .i64 0, .int .i64 0, .int .i64 0, .int .i64 0, .int .i64 0, .int .i64 0, .slice none 0 0, .int .i64 0, .int .i64 0, .slice none 0 0]
/-- A product that is boxed: its cells are what it is made of. -/
structure Flat (cs : Array Value) : Prop where
  size : cs.size = 19
  one : cs.all (·.oneCell') = true
  box : ∀ (w : World), (Instr.box 27 (.agg cs)).run Tryz.prog w = .ok (.pointer (some ⟨w.heap.size, 0, none⟩)) (w.alloc (.cells cs 27))
theorem assert_errno (W : World) (x : Value) : (Instr.typeAssert (.iface 36 x) 20 36 true).run Tryz.prog W = .ok (.tuple #[x, .bool true]) W := by kernel_rfl
end Go.Proofs.YtaafagggjnemgaaGreatDoor

namespace Go.Proofs.YtaafagggjnemgaaGreatDoor
open Go.RowKit Go.Lib
set_option linter.unusedVariables false
def pcells (p : Prd) (vr vl vh : Value) : Array Value := #[.string ⟨p.nm.toArray⟩, .int .i64 p.cn, .int .i64 p.rd, .int .i64 p.kd, .int .i64 p.ev, .int .i64 p.tm, .int .i64 p.gr, .int .i64 p.rt, vr, .int .i64 p.pn, .int .i64 p.o0, .int .i64 p.o1, .int .i64 p.o2, .int .i64 p.o3, .int .i64 p.ov, vl, .int .i64 p.cp, .int .i64 p.rl, vh]
theorem cellsP_at : ∀ (l : List (Int × Int)) (k : Nat) (x y : Int), l[k]? = some (x, y) → (cellsP l)[k * 2]? = some (.int .i64 x) ∧ (cellsP l)[k * 2 + 1]? = some (.int .i64 y)
  | [], k, x, y, h => by simp at h
  | p :: l, 0, x, y, h => by
    obtain rfl : p = (x, y) := by simpa using h
    exact ⟨rfl, rfl⟩
  | p :: l, k + 1, x, y, h => by
    have ih := cellsP_at l k x y (by simpa using h)
    have e : (k + 1) * 2 = k * 2 + 2 := by omega
    rw [e]
    exact ih
theorem slc_own {w : World} {B : Nat} {e : TypeId} {v : Value} {l : List Int} (h : w.ownsRow B e 1 v l.length (l.map (.int .i64))) : L8.Slc w v l := by
  have h' := h
  rcases h'.2 with ⟨rfl, h0⟩ | ⟨g, c, cur, rfl, _⟩
  · obtain rfl := List.eq_nil_of_length_eq_zero h0
    exact Or.inl ⟨none, 0, rfl, fun _ => rfl, rfl⟩
  · refine Or.inr ⟨g, 0, c, rfl, fun k x hk => ?_⟩
    have hc := h.cells (g := g) rfl k (.int .i64 x) (by simp [hk])
    rw [Addr.add_mid] at hc
    exact hc
theorem Check_p (p : Prd) (vr vl vh : Value) (w : World) (hnm : p.nm.length ≤ 30000) (hf : p.rs.length + p.lt.length + p.hd.length ≤ 30000) (sr : L8.Slp w vr p.rs) (sl : L8.Slp w vl p.lt) (sh : L8.Slc w vh p.hd) :
    Calls Tryz.prog 18 #[.agg (pcells p vr vl vh)] w fun e w' => e = .returned (.int .i64 (if okP p then 0 else 9)) ∧ Ext w w' :=
  L8.Check_x p.nm p.cn p.rd p.kd p.ev p.tm p.gr p.rt vr p.rs p.pn p.o0 p.o1 p.o2 p.o3 p.ov vl p.lt p.cp p.rl vh p.hd (if okP p then 0 else 9) rfl w (by omega) (by omega) (by omega) (by omega) sr sl sh
theorem xp_ok {l : List UInt8} {t : Tok} {ts : List Tok} (h : t.text = l) : xp l (t :: ts) = .ok ts := by simp only [xp, if_pos h]
def prodL : List UInt8 := [112, 114, 111, 100, 117, 99, 116]
def st0 (nm : List UInt8) (ts : List Tok) : St := ⟨ts, { prd0 with nm := nm }, had0⟩
def lastR (at_ : Nat) (s : St) : Res Prd :=
  match s.ts with
  | [] => .no 0 0
  | e :: _ => if e.kind = 0 then (if whole s.had && okP s.p then .ok s.p else .no 9 at_) else .no 7 e.at_
theorem textR_d {t0 t1 t2 : Tok} {ts : List Tok} (h : t0.text = prodL) (hn : L8.nmb t1.text = true) (h2 : t2.text = [123]) : textR (t0 :: t1 :: t2 :: ts) = (grpR 1 (st0 t1.text ts)).bind (lastR t0.at_) := by
  unfold textR
  simp only []
  rw [show xp [112, 114, 111, 100, 117, 99, 116] (t0 :: t1 :: t2 :: ts) = .ok (t1 :: t2 :: ts) from xp_ok h]
  simp only [Res.bind, hn, if_true]
  rw [xp_ok h2]
  rfl
end Go.Proofs.YtaafagggjnemgaaGreatDoor

namespace Go.Proofs.YtaafagggjnemgaaGreatDoor
open Go.RowKit Go.Lib
set_option linter.unusedVariables false
end Go.Proofs.YtaafagggjnemgaaGreatDoor

namespace Go.Proofs.YtaafagggjnemgaaGreatDoor
open Go.RowKit Go.Lib
set_option linter.unusedVariables false
/-- The world of the face: its three results' blocks, and all that was there. -/
structure Fac (w W : World) (cs : Array Value) (y z : Int) : Prop where
  p : Blk W w.heap.size cs
  q : W.cell? ⟨w.heap.size + 1, 0, none⟩ = some (.int .i64 y)
  r : W.cell? ⟨w.heap.size + 2, 0, none⟩ = some (.int .i64 z)
  qz : W.frozen? ⟨w.heap.size + 1, 0, none⟩ = false
  rz : W.frozen? ⟨w.heap.size + 2, 0, none⟩ = false
  ext : Ext w W
theorem Fac.begin (w : World) (s r : TypeId) : Fac w (((w.alloc (.cells zP 27)).alloc (.cells #[.int .i64 0] s)).alloc (.cells #[.int .i64 0] r)) zP 0 0 := by
  have h : Blk (w.alloc (.cells zP 27)) w.heap.size zP := heap_alloc_last w _
  exact ⟨h.ext (((Ext.refl _).alloc _ _).alloc _ _), by simp [go_sem], by simp [go_sem], by simp [go_sem], by simp [go_sem], (((Ext.refl w).alloc _ _).alloc _ _).alloc _ _⟩
theorem Fac.on {w W W' : World} {cs : Array Value} {y z : Int} (h : Fac w W cs y z) (hx : Ext W W') : Fac w W' cs y z :=
  ⟨h.p.ext hx, hx.cell_of h.q, hx.cell_of h.r, by rw [hx.froz _ _ (lt_of_cell h.q)]; exact h.qz, by rw [hx.froz _ _ (lt_of_cell h.r)]; exact h.rz, h.ext.trans hx⟩
theorem flat_of {cs : Array Value} (hn : cs.size = 19) (h1 : cs.all (·.oneCell') = true) : Flat cs := ⟨hn, h1, fun w => by
  simp [Instr.box, newVar, go_sem]⟩
theorem lexF_len : ∀ (f p : Nat) (l : List UInt8), (L7.lexF f p l).1.length ≤ l.length ∧ ∀ t ∈ (L7.lexF f p l).1, t.text.length ≤ l.length
  | 0, p, l => by simp [L7.lexF]
  | f + 1, p, l => by
    rw [L7.lexF]
    have hd : (l.drop (L7.wh false l)).length ≤ l.length := by simp
    cases hm : l.drop (L7.wh false l) with
    | nil => simp
    | cons c m =>
      simp only []
      rw [hm] at hd
      split
      · simp
      · rename_i hs
        obtain ⟨h1, h2⟩ := lexF_len f (p + L7.wh false l + L7.sz (c :: m)) ((c :: m).drop (L7.sz (c :: m)))
        have hz := L7.sz_le (c :: m)
        rw [List.length_drop] at h1 h2
        refine ⟨?_, fun t ht => ?_⟩
        · simp only [List.length_cons] at h1 hd hz ⊢
          omega
        · rcases List.mem_cons.1 ht with rfl | ht
          · show ((c :: m).take _).length ≤ _
            rw [List.length_take]; omega
          · have := h2 t ht
            omega
theorem fine_of {l : List UInt8} (h : L7.aE l = 0) (p : Prd) (hp : p.rs.length + p.lt.length + p.hd.length = 0) (hd : Nat → Bool) : Fine ⟨L7.aT l, p, hd⟩ := by
  have hl : l.length ≤ 20000 := by
    by_cases hl : 20000 < l.length
    · unfold L7.aE at h; rw [if_pos hl] at h; cases h
    · omega
  have ho : (L7.lex 0 l).2 = none := by
    unfold L7.aE at h
    rw [if_neg (by omega)] at h
    cases hq : (L7.lex 0 l).2 with
    | none => rfl
    | some q => rw [hq] at h; cases h
  have e : L7.aT l = (L7.lex 0 l).1 ++ [⟨0, l.length, []⟩] := by unfold L7.aT; rw [if_neg (by omega), ho]
  obtain ⟨h1, h2⟩ := lexF_len (l.length + 1) 0 l
  refine ⟨⟨_, _, e, rfl⟩, fun t ht => ?_, ?_⟩
  · have ht' : t ∈ (L7.lex 0 l).1 ++ [⟨0, l.length, []⟩] := e ▸ ht
    rcases List.mem_append.1 ht' with ht' | ht'
    · have := h2 t ht'; omega
    · obtain rfl : t = ⟨0, l.length, []⟩ := by simpa using ht'
      simp
  · show (L7.aT l).length + p.rs.length + p.lt.length + p.hd.length ≤ 20010
    rw [e, List.length_append]
    have h1' : (L7.lex 0 l).1.length ≤ l.length := h1
    simp only [List.length_cons, List.length_nil]
    omega
end Go.Proofs.YtaafagggjnemgaaGreatDoor

namespace Go.Proofs.YtaafagggjnemgaaGreatDoor.L7
open Go.RowKit
set_option linter.unusedVariables false
theorem wh_none35 : ∀ (l r : List UInt8), (35 : UInt8) ∉ l → wh false l = l.length → wh false (l ++ r) = l.length + wh false r
  | [], r, _, _ => by simp
  | c :: l, r, hn, h => by
    have hl := wh_le false l
    simp only [List.mem_cons, not_or] at hn
    rw [wh] at h
    rw [List.cons_append, wh]
    simp only [List.length_cons] at h ⊢
    split
    · rename_i h1
      rw [if_pos h1] at h
      rw [wh_none35 l r hn.2 (by omega)]
      omega
    · rename_i h1
      rw [if_neg h1, if_neg (fun e => hn.1 e.symm)] at h
      omega
/-- A text without remarks, and what stands behind it and goes on with no sign of its own. -/
theorem lex_cut (r : List UInt8) (hr : stops r) : ∀ (n p : Nat) (l : List UInt8), l.length ≤ n → (35 : UInt8) ∉ l → lex p (l ++ r) =
    ((lex p l).1 ++ (if (lex p l).2.isSome then [] else (lex (p + l.length) r).1), if (lex p l).2.isSome then (lex p l).2 else (lex (p + l.length) r).2) := by
  intro n
  induction n with
  | zero =>
    intro p l h _
    obtain rfl : l = [] := List.eq_nil_of_length_eq_zero (by omega)
    rw [lex_end (l := []) rfl]
    simp
  | succ n ih =>
    intro p l h h35
    by_cases hw : wh false l = l.length
    · rw [lex_end hw]
      rw [lex_pass, wh_none35 l r h35 hw]
      have hd : (l ++ r).drop (l.length + wh false r) = r.drop (wh false r) := by rw [← List.drop_drop]; simp
      rw [hd, ← Nat.add_assoc, ← lex_pass]
      simp
    · have hlt : wh false l < l.length := by have := wh_le false l; omega
      rw [lex_def p (l ++ r), lex_def p l, wh_part false l _ hlt, List.drop_append_of_le_length (by omega)]
      cases hm : l.drop (wh false l) with
      | nil => have := congrArg List.length hm; simp at this; omega
      | cons c m =>
        have hlen : l.length = wh false l + (m.length + 1) := by have := congrArg List.length hm; simp at this; omega
        simp only [List.cons_append]
        obtain ⟨h1, h2⟩ := join_cons (c := c) (m := m) hr
        rw [h1, h2]
        split
        · simp
        · rename_i hs
          have hz := sz_le (c :: m)
          rw [← List.cons_append, List.take_append_of_le_length hz, List.drop_append_of_le_length hz]
          rw [ih _ _ (by rw [List.length_drop]; simp at hz ⊢; omega) (fun h => h35 ((List.drop_sublist (wh false l) l).subset (by rw [hm]; exact (List.drop_sublist _ (c :: m)).subset h)))]
          have hp : p + wh false l + sz (c :: m) + ((c :: m).drop (sz (c :: m))).length = p + l.length := by rw [List.length_drop]; simp at hz ⊢; omega
          rw [hp]
          simp
/-- A byte that is white, or a sign by itself. -/
def closer (c : UInt8) : Bool := blankL.contains c || sgnL.contains c
theorem closer_stops {c : UInt8} (h : closer c = true) (r : List UInt8) : stops (c :: r) := by
  have h1 := byte_all (fun c => !closer c || (!inWL.contains c && !inNL.contains c && !digL.contains c)) (by decide +kernel) c
  rw [h] at h1
  simp only [Bool.not_true, Bool.false_or, Bool.and_eq_true, Bool.not_eq_true'] at h1
  exact ⟨h1.1.1, h1.1.2, h1.2⟩
theorem lex_one {c : UInt8} (h : closer c = true) (p : Nat) (r : List UInt8) : lex p (c :: r) = ((lex p [c]).1 ++ (lex (p + 1) r).1, (lex (p + 1) r).2) ∧ (lex p [c]).2 = none := by
  unfold closer at h
  cases hb : blankL.contains c with
  | true =>
    have e1 : wh false (c :: r) = 1 + wh false r := by rw [wh, if_pos hb]
    have e2 : wh false [c] = 1 := by rw [wh, if_pos hb]; rfl
    rw [lex_end (l := [c]) (by rw [e2]; rfl)]
    rw [lex_skip (n := 1) (l := c :: r) (by rw [e1]; rfl)]
    exact ⟨by simp, rfl⟩
  | false =>
    rw [hb] at h
    have hs : sgnL.contains c = true := by simpa using h
    obtain ⟨h1, h2, h3⟩ := sgn_let c hs
    have sz1 : ∀ m, sz (c :: m) = 1 := fun m => by
      rw [sz_cons, h1, h2, show (c == 45) = false by simpa using h3, hs]; rfl
    have kd1 : ∀ m, kd (c :: m) = 3 := fun m => by
      rw [kd_cons, h1, h2, show (c == 45) = false by simpa using h3, hs]; rfl
    have w0 := wh_sgn (c := c) (m := []) (by rw [sz1]; omega)
    rw [lex_tok (w0 r) (sz1 r) (by omega), lex_tok (w0 []) (sz1 []) (by omega), kd1, kd1]
    simp [lex_end (p := p + 1) (l := []) rfl]
/-- A text without remarks that ends with white, or with such a sign; and whatever stands behind it. -/
theorem lex_close {l : List UInt8} {c : UInt8} (hc : closer c = true) (h35 : (35 : UInt8) ∉ l) (p : Nat) (ho : (lex p (l ++ [c])).2 = none) (r : List UInt8) :
    lex p ((l ++ [c]) ++ r) = ((lex p (l ++ [c])).1 ++ (lex (p + (l ++ [c]).length) r).1, (lex (p + (l ++ [c]).length) r).2) := by
  have h1 := lex_cut (c :: r) (closer_stops hc r) l.length p l (Nat.le_refl _) h35
  have h2 := lex_cut [c] (closer_stops hc []) l.length p l (Nat.le_refl _) h35
  obtain ⟨h3, h4⟩ := lex_one hc (p + l.length) r
  rw [h2] at ho ⊢
  rw [List.append_assoc, List.singleton_append, h1]
  cases hq : (lex p l).2 with
  | some q => rw [hq] at ho; simp at ho
  | none =>
    rw [h3]
    simp [Nat.add_assoc]
/-- Signs that are so, wherever the text stands. -/
theorem lex_at {l : List UInt8} {T : List Tok} (h : lex 0 l = (T, none)) (p : Nat) : lex p l = (T.map (shT p), none) := by
  have := lex_shift p l.length 0 l (Nat.le_refl _)
  rw [Nat.zero_add, h] at this
  exact this
/-- A text by pieces, of which each ends with white or a sign: its signs are theirs. -/
theorem lex_piece {l : List UInt8} {T : List Tok} (h : lex 0 l = (T, none)) (hc : (match l.getLast? with | some c => closer c | none => true) = true) (h35 : l.all (· != 35) = true) (p : Nat) (r : List UInt8) :
    lex p (l ++ r) = (T.map (shT p) ++ (lex (p + l.length) r).1, (lex (p + l.length) r).2) := by
  have h1 := lex_at h p
  rcases List.eq_nil_or_concat l with rfl | ⟨m, c, rfl⟩
  · rw [lex_end (l := []) rfl] at h1
    have : T.map (shT p) = [] := (congrArg Prod.fst h1).symm
    rw [this]
    simp
  · rw [List.concat_eq_append] at *
    have hc' : closer c = true := by simpa using hc
    rw [lex_close hc' (fun h => by
      have := List.all_eq_true.1 h35 35 (by simp [h])
      simp at this) p (by rw [h1]) r, h1]
theorem lex_num {p : Nat} {c : UInt8} {m : List UInt8} (hc : digL.contains c = true) (hm : rn m inNL = m.length) : lex p (c :: m) = ([⟨2, p, c :: m⟩], none) := by
  have hl : letL.contains c = false := by
    have := byte_all (fun c => !digL.contains c || !letL.contains c) (by decide +kernel) c
    rw [hc] at this
    simpa using this
  have hs : sz (c :: m) = m.length + 1 := by rw [sz_cons, hl, hc]; simp [hm]
  have hk : kd (c :: m) = 2 := by rw [kd_cons, hl, hc]; simp
  rw [lex_tok (wh_sgn (by rw [hs]; omega) m) hs (by omega), hk]
  rw [lex_end (by simp [wh])]
  simp
/-- A word, or a number, and what stops it. -/
theorem lex_then {l : List UInt8} {t : Tok} {p : Nat} (h : lex p l = ([t], none)) (h35 : l.all (· != 35) = true) {r : List UInt8} (hr : stops r) : lex p (l ++ r) = (t :: (lex (p + l.length) r).1, (lex (p + l.length) r).2) := by
  rw [lex_cut r hr l.length p l (Nat.le_refl _) (fun h => by
    have := List.all_eq_true.1 h35 35 h
    simp at this), h]
  simp
end Go.Proofs.YtaafagggjnemgaaGreatDoor.L7

namespace Go.Proofs.YtaafagggjnemgaaGreatDoor
open Go.RowKit Go.Lib
set_option linter.unusedVariables false
theorem dig_isD {c : UInt8} (h : L2.isD c = true) : L7.digL.contains c = true := (L2.digs_contains c).trans h
end Go.Proofs.YtaafagggjnemgaaGreatDoor

namespace Go.Proofs.YtaafagggjnemgaaGreatDoor
open Go.RowKit Go.Lib
set_option linter.unusedVariables false
theorem cl_one {f : List UInt8 → Option Int} {g : Int → Prd} {t : Tok} {ts : List Tok} {v : Int} (h : f t.text = some v) : ((tk f (t :: ts)).bind fun a => Res.ok (g a.1, a.2)) = .ok (g v, ts) := by
  rw [tk_some h]; rfl
theorem cl_two {f k : List UInt8 → Option Int} {g : Int → Int → Prd} {t u : Tok} {ts : List Tok} {v x : Int} (h : f t.text = some v) (h2 : k u.text = some x) : ((tk f (t :: u :: ts)).bind fun a => (tk k a.2).bind fun b => Res.ok (g a.1 b.1, b.2)) = .ok (g v x, ts) := by
  rw [tk_some h]
  show (tk k (u :: ts)).bind _ = _
  rw [tk_some h2]; rfl
theorem cl0 {p : Prd} {t : Tok} {ts : List Tok} {v : Int} (h : pick oCount t.text = some v) : clauseR 0 p (t :: ts) = .ok ({ p with cn := v }, ts) := cl_one (g := fun v => { p with cn := v }) h
theorem cl1 {p : Prd} {t : Tok} {ts : List Tok} {v : Int} (h : pick oRound t.text = some v) : clauseR 1 p (t :: ts) = .ok ({ p with rd := v }, ts) := cl_one (g := fun v => { p with rd := v }) h
theorem cl2 {p : Prd} {t : Tok} {ts : List Tok} {v : Int} (h : pick oKind t.text = some v) : clauseR 2 p (t :: ts) = .ok ({ p with kd := v }, ts) := cl_one (g := fun v => { p with kd := v }) h
theorem cl3 {p : Prd} {t : Tok} {ts : List Tok} {v : Int} (h : numO t.text = some v) : clauseR 3 p (t :: ts) = .ok ({ p with ev := v }, ts) := cl_one (g := fun v => { p with ev := v }) h
theorem cl4 {p : Prd} {t : Tok} {ts : List Tok} {v : Int} (h : numO t.text = some v) : clauseR 4 p (t :: ts) = .ok ({ p with tm := v }, ts) := cl_one (g := fun v => { p with tm := v }) h
theorem cl5 {p : Prd} {t : Tok} {ts : List Tok} {v : Int} (h : numO t.text = some v) : clauseR 5 p (t :: ts) = .ok ({ p with gr := v }, ts) := cl_one (g := fun v => { p with gr := v }) h
theorem cl6 {p : Prd} {t : Tok} {ts : List Tok} {v : Int} (h : rateO t.text = some v) : clauseR 6 p (t :: ts) = .ok ({ p with rt := v }, ts) := cl_one (g := fun v => { p with rt := v }) h
theorem cl7 {p : Prd} {t : Tok} {ts : List Tok} {v : Int} (h : rateO t.text = some v) : clauseR 7 p (t :: ts) = .ok ({ p with pn := v }, ts) := cl_one (g := fun v => { p with pn := v }) h
theorem cl10 {p : Prd} {t : Tok} {ts : List Tok} {v : Int} (h : monO t.text = some v) : clauseR 10 p (t :: ts) = .ok ({ p with cp := v }, ts) := cl_one (g := fun v => { p with cp := v }) h
theorem cl13 {p : Prd} {t : Tok} {ts : List Tok} {v : Int} (h : pick oOver t.text = some v) : clauseR 13 p (t :: ts) = .ok ({ p with ov := v }, ts) := cl_one (g := fun v => { p with ov := v }) h
theorem cl14 {p : Prd} {t : Tok} {ts : List Tok} {v : Int} (h : pick oRoll t.text = some v) : clauseR 14 p (t :: ts) = .ok ({ p with rl := v }, ts) := cl_one (g := fun v => { p with rl := v }) h
theorem cl11 {p : Prd} {t : Tok} {ts : List Tok} {v : Int} (h : dayO t.text = some v) : clauseR 11 p (t :: ts) = .ok ({ p with hd := p.hd ++ [v] }, ts) := cl_one (g := fun v => { p with hd := p.hd ++ [v] }) h
theorem cl8 {p : Prd} {t u : Tok} {ts : List Tok} {v x : Int} (h : numO t.text = some v) (h2 : rateO u.text = some x) : clauseR 8 p (t :: u :: ts) = .ok ({ p with rs := p.rs ++ [(v, x)] }, ts) := cl_two (g := fun v x => { p with rs := p.rs ++ [(v, x)] }) h h2
theorem cl9 {p : Prd} {t u : Tok} {ts : List Tok} {v x : Int} (h : numO t.text = some v) (h2 : monO u.text = some x) : clauseR 9 p (t :: u :: ts) = .ok ({ p with lt := p.lt ++ [(v, x)] }, ts) := cl_two (g := fun v x => { p with lt := p.lt ++ [(v, x)] }) h h2
theorem cl12 {p : Prd} {t0 t1 t2 t3 : Tok} {ts : List Tok} {a b c d : Int} (h0 : pick oOrder t0.text = some a) (h1 : pick (lessO oOrder a) t1.text = some b) (h2 : pick (lessO (lessO oOrder a) b) t2.text = some c) (h3 : pick (lessO (lessO (lessO oOrder a) b) c) t3.text = some d) :
    clauseR 12 p (t0 :: t1 :: t2 :: t3 :: ts) = .ok ({ p with o0 := a, o1 := b, o2 := c, o3 := d }, ts) := by
  show orderR p _ = _
  unfold orderR
  rw [tk_some h0]
  show (tk _ (t1 :: t2 :: t3 :: ts)).bind _ = _
  rw [tk_some h1]
  show (tk _ (t2 :: t3 :: ts)).bind _ = _
  rw [tk_some h2]
  show (tk _ (t3 :: ts)).bind _ = _
  rw [tk_some h3]
  rfl
theorem which_ne {l : List UInt8} {i : Nat} (h : which l = i) (hi : i < 15) : l ≠ [] ∧ l ≠ [125] ∧ l ≠ [123] := by
  refine ⟨?_, ?_, ?_⟩ <;> rintro rfl <;> revert h <;> (intro h; have : i = 15 := h.symm.trans (by decide)) <;> omega
/-- One clause of a group, whole. -/
theorem grp_clause {d i : Nat} {t e : Tok} {us rest : List Tok} {p p' : Prd} {h : Nat → Bool} (hw : which t.text = i) (hi : i < 15) (ho : (often i || !h i) = true) (hr : clauseR i p (us ++ e :: rest) = .ok (p', e :: rest)) (he : e.text = [59]) (hf : Fine ⟨t :: (us ++ e :: rest), p, h⟩) :
    grpR d ⟨t :: (us ++ e :: rest), p, h⟩ = grpR d ⟨rest, p', seen h i⟩ ∧ Fine ⟨rest, p', seen h i⟩ := by
  obtain ⟨hn, h1, h2⟩ := which_ne hw hi
  have hc : clR t ⟨us ++ e :: rest, p, h⟩ = .ok ⟨rest, p', seen h i⟩ := by
    unfold clR
    rw [hw, if_pos hi]
    simp only [ho, if_true, hr]
    show (xp [59] (e :: rest)).bind _ = _
    rw [xp_ok he]
    rfl
  have hf1 : Fine ⟨us ++ e :: rest, p, h⟩ := hf.next (s := ⟨t :: (us ++ e :: rest), p, h⟩) rfl hn
  refine ⟨?_, (clR_fine hf1 hc).1⟩
  rw [grpR_else hf rfl h1 h2]
  show (clR t ⟨us ++ e :: rest, p, h⟩).bind _ = _
  rw [hc]
  rfl
/-- What aT is of a text that is all signs. -/
theorem aT_of {l : List UInt8} {T : List Tok} (h : L7.lex 0 l = (T, none)) (hl : l.length ≤ 20000) : L7.aT l = T ++ [⟨0, l.length, []⟩] ∧ L7.aE l = 0 := by
  unfold L7.aT L7.aE
  rw [if_neg (by omega), if_neg (by omega), h]
  exact ⟨rfl, rfl⟩
theorem prs_of {l : List UInt8} {T : List Tok} (h : L7.lex 0 l = (T, none)) (hl : l.length ≤ 20000) : prs l = textR (T ++ [⟨0, l.length, []⟩]) := by
  obtain ⟨h1, h2⟩ := aT_of h hl
  unfold prs
  rw [if_pos h2, h1]
theorem fine_text {l : List UInt8} {T : List Tok} (h : L7.lex 0 l = (T, none)) (hl : l.length ≤ 20000) (p : Prd) (hp : p.rs.length + p.lt.length + p.hd.length = 0) (hd : Nat → Bool) : Fine ⟨T ++ [⟨0, l.length, []⟩], p, hd⟩ := by
  obtain ⟨h1, h2⟩ := aT_of h hl
  rw [← h1]
  exact fine_of h2 p hp hd
/-- A text that is a product's, from its group's end on. -/
theorem text_end {t0 t1 t2 : Tok} {ts : List Tok} {u : St} {e : Tok} {us : List Tok} (h : t0.text = prodL) (hn : L8.nmb t1.text = true) (h2 : t2.text = [123]) (hg : grpR 1 (st0 t1.text ts) = .ok u) (hu : u.ts = e :: us) (he : e.kind = 0) (hw : whole u.had = true) (hp : okP u.p = true) : textR (t0 :: t1 :: t2 :: ts) = .ok u.p := by
  rw [textR_d h hn h2, hg]
  show lastR t0.at_ u = _
  unfold lastR
  rw [hu]
  simp only [if_pos he, hw, hp]
  rfl
end Go.Proofs.YtaafagggjnemgaaGreatDoor

namespace Go.Proofs.YtaafagggjnemgaaGreatDoor
open Go.RowKit Go.Lib
set_option linter.unusedVariables false
end Go.Proofs.YtaafagggjnemgaaGreatDoor

namespace Go.Proofs.YtaafagggjnemgaaGreatDoor
open Go.RowKit Go.Lib
set_option linter.unusedVariables false
/-- No byte that is none; 1: behind a word's byte, 2: behind a number's. -/
def cl : Nat → List UInt8 → Bool
  | _, [] => true
  | st, c :: l => if st == 1 && L7.inWL.contains c then cl 1 l else if st == 2 && L7.inNL.contains c then cl 2 l else if L7.letL.contains c then cl 1 l else if L7.digL.contains c then cl 2 l else if L7.sgnL.contains c || L7.blankL.contains c then cl 0 l else false
end Go.Proofs.YtaafagggjnemgaaGreatDoor

namespace Go.Proofs.YtaafagggjnemgaaGreatDoor
open Go.RowKit Go.Lib
set_option linter.unusedVariables false
/-- A piece: no braces, no byte that is none. -/
structure Pce (l : List UInt8) : Prop where
  b1 : l.count 125 = 0
  b2 : l.count 123 = 0
  cl : cl 0 l = true
theorem cl_in2 : ∀ l : List UInt8, l.all (L7.inNL.contains ·) = true → cl 2 l = true
  | [], _ => rfl
  | c :: l, h => by
    simp only [List.all_cons, Bool.and_eq_true] at h
    rw [cl, h.1]
    simpa using cl_in2 l h.2
theorem no_count {l t : List UInt8} {c : UInt8} (ht : t.contains c = false) (h : l.all (t.contains ·) = true) : l.count c = 0 := by
  rw [List.count_eq_zero]
  intro hc
  have := List.all_eq_true.1 h c hc
  rw [ht] at this
  cases this
theorem pce_num {c : UInt8} {m : List UInt8} (hc : L7.digL.contains c = true) (hm : m.all (L7.inNL.contains ·) = true) : Pce (c :: m) := by
  have ha : (c :: m).all (L7.inNL.contains ·) = true := by simp only [List.all_cons, Bool.and_eq_true]; exact ⟨L7.dig_inN c hc, hm⟩
  have hl : L7.letL.contains c = false := by
    have := L7.byte_all (fun c => !L7.digL.contains c || !L7.letL.contains c) (by decide +kernel) c
    rw [hc] at this
    simpa using this
  refine ⟨no_count (by decide) ha, no_count (by decide) ha, ?_⟩
  rw [cl, hl, hc]
  simpa using cl_in2 m hm
theorem isD_inN {c : UInt8} (h : L2.isD c = true) : L7.inNL.contains c = true := L7.dig_inN c (dig_isD h)
theorem all_inN {l : List UInt8} (h : l.all L2.isD = true) : l.all (L7.inNL.contains ·) = true := by
  rw [List.all_eq_true] at h ⊢
  exact fun c hc => isD_inN (h c hc)
/-- Digits, and what goes on with them. -/
theorem pce_digits {d r : List UInt8} (hn : d ≠ []) (hd : d.all L2.isD = true) (hr : r.all (L7.inNL.contains ·) = true) : Pce (d ++ r) := by
  cases d with
  | nil => exact absurd rfl hn
  | cons c m =>
    simp only [List.all_cons, Bool.and_eq_true] at hd
    refine pce_num (dig_isD hd.1) ?_
    show (m ++ r).all _ = true
    rw [List.all_append, Bool.and_eq_true]
    exact ⟨all_inN hd.2, hr⟩
theorem pce_dec (n : Nat) : Pce (decDigits n) := by
  have := pce_digits (L2.decDigits_ne n) (L2.decDigits_all n) (r := []) rfl
  simpa using this
theorem pce_money (v : Int) (h : 0 ≤ v) : Pce (L2.moneyL v) := by
  unfold L2.moneyL L2.signL
  rw [if_neg (by omega), List.nil_append]
  refine pce_digits (L2.decDigits_ne _) (L2.decDigits_all _) ?_
  simp only [List.all_cons, Bool.and_eq_true]
  exact ⟨by decide, all_inN (L2.fix_all _ _)⟩
theorem trim_all {q : UInt8 → Bool} {l : List UInt8} (c : UInt8) (h : l.all q = true) : (trimRightB l c).all q = true := by
  unfold trimRightB
  rw [List.all_eq_true] at h ⊢
  intro x hx
  rw [List.mem_reverse] at hx
  exact h x (List.mem_reverse.1 ((List.dropWhile_suffix _).subset hx))
theorem pce_rate (v : Int) (h : 0 ≤ v) : Pce (L2.rateL v) := by
  unfold L2.rateL L2.signL
  rw [if_neg (by omega), List.nil_append]
  refine pce_digits (L2.decDigits_ne _) (L2.decDigits_all _) ?_
  have ht : (L2.tailL v.natAbs).all (L7.inNL.contains ·) = true := by
    unfold L2.tailL
    exact trim_all 48 (all_inN (L2.fix_all _ _))
  rw [List.all_append, Bool.and_eq_true]
  refine ⟨?_, by decide⟩
  unfold L2.dotL
  split
  · rfl
  · simp only [List.all_cons, Bool.and_eq_true]
    exact ⟨by decide, ht⟩
theorem pce_text (y m d : Int) : Pce (L3.textL y m d) := by
  unfold L3.textL
  have e : ∀ k n, L3.fix k n = L2.fix k n := by
    intro k
    induction k with
    | zero => intro n; rfl
    | succ k ih => intro n; rw [L3.fix, L2.fix, ih]; rfl
  rw [e, e, e]
  refine pce_digits (by rw [L2.fix_cons]; simp) (L2.fix_all _ _) ?_
  simp only [List.all_cons, List.all_append, Bool.and_eq_true]
  exact ⟨by decide, all_inN (L2.fix_all _ _), by decide, all_inN (L2.fix_all _ _)⟩
theorem low_let (c : UInt8) (h : L8.lowB c = true) : L7.letL.contains c = true := by
  have := L7.byte_all (fun c => !L8.lowB c || L7.letL.contains c) (by decide +kernel) c
  rw [h] at this
  simpa using this
theorem in_inW (c : UInt8) (h : L8.inB c = true) : L7.inWL.contains c = true := by
  have := L7.byte_all (fun c => !L8.inB c || L7.inWL.contains c) (by decide +kernel) c
  rw [h] at this
  simpa using this
/-- A row more. -/
def lineL (q : List UInt8) : List UInt8 := [32, 32] ++ (q ++ [59, 10])
/-- How a product's text begins. -/
def topL (nm : List UInt8) : List UInt8 := [112, 114, 111, 100, 117, 99, 116, 32] ++ (nm ++ [32, 123, 10])
end Go.Proofs.YtaafagggjnemgaaGreatDoor

namespace Go.Proofs.YtaafagggjnemgaaGreatDoor
open Go.RowKit Go.Lib
set_option linter.unusedVariables false
set_option maxRecDepth 100000 in
set_option maxHeartbeats 2000000 in
theorem hdigits_0 (w : World) :
    Calls Tryz.prog 45 #[.int .i64 0, .int .i64 1] w fun e w' => e = .returned (.string ⟨#[48]⟩) ∧ Ext w w' := by
  have hcb := fun (W : World) (b : Nat) (h : W.cell? ⟨b, 0, none⟩ = some (.int .u8 ((48 : UInt8).toNat : Int))) => L2.one_byte W b 48 h
  go_enter Tryz.func45, Tryz.ntmps45
  go_wp2
  refine wp_loop_rounds 2 ?_
  rw [rounds_succ]
  go_wp2
  rw [rounds_succ]
  go_wp2
  go_ret
  exact ⟨rfl, (Ext.refl w).alloc _ _⟩
set_option maxRecDepth 100000 in
theorem numP_c (n : Nat) (w : World) (hn : n < 100000) :
    Calls Tryz.prog 24 #[.int .i64 n] w fun e w' => e = .returned (.string ⟨(decDigits n).toArray⟩) ∧ Ext w w' := by
  have hd : Hid (Calls Tryz.prog 45 #[.int .i64 n, .int .i64 1] w fun e w' => e = .returned (.string ⟨(decDigits n).toArray⟩) ∧ Ext w w') := by
    by_cases h0 : n = 0
    · subst h0
      have e0 : decDigits 0 = [48] := by rw [L2.decDigits_small (by decide)]; rfl
      show Calls _ _ _ _ _
      rw [e0]
      exact hdigits_0 w
    · refine Calls.mono (hdigits_c n w hn (by omega)) ?_
      rintro e w' ⟨⟨j, hj, he⟩, hx⟩
      rw [L2.ends_dec n j hj] at he
      exact ⟨he, hx⟩
  go_enter Tryz.func24, Tryz.ntmps24
  go_wp2_with fail
  refine Calls.mono hd.out ?_
  rintro e w1 ⟨rfl, hx⟩
  replace hx := show Hid _ from hx
  go_wp2
  go_ret
  exact ⟨rfl, hx.out⟩
set_option maxRecDepth 100000 in
theorem line_c (q : List UInt8) (w : World) (hq : q.length ≤ 1000000) :
    Calls Tryz.prog 23 #[.string ⟨q.toArray⟩] w fun e w' => e = .returned (.string ⟨(lineL q).toArray⟩) ∧ w' = w := by
  have g1 : ¬ 9223372036854775807 < 2 + q.length := by omega
  have g2 : ¬ 9223372036854775807 < 2 + q.length + 2 := by omega
  have g3 : ¬ 9223372036854775807 < 2 + (q.length + 2) := by omega
  have g4 : ¬ 9223372036854775807 < q.length + 1 + 1 := by omega
  have g5 : ¬ 9223372036854775807 < q.length + 1 + 1 + 2 := by omega
  have hl : lineL q = 32 :: 32 :: (q ++ [59, 10]) := rfl
  rw [hl]
  clear hl
  go_enter Tryz.func23, Tryz.ntmps23
  go_wp2
  go_ret
  exact ⟨rfl, rfl⟩
end Go.Proofs.YtaafagggjnemgaaGreatDoor

namespace Go.Proofs.YtaafagggjnemgaaGreatDoor
open Go.RowKit Go.Lib
set_option linter.unusedVariables false
structure Okf (p : Prd) : Prop where
  nm : L8.nmb p.nm = true
  nl : p.nm.length ≤ 20
  cn : 1 ≤ p.cn ∧ p.cn ≤ 3
  rd : p.rd = 1 ∨ p.rd = 3
  kd : 1 ≤ p.kd ∧ p.kd ≤ 3
  ov : 1 ≤ p.ov ∧ p.ov ≤ 3
  rl : 1 ≤ p.rl ∧ p.rl ≤ 4
  ev : 1 ≤ p.ev ∧ p.ev ≤ 12
  tm : 1 ≤ p.tm ∧ p.tm ≤ 600
  gr : 0 ≤ p.gr ∧ p.gr ≤ 600
  rt : 0 ≤ p.rt ∧ p.rt ≤ 1000000000
  pn : 0 ≤ p.pn ∧ p.pn ≤ 1000000000
  rl_ : p.rs.length ≤ 20
  rs : ∀ x ∈ p.rs, 0 ≤ x.1 ∧ x.1 ≤ 600 ∧ 0 ≤ x.2 ∧ x.2 ≤ 1000000000
  o0 : 1 ≤ p.o0 ∧ p.o0 ≤ 4
  o1 : 1 ≤ p.o1 ∧ p.o1 ≤ 4
  o2 : 1 ≤ p.o2 ∧ p.o2 ≤ 4
  o3 : 1 ≤ p.o3 ∧ p.o3 ≤ 4
  ll : p.lt.length ≤ 8
  lt : ∀ x ∈ p.lt, 0 ≤ x.1 ∧ x.1 ≤ 365 ∧ 0 ≤ x.2 ∧ x.2 ≤ 10000000000000
  cp : 0 ≤ p.cp ∧ p.cp ≤ 10000000000000
  hl : p.hd.length ≤ 200
  hd : ∀ x ∈ p.hd, -25567 ≤ x ∧ x ≤ 84370
theorem rsB_all {t : Int} (ht : t ≤ 600) : ∀ (l : List (Int × Int)) (a : Int), 0 ≤ a → L8.rsB t a l = true → ∀ x ∈ l, 0 ≤ x.1 ∧ x.1 ≤ 600 ∧ 0 ≤ x.2 ∧ x.2 ≤ 1000000000
  | [], _, _, _, x, hx => by cases hx
  | (u, v) :: l, a, ha, h, x, hx => by
    simp only [L8.rsB, Bool.and_eq_true, decide_eq_true_eq, L8.lz_iff] at h
    obtain ⟨h1, h2, h3, h4⟩ := h
    rcases List.mem_cons.1 hx with rfl | hx
    · exact ⟨by show 0 ≤ u; omega, by show u ≤ 600; omega, h3.1, h3.2⟩
    · exact rsB_all ht l u (by omega) h4 x hx
theorem ltB_all : ∀ (l : List (Int × Int)) (a f : Int), 0 ≤ a → 0 ≤ f → L8.ltB a f l = true → ∀ x ∈ l, 0 ≤ x.1 ∧ x.1 ≤ 365 ∧ 0 ≤ x.2 ∧ x.2 ≤ 10000000000000
  | [], _, _, _, _, _, x, hx => by cases hx
  | (u, v) :: l, a, f, ha, hf, h, x, hx => by
    simp only [L8.ltB, Bool.and_eq_true, decide_eq_true_eq, L8.lz_iff] at h
    obtain ⟨h1, h2, h3, h4⟩ := h
    rcases List.mem_cons.1 hx with rfl | hx
    · exact ⟨by show 0 ≤ u; omega, h2, by show 0 ≤ v; omega, h3.2⟩
    · exact ltB_all l u v (by omega) (by omega) h4 x hx
theorem rsg_all : ∀ (l : List Int) (a : Int), -25568 ≤ a → L8.rsg a l = true → ∀ x ∈ l, -25567 ≤ x ∧ x ≤ 84370
  | [], _, _, _, x, hx => by cases hx
  | u :: l, a, ha, h, x, hx => by
    simp only [L8.rsg, Bool.and_eq_true, decide_eq_true_eq] at h
    obtain ⟨⟨h1, h2⟩, h3⟩ := h
    rcases List.mem_cons.1 hx with rfl | hx
    · exact ⟨by omega, h2⟩
    · exact rsg_all l u (by omega) h3 x hx
theorem four_in {a b c d : Int} (h : L8.r7B a b c d = true) : (1 ≤ a ∧ a ≤ 4) ∧ (1 ≤ b ∧ b ≤ 4) ∧ (1 ≤ c ∧ c ≤ 4) ∧ (1 ≤ d ∧ d ≤ 4) := by
  simp only [L8.r7B, Bool.and_eq_true, decide_eq_true_eq, List.mem_cons, List.not_mem_nil, or_false] at h
  omega
theorem okf {p : Prd} (h : okP p = true) : Okf p := by
  unfold okP at h
  simp only [Bool.and_eq_true] at h
  obtain ⟨hn, h1, h2, h3, h4, h5, h6, h7, h8, h9, h10⟩ := h
  have hnn := hn
  unfold L8.nmb at hnn
  simp only [Bool.and_eq_true, L8.lz_iff] at hnn
  unfold L8.r1B at h1
  simp only [Bool.and_eq_true, Bool.or_eq_true, beq_iff_eq, L8.lz_iff] at h1
  unfold L8.r2B at h2
  simp only [Bool.or_eq_true, beq_iff_eq] at h2
  rw [L8.lz_iff] at h3
  unfold L8.r4B at h4
  simp only [Bool.and_eq_true, Bool.or_eq_true, beq_iff_eq, bne_iff_ne, decide_eq_true_eq] at h4
  unfold L8.r5B at h5
  simp only [Bool.and_eq_true, L8.lz_iff] at h5
  unfold L8.r6B at h6
  simp only [Bool.and_eq_true, decide_eq_true_eq] at h6
  unfold L8.r8B at h8
  simp only [Bool.and_eq_true, decide_eq_true_eq] at h8
  unfold L8.r9B at h9
  simp only [Bool.and_eq_true, Bool.or_eq_true, beq_iff_eq, decide_eq_true_eq, L8.lz_iff] at h9
  obtain ⟨q0, q1, q2, q3⟩ := four_in h7
  have hh : p.hd.length ≤ 200 ∧ ∀ x ∈ p.hd, -25567 ≤ x ∧ x ≤ 84370 := by
    unfold L8.r10B at h10
    split at h10
    · have h0 : p.hd.length = 0 := of_decide_eq_true h10
      have h0' := List.eq_nil_of_length_eq_zero h0
      exact ⟨by omega, fun x hx => by rw [h0'] at hx; cases hx⟩
    · refine ⟨L8.rgt_len h10, ?_⟩
      unfold L8.rgt at h10
      simp only [Bool.and_eq_true] at h10
      exact rsg_all _ _ (by omega) h10.1
  exact { nm := hn, nl := by omega, cn := h1.1, rd := h1.2.1, kd := h1.2.2.1, ov := h1.2.2.2.1, rl := h1.2.2.2.2, ev := by omega, tm := h3, gr := by omega, rt := h5.1, pn := h5.2, rl_ := h6.1, rs := rsB_all h3.2 _ 0 (by omega) h6.2, o0 := q0, o1 := q1, o2 := q2, o3 := q3, ll := h8.1, lt := ltB_all _ 0 0 (by omega) (by omega) h8.2, cp := by omega, hl := hh.1, hd := hh.2 }
end Go.Proofs.YtaafagggjnemgaaGreatDoor

namespace Go.Proofs.YtaafagggjnemgaaGreatDoor
open Go.RowKit Go.Lib
set_option linter.unusedVariables false
/-- The word that a number stands for. -/
def nthL (o : List (List UInt8)) (v : Int) : List UInt8 := (o[(v - 1).toNat]?).getD []
def txCount : List (List UInt8) := [[116, 104, 105, 114, 116, 121], [102, 105, 120, 101, 100], [97, 99, 116, 117, 97, 108]]
def txRound : List (List UInt8) := [[104, 97, 108, 102, 45, 117, 112], [], [100, 111, 119, 110]]
def txKind : List (List UInt8) := [[97, 110, 110, 117, 105, 116, 121], [101, 113, 117, 97, 108], [98, 117, 108, 108, 101, 116]]
def txOrder : List (List UInt8) := [[102, 101, 101, 115], [112, 101, 110, 97, 108, 116, 121], [105, 110, 116, 101, 114, 101, 115, 116], [112, 114, 105, 110, 99, 105, 112, 97, 108]]
def txOver : List (List UInt8) := [[104, 111, 108, 100], [112, 114, 101, 112, 97, 121], [114, 101, 102, 117, 110, 100]]
def txRoll : List (List UInt8) := [[115, 116, 97, 121], [110, 101, 120, 116], [119, 105, 116, 104, 105, 110], [112, 114, 101, 118, 105, 111, 117, 115]]
theorem nth_of {o : List (List UInt8)} {i : Nat} {q : List UInt8} (h : o[i]? = some q) : nthL o ((i : Int) + 1) = q := by
  unfold nthL
  rw [show (((i : Int) + 1) - 1).toNat = i by omega, h]
  rfl
/-- Words, with a blank between. -/
def spL : List (List UInt8) → List UInt8
  | [] => []
  | [q] => q
  | q :: r :: s => q ++ 32 :: spL (r :: s)
def dayL (n : Int) : List UInt8 := L3.textL (L3.yOf n) (L3.mOf n) (L3.dOf n)
/-- A clause: its words, which one it is, and what it turns in a product. -/
structure Cl where
  ws : List (List UInt8)
  i : Nat
  f : Prd → Prd
def cCount (p : Prd) : Cl := ⟨[[99, 111, 117, 110, 116], nthL txCount p.cn], 0, fun q => { q with cn := p.cn }⟩
def cRound (p : Prd) : Cl := ⟨[[114, 111, 117, 110, 100], nthL txRound p.rd], 1, fun q => { q with rd := p.rd }⟩
def cKind (p : Prd) : Cl := ⟨[[107, 105, 110, 100], nthL txKind p.kd], 2, fun q => { q with kd := p.kd }⟩
def cEvery (p : Prd) : Cl := ⟨[[101, 118, 101, 114, 121], decDigits p.ev.toNat], 3, fun q => { q with ev := p.ev }⟩
def cTimes (p : Prd) : Cl := ⟨[[116, 105, 109, 101, 115], decDigits p.tm.toNat], 4, fun q => { q with tm := p.tm }⟩
def cGrace (p : Prd) : Cl := ⟨[[103, 114, 97, 99, 101], decDigits p.gr.toNat], 5, fun q => { q with gr := p.gr }⟩
def cRate (p : Prd) : Cl := ⟨[[114, 97, 116, 101], L2.rateL p.rt], 6, fun q => { q with rt := p.rt }⟩
def cPenalty (p : Prd) : Cl := ⟨[[112, 101, 110, 97, 108, 116, 121], L2.rateL p.pn], 7, fun q => { q with pn := p.pn }⟩
def cReset (x : Int × Int) : Cl := ⟨[[114, 101, 115, 101, 116], decDigits x.1.toNat, L2.rateL x.2], 8, fun q => { q with rs := q.rs ++ [x] }⟩
def cOrder (p : Prd) : Cl := ⟨[[111, 114, 100, 101, 114], nthL txOrder p.o0, nthL txOrder p.o1, nthL txOrder p.o2, nthL txOrder p.o3], 12, fun q => { q with o0 := p.o0, o1 := p.o1, o2 := p.o2, o3 := p.o3 }⟩
def cOver (p : Prd) : Cl := ⟨[[111, 118, 101, 114], nthL txOver p.ov], 13, fun q => { q with ov := p.ov }⟩
def cLate (x : Int × Int) : Cl := ⟨[[108, 97, 116, 101], decDigits x.1.toNat, L2.moneyL x.2], 9, fun q => { q with lt := q.lt ++ [x] }⟩
def cCap (p : Prd) : Cl := ⟨[[99, 97, 112], L2.moneyL p.cp], 10, fun q => { q with cp := p.cp }⟩
def cRoll (p : Prd) : Cl := ⟨[[114, 111, 108, 108], nthL txRoll p.rl], 14, fun q => { q with rl := p.rl }⟩
def cHol (x : Int) : Cl := ⟨[[104, 111, 108, 105, 100, 97, 121], dayL x], 11, fun q => { q with hd := q.hd ++ [x] }⟩
/-- The clauses of a text, by the fifteen that write them. -/
def grpC (p : Prd) : Nat → List Cl
  | 0 => [cCount p]
  | 1 => [cRound p]
  | 2 => [cKind p]
  | 3 => [cEvery p]
  | 4 => [cTimes p]
  | 5 => [cGrace p]
  | 6 => [cRate p]
  | 7 => [cPenalty p]
  | 8 => p.rs.map cReset
  | 9 => [cOrder p]
  | 10 => [cOver p]
  | 11 => p.lt.map cLate
  | 12 => [cCap p]
  | 13 => [cRoll p]
  | 14 => p.hd.map cHol
  | _ => []
/-- The clauses of the first so many. -/
def upC (p : Prd) : Nat → List Cl
  | 0 => []
  | k + 1 => upC p k ++ grpC p k
def cls (p : Prd) : List Cl := upC p 15
theorem cls_eq (p : Prd) : cls p = [cCount p, cRound p, cKind p, cEvery p, cTimes p, cGrace p, cRate p, cPenalty p] ++ (p.rs.map cReset ++ ([cOrder p, cOver p] ++ (p.lt.map cLate ++ ([cCap p, cRoll p] ++ p.hd.map cHol)))) := by
  simp [cls, upC, grpC]
def rowL (c : Cl) : List UInt8 := lineL (spL c.ws)
def rowsL (l : List Cl) : List UInt8 := l.flatMap rowL
theorem rowsL_app (l m : List Cl) : rowsL (l ++ m) = rowsL l ++ rowsL m := by unfold rowsL; rw [List.flatMap_append]
theorem rowsL_one (c : Cl) : rowsL [c] = rowL c := by simp [rowsL]
theorem rowsL_cons (c : Cl) (l : List Cl) : rowsL (c :: l) = rowL c ++ rowsL l := by simp [rowsL]
theorem rowsL_nil : rowsL [] = [] := rfl
/-- The text. -/
def prt (p : Prd) : List UInt8 := topL p.nm ++ (rowsL (cls p) ++ [125, 10])
/-- What has been written ahead of the k-th. -/
def preL (p : Prd) (k : Nat) : List UInt8 := topL p.nm ++ rowsL (upC p k)
theorem preL_succ (p : Prd) (k : Nat) : preL p (k + 1) = preL p k ++ rowsL (grpC p k) := by
  unfold preL
  rw [show upC p (k + 1) = upC p k ++ grpC p k from rfl, rowsL_app, List.append_assoc]
theorem prt_pre (p : Prd) : prt p = preL p 15 ++ [125, 10] := by unfold prt preL cls; rw [List.append_assoc]
/-- A sign by itself, wherever it stands; no remark, no end of a line is in it. -/
structure Arg (l : List UInt8) : Prop where
  ex : ∃ k, ∀ p, L7.lex p l = ([⟨k, p, l⟩], none)
  no35 : l.all (· != 35) = true
  no10 : l.all (· != 10) = true
theorem rn_all {t : List UInt8} : ∀ {m : List UInt8}, m.all (t.contains ·) = true → L7.rn m t = m.length
  | [], _ => rfl
  | c :: m, h => by
    simp only [List.all_cons, Bool.and_eq_true] at h
    rw [L7.rn_in h.1, rn_all h.2]; rfl
theorem no_byte {l t : List UInt8} {c : UInt8} (ht : t.contains c = false) (h : l.all (t.contains ·) = true) : l.all (· != c) = true := by
  rw [List.all_eq_true] at h ⊢
  intro x hx
  have := h x hx
  simp only [bne_iff_ne, ne_eq]
  rintro rfl
  rw [ht] at this
  cases this
theorem lex_word {p : Nat} {c : UInt8} {m : List UInt8} (hc : L7.letL.contains c = true) (hm : L7.rn m L7.inWL = m.length) : L7.lex p (c :: m) = ([⟨1, p, c :: m⟩], none) := by
  have hs : L7.sz (c :: m) = m.length + 1 := by rw [L7.sz_cons, hc]; simp [hm]
  have hk : L7.kd (c :: m) = 1 := by rw [L7.kd_cons, hc]; simp
  rw [L7.lex_tok (L7.wh_sgn (by rw [hs]; omega) m) hs (by omega), hk]
  rw [L7.lex_end (by simp [L7.wh])]
  simp
theorem arg_num {c : UInt8} {m : List UInt8} (hc : L7.digL.contains c = true) (hm : m.all (L7.inNL.contains ·) = true) : Arg (c :: m) := by
  have ha : (c :: m).all (L7.inNL.contains ·) = true := by simp only [List.all_cons, Bool.and_eq_true]; exact ⟨L7.dig_inN c hc, hm⟩
  exact ⟨⟨2, fun p => L7.lex_num hc (rn_all hm)⟩, no_byte (by decide) ha, no_byte (by decide) ha⟩
theorem arg_word {c : UInt8} {m : List UInt8} (hc : L7.letL.contains c = true) (hm : m.all (L7.inWL.contains ·) = true) : Arg (c :: m) := by
  have ha : (c :: m).all (L7.inWL.contains ·) = true := by simp only [List.all_cons, Bool.and_eq_true]; exact ⟨L7.let_inW c hc, hm⟩
  exact ⟨⟨1, fun p => lex_word hc (rn_all hm)⟩, no_byte (by decide) ha, no_byte (by decide) ha⟩
theorem arg_digits {d r : List UInt8} (hn : d ≠ []) (hd : d.all L2.isD = true) (hr : r.all (L7.inNL.contains ·) = true) : Arg (d ++ r) := by
  cases d with
  | nil => exact absurd rfl hn
  | cons c m =>
    simp only [List.all_cons, Bool.and_eq_true] at hd
    refine arg_num (dig_isD hd.1) ?_
    show (m ++ r).all _ = true
    rw [List.all_append, Bool.and_eq_true]
    exact ⟨all_inN hd.2, hr⟩
theorem arg_dec (n : Nat) : Arg (decDigits n) := by
  have := arg_digits (L2.decDigits_ne n) (L2.decDigits_all n) (r := []) rfl
  simpa using this
theorem arg_money (v : Int) (h : 0 ≤ v) : Arg (L2.moneyL v) := by
  unfold L2.moneyL L2.signL
  rw [if_neg (by omega), List.nil_append]
  refine arg_digits (L2.decDigits_ne _) (L2.decDigits_all _) ?_
  simp only [List.all_cons, Bool.and_eq_true]
  exact ⟨by decide, all_inN (L2.fix_all _ _)⟩
theorem arg_rate (v : Int) (h : 0 ≤ v) : Arg (L2.rateL v) := by
  unfold L2.rateL L2.signL
  rw [if_neg (by omega), List.nil_append]
  refine arg_digits (L2.decDigits_ne _) (L2.decDigits_all _) ?_
  have ht : (L2.tailL v.natAbs).all (L7.inNL.contains ·) = true := by
    unfold L2.tailL
    exact trim_all 48 (all_inN (L2.fix_all _ _))
  rw [List.all_append, Bool.and_eq_true]
  refine ⟨?_, by decide⟩
  unfold L2.dotL
  split
  · rfl
  · simp only [List.all_cons, Bool.and_eq_true]
    exact ⟨by decide, ht⟩
theorem arg_day (n : Int) : Arg (dayL n) := by
  unfold dayL L3.textL
  have e : ∀ k n, L3.fix k n = L2.fix k n := by
    intro k
    induction k with
    | zero => intro n; rfl
    | succ k ih => intro n; rw [L3.fix, L2.fix, ih]; rfl
  rw [e, e, e]
  refine arg_digits (by rw [L2.fix_cons]; simp) (L2.fix_all _ _) ?_
  simp only [List.all_cons, List.all_append, Bool.and_eq_true]
  exact ⟨by decide, all_inN (L2.fix_all _ _), by decide, all_inN (L2.fix_all _ _)⟩
theorem arg_name {l : List UInt8} (h : L8.nmb l = true) : Arg l := by
  unfold L8.nmb at h
  simp only [Bool.and_eq_true] at h
  cases l with
  | nil => simp [L8.headB] at h
  | cons c m =>
    obtain ⟨_, h1, h2, _⟩ := h
    simp only [List.all_cons, Bool.and_eq_true] at h2
    refine arg_word (low_let c h1) ?_
    rw [List.all_eq_true]
    exact fun x hx => in_inW x (List.all_eq_true.1 h2.2 x hx)
theorem day_len (n : Int) : (dayL n).length = 10 := L3.text_length _ _ _
theorem i64_ofP {v : Int} (h0 : 0 ≤ v) (h1 : v ≤ 10000000000000) : L2.I64 v := ⟨by omega, by omega⟩
theorem rate_lenP (v : Int) (h0 : 0 ≤ v) (h1 : v ≤ 10000000000000) : (L2.rateL v).length ≤ 40 := by
  unfold L2.rateL L2.signL
  rw [if_neg (by omega), List.nil_append]
  have hd := (L2.dec_len v (i64_ofP h0 h1) 10000000).2
  have ht : (L2.tailL v.natAbs).length ≤ 7 := by
    unfold L2.tailL
    have := L2.trimRightB_le (L2.fix 7 v.natAbs) 48
    rw [L2.fix_length] at this
    exact this
  have hdot : (L2.dotL (L2.tailL v.natAbs)).length ≤ 8 := by
    unfold L2.dotL
    split
    · simp
    · simp only [List.length_cons]; omega
  simp only [List.length_append, List.length_cons, List.length_nil]
  omega
theorem money_lenP (v : Int) (h0 : 0 ≤ v) (h1 : v ≤ 10000000000000) : (L2.moneyL v).length ≤ 40 := by
  unfold L2.moneyL L2.signL
  rw [if_neg (by omega), List.nil_append]
  have hd := (L2.dec_len v (i64_ofP h0 h1) 100).2
  simp only [List.length_append, List.length_cons, L2.fix_length]
  omega
theorem dec_lenP (v : Int) (h : v ≤ 99999) : (decDigits v.toNat).length ≤ 5 := dec_len 4 _ (by omega)
/-- A clause that is read as what it is. -/
structure Cls (c : Cl) : Prop where
  arg : ∀ q ∈ c.ws, Arg q
  len : (spL c.ws).length ≤ 76
  tell : ∃ w args, c.ws = w :: args ∧ which w = c.i ∧ c.i < 15 ∧ ∀ (p : Prd) (us ts : List Tok), us.map (·.text) = args → clauseR c.i p (us ++ ts) = .ok (c.f p, ts)
theorem map_one {us : List Tok} {q : List UInt8} (h : us.map (·.text) = [q]) : ∃ t, us = [t] ∧ t.text = q := by
  match us, h with
  | [t], h => exact ⟨t, rfl, by simpa using h⟩
theorem map_two {us : List Tok} {q r : List UInt8} (h : us.map (·.text) = [q, r]) : ∃ t u, us = [t, u] ∧ t.text = q ∧ u.text = r := by
  match us, h with
  | [t, u], h =>
    simp at h
    exact ⟨t, u, rfl, h.1, h.2⟩
theorem map_four {us : List Tok} {q r s x : List UInt8} (h : us.map (·.text) = [q, r, s, x]) : ∃ t u v w, us = [t, u, v, w] ∧ t.text = q ∧ u.text = r ∧ v.text = s ∧ w.text = x := by
  match us, h with
  | [t, u, v, w], h =>
    simp at h
    exact ⟨t, u, v, w, rfl, h.1, h.2.1, h.2.2.1, h.2.2.2⟩
/-- A clause of one word behind its own. -/
theorem cls_one {w q : List UInt8} {i : Nat} {g : Prd → Prd} (hw : Arg w) (hq : Arg q) (hl : w.length + q.length ≤ 75) (hi : which w = i) (h15 : i < 15)
    (h : ∀ (p : Prd) (t : Tok) (ts : List Tok), t.text = q → clauseR i p (t :: ts) = .ok (g p, ts)) : Cls ⟨[w, q], i, g⟩ := by
  refine ⟨fun a ha => ?_, ?_, w, [q], rfl, hi, h15, fun p us ts hus => ?_⟩
  · simp only [List.mem_cons, List.not_mem_nil, or_false] at ha
    rcases ha with rfl | rfl <;> assumption
  · simp only [spL, List.length_append, List.length_cons]; omega
  · obtain ⟨t, rfl, ht⟩ := map_one hus
    exact h p t ts ht
theorem cls_two {w q r : List UInt8} {i : Nat} {g : Prd → Prd} (hw : Arg w) (hq : Arg q) (hr : Arg r) (hl : w.length + q.length + r.length ≤ 74) (hi : which w = i) (h15 : i < 15)
    (h : ∀ (p : Prd) (t u : Tok) (ts : List Tok), t.text = q → u.text = r → clauseR i p (t :: u :: ts) = .ok (g p, ts)) : Cls ⟨[w, q, r], i, g⟩ := by
  refine ⟨fun a ha => ?_, ?_, w, [q, r], rfl, hi, h15, fun p us ts hus => ?_⟩
  · simp only [List.mem_cons, List.not_mem_nil, or_false] at ha
    rcases ha with rfl | rfl | rfl <;> assumption
  · simp only [spL, List.length_append, List.length_cons]; omega
  · obtain ⟨t, u, rfl, ht, hu⟩ := map_two hus
    exact h p t u ts ht hu
theorem num_dec {v : Int} (h0 : 0 ≤ v) (h1 : v ≤ 600) : numO (decDigits v.toNat) = some v := by
  have := num_of v (by omega) (by omega)
  rwa [show itoa v = decDigits v.toNat by unfold itoa; rw [if_neg (by omega)]] at this
theorem rate_O {v : Int} (h0 : 0 ≤ v) (h1 : v ≤ 1000000000) : rateO (L2.rateL v) = some v := by
  unfold rateO
  have hb : v.natAbs ≤ 10000000000 := by omega
  rw [L2.take_rate v, if_pos hb]
  rfl
theorem mon_O {v : Int} (h0 : 0 ≤ v) (h1 : v ≤ 10000000000000) : monO (L2.moneyL v) = some v := by
  unfold monO
  have hb : v.natAbs ≤ 1000000000000000 := by omega
  rw [L2.take_money v (i64_ofP h0 h1), if_pos hb]
  rfl
theorem day_O {n : Int} (h0 : -25567 ≤ n) (h1 : n ≤ 84370) : dayO (dayL n) = some n := by
  obtain ⟨hv, hn⟩ := L3.ofDay n h0 h1
  obtain ⟨k1, k2⟩ := L3.text_take _ _ _ hv
  unfold dayO dayL
  rw [k1, k2, hn]
  rfl
theorem cls_count {p : Prd} (hK : Okf p) : Cls (cCount p) := by
  have h := hK.cn
  have h2 : p.cn = 1 ∨ p.cn = 2 ∨ p.cn = 3 := by omega
  unfold cCount
  rcases h2 with h2 | h2 | h2
  · rw [h2]; exact cls_one (arg_word (c := 99) (m := [111, 117, 110, 116]) (by decide) (by decide)) (show Arg [116, 104, 105, 114, 116, 121] from arg_word (c := 116) (m := [104, 105, 114, 116, 121]) (by decide) (by decide)) (by decide) (by decide) (by decide) (fun q t ts ht => by rw [cl0 (v := 1) (by rw [ht]; decide)])
  · rw [h2]; exact cls_one (arg_word (c := 99) (m := [111, 117, 110, 116]) (by decide) (by decide)) (show Arg [102, 105, 120, 101, 100] from arg_word (c := 102) (m := [105, 120, 101, 100]) (by decide) (by decide)) (by decide) (by decide) (by decide) (fun q t ts ht => by rw [cl0 (v := 2) (by rw [ht]; decide)])
  · rw [h2]; exact cls_one (arg_word (c := 99) (m := [111, 117, 110, 116]) (by decide) (by decide)) (show Arg [97, 99, 116, 117, 97, 108] from arg_word (c := 97) (m := [99, 116, 117, 97, 108]) (by decide) (by decide)) (by decide) (by decide) (by decide) (fun q t ts ht => by rw [cl0 (v := 3) (by rw [ht]; decide)])
theorem cls_round {p : Prd} (hK : Okf p) : Cls (cRound p) := by
  have h := hK.rd
  have h2 : p.rd = 1 ∨ p.rd = 3 := by omega
  unfold cRound
  rcases h2 with h2 | h2
  · rw [h2]; exact cls_one (arg_word (c := 114) (m := [111, 117, 110, 100]) (by decide) (by decide)) (show Arg [104, 97, 108, 102, 45, 117, 112] from arg_word (c := 104) (m := [97, 108, 102, 45, 117, 112]) (by decide) (by decide)) (by decide) (by decide) (by decide) (fun q t ts ht => by rw [cl1 (v := 1) (by rw [ht]; decide)])
  · rw [h2]; exact cls_one (arg_word (c := 114) (m := [111, 117, 110, 100]) (by decide) (by decide)) (show Arg [100, 111, 119, 110] from arg_word (c := 100) (m := [111, 119, 110]) (by decide) (by decide)) (by decide) (by decide) (by decide) (fun q t ts ht => by rw [cl1 (v := 3) (by rw [ht]; decide)])
theorem cls_kind {p : Prd} (hK : Okf p) : Cls (cKind p) := by
  have h := hK.kd
  have h2 : p.kd = 1 ∨ p.kd = 2 ∨ p.kd = 3 := by omega
  unfold cKind
  rcases h2 with h2 | h2 | h2
  · rw [h2]; exact cls_one (arg_word (c := 107) (m := [105, 110, 100]) (by decide) (by decide)) (show Arg [97, 110, 110, 117, 105, 116, 121] from arg_word (c := 97) (m := [110, 110, 117, 105, 116, 121]) (by decide) (by decide)) (by decide) (by decide) (by decide) (fun q t ts ht => by rw [cl2 (v := 1) (by rw [ht]; decide)])
  · rw [h2]; exact cls_one (arg_word (c := 107) (m := [105, 110, 100]) (by decide) (by decide)) (show Arg [101, 113, 117, 97, 108] from arg_word (c := 101) (m := [113, 117, 97, 108]) (by decide) (by decide)) (by decide) (by decide) (by decide) (fun q t ts ht => by rw [cl2 (v := 2) (by rw [ht]; decide)])
  · rw [h2]; exact cls_one (arg_word (c := 107) (m := [105, 110, 100]) (by decide) (by decide)) (show Arg [98, 117, 108, 108, 101, 116] from arg_word (c := 98) (m := [117, 108, 108, 101, 116]) (by decide) (by decide)) (by decide) (by decide) (by decide) (fun q t ts ht => by rw [cl2 (v := 3) (by rw [ht]; decide)])
theorem cls_every {p : Prd} (hK : Okf p) : Cls (cEvery p) := by
  have h := hK.ev
  have hl := dec_lenP p.ev (by omega)
  exact cls_one (arg_word (c := 101) (m := [118, 101, 114, 121]) (by decide) (by decide)) (arg_dec _) (by simp only [List.length_cons, List.length_nil]; omega) (by decide) (by decide) (fun q t ts ht => by rw [cl3 (v := p.ev) (by rw [ht]; exact num_dec (by omega) (by omega))])
theorem cls_times {p : Prd} (hK : Okf p) : Cls (cTimes p) := by
  have h := hK.tm
  have hl := dec_lenP p.tm (by omega)
  exact cls_one (arg_word (c := 116) (m := [105, 109, 101, 115]) (by decide) (by decide)) (arg_dec _) (by simp only [List.length_cons, List.length_nil]; omega) (by decide) (by decide) (fun q t ts ht => by rw [cl4 (v := p.tm) (by rw [ht]; exact num_dec (by omega) (by omega))])
theorem cls_grace {p : Prd} (hK : Okf p) : Cls (cGrace p) := by
  have h := hK.gr
  have hl := dec_lenP p.gr (by omega)
  exact cls_one (arg_word (c := 103) (m := [114, 97, 99, 101]) (by decide) (by decide)) (arg_dec _) (by simp only [List.length_cons, List.length_nil]; omega) (by decide) (by decide) (fun q t ts ht => by rw [cl5 (v := p.gr) (by rw [ht]; exact num_dec (by omega) (by omega))])
theorem cls_rate {p : Prd} (hK : Okf p) : Cls (cRate p) := by
  have h := hK.rt
  have hl := rate_lenP p.rt (by omega) (by omega)
  exact cls_one (arg_word (c := 114) (m := [97, 116, 101]) (by decide) (by decide)) (arg_rate _ (by omega)) (by simp only [List.length_cons, List.length_nil]; omega) (by decide) (by decide) (fun q t ts ht => by rw [cl6 (v := p.rt) (by rw [ht]; exact rate_O (by omega) (by omega))])
theorem cls_penalty {p : Prd} (hK : Okf p) : Cls (cPenalty p) := by
  have h := hK.pn
  have hl := rate_lenP p.pn (by omega) (by omega)
  exact cls_one (arg_word (c := 112) (m := [101, 110, 97, 108, 116, 121]) (by decide) (by decide)) (arg_rate _ (by omega)) (by simp only [List.length_cons, List.length_nil]; omega) (by decide) (by decide) (fun q t ts ht => by rw [cl7 (v := p.pn) (by rw [ht]; exact rate_O (by omega) (by omega))])
theorem cls_reset {x : Int × Int} (h : 0 ≤ x.1 ∧ x.1 ≤ 600 ∧ 0 ≤ x.2 ∧ x.2 ≤ 1000000000) : Cls (cReset x) := by
  obtain ⟨u, v⟩ := x
  simp only [] at h
  have hl := dec_lenP u (by omega)
  have hl2 := rate_lenP v (by omega) (by omega)
  exact cls_two (arg_word (c := 114) (m := [101, 115, 101, 116]) (by decide) (by decide)) (arg_dec _) (arg_rate _ (by omega)) (by simp only [List.length_cons, List.length_nil]; omega) (by decide) (by decide) (fun q t s ts ht hs => by rw [cl8 (v := u) (x := v) (by rw [ht]; exact num_dec (by omega) (by omega)) (by rw [hs]; exact rate_O (by omega) (by omega))])
theorem cls_late {x : Int × Int} (h : 0 ≤ x.1 ∧ x.1 ≤ 365 ∧ 0 ≤ x.2 ∧ x.2 ≤ 10000000000000) : Cls (cLate x) := by
  obtain ⟨u, v⟩ := x
  simp only [] at h
  have hl := dec_lenP u (by omega)
  have hl2 := money_lenP v (by omega) (by omega)
  exact cls_two (arg_word (c := 108) (m := [97, 116, 101]) (by decide) (by decide)) (arg_dec _) (arg_money _ (by omega)) (by simp only [List.length_cons, List.length_nil]; omega) (by decide) (by decide) (fun q t s ts ht hs => by rw [cl9 (v := u) (x := v) (by rw [ht]; exact num_dec (by omega) (by omega)) (by rw [hs]; exact mon_O (by omega) (by omega))])
theorem cls_cap {p : Prd} (hK : Okf p) : Cls (cCap p) := by
  have h := hK.cp
  have hl := money_lenP p.cp (by omega) (by omega)
  exact cls_one (arg_word (c := 99) (m := [97, 112]) (by decide) (by decide)) (arg_money _ (by omega)) (by simp only [List.length_cons, List.length_nil]; omega) (by decide) (by decide) (fun q t ts ht => by rw [cl10 (v := p.cp) (by rw [ht]; exact mon_O (by omega) (by omega))])
theorem cls_hol {x : Int} (h : -25567 ≤ x ∧ x ≤ 84370) : Cls (cHol x) := by
  have hl := day_len x
  exact cls_one (arg_word (c := 104) (m := [111, 108, 105, 100, 97, 121]) (by decide) (by decide)) (arg_day _) (by simp only [List.length_cons, List.length_nil]; omega) (by decide) (by decide) (fun q t ts ht => by rw [cl11 (v := x) (by rw [ht]; exact day_O h.1 h.2)])
theorem cls_over {p : Prd} (hK : Okf p) : Cls (cOver p) := by
  have h := hK.ov
  have h2 : p.ov = 1 ∨ p.ov = 2 ∨ p.ov = 3 := by omega
  unfold cOver
  rcases h2 with h2 | h2 | h2
  · rw [h2]; exact cls_one (arg_word (c := 111) (m := [118, 101, 114]) (by decide) (by decide)) (show Arg [104, 111, 108, 100] from arg_word (c := 104) (m := [111, 108, 100]) (by decide) (by decide)) (by decide) (by decide) (by decide) (fun q t ts ht => by rw [cl13 (v := 1) (by rw [ht]; decide)])
  · rw [h2]; exact cls_one (arg_word (c := 111) (m := [118, 101, 114]) (by decide) (by decide)) (show Arg [112, 114, 101, 112, 97, 121] from arg_word (c := 112) (m := [114, 101, 112, 97, 121]) (by decide) (by decide)) (by decide) (by decide) (by decide) (fun q t ts ht => by rw [cl13 (v := 2) (by rw [ht]; decide)])
  · rw [h2]; exact cls_one (arg_word (c := 111) (m := [118, 101, 114]) (by decide) (by decide)) (show Arg [114, 101, 102, 117, 110, 100] from arg_word (c := 114) (m := [101, 102, 117, 110, 100]) (by decide) (by decide)) (by decide) (by decide) (by decide) (fun q t ts ht => by rw [cl13 (v := 3) (by rw [ht]; decide)])
theorem cls_roll {p : Prd} (hK : Okf p) : Cls (cRoll p) := by
  have h := hK.rl
  have h2 : p.rl = 1 ∨ p.rl = 2 ∨ p.rl = 3 ∨ p.rl = 4 := by omega
  unfold cRoll
  rcases h2 with h2 | h2 | h2 | h2
  · rw [h2]; exact cls_one (arg_word (c := 114) (m := [111, 108, 108]) (by decide) (by decide)) (show Arg [115, 116, 97, 121] from arg_word (c := 115) (m := [116, 97, 121]) (by decide) (by decide)) (by decide) (by decide) (by decide) (fun q t ts ht => by rw [cl14 (v := 1) (by rw [ht]; decide)])
  · rw [h2]; exact cls_one (arg_word (c := 114) (m := [111, 108, 108]) (by decide) (by decide)) (show Arg [110, 101, 120, 116] from arg_word (c := 110) (m := [101, 120, 116]) (by decide) (by decide)) (by decide) (by decide) (by decide) (fun q t ts ht => by rw [cl14 (v := 2) (by rw [ht]; decide)])
  · rw [h2]; exact cls_one (arg_word (c := 114) (m := [111, 108, 108]) (by decide) (by decide)) (show Arg [119, 105, 116, 104, 105, 110] from arg_word (c := 119) (m := [105, 116, 104, 105, 110]) (by decide) (by decide)) (by decide) (by decide) (by decide) (fun q t ts ht => by rw [cl14 (v := 3) (by rw [ht]; decide)])
  · rw [h2]; exact cls_one (arg_word (c := 114) (m := [111, 108, 108]) (by decide) (by decide)) (show Arg [112, 114, 101, 118, 105, 111, 117, 115] from arg_word (c := 112) (m := [114, 101, 118, 105, 111, 117, 115]) (by decide) (by decide)) (by decide) (by decide) (by decide) (fun q t ts ht => by rw [cl14 (v := 4) (by rw [ht]; decide)])
/-- Four kinds, each once: which words are left to choose from, each time. -/
def okO (a b c d : Int) : Bool := !L8.r7B a b c d || (decide (pick oOrder (nthL txOrder a) = some a) && (decide (pick (lessO oOrder a) (nthL txOrder b) = some b) && (decide (pick (lessO (lessO oOrder a) b) (nthL txOrder c) = some c) && decide (pick (lessO (lessO (lessO oOrder a) b) c) (nthL txOrder d) = some d))))
theorem okO_all : ([1, 2, 3, 4] : List Int).all (fun a => ([1, 2, 3, 4] : List Int).all fun b => ([1, 2, 3, 4] : List Int).all fun c => ([1, 2, 3, 4] : List Int).all fun d => okO a b c d) = true := by decide +kernel
theorem in4 {a : Int} (h : 1 ≤ a ∧ a ≤ 4) : a ∈ ([1, 2, 3, 4] : List Int) := by
  have : a = 1 ∨ a = 2 ∨ a = 3 ∨ a = 4 := by omega
  rcases this with rfl | rfl | rfl | rfl <;> decide
theorem arg_order {a : Int} (h : 1 ≤ a ∧ a ≤ 4) : Arg (nthL txOrder a) ∧ (nthL txOrder a).length ≤ 9 := by
  have : a = 1 ∨ a = 2 ∨ a = 3 ∨ a = 4 := by omega
  rcases this with rfl | rfl | rfl | rfl

  · exact ⟨show Arg [102, 101, 101, 115] from arg_word (c := 102) (m := [101, 101, 115]) (by decide) (by decide), by decide⟩
  · exact ⟨show Arg [112, 101, 110, 97, 108, 116, 121] from arg_word (c := 112) (m := [101, 110, 97, 108, 116, 121]) (by decide) (by decide), by decide⟩
  · exact ⟨show Arg [105, 110, 116, 101, 114, 101, 115, 116] from arg_word (c := 105) (m := [110, 116, 101, 114, 101, 115, 116]) (by decide) (by decide), by decide⟩
  · exact ⟨show Arg [112, 114, 105, 110, 99, 105, 112, 97, 108] from arg_word (c := 112) (m := [114, 105, 110, 99, 105, 112, 97, 108]) (by decide) (by decide), by decide⟩
theorem cls_order {p : Prd} (hK : Okf p) (h7 : L8.r7B p.o0 p.o1 p.o2 p.o3 = true) : Cls (cOrder p) := by
  have h := List.all_eq_true.1 (List.all_eq_true.1 (List.all_eq_true.1 (List.all_eq_true.1 okO_all _ (in4 hK.o0)) _ (in4 hK.o1)) _ (in4 hK.o2)) _ (in4 hK.o3)
  unfold okO at h
  rw [h7] at h
  simp only [Bool.not_true, Bool.false_or, Bool.and_eq_true, decide_eq_true_eq] at h
  obtain ⟨k0, k1, k2, k3⟩ := h
  obtain ⟨a0, l0⟩ := arg_order hK.o0
  obtain ⟨a1, l1⟩ := arg_order hK.o1
  obtain ⟨a2, l2⟩ := arg_order hK.o2
  obtain ⟨a3, l3⟩ := arg_order hK.o3
  refine ⟨fun a ha => ?_, ?_, [111, 114, 100, 101, 114], [nthL txOrder p.o0, nthL txOrder p.o1, nthL txOrder p.o2, nthL txOrder p.o3], rfl, by show which _ = 12; decide, by show 12 < 15; decide, fun q us ts hus => ?_⟩
  · simp only [cOrder, List.mem_cons, List.not_mem_nil, or_false] at ha
    rcases ha with rfl | rfl | rfl | rfl | rfl
    · exact arg_word (c := 111) (m := [114, 100, 101, 114]) (by decide) (by decide)
    · exact a0
    · exact a1
    · exact a2
    · exact a3
  · simp only [cOrder, spL, List.length_append, List.length_cons, List.length_nil]; omega
  · obtain ⟨t, u, v, w, rfl, e0, e1, e2, e3⟩ := map_four hus
    show clauseR 12 q (t :: u :: v :: w :: ts) = _
    rw [cl12 (a := p.o0) (b := p.o1) (c := p.o2) (d := p.o3) (by rw [e0]; exact k0) (by rw [e1]; exact k1) (by rw [e2]; exact k2) (by rw [e3]; exact k3)]
    rfl
/-- All of them. -/
theorem cls_all {p : Prd} (hp : okP p = true) : ∀ c ∈ cls p, Cls c := by
  have hK := okf hp
  have h7 : L8.r7B p.o0 p.o1 p.o2 p.o3 = true := by
    unfold okP at hp
    simp only [Bool.and_eq_true] at hp
    exact hp.2.2.2.2.2.2.2.1
  intro c hc
  rw [cls_eq] at hc
  simp only [List.mem_append, List.mem_cons, List.not_mem_nil, or_false, List.mem_map] at hc
  rcases hc with (rfl | rfl | rfl | rfl | rfl | rfl | rfl | rfl) | ⟨x, hx, rfl⟩ | (rfl | rfl) | ⟨x, hx, rfl⟩ | (rfl | rfl) | ⟨x, hx, rfl⟩
  · exact cls_count hK
  · exact cls_round hK
  · exact cls_kind hK
  · exact cls_every hK
  · exact cls_times hK
  · exact cls_grace hK
  · exact cls_rate hK
  · exact cls_penalty hK
  · exact cls_reset (hK.rs x hx)
  · exact cls_order hK h7
  · exact cls_over hK
  · exact cls_late (hK.lt x hx)
  · exact cls_cap hK
  · exact cls_roll hK
  · exact cls_hol (hK.hd x hx)
theorem rows_len : ∀ l : List Cl, (∀ c ∈ l, Cls c) → (rowsL l).length ≤ 80 * l.length
  | [], _ => Nat.le_refl _
  | c :: l, h => by
    have h1 := (h c (by simp)).len
    have h2 := rows_len l (fun d hd => h d (by simp [hd]))
    rw [rowsL_cons, List.length_append]
    have e : (rowL c).length = (spL c.ws).length + 4 := by unfold rowL lineL; simp
    simp only [List.length_cons]
    omega
theorem cls_len (p : Prd) : (cls p).length = 12 + p.rs.length + p.lt.length + p.hd.length := by
  rw [cls_eq]
  simp
  omega
theorem top_len (l : List UInt8) : (topL l).length = l.length + 11 := by unfold topL; simp
theorem prt_len {p : Prd} (hp : okP p = true) : (prt p).length ≤ 19300 := by
  have hK := okf hp
  have h1 := rows_len _ (cls_all hp)
  rw [cls_len] at h1
  have := hK.nl; have := hK.rl_; have := hK.ll; have := hK.hl
  unfold prt
  rw [List.length_append, List.length_append, top_len]
  simp only [List.length_cons, List.length_nil]
  omega
end Go.Proofs.YtaafagggjnemgaaGreatDoor

namespace Go.Proofs.YtaafagggjnemgaaGreatDoor
open Go.RowKit Go.Lib
set_option linter.unusedVariables false
/-- A writer's cells: its product's, and its builder's two. -/
def wcells (p : Prd) (vr vl vh ad bf : Value) : Array Value := #[.string ⟨p.nm.toArray⟩, .int .i64 p.cn, .int .i64 p.rd, .int .i64 p.kd, .int .i64 p.ev, .int .i64 p.tm, .int .i64 p.gr, .int .i64 p.rt, vr, .int .i64 p.pn, .int .i64 p.o0, .int .i64 p.o1, .int .i64 p.o2, .int .i64 p.o3, .int .i64 p.ov, vl, .int .i64 p.cp, .int .i64 p.rl, vh, ad, bf]
/-- A writer in a block of its own, made behind w0, and what it has written. -/
structure Wrt (w0 w : World) (b : Nat) (p : Prd) (vr vl vh : Value) (l : List UInt8) : Prop where
  ext : Ext w0 w
  lo : w0.heap.size ≤ b
  row : ∃ ad bf, w.heap[b]? = some (Obj.cells (wcells p vr vl vh ad bf) 73 (0, 0)) ∧ (ad = .pointer none ∨ ad = .pointer (some ⟨b, 19, none⟩)) ∧ w.ownsRow w0.heap.size 5 1 bf l.length (Lib.byteCells l)
theorem Wrt.on {w0 w w' : World} {b : Nat} {p : Prd} {vr vl vh : Value} {l : List UInt8} (h : Wrt w0 w b p vr vl vh l) (hx : Ext w w') : Wrt w0 w' b p vr vl vh l := by
  obtain ⟨ad, bf, h1, h2, h3⟩ := h.row
  exact ⟨h.ext.trans hx, h.lo, ad, bf, (hx.below.block b (Array.getElem?_eq_some_iff.1 h1).1).trans h1, h2, L7.own_ext h3 hx⟩
theorem Wrt.lt {w0 w : World} {b : Nat} {p : Prd} {vr vl vh : Value} {l : List UInt8} (h : Wrt w0 w b p vr vl vh l) : b < w.heap.size := by
  obtain ⟨ad, bf, h1, _⟩ := h.row
  exact (Array.getElem?_eq_some_iff.1 h1).1
theorem Wrt.cell {w0 w : World} {b : Nat} {p : Prd} {vr vl vh : Value} {l : List UInt8} (h : Wrt w0 w b p vr vl vh l) {k : Nat} {v : Value} (hk : k < 19) (hv : (wcells p vr vl vh (.pointer none) (.pointer none))[k]? = some v) : w.cell? ⟨b, k, none⟩ = some v := by
  obtain ⟨ad, bf, h1, _⟩ := h.row
  refine (cell_of_row w b k _ _ _ h1).trans (Eq.trans ?_ hv)
  match k, hk with
  | 0, _ => rfl
  | 1, _ => rfl
  | 2, _ => rfl
  | 3, _ => rfl
  | 4, _ => rfl
  | 5, _ => rfl
  | 6, _ => rfl
  | 7, _ => rfl
  | 8, _ => rfl
  | 9, _ => rfl
  | 10, _ => rfl
  | 11, _ => rfl
  | 12, _ => rfl
  | 13, _ => rfl
  | 14, _ => rfl
  | 15, _ => rfl
  | 16, _ => rfl
  | 17, _ => rfl
  | 18, _ => rfl
  | k + 19, hk => omega
theorem row_other {w : World} {B : Nat} {v : Value} {n b : Nat} {xs : List Value} {cs : Array Value} (h : w.ownsRow B 5 1 v n xs) (hb : w.heap[b]? = some (Obj.cells cs 73 (0, 0))) : v.ownBlock ≠ some b := ownBlock_ne h hb (by decide)
/-- A store into the writer's own block: what was appended to lies elsewhere. -/
theorem own_set {w : World} {B : Nat} {v x : Value} {n b o : Nat} {xs : List Value} {cs : Array Value} (h : w.ownsRow B 5 1 v n xs) (hb : w.heap[b]? = some (Obj.cells cs 73 (0, 0))) : (w.setCell ⟨b, o, none⟩ x).ownsRow B 5 1 v n xs :=
  own_keep h fun k cur hk => heap_setCell_other _ _ _ _ (by
    show k ≠ b
    rintro rfl
    have := hk.symm.trans hb
    simp at this)
/-- What has turned are bytes, and the writer's own block, alone. -/
structure Stp (b : Nat) (w w' : World) : Prop where
  keep : ∀ (k : Nat) (T : TypeId) (cur : Array Value), T ≠ 5 → k ≠ b → w.heap[k]? = some (Obj.cells cur T (0, 0)) → w'.heap[k]? = some (Obj.cells cur T (0, 0))
  size : w.heap.size ≤ w'.heap.size
theorem Stp.refl (b : Nat) (w : World) : Stp b w w := ⟨fun _ _ _ _ _ h => h, Nat.le_refl _⟩
theorem Stp.trans {b : Nat} {u v w : World} (h : Stp b u v) (k : Stp b v w) : Stp b u w := ⟨fun i T cur h1 h2 h3 => k.keep i T cur h1 h2 (h.keep i T cur h1 h2 h3), Nat.le_trans h.size k.size⟩
theorem Stp.of {b : Nat} {w w' : World} (hx : Ext w w') : Stp b w w' := ⟨fun k _ _ _ _ h => (hx.below.block k (Array.getElem?_eq_some_iff.1 h).1).trans h, hx.size⟩
theorem Stp.set (b : Nat) (w : World) (o : Nat) (v : Value) : Stp b w (w.setCell ⟨b, o, none⟩ v) := ⟨fun k _ _ _ hk h => (heap_setCell_other _ _ _ _ hk).trans h, by simp [World.setCell]⟩
theorem Stp.grown {b : Nat} {w w' : World} {B n : Nat} {v : Value} {xs : List Value} (h : w.grownBy w' v.ownBlock) (hown : w.ownsRow B 5 1 v n xs) : Stp b w w' :=
  ⟨fun k T cur hT _ hk => (h.block k (Array.getElem?_eq_some_iff.1 hk).1 (fun e => ownBlock_ne hown hk hT e.symm)).trans hk, h.size⟩
theorem Stp.cell {b : Nat} {w w' : World} (h : Stp b w w') {k o : Nat} {T : TypeId} {cur : Array Value} (hT : T ≠ 5) (hk : k ≠ b) (hb : w.heap[k]? = some (Obj.cells cur T (0, 0))) : w'.cell? ⟨k, o, none⟩ = cur[o]? := cell_of_row w' k o _ _ _ (h.keep k T cur hT hk hb)
theorem infoB : ∃ j, Tryz.prog.info? 71 = some j ∧ j.size = 2 := by
  obtain ⟨j, h1, h2⟩ := Option.map_eq_some_iff.1 (show (Tryz.prog.info? 71).map (·.size) = some 2 by kernel_rfl)
  exact ⟨j, h1, h2⟩
theorem infoU : (Tryz.prog.info? 5).map (fun i => (i.zero, i.size, i.bytes)) = some (some (.int .u8 0), 1, 1) := by kernel_rfl
theorem liesB : liesAt Tryz.prog Tryz.prog.depth 73 (21 / Tryz.prog.cellsOf 73) 19 71 1 = true := by kernel_rfl
set_option maxRecDepth 100000 in
set_option maxHeartbeats 1000000 in
theorem copyCheck_w (w0 w : World) (b : Nat) (p : Prd) (vr vl vh : Value) (l : List UInt8) (h : Wrt w0 w b p vr vl vh l) :
    Calls Tryz.prog 67 #[.pointer (some ⟨b, 19, none⟩)] w fun e w' => e = .returned (.tuple #[]) ∧ Wrt w0 w' b p vr vl vh l ∧ Stp b w w' := by
  obtain ⟨ad, bf, hr, hor, hown⟩ := h.row
  obtain ⟨j, hj, hjs⟩ := infoB
  have hb := h.lt
  have hlo := h.lo
  have hsh : w.shape? b = some (73, 21) := by simp [World.shape?, hr, wcells]
  have c19 := (cell_of_row w b 19 _ _ _ hr).trans (show _ = some ad from rfl)
  have fz : w.frozen? ⟨b, 19, none⟩ = false := by simp [World.frozen?, hr]
  rcases hor with rfl | rfl
  · go_enter Tryz.func67, Tryz.ntmps67
    go_wp2
    rw [Lib.run_to_unsafe w ⟨b, 19, none⟩ Tryz.underlying68 Tryz.underlying116 hj (by rw [hjs]; decide) hsh (by show 19 < 21; decide)]
    simp only [Result.andThen]
    rw [Oper.upon_value]
    go_wp2
    rw [run_callFunc_extern Tryz.func95 (by kernel_rfl) (by kernel_rfl) (by kernel_rfl) (e := Extern.AbiNoEscape.same) (by kernel_rfl)]
    rw [Lib.run_noEscape]
    simp only [Result.andThen]
    rw [Oper.upon_value]
    go_wp2
    rw [Lib.run_from_unsafe w ⟨b, 19, none⟩ Tryz.underlying116 Tryz.underlying68 hj hsh liesB]
    simp only [Result.andThen]
    rw [Oper.upon_value]
    go_wp2
    go_end0
    refine ⟨rfl, ⟨h.ext.setCell hlo _, hlo, .pointer (some ⟨b, 19, none⟩), bf, ?_, Or.inr rfl, own_set hown hr⟩, Stp.set _ _ _ _⟩
    simp [World.setCell, Array.getElem?_modify, hr, wcells]
  · go_enter Tryz.func67, Tryz.ntmps67
    go_wp2
    rw [Lib.run_neq_ptr_same w _ Tryz.underlying68 hj]
    go_wp2
    go_end0
    exact ⟨rfl, h, Stp.refl _ _⟩
set_option maxRecDepth 100000 in
set_option maxHeartbeats 2000000 in
/-- What is written stands behind what was. -/
theorem WriteString_w (w0 w : World) (b : Nat) (p : Prd) (vr vl vh : Value) (l s : List UInt8) (h : Wrt w0 w b p vr vl vh l) (hl : l.length + s.length ≤ 140737488355328) :
    Calls Tryz.prog 35 #[.pointer (some ⟨b, 19, none⟩), .string ⟨s.toArray⟩] w fun e w' => e = .returned (.tuple #[.int .i64 s.length, .nilIface]) ∧ Wrt w0 w' b p vr vl vh (l ++ s) ∧ Stp b w w' := by
  obtain ⟨i0, hi, hz0, hz1, hz2⟩ := info_parts infoU
  have hC := show Hid _ from copyCheck_w w0 w b p vr vl vh l h
  have hlo := show Hid _ from h.lo
  clear h
  go_enter Tryz.func35, Tryz.ntmps35
  go_wp2_with fail
  refine Calls.mono hC.out ?_
  rintro e w1 ⟨rfl, h1, hs1⟩
  clear hC
  obtain ⟨ad, bf, hr, hor, hown⟩ := h1.row
  have hx1 := show Hid _ from h1.ext
  have hb := show Hid _ from h1.lt
  clear h1
  have c20 := (cell_of_row w1 b 20 _ _ _ hr).trans (show _ = some bf from rfl)
  go_wp2_with (at_builtin; refine Lib.wpList_append_own_string _ rfl _ _ 69 9 rfl w0.heap.size 5 i0 Tryz.underlying69 Tryz.underlying9 hi hz0 hz1 hz2 _ _ _ rfl hown ⟨s.toArray⟩ rfl ?c3 ?c4 ?c5 ?_)
  case c3 => simp only [Lib.size_mk]; unfold maxLen; omega
  case c4 => simp only [Lib.size_mk]; omega
  case c5 => exact hx1.out.size
  intro v' w2 hown' hgrow _
  try simp only [Lib.size_mk] at hown'
  have hne := row_other hown hr
  have hb2 : w2.heap[b]? = some (Obj.cells (wcells p vr vl vh ad bf) 73 (0, 0)) := by
    rw [hgrow.block b hb.out (fun e => hne e.symm)]
    exact hr
  have d20 := (cell_of_row w2 b 20 _ _ _ hb2).trans (show _ = some bf from rfl)
  have f20 : w2.frozen? ⟨b, 20, none⟩ = false := by simp [World.frozen?, hb2]
  have hx2 := show Hid (Ext w0 w2) from ⟨hx1.out.below.grown hgrow hx1.out.size (fun k hk => (hown.lt k hk).1)⟩
  obtain ⟨ao, n', cap, rfl⟩ : ∃ ao n' cap, v' = .slice ao n' cap := by
    rcases hown'.2 with ⟨hv, _⟩ | ⟨g, cap, cur, hv, _⟩
    · exact ⟨_, _, _, hv⟩
    · exact ⟨_, _, _, hv⟩
  have hs2 := show Hid _ from hs1.trans (Stp.grown hgrow hown)
  clear hs1
  replace hb2 := show Hid _ from hb2
  replace hown' := show Hid _ from hown'
  replace hor := show Hid _ from hor
  clear hgrow hown hr c20 hi hz0 hz1 hz2 hne
  go_wp2
  go_ret2
  refine ⟨rfl, ⟨hx2.out.setCell hlo.out _, hlo.out, ad, .slice ao n' cap, ?_, hor.out, ?_⟩, hs2.out.trans (Stp.set _ _ _ _)⟩
  · have := hb2.out
    simp [World.setCell, Array.getElem?_modify, this, wcells]
  · have := own_set (o := 20) (x := .slice ao n' cap) hown'.out hb2.out
    have e : Lib.byteCells l ++ strCells ⟨s.toArray⟩ = Lib.byteCells (l ++ s) := by simp [Lib.byteCells, strCells]
    rw [e] at this
    simpa using this
set_option maxRecDepth 100000 in
set_option maxHeartbeats 1000000 in
/-- What was written, as a string. -/
theorem String_w (w0 w : World) (b : Nat) (p : Prd) (vr vl vh : Value) (l : List UInt8) (h : Wrt w0 w b p vr vl vh l) (h0 : l ≠ []) :
    Calls Tryz.prog 37 #[.pointer (some ⟨b, 19, none⟩)] w fun e w' => e = .returned (.string ⟨l.toArray⟩) ∧ Ext w0 w' := by
  obtain ⟨ad, bf, hr, hor, hown⟩ := h.row
  have hx := show Hid _ from h.ext
  have hl0 : l.length ≠ 0 := by simpa using h0
  obtain ⟨g, cap, cur, rfl, hbg, hg, hnc, hcm, hcs, htake⟩ : ∃ g cap cur, bf = .slice (some ⟨g, 0, none⟩) l.length cap ∧ w0.heap.size ≤ g ∧ w.heap[g]? = some (Obj.cells cur 5 (0, 0)) ∧ l.length ≤ cap ∧ cap ≤ maxLen ∧ cur.size = cap * 1 ∧ cur.toList.take (l.length * 1) = Lib.byteCells l := by
    rcases hown.2 with ⟨_, hz⟩ | ⟨g, cap, cur, hv, r⟩
    · exact absurd hz hl0
    · exact ⟨g, cap, cur, hv, r⟩
  have c20 : w.drew.cell? ⟨b, 20, none⟩ = some (.slice (some ⟨g, 0, none⟩) l.length cap) := (cell_of_row w b 20 _ _ _ hr).trans rfl
  have hSD : (Builtin.unsafeSliceData_ #[69] 102 #[.slice (some ⟨g, 0, none⟩) l.length cap]).run Tryz.prog w.drew = .ok (.pointer (some ⟨g, 0, none⟩)) w.drew :=
    Lib.run_unsafeSliceData_row _ _ _ _ _ _ (by omega)
  have hUS : (Builtin.unsafeString_ #[102, 3] 9 #[.pointer (some ⟨g, 0, none⟩), .int .i64 l.length]).run Tryz.prog w.drew = .ok (.string ⟨l.toArray⟩) (w.drew.freeze ⟨g, 0, none⟩ l.length) := by
    refine Lib.run_unsafeString_row w.drew 102 3 9 5 Tryz.underlying102 (by kernel_rfl) g cur.size (by have hg' : w.drew.heap[g]? = some (Obj.cells cur 5 (0, 0)) := hg; simp [World.shape?, hg']) l h0 (by omega) (by unfold maxLen at hcm; omega) ?_
    intro j x hx
    have := hown.cells (g := g) rfl j (.int .u8 x.toNat) (by simp [Lib.byteCells, hx])
    exact this
  have mixed : Tryz.prog.follows .mixedOrders = true := by kernel_rfl
  clear h hown htake
  go_enter Tryz.func37, Tryz.ntmps37
  go_wp2
  go_region_o
  all_goals (go_wp2; go_ret; exact ⟨rfl, ⟨Lib.below_freeze hx.out.below.drew (p := ⟨g, 0, none⟩) hbg _⟩⟩)
end Go.Proofs.YtaafagggjnemgaaGreatDoor

namespace Go.Proofs.YtaafagggjnemgaaGreatDoor
open Go.RowKit Go.Lib
set_option linter.unusedVariables false
theorem join_sp : ∀ l : List (List UInt8), Lib.join l [32] = spL l
  | [] => rfl
  | [a] => Lib.join_one a [32]
  | a :: b :: s => by
    have ih := join_sp (b :: s)
    rw [Lib.join_cons] at ih ⊢
    show a ++ Lib.joinTail [32] (b :: s) = a ++ 32 :: spL (b :: s)
    rw [← ih]
    unfold Lib.joinTail
    simp
theorem Join_w (ws : List (List UInt8)) (d c : Nat) (w : World) (hS : L8.Strs w d ws) (hd : d < w.heap.size) (hc : ws.length ≤ c) (hn : ws.length ≤ 100) (hl : (spL ws).length ≤ 100000) :
    Calls Tryz.prog 107 #[.slice (some ⟨d, 0, none⟩) ws.length c, .string ⟨#[32]⟩] w fun e w' => e = .returned (.string ⟨(spL ws).toArray⟩) ∧ Ext w w' := by
  have hm : (ws.map fun u => (⟨u.toArray⟩ : ByteArray)).map (·.data.toList) = ws := by
    rw [List.map_map]
    conv => rhs; rw [← List.map_id ws]
    exact List.map_congr_left fun u _ => by simp
  have h := Tryz.strings_Join d 0 c (ws.map fun u => (⟨u.toArray⟩ : ByteArray)) ⟨#[32]⟩ w
    (fun j x hx => by
      rw [List.getElem?_map] at hx
      cases hj : ws[j]? with
      | none => rw [hj] at hx; cases hx
      | some u =>
        rw [hj] at hx
        obtain rfl := Option.some.inj hx
        rw [Nat.zero_add]
        exact hS j u hj) hd (by rw [List.length_map]; omega) (by rw [List.length_map]; exact hc)
    (by rw [hm, show (⟨#[32]⟩ : ByteArray).data.toList = [32] from rfl, join_sp]; omega)
  rw [hm, show (⟨#[32]⟩ : ByteArray).data.toList = [32] from rfl, join_sp, List.length_map] at h
  exact h.mono fun e w' ⟨he, hb⟩ => ⟨he, ⟨hb⟩⟩
set_option maxRecDepth 100000 in
set_option maxHeartbeats 2000000 in
theorem line_w (w0 w : World) (b : Nat) (p : Prd) (vr vl vh : Value) (l : List UInt8) (ws : List (List UInt8)) (d c n : Nat) (h : Wrt w0 w b p vr vl vh l) (hS : L8.Strs w d ws) (hd : d < w.heap.size) (hn : ws.length = n) (hc : n ≤ c) (hn2 : n ≤ 100) (hl : l.length ≤ 100000) (hq : (spL ws).length ≤ 1000) :
    Calls Tryz.prog 96 #[.pointer (some ⟨b, 0, none⟩), .slice (some ⟨d, 0, none⟩) n c] w fun e w' => e = .returned (.tuple #[]) ∧ Wrt w0 w' b p vr vl vh (l ++ lineL (spL ws)) ∧ Stp b w w' := by
  have hJ := fun W (hx : Ext w W) => Join_w ws d c W (fun k x hk => hx.cell_of (hS k x hk)) (Nat.lt_of_lt_of_le hd hx.size) (by omega) (by omega) (by omega)
  rw [hn] at hJ
  have hL : lineL (spL ws) = 32 :: 32 :: (spL ws ++ [59, 10]) := rfl
  rw [hL]
  clear hL hS hd
  generalize spL ws = q at *
  have g1 : ¬ 9223372036854775807 < 2 + q.length := by omega
  have g2 : ¬ 9223372036854775807 < 2 + q.length + 2 := by omega
  have g3 : ¬ 9223372036854775807 < 2 + (q.length + 2) := by omega
  have g4 : ¬ 9223372036854775807 < q.length + 1 + 1 := by omega
  have g5 : ¬ 9223372036854775807 < q.length + 1 + 1 + 2 := by omega
  have hWS := fun (W : World) (hW : Wrt w0 W b p vr vl vh l) => WriteString_w w0 W b p vr vl vh l (32 :: 32 :: (q ++ [59, 10])) hW (by simp only [List.length_cons, List.length_append, List.length_nil]; omega)
  replace hJ := show Hid _ from hJ
  replace hWS := show Hid _ from hWS
  have hx0 := show Hid (Ext w0 w) from h.ext
  replace h := show Hid _ from h
  clear hn hc hn2 hl hq
  go_enter Tryz.func96, Tryz.ntmps96

  refine L8.wp_region_thrown (fun W => Ext w0 W) (fun a => False) [] (fun t => none) (fun x W => False) (by kernel_rfl) (fun _ _ _ h1 _ h3 => h3.elim) (hx0.out.drew) (fun hSt => ?_)
  obtain ⟨wz, hwz⟩ : ∃ W, W = w.drew := ⟨_, rfl⟩
  rw [← hwz] at hSt ⊢
  have hxz : Hid (Ext w wz) := by rw [hwz]; exact (Ext.refl w).drew
  clear hwz
  refine L8.takeT 0 (oi := { dst := some 4, op := Op.move (Operand.tmp 0), type := 50, pos := "writer.go:31", after := #[], guard := none }) (v := .pointer (some ⟨b, 0, none⟩)) rfl (by kernel_rfl) (by kernel_rfl) (by kernel_rfl) (by decide) (Or.inl ⟨by rfl, fun W hW => ?_⟩) hSt ?_
  · go_simp
  simp only [Act.put, List.setIfInBounds_toArray, List.set_cons_zero, List.set_cons_succ]
  refine L8.takeT 1 (oi := { dst := some 5, op := Op.nilCheck (Operand.tmp 4), type := 0, pos := "writer.go:31", after := #[{ on := 0, ground := Ground.data }], guard := none }) (v := .pointer (some ⟨b, 0, none⟩)) rfl (by kernel_rfl) (by kernel_rfl) (by kernel_rfl) (by decide) (Or.inl ⟨by rfl, fun W hW => ?_⟩) hSt ?_
  · go_simp
  simp only [Act.put, List.setIfInBounds_toArray, List.set_cons_zero, List.set_cons_succ]
  refine L8.takeT 2 (oi := { dst := some 6, op := Op.fieldAddr 73 (Operand.tmp 5) 1, type := 0, pos := "writer.go:31", after := #[{ on := 1, ground := Ground.data }], guard := none }) (v := .pointer (some ⟨b, 19, none⟩)) rfl (by kernel_rfl) (by kernel_rfl) (by kernel_rfl) (by decide) (Or.inl ⟨by rfl, fun W hW => ?_⟩) hSt ?_
  · go_simp
  simp only [Act.put, List.setIfInBounds_toArray, List.set_cons_zero, List.set_cons_succ]
  refine L8.takeT 3 (oi := { dst := some 7, op := Op.move (Operand.tmp 1), type := 54, pos := "writer.go:31", after := #[], guard := none }) (v := .slice (some ⟨d, 0, none⟩) n c) rfl (by kernel_rfl) (by kernel_rfl) (by kernel_rfl) (by decide) (Or.inl ⟨by rfl, fun W hW => ?_⟩) hSt ?_
  · go_simp
  simp only [Act.put, List.setIfInBounds_toArray, List.set_cons_zero, List.set_cons_succ]
  refine wpAnyH_ready (rs := [4]) (by kernel_rfl) (by simp) ?_
  refine AllReadyH.cons (o := { dst := some 8, op := Op.call { callee := Callee.value (Operand.func 107), args := #[Operand.tmp 7, Operand.const (Value.string { data := #[32] })], argTypes := #[54, 9] }, type := 9, pos := "writer.go:31", after := #[{ on := 3, ground := Ground.data }], guard := none }) rfl (fun K hK => ?_) AllReadyH.nil
  go_simp
  refine Calls.mono (hJ.out _ hxz.out) ?_
  rintro e wm ⟨rfl, hxm⟩
  try dsimp only
  have hE0 := Ext.trans hSt hxm
  replace hxz : Hid (Ext w wm) := hxz.out.trans hxm
  refine hK.out _ _ hE0 ?_
  clear hK K
  intro _
  try simp only [Act.put, List.setIfInBounds_toArray, List.set_cons_zero, List.set_cons_succ]
  refine L8.takeT 5 (oi := { dst := some 9, op := Op.binOp BinOp.add 9 (Operand.const (Value.string { data := #[32, 32] })) (Operand.tmp 8) 9, type := 9, pos := "writer.go:31", after := #[{ on := 4, ground := Ground.data }], guard := none }) (v := .string ⟨(32 :: 32 :: q).toArray⟩) rfl (by kernel_rfl) (by kernel_rfl) (by kernel_rfl) (by decide) (Or.inl ⟨by rfl, fun W hW => ?_⟩) hE0 ?_
  · go_simp
  simp only [Act.put, List.setIfInBounds_toArray, List.set_cons_zero, List.set_cons_succ]
  refine L8.takeT 6 (oi := { dst := some 10, op := Op.binOp BinOp.add 9 (Operand.tmp 9) (Operand.const (Value.string { data := #[59, 10] })) 9, type := 9, pos := "writer.go:31", after := #[{ on := 5, ground := Ground.data }], guard := none }) (v := .string ⟨(32 :: 32 :: (q ++ [59, 10])).toArray⟩) rfl (by kernel_rfl) (by kernel_rfl) (by kernel_rfl) (by decide) (Or.inl ⟨by rfl, fun W hW => ?_⟩) hE0 ?_
  · go_simp
  simp only [Act.put, List.setIfInBounds_toArray, List.set_cons_zero, List.set_cons_succ]
  refine wpAnyH_ready (rs := [7]) (by kernel_rfl) (by simp) ?_
  refine AllReadyH.cons (o := { dst := some 11, op := Op.call { callee := Callee.value (Operand.func 35), args := #[Operand.tmp 6, Operand.tmp 10], argTypes := #[71, 9] }, type := 76, pos := "writer.go:31", after := #[{ on := 2, ground := Ground.data }, { on := 6, ground := Ground.data }, { on := 4, ground := Ground.chain }], guard := none }) rfl (fun K hK => ?_) AllReadyH.nil
  go_simp
  refine Calls.mono (hWS.out _ (h.out.on hxz.out)) ?_
  rintro e wn ⟨rfl, hWn, hSn⟩
  try dsimp only
  refine hK.out _ _ hWn.ext ?_
  clear hK K
  intro _
  try simp only [Act.put, List.setIfInBounds_toArray, List.set_cons_zero, List.set_cons_succ]
  refine wpAnyH_done (by kernel_rfl) (L8.ThrowQ.normal ?_) _
  have hfin := show Hid _ from hWn
  have hst := show Hid _ from (Stp.of hxz.out).trans hSn
  clear g1 g2 g3 g4 g5
  go_wp2
  go_end0
  exact ⟨rfl, hfin.out, hst.out⟩
end Go.Proofs.YtaafagggjnemgaaGreatDoor

namespace Go.Proofs.YtaafagggjnemgaaGreatDoor
open Go.RowKit Go.Lib
set_option linter.unusedVariables false
/-- What is read of the listed variables. -/
structure Pnv (w : World) : Prop where
  two : L2.Env w
  three : L3.Env w
  cts : ∀ (i : Nat) u, ([] :: txCount)[i]? = some u → w.cell? ⟨0, i, none⟩ = some (.string ⟨u.toArray⟩)
  rds : ∀ (i : Nat) u, ([] :: txRound)[i]? = some u → w.cell? ⟨1, i, none⟩ = some (.string ⟨u.toArray⟩)
  kds : ∀ (i : Nat) u, ([] :: txKind)[i]? = some u → w.cell? ⟨2, i, none⟩ = some (.string ⟨u.toArray⟩)
  owd : ∀ (i : Nat) u, ([] :: txOrder)[i]? = some u → w.cell? ⟨3, i, none⟩ = some (.string ⟨u.toArray⟩)
  ovs : ∀ (i : Nat) u, ([] :: txOver)[i]? = some u → w.cell? ⟨4, i, none⟩ = some (.string ⟨u.toArray⟩)
  rls : ∀ (i : Nat) u, ([] :: txRoll)[i]? = some u → w.cell? ⟨5, i, none⟩ = some (.string ⟨u.toArray⟩)
theorem Pnv.ext {w w' : World} (h : Pnv w) (hx : Ext w w') : Pnv w' :=
  ⟨h.two.ext hx, h.three.ext hx, fun i u hi => hx.cell_of (h.cts i u hi), fun i u hi => hx.cell_of (h.rds i u hi), fun i u hi => hx.cell_of (h.kds i u hi), fun i u hi => hx.cell_of (h.owd i u hi), fun i u hi => hx.cell_of (h.ovs i u hi), fun i u hi => hx.cell_of (h.rls i u hi)⟩
theorem tab_nth {o : List (List UInt8)} {m : Nat} (h : 1 ≤ m) (hl : m ≤ o.length) : ([] :: o)[m]? = some (nthL o (m : Int)) := by
  obtain ⟨i, rfl⟩ : ∃ i, m = i + 1 := ⟨m - 1, by omega⟩
  rw [List.getElem?_cons_succ]
  unfold nthL
  rw [show (((i + 1 : Nat) : Int) - 1).toNat = i by omega, List.getElem?_eq_getElem (by omega)]
  rfl
theorem lay2s (w : World) (x y : List UInt8) : ∃ W d, w.alloc (.cells #[.string ⟨x.toArray⟩, .string ⟨y.toArray⟩] 9) = W ∧ w.heap.size = d ∧ Ext w W ∧ L8.Strs W d [x, y] ∧ d < W.heap.size := by
  refine ⟨_, _, rfl, rfl, (Ext.refl w).alloc _ _, fun k u hk => ?_, by simp⟩
  have hr := heap_alloc_last w (.cells #[.string ⟨x.toArray⟩, .string ⟨y.toArray⟩] 9)
  refine (cell_of_row _ _ k _ _ _ hr).trans ?_
  match k, hk with
  | 0, hk => simp at hk; subst hk; rfl
  | 1, hk => simp at hk; subst hk; rfl
  | k + 2, hk => simp at hk
theorem Itoa_w (v : Int) (h0 : 0 ≤ v) (h1 : v ≤ 99999) (w : World) (he : Hid (L2.Env w)) :
    Calls Tryz.prog 97 #[.int .i64 v] w fun e w' => e = .returned (.string ⟨(decDigits v.toNat).toArray⟩) ∧ Ext w w' := by
  refine (Tryz.strconv_Itoa v (by omega) (by omega) w he.out.2).mono ?_
  rintro e w' ⟨rfl, k, os, rfl⟩
  exact ⟨by rw [show itoa v = decDigits v.toNat by unfold itoa; rw [if_neg (by omega)]], ((Ext.refl w).drewN k).grow os⟩
/-- What a clause's method tells: its lines stand behind what was written. -/
def Wrote (w0 w w' : World) (b : Nat) (p : Prd) (vr vl vh : Value) (l : List UInt8) (k : Nat) (e : Ending) : Prop :=
  e = .returned (.tuple #[]) ∧ Wrt w0 w' b p vr vl vh (l ++ rowsL (grpC p k)) ∧ Stp b w w'
theorem Wrote.one {w0 w w1 w' : World} {b : Nat} {p : Prd} {vr vl vh : Value} {l : List UInt8} {k : Nat} {ws : List (List UInt8)} {c : Cl} (hx : Ext w w1) (hg : grpC p k = [c]) (hc : c.ws = ws) (hW : Wrt w0 w' b p vr vl vh (l ++ lineL (spL ws))) (hS : Stp b w1 w') : Wrote w0 w w' b p vr vl vh l k (.returned (.tuple #[])) := by
  refine ⟨rfl, ?_, (Stp.of hx).trans hS⟩
  rw [hg, rowsL_one]
  unfold rowL
  rw [hc]
  exact hW
set_option maxRecDepth 100000 in
set_option maxHeartbeats 1000000 in
theorem count_w (w0 w : World) (b : Nat) (p : Prd) (vr vl vh : Value) (l : List UInt8) (hK : Okf p) (he : Hid (Pnv w0)) (h : Wrt w0 w b p vr vl vh l) (hl : l.length ≤ 50000) :
    Calls Tryz.prog 68 #[.pointer (some ⟨b, 0, none⟩)] w fun e w' => Wrote w0 w w' b p vr vl vh l 0 e := by
  obtain ⟨m, hm, m1, m2⟩ : ∃ m : Nat, p.cn = (m : Int) ∧ 1 ≤ m ∧ m ≤ 3 := ⟨p.cn.toNat, by have := hK.cn; omega, by have := hK.cn; omega, by have := hK.cn; omega⟩
  have ck := h.cell (k := 1) (by decide) (show _ = some (.int .i64 (m : Int)) from by rw [← hm]; rfl)
  obtain ⟨q, hq⟩ : ∃ q, nthL txCount p.cn = q := ⟨_, rfl⟩
  have hg := h.ext.cell_of (he.out.cts m q (by rw [← hq, hm]; exact tab_nth m1 m2))
  have hlen : (spL [[99, 111, 117, 110, 116], q]).length ≤ 76 := by rw [← hq]; exact (cls_count hK).len
  have mI : (m : Int) < 4 := by omega
  have mI0 : (0 : Int) ≤ (m : Int) := by omega
  obtain ⟨W3, d, hW3, hd, hx3, hS3, hd3⟩ := lay2s w [99, 111, 117, 110, 116] q
  replace hq := show Hid _ from hq
  replace hlen := show Hid _ from hlen
  replace hx3 := show Hid _ from hx3
  replace hS3 := show Hid _ from hS3
  replace hd3 := show Hid _ from hd3
  have hR := show Hid _ from h
  clear h hm m1
  go_enter Tryz.func68, Tryz.ntmps68
  go_wp2_with fail
  refine Calls.mono (line_w w0 W3 b p vr vl vh l [[99, 111, 117, 110, 116], q] d 2 2 (hR.out.on hx3.out) hS3.out hd3.out rfl (by decide) (by decide) (by omega) (by have := hlen.out; omega)) ?_
  rintro e w4 ⟨rfl, hW4, hS4⟩
  replace hW4 := show Hid _ from hW4
  replace hS4 := show Hid _ from hS4
  go_wp2
  go_end0
  exact Wrote.one hx3.out rfl (by rw [← hq.out]; rfl) hW4.out hS4.out
set_option maxRecDepth 100000 in
set_option maxHeartbeats 1000000 in
theorem round_w (w0 w : World) (b : Nat) (p : Prd) (vr vl vh : Value) (l : List UInt8) (hK : Okf p) (he : Hid (Pnv w0)) (h : Wrt w0 w b p vr vl vh l) (hl : l.length ≤ 50000) :
    Calls Tryz.prog 69 #[.pointer (some ⟨b, 0, none⟩)] w fun e w' => Wrote w0 w w' b p vr vl vh l 1 e := by
  obtain ⟨m, hm, m1, m2⟩ : ∃ m : Nat, p.rd = (m : Int) ∧ 1 ≤ m ∧ m ≤ 3 := ⟨p.rd.toNat, by have := hK.rd; omega, by have := hK.rd; omega, by have := hK.rd; omega⟩
  have ck := h.cell (k := 2) (by decide) (show _ = some (.int .i64 (m : Int)) from by rw [← hm]; rfl)
  obtain ⟨q, hq⟩ : ∃ q, nthL txRound p.rd = q := ⟨_, rfl⟩
  have hg := h.ext.cell_of (he.out.rds m q (by rw [← hq, hm]; exact tab_nth m1 m2))
  have hlen : (spL [[114, 111, 117, 110, 100], q]).length ≤ 76 := by rw [← hq]; exact (cls_round hK).len
  have mI : (m : Int) < 4 := by omega
  have mI0 : (0 : Int) ≤ (m : Int) := by omega
  obtain ⟨W3, d, hW3, hd, hx3, hS3, hd3⟩ := lay2s w [114, 111, 117, 110, 100] q
  replace hq := show Hid _ from hq
  replace hlen := show Hid _ from hlen
  replace hx3 := show Hid _ from hx3
  replace hS3 := show Hid _ from hS3
  replace hd3 := show Hid _ from hd3
  have hR := show Hid _ from h
  clear h hm m1
  go_enter Tryz.func69, Tryz.ntmps69
  go_wp2_with fail
  refine Calls.mono (line_w w0 W3 b p vr vl vh l [[114, 111, 117, 110, 100], q] d 2 2 (hR.out.on hx3.out) hS3.out hd3.out rfl (by decide) (by decide) (by omega) (by have := hlen.out; omega)) ?_
  rintro e w4 ⟨rfl, hW4, hS4⟩
  replace hW4 := show Hid _ from hW4
  replace hS4 := show Hid _ from hS4
  go_wp2
  go_end0
  exact Wrote.one hx3.out rfl (by rw [← hq.out]; rfl) hW4.out hS4.out
set_option maxRecDepth 100000 in
set_option maxHeartbeats 1000000 in
theorem kind_w (w0 w : World) (b : Nat) (p : Prd) (vr vl vh : Value) (l : List UInt8) (hK : Okf p) (he : Hid (Pnv w0)) (h : Wrt w0 w b p vr vl vh l) (hl : l.length ≤ 50000) :
    Calls Tryz.prog 70 #[.pointer (some ⟨b, 0, none⟩)] w fun e w' => Wrote w0 w w' b p vr vl vh l 2 e := by
  obtain ⟨m, hm, m1, m2⟩ : ∃ m : Nat, p.kd = (m : Int) ∧ 1 ≤ m ∧ m ≤ 3 := ⟨p.kd.toNat, by have := hK.kd; omega, by have := hK.kd; omega, by have := hK.kd; omega⟩
  have ck := h.cell (k := 3) (by decide) (show _ = some (.int .i64 (m : Int)) from by rw [← hm]; rfl)
  obtain ⟨q, hq⟩ : ∃ q, nthL txKind p.kd = q := ⟨_, rfl⟩
  have hg := h.ext.cell_of (he.out.kds m q (by rw [← hq, hm]; exact tab_nth m1 m2))
  have hlen : (spL [[107, 105, 110, 100], q]).length ≤ 76 := by rw [← hq]; exact (cls_kind hK).len
  have mI : (m : Int) < 4 := by omega
  have mI0 : (0 : Int) ≤ (m : Int) := by omega
  obtain ⟨W3, d, hW3, hd, hx3, hS3, hd3⟩ := lay2s w [107, 105, 110, 100] q
  replace hq := show Hid _ from hq
  replace hlen := show Hid _ from hlen
  replace hx3 := show Hid _ from hx3
  replace hS3 := show Hid _ from hS3
  replace hd3 := show Hid _ from hd3
  have hR := show Hid _ from h
  clear h hm m1
  go_enter Tryz.func70, Tryz.ntmps70
  go_wp2_with fail
  refine Calls.mono (line_w w0 W3 b p vr vl vh l [[107, 105, 110, 100], q] d 2 2 (hR.out.on hx3.out) hS3.out hd3.out rfl (by decide) (by decide) (by omega) (by have := hlen.out; omega)) ?_
  rintro e w4 ⟨rfl, hW4, hS4⟩
  replace hW4 := show Hid _ from hW4
  replace hS4 := show Hid _ from hS4
  go_wp2
  go_end0
  exact Wrote.one hx3.out rfl (by rw [← hq.out]; rfl) hW4.out hS4.out
set_option maxRecDepth 100000 in
set_option maxHeartbeats 1000000 in
theorem over_w (w0 w : World) (b : Nat) (p : Prd) (vr vl vh : Value) (l : List UInt8) (hK : Okf p) (he : Hid (Pnv w0)) (h : Wrt w0 w b p vr vl vh l) (hl : l.length ≤ 50000) :
    Calls Tryz.prog 78 #[.pointer (some ⟨b, 0, none⟩)] w fun e w' => Wrote w0 w w' b p vr vl vh l 10 e := by
  obtain ⟨m, hm, m1, m2⟩ : ∃ m : Nat, p.ov = (m : Int) ∧ 1 ≤ m ∧ m ≤ 3 := ⟨p.ov.toNat, by have := hK.ov; omega, by have := hK.ov; omega, by have := hK.ov; omega⟩
  have ck := h.cell (k := 14) (by decide) (show _ = some (.int .i64 (m : Int)) from by rw [← hm]; rfl)
  obtain ⟨q, hq⟩ : ∃ q, nthL txOver p.ov = q := ⟨_, rfl⟩
  have hg := h.ext.cell_of (he.out.ovs m q (by rw [← hq, hm]; exact tab_nth m1 m2))
  have hlen : (spL [[111, 118, 101, 114], q]).length ≤ 76 := by rw [← hq]; exact (cls_over hK).len
  have mI : (m : Int) < 4 := by omega
  have mI0 : (0 : Int) ≤ (m : Int) := by omega
  obtain ⟨W3, d, hW3, hd, hx3, hS3, hd3⟩ := lay2s w [111, 118, 101, 114] q
  replace hq := show Hid _ from hq
  replace hlen := show Hid _ from hlen
  replace hx3 := show Hid _ from hx3
  replace hS3 := show Hid _ from hS3
  replace hd3 := show Hid _ from hd3
  have hR := show Hid _ from h
  clear h hm m1
  go_enter Tryz.func78, Tryz.ntmps78
  go_wp2_with fail
  refine Calls.mono (line_w w0 W3 b p vr vl vh l [[111, 118, 101, 114], q] d 2 2 (hR.out.on hx3.out) hS3.out hd3.out rfl (by decide) (by decide) (by omega) (by have := hlen.out; omega)) ?_
  rintro e w4 ⟨rfl, hW4, hS4⟩
  replace hW4 := show Hid _ from hW4
  replace hS4 := show Hid _ from hS4
  go_wp2
  go_end0
  exact Wrote.one hx3.out rfl (by rw [← hq.out]; rfl) hW4.out hS4.out
set_option maxRecDepth 100000 in
set_option maxHeartbeats 1000000 in
theorem roll_w (w0 w : World) (b : Nat) (p : Prd) (vr vl vh : Value) (l : List UInt8) (hK : Okf p) (he : Hid (Pnv w0)) (h : Wrt w0 w b p vr vl vh l) (hl : l.length ≤ 50000) :
    Calls Tryz.prog 81 #[.pointer (some ⟨b, 0, none⟩)] w fun e w' => Wrote w0 w w' b p vr vl vh l 13 e := by
  obtain ⟨m, hm, m1, m2⟩ : ∃ m : Nat, p.rl = (m : Int) ∧ 1 ≤ m ∧ m ≤ 4 := ⟨p.rl.toNat, by have := hK.rl; omega, by have := hK.rl; omega, by have := hK.rl; omega⟩
  have ck := h.cell (k := 17) (by decide) (show _ = some (.int .i64 (m : Int)) from by rw [← hm]; rfl)
  obtain ⟨q, hq⟩ : ∃ q, nthL txRoll p.rl = q := ⟨_, rfl⟩
  have hg := h.ext.cell_of (he.out.rls m q (by rw [← hq, hm]; exact tab_nth m1 m2))
  have hlen : (spL [[114, 111, 108, 108], q]).length ≤ 76 := by rw [← hq]; exact (cls_roll hK).len
  have mI : (m : Int) < 5 := by omega
  have mI0 : (0 : Int) ≤ (m : Int) := by omega
  obtain ⟨W3, d, hW3, hd, hx3, hS3, hd3⟩ := lay2s w [114, 111, 108, 108] q
  replace hq := show Hid _ from hq
  replace hlen := show Hid _ from hlen
  replace hx3 := show Hid _ from hx3
  replace hS3 := show Hid _ from hS3
  replace hd3 := show Hid _ from hd3
  have hR := show Hid _ from h
  clear h hm m1
  go_enter Tryz.func81, Tryz.ntmps81
  go_wp2_with fail
  refine Calls.mono (line_w w0 W3 b p vr vl vh l [[114, 111, 108, 108], q] d 2 2 (hR.out.on hx3.out) hS3.out hd3.out rfl (by decide) (by decide) (by omega) (by have := hlen.out; omega)) ?_
  rintro e w4 ⟨rfl, hW4, hS4⟩
  replace hW4 := show Hid _ from hW4
  replace hS4 := show Hid _ from hS4
  go_wp2
  go_end0
  exact Wrote.one hx3.out rfl (by rw [← hq.out]; rfl) hW4.out hS4.out
set_option maxRecDepth 100000 in
set_option maxHeartbeats 1000000 in
theorem every_w (w0 w : World) (b : Nat) (p : Prd) (vr vl vh : Value) (l : List UInt8) (hK : Okf p) (he : Hid (Pnv w0)) (h : Wrt w0 w b p vr vl vh l) (hl : l.length ≤ 50000) :
    Calls Tryz.prog 71 #[.pointer (some ⟨b, 0, none⟩)] w fun e w' => Wrote w0 w w' b p vr vl vh l 3 e := by
  obtain ⟨v, hv⟩ : ∃ v, p.ev = v := ⟨_, rfl⟩
  have hb := hK.ev
  rw [hv] at hb
  have ck := h.cell (k := 4) (by decide) (show _ = some (.int .i64 v) from by rw [← hv]; rfl)
  obtain ⟨q, hq⟩ : ∃ q, decDigits v.toNat = q := ⟨_, rfl⟩
  have hlen : (spL [[101, 118, 101, 114, 121], q]).length ≤ 76 := by rw [← hq, ← hv]; exact (cls_every hK).len
  have he2 := show Hid _ from h.ext
  replace he2 : Hid (L2.Env w) := he.out.two.ext he2.out
  have hc := Itoa_w v (by omega) (by omega) w he2
  rw [hq] at hc
  replace hq := show Hid _ from hq
  replace hc := show Hid _ from hc
  replace hlen := show Hid _ from hlen
  have hR := show Hid _ from h
  clear h hb he2
  replace hv := show Hid _ from hv
  go_enter Tryz.func71, Tryz.ntmps71
  go_wp2_with fail
  refine Calls.mono hc.out ?_
  rintro e w1 ⟨rfl, hx1⟩
  replace hx1 := show Hid _ from hx1
  obtain ⟨W3, d, hW3, hd, hx3, hS3, hd3⟩ := lay2s w1 [101, 118, 101, 114, 121] q
  replace hx3 : Hid (Ext w W3) := hx1.out.trans hx3
  replace hS3 := show Hid _ from hS3
  replace hd3 := show Hid _ from hd3
  clear hc ck hx1
  go_wp2_with fail
  refine Calls.mono (line_w w0 W3 b p vr vl vh l [[101, 118, 101, 114, 121], q] d 2 2 (hR.out.on hx3.out) hS3.out hd3.out rfl (by decide) (by decide) (by omega) (by have := hlen.out; omega)) ?_
  rintro e w4 ⟨rfl, hW4, hS4⟩
  replace hW4 := show Hid _ from hW4
  replace hS4 := show Hid _ from hS4
  go_wp2
  go_end0
  exact Wrote.one hx3.out rfl (by rw [← hq.out, ← hv.out]; rfl) hW4.out hS4.out
set_option maxRecDepth 100000 in
set_option maxHeartbeats 1000000 in
theorem times_w (w0 w : World) (b : Nat) (p : Prd) (vr vl vh : Value) (l : List UInt8) (hK : Okf p) (he : Hid (Pnv w0)) (h : Wrt w0 w b p vr vl vh l) (hl : l.length ≤ 50000) :
    Calls Tryz.prog 72 #[.pointer (some ⟨b, 0, none⟩)] w fun e w' => Wrote w0 w w' b p vr vl vh l 4 e := by
  obtain ⟨v, hv⟩ : ∃ v, p.tm = v := ⟨_, rfl⟩
  have hb := hK.tm
  rw [hv] at hb
  have ck := h.cell (k := 5) (by decide) (show _ = some (.int .i64 v) from by rw [← hv]; rfl)
  obtain ⟨q, hq⟩ : ∃ q, decDigits v.toNat = q := ⟨_, rfl⟩
  have hlen : (spL [[116, 105, 109, 101, 115], q]).length ≤ 76 := by rw [← hq, ← hv]; exact (cls_times hK).len
  have he2 := show Hid _ from h.ext
  replace he2 : Hid (L2.Env w) := he.out.two.ext he2.out
  have hc := Itoa_w v (by omega) (by omega) w he2
  rw [hq] at hc
  replace hq := show Hid _ from hq
  replace hc := show Hid _ from hc
  replace hlen := show Hid _ from hlen
  have hR := show Hid _ from h
  clear h hb he2
  replace hv := show Hid _ from hv
  go_enter Tryz.func72, Tryz.ntmps72
  go_wp2_with fail
  refine Calls.mono hc.out ?_
  rintro e w1 ⟨rfl, hx1⟩
  replace hx1 := show Hid _ from hx1
  obtain ⟨W3, d, hW3, hd, hx3, hS3, hd3⟩ := lay2s w1 [116, 105, 109, 101, 115] q
  replace hx3 : Hid (Ext w W3) := hx1.out.trans hx3
  replace hS3 := show Hid _ from hS3
  replace hd3 := show Hid _ from hd3
  clear hc ck hx1
  go_wp2_with fail
  refine Calls.mono (line_w w0 W3 b p vr vl vh l [[116, 105, 109, 101, 115], q] d 2 2 (hR.out.on hx3.out) hS3.out hd3.out rfl (by decide) (by decide) (by omega) (by have := hlen.out; omega)) ?_
  rintro e w4 ⟨rfl, hW4, hS4⟩
  replace hW4 := show Hid _ from hW4
  replace hS4 := show Hid _ from hS4
  go_wp2
  go_end0
  exact Wrote.one hx3.out rfl (by rw [← hq.out, ← hv.out]; rfl) hW4.out hS4.out
set_option maxRecDepth 100000 in
set_option maxHeartbeats 1000000 in
theorem grace_w (w0 w : World) (b : Nat) (p : Prd) (vr vl vh : Value) (l : List UInt8) (hK : Okf p) (he : Hid (Pnv w0)) (h : Wrt w0 w b p vr vl vh l) (hl : l.length ≤ 50000) :
    Calls Tryz.prog 73 #[.pointer (some ⟨b, 0, none⟩)] w fun e w' => Wrote w0 w w' b p vr vl vh l 5 e := by
  obtain ⟨v, hv⟩ : ∃ v, p.gr = v := ⟨_, rfl⟩
  have hb := hK.gr
  rw [hv] at hb
  have ck := h.cell (k := 6) (by decide) (show _ = some (.int .i64 v) from by rw [← hv]; rfl)
  obtain ⟨q, hq⟩ : ∃ q, decDigits v.toNat = q := ⟨_, rfl⟩
  have hlen : (spL [[103, 114, 97, 99, 101], q]).length ≤ 76 := by rw [← hq, ← hv]; exact (cls_grace hK).len
  have he2 := show Hid _ from h.ext
  replace he2 : Hid (L2.Env w) := he.out.two.ext he2.out
  have hc := Itoa_w v (by omega) (by omega) w he2
  rw [hq] at hc
  replace hq := show Hid _ from hq
  replace hc := show Hid _ from hc
  replace hlen := show Hid _ from hlen
  have hR := show Hid _ from h
  clear h hb he2
  replace hv := show Hid _ from hv
  go_enter Tryz.func73, Tryz.ntmps73
  go_wp2_with fail
  refine Calls.mono hc.out ?_
  rintro e w1 ⟨rfl, hx1⟩
  replace hx1 := show Hid _ from hx1
  obtain ⟨W3, d, hW3, hd, hx3, hS3, hd3⟩ := lay2s w1 [103, 114, 97, 99, 101] q
  replace hx3 : Hid (Ext w W3) := hx1.out.trans hx3
  replace hS3 := show Hid _ from hS3
  replace hd3 := show Hid _ from hd3
  clear hc ck hx1
  go_wp2_with fail
  refine Calls.mono (line_w w0 W3 b p vr vl vh l [[103, 114, 97, 99, 101], q] d 2 2 (hR.out.on hx3.out) hS3.out hd3.out rfl (by decide) (by decide) (by omega) (by have := hlen.out; omega)) ?_
  rintro e w4 ⟨rfl, hW4, hS4⟩
  replace hW4 := show Hid _ from hW4
  replace hS4 := show Hid _ from hS4
  go_wp2
  go_end0
  exact Wrote.one hx3.out rfl (by rw [← hq.out, ← hv.out]; rfl) hW4.out hS4.out
set_option maxRecDepth 100000 in
set_option maxHeartbeats 1000000 in
theorem rate_w (w0 w : World) (b : Nat) (p : Prd) (vr vl vh : Value) (l : List UInt8) (hK : Okf p) (he : Hid (Pnv w0)) (h : Wrt w0 w b p vr vl vh l) (hl : l.length ≤ 50000) :
    Calls Tryz.prog 74 #[.pointer (some ⟨b, 0, none⟩)] w fun e w' => Wrote w0 w w' b p vr vl vh l 6 e := by
  obtain ⟨v, hv⟩ : ∃ v, p.rt = v := ⟨_, rfl⟩
  have hb := hK.rt
  rw [hv] at hb
  have ck := h.cell (k := 7) (by decide) (show _ = some (.int .i64 v) from by rw [← hv]; rfl)
  obtain ⟨q, hq⟩ : ∃ q, L2.rateL v = q := ⟨_, rfl⟩
  have hlen : (spL [[114, 97, 116, 101], q]).length ≤ 76 := by rw [← hq, ← hv]; exact (cls_rate hK).len
  have he2 := show Hid _ from h.ext
  replace he2 : Hid (L2.Env w) := he.out.two.ext he2.out
  have hc := L2.rate_c v w (i64_ofP (by omega) (by omega)) he2
  rw [hq] at hc
  replace hq := show Hid _ from hq
  replace hc := show Hid _ from hc
  replace hlen := show Hid _ from hlen
  have hR := show Hid _ from h
  clear h hb he2
  replace hv := show Hid _ from hv
  go_enter Tryz.func74, Tryz.ntmps74
  go_wp2_with fail
  refine Calls.mono hc.out ?_
  rintro e w1 ⟨rfl, hx1⟩
  replace hx1 := show Hid _ from hx1
  obtain ⟨W3, d, hW3, hd, hx3, hS3, hd3⟩ := lay2s w1 [114, 97, 116, 101] q
  replace hx3 : Hid (Ext w W3) := hx1.out.trans hx3
  replace hS3 := show Hid _ from hS3
  replace hd3 := show Hid _ from hd3
  clear hc ck hx1
  go_wp2_with fail
  refine Calls.mono (line_w w0 W3 b p vr vl vh l [[114, 97, 116, 101], q] d 2 2 (hR.out.on hx3.out) hS3.out hd3.out rfl (by decide) (by decide) (by omega) (by have := hlen.out; omega)) ?_
  rintro e w4 ⟨rfl, hW4, hS4⟩
  replace hW4 := show Hid _ from hW4
  replace hS4 := show Hid _ from hS4
  go_wp2
  go_end0
  exact Wrote.one hx3.out rfl (by rw [← hq.out, ← hv.out]; rfl) hW4.out hS4.out
set_option maxRecDepth 100000 in
set_option maxHeartbeats 1000000 in
theorem penalty_w (w0 w : World) (b : Nat) (p : Prd) (vr vl vh : Value) (l : List UInt8) (hK : Okf p) (he : Hid (Pnv w0)) (h : Wrt w0 w b p vr vl vh l) (hl : l.length ≤ 50000) :
    Calls Tryz.prog 75 #[.pointer (some ⟨b, 0, none⟩)] w fun e w' => Wrote w0 w w' b p vr vl vh l 7 e := by
  obtain ⟨v, hv⟩ : ∃ v, p.pn = v := ⟨_, rfl⟩
  have hb := hK.pn
  rw [hv] at hb
  have ck := h.cell (k := 9) (by decide) (show _ = some (.int .i64 v) from by rw [← hv]; rfl)
  obtain ⟨q, hq⟩ : ∃ q, L2.rateL v = q := ⟨_, rfl⟩
  have hlen : (spL [[112, 101, 110, 97, 108, 116, 121], q]).length ≤ 76 := by rw [← hq, ← hv]; exact (cls_penalty hK).len
  have he2 := show Hid _ from h.ext
  replace he2 : Hid (L2.Env w) := he.out.two.ext he2.out
  have hc := L2.rate_c v w (i64_ofP (by omega) (by omega)) he2
  rw [hq] at hc
  replace hq := show Hid _ from hq
  replace hc := show Hid _ from hc
  replace hlen := show Hid _ from hlen
  have hR := show Hid _ from h
  clear h hb he2
  replace hv := show Hid _ from hv
  go_enter Tryz.func75, Tryz.ntmps75
  go_wp2_with fail
  refine Calls.mono hc.out ?_
  rintro e w1 ⟨rfl, hx1⟩
  replace hx1 := show Hid _ from hx1
  obtain ⟨W3, d, hW3, hd, hx3, hS3, hd3⟩ := lay2s w1 [112, 101, 110, 97, 108, 116, 121] q
  replace hx3 : Hid (Ext w W3) := hx1.out.trans hx3
  replace hS3 := show Hid _ from hS3
  replace hd3 := show Hid _ from hd3
  clear hc ck hx1
  go_wp2_with fail
  refine Calls.mono (line_w w0 W3 b p vr vl vh l [[112, 101, 110, 97, 108, 116, 121], q] d 2 2 (hR.out.on hx3.out) hS3.out hd3.out rfl (by decide) (by decide) (by omega) (by have := hlen.out; omega)) ?_
  rintro e w4 ⟨rfl, hW4, hS4⟩
  replace hW4 := show Hid _ from hW4
  replace hS4 := show Hid _ from hS4
  go_wp2
  go_end0
  exact Wrote.one hx3.out rfl (by rw [← hq.out, ← hv.out]; rfl) hW4.out hS4.out
set_option maxRecDepth 100000 in
set_option maxHeartbeats 1000000 in
theorem cap_w (w0 w : World) (b : Nat) (p : Prd) (vr vl vh : Value) (l : List UInt8) (hK : Okf p) (he : Hid (Pnv w0)) (h : Wrt w0 w b p vr vl vh l) (hl : l.length ≤ 50000) :
    Calls Tryz.prog 80 #[.pointer (some ⟨b, 0, none⟩)] w fun e w' => Wrote w0 w w' b p vr vl vh l 12 e := by
  obtain ⟨v, hv⟩ : ∃ v, p.cp = v := ⟨_, rfl⟩
  have hb := hK.cp
  rw [hv] at hb
  have ck := h.cell (k := 16) (by decide) (show _ = some (.int .i64 v) from by rw [← hv]; rfl)
  obtain ⟨q, hq⟩ : ∃ q, L2.moneyL v = q := ⟨_, rfl⟩
  have hlen : (spL [[99, 97, 112], q]).length ≤ 76 := by rw [← hq, ← hv]; exact (cls_cap hK).len
  have he2 := show Hid _ from h.ext
  replace he2 : Hid (L2.Env w) := he.out.two.ext he2.out
  have hc := L2.money_c v w (i64_ofP (by omega) (by omega)) he2
  rw [hq] at hc
  replace hq := show Hid _ from hq
  replace hc := show Hid _ from hc
  replace hlen := show Hid _ from hlen
  have hR := show Hid _ from h
  clear h hb he2
  replace hv := show Hid _ from hv
  go_enter Tryz.func80, Tryz.ntmps80
  go_wp2_with fail
  refine Calls.mono hc.out ?_
  rintro e w1 ⟨rfl, hx1⟩
  replace hx1 := show Hid _ from hx1
  obtain ⟨W3, d, hW3, hd, hx3, hS3, hd3⟩ := lay2s w1 [99, 97, 112] q
  replace hx3 : Hid (Ext w W3) := hx1.out.trans hx3
  replace hS3 := show Hid _ from hS3
  replace hd3 := show Hid _ from hd3
  clear hc ck hx1
  go_wp2_with fail
  refine Calls.mono (line_w w0 W3 b p vr vl vh l [[99, 97, 112], q] d 2 2 (hR.out.on hx3.out) hS3.out hd3.out rfl (by decide) (by decide) (by omega) (by have := hlen.out; omega)) ?_
  rintro e w4 ⟨rfl, hW4, hS4⟩
  replace hW4 := show Hid _ from hW4
  replace hS4 := show Hid _ from hS4
  go_wp2
  go_end0
  exact Wrote.one hx3.out rfl (by rw [← hq.out, ← hv.out]; rfl) hW4.out hS4.out
end Go.Proofs.YtaafagggjnemgaaGreatDoor
namespace Go.Proofs.YtaafagggjnemgaaGreatDoor
open Go.RowKit Go.ChangeShapes Go.WideShapes Go.ChangeAt
theorem own : ownKnob Tryz.prog.godebug = none := by kernel_rfl
/-- The listed variables. -/
def laid : List (String × DataW Unit) := Rows.printerTellsRow.laid
/-- A table of texts, cell for cell. -/
theorem str_tab {P : Program} {W : World} {n : String} {T : List (List UInt8)} {g t e : Nat} (h : Lib.VarReads P W n (.agg (T.map fun l => .lit (.string l)))) (hn : P.globalNamed n = some g) (hy : (P.globals[g]?).map (·.type) = some t) (ht : P.underlying t = some (.array T.length e)) (he : P.underlying e = some .string) (hc : P.cellsOf e = 1) :
    ∀ (i : Nat) (l : List UInt8), T[i]? = some l → W.cell? ⟨g, i, none⟩ = some (.string ⟨l.toArray⟩) := by
  intro i l hl
  obtain ⟨g', t', cs, fuel, p, h1, h2, h3, h4⟩ := h
  obtain rfl := Option.some.inj (h1.symm.trans hn)
  obtain rfl := Option.some.inj (h2.symm.trans hy)
  have hi : i < T.length := (List.getElem?_eq_some_iff.1 hl).1
  obtain ⟨f', d, q, hd, htr⟩ := Lib.array_elem ht h4 i hi
  rw [hc, Nat.mul_one] at htr
  obtain ⟨s, hs, hx, _⟩ := DataW.trod_string he htr
  have hd2 : d = .lit (.string l) := by
    rw [List.getElem?_map, hl] at hd
    exact (Option.some.inj hd).symm
  have h5 : d = .lit (.string s.data.toList) := congrArg Prod.fst hx
  have h6 : s.data.toList = l := by
    rw [hd2] at h5
    injection h5 with h5
    injection h5 with h5
    exact h5.symm
  have h7 := World.var?_cell h1 h3 i
  rw [h7, ← Array.getElem?_toList]
  have h8 : cs.toList[i]? = some (.string s) := by
    have := congrArg (·[0]?) hs
    simpa [List.getElem?_take, List.getElem?_drop] using this
  rw [h8, ← h6]
theorem pnv_of (W : World) (hL : laidMetH Tryz.prog laid W) (hsh : W.ShapedOpen Tryz.prog) : Pnv W := by
  have h7 : ∃ m, W.cell? ⟨8, 0, none⟩ = some (.int .i64 m) := Go.Proofs.cell_of_shapedOpen_int (zero := #[.int .i64 0]) (t := 3) hsh (of_decide_eq_true (by kernel_rfl)) (by kernel_rfl) rfl (by kernel_rfl) (by kernel_rfl) Tryz.underlying3
  rw [MakeChecks.laidMetH_plain _ _ _ (by kernel_rfl)] at hL
  have hpow : Lib.TabIs Tryz.prog W "internal/strconv.uint64pow10" .u64 Lib.pow10Tab := by
    obtain ⟨g, t, cs, fuel, p, h1, h2, h3, h4⟩ : Lib.VarReads Tryz.prog W "internal/strconv.uint64pow10" (Lib.tabData .u64 Lib.pow10Tab) := Lib.laidMet.reads hL (.tail _ (.tail _ (.head _)))
    obtain rfl : g = 7 := Option.some.inj (h1.symm.trans (show Tryz.prog.globalNamed "internal/strconv.uint64pow10" = some 7 by kernel_rfl))
    obtain rfl : t = 162 := Option.some.inj (h2.symm.trans (show (Tryz.prog.globals[7]?).map (·.type) = some 162 by kernel_rfl))
    unfold Lib.TabIs
    rw [h3, ← Lib.cells_of_tab Tryz.underlying162 Tryz.underlying61 (by kernel_rfl) (by kernel_rfl) h4]
  refine ⟨⟨h7, hpow⟩, ⟨?_, hpow⟩, ?_, ?_, ?_, ?_, ?_, ?_⟩
  · obtain ⟨g, t, cs, fuel, p, h1, h2, h3, h4⟩ : Lib.VarReads Tryz.prog W "quittance/civil.monthDays" (Lib.tabData .i64 L3.mtab) := Lib.laidMet.reads hL (.tail _ (.tail _ (.tail _ (.tail _ (.head _)))))
    obtain rfl : g = 6 := Option.some.inj (h1.symm.trans (show Tryz.prog.globalNamed "quittance/civil.monthDays" = some 6 by kernel_rfl))
    obtain rfl : t = 121 := Option.some.inj (h2.symm.trans (show (Tryz.prog.globals[6]?).map (·.type) = some 121 by kernel_rfl))
    have hcs := Lib.cells_of_tab Tryz.underlying121 Tryz.underlying3 (by kernel_rfl) (by kernel_rfl) h4
    intro i v hv
    have := World.var?_cell h1 h3 i
    rw [this, ← Array.getElem?_toList, hcs]
    simp [hv]
  · exact str_tab (T := [] :: txCount) (n := "quittance/printer.counts") (t := 119) (e := 9) (Lib.laidMet.reads hL (.tail _ (.tail _ (.tail _ (.tail _ (.tail _ (.head _))))))) (by kernel_rfl) (by kernel_rfl) Tryz.underlying119 Tryz.underlying9 (by kernel_rfl)
  · exact str_tab (T := [] :: txRound) (n := "quittance/printer.rounds") (t := 119) (e := 9) (Lib.laidMet.reads hL (.tail _ (.tail _ (.tail _ (.tail _ (.tail _ (.tail _ (.head _)))))))) (by kernel_rfl) (by kernel_rfl) Tryz.underlying119 Tryz.underlying9 (by kernel_rfl)
  · exact str_tab (T := [] :: txKind) (n := "quittance/printer.kinds") (t := 119) (e := 9) (Lib.laidMet.reads hL (.tail _ (.tail _ (.tail _ (.tail _ (.tail _ (.tail _ (.tail _ (.head _))))))))) (by kernel_rfl) (by kernel_rfl) Tryz.underlying119 Tryz.underlying9 (by kernel_rfl)
  · exact str_tab (T := [] :: txOrder) (n := "quittance/printer.owed") (t := 120) (e := 9) (Lib.laidMet.reads hL (.tail _ (.tail _ (.tail _ (.tail _ (.tail _ (.tail _ (.tail _ (.tail _ (.head _)))))))))) (by kernel_rfl) (by kernel_rfl) Tryz.underlying120 Tryz.underlying9 (by kernel_rfl)
  · exact str_tab (T := [] :: txOver) (n := "quittance/printer.overs") (t := 119) (e := 9) (Lib.laidMet.reads hL (.tail _ (.tail _ (.tail _ (.tail _ (.tail _ (.tail _ (.tail _ (.tail _ (.tail _ (.head _))))))))))) (by kernel_rfl) (by kernel_rfl) Tryz.underlying119 Tryz.underlying9 (by kernel_rfl)
  · exact str_tab (T := [] :: txRoll) (n := "quittance/printer.rolls") (t := 120) (e := 9) (Lib.laidMet.reads hL (.tail _ (.tail _ (.tail _ (.tail _ (.tail _ (.tail _ (.tail _ (.tail _ (.tail _ (.tail _ (.head _)))))))))))) (by kernel_rfl) (by kernel_rfl) Tryz.underlying120 Tryz.underlying9 (by kernel_rfl)
/-- What is read of the listed variables, all of it. -/
structure Evn (W : World) : Prop where
  pnv : Pnv W
theorem evn_of (W : World) (hL : laidMetH Tryz.prog laid W) (hsh : W.ShapedOpen Tryz.prog) : Evn W := ⟨pnv_of W hL hsh⟩
theorem carried (w w' : World) (hh : w.heap = w'.heap) (h : laidMetH Tryz.prog laid w) : laidMetH Tryz.prog laid w' := h.of_heap hh
set_option maxRecDepth 100000 in
/-- The wrap: what the listed variables read as, and the world's shape, are handed to the walk. -/
theorem wrap {H : Type} {enc : TypeId × Value → H} {os : Os} {f : FuncId} {fn : Func} {s : ChangeSpec} {fresh handsOn again : Bool}
    (started : os.Started) (noInit : Tryz.checked.prog.inits.idxOf? f = none) (hfn : Tryz.checked.prog.funcs[f]? = some fn)
    (witness : ∃ (w : World) (tape : Tape) (i : Input), w.os = os ∧ (w.forCall tape i).Shaped Tryz.checked.prog ∧ i.vars = [] ∧ Input.okWide Tryz.checked.prog (w.forCall tape i) .any w.heap.size f i ∧
      ((s.pre enc Tryz.checked.prog fn [] false (w.forCall tape i).memory i.args ∧ laidMetH Tryz.checked.prog laid (w.forCall tape i).memory) ∧ sizedMet enc Tryz.checked.prog fn (OpenSpec.ofChange s) false (w.forCall tape i).memory i.args) ∧ ({} : Assume).holds Tryz.checked.prog (lone (Frame.enter Tryz.checked.prog f i.args .normal) [] (w.forCall tape i)))
    (contract : ∀ (W : World) (base : Nat) (args : Array Value) (ds gs : List (DataW H)) (before : List MemPlace),
      (∀ (j : Nat) t v, fn.params[j]? = some t → args[j]? = some v → Value.okWide Tryz.checked.prog W .any base t v) →
      DataW.Whole enc Tryz.checked.prog fn.params.toList s.vars false W args.toList ds gs before → Evn W →
      Calls Tryz.checked.prog f args W fun e W' => ∃ v, e = .returned v ∧ s.post enc Tryz.checked.prog fn false fresh handsOn again W args v W') :
    ReturnsInHanded {} Tryz.checked os f .any (fun w args => (s.pre enc Tryz.checked.prog fn [] false w args ∧ laidMetH Tryz.checked.prog laid w) ∧ sizedMet enc Tryz.checked.prog fn (OpenSpec.ofChange s) false w args) (s.post enc Tryz.checked.prog fn false fresh handsOn again) := by
  refine returnsInHanded_of_calls own started noInit witness ?_
  intro w tape i _ hsh _ hok hpre _
  obtain ⟨_, _, _, fn', hfn', _, _, _, _, hval⟩ := hok
  obtain rfl : fn' = fn := Option.some.inj (hfn'.symm.trans hfn)
  obtain ⟨⟨⟨ds, gs, before, hw, _⟩, hL⟩, _⟩ := hpre
  have hh : (w.forCall tape i).memory.heap = (w.forCall tape i).heap := rfl
  have hE : Evn (w.forCall tape i) := evn_of (w.forCall tape i) (carried (w.forCall tape i).memory (w.forCall tape i) hh hL) hsh
  refine (contract (w.forCall tape i) w.heap.size i.args ds gs before hval (DataW.Whole.of_heap (w' := w.forCall tape i) (by rfl) hw) hE).mono fun e W' ⟨v, he, hp⟩ => ?_
  subst he
  exact ChangeSpec.post_blind hp
end Go.Proofs.YtaafagggjnemgaaGreatDoor

namespace Go.Proofs.YtaafagggjnemgaaGreatDoor
open Go.RowKit Go.Lib
set_option linter.unusedVariables false
theorem pair_new (w : World) (T : TypeId) (x y : Int) : ∃ W1 B W2, w.alloc (.cells #[.int .i64 0, .int .i64 0] T) = W1 ∧ w.heap.size = B ∧ Ext w W1 ∧ W1.cell? ⟨B, 0, none⟩ = some (.int .i64 0) ∧ W1.cell? ⟨B, 1, none⟩ = some (.int .i64 0) ∧ W1.frozen? ⟨B, 0, none⟩ = false ∧ W1.frozen? ⟨B, 1, none⟩ = false ∧
    (W1.setCell ⟨B, 0, none⟩ (.int .i64 x)).setCell ⟨B, 1, none⟩ (.int .i64 y) = W2 ∧ Ext w W2 ∧ W2.heap[B]? = some (Obj.cells #[.int .i64 x, .int .i64 y] T (0, 0)) := by
  refine ⟨_, _, _, rfl, rfl, (Ext.refl w).alloc _ _, by simp [go_sem], by simp [go_sem], by simp [go_sem], by simp [go_sem], rfl, (((Ext.refl w).alloc _ _).setCell (Nat.le_refl _) _).setCell (Nat.le_refl _) _, ?_⟩
  have h := heap_alloc_last w (.cells #[.int .i64 0, .int .i64 0] T)
  unfold World.setCell
  simp only []
  rw [Array.getElem?_modify, if_pos rfl, Array.getElem?_modify, if_pos rfl, h]
  rfl
theorem lay3w (w : World) (x y z : List UInt8) : ∃ W d, w.alloc (.cells #[.string ⟨x.toArray⟩, .string ⟨y.toArray⟩, .string ⟨z.toArray⟩] 9) = W ∧ w.heap.size = d ∧ Ext w W ∧ L8.Strs W d [x, y, z] ∧ d < W.heap.size := by
  refine ⟨_, _, rfl, rfl, (Ext.refl w).alloc _ _, fun k u hk => ?_, by simp⟩
  have hr := heap_alloc_last w (.cells #[.string ⟨x.toArray⟩, .string ⟨y.toArray⟩, .string ⟨z.toArray⟩] 9)
  refine (cell_of_row _ _ k _ _ _ hr).trans ?_
  match k, hk with
  | 0, hk => simp at hk; subst hk; rfl
  | 1, hk => simp at hk; subst hk; rfl
  | 2, hk => simp at hk; subst hk; rfl
  | k + 3, hk => simp at hk
theorem lay5w (w : World) (x y z u v : List UInt8) : ∃ W d, w.alloc (.cells #[.string ⟨x.toArray⟩, .string ⟨y.toArray⟩, .string ⟨z.toArray⟩, .string ⟨u.toArray⟩, .string ⟨v.toArray⟩] 9) = W ∧ w.heap.size = d ∧ Ext w W ∧ L8.Strs W d [x, y, z, u, v] ∧ d < W.heap.size := by
  refine ⟨_, _, rfl, rfl, (Ext.refl w).alloc _ _, fun k q hk => ?_, by simp⟩
  have hr := heap_alloc_last w (.cells #[.string ⟨x.toArray⟩, .string ⟨y.toArray⟩, .string ⟨z.toArray⟩, .string ⟨u.toArray⟩, .string ⟨v.toArray⟩] 9)
  refine (cell_of_row _ _ k _ _ _ hr).trans ?_
  match k, hk with
  | 0, hk => simp at hk; subst hk; rfl
  | 1, hk => simp at hk; subst hk; rfl
  | 2, hk => simp at hk; subst hk; rfl
  | 3, hk => simp at hk; subst hk; rfl
  | 4, hk => simp at hk; subst hk; rfl
  | k + 5, hk => simp at hk
theorem rows_next {α : Type} {f : α → Cl} {L : List α} {k : Nat} {x : α} (h : L[k]? = some x) : rowsL ((L.take (k + 1)).map f) = rowsL ((L.take k).map f) ++ rowL (f x) := by
  rw [List.take_add_one, h, List.map_append, rowsL_app]
  simp [rowsL]
theorem rows_some {α : Type} {f : α → Cl} {L : List α} (hC : ∀ x ∈ L, Cls (f x)) (k : Nat) : (rowsL ((L.take k).map f)).length ≤ 80 * L.length := by
  have h := rows_len ((L.take k).map f) (fun c hc => by
    obtain ⟨x, hx, rfl⟩ := List.mem_map.1 hc
    exact hC x (List.mem_of_mem_take hx))
  rw [List.length_map, List.length_take] at h
  omega
theorem Text_w (n : Int) (w : World) (h1 : -25567 ≤ n) (h2 : n ≤ 84370) (he : Hid (L3.Env w)) :
    Calls Tryz.prog 100 #[.int .i64 n] w fun e w' => e = .returned (.tuple #[.string ⟨(dayL n).toArray⟩, .int .i64 0]) ∧ Ext w w' := by
  refine (L3.Text_ok n w h1 h2 he).mono ?_
  rintro e w' ⟨⟨y, m, d, rfl, hv, hn⟩, hx⟩
  obtain ⟨rfl, rfl, rfl⟩ := L3.ofDay_of hv hn
  exact ⟨rfl, hx⟩
set_option maxRecDepth 100000 in
set_option maxHeartbeats 2000000 in
theorem resets_w (w0 w : World) (b : Nat) (p : Prd) (vr vl vh : Value) (l : List UInt8) (hK : Okf p) (he : Hid (Pnv w0)) (h : Wrt w0 w b p vr vl vh l) (hl : l.length ≤ 50000) (sr : L8.Slp w0 vr p.rs) :
    Calls Tryz.prog 76 #[.pointer (some ⟨b, 0, none⟩)] w fun e w' => Wrote w0 w w' b p vr vl vh l 8 e := by
  obtain ⟨ar, cr, hvr⟩ := sr.len
  have ck := h.cell (k := 8) (by decide) (show _ = some (.slice ar p.rs.length cr) from by rw [← hvr]; rfl)
  have hrl := hK.rl_
  have hC : ∀ x ∈ p.rs, Cls (cReset x) := fun x hx => cls_reset (hK.rs x hx)
  have hrows := rows_some hC
  obtain ⟨n, hn⟩ : ∃ n, p.rs.length = n := ⟨_, rfl⟩
  rw [hn] at ck hrl hrows
  replace hn := show Hid _ from hn
  have h0 : Hid (Wrt w0 w b p vr vl vh (l ++ rowsL ((p.rs.take 0).map cReset))) := by show Wrt _ _ _ _ _ _ _ _; simpa [rowsL] using h
  replace sr := show Hid _ from sr
  replace hvr := show Hid _ from hvr
  replace hC := show Hid _ from hC
  replace hrows := show Hid _ from hrows
  have hb := show Hid _ from h.lt
  clear h
  go_enter Tryz.func76, Tryz.ntmps76
  go_wp2_with fail
  go_loopw [10] (fun i wr => ∃ k : Nat, k ≤ n ∧ i = .int .i64 k ∧ Hid (Wrt w0 wr b p vr vl vh (l ++ rowsL ((p.rs.take k).map cReset))) ∧ Hid (Stp b w wr)) (fun i _ => n - (RowKit.intOf i).toNat)
  case atStart => exact ⟨0, Nat.zero_le _, rfl, h0, Stp.refl b w⟩
  case round =>
  clear h0 ck
  obtain ⟨k, hk, rfl, hW, hSt⟩ := hrel
  by_cases hlt : k < n
  · have hki : (k : Int) < (n : Int) := by omega
    have hk0 : (0 : Int) ≤ (k : Int) := by omega
    obtain ⟨⟨x, y⟩, hxy⟩ : ∃ z, p.rs[k]? = some z := ⟨_, List.getElem?_eq_getElem (by have := hn.out; omega)⟩
    have hbd := hK.rs (x, y) (List.mem_of_getElem? hxy)
    simp only [] at hbd
    have hlen := (hC.out (x, y) (List.mem_of_getElem? hxy)).len
    have hcell : ∃ g off, ar = some ⟨g, off, none⟩ ∧ wr.cell? ⟨g, off + k * 2, none⟩ = some (.int .i64 x) ∧ wr.cell? ⟨g, off + k * 2 + 1, none⟩ = some (.int .i64 y) := by
      rcases sr.out with ⟨_, _, _, _, hz⟩ | ⟨g, off, c, hv, hc⟩
      · have := hn.out; rw [hz] at this; simp at this; omega
      · have hv2 := hv.symm.trans hvr.out
        simp only [Value.slice.injEq] at hv2
        exact ⟨g, off, hv2.1.symm, hW.out.ext.cell_of (hc k _ _ hxy).1, hW.out.ext.cell_of (hc k _ _ hxy).2⟩
    obtain ⟨g, off, rfl, cx, cy⟩ := hcell
    obtain ⟨W1, B, W2, hW1, hB, hx1, m0, m1, m2, m3, hW2, hx2, hrow⟩ := pair_new wr 31 x y
    have t0 := hx1.cell_of cx
    have t1 := hx1.cell_of cy
    have hBb : Hid (B ≠ b) := by have := hW.out.lt; show _ ≠ _; omega
    have hlk := hrows.out k
    have hq : Hid (rowsL ((p.rs.take (k + 1)).map cReset) = rowsL ((p.rs.take k).map cReset) ++ rowL (cReset (x, y))) := rows_next hxy
    have hW2' : Hid (Wrt w0 W2 b p vr vl vh (l ++ rowsL ((p.rs.take k).map cReset))) := hW.out.on hx2
    have hSt2 : Hid (Stp b w W2) := hSt.out.trans (Stp.of hx2)
    have hE2 := hW2'.out.ext
    replace hE2 : Hid (Ext w0 W2) := hE2
    have hR : Hid (rowL (cReset (x, y)) = lineL (spL [[114, 101, 115, 101, 116], decDigits x.toNat, L2.rateL y])) := rfl
    replace hlen := show Hid ((spL [[114, 101, 115, 101, 116], decDigits x.toNat, L2.rateL y]).length ≤ 76) from hlen
    obtain ⟨L, hL⟩ : ∃ L, l ++ rowsL ((p.rs.take k).map cReset) = L := ⟨_, rfl⟩
    have hLl : L.length ≤ 80000 := by rw [← hL, List.length_append]; omega
    rw [hL] at hW2'
    replace hL := show Hid _ from hL
    replace hrow := show Hid _ from hrow
    replace hx2 := show Hid _ from hx2
    have hI := fun (W : World) (hx : Ext w0 W) => Itoa_w x (by omega) (by omega) W (he.out.two.ext hx)
    have hM := fun (W : World) (hx : Ext w0 W) => L2.rate_c y W (i64_ofP (by omega) (by omega)) (he.out.two.ext hx)
    replace hI := show Hid _ from hI
    replace hM := show Hid _ from hM
    generalize decDigits x.toNat = D at *
    generalize L2.rateL y = R at *
    clear hbd hlk hxy hW hSt
    go_upto_region 3 with fail
    clear cx cy t0 t1 m0 m1 m2 m3 hW1 hx1
    refine L8.wp_region_thrown (fun W => Ext w0 W ∧ W.cell? ⟨B, 0, none⟩ = some (.int .i64 x) ∧ W.cell? ⟨B, 1, none⟩ = some (.int .i64 y)) (fun a => False) [] (fun t => none) (fun x W => False) (by kernel_rfl) (fun _ _ _ h1 _ h3 => h3.elim) (⟨hE2.out.drew, (cell_of_row W2 B 0 _ _ _ hrow.out).trans rfl, (cell_of_row W2 B 1 _ _ _ hrow.out).trans rfl⟩) (fun hSt => ?_)
    obtain ⟨wz, hwz⟩ : ∃ W, W = W2.drew := ⟨_, rfl⟩
    rw [← hwz] at hSt ⊢
    have hxz : Hid (Ext W2 wz) := by rw [hwz]; exact (Ext.refl W2).drew
    clear hwz hW2
    refine L8.takeT 0 (oi := { dst := some 14, op := Op.move (Operand.tmp 0), type := 50, pos := "clauses.go:64", after := #[], guard := none }) (v := .pointer (some ⟨b, 0, none⟩)) rfl (by kernel_rfl) (by kernel_rfl) (by kernel_rfl) (by decide) (Or.inl ⟨by rfl, fun W hW => ?_⟩) hSt ?_
    · go_simp
    simp only [Act.put, List.setIfInBounds_toArray, List.set_cons_zero, List.set_cons_succ]
    refine L8.takeT 1 (oi := { dst := some 15, op := Op.fieldAddr 31 (Operand.tmp 3) 0, type := 0, pos := "clauses.go:64", after := #[], guard := none }) (v := .pointer (some ⟨B, 0, none⟩)) rfl (by kernel_rfl) (by kernel_rfl) (by kernel_rfl) (by decide) (Or.inl ⟨by rfl, fun W hW => ?_⟩) hSt ?_
    · go_simp
    simp only [Act.put, List.setIfInBounds_toArray, List.set_cons_zero, List.set_cons_succ]
    refine L8.takeT 2 (oi := { dst := some 16, op := Op.load 3 (Operand.tmp 15), type := 3, pos := "clauses.go:64", after := #[{ on := 1, ground := Ground.data }], guard := none }) (v := .int .i64 x) rfl (by kernel_rfl) (by kernel_rfl) (by kernel_rfl) (by decide) (Or.inl ⟨by rfl, fun W hW => ?_⟩) hSt ?_
    · have hWc := (show _ ∧ _ from hW).2.1
      go_simp
    simp only [Act.put, List.setIfInBounds_toArray, List.set_cons_zero, List.set_cons_succ]
    refine L8.takeT 4 (oi := { dst := some 18, op := Op.fieldAddr 31 (Operand.tmp 3) 1, type := 0, pos := "clauses.go:64", after := #[], guard := none }) (v := .pointer (some ⟨B, 1, none⟩)) rfl (by kernel_rfl) (by kernel_rfl) (by kernel_rfl) (by decide) (Or.inl ⟨by rfl, fun W hW => ?_⟩) hSt ?_
    · go_simp
    simp only [Act.put, List.setIfInBounds_toArray, List.set_cons_zero, List.set_cons_succ]
    refine L8.takeT 5 (oi := { dst := some 19, op := Op.load 2 (Operand.tmp 18), type := 2, pos := "clauses.go:64", after := #[{ on := 4, ground := Ground.data }], guard := none }) (v := .int .i64 y) rfl (by kernel_rfl) (by kernel_rfl) (by kernel_rfl) (by decide) (Or.inl ⟨by rfl, fun W hW => ?_⟩) hSt ?_
    · have hWc := (show _ ∧ _ from hW).2.2
      go_simp
    simp only [Act.put, List.setIfInBounds_toArray, List.set_cons_zero, List.set_cons_succ]
    refine wpAnyH_ready (rs := [3]) (by kernel_rfl) (by simp) ?_
    refine AllReadyH.cons (o := { dst := some 17, op := Op.call { callee := Callee.value (Operand.func 97), args := #[Operand.tmp 16], argTypes := #[3] }, type := 9, pos := "clauses.go:64", after := #[{ on := 2, ground := Ground.data }], guard := none }) rfl (fun K hK => ?_) AllReadyH.nil
    go_simp
    refine Calls.mono (hI.out _ hSt.1) ?_
    rintro e wm0 ⟨rfl, hxm⟩
    try dsimp only
    have hE0 : (fun W => Ext w0 W ∧ W.cell? ⟨B, 0, none⟩ = some (.int .i64 x) ∧ W.cell? ⟨B, 1, none⟩ = some (.int .i64 y)) wm0 := ⟨hSt.1.trans hxm, hxm.cell_of hSt.2.1, hxm.cell_of hSt.2.2⟩
    replace hxz : Hid (Ext W2 wm0) := hxz.out.trans hxm
    clear hxm
    refine hK.out _ _ hE0 ?_
    clear hK K
    intro _
    try simp only [Act.put, List.setIfInBounds_toArray, List.set_cons_zero, List.set_cons_succ]
    refine wpAnyH_ready (rs := [6]) (by kernel_rfl) (by simp) ?_
    refine AllReadyH.cons (o := { dst := some 20, op := Op.call { callee := Callee.value (Operand.func 98), args := #[Operand.tmp 19], argTypes := #[2] }, type := 9, pos := "clauses.go:64", after := #[{ on := 5, ground := Ground.data }, { on := 3, ground := Ground.chain }], guard := none }) rfl (fun K hK => ?_) AllReadyH.nil
    go_simp
    refine Calls.mono (hM.out _ hE0.1) ?_
    rintro e wm1 ⟨rfl, hxm⟩
    try dsimp only
    have hE1 : (fun W => Ext w0 W ∧ W.cell? ⟨B, 0, none⟩ = some (.int .i64 x) ∧ W.cell? ⟨B, 1, none⟩ = some (.int .i64 y)) wm1 := ⟨hE0.1.trans hxm, hxm.cell_of hE0.2.1, hxm.cell_of hE0.2.2⟩
    replace hxz : Hid (Ext W2 wm1) := hxz.out.trans hxm
    clear hxm
    refine hK.out _ _ hE1 ?_
    clear hK K
    intro _
    try simp only [Act.put, List.setIfInBounds_toArray, List.set_cons_zero, List.set_cons_succ]
    refine wpAnyH_ready (rs := [7]) (by kernel_rfl) (by simp) ?_
    refine AllReadyH.cons (o := { dst := some 21, op := Op.buildSlice 54 3 #[(0, Operand.const (Value.string { data := #[114, 101, 115, 101, 116] })), (1, Operand.tmp 17), (2, Operand.tmp 20)], type := 54, pos := "clauses.go:64", after := #[{ on := 3, ground := Ground.data }, { on := 6, ground := Ground.data }], guard := none }) rfl (fun K hK => ?_) AllReadyH.nil
    obtain ⟨V, dd, hV, hdd, hxv, hSS, hdl⟩ := lay3w wm1 [114, 101, 115, 101, 116] D R
    go_simp
    have hE2 : (fun W => Ext w0 W ∧ W.cell? ⟨B, 0, none⟩ = some (.int .i64 x) ∧ W.cell? ⟨B, 1, none⟩ = some (.int .i64 y)) V := ⟨hE1.1.trans hxv, hxv.cell_of hE1.2.1, hxv.cell_of hE1.2.2⟩
    replace hxz : Hid (Ext W2 V) := hxz.out.trans hxv
    refine hK.out _ _ hE2 ?_
    clear hK K
    intro _
    try simp only [Act.put, List.setIfInBounds_toArray, List.set_cons_zero, List.set_cons_succ]
    refine wpAnyH_ready (rs := [8]) (by kernel_rfl) (by simp) ?_
    refine AllReadyH.cons (o := { dst := some 22, op := Op.call { callee := Callee.value (Operand.func 96), args := #[Operand.tmp 14, Operand.tmp 21], argTypes := #[50, 54] }, type := 0, pos := "clauses.go:64", after := #[{ on := 0, ground := Ground.data }, { on := 7, ground := Ground.data }, { on := 6, ground := Ground.chain }], guard := none }) rfl (fun K hK => ?_) AllReadyH.nil
    go_simp
    refine Calls.mono (line_w w0 V b p vr vl vh L [[114, 101, 115, 101, 116], D, R] dd 3 3 (hW2'.out.on hxz.out) hSS hdl rfl (by decide) (by decide) (by omega) (by have := hlen.out; omega)) ?_
    rintro e wn ⟨rfl, hWn, hSn⟩
    try dsimp only
    have hE3 : (fun W => Ext w0 W ∧ W.cell? ⟨B, 0, none⟩ = some (.int .i64 x) ∧ W.cell? ⟨B, 1, none⟩ = some (.int .i64 y)) wn := ⟨hWn.ext, (hSn.cell (by decide) hBb.out ((hxz.out.below.block B (Array.getElem?_eq_some_iff.1 hrow.out).1).trans hrow.out)).trans rfl, (hSn.cell (by decide) hBb.out ((hxz.out.below.block B (Array.getElem?_eq_some_iff.1 hrow.out).1).trans hrow.out)).trans rfl⟩
    refine hK.out _ _ hE3 ?_
    clear hK K
    intro _
    try simp only [Act.put, List.setIfInBounds_toArray, List.set_cons_zero, List.set_cons_succ]
    refine wpAnyH_done (by kernel_rfl) (L8.ThrowQ.normal ?_) _
    have hfin := show Hid _ from hWn
    have hst := show Hid _ from (hSt2.out.trans (Stp.of hxz.out)).trans hSn
    clear hE3 hWn hSn hSS hdl hE0 hE1 hE2 hxv hdd hV
    go_wp2
    go_roundw
    case rel => exact ⟨k + 1, by omega, by go_num, by show Wrt _ _ _ _ _ _ _ _; rw [hq.out, hR.out, ← List.append_assoc, hL.out]; exact hfin.out, hst⟩
    case measure => simp [RowKit.intOf]; omega
  · obtain rfl : k = n := by omega
    have hfin : Hid (Wrt w0 wr b p vr vl vh (l ++ rowsL (grpC p 8))) := by
      show Wrt _ _ _ _ _ _ _ _
      have := hW.out
      rwa [List.take_of_length_le (by rw [hn.out]; exact Nat.le_refl _)] at this
    clear hW
    go_wp2
    go_end0
    exact ⟨rfl, hfin.out, hSt.out⟩
set_option maxRecDepth 100000 in
set_option maxHeartbeats 2000000 in
theorem late_w (w0 w : World) (b : Nat) (p : Prd) (vr vl vh : Value) (l : List UInt8) (hK : Okf p) (he : Hid (Pnv w0)) (h : Wrt w0 w b p vr vl vh l) (hl : l.length ≤ 50000) (sr : L8.Slp w0 vl p.lt) :
    Calls Tryz.prog 79 #[.pointer (some ⟨b, 0, none⟩)] w fun e w' => Wrote w0 w w' b p vr vl vh l 11 e := by
  obtain ⟨ar, cr, hvr⟩ := sr.len
  have ck := h.cell (k := 15) (by decide) (show _ = some (.slice ar p.lt.length cr) from by rw [← hvr]; rfl)
  have hrl := hK.ll
  have hC : ∀ x ∈ p.lt, Cls (cLate x) := fun x hx => cls_late (hK.lt x hx)
  have hrows := rows_some hC
  obtain ⟨n, hn⟩ : ∃ n, p.lt.length = n := ⟨_, rfl⟩
  rw [hn] at ck hrl hrows
  replace hn := show Hid _ from hn
  have h0 : Hid (Wrt w0 w b p vr vl vh (l ++ rowsL ((p.lt.take 0).map cLate))) := by show Wrt _ _ _ _ _ _ _ _; simpa [rowsL] using h
  replace sr := show Hid _ from sr
  replace hvr := show Hid _ from hvr
  replace hC := show Hid _ from hC
  replace hrows := show Hid _ from hrows
  have hb := show Hid _ from h.lt
  clear h
  go_enter Tryz.func79, Tryz.ntmps79
  go_wp2_with fail
  go_loopw [10] (fun i wr => ∃ k : Nat, k ≤ n ∧ i = .int .i64 k ∧ Hid (Wrt w0 wr b p vr vl vh (l ++ rowsL ((p.lt.take k).map cLate))) ∧ Hid (Stp b w wr)) (fun i _ => n - (RowKit.intOf i).toNat)
  case atStart => exact ⟨0, Nat.zero_le _, rfl, h0, Stp.refl b w⟩
  case round =>
  clear h0 ck
  obtain ⟨k, hk, rfl, hW, hSt⟩ := hrel
  by_cases hlt : k < n
  · have hki : (k : Int) < (n : Int) := by omega
    have hk0 : (0 : Int) ≤ (k : Int) := by omega
    obtain ⟨⟨x, y⟩, hxy⟩ : ∃ z, p.lt[k]? = some z := ⟨_, List.getElem?_eq_getElem (by have := hn.out; omega)⟩
    have hbd := hK.lt (x, y) (List.mem_of_getElem? hxy)
    simp only [] at hbd
    have hlen := (hC.out (x, y) (List.mem_of_getElem? hxy)).len
    have hcell : ∃ g off, ar = some ⟨g, off, none⟩ ∧ wr.cell? ⟨g, off + k * 2, none⟩ = some (.int .i64 x) ∧ wr.cell? ⟨g, off + k * 2 + 1, none⟩ = some (.int .i64 y) := by
      rcases sr.out with ⟨_, _, _, _, hz⟩ | ⟨g, off, c, hv, hc⟩
      · have := hn.out; rw [hz] at this; simp at this; omega
      · have hv2 := hv.symm.trans hvr.out
        simp only [Value.slice.injEq] at hv2
        exact ⟨g, off, hv2.1.symm, hW.out.ext.cell_of (hc k _ _ hxy).1, hW.out.ext.cell_of (hc k _ _ hxy).2⟩
    obtain ⟨g, off, rfl, cx, cy⟩ := hcell
    obtain ⟨W1, B, W2, hW1, hB, hx1, m0, m1, m2, m3, hW2, hx2, hrow⟩ := pair_new wr 34 x y
    have t0 := hx1.cell_of cx
    have t1 := hx1.cell_of cy
    have hBb : Hid (B ≠ b) := by have := hW.out.lt; show _ ≠ _; omega
    have hlk := hrows.out k
    have hq : Hid (rowsL ((p.lt.take (k + 1)).map cLate) = rowsL ((p.lt.take k).map cLate) ++ rowL (cLate (x, y))) := rows_next hxy
    have hW2' : Hid (Wrt w0 W2 b p vr vl vh (l ++ rowsL ((p.lt.take k).map cLate))) := hW.out.on hx2
    have hSt2 : Hid (Stp b w W2) := hSt.out.trans (Stp.of hx2)
    have hE2 := hW2'.out.ext
    replace hE2 : Hid (Ext w0 W2) := hE2
    have hR : Hid (rowL (cLate (x, y)) = lineL (spL [[108, 97, 116, 101], decDigits x.toNat, L2.moneyL y])) := rfl
    replace hlen := show Hid ((spL [[108, 97, 116, 101], decDigits x.toNat, L2.moneyL y]).length ≤ 76) from hlen
    obtain ⟨L, hL⟩ : ∃ L, l ++ rowsL ((p.lt.take k).map cLate) = L := ⟨_, rfl⟩
    have hLl : L.length ≤ 80000 := by rw [← hL, List.length_append]; omega
    rw [hL] at hW2'
    replace hL := show Hid _ from hL
    replace hrow := show Hid _ from hrow
    replace hx2 := show Hid _ from hx2
    have hI := fun (W : World) (hx : Ext w0 W) => Itoa_w x (by omega) (by omega) W (he.out.two.ext hx)
    have hM := fun (W : World) (hx : Ext w0 W) => L2.money_c y W (i64_ofP (by omega) (by omega)) (he.out.two.ext hx)
    replace hI := show Hid _ from hI
    replace hM := show Hid _ from hM
    generalize decDigits x.toNat = D at *
    generalize L2.moneyL y = R at *
    clear hbd hlk hxy hW hSt
    go_upto_region 3 with fail
    clear cx cy t0 t1 m0 m1 m2 m3 hW1 hx1
    refine L8.wp_region_thrown (fun W => Ext w0 W ∧ W.cell? ⟨B, 0, none⟩ = some (.int .i64 x) ∧ W.cell? ⟨B, 1, none⟩ = some (.int .i64 y)) (fun a => False) [] (fun t => none) (fun x W => False) (by kernel_rfl) (fun _ _ _ h1 _ h3 => h3.elim) (⟨hE2.out.drew, (cell_of_row W2 B 0 _ _ _ hrow.out).trans rfl, (cell_of_row W2 B 1 _ _ _ hrow.out).trans rfl⟩) (fun hSt => ?_)
    obtain ⟨wz, hwz⟩ : ∃ W, W = W2.drew := ⟨_, rfl⟩
    rw [← hwz] at hSt ⊢
    have hxz : Hid (Ext W2 wz) := by rw [hwz]; exact (Ext.refl W2).drew
    clear hwz hW2
    refine L8.takeT 0 (oi := { dst := some 14, op := Op.move (Operand.tmp 0), type := 50, pos := "clauses.go:79", after := #[], guard := none }) (v := .pointer (some ⟨b, 0, none⟩)) rfl (by kernel_rfl) (by kernel_rfl) (by kernel_rfl) (by decide) (Or.inl ⟨by rfl, fun W hW => ?_⟩) hSt ?_
    · go_simp
    simp only [Act.put, List.setIfInBounds_toArray, List.set_cons_zero, List.set_cons_succ]
    refine L8.takeT 1 (oi := { dst := some 15, op := Op.fieldAddr 34 (Operand.tmp 3) 0, type := 0, pos := "clauses.go:79", after := #[], guard := none }) (v := .pointer (some ⟨B, 0, none⟩)) rfl (by kernel_rfl) (by kernel_rfl) (by kernel_rfl) (by decide) (Or.inl ⟨by rfl, fun W hW => ?_⟩) hSt ?_
    · go_simp
    simp only [Act.put, List.setIfInBounds_toArray, List.set_cons_zero, List.set_cons_succ]
    refine L8.takeT 2 (oi := { dst := some 16, op := Op.load 3 (Operand.tmp 15), type := 3, pos := "clauses.go:79", after := #[{ on := 1, ground := Ground.data }], guard := none }) (v := .int .i64 x) rfl (by kernel_rfl) (by kernel_rfl) (by kernel_rfl) (by decide) (Or.inl ⟨by rfl, fun W hW => ?_⟩) hSt ?_
    · have hWc := (show _ ∧ _ from hW).2.1
      go_simp
    simp only [Act.put, List.setIfInBounds_toArray, List.set_cons_zero, List.set_cons_succ]
    refine L8.takeT 4 (oi := { dst := some 18, op := Op.fieldAddr 34 (Operand.tmp 3) 1, type := 0, pos := "clauses.go:79", after := #[], guard := none }) (v := .pointer (some ⟨B, 1, none⟩)) rfl (by kernel_rfl) (by kernel_rfl) (by kernel_rfl) (by decide) (Or.inl ⟨by rfl, fun W hW => ?_⟩) hSt ?_
    · go_simp
    simp only [Act.put, List.setIfInBounds_toArray, List.set_cons_zero, List.set_cons_succ]
    refine L8.takeT 5 (oi := { dst := some 19, op := Op.load 2 (Operand.tmp 18), type := 2, pos := "clauses.go:79", after := #[{ on := 4, ground := Ground.data }], guard := none }) (v := .int .i64 y) rfl (by kernel_rfl) (by kernel_rfl) (by kernel_rfl) (by decide) (Or.inl ⟨by rfl, fun W hW => ?_⟩) hSt ?_
    · have hWc := (show _ ∧ _ from hW).2.2
      go_simp
    simp only [Act.put, List.setIfInBounds_toArray, List.set_cons_zero, List.set_cons_succ]
    refine wpAnyH_ready (rs := [3]) (by kernel_rfl) (by simp) ?_
    refine AllReadyH.cons (o := { dst := some 17, op := Op.call { callee := Callee.value (Operand.func 97), args := #[Operand.tmp 16], argTypes := #[3] }, type := 9, pos := "clauses.go:79", after := #[{ on := 2, ground := Ground.data }], guard := none }) rfl (fun K hK => ?_) AllReadyH.nil
    go_simp
    refine Calls.mono (hI.out _ hSt.1) ?_
    rintro e wm0 ⟨rfl, hxm⟩
    try dsimp only
    have hE0 : (fun W => Ext w0 W ∧ W.cell? ⟨B, 0, none⟩ = some (.int .i64 x) ∧ W.cell? ⟨B, 1, none⟩ = some (.int .i64 y)) wm0 := ⟨hSt.1.trans hxm, hxm.cell_of hSt.2.1, hxm.cell_of hSt.2.2⟩
    replace hxz : Hid (Ext W2 wm0) := hxz.out.trans hxm
    clear hxm
    refine hK.out _ _ hE0 ?_
    clear hK K
    intro _
    try simp only [Act.put, List.setIfInBounds_toArray, List.set_cons_zero, List.set_cons_succ]
    refine wpAnyH_ready (rs := [6]) (by kernel_rfl) (by simp) ?_
    refine AllReadyH.cons (o := { dst := some 20, op := Op.call { callee := Callee.value (Operand.func 99), args := #[Operand.tmp 19], argTypes := #[2] }, type := 9, pos := "clauses.go:79", after := #[{ on := 5, ground := Ground.data }, { on := 3, ground := Ground.chain }], guard := none }) rfl (fun K hK => ?_) AllReadyH.nil
    go_simp
    refine Calls.mono (hM.out _ hE0.1) ?_
    rintro e wm1 ⟨rfl, hxm⟩
    try dsimp only
    have hE1 : (fun W => Ext w0 W ∧ W.cell? ⟨B, 0, none⟩ = some (.int .i64 x) ∧ W.cell? ⟨B, 1, none⟩ = some (.int .i64 y)) wm1 := ⟨hE0.1.trans hxm, hxm.cell_of hE0.2.1, hxm.cell_of hE0.2.2⟩
    replace hxz : Hid (Ext W2 wm1) := hxz.out.trans hxm
    clear hxm
    refine hK.out _ _ hE1 ?_
    clear hK K
    intro _
    try simp only [Act.put, List.setIfInBounds_toArray, List.set_cons_zero, List.set_cons_succ]
    refine wpAnyH_ready (rs := [7]) (by kernel_rfl) (by simp) ?_
    refine AllReadyH.cons (o := { dst := some 21, op := Op.buildSlice 54 3 #[(0, Operand.const (Value.string { data := #[108, 97, 116, 101] })), (1, Operand.tmp 17), (2, Operand.tmp 20)], type := 54, pos := "clauses.go:79", after := #[{ on := 3, ground := Ground.data }, { on := 6, ground := Ground.data }], guard := none }) rfl (fun K hK => ?_) AllReadyH.nil
    obtain ⟨V, dd, hV, hdd, hxv, hSS, hdl⟩ := lay3w wm1 [108, 97, 116, 101] D R
    go_simp
    have hE2 : (fun W => Ext w0 W ∧ W.cell? ⟨B, 0, none⟩ = some (.int .i64 x) ∧ W.cell? ⟨B, 1, none⟩ = some (.int .i64 y)) V := ⟨hE1.1.trans hxv, hxv.cell_of hE1.2.1, hxv.cell_of hE1.2.2⟩
    replace hxz : Hid (Ext W2 V) := hxz.out.trans hxv
    refine hK.out _ _ hE2 ?_
    clear hK K
    intro _
    try simp only [Act.put, List.setIfInBounds_toArray, List.set_cons_zero, List.set_cons_succ]
    refine wpAnyH_ready (rs := [8]) (by kernel_rfl) (by simp) ?_
    refine AllReadyH.cons (o := { dst := some 22, op := Op.call { callee := Callee.value (Operand.func 96), args := #[Operand.tmp 14, Operand.tmp 21], argTypes := #[50, 54] }, type := 0, pos := "clauses.go:79", after := #[{ on := 0, ground := Ground.data }, { on := 7, ground := Ground.data }, { on := 6, ground := Ground.chain }], guard := none }) rfl (fun K hK => ?_) AllReadyH.nil
    go_simp
    refine Calls.mono (line_w w0 V b p vr vl vh L [[108, 97, 116, 101], D, R] dd 3 3 (hW2'.out.on hxz.out) hSS hdl rfl (by decide) (by decide) (by omega) (by have := hlen.out; omega)) ?_
    rintro e wn ⟨rfl, hWn, hSn⟩
    try dsimp only
    have hE3 : (fun W => Ext w0 W ∧ W.cell? ⟨B, 0, none⟩ = some (.int .i64 x) ∧ W.cell? ⟨B, 1, none⟩ = some (.int .i64 y)) wn := ⟨hWn.ext, (hSn.cell (by decide) hBb.out ((hxz.out.below.block B (Array.getElem?_eq_some_iff.1 hrow.out).1).trans hrow.out)).trans rfl, (hSn.cell (by decide) hBb.out ((hxz.out.below.block B (Array.getElem?_eq_some_iff.1 hrow.out).1).trans hrow.out)).trans rfl⟩
    refine hK.out _ _ hE3 ?_
    clear hK K
    intro _
    try simp only [Act.put, List.setIfInBounds_toArray, List.set_cons_zero, List.set_cons_succ]
    refine wpAnyH_done (by kernel_rfl) (L8.ThrowQ.normal ?_) _
    have hfin := show Hid _ from hWn
    have hst := show Hid _ from (hSt2.out.trans (Stp.of hxz.out)).trans hSn
    clear hE3 hWn hSn hSS hdl hE0 hE1 hE2 hxv hdd hV
    go_wp2
    go_roundw
    case rel => exact ⟨k + 1, by omega, by go_num, by show Wrt _ _ _ _ _ _ _ _; rw [hq.out, hR.out, ← List.append_assoc, hL.out]; exact hfin.out, hst⟩
    case measure => simp [RowKit.intOf]; omega
  · obtain rfl : k = n := by omega
    have hfin : Hid (Wrt w0 wr b p vr vl vh (l ++ rowsL (grpC p 11))) := by
      show Wrt _ _ _ _ _ _ _ _
      have := hW.out
      rwa [List.take_of_length_le (by rw [hn.out]; exact Nat.le_refl _)] at this
    clear hW
    go_wp2
    go_end0
    exact ⟨rfl, hfin.out, hSt.out⟩
set_option maxRecDepth 100000 in
set_option maxHeartbeats 2000000 in
theorem holidays_w (w0 w : World) (b : Nat) (p : Prd) (vr vl vh : Value) (l : List UInt8) (hK : Okf p) (he : Hid (Pnv w0)) (h : Wrt w0 w b p vr vl vh l) (hl : l.length ≤ 50000) (sh : L8.Slc w0 vh p.hd) :
    Calls Tryz.prog 82 #[.pointer (some ⟨b, 0, none⟩)] w fun e w' => Wrote w0 w w' b p vr vl vh l 14 e := by
  obtain ⟨ar, cr, hvr⟩ := sh.len
  have ck := h.cell (k := 18) (by decide) (show _ = some (.slice ar p.hd.length cr) from by rw [← hvr]; rfl)
  have hrl := hK.hl
  have hC : ∀ x ∈ p.hd, Cls (cHol x) := fun x hx => cls_hol (hK.hd x hx)
  have hrows := rows_some hC
  obtain ⟨n, hn⟩ : ∃ n, p.hd.length = n := ⟨_, rfl⟩
  rw [hn] at ck hrl hrows
  replace hn := show Hid _ from hn
  have h0 : Hid (Wrt w0 w b p vr vl vh (l ++ rowsL ((p.hd.take 0).map cHol))) := by show Wrt _ _ _ _ _ _ _ _; simpa [rowsL] using h
  replace sh := show Hid _ from sh
  replace hvr := show Hid _ from hvr
  replace hC := show Hid _ from hC
  replace hrows := show Hid _ from hrows
  clear h
  go_enter Tryz.func82, Tryz.ntmps82
  go_wp2_with fail
  go_loopw [12] (fun i wr => ∃ k : Nat, k ≤ n ∧ i = .int .i64 k ∧ Hid (Wrt w0 wr b p vr vl vh (l ++ rowsL ((p.hd.take k).map cHol))) ∧ Hid (Stp b w wr)) (fun i _ => n - (RowKit.intOf i).toNat)
  case atStart => exact ⟨0, Nat.zero_le _, rfl, h0, Stp.refl b w⟩
  case round =>
  clear h0 ck
  obtain ⟨k, hk, rfl, hW, hSt⟩ := hrel
  by_cases hlt : k < n
  · have hki : (k : Int) < (n : Int) := by omega
    have hk0 : (0 : Int) ≤ (k : Int) := by omega
    obtain ⟨x, hxy⟩ : ∃ z, p.hd[k]? = some z := ⟨_, List.getElem?_eq_getElem (by have := hn.out; omega)⟩
    have hbd := hK.hd x (List.mem_of_getElem? hxy)
    have hlen := (hC.out x (List.mem_of_getElem? hxy)).len
    have hcell : ∃ g off, ar = some ⟨g, off, none⟩ ∧ wr.cell? ⟨g, off + k, none⟩ = some (.int .i64 x) := by
      rcases sh.out with ⟨_, _, _, _, hz⟩ | ⟨g, off, c, hv, hc⟩
      · have := hn.out; rw [hz] at this; simp at this; omega
      · have hv2 := hv.symm.trans hvr.out
        simp only [Value.slice.injEq] at hv2
        exact ⟨g, off, hv2.1.symm, hW.out.ext.cell_of (hc k _ hxy)⟩
    obtain ⟨g, off, rfl, cx⟩ := hcell
    have hlk := hrows.out k
    have hq : Hid (rowsL ((p.hd.take (k + 1)).map cHol) = rowsL ((p.hd.take k).map cHol) ++ rowL (cHol x)) := rows_next hxy
    have hR : Hid (rowL (cHol x) = lineL (spL [[104, 111, 108, 105, 100, 97, 121], dayL x])) := rfl
    replace hlen := show Hid ((spL [[104, 111, 108, 105, 100, 97, 121], dayL x]).length ≤ 76) from hlen
    obtain ⟨L, hL⟩ : ∃ L, l ++ rowsL ((p.hd.take k).map cHol) = L := ⟨_, rfl⟩
    have hLl : L.length ≤ 80000 := by rw [← hL, List.length_append]; omega
    rw [hL] at hW
    replace hL := show Hid _ from hL
    have hX := show Hid _ from hW.out.ext
    have hT := show Hid _ from Text_w x wr (by omega) (by omega) (he.out.three.ext hX.out)
    generalize dayL x = D at *
    clear hbd hlk hxy hX
    go_wp2_with fail
    refine Calls.mono hT.out ?_
    rintro e w1 ⟨rfl, hx1⟩
    clear hT
    replace hW : Hid (Wrt w0 w1 b p vr vl vh L) := hW.out.on hx1
    replace hSt : Hid (Stp b w w1) := hSt.out.trans (Stp.of hx1)
    clear cx hx1
    obtain ⟨W3, d, hW3, hd, hx3, hS3, hd3⟩ := lay2s w1 [104, 111, 108, 105, 100, 97, 121] D
    replace hW : Hid (Wrt w0 W3 b p vr vl vh L) := hW.out.on hx3
    replace hSt : Hid (Stp b w W3) := hSt.out.trans (Stp.of hx3)
    replace hS3 := show Hid _ from hS3
    replace hd3 := show Hid _ from hd3
    clear hx3
    go_wp2_with fail
    refine Calls.mono (line_w w0 W3 b p vr vl vh L [[104, 111, 108, 105, 100, 97, 121], D] d 2 2 hW.out hS3.out hd3.out rfl (by decide) (by decide) (by omega) (by have := hlen.out; omega)) ?_
    rintro e w4 ⟨rfl, hW4, hS4⟩
    clear hW hS3 hd3
    replace hSt : Hid (Stp b w w4) := hSt.out.trans hS4
    replace hW4 := show Hid _ from hW4
    clear hS4
    go_wp2
    go_roundw
    case rel => exact ⟨k + 1, by omega, by go_num, by show Wrt _ _ _ _ _ _ _ _; rw [hq.out, hR.out, ← List.append_assoc, hL.out]; exact hW4.out, hSt⟩
    case measure => simp [RowKit.intOf]; omega
  · obtain rfl : k = n := by omega
    have hfin : Hid (Wrt w0 wr b p vr vl vh (l ++ rowsL (grpC p 14))) := by
      show Wrt _ _ _ _ _ _ _ _
      have := hW.out
      rwa [List.take_of_length_le (by rw [hn.out]; exact Nat.le_refl _)] at this
    clear hW
    go_wp2
    go_end0
    exact ⟨rfl, hfin.out, hSt.out⟩
end Go.Proofs.YtaafagggjnemgaaGreatDoor

namespace Go.Proofs.YtaafagggjnemgaaGreatDoor
open Go.RowKit Go.Lib
set_option linter.unusedVariables false
set_option maxRecDepth 100000 in
set_option maxHeartbeats 2000000 in
theorem order_w (w0 w : World) (b : Nat) (p : Prd) (vr vl vh : Value) (l : List UInt8) (hK : Okf p) (he : Hid (Pnv w0)) (h : Wrt w0 w b p vr vl vh l) (hl : l.length ≤ 50000) (h7 : L8.r7B p.o0 p.o1 p.o2 p.o3 = true) :
    Calls Tryz.prog 77 #[.pointer (some ⟨b, 0, none⟩)] w fun e w' => Wrote w0 w w' b p vr vl vh l 9 e := by
  have hlen := (cls_order hK h7).len
  obtain ⟨m0, hm0, a0, b0⟩ : ∃ m : Nat, p.o0 = (m : Int) ∧ 1 ≤ m ∧ m ≤ 4 := ⟨p.o0.toNat, by have := hK.o0; omega, by have := hK.o0; omega, by have := hK.o0; omega⟩
  have ck0 := h.cell (k := 10) (by decide) (show _ = some (.int .i64 (m0 : Int)) from by rw [← hm0]; rfl)
  obtain ⟨q0, hq0⟩ : ∃ q, nthL txOrder p.o0 = q := ⟨_, rfl⟩
  have ht0 : Hid (([] :: txOrder)[m0]? = some q0) := by show _ = _; rw [← hq0, hm0]; exact tab_nth a0 b0
  have mI0 : (m0 : Int) < 5 := by omega
  have mZ0 : (0 : Int) ≤ (m0 : Int) := by omega
  obtain ⟨m1, hm1, a1, b1⟩ : ∃ m : Nat, p.o1 = (m : Int) ∧ 1 ≤ m ∧ m ≤ 4 := ⟨p.o1.toNat, by have := hK.o1; omega, by have := hK.o1; omega, by have := hK.o1; omega⟩
  have ck1 := h.cell (k := 11) (by decide) (show _ = some (.int .i64 (m1 : Int)) from by rw [← hm1]; rfl)
  obtain ⟨q1, hq1⟩ : ∃ q, nthL txOrder p.o1 = q := ⟨_, rfl⟩
  have ht1 : Hid (([] :: txOrder)[m1]? = some q1) := by show _ = _; rw [← hq1, hm1]; exact tab_nth a1 b1
  have mI1 : (m1 : Int) < 5 := by omega
  have mZ1 : (0 : Int) ≤ (m1 : Int) := by omega
  obtain ⟨m2, hm2, a2, b2⟩ : ∃ m : Nat, p.o2 = (m : Int) ∧ 1 ≤ m ∧ m ≤ 4 := ⟨p.o2.toNat, by have := hK.o2; omega, by have := hK.o2; omega, by have := hK.o2; omega⟩
  have ck2 := h.cell (k := 12) (by decide) (show _ = some (.int .i64 (m2 : Int)) from by rw [← hm2]; rfl)
  obtain ⟨q2, hq2⟩ : ∃ q, nthL txOrder p.o2 = q := ⟨_, rfl⟩
  have ht2 : Hid (([] :: txOrder)[m2]? = some q2) := by show _ = _; rw [← hq2, hm2]; exact tab_nth a2 b2
  have mI2 : (m2 : Int) < 5 := by omega
  have mZ2 : (0 : Int) ≤ (m2 : Int) := by omega
  obtain ⟨m3, hm3, a3, b3⟩ : ∃ m : Nat, p.o3 = (m : Int) ∧ 1 ≤ m ∧ m ≤ 4 := ⟨p.o3.toNat, by have := hK.o3; omega, by have := hK.o3; omega, by have := hK.o3; omega⟩
  have ck3 := h.cell (k := 13) (by decide) (show _ = some (.int .i64 (m3 : Int)) from by rw [← hm3]; rfl)
  obtain ⟨q3, hq3⟩ : ∃ q, nthL txOrder p.o3 = q := ⟨_, rfl⟩
  have ht3 : Hid (([] :: txOrder)[m3]? = some q3) := by show _ = _; rw [← hq3, hm3]; exact tab_nth a3 b3
  have mI3 : (m3 : Int) < 5 := by omega
  have mZ3 : (0 : Int) ≤ (m3 : Int) := by omega
  replace hlen : Hid ((spL [[111, 114, 100, 101, 114], q0, q1, q2, q3]).length ≤ 76) := by
    show _ ≤ _
    have := hlen
    unfold cOrder at this
    rw [hq0, hq1, hq2, hq3] at this
    exact this
  have hG : Hid (grpC p 9 = [cOrder p] ∧ (cOrder p).ws = [[111, 114, 100, 101, 114], q0, q1, q2, q3]) := ⟨rfl, by unfold cOrder; rw [hq0, hq1, hq2, hq3]⟩
  obtain ⟨W2, B, hW2, hB, hx2, hrow⟩ : ∃ W B, w.alloc (.cells #[.int .i64 (m0 : Int), .int .i64 (m1 : Int), .int .i64 (m2 : Int), .int .i64 (m3 : Int)] 23) = W ∧ w.heap.size = B ∧ Ext w W ∧ W.heap[B]? = some (Obj.cells #[.int .i64 (m0 : Int), .int .i64 (m1 : Int), .int .i64 (m2 : Int), .int .i64 (m3 : Int)] 23 (0, 0)) := ⟨_, _, rfl, rfl, (Ext.refl w).alloc _ _, heap_alloc_last w _⟩
  have hBb : Hid (B ≠ b) := by have := h.lt; show _ ≠ _; omega
  have hW2' : Hid (Wrt w0 W2 b p vr vl vh l) := h.on hx2
  have hE2 : Hid (Ext w0 W2) := h.ext.trans hx2
  replace hrow := show Hid _ from hrow
  replace hx2 := show Hid _ from hx2
  clear h hm0 hm1 hm2 hm3 hq0 hq1 hq2 hq3 a0 a1 a2 a3 b0 b1 b2 b3
  go_enter Tryz.func77, Tryz.ntmps77
  go_upto_region 1 with fail
  clear ck0 ck1 ck2 ck3
  refine L8.wp_region_thrown (fun W => Ext w0 W ∧ W.cell? ⟨B, 0, none⟩ = some (.int .i64 (m0 : Int)) ∧ W.cell? ⟨B, 1, none⟩ = some (.int .i64 (m1 : Int)) ∧ W.cell? ⟨B, 2, none⟩ = some (.int .i64 (m2 : Int)) ∧ W.cell? ⟨B, 3, none⟩ = some (.int .i64 (m3 : Int))) (fun a => False) [] (fun t => none) (fun x W => False) (by kernel_rfl) (fun _ _ _ h1 _ h3 => h3.elim) (⟨hE2.out.drew, (cell_of_row W2 B 0 _ _ _ hrow.out).trans rfl, (cell_of_row W2 B 1 _ _ _ hrow.out).trans rfl, (cell_of_row W2 B 2 _ _ _ hrow.out).trans rfl, (cell_of_row W2 B 3 _ _ _ hrow.out).trans rfl⟩) (fun hSt => ?_)
  obtain ⟨wz, hwz⟩ : ∃ W, W = W2.drew := ⟨_, rfl⟩
  rw [← hwz] at hSt ⊢
  have hxz : Hid (Ext W2 wz) := by rw [hwz]; exact (Ext.refl W2).drew
  clear hwz hW2
  refine L8.takeT 0 (oi := { dst := some 8, op := Op.move (Operand.tmp 0), type := 50, pos := "clauses.go:70", after := #[], guard := none }) (v := .pointer (some ⟨b, 0, none⟩)) rfl (by kernel_rfl) (by kernel_rfl) (by kernel_rfl) (by decide) (Or.inl ⟨by rfl, fun W hW => ?_⟩) hSt ?_
  · go_simp
  simp only [Act.put, List.setIfInBounds_toArray, List.set_cons_zero, List.set_cons_succ]
  refine L8.takeT 1 (oi := { dst := some 9, op := Op.indexAddr 23 (Operand.tmp 2) (Operand.const (Value.int IntKind.i64 0)), type := 0, pos := "clauses.go:70", after := #[], guard := none }) (v := .pointer (some ⟨B, 0, none⟩)) rfl (by kernel_rfl) (by kernel_rfl) (by kernel_rfl) (by decide) (Or.inl ⟨by rfl, fun W hW => ?_⟩) hSt ?_
  · go_simp
  simp only [Act.put, List.setIfInBounds_toArray, List.set_cons_zero, List.set_cons_succ]
  refine L8.takeT 2 (oi := { dst := some 10, op := Op.load 3 (Operand.tmp 9), type := 3, pos := "clauses.go:70", after := #[{ on := 1, ground := Ground.data }], guard := none }) (v := .int .i64 (m0 : Int)) rfl (by kernel_rfl) (by kernel_rfl) (by kernel_rfl) (by decide) (Or.inl ⟨by rfl, fun W hW => ?_⟩) hSt ?_
  · have hWc := (show _ ∧ _ from hW).2.1
    go_simp
  simp only [Act.put, List.setIfInBounds_toArray, List.set_cons_zero, List.set_cons_succ]
  refine L8.takeT 3 (oi := { dst := some 11, op := Op.indexAddr 120 (Operand.global 3) (Operand.tmp 10), type := 0, pos := "clauses.go:70", after := #[{ on := 2, ground := Ground.data }], guard := none }) (v := .pointer (some ⟨3, m0, none⟩)) rfl (by kernel_rfl) (by kernel_rfl) (by kernel_rfl) (by decide) (Or.inl ⟨by rfl, fun W hW => ?_⟩) hSt ?_
  · go_simp
  simp only [Act.put, List.setIfInBounds_toArray, List.set_cons_zero, List.set_cons_succ]
  refine L8.takeT 4 (oi := { dst := some 12, op := Op.load 9 (Operand.tmp 11), type := 9, pos := "clauses.go:70", after := #[{ on := 3, ground := Ground.data }], guard := none }) (v := .string ⟨q0.toArray⟩) rfl (by kernel_rfl) (by kernel_rfl) (by kernel_rfl) (by decide) (Or.inl ⟨by rfl, fun W hW => ?_⟩) hSt ?_
  · have hWc := (he.out.ext (show _ ∧ _ from hW).1).owd m0 _ ht0.out
    go_simp
  simp only [Act.put, List.setIfInBounds_toArray, List.set_cons_zero, List.set_cons_succ]
  refine L8.takeT 5 (oi := { dst := some 13, op := Op.indexAddr 23 (Operand.tmp 2) (Operand.const (Value.int IntKind.i64 1)), type := 0, pos := "clauses.go:70", after := #[], guard := none }) (v := .pointer (some ⟨B, 1, none⟩)) rfl (by kernel_rfl) (by kernel_rfl) (by kernel_rfl) (by decide) (Or.inl ⟨by rfl, fun W hW => ?_⟩) hSt ?_
  · go_simp
  simp only [Act.put, List.setIfInBounds_toArray, List.set_cons_zero, List.set_cons_succ]
  refine L8.takeT 6 (oi := { dst := some 14, op := Op.load 3 (Operand.tmp 13), type := 3, pos := "clauses.go:70", after := #[{ on := 5, ground := Ground.data }], guard := none }) (v := .int .i64 (m1 : Int)) rfl (by kernel_rfl) (by kernel_rfl) (by kernel_rfl) (by decide) (Or.inl ⟨by rfl, fun W hW => ?_⟩) hSt ?_
  · have hWc := (show _ ∧ _ from hW).2.2.1
    go_simp
  simp only [Act.put, List.setIfInBounds_toArray, List.set_cons_zero, List.set_cons_succ]
  refine L8.takeT 7 (oi := { dst := some 15, op := Op.indexAddr 120 (Operand.global 3) (Operand.tmp 14), type := 0, pos := "clauses.go:70", after := #[{ on := 6, ground := Ground.data }], guard := none }) (v := .pointer (some ⟨3, m1, none⟩)) rfl (by kernel_rfl) (by kernel_rfl) (by kernel_rfl) (by decide) (Or.inl ⟨by rfl, fun W hW => ?_⟩) hSt ?_
  · go_simp
  simp only [Act.put, List.setIfInBounds_toArray, List.set_cons_zero, List.set_cons_succ]
  refine L8.takeT 8 (oi := { dst := some 16, op := Op.load 9 (Operand.tmp 15), type := 9, pos := "clauses.go:70", after := #[{ on := 7, ground := Ground.data }], guard := none }) (v := .string ⟨q1.toArray⟩) rfl (by kernel_rfl) (by kernel_rfl) (by kernel_rfl) (by decide) (Or.inl ⟨by rfl, fun W hW => ?_⟩) hSt ?_
  · have hWc := (he.out.ext (show _ ∧ _ from hW).1).owd m1 _ ht1.out
    go_simp
  simp only [Act.put, List.setIfInBounds_toArray, List.set_cons_zero, List.set_cons_succ]
  refine L8.takeT 9 (oi := { dst := some 17, op := Op.indexAddr 23 (Operand.tmp 2) (Operand.const (Value.int IntKind.i64 2)), type := 0, pos := "clauses.go:70", after := #[], guard := none }) (v := .pointer (some ⟨B, 2, none⟩)) rfl (by kernel_rfl) (by kernel_rfl) (by kernel_rfl) (by decide) (Or.inl ⟨by rfl, fun W hW => ?_⟩) hSt ?_
  · go_simp
  simp only [Act.put, List.setIfInBounds_toArray, List.set_cons_zero, List.set_cons_succ]
  refine L8.takeT 10 (oi := { dst := some 18, op := Op.load 3 (Operand.tmp 17), type := 3, pos := "clauses.go:70", after := #[{ on := 9, ground := Ground.data }], guard := none }) (v := .int .i64 (m2 : Int)) rfl (by kernel_rfl) (by kernel_rfl) (by kernel_rfl) (by decide) (Or.inl ⟨by rfl, fun W hW => ?_⟩) hSt ?_
  · have hWc := (show _ ∧ _ from hW).2.2.2.1
    go_simp
  simp only [Act.put, List.setIfInBounds_toArray, List.set_cons_zero, List.set_cons_succ]
  refine L8.takeT 11 (oi := { dst := some 19, op := Op.indexAddr 120 (Operand.global 3) (Operand.tmp 18), type := 0, pos := "clauses.go:70", after := #[{ on := 10, ground := Ground.data }], guard := none }) (v := .pointer (some ⟨3, m2, none⟩)) rfl (by kernel_rfl) (by kernel_rfl) (by kernel_rfl) (by decide) (Or.inl ⟨by rfl, fun W hW => ?_⟩) hSt ?_
  · go_simp
  simp only [Act.put, List.setIfInBounds_toArray, List.set_cons_zero, List.set_cons_succ]
  refine L8.takeT 12 (oi := { dst := some 20, op := Op.load 9 (Operand.tmp 19), type := 9, pos := "clauses.go:70", after := #[{ on := 11, ground := Ground.data }], guard := none }) (v := .string ⟨q2.toArray⟩) rfl (by kernel_rfl) (by kernel_rfl) (by kernel_rfl) (by decide) (Or.inl ⟨by rfl, fun W hW => ?_⟩) hSt ?_
  · have hWc := (he.out.ext (show _ ∧ _ from hW).1).owd m2 _ ht2.out
    go_simp
  simp only [Act.put, List.setIfInBounds_toArray, List.set_cons_zero, List.set_cons_succ]
  refine L8.takeT 13 (oi := { dst := some 21, op := Op.indexAddr 23 (Operand.tmp 2) (Operand.const (Value.int IntKind.i64 3)), type := 0, pos := "clauses.go:70", after := #[], guard := none }) (v := .pointer (some ⟨B, 3, none⟩)) rfl (by kernel_rfl) (by kernel_rfl) (by kernel_rfl) (by decide) (Or.inl ⟨by rfl, fun W hW => ?_⟩) hSt ?_
  · go_simp
  simp only [Act.put, List.setIfInBounds_toArray, List.set_cons_zero, List.set_cons_succ]
  refine L8.takeT 14 (oi := { dst := some 22, op := Op.load 3 (Operand.tmp 21), type := 3, pos := "clauses.go:70", after := #[{ on := 13, ground := Ground.data }], guard := none }) (v := .int .i64 (m3 : Int)) rfl (by kernel_rfl) (by kernel_rfl) (by kernel_rfl) (by decide) (Or.inl ⟨by rfl, fun W hW => ?_⟩) hSt ?_
  · have hWc := (show _ ∧ _ from hW).2.2.2.2
    go_simp
  simp only [Act.put, List.setIfInBounds_toArray, List.set_cons_zero, List.set_cons_succ]
  refine L8.takeT 15 (oi := { dst := some 23, op := Op.indexAddr 120 (Operand.global 3) (Operand.tmp 22), type := 0, pos := "clauses.go:70", after := #[{ on := 14, ground := Ground.data }], guard := none }) (v := .pointer (some ⟨3, m3, none⟩)) rfl (by kernel_rfl) (by kernel_rfl) (by kernel_rfl) (by decide) (Or.inl ⟨by rfl, fun W hW => ?_⟩) hSt ?_
  · go_simp
  simp only [Act.put, List.setIfInBounds_toArray, List.set_cons_zero, List.set_cons_succ]
  refine L8.takeT 16 (oi := { dst := some 24, op := Op.load 9 (Operand.tmp 23), type := 9, pos := "clauses.go:70", after := #[{ on := 15, ground := Ground.data }], guard := none }) (v := .string ⟨q3.toArray⟩) rfl (by kernel_rfl) (by kernel_rfl) (by kernel_rfl) (by decide) (Or.inl ⟨by rfl, fun W hW => ?_⟩) hSt ?_
  · have hWc := (he.out.ext (show _ ∧ _ from hW).1).owd m3 _ ht3.out
    go_simp
  simp only [Act.put, List.setIfInBounds_toArray, List.set_cons_zero, List.set_cons_succ]
  refine wpAnyH_ready (rs := [17]) (by kernel_rfl) (by simp) ?_
  refine AllReadyH.cons (o := { dst := some 25, op := Op.buildSlice 54 5 #[(0, Operand.const (Value.string { data := #[111, 114, 100, 101, 114] })), (1, Operand.tmp 12), (2, Operand.tmp 16), (3, Operand.tmp 20), (4, Operand.tmp 24)], type := 54, pos := "clauses.go:70", after := #[{ on := 4, ground := Ground.data }, { on := 8, ground := Ground.data }, { on := 12, ground := Ground.data }, { on := 16, ground := Ground.data }], guard := none }) rfl (fun K hK => ?_) AllReadyH.nil
  obtain ⟨V, dd, hV, hdd, hxv, hSS, hdl⟩ := lay5w wz [111, 114, 100, 101, 114] q0 q1 q2 q3
  go_simp
  have hE0 : (fun W => Ext w0 W ∧ W.cell? ⟨B, 0, none⟩ = some (.int .i64 (m0 : Int)) ∧ W.cell? ⟨B, 1, none⟩ = some (.int .i64 (m1 : Int)) ∧ W.cell? ⟨B, 2, none⟩ = some (.int .i64 (m2 : Int)) ∧ W.cell? ⟨B, 3, none⟩ = some (.int .i64 (m3 : Int))) V := ⟨hSt.1.trans hxv, hxv.cell_of hSt.2.1, hxv.cell_of hSt.2.2.1, hxv.cell_of hSt.2.2.2.1, hxv.cell_of hSt.2.2.2.2⟩
  replace hxz : Hid (Ext W2 V) := hxz.out.trans hxv
  refine hK.out _ _ hE0 ?_
  clear hK K
  intro _
  try simp only [Act.put, List.setIfInBounds_toArray, List.set_cons_zero, List.set_cons_succ]
  refine wpAnyH_ready (rs := [18]) (by kernel_rfl) (by simp) ?_
  refine AllReadyH.cons (o := { dst := some 26, op := Op.call { callee := Callee.value (Operand.func 96), args := #[Operand.tmp 8, Operand.tmp 25], argTypes := #[50, 54] }, type := 0, pos := "clauses.go:70", after := #[{ on := 0, ground := Ground.data }, { on := 17, ground := Ground.data }], guard := none }) rfl (fun K hK => ?_) AllReadyH.nil
  go_simp
  refine Calls.mono (line_w w0 V b p vr vl vh l [[111, 114, 100, 101, 114], q0, q1, q2, q3] dd 5 5 (hW2'.out.on hxz.out) hSS hdl rfl (by decide) (by decide) (by omega) (by have := hlen.out; omega)) ?_
  rintro e wn ⟨rfl, hWn, hSn⟩
  try dsimp only
  have hE1 : (fun W => Ext w0 W ∧ W.cell? ⟨B, 0, none⟩ = some (.int .i64 (m0 : Int)) ∧ W.cell? ⟨B, 1, none⟩ = some (.int .i64 (m1 : Int)) ∧ W.cell? ⟨B, 2, none⟩ = some (.int .i64 (m2 : Int)) ∧ W.cell? ⟨B, 3, none⟩ = some (.int .i64 (m3 : Int))) wn := ⟨hWn.ext, (hSn.cell (by decide) hBb.out ((hxz.out.below.block B (Array.getElem?_eq_some_iff.1 hrow.out).1).trans hrow.out)).trans rfl, (hSn.cell (by decide) hBb.out ((hxz.out.below.block B (Array.getElem?_eq_some_iff.1 hrow.out).1).trans hrow.out)).trans rfl, (hSn.cell (by decide) hBb.out ((hxz.out.below.block B (Array.getElem?_eq_some_iff.1 hrow.out).1).trans hrow.out)).trans rfl, (hSn.cell (by decide) hBb.out ((hxz.out.below.block B (Array.getElem?_eq_some_iff.1 hrow.out).1).trans hrow.out)).trans rfl⟩
  refine hK.out _ _ hE1 ?_
  clear hK K
  intro _
  try simp only [Act.put, List.setIfInBounds_toArray, List.set_cons_zero, List.set_cons_succ]
  refine wpAnyH_done (by kernel_rfl) (L8.ThrowQ.normal ?_) _
  have hfin := show Hid _ from hWn
  have hst := show Hid _ from (Stp.of hxz.out).trans hSn
  clear hE1 hWn hSn hSS hdl hE0 hxv hdd hV
  go_wp2
  go_end0
  exact Wrote.one hx2.out hG.out.1 hG.out.2 hfin.out hst.out
end Go.Proofs.YtaafagggjnemgaaGreatDoor

namespace Go.Proofs.YtaafagggjnemgaaGreatDoor
open Go.RowKit Go.Lib
set_option linter.unusedVariables false
open L8 (Slc Slp)
theorem SameI_y (g o b off c d : Nat) (l : List Int) (w : World) (hl : l.length ≤ 30000) (hg : ∀ (k : Nat) (x : Int), l[k]? = some x → w.cell? ⟨g, o + k, none⟩ = some (.int .i64 x)) (hc : ∀ (k : Nat) (x : Int), l[k]? = some x → w.cell? ⟨b, off + k, none⟩ = some (.int .i64 x)) :
    Calls Tryz.prog 53 #[.slice (some ⟨g, o, none⟩) l.length d, .slice (some ⟨b, off, none⟩) l.length c, .func (.func 54) #[] #[]] w fun e w' => e = .returned (.bool true) ∧ Ext w w' := by
  replace hg := show Hid _ from hg
  replace hc := show Hid _ from hc
  obtain ⟨T, hT⟩ : ∃ n, l.length = n := ⟨_, rfl⟩
  rw [hT] at hl ⊢
  replace hT := show Hid _ from hT
  go_enter Tryz.func53, Tryz.ntmps53
  go_wp2_with fail
  go_loopw [7] (fun i wr => ∃ k : Nat, k ≤ T ∧ i = .int .i64 k ∧ Hid (Ext w wr)) (fun i _ => T - (RowKit.intOf i).toNat)
  case atStart => exact ⟨0, Nat.zero_le _, rfl, Ext.refl w⟩
  case round =>
    obtain ⟨k, hk, rfl, hx⟩ := hrel
    by_cases hlt : k < T
    · obtain ⟨V, hV⟩ : ∃ V, l[k]? = some V := ⟨_, List.getElem?_eq_getElem (by have := hT.out; omega)⟩
      have k0 := hx.out.cell_of (hg.out k V hV)
      have k1 := hx.out.cell_of (hc.out k V hV)
      clear hV
      have hlt' : (k : Int) < (T : Int) := by omega
      have j0 := Late.cell k0; have j1 := Late.cell k1
      have hNe1 : Nonempty (Late wr) := ⟨⟨_, Ext.refl _⟩⟩
      go_wp2_with fail
      refine wp_region_late (by kernel_rfl) (by kernel_rfl) ?_
      repeat (go_big_quiet_step ((first
        | (go_at_call 54; exact late_same (L8.oneI_t _ _)))))
      refine wpQuiet_nil ?_
      intro W1 hw'
      replace hx : Hid (Ext w W1) := hx.out.trans (late_ext hw')
      clear hw' j0 j1 k0 k1
      go_wp2
      go_roundw
      case rel => exact ⟨k + 1, by omega, by go_num, hx⟩
      case measure => simp [RowKit.intOf]; omega
    · obtain rfl : k = T := by omega
      go_wp2
      go_ret
      exact ⟨rfl, hx.out⟩
theorem PlainI_y (u v : Value) (l : List Int) (w : World) (hl : l.length ≤ 30000) (hu : Slc w u l) (hv : Slc w v l) :
    Calls Tryz.prog 30 #[u, v] w fun e w' => e = .returned (.bool true) ∧ Ext w w' := by
  have hS : Hid (Calls Tryz.prog 53 #[u, v, .func (.func 54) #[] #[]] w fun e w' => e = .returned (.bool true) ∧ Ext w w') := by
    rcases hu with ⟨a, c, rfl, _, rfl⟩ | ⟨b, off, c, rfl, hc⟩
    · rcases hv with ⟨a2, c2, rfl, _, _⟩ | ⟨b2, off2, c2, rfl, _⟩
      · exact (L8.SameI_nil _ _ _ _ w).mono fun e w' h => ⟨h.1, by rw [h.2]; exact Ext.refl _⟩
      · exact (L8.SameI_nil _ _ _ _ w).mono fun e w' h => ⟨h.1, by rw [h.2]; exact Ext.refl _⟩
    · rcases hv with ⟨a2, c2, rfl, _, rfl⟩ | ⟨b2, off2, c2, rfl, hc2⟩
      · exact (L8.SameI_nil _ _ _ _ w).mono fun e w' h => ⟨h.1, by rw [h.2]; exact Ext.refl _⟩
      · exact SameI_y b off b2 off2 c2 c l w hl hc hc2
  obtain ⟨a1, c1, rfl⟩ := hu.len
  obtain ⟨a2, c2, rfl⟩ := hv.len
  clear hu hv hl
  generalize l.length = n at *
  go_enter Tryz.func30, Tryz.ntmps30
  go_wp2_with fail
  refine Calls.mono hS.out ?_
  rintro e w1 ⟨rfl, hx⟩
  replace hx := show Hid _ from hx
  go_wp2
  go_ret
  exact ⟨rfl, hx.out⟩
theorem SameR_y (g o b off c d : Nat) (l : List (Int × Int)) (w : World) (hl : l.length ≤ 30000) (hg : ∀ (k : Nat) (x y : Int), l[k]? = some (x, y) → w.cell? ⟨g, o + k * 2, none⟩ = some (.int .i64 x) ∧ w.cell? ⟨g, o + k * 2 + 1, none⟩ = some (.int .i64 y)) (hc : ∀ (k : Nat) (x y : Int), l[k]? = some (x, y) → w.cell? ⟨b, off + k * 2, none⟩ = some (.int .i64 x) ∧ w.cell? ⟨b, off + k * 2 + 1, none⟩ = some (.int .i64 y)) :
    Calls Tryz.prog 49 #[.slice (some ⟨g, o, none⟩) l.length d, .slice (some ⟨b, off, none⟩) l.length c, .func (.func 50) #[] #[]] w fun e w' => e = .returned (.bool true) ∧ Ext w w' := by
  replace hg := show Hid _ from hg
  replace hc := show Hid _ from hc
  obtain ⟨T, hT⟩ : ∃ n, l.length = n := ⟨_, rfl⟩
  rw [hT] at hl ⊢
  replace hT := show Hid _ from hT
  go_enter Tryz.func49, Tryz.ntmps49
  go_wp2_with fail
  go_loopw [7] (fun i wr => ∃ k : Nat, k ≤ T ∧ i = .int .i64 k ∧ Hid (Ext w wr)) (fun i _ => T - (RowKit.intOf i).toNat)
  case atStart => exact ⟨0, Nat.zero_le _, rfl, Ext.refl w⟩
  case round =>
    obtain ⟨k, hk, rfl, hx⟩ := hrel
    by_cases hlt : k < T
    · obtain ⟨⟨x, y⟩, hV⟩ : ∃ V, l[k]? = some V := ⟨_, List.getElem?_eq_getElem (by have := hT.out; omega)⟩
      have k0 := hx.out.cell_of (hg.out k x y hV).1
      have k1 := hx.out.cell_of (hg.out k x y hV).2
      have k2 := hx.out.cell_of (hc.out k x y hV).1
      have k3 := hx.out.cell_of (hc.out k x y hV).2
      clear hV
      have hlt' : (k : Int) < (T : Int) := by omega
      have j0 := Late.cell k0; have j1 := Late.cell k1; have j2 := Late.cell k2; have j3 := Late.cell k3
      have hNe1 : Nonempty (Late wr) := ⟨⟨_, Ext.refl _⟩⟩
      go_wp2_with fail
      refine wp_region_late (by kernel_rfl) (by kernel_rfl) ?_
      repeat (go_big_quiet_step ((first
        | (go_at_call 50; exact late_of (L8.oneR_t _ _ _)))))
      refine wpQuiet_nil ?_
      intro W1 hw'
      replace hx : Hid (Ext w W1) := hx.out.trans (late_ext hw')
      clear hw' j0 j1 j2 j3 k0 k1 k2 k3
      go_wp2
      go_roundw
      case rel => exact ⟨k + 1, by omega, by go_num, hx⟩
      case measure => simp [RowKit.intOf]; omega
    · obtain rfl : k = T := by omega
      go_wp2
      go_ret
      exact ⟨rfl, hx.out⟩
theorem PlainR_y (u v : Value) (l : List (Int × Int)) (w : World) (hl : l.length ≤ 30000) (hu : Slp w u l) (hv : Slp w v l) :
    Calls Tryz.prog 28 #[u, v] w fun e w' => e = .returned (.bool true) ∧ Ext w w' := by
  have hS : Hid (Calls Tryz.prog 49 #[u, v, .func (.func 50) #[] #[]] w fun e w' => e = .returned (.bool true) ∧ Ext w w') := by
    rcases hu with ⟨a, c, rfl, _, rfl⟩ | ⟨b, off, c, rfl, hc⟩
    · rcases hv with ⟨a2, c2, rfl, _, _⟩ | ⟨b2, off2, c2, rfl, _⟩
      · exact (L8.SameR_nil _ _ _ _ w).mono fun e w' h => ⟨h.1, by rw [h.2]; exact Ext.refl _⟩
      · exact (L8.SameR_nil _ _ _ _ w).mono fun e w' h => ⟨h.1, by rw [h.2]; exact Ext.refl _⟩
    · rcases hv with ⟨a2, c2, rfl, _, rfl⟩ | ⟨b2, off2, c2, rfl, hc2⟩
      · exact (L8.SameR_nil _ _ _ _ w).mono fun e w' h => ⟨h.1, by rw [h.2]; exact Ext.refl _⟩
      · exact SameR_y b off b2 off2 c2 c l w hl hc hc2
  obtain ⟨a1, c1, rfl⟩ := hu.len
  obtain ⟨a2, c2, rfl⟩ := hv.len
  clear hu hv hl
  generalize l.length = n at *
  go_enter Tryz.func28, Tryz.ntmps28
  go_wp2_with fail
  refine Calls.mono hS.out ?_
  rintro e w1 ⟨rfl, hx⟩
  replace hx := show Hid _ from hx
  go_wp2
  go_ret
  exact ⟨rfl, hx.out⟩
theorem SameT_y (g o b off c d : Nat) (l : List (Int × Int)) (w : World) (hl : l.length ≤ 30000) (hg : ∀ (k : Nat) (x y : Int), l[k]? = some (x, y) → w.cell? ⟨g, o + k * 2, none⟩ = some (.int .i64 x) ∧ w.cell? ⟨g, o + k * 2 + 1, none⟩ = some (.int .i64 y)) (hc : ∀ (k : Nat) (x y : Int), l[k]? = some (x, y) → w.cell? ⟨b, off + k * 2, none⟩ = some (.int .i64 x) ∧ w.cell? ⟨b, off + k * 2 + 1, none⟩ = some (.int .i64 y)) :
    Calls Tryz.prog 51 #[.slice (some ⟨g, o, none⟩) l.length d, .slice (some ⟨b, off, none⟩) l.length c, .func (.func 52) #[] #[]] w fun e w' => e = .returned (.bool true) ∧ Ext w w' := by
  replace hg := show Hid _ from hg
  replace hc := show Hid _ from hc
  obtain ⟨T, hT⟩ : ∃ n, l.length = n := ⟨_, rfl⟩
  rw [hT] at hl ⊢
  replace hT := show Hid _ from hT
  go_enter Tryz.func51, Tryz.ntmps51
  go_wp2_with fail
  go_loopw [7] (fun i wr => ∃ k : Nat, k ≤ T ∧ i = .int .i64 k ∧ Hid (Ext w wr)) (fun i _ => T - (RowKit.intOf i).toNat)
  case atStart => exact ⟨0, Nat.zero_le _, rfl, Ext.refl w⟩
  case round =>
    obtain ⟨k, hk, rfl, hx⟩ := hrel
    by_cases hlt : k < T
    · obtain ⟨⟨x, y⟩, hV⟩ : ∃ V, l[k]? = some V := ⟨_, List.getElem?_eq_getElem (by have := hT.out; omega)⟩
      have k0 := hx.out.cell_of (hg.out k x y hV).1
      have k1 := hx.out.cell_of (hg.out k x y hV).2
      have k2 := hx.out.cell_of (hc.out k x y hV).1
      have k3 := hx.out.cell_of (hc.out k x y hV).2
      clear hV
      have hlt' : (k : Int) < (T : Int) := by omega
      have j0 := Late.cell k0; have j1 := Late.cell k1; have j2 := Late.cell k2; have j3 := Late.cell k3
      have hNe1 : Nonempty (Late wr) := ⟨⟨_, Ext.refl _⟩⟩
      go_wp2_with fail
      refine wp_region_late (by kernel_rfl) (by kernel_rfl) ?_
      repeat (go_big_quiet_step ((first
        | (go_at_call 52; exact late_of (L8.oneT_t _ _ _)))))
      refine wpQuiet_nil ?_
      intro W1 hw'
      replace hx : Hid (Ext w W1) := hx.out.trans (late_ext hw')
      clear hw' j0 j1 j2 j3 k0 k1 k2 k3
      go_wp2
      go_roundw
      case rel => exact ⟨k + 1, by omega, by go_num, hx⟩
      case measure => simp [RowKit.intOf]; omega
    · obtain rfl : k = T := by omega
      go_wp2
      go_ret
      exact ⟨rfl, hx.out⟩
theorem PlainT_y (u v : Value) (l : List (Int × Int)) (w : World) (hl : l.length ≤ 30000) (hu : Slp w u l) (hv : Slp w v l) :
    Calls Tryz.prog 29 #[u, v] w fun e w' => e = .returned (.bool true) ∧ Ext w w' := by
  have hS : Hid (Calls Tryz.prog 51 #[u, v, .func (.func 52) #[] #[]] w fun e w' => e = .returned (.bool true) ∧ Ext w w') := by
    rcases hu with ⟨a, c, rfl, _, rfl⟩ | ⟨b, off, c, rfl, hc⟩
    · rcases hv with ⟨a2, c2, rfl, _, _⟩ | ⟨b2, off2, c2, rfl, _⟩
      · exact (L8.SameT_nil _ _ _ _ w).mono fun e w' h => ⟨h.1, by rw [h.2]; exact Ext.refl _⟩
      · exact (L8.SameT_nil _ _ _ _ w).mono fun e w' h => ⟨h.1, by rw [h.2]; exact Ext.refl _⟩
    · rcases hv with ⟨a2, c2, rfl, _, rfl⟩ | ⟨b2, off2, c2, rfl, hc2⟩
      · exact (L8.SameT_nil _ _ _ _ w).mono fun e w' h => ⟨h.1, by rw [h.2]; exact Ext.refl _⟩
      · exact SameT_y b off b2 off2 c2 c l w hl hc hc2
  obtain ⟨a1, c1, rfl⟩ := hu.len
  obtain ⟨a2, c2, rfl⟩ := hv.len
  clear hu hv hl
  generalize l.length = n at *
  go_enter Tryz.func29, Tryz.ntmps29
  go_wp2_with fail
  refine Calls.mono hS.out ?_
  rintro e w1 ⟨rfl, hx⟩
  replace hx := show Hid _ from hx
  go_wp2
  go_ret
  exact ⟨rfl, hx.out⟩
end Go.Proofs.YtaafagggjnemgaaGreatDoor

namespace Go.Proofs.YtaafagggjnemgaaGreatDoor
open Go.RowKit Go.Lib
set_option linter.unusedVariables false
end Go.Proofs.YtaafagggjnemgaaGreatDoor
