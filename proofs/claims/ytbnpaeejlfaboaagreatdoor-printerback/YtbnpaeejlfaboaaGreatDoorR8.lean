/- Contracts that the proof of this law leans on: no statement of the seat is proved here. -/
import Derived.Deep.DeepCutAuto
import Derived.Deep.SlicePairs
import Derived.Lib.AtoiTie
import Derived.Test.YtbnpaeejlfaboaaGreatDoorR2
import Derived.Test.YtbnpaeejlfaboaaGreatDoorR3
import Derived.Test.YtbnpaeejlfaboaaGreatDoorR4
import Derived.Test.YtbnpaeejlfaboaaGreatDoorR5
import Derived.Test.YtbnpaeejlfaboaaGreatDoorR6
import Derived.Test.YtbnpaeejlfaboaaGreatDoorR7

namespace Go.Proofs.YtbnpaeejlfaboaaGreatDoor
open Go.RowKit Go.Lib
set_option linter.unusedVariables false
export L7 (Tok)
/-- A product. -/
structure Prd where
  nm : List UInt8
  cn : Int
  rd : Int
  kd : Int
  ev : Int
  tm : Int
  gr : Int
  rt : Int
  rs : List (Int × Int)
  pn : Int
  o0 : Int
  o1 : Int
  o2 : Int
  o3 : Int
  ov : Int
  lt : List (Int × Int)
  cp : Int
  rl : Int
  hd : List Int
/-- What counts without a clause. -/
def prd0 : Prd := ⟨[], 0, 0, 0, 0, 0, 0, 0, [], 0, 0, 0, 0, 0, 1, [], 0, 1, []⟩
/-- May it be? -/
def okP (p : Prd) : Bool := L8.nmb p.nm && (L8.r1B p.cn p.rd p.kd p.ov p.rl && (L8.r2B p.ev && (L8.lz p.tm 1 600 && (L8.r4B p.kd p.tm p.gr && (L8.r5B p.rt p.pn && (L8.r6B p.tm p.rs && (L8.r7B p.o0 p.o1 p.o2 p.o3 && (L8.r8B p.lt && (L8.r9B p.lt.length p.cp && (L8.r10B p.rl p.hd))))))))))
/-- An answer, or an error and its place. -/
inductive Res (α : Type) where
  | ok (a : α) : Res α
  | no (e p : Nat) : Res α
def Res.bind {α β : Type} (r : Res α) (f : α → Res β) : Res β :=
  match r with
  | .ok a => f a
  | .no e p => .no e p
/-- A number of at most nine digits, without noughts ahead. -/
def numO (l : List UInt8) : Option Int := if L2.okWhole l 9 then some (L2.valL l : Nat) else none
def rateO (l : List UInt8) : Option Int := if (L2.takeR l).2 = 0 then some (L2.takeR l).1 else none
def monO (l : List UInt8) : Option Int := if (L2.takeM l).2 = 0 then some (L2.takeM l).1 else none
def dayO (l : List UInt8) : Option Int := if L3.takE l = 0 then some (L3.takA l) else none
abbrev Opts := List (List UInt8 × Int)
/-- What a word stands for, out of some. -/
def pick : Opts → List UInt8 → Option Int
  | [], _ => none
  | (s, v) :: o, l => if s = l then some v else pick o l
/-- The next sign, taken for something; else it may not stand there. -/
def tk (f : List UInt8 → Option Int) : List Tok → Res (Int × List Tok)
  | [] => .no 0 0
  | t :: ts => match f t.text with
    | some v => .ok (v, ts)
    | none => .no 7 t.at_
/-- A sign that is nothing but this. -/
def xp (l : List UInt8) : List Tok → Res (List Tok)
  | [] => .no 0 0
  | t :: ts => if t.text = l then .ok ts else .no 7 t.at_
def oCount : Opts := [([116, 104, 105, 114, 116, 121], 1), ([102, 105, 120, 101, 100], 2), ([97, 99, 116, 117, 97, 108], 3)]
def oRound : Opts := [([104, 97, 108, 102, 45, 117, 112], 1), ([100, 111, 119, 110], 3)]
def oKind : Opts := [([97, 110, 110, 117, 105, 116, 121], 1), ([101, 113, 117, 97, 108], 2), ([98, 117, 108, 108, 101, 116], 3)]
def oOrder : Opts := [([102, 101, 101, 115], 1), ([112, 101, 110, 97, 108, 116, 121], 2), ([105, 110, 116, 101, 114, 101, 115, 116], 3), ([112, 114, 105, 110, 99, 105, 112, 97, 108], 4)]
def oOver : Opts := [([104, 111, 108, 100], 1), ([112, 114, 101, 112, 97, 121], 2), ([114, 101, 102, 117, 110, 100], 3)]
def oRoll : Opts := [([115, 116, 97, 121], 1), ([110, 101, 120, 116], 2), ([119, 105, 116, 104, 105, 110], 3), ([112, 114, 101, 118, 105, 111, 117, 115], 4)]
/-- What is left to choose from behind v. -/
def lessO (o : Opts) (v : Int) : Opts := o.filter fun x => !decide (x.2 = v)
/-- Four words, each once. -/
def orderR (p : Prd) (ts : List Tok) : Res (Prd × List Tok) :=
  (tk (pick oOrder) ts).bind fun a =>
  (tk (pick (lessO oOrder a.1)) a.2).bind fun b =>
  (tk (pick (lessO (lessO oOrder a.1) b.1)) b.2).bind fun c =>
  (tk (pick (lessO (lessO (lessO oOrder a.1) b.1) c.1)) c.2).bind fun d =>
  .ok ({ p with o0 := a.1, o1 := b.1, o2 := c.1, o3 := d.1 }, d.2)
/-- The words of the clauses. -/
def words : List (List UInt8) := [[99, 111, 117, 110, 116], [114, 111, 117, 110, 100], [107, 105, 110, 100], [101, 118, 101, 114, 121], [116, 105, 109, 101, 115], [103, 114, 97, 99, 101], [114, 97, 116, 101], [112, 101, 110, 97, 108, 116, 121], [114, 101, 115, 101, 116], [108, 97, 116, 101], [99, 97, 112], [104, 111, 108, 105, 100, 97, 121], [111, 114, 100, 101, 114], [111, 118, 101, 114], [114, 111, 108, 108]]
/-- Which clause a word begins: 15 if none. -/
def which (l : List UInt8) : Nat := words.findIdx (fun s => decide (s = l))
/-- May it stand often? Must it be there? -/
def often (i : Nat) : Bool := i == 8 || (i == 9 || i == 11)
def must (i : Nat) : Bool := i == 0 || (i == 1 || (i == 2 || (i == 3 || (i == 4 || (i == 6 || i == 12)))))
/-- What stands behind a clause's word. -/
def clauseR (i : Nat) (p : Prd) (ts : List Tok) : Res (Prd × List Tok) :=
  match i with
  | 0 => (tk (pick oCount) ts).bind fun a => .ok ({ p with cn := a.1 }, a.2)
  | 1 => (tk (pick oRound) ts).bind fun a => .ok ({ p with rd := a.1 }, a.2)
  | 2 => (tk (pick oKind) ts).bind fun a => .ok ({ p with kd := a.1 }, a.2)
  | 3 => (tk numO ts).bind fun a => .ok ({ p with ev := a.1 }, a.2)
  | 4 => (tk numO ts).bind fun a => .ok ({ p with tm := a.1 }, a.2)
  | 5 => (tk numO ts).bind fun a => .ok ({ p with gr := a.1 }, a.2)
  | 6 => (tk rateO ts).bind fun a => .ok ({ p with rt := a.1 }, a.2)
  | 7 => (tk rateO ts).bind fun a => .ok ({ p with pn := a.1 }, a.2)
  | 8 => (tk numO ts).bind fun a => (tk rateO a.2).bind fun b => .ok ({ p with rs := p.rs ++ [(a.1, b.1)] }, b.2)
  | 9 => (tk numO ts).bind fun a => (tk monO a.2).bind fun b => .ok ({ p with lt := p.lt ++ [(a.1, b.1)] }, b.2)
  | 10 => (tk monO ts).bind fun a => .ok ({ p with cp := a.1 }, a.2)
  | 11 => (tk dayO ts).bind fun a => .ok ({ p with hd := p.hd ++ [a.1] }, a.2)
  | 12 => orderR p ts
  | 13 => (tk (pick oOver) ts).bind fun a => .ok ({ p with ov := a.1 }, a.2)
  | 14 => (tk (pick oRoll) ts).bind fun a => .ok ({ p with rl := a.1 }, a.2)
  | _ => .no 0 0
/-- Signs that are left, the product so far, and which clauses there were. -/
structure St where
  ts : List Tok
  p : Prd
  had : Nat → Bool
def seen (h : Nat → Bool) (i : Nat) : Nat → Bool := fun j => h j || j == i
/-- A clause whose word is t, up to its end. -/
def clR (t : Tok) (s : St) : Res St :=
  if which t.text < 15 then
    if often (which t.text) || !s.had (which t.text) then
      (clauseR (which t.text) s.p s.ts).bind fun a => (xp [59] a.2).bind fun ts => .ok ⟨ts, a.1, seen s.had (which t.text)⟩
    else .no 7 t.at_
  else .no 7 t.at_
/-- What stands in a group so deep, up to its end. -/
def grp : Nat → Nat → St → Res St
  | 0, _, _ => .no 0 0
  | f + 1, d, s =>
    match s.ts with
    | [] => .no 0 0
    | t :: ts =>
      if t.text = [125] then .ok { s with ts := ts }
      else if t.text = [123] then
        if d < 32 then (grp f (d + 1) { s with ts := ts }).bind fun u => grp f d u
        else .no 8 t.at_
      else (clR t { s with ts := ts }).bind fun u => grp f d u
def had0 : Nat → Bool := fun _ => false
def whole (h : Nat → Bool) : Bool := h 0 && (h 1 && (h 2 && (h 3 && (h 4 && (h 6 && h 12)))))
/-- What signs tell. -/
def textR (ts : List Tok) : Res Prd :=
  match ts with
  | [] => .no 0 0
  | t0 :: _ =>
    (xp [112, 114, 111, 100, 117, 99, 116] ts).bind fun u =>
    match u with
    | [] => .no 0 0
    | t :: v =>
      if L8.nmb t.text then
        (xp [123] v).bind fun x =>
        (grp (x.length + 1) 1 ⟨x, { prd0 with nm := t.text }, had0⟩).bind fun s =>
        match s.ts with
        | [] => .no 0 0
        | e :: _ => if e.kind = 0 then (if whole s.had && okP s.p then .ok s.p else .no 9 t0.at_) else .no 7 e.at_
      else .no 7 t.at_
/-- What a text tells. -/
def prs (l : List UInt8) : Res Prd := if L7.aE l = 0 then textR (L7.aT l) else .no (L7.aE l) (L7.aP l)
end Go.Proofs.YtbnpaeejlfaboaaGreatDoor

namespace Go.Proofs.YtbnpaeejlfaboaaGreatDoor
open Go.RowKit Go.Lib
set_option linter.unusedVariables false
/-- Nothing that was there has turned, but for the block r. -/
structure Exr (r : Nat) (w w' : World) : Prop where
  os : w'.os = w.os
  tape : w'.tape = w.tape
  output : w'.output = w.output
  size : w.heap.size ≤ w'.heap.size
  block : ∀ k, k < w.heap.size → k ≠ r → w'.heap[k]? = w.heap[k]?
theorem Exr.refl (r : Nat) (w : World) : Exr r w w := ⟨rfl, rfl, rfl, Nat.le_refl _, fun _ _ _ => rfl⟩
theorem Exr.trans {r : Nat} {a b c : World} (h : Exr r a b) (k : Exr r b c) : Exr r a c :=
  ⟨k.os.trans h.os, k.tape.trans h.tape, k.output.trans h.output, Nat.le_trans h.size k.size, fun i hi hr => (k.block i (Nat.lt_of_lt_of_le hi h.size) hr).trans (h.block i hi hr)⟩
theorem Exr.of {r : Nat} {w w' : World} (h : Ext w w') : Exr r w w' := ⟨h.below.os, h.below.tape, h.below.output, h.below.size, fun k hk _ => h.below.block k hk⟩
theorem Exr.on {r : Nat} {a b c : World} (h : Exr r a b) (k : Ext b c) : Exr r a c := h.trans (.of k)
theorem Exr.set {r : Nat} {w w' : World} (h : Exr r w w') (o : Nat) (v : Value) : Exr r w (w'.setCell ⟨r, o, none⟩ v) :=
  have hb := (Below.refl 0 w').setCell (p := ⟨r, o, none⟩) (Nat.zero_le _) v
  h.trans ⟨hb.os, hb.tape, hb.output, hb.size, fun k _ hr => heap_setCell_other _ _ _ _ hr⟩
theorem Exr.ext {r : Nat} {w0 w w' : World} (h : Exr r w w') (k : Ext w0 w) (hr : w0.heap.size ≤ r) : Ext w0 w' :=
  ⟨h.os.trans k.below.os, h.tape.trans k.below.tape, h.output.trans k.below.output, Nat.le_trans k.below.size h.size, fun i hi => (h.block i (Nat.lt_of_lt_of_le hi k.below.size) (by omega)).trans (k.below.block i hi)⟩
/-- A row of its own keeps, where its block is another. -/
theorem own_keep {w w' : World} {B : Nat} {e : TypeId} {z : Nat} {v : Value} {T : Nat} {xs : List Value} (h : w.ownsRow B e z v T xs) (hx : ∀ (k : Nat) (cur : Array Value), w.heap[k]? = some (Obj.cells cur e (0, 0)) → w'.heap[k]? = w.heap[k]?) : w'.ownsRow B e z v T xs := by
  refine ⟨h.1, ?_⟩
  rcases h.2 with h0 | ⟨g, c, cur, h1, h2, h3, h4⟩
  · exact Or.inl h0
  · refine Or.inr ⟨g, c, cur, h1, h2, ?_, h4⟩
    rw [hx g cur h3]
    exact h3
/-- Signs in a row, from a place on. -/
def Tks (w : World) (v : Value) (ts : List Tok) : Prop := ∃ ao c, v = .slice ao ts.length c ∧ ts.length ≤ c ∧ (ts ≠ [] → ∃ g off, ao = some ⟨g, off, none⟩ ∧ ∀ (k : Nat) t, ts[k]? = some t → w.cell? ⟨g, off + k * 3, none⟩ = some (.int .i64 t.kind) ∧ w.cell? ⟨g, off + k * 3 + 1, none⟩ = some (.int .i64 t.at_) ∧ w.cell? ⟨g, off + k * 3 + 2, none⟩ = some (.string ⟨t.text.toArray⟩))
theorem Tks.head {w : World} {v : Value} {t : Tok} {ts : List Tok} (h : Tks w v (t :: ts)) : ∃ g off c, v = .slice (some ⟨g, off, none⟩) (ts.length + 1) c ∧ ts.length + 1 ≤ c ∧ w.cell? ⟨g, off, none⟩ = some (.int .i64 t.kind) ∧ w.cell? ⟨g, off + 1, none⟩ = some (.int .i64 t.at_) ∧ w.cell? ⟨g, off + 2, none⟩ = some (.string ⟨t.text.toArray⟩) ∧
    (∀ c', ts.length ≤ c' → ∀ ao, (ts ≠ [] → ao = some ⟨g, off + 3, none⟩) → Tks w (.slice ao ts.length c') ts) := by
  obtain ⟨ao, c, rfl, hc, hk⟩ := h
  obtain ⟨g, off, rfl, hk2⟩ := hk (by simp)
  clear hk
  have hk := hk2
  have h0 := hk 0 t rfl
  refine ⟨g, off, c, rfl, by simpa using hc, by simpa using h0.1, by simpa using h0.2.1, by simpa using h0.2.2, fun c' hc' ao ha => ⟨ao, c', rfl, hc', fun hn => ⟨g, off + 3, ha hn, fun k u hu => ?_⟩⟩⟩
  have := hk (k + 1) u (by simpa using hu)
  have e1 : off + (k + 1) * 3 = off + 3 + k * 3 := by omega
  rw [e1] at this
  exact this
def rcells (vt : Value) (c : Nat) (p : Prd) (vr vl vh : Value) : Array Value := #[vt, .slice (some ⟨c, 0, none⟩) 15 15, .string ⟨p.nm.toArray⟩, .int .i64 p.cn, .int .i64 p.rd, .int .i64 p.kd, .int .i64 p.ev, .int .i64 p.tm, .int .i64 p.gr, .int .i64 p.rt, vr, .int .i64 p.pn, .int .i64 p.o0, .int .i64 p.o1, .int .i64 p.o2, .int .i64 p.o3, .int .i64 p.ov, vl, .int .i64 p.cp, .int .i64 p.rl, vh]
def ccells (r : Nat) (h : Nat → Bool) : Array Value := #[.string ⟨#[99, 111, 117, 110, 116]⟩, .bool true, .bool false, .func (.func 85) #[.pointer (some ⟨r, 0, none⟩)] #[], .bool (h 0), .string ⟨#[114, 111, 117, 110, 100]⟩, .bool true, .bool false, .func (.func 86) #[.pointer (some ⟨r, 0, none⟩)] #[], .bool (h 1), .string ⟨#[107, 105, 110, 100]⟩, .bool true, .bool false, .func (.func 87) #[.pointer (some ⟨r, 0, none⟩)] #[], .bool (h 2), .string ⟨#[101, 118, 101, 114, 121]⟩, .bool true, .bool false, .func (.func 88) #[.pointer (some ⟨r, 0, none⟩)] #[], .bool (h 3), .string ⟨#[116, 105, 109, 101, 115]⟩, .bool true, .bool false, .func (.func 89) #[.pointer (some ⟨r, 0, none⟩)] #[], .bool (h 4), .string ⟨#[103, 114, 97, 99, 101]⟩, .bool false, .bool false, .func (.func 90) #[.pointer (some ⟨r, 0, none⟩)] #[], .bool (h 5), .string ⟨#[114, 97, 116, 101]⟩, .bool true, .bool false, .func (.func 91) #[.pointer (some ⟨r, 0, none⟩)] #[], .bool (h 6), .string ⟨#[112, 101, 110, 97, 108, 116, 121]⟩, .bool false, .bool false, .func (.func 92) #[.pointer (some ⟨r, 0, none⟩)] #[], .bool (h 7), .string ⟨#[114, 101, 115, 101, 116]⟩, .bool false, .bool true, .func (.func 93) #[.pointer (some ⟨r, 0, none⟩)] #[], .bool (h 8), .string ⟨#[108, 97, 116, 101]⟩, .bool false, .bool true, .func (.func 94) #[.pointer (some ⟨r, 0, none⟩)] #[], .bool (h 9), .string ⟨#[99, 97, 112]⟩, .bool false, .bool false, .func (.func 95) #[.pointer (some ⟨r, 0, none⟩)] #[], .bool (h 10), .string ⟨#[104, 111, 108, 105, 100, 97, 121]⟩, .bool false, .bool true, .func (.func 96) #[.pointer (some ⟨r, 0, none⟩)] #[], .bool (h 11), .string ⟨#[111, 114, 100, 101, 114]⟩, .bool true, .bool false, .func (.func 97) #[.pointer (some ⟨r, 0, none⟩)] #[], .bool (h 12), .string ⟨#[111, 118, 101, 114]⟩, .bool false, .bool false, .func (.func 98) #[.pointer (some ⟨r, 0, none⟩)] #[], .bool (h 13), .string ⟨#[114, 111, 108, 108]⟩, .bool false, .bool false, .func (.func 99) #[.pointer (some ⟨r, 0, none⟩)] #[], .bool (h 14)]
def cellsP (l : List (Int × Int)) : List Value := l.flatMap fun p => [.int .i64 p.1, .int .i64 p.2]
/-- Products and signs that lay in blocks of their own lie there still. -/
structure Kp (wf w : World) : Prop where
  at_ : ∀ (k : Nat) (f : TypeId) (cur : Array Value), (f = 27 ∨ f = 93) → wf.heap[k]? = some (Obj.cells cur f (0, 0)) → w.heap[k]? = some (Obj.cells cur f (0, 0))
theorem Kp.refl (w : World) : Kp w w := ⟨fun _ _ _ _ h => h⟩
theorem Kp.ext {w w' : World} (hx : Ext w w') : Kp w w' := ⟨fun k _ _ _ h => (hx.below.block k (Array.getElem?_eq_some_iff.1 h).1).trans h⟩
/-- What turned were blocks of other types. -/
theorem Kp.go {wf w w' : World} (h : Kp wf w) (hx : ∀ (f : TypeId) (k : Nat) (cur : Array Value), (f = 27 ∨ f = 93) → w.heap[k]? = some (Obj.cells cur f (0, 0)) → w'.heap[k]? = w.heap[k]?) : Kp wf w' :=
  ⟨fun k f cur hf hk => (hx f k cur hf (h.at_ k f cur hf hk)).trans (h.at_ k f cur hf hk)⟩
/-- A reader that was made behind w0, and what it has read so far. -/
structure Inn (wf w0 w : World) (r c : Nat) (vr vl vh : Value) (s : St) : Prop where
  ext : Ext w0 w
  lo : w0.heap.size ≤ r
  loc : w0.heap.size ≤ c
  row : ∃ vt, w.heap[r]? = some (.cells (rcells vt c s.p vr vl vh) 90 (0, 0)) ∧ Tks w0 vt s.ts
  cls : w.heap[c]? = some (.cells (ccells r s.had) 109 (0, 0))
  sr : w.ownsRow w0.heap.size 57 2 vr s.p.rs.length (cellsP s.p.rs)
  sl : w.ownsRow w0.heap.size 60 2 vl s.p.lt.length (cellsP s.p.lt)
  sh : w.ownsRow w0.heap.size 3 1 vh s.p.hd.length (s.p.hd.map (.int .i64))
  kp : Kp wf w
theorem Inn.lt {wf w0 w : World} {r c : Nat} {vr vl vh : Value} {s : St} (h : Inn wf w0 w r c vr vl vh s) : r < w.heap.size ∧ c < w.heap.size := by
  obtain ⟨vt, hr, _⟩ := h.row
  exact ⟨(Array.getElem?_eq_some_iff.1 hr).1, (Array.getElem?_eq_some_iff.1 h.cls).1⟩
theorem Inn.ne {wf w0 w : World} {r c : Nat} {vr vl vh : Value} {s : St} (h : Inn wf w0 w r c vr vl vh s) : c ≠ r := by
  rintro rfl
  obtain ⟨vt, hr, _⟩ := h.row
  have := h.cls.symm.trans hr
  simp at this
/-- What turned was the reader's own block alone. -/
theorem Inn.move {wf w0 w w' : World} {r c : Nat} {vr vl vh : Value} {s s' : St} (h : Inn wf w0 w r c vr vl vh s) (hx : Exr r w w') (hh : s'.had = s.had) (h1 : s'.p.rs = s.p.rs) (h2 : s'.p.lt = s.p.lt) (h3 : s'.p.hd = s.p.hd)
    (hr : ∃ vt, w'.heap[r]? = some (.cells (rcells vt c s'.p vr vl vh) 90 (0, 0)) ∧ Tks w0 vt s'.ts) : Inn wf w0 w' r c vr vl vh s' := by
  obtain ⟨vt, hr0, _⟩ := h.row
  have hkeep : ∀ (e : TypeId), e ≠ 90 → ∀ (k : Nat) (cur : Array Value), w.heap[k]? = some (Obj.cells cur e (0, 0)) → w'.heap[k]? = w.heap[k]? := fun e he k cur hk => hx.block k (Array.getElem?_eq_some_iff.1 hk).1 (by
    rintro rfl
    have := hk.symm.trans hr0
    simp at this
    exact he this.2)
  refine ⟨hx.ext h.ext h.lo, h.lo, h.loc, hr, ?_, ?_, ?_, ?_, h.kp.go fun f k cur hf hk => hkeep f (by rcases hf with rfl | rfl <;> decide) k cur hk⟩
  · rw [hh, hx.block c h.lt.2 h.ne]; exact h.cls
  · rw [h1]; exact own_keep h.sr (hkeep _ (by decide))
  · rw [h2]; exact own_keep h.sl (hkeep _ (by decide))
  · rw [h3]; exact own_keep h.sh (hkeep _ (by decide))
theorem Inn.on {wf w0 w w' : World} {r c : Nat} {vr vl vh : Value} {s : St} (h : Inn wf w0 w r c vr vl vh s) (hx : Ext w w') : Inn wf w0 w' r c vr vl vh s := by
  obtain ⟨vt, hr, ht⟩ := h.row
  exact h.move (.of hx) rfl rfl rfl rfl ⟨vt, by rw [hx.below.block r h.lt.1]; exact hr, ht⟩
theorem Inn.frame {wf w0 w : World} {r c : Nat} {vr vl vh : Value} {s : St} (h : Inn wf w0 w r c vr vl vh s) : Inn w w0 w r c vr vl vh s := ⟨h.ext, h.lo, h.loc, h.row, h.cls, h.sr, h.sl, h.sh, Kp.refl w⟩
end Go.Proofs.YtbnpaeejlfaboaaGreatDoor

namespace Go.Proofs.YtbnpaeejlfaboaaGreatDoor
open Go.RowKit Go.Lib
set_option linter.unusedVariables false
/-- What is thrown with a place. -/
def thrown (e p : Nat) : Ending := .panicked [{ v := .iface 85 (.agg #[.int .i64 e, .int .i64 p]), recovered := false }]
def tokV (t : Tok) : Value := .agg #[.int .i64 t.kind, .int .i64 t.at_, .string ⟨t.text.toArray⟩]
theorem Inn.took {wf w0 w : World} {r c : Nat} {vr vl vh : Value} {s : St} {ts : List Tok} {v : Value} (h : Inn wf w0 w r c vr vl vh s) (ht : Tks w0 v ts) : Inn wf w0 (w.setCell ⟨r, 0, none⟩ v) r c vr vl vh { s with ts := ts } := by
  obtain ⟨vt, hr, _⟩ := h.row
  exact h.move ((Exr.refl r w).set 0 v) rfl rfl rfl rfl ⟨v, (heap_setCell_same w r 0 _ _ v hr).trans rfl, ht⟩
theorem take_c (wf w0 w : World) (r c : Nat) (vr vl vh : Value) (s : St) (t : Tok) (ts : List Tok) (hs : s.ts = t :: ts) (hl : ts.length ≤ 20010) (h : Inn wf w0 w r c vr vl vh s) :
    Calls Tryz.prog 100 #[.pointer (some ⟨r, 0, none⟩)] w fun e w' => e = .returned (tokV t) ∧ Inn wf w0 w' r c vr vl vh { s with ts := ts } ∧ Exr r w w' := by
  obtain ⟨vt, hr, ht⟩ := h.row
  rw [hs] at ht
  obtain ⟨g, off, cp, rfl, hcp, k0, k1, k2, hrest⟩ := ht.head
  replace k0 := h.ext.cell_of k0
  replace k1 := h.ext.cell_of k1
  replace k2 := h.ext.cell_of k2
  have hg := lt_of_cell k0
  have c0 : w.cell? ⟨r, 0, none⟩ = some (.slice (some ⟨g, off, none⟩) (ts.length + 1) cp) := (cell_of_row w r 0 _ _ _ hr).trans rfl
  have z0 : w.frozen? ⟨r, 0, none⟩ = false := frozen_of_row w r 0 _ _ hr
  have hlt := h.lt
  replace h := show Hid _ from h
  clear hr ht
  replace hrest := show Hid _ from hrest
  replace hs := show Hid _ from hs
  unfold tokV
  by_cases hcp1 : cp = 1
  · subst hcp1
    obtain rfl : ts = [] := List.eq_nil_of_length_eq_zero (by omega)
    go_enter Tryz.func100, Tryz.ntmps100
    go_wp2
    exact bodyPost_ret (v := .agg #[.int .i64 t.kind, .int .i64 t.at_, .string ⟨t.text.toArray⟩]) (by simp [results, Tryz.results100, go_sem]) rfl ⟨rfl, (h.out.took (hrest.out 0 (by simp) _ (fun e => absurd rfl e))).on (((Ext.refl _).alloc _ _).alloc _ _), (((Exr.refl r w).set 0 _).on (((Ext.refl _).alloc _ _).alloc _ _))⟩
  · go_enter Tryz.func100, Tryz.ntmps100
    go_wp2
    exact bodyPost_ret (v := .agg #[.int .i64 t.kind, .int .i64 t.at_, .string ⟨t.text.toArray⟩]) (by simp [results, Tryz.results100, go_sem]) rfl ⟨rfl, (h.out.took (hrest.out (cp - 1) (by omega) _ (fun _ => rfl))).on (((Ext.refl _).alloc _ _).alloc _ _), (((Exr.refl r w).set 0 _).on (((Ext.refl _).alloc _ _).alloc _ _))⟩
theorem need_ok (t : Tok) (w : World) :
    Calls Tryz.prog 101 #[.bool true, tokV t] w fun e w' => e = .returned (.tuple #[]) ∧ Ext w w' := by
  unfold tokV
  go_enter Tryz.func101, Tryz.ntmps101
  go_wp2_with fail
  refine (L7.needAt_ok _ _ _).mono ?_
  rintro e w1 ⟨rfl, rfl⟩
  go_wp2
  go_end0
  exact ⟨rfl, (Ext.refl _).alloc _ _⟩
theorem need_no (t : Tok) (w : World) :
    Calls Tryz.prog 101 #[.bool false, tokV t] w fun e w' => e = thrown 7 t.at_ ∧ Ext w w' := by
  unfold tokV thrown
  go_enter Tryz.func101, Tryz.ntmps101
  go_wp2_with fail
  refine (L7.needAt_no _ _ _).mono ?_
  rintro e w1 ⟨rfl, rfl⟩
  go_wp2
  exact ⟨rfl, rfl, (Ext.refl _).alloc _ _⟩
theorem box_tok (w : World) (t : Tok) (T : TypeId) : ∃ W b, w.alloc (.cells #[.int .i64 t.kind, .int .i64 t.at_, .string ⟨t.text.toArray⟩] T) = W ∧ w.heap.size = b ∧ Ext w W ∧ W.cell? ⟨b, 0, none⟩ = some (.int .i64 t.kind) ∧ W.cell? ⟨b, 1, none⟩ = some (.int .i64 t.at_) ∧ W.cell? ⟨b, 2, none⟩ = some (.string ⟨t.text.toArray⟩) := box3 w _ _ _ T
theorem expect_c (wf w0 w : World) (r c : Nat) (vr vl vh : Value) (s : St) (t : Tok) (ts : List Tok) (l : List UInt8) (hs : s.ts = t :: ts) (hl : ts.length ≤ 20010) (h : Inn wf w0 w r c vr vl vh s) :
    Calls Tryz.prog 44 #[.pointer (some ⟨r, 0, none⟩), .string ⟨l.toArray⟩] w fun e w' => e = (if t.text = l then .returned (.tuple #[]) else thrown 7 t.at_) ∧ Inn wf w0 w' r c vr vl vh { s with ts := ts } ∧ Exr r w w' := by
  replace h := show Hid _ from h
  replace hs := show Hid _ from hs
  by_cases hq : t.text = l
  · subst hq
    rw [if_pos rfl]
    go_enter Tryz.func44, Tryz.ntmps44
    go_wp2_with fail
    refine (take_c wf w0 _ r c vr vl vh s t ts hs.out hl h.out).mono ?_
    rintro e w1 ⟨rfl, h1, hx⟩
    replace h1 := show Hid _ from h1
    replace hx := show Hid _ from hx
    unfold tokV
    go_wp2_with fail
    refine (need_ok t _).mono ?_
    rintro e w2 ⟨rfl, hx2⟩
    replace hx2 := show Hid (Ext w1 w2) from ((Ext.refl w1).alloc _ _).trans hx2
    go_wp2
    go_end0
    exact ⟨rfl, h1.out.on hx2.out, hx.out.on hx2.out⟩
  · rw [if_neg hq]
    have hq2 : (t.text == l) = false := by simp [hq]
    replace hq := show Hid _ from hq
    go_enter Tryz.func44, Tryz.ntmps44
    go_wp2_with fail
    refine (take_c wf w0 _ r c vr vl vh s t ts hs.out hl h.out).mono ?_
    rintro e w1 ⟨rfl, h1, hx⟩
    replace h1 := show Hid _ from h1
    replace hx := show Hid _ from hx
    unfold tokV
    go_wp2_with fail
    refine (need_no t _).mono ?_
    rintro e w2 ⟨rfl, hx2⟩
    replace hx2 := show Hid (Ext w1 w2) from ((Ext.refl w1).alloc _ _).trans hx2
    unfold thrown
    go_wp2
    exact ⟨rfl, rfl, h1.out.on hx2.out, hx.out.on hx2.out⟩
theorem end_c (wf w0 w : World) (r c : Nat) (vr vl vh : Value) (s : St) (t : Tok) (ts : List Tok) (hs : s.ts = t :: ts) (hl : ts.length ≤ 20010) (h : Inn wf w0 w r c vr vl vh s) :
    Calls Tryz.prog 47 #[.pointer (some ⟨r, 0, none⟩)] w fun e w' => e = (if t.kind = 0 then .returned (.tuple #[]) else thrown 7 t.at_) ∧ Inn wf w0 w' r c vr vl vh { s with ts := ts } ∧ Exr r w w' := by
  replace h := show Hid _ from h
  replace hs := show Hid _ from hs
  by_cases hq : t.kind = 0
  · rw [if_pos hq]
    have hq2 : ((t.kind : Int) == 0) = true := by simp [hq]
    replace hq := show Hid _ from hq
    go_enter Tryz.func47, Tryz.ntmps47
    go_wp2_with fail
    refine (take_c wf w0 _ r c vr vl vh s t ts hs.out hl h.out).mono ?_
    rintro e w1 ⟨rfl, h1, hx⟩
    replace h1 := show Hid _ from h1
    replace hx := show Hid _ from hx
    unfold tokV
    go_wp2_with fail
    refine (need_ok t _).mono ?_
    rintro e w2 ⟨rfl, hx2⟩
    replace hx2 := show Hid (Ext w1 w2) from ((Ext.refl w1).alloc _ _).trans hx2
    go_wp2
    go_end0
    exact ⟨rfl, h1.out.on hx2.out, hx.out.on hx2.out⟩
  · rw [if_neg hq]
    have hq2 : ((t.kind : Int) == 0) = false := by simp [hq]
    replace hq := show Hid _ from hq
    go_enter Tryz.func47, Tryz.ntmps47
    go_wp2_with fail
    refine (take_c wf w0 _ r c vr vl vh s t ts hs.out hl h.out).mono ?_
    rintro e w1 ⟨rfl, h1, hx⟩
    replace h1 := show Hid _ from h1
    replace hx := show Hid _ from hx
    unfold tokV
    go_wp2_with fail
    refine (need_no t _).mono ?_
    rintro e w2 ⟨rfl, hx2⟩
    replace hx2 := show Hid (Ext w1 w2) from ((Ext.refl w1).alloc _ _).trans hx2
    unfold thrown
    go_wp2
    exact ⟨rfl, rfl, h1.out.on hx2.out, hx.out.on hx2.out⟩
end Go.Proofs.YtbnpaeejlfaboaaGreatDoor

namespace Go.Proofs.YtbnpaeejlfaboaaGreatDoor
open Go.RowKit Go.Lib
set_option linter.unusedVariables false
/-- A row of words and what they stand for. -/
structure Opt (w : World) (g : Nat) (o : Opts) : Prop where
  on : ∀ (k : Nat) (s : List UInt8) (v : Int), o[k]? = some (s, v) → w.cell? ⟨g, k * 2, none⟩ = some (.string ⟨s.toArray⟩) ∧ w.cell? ⟨g, k * 2 + 1, none⟩ = some (.int .i64 v)
theorem Opt.ext {w w' : World} {g : Nat} {o : Opts} (h : Opt w g o) (hx : Ext w w') : Opt w' g o := ⟨fun k s v hk => ⟨hx.cell_of (h.on k s v hk).1, hx.cell_of (h.on k s v hk).2⟩⟩
theorem Exr.cell_of {r : Nat} {w w' : World} {b o : Nat} {v : Value} (hx : Exr r w w') (hb : b ≠ r) (h : w.cell? ⟨b, o, none⟩ = some v) : w'.cell? ⟨b, o, none⟩ = some v :=
  (World.cell?_of_block (a := ⟨b, o, none⟩) (hx.block b (lt_of_cell h) hb)).trans h
theorem Opt.exr {r : Nat} {w w' : World} {g : Nat} {o : Opts} (h : Opt w g o) (hx : Exr r w w') (hg : g ≠ r) : Opt w' g o := ⟨fun k s v hk => ⟨hx.cell_of hg (h.on k s v hk).1, hx.cell_of hg (h.on k s v hk).2⟩⟩
theorem drop_at {α : Type} {l : List α} {k : Nat} {v : α} (h : l[k]? = some v) : l.drop k = v :: l.drop (k + 1) := L8.drop_at h
theorem choose1_c (s l : List UInt8) (v : Int) (b : Nat) (w : World) (hb : w.cell? ⟨b, 2, none⟩ = some (.string ⟨l.toArray⟩)) :
    Calls Tryz.prog 151 #[.agg #[.string ⟨s.toArray⟩, .int .i64 v], .pointer (some ⟨b, 0, none⟩)] w fun e w' => e = .returned (.bool (s == l)) ∧ Ext w w' := by
  have hlt := lt_of_cell hb
  obtain ⟨B, hB⟩ : ∃ B, (s == l) = B := ⟨_, rfl⟩
  rw [hB]
  go_enter Tryz.func151, Tryz.ntmps151
  go_wp2
  go_ret
  exact ⟨rfl, (Ext.refl _).alloc _ _⟩
/-- Where it was found. -/
def Found (o : Opts) (l : List UInt8) (e : Ending) : Prop :=
  match pick o l with
  | some v => ∃ i : Nat, e = .returned (.int .i64 i) ∧ o[i]? = some (l, v)
  | none => e = .returned (.int .i64 (-1))
theorem Found.at {o : Opts} {l : List UInt8} {k : Nat} {v : Int} (h : o[k]? = some (l, v)) (hp : pick (o.drop k) l = pick o l) : Found o l (.returned (.int .i64 k)) := by
  unfold Found
  rw [← hp, drop_at h]
  simp only [pick, if_true]
  exact ⟨k, rfl, h⟩
theorem Found.none {o : Opts} {l : List UInt8} {k : Nat} (h : ¬ k < o.length) (hp : pick (o.drop k) l = pick o l) : Found o l (.returned (.int .i64 (-1))) := by
  unfold Found
  rw [← hp, List.drop_eq_nil_of_le (by omega)]
  rfl
theorem pick_next {o : Opts} {l s : List UInt8} {k : Nat} {v : Int} (h : o[k]? = some (s, v)) (hn : ¬ s = l) (hp : pick (o.drop k) l = pick o l) : pick (o.drop (k + 1)) l = pick o l := by
  rw [← hp, drop_at h]
  simp only [pick, if_neg hn]
theorem idxO_c (g c b : Nat) (o : Opts) (l : List UInt8) (w : World) (hn : o.length ≤ 100) (hg : Opt w g o) (hb : w.cell? ⟨b, 2, none⟩ = some (.string ⟨l.toArray⟩)) :
    Calls Tryz.prog 150 #[.slice (some ⟨g, 0, none⟩) o.length c, .func (.func 151) #[] #[.pointer (some ⟨b, 0, none⟩)]] w fun e w' => Found o l e ∧ Ext w w' := by
  replace hg := show Hid _ from hg
  replace hb := show Hid _ from hb
  go_enter Tryz.func150, Tryz.ntmps150
  go_wp2
  go_loopw [8] (fun i wr => ∃ k : Nat, k ≤ o.length ∧ i = .int .i64 k ∧ Hid (Ext w wr) ∧ Hid (pick (o.drop k) l = pick o l)) (fun i _ => o.length - (RowKit.intOf i).toNat)
  case atStart => exact ⟨0, Nat.zero_le _, rfl, Ext.refl w, rfl⟩
  case round =>
    obtain ⟨k, hk, rfl, hx, hp⟩ := hrel
    by_cases hlt : k < o.length
    · obtain ⟨s, v, hsv⟩ : ∃ s v, o[k]? = some (s, v) := ⟨o[k].1, o[k].2, by rw [List.getElem?_eq_getElem hlt]⟩
      have c0 := hx.out.cell_of (hg.out.on k s v hsv).1
      have c1 := hx.out.cell_of (hg.out.on k s v hsv).2
      have hb1 : Hid (wr.cell? ⟨b, 2, none⟩ = some (.string ⟨l.toArray⟩)) := hx.out.cell_of hb.out
      replace hsv := show Hid _ from hsv
      by_cases hq : s = l
      · subst hq
        go_wp2_with (go_at_call 151; refine (choose1_c _ _ _ _ _ hb1.out).mono ?_; rintro e w1 ⟨rfl, hx1⟩; replace hx1 := show Hid _ from hx1)
        go_ret
        exact ⟨Found.at hsv.out hp.out, hx.out.trans hx1.out⟩
      · have hq2 : (s == l) = false := by simp [hq]
        replace hq := show Hid _ from hq
        go_wp2_with (go_at_call 151; refine (choose1_c _ _ _ _ _ hb1.out).mono ?_; rintro e w1 ⟨rfl, hx1⟩; replace hx1 := show Hid _ from hx1)
        go_roundw
        case rel => exact ⟨k + 1, by omega, by go_num, hx.out.trans hx1.out, pick_next hsv.out hq.out hp.out⟩
        case measure => simp [RowKit.intOf]; omega
    · have hlt2 : ¬ (k : Int) < (o.length : Int) := by omega
      go_wp2
      go_ret
      exact ⟨Found.none hlt hp.out, hx.out⟩
/-- What is answered, or thrown at a sign. -/
def picked (o : Option Int) (t : Tok) : Ending :=
  match o with
  | some v => .returned (.int .i64 v)
  | none => thrown 7 t.at_
theorem choose_c (wf w0 w : World) (r c : Nat) (vr vl vh : Value) (s : St) (t : Tok) (ts : List Tok) (g cp : Nat) (o : Opts) (hs : s.ts = t :: ts) (hl : ts.length ≤ 20010) (hn : o.length ≤ 100) (ho : Opt w g o) (hg : g ≠ r) (h : Inn wf w0 w r c vr vl vh s) :
    Calls Tryz.prog 123 #[.pointer (some ⟨r, 0, none⟩), .slice (some ⟨g, 0, none⟩) o.length cp] w fun e w' => e = picked (pick o t.text) t ∧ Inn wf w0 w' r c vr vl vh { s with ts := ts } ∧ Exr r w w' := by
  have hmf := L7.make_func
  replace h := show Hid _ from h
  replace hs := show Hid _ from hs
  replace ho := show Hid _ from ho
  go_enter Tryz.func123, Tryz.ntmps123
  go_wp2_with fail
  refine (take_c wf w0 _ r c vr vl vh s t ts hs.out hl h.out).mono ?_
  rintro e w1 ⟨rfl, h1, hx⟩
  replace h1 := show Hid _ from h1
  replace hx := show Hid _ from hx
  replace ho := show Hid (Opt w1 g o) from ho.out.exr hx.out hg
  unfold tokV
  obtain ⟨W2, b, hW, hb, hx2, b0, b1, b2⟩ := box_tok w1 t 93
  replace ho := show Hid (Opt W2 g o) from ho.out.ext hx2
  replace h1 := show Hid _ from h1.out.on hx2
  replace hx := show Hid _ from hx.out.on hx2
  go_wp2_with fail
  refine (idxO_c g cp b o t.text _ hn ho.out b2).mono ?_
  rintro e w3 ⟨hf, hx3⟩
  replace b0 := hx3.cell_of b0
  replace b1 := hx3.cell_of b1
  replace b2 := hx3.cell_of b2
  replace ho := show Hid (Opt w3 g o) from ho.out.ext hx3
  replace h1 := show Hid _ from h1.out.on hx3
  replace hx := show Hid _ from hx.out.on hx3
  clear hx2 hx3 hW hb
  unfold Found at hf
  cases hp : pick o t.text with
  | some v =>
    rw [hp] at hf
    obtain ⟨i, rfl, hi⟩ := hf
    have hil : i < o.length := (List.getElem?_eq_some_iff.1 hi).1
    have ci := (ho.out.on i _ v hi).2
    replace hi := show Hid _ from hi
    replace hp := show Hid _ from hp
    go_wp2_with fail
    refine (need_ok t _).mono ?_
    rintro e w4 ⟨rfl, hx4⟩
    replace ci := hx4.cell_of ci
    replace h1 := show Hid _ from h1.out.on hx4
    replace hx := show Hid _ from hx.out.on hx4
    clear hx4 b0 b1 b2
    go_wp2
    go_ret
    exact ⟨by rw [hp.out]; rfl, h1.out, hx.out⟩
  | none =>
    rw [hp] at hf
    subst hf
    replace hp := show Hid _ from hp
    go_wp2_with fail
    refine (need_no t _).mono ?_
    rintro e w4 ⟨rfl, hx4⟩
    replace h1 := show Hid _ from h1.out.on hx4
    replace hx := show Hid _ from hx.out.on hx4
    clear hx4 b0 b1 b2
    unfold thrown
    go_wp2
    exact ⟨rfl, by rw [hp.out]; rfl, h1.out, hx.out⟩
end Go.Proofs.YtbnpaeejlfaboaaGreatDoor

namespace Go.Proofs.YtbnpaeejlfaboaaGreatDoor
open Go.RowKit Go.Lib
set_option linter.unusedVariables false
/-- What is read of the listed variables. -/
structure Env (w : World) : Prop where
  two : L2.Env w
  three : L3.Env w
  seven : L7.Env w
  syn : ∃ te pe, w.cell? ⟨9, 0, none⟩ = some (.iface te pe)
  rng : ∃ te pe, w.cell? ⟨10, 0, none⟩ = some (.iface te pe)
theorem Env.ext {w w' : World} (h : Env w) (hx : Ext w w') : Env w' := by
  obtain ⟨h1, h2, h3, ⟨a, b, h4⟩, ⟨c, d, h5⟩⟩ := h
  exact ⟨h1.ext hx, h2.ext hx, h3.ext hx, ⟨a, b, hx.cell_of h4⟩, ⟨c, d, hx.cell_of h5⟩⟩
theorem dec_len : ∀ (k u : Nat), u < 10 ^ (k + 1) → (decDigits u).length ≤ k + 1
  | 0, u, h => by rw [L2.decDigits_small (by simpa using h)]; simp
  | k + 1, u, h => by
    by_cases h1 : u < 10
    · rw [L2.decDigits_small h1]; simp
    · rw [L2.decDigits_big h1, List.length_append]
      have := dec_len k (u / 10) (by rw [Nat.div_lt_iff_lt_mul (by omega)]; rw [Nat.pow_succ] at h; exact h)
      simp; omega
theorem num_of (v : Int) (h0 : ¬ v < 0) (h1 : ¬ 999999999 < v) : numO (itoa v) = some v := by
  obtain ⟨n, rfl⟩ : ∃ n : Nat, v = n := ⟨v.toNat, by omega⟩
  have hi : itoa (n : Int) = decDigits n := by unfold itoa; rw [if_neg h0, Int.toNat_natCast]
  rw [hi]
  have hw : L2.okWhole (decDigits n) 9 = true := by
    unfold L2.okWhole L2.digOnly L2.headOk
    have h2 := dec_len 8 n (by omega)
    have h3 := L2.decDigits_all n
    have h4 := L2.decDigits_ne n
    have h5 := L2.decDigits_head n
    simp only [Bool.and_eq_true, decide_eq_true_eq, Bool.or_eq_true, beq_iff_eq, bne_iff_ne, Bool.not_eq_true']
    refine ⟨⟨h2, ?_, h3⟩, h5⟩
    simpa using h4
  unfold numO
  rw [hw, if_pos rfl, L2.valL_decDigits]
theorem num_to {l : List UInt8} {v : Int} (h : numO l = some v) : atoiAll l = .ok v ∧ ¬ v < 0 ∧ ¬ 999999999 < v ∧ itoa v = l := by
  unfold numO at h
  split at h
  · rename_i hw
    obtain rfl : ((L2.valL l : Nat) : Int) = v := by simpa using h
    obtain ⟨h1, h2, h3, h4⟩ := L2.okWhole_spec l 9 hw
    have hlt := L2.valL_lt l h3
    have hp := Nat.pow_le_pow_right (n := 10) (by omega) h1
    refine ⟨?_, by omega, by omega, ?_⟩
    · rw [atoiAll_short l (by omega), L3.atoi_digits l h2 h3]; rfl
    · unfold itoa
      rw [if_neg (by omega), Int.toNat_natCast, L2.decDigits_valL l h2 h3 h4]
  · cases h
theorem num_none {l : List UInt8} (h : numO l = none) (v : Int) (ha : atoiAll l = .ok v) : v < 0 ∨ 999999999 < v ∨ itoa v ≠ l := by
  by_cases h0 : v < 0
  · exact Or.inl h0
  by_cases h1 : 999999999 < v
  · exact Or.inr (Or.inl h1)
  refine Or.inr (Or.inr fun e => ?_)
  have := num_of v h0 h1
  rw [e, h] at this
  cases this
/-- What a taker answers: a value and no error, or an error. -/
def Tkn (o : Option Int) (e : Ending) : Prop :=
  match o with
  | some v => e = .returned (.tuple #[.int .i64 v, .int .i64 0])
  | none => ∃ x y : Int, e = .returned (.tuple #[.int .i64 x, .int .i64 y]) ∧ (y == 0) = false
theorem itoa_c (v : Int) (l : List UInt8) (hl : itoa v = l) (w : World) (h0 : -9223372036854775808 ≤ v) (h1 : v ≤ 9223372036854775807) (he : Hid (Env w)) :
    Calls Tryz.prog 114 #[.int .i64 v] w fun e w' => e = .returned (.string ⟨l.toArray⟩) ∧ Ext w w' := by
  refine (Tryz.strconv_Itoa v h0 h1 w he.out.three.pow).mono ?_
  rintro e w' ⟨rfl, k, os, rfl⟩
  exact ⟨by rw [hl], ((Ext.refl w).drewN k).grow os⟩
theorem atoi_ok (l : List UInt8) (v : Int) (h : atoiAll l = .ok v) (w : World) (hl : l.length ≤ 20000) :
    Calls Tryz.prog 152 #[.string ⟨l.toArray⟩] w fun e w' => e = .returned (.tuple #[.int .i64 v, .nilIface]) ∧ Ext w w' := by
  refine (Tryz.strconv_Atoi_ok ⟨l.toArray⟩ (by rw [Lib.size_mk]; omega) v h w).mono ?_
  rintro e w' ⟨rfl, hw | ⟨t, rfl⟩⟩
  · exact ⟨rfl, hw ▸ Ext.refl w⟩
  · exact ⟨rfl, ⟨Lib.bytesWorld_below w 5 t⟩⟩
theorem atoi_no (l : List UInt8) (h : ∀ v, atoiAll l ≠ .ok v) (w : World) (hl : l.length ≤ 20000) (he : Hid (Env w)) :
    Calls Tryz.prog 152 #[.string ⟨l.toArray⟩] w fun e w' => (∃ x T N, e = .returned (.tuple #[.int .i64 x, .iface T (.pointer (some ⟨N, 0, none⟩))])) ∧ Ext w w' := by
  obtain ⟨_, _, hs⟩ := he.out.syn
  obtain ⟨_, _, hr⟩ := he.out.rng
  cases ha : atoiAll l with
  | ok v => exact absurd ha (h v)
  | «syntax» =>
    refine (Tryz.strconv_Atoi_syntax ⟨l.toArray⟩ (by rw [Lib.size_mk]; omega) ha _ w hs (Or.inr ⟨_, _, rfl⟩)).mono ?_
    rintro e w' ⟨N, rfl, _, _, hb⟩
    exact ⟨⟨_, _, _, rfl⟩, ⟨hb⟩⟩
  | range =>
    refine (Tryz.strconv_Atoi_range ⟨l.toArray⟩ (by rw [Lib.size_mk]; omega) ha _ w hr (Or.inr ⟨_, _, rfl⟩)).mono ?_
    rintro e w' ⟨N, rfl, _, _, hb⟩
    exact ⟨⟨_, _, _, rfl⟩, ⟨hb⟩⟩
theorem number_ok (l : List UInt8) (v : Int) (h : numO l = some v) (w : World) (hl : l.length ≤ 20000) (he : Hid (Env w)) :
    Calls Tryz.prog 125 #[.string ⟨l.toArray⟩] w fun e w' => Tkn (some v) e ∧ Ext w w' := by
  obtain ⟨ha, h0, h1, hi⟩ := num_to h
  replace ha := show Hid _ from ha
  replace hi := show Hid _ from hi
  replace h := show Hid _ from h
  go_enter Tryz.func125, Tryz.ntmps125
  go_wp2_with fail
  refine (atoi_ok l v ha.out _ hl).mono ?_
  rintro e w1 ⟨rfl, hx⟩
  have he1 : Hid (Env w1) := he.out.ext hx
  replace hx := show Hid _ from hx
  go_wp2_with fail
  refine (itoa_c v l hi.out _ (by omega) (by omega) he1).mono ?_
  rintro e w2 ⟨rfl, hx2⟩
  replace hx2 := show Hid _ from hx2
  go_wp2
  exact bodyPost_ret (v := .tuple #[.int .i64 v, .int .i64 0]) (by simp [results, Tryz.results125, go_sem]) rfl ⟨rfl, hx.out.trans hx2.out⟩
theorem number_no (l : List UInt8) (h : numO l = none) (w : World) (hl : l.length ≤ 20000) (he : Hid (Env w)) :
    Calls Tryz.prog 125 #[.string ⟨l.toArray⟩] w fun e w' => Tkn none e ∧ Ext w w' := by
  by_cases hok : ∃ v, atoiAll l = .ok v
  · obtain ⟨v, ha⟩ := hok
    have hb := atoiAll_bounds ha
    have hn := num_none h v ha
    replace ha := show Hid _ from ha
    replace h := show Hid _ from h
    by_cases h0 : v < 0
    · clear hn
      go_enter Tryz.func125, Tryz.ntmps125
      go_wp2_with fail
      refine (atoi_ok l v ha.out _ hl).mono ?_
      rintro e w1 ⟨rfl, hx⟩
      replace hx := show Hid _ from hx
      go_wp2
      exact bodyPost_ret (v := .tuple #[.int .i64 0, .int .i64 4]) (by simp [results, Tryz.results125, go_sem]) rfl ⟨⟨0, 4, rfl, rfl⟩, hx.out⟩
    by_cases h1 : 999999999 < v
    · clear hn
      go_enter Tryz.func125, Tryz.ntmps125
      go_wp2_with fail
      refine (atoi_ok l v ha.out _ hl).mono ?_
      rintro e w1 ⟨rfl, hx⟩
      replace hx := show Hid _ from hx
      go_wp2
      exact bodyPost_ret (v := .tuple #[.int .i64 0, .int .i64 4]) (by simp [results, Tryz.results125, go_sem]) rfl ⟨⟨0, 4, rfl, rfl⟩, hx.out⟩
    obtain ⟨m, hm⟩ : ∃ m, itoa v = m := ⟨_, rfl⟩
    have hne : m ≠ l := by
      rcases hn with hn | hn | hn
      · exact absurd hn h0
      · exact absurd hn h1
      · exact hm ▸ hn
    clear hn
    have hq : (m == l) = false := by simp [hne]
    replace hm := show Hid _ from hm
    replace hne := show Hid _ from hne
    go_enter Tryz.func125, Tryz.ntmps125
    go_wp2_with fail
    refine (atoi_ok l v ha.out _ hl).mono ?_
    rintro e w1 ⟨rfl, hx⟩
    have he1 : Hid (Env w1) := he.out.ext hx
    replace hx := show Hid _ from hx
    go_wp2_with fail
    refine (itoa_c v m hm.out _ (by omega) (by omega) he1).mono ?_
    rintro e w2 ⟨rfl, hx2⟩
    replace hx2 := show Hid _ from hx2
    go_wp2
    exact bodyPost_ret (v := .tuple #[.int .i64 0, .int .i64 4]) (by simp [results, Tryz.results125, go_sem]) rfl ⟨⟨0, 4, rfl, rfl⟩, hx.out.trans hx2.out⟩
  · replace h := show Hid _ from h
    replace hok := show Hid _ from hok
    go_enter Tryz.func125, Tryz.ntmps125
    go_wp2_with fail
    refine (atoi_no l (fun v hv => hok.out ⟨v, hv⟩) _ hl he).mono ?_
    rintro e w1 ⟨⟨x, T, N, rfl⟩, hx⟩
    replace hx := show Hid _ from hx
    go_wp2
    exact bodyPost_ret (v := .tuple #[.int .i64 0, .int .i64 4]) (by simp [results, Tryz.results125, go_sem]) rfl ⟨⟨0, 4, rfl, rfl⟩, hx.out⟩
theorem number_c (l : List UInt8) (w : World) (hl : l.length ≤ 20000) (he : Hid (Env w)) :
    Calls Tryz.prog 125 #[.string ⟨l.toArray⟩] w fun e w' => Tkn (numO l) e ∧ Ext w w' := by
  cases h : numO l with
  | some v => exact number_ok l v h w hl he
  | none => exact number_no l h w hl he
theorem rate_c (l : List UInt8) (w : World) (hl : l.length ≤ 20000) (he : Hid (Env w)) :
    Calls Tryz.prog 127 #[.string ⟨l.toArray⟩] w fun e w' => Tkn (rateO l) e ∧ Ext w w' := by
  refine (L2.takeRate_c l w hl he.out.two).mono ?_
  rintro e w' ⟨rfl, hx⟩
  refine ⟨?_, hx⟩
  unfold rateO
  split
  · rename_i h; rw [h]; rfl
  · rename_i h; exact ⟨_, _, rfl, by simpa using h⟩
theorem money_c (l : List UInt8) (w : World) (hl : l.length ≤ 20000) (he : Hid (Env w)) :
    Calls Tryz.prog 128 #[.string ⟨l.toArray⟩] w fun e w' => Tkn (monO l) e ∧ Ext w w' := by
  refine (L2.takeMoney_c l w hl he.out.two).mono ?_
  rintro e w' ⟨rfl, hx⟩
  refine ⟨?_, hx⟩
  unfold monO
  split
  · rename_i h; rw [h]; rfl
  · rename_i h; exact ⟨_, _, rfl, by simpa using h⟩
theorem day_c (l : List UInt8) (w : World) (hl : l.length ≤ 20000) (he : Hid (Env w)) :
    Calls Tryz.prog 129 #[.string ⟨l.toArray⟩] w fun e w' => Tkn (dayO l) e ∧ Ext w w' := by
  refine (L3.Take_c l w (by omega) he.out.three).mono ?_
  rintro e w' ⟨rfl, hx⟩
  refine ⟨?_, hx⟩
  unfold dayO
  split
  · rename_i h; rw [h]; rfl
  · rename_i h; exact ⟨_, _, rfl, by simpa using h⟩
end Go.Proofs.YtbnpaeejlfaboaaGreatDoor

namespace Go.Proofs.YtbnpaeejlfaboaaGreatDoor
open Go.RowKit Go.Lib
set_option linter.unusedVariables false
end Go.Proofs.YtbnpaeejlfaboaaGreatDoor

namespace Go.Proofs.YtbnpaeejlfaboaaGreatDoor
open Go.RowKit Go.Lib
set_option linter.unusedVariables false
theorem readN_c (wf w0 w : World) (r c : Nat) (vr vl vh : Value) (s : St) (t : Tok) (ts : List Tok) (hs : s.ts = t :: ts) (hl : ts.length ≤ 20010) (htl : t.text.length ≤ 20000) (he0 : Hid (Env w0)) (h : Inn wf w0 w r c vr vl vh s) :
    Calls Tryz.prog 124 #[.pointer (some ⟨r, 0, none⟩), .func (.func 125) #[] #[]] w fun e w' => e = picked (numO t.text) t ∧ Inn wf w0 w' r c vr vl vh { s with ts := ts } ∧ Exr r w w' := by
  replace h := show Hid _ from h
  replace hs := show Hid _ from hs
  cases hp : numO t.text with
  | some v =>
    replace hp := show Hid _ from hp
    go_enter Tryz.func124, Tryz.ntmps124
    go_wp2_with fail
    refine (take_c wf w0 _ r c vr vl vh s t ts hs.out hl h.out).mono ?_
    rintro e w1 ⟨rfl, h1, hx⟩
    have he1 : Hid (Env w1) := he0.out.ext h1.ext
    replace h1 := show Hid _ from h1
    replace hx := show Hid _ from hx
    unfold tokV
    obtain ⟨W2, b, hW, hb, hx2, b0, b1, b2⟩ := box_tok w1 t 93
    replace h1 := show Hid _ from h1.out.on hx2
    replace hx := show Hid _ from hx.out.on hx2
    replace he1 := show Hid (Env W2) from he1.out.ext hx2
    go_wp2_with fail
    refine (number_c t.text _ htl he1).mono ?_
    rintro e w3 ⟨hf, hx3⟩
    replace b0 := hx3.cell_of b0
    replace b1 := hx3.cell_of b1
    replace b2 := hx3.cell_of b2
    replace h1 := show Hid _ from h1.out.on hx3
    replace hx := show Hid _ from hx.out.on hx3
    clear hx2 hx3 hW hb
    rw [hp.out] at hf
    obtain rfl := show e = _ from hf
    go_wp2_with fail
    refine (need_ok t _).mono ?_
    rintro e w4 ⟨rfl, hx4⟩
    replace h1 := show Hid _ from h1.out.on hx4
    replace hx := show Hid _ from hx.out.on hx4
    clear hx4 b0 b1 b2
    go_wp2
    go_ret
    exact ⟨rfl, h1.out, hx.out⟩
  | none =>
    replace hp := show Hid _ from hp
    go_enter Tryz.func124, Tryz.ntmps124
    go_wp2_with fail
    refine (take_c wf w0 _ r c vr vl vh s t ts hs.out hl h.out).mono ?_
    rintro e w1 ⟨rfl, h1, hx⟩
    have he1 : Hid (Env w1) := he0.out.ext h1.ext
    replace h1 := show Hid _ from h1
    replace hx := show Hid _ from hx
    unfold tokV
    obtain ⟨W2, b, hW, hb, hx2, b0, b1, b2⟩ := box_tok w1 t 93
    replace h1 := show Hid _ from h1.out.on hx2
    replace hx := show Hid _ from hx.out.on hx2
    replace he1 := show Hid (Env W2) from he1.out.ext hx2
    go_wp2_with fail
    refine (number_c t.text _ htl he1).mono ?_
    rintro e w3 ⟨hf, hx3⟩
    replace b0 := hx3.cell_of b0
    replace b1 := hx3.cell_of b1
    replace b2 := hx3.cell_of b2
    replace h1 := show Hid _ from h1.out.on hx3
    replace hx := show Hid _ from hx.out.on hx3
    clear hx2 hx3 hW hb
    rw [hp.out] at hf
    obtain ⟨x, y, rfl, hy⟩ := hf
    go_wp2_with fail
    refine (need_no t _).mono ?_
    rintro e w4 ⟨rfl, hx4⟩
    replace h1 := show Hid _ from h1.out.on hx4
    replace hx := show Hid _ from hx.out.on hx4
    clear hx4 b0 b1 b2
    unfold thrown
    go_wp2
    exact ⟨rfl, rfl, h1.out, hx.out⟩
theorem readD_c (wf w0 w : World) (r c : Nat) (vr vl vh : Value) (s : St) (t : Tok) (ts : List Tok) (hs : s.ts = t :: ts) (hl : ts.length ≤ 20010) (htl : t.text.length ≤ 20000) (he0 : Hid (Env w0)) (h : Inn wf w0 w r c vr vl vh s) :
    Calls Tryz.prog 124 #[.pointer (some ⟨r, 0, none⟩), .func (.func 129) #[] #[]] w fun e w' => e = picked (dayO t.text) t ∧ Inn wf w0 w' r c vr vl vh { s with ts := ts } ∧ Exr r w w' := by
  replace h := show Hid _ from h
  replace hs := show Hid _ from hs
  cases hp : dayO t.text with
  | some v =>
    replace hp := show Hid _ from hp
    go_enter Tryz.func124, Tryz.ntmps124
    go_wp2_with fail
    refine (take_c wf w0 _ r c vr vl vh s t ts hs.out hl h.out).mono ?_
    rintro e w1 ⟨rfl, h1, hx⟩
    have he1 : Hid (Env w1) := he0.out.ext h1.ext
    replace h1 := show Hid _ from h1
    replace hx := show Hid _ from hx
    unfold tokV
    obtain ⟨W2, b, hW, hb, hx2, b0, b1, b2⟩ := box_tok w1 t 93
    replace h1 := show Hid _ from h1.out.on hx2
    replace hx := show Hid _ from hx.out.on hx2
    replace he1 := show Hid (Env W2) from he1.out.ext hx2
    go_wp2_with fail
    refine (day_c t.text _ htl he1).mono ?_
    rintro e w3 ⟨hf, hx3⟩
    replace b0 := hx3.cell_of b0
    replace b1 := hx3.cell_of b1
    replace b2 := hx3.cell_of b2
    replace h1 := show Hid _ from h1.out.on hx3
    replace hx := show Hid _ from hx.out.on hx3
    clear hx2 hx3 hW hb
    rw [hp.out] at hf
    obtain rfl := show e = _ from hf
    go_wp2_with fail
    refine (need_ok t _).mono ?_
    rintro e w4 ⟨rfl, hx4⟩
    replace h1 := show Hid _ from h1.out.on hx4
    replace hx := show Hid _ from hx.out.on hx4
    clear hx4 b0 b1 b2
    go_wp2
    go_ret
    exact ⟨rfl, h1.out, hx.out⟩
  | none =>
    replace hp := show Hid _ from hp
    go_enter Tryz.func124, Tryz.ntmps124
    go_wp2_with fail
    refine (take_c wf w0 _ r c vr vl vh s t ts hs.out hl h.out).mono ?_
    rintro e w1 ⟨rfl, h1, hx⟩
    have he1 : Hid (Env w1) := he0.out.ext h1.ext
    replace h1 := show Hid _ from h1
    replace hx := show Hid _ from hx
    unfold tokV
    obtain ⟨W2, b, hW, hb, hx2, b0, b1, b2⟩ := box_tok w1 t 93
    replace h1 := show Hid _ from h1.out.on hx2
    replace hx := show Hid _ from hx.out.on hx2
    replace he1 := show Hid (Env W2) from he1.out.ext hx2
    go_wp2_with fail
    refine (day_c t.text _ htl he1).mono ?_
    rintro e w3 ⟨hf, hx3⟩
    replace b0 := hx3.cell_of b0
    replace b1 := hx3.cell_of b1
    replace b2 := hx3.cell_of b2
    replace h1 := show Hid _ from h1.out.on hx3
    replace hx := show Hid _ from hx.out.on hx3
    clear hx2 hx3 hW hb
    rw [hp.out] at hf
    obtain ⟨x, y, rfl, hy⟩ := hf
    go_wp2_with fail
    refine (need_no t _).mono ?_
    rintro e w4 ⟨rfl, hx4⟩
    replace h1 := show Hid _ from h1.out.on hx4
    replace hx := show Hid _ from hx.out.on hx4
    clear hx4 b0 b1 b2
    unfold thrown
    go_wp2
    exact ⟨rfl, rfl, h1.out, hx.out⟩
theorem readR_c (wf w0 w : World) (r c : Nat) (vr vl vh : Value) (s : St) (t : Tok) (ts : List Tok) (hs : s.ts = t :: ts) (hl : ts.length ≤ 20010) (htl : t.text.length ≤ 20000) (he0 : Hid (Env w0)) (h : Inn wf w0 w r c vr vl vh s) :
    Calls Tryz.prog 126 #[.pointer (some ⟨r, 0, none⟩), .func (.func 127) #[] #[]] w fun e w' => e = picked (rateO t.text) t ∧ Inn wf w0 w' r c vr vl vh { s with ts := ts } ∧ Exr r w w' := by
  replace h := show Hid _ from h
  replace hs := show Hid _ from hs
  cases hp : rateO t.text with
  | some v =>
    replace hp := show Hid _ from hp
    go_enter Tryz.func126, Tryz.ntmps126
    go_wp2_with fail
    refine (take_c wf w0 _ r c vr vl vh s t ts hs.out hl h.out).mono ?_
    rintro e w1 ⟨rfl, h1, hx⟩
    have he1 : Hid (Env w1) := he0.out.ext h1.ext
    replace h1 := show Hid _ from h1
    replace hx := show Hid _ from hx
    unfold tokV
    obtain ⟨W2, b, hW, hb, hx2, b0, b1, b2⟩ := box_tok w1 t 93
    replace h1 := show Hid _ from h1.out.on hx2
    replace hx := show Hid _ from hx.out.on hx2
    replace he1 := show Hid (Env W2) from he1.out.ext hx2
    go_wp2_with fail
    refine (rate_c t.text _ htl he1).mono ?_
    rintro e w3 ⟨hf, hx3⟩
    replace b0 := hx3.cell_of b0
    replace b1 := hx3.cell_of b1
    replace b2 := hx3.cell_of b2
    replace h1 := show Hid _ from h1.out.on hx3
    replace hx := show Hid _ from hx.out.on hx3
    clear hx2 hx3 hW hb
    rw [hp.out] at hf
    obtain rfl := show e = _ from hf
    go_wp2_with fail
    refine (need_ok t _).mono ?_
    rintro e w4 ⟨rfl, hx4⟩
    replace h1 := show Hid _ from h1.out.on hx4
    replace hx := show Hid _ from hx.out.on hx4
    clear hx4 b0 b1 b2
    go_wp2
    go_ret
    exact ⟨rfl, h1.out, hx.out⟩
  | none =>
    replace hp := show Hid _ from hp
    go_enter Tryz.func126, Tryz.ntmps126
    go_wp2_with fail
    refine (take_c wf w0 _ r c vr vl vh s t ts hs.out hl h.out).mono ?_
    rintro e w1 ⟨rfl, h1, hx⟩
    have he1 : Hid (Env w1) := he0.out.ext h1.ext
    replace h1 := show Hid _ from h1
    replace hx := show Hid _ from hx
    unfold tokV
    obtain ⟨W2, b, hW, hb, hx2, b0, b1, b2⟩ := box_tok w1 t 93
    replace h1 := show Hid _ from h1.out.on hx2
    replace hx := show Hid _ from hx.out.on hx2
    replace he1 := show Hid (Env W2) from he1.out.ext hx2
    go_wp2_with fail
    refine (rate_c t.text _ htl he1).mono ?_
    rintro e w3 ⟨hf, hx3⟩
    replace b0 := hx3.cell_of b0
    replace b1 := hx3.cell_of b1
    replace b2 := hx3.cell_of b2
    replace h1 := show Hid _ from h1.out.on hx3
    replace hx := show Hid _ from hx.out.on hx3
    clear hx2 hx3 hW hb
    rw [hp.out] at hf
    obtain ⟨x, y, rfl, hy⟩ := hf
    go_wp2_with fail
    refine (need_no t _).mono ?_
    rintro e w4 ⟨rfl, hx4⟩
    replace h1 := show Hid _ from h1.out.on hx4
    replace hx := show Hid _ from hx.out.on hx4
    clear hx4 b0 b1 b2
    unfold thrown
    go_wp2
    exact ⟨rfl, rfl, h1.out, hx.out⟩
theorem readM_c (wf w0 w : World) (r c : Nat) (vr vl vh : Value) (s : St) (t : Tok) (ts : List Tok) (hs : s.ts = t :: ts) (hl : ts.length ≤ 20010) (htl : t.text.length ≤ 20000) (he0 : Hid (Env w0)) (h : Inn wf w0 w r c vr vl vh s) :
    Calls Tryz.prog 126 #[.pointer (some ⟨r, 0, none⟩), .func (.func 128) #[] #[]] w fun e w' => e = picked (monO t.text) t ∧ Inn wf w0 w' r c vr vl vh { s with ts := ts } ∧ Exr r w w' := by
  replace h := show Hid _ from h
  replace hs := show Hid _ from hs
  cases hp : monO t.text with
  | some v =>
    replace hp := show Hid _ from hp
    go_enter Tryz.func126, Tryz.ntmps126
    go_wp2_with fail
    refine (take_c wf w0 _ r c vr vl vh s t ts hs.out hl h.out).mono ?_
    rintro e w1 ⟨rfl, h1, hx⟩
    have he1 : Hid (Env w1) := he0.out.ext h1.ext
    replace h1 := show Hid _ from h1
    replace hx := show Hid _ from hx
    unfold tokV
    obtain ⟨W2, b, hW, hb, hx2, b0, b1, b2⟩ := box_tok w1 t 93
    replace h1 := show Hid _ from h1.out.on hx2
    replace hx := show Hid _ from hx.out.on hx2
    replace he1 := show Hid (Env W2) from he1.out.ext hx2
    go_wp2_with fail
    refine (money_c t.text _ htl he1).mono ?_
    rintro e w3 ⟨hf, hx3⟩
    replace b0 := hx3.cell_of b0
    replace b1 := hx3.cell_of b1
    replace b2 := hx3.cell_of b2
    replace h1 := show Hid _ from h1.out.on hx3
    replace hx := show Hid _ from hx.out.on hx3
    clear hx2 hx3 hW hb
    rw [hp.out] at hf
    obtain rfl := show e = _ from hf
    go_wp2_with fail
    refine (need_ok t _).mono ?_
    rintro e w4 ⟨rfl, hx4⟩
    replace h1 := show Hid _ from h1.out.on hx4
    replace hx := show Hid _ from hx.out.on hx4
    clear hx4 b0 b1 b2
    go_wp2
    go_ret
    exact ⟨rfl, h1.out, hx.out⟩
  | none =>
    replace hp := show Hid _ from hp
    go_enter Tryz.func126, Tryz.ntmps126
    go_wp2_with fail
    refine (take_c wf w0 _ r c vr vl vh s t ts hs.out hl h.out).mono ?_
    rintro e w1 ⟨rfl, h1, hx⟩
    have he1 : Hid (Env w1) := he0.out.ext h1.ext
    replace h1 := show Hid _ from h1
    replace hx := show Hid _ from hx
    unfold tokV
    obtain ⟨W2, b, hW, hb, hx2, b0, b1, b2⟩ := box_tok w1 t 93
    replace h1 := show Hid _ from h1.out.on hx2
    replace hx := show Hid _ from hx.out.on hx2
    replace he1 := show Hid (Env W2) from he1.out.ext hx2
    go_wp2_with fail
    refine (money_c t.text _ htl he1).mono ?_
    rintro e w3 ⟨hf, hx3⟩
    replace b0 := hx3.cell_of b0
    replace b1 := hx3.cell_of b1
    replace b2 := hx3.cell_of b2
    replace h1 := show Hid _ from h1.out.on hx3
    replace hx := show Hid _ from hx.out.on hx3
    clear hx2 hx3 hW hb
    rw [hp.out] at hf
    obtain ⟨x, y, rfl, hy⟩ := hf
    go_wp2_with fail
    refine (need_no t _).mono ?_
    rintro e w4 ⟨rfl, hx4⟩
    replace h1 := show Hid _ from h1.out.on hx4
    replace hx := show Hid _ from hx.out.on hx4
    clear hx4 b0 b1 b2
    unfold thrown
    go_wp2
    exact ⟨rfl, rfl, h1.out, hx.out⟩
/-- What a clause's reader leaves behind. -/
def Rds (wf w0 : World) (r c : Nat) (h : Nat → Bool) (X : Res (Prd × List Tok)) (e : Ending) (w' : World) : Prop :=
  Ext w0 w' ∧ match X with
    | .ok a => e = .returned (.tuple #[]) ∧ ∃ vr vl vh, Inn wf w0 w' r c vr vl vh ⟨a.2, a.1, h⟩
    | .no x y => e = thrown x y
theorem Rds.no {wf w0 w : World} {r c : Nat} {h : Nat → Bool} {x y : Nat} (hx : Ext w0 w) : Rds wf w0 r c h (.no x y) (thrown x y) w := ⟨hx, rfl⟩
theorem Rds.ok {wf w0 w : World} {r c : Nat} {s : St} {a : Prd × List Tok} {vr vl vh : Value} (hi : Inn wf w0 w r c vr vl vh ⟨a.2, a.1, s.had⟩) : Rds wf w0 r c s.had (.ok a) (.returned (.tuple #[])) w := ⟨hi.ext, rfl, vr, vl, vh, hi⟩
end Go.Proofs.YtbnpaeejlfaboaaGreatDoor

namespace Go.Proofs.YtbnpaeejlfaboaaGreatDoor
open Go.RowKit Go.Lib
set_option linter.unusedVariables false
theorem tk_some {f : List UInt8 → Option Int} {t : Tok} {ts : List Tok} {v : Int} (h : f t.text = some v) : tk f (t :: ts) = .ok (v, ts) := by
  simp only [tk, h]
theorem tk_none {f : List UInt8 → Option Int} {t : Tok} {ts : List Tok} (h : f t.text = none) : tk f (t :: ts) = .no 7 t.at_ := by
  simp only [tk, h]
theorem choose_x (wf w0 w : World) (r c : Nat) (vr vl vh : Value) (s : St) (t : Tok) (ts : List Tok) (g n cp : Nat) (o : Opts) (hs : s.ts = t :: ts) (hl : ts.length ≤ 20010) (hn : o.length = n) (hn2 : n ≤ 100) (ho : Opt w g o) (hg : g ≠ r) (h : Inn wf w0 w r c vr vl vh s) :
    Calls Tryz.prog 123 #[.pointer (some ⟨r, 0, none⟩), .slice (some ⟨g, 0, none⟩) n cp] w fun e w' => e = picked (pick o t.text) t ∧ Inn wf w0 w' r c vr vl vh { s with ts := ts } ∧ Exr r w w' := by
  subst hn; exact choose_c wf w0 w r c vr vl vh s t ts g cp o hs hl hn2 ho hg h
/-- A cell of the reader's block, and that it may be written. -/
theorem Inn.cell {wf w0 w : World} {r c : Nat} {vr vl vh : Value} {s : St} (h : Inn wf w0 w r c vr vl vh s) (k : Nat) (v : Value) (hv : ∀ vt, (rcells vt c s.p vr vl vh)[k]? = some v) : w.cell? ⟨r, k, none⟩ = some v ∧ w.frozen? ⟨r, k, none⟩ = false := by
  obtain ⟨vt, hr, _⟩ := h.row
  exact ⟨(cell_of_row w r k _ _ _ hr).trans (hv vt), frozen_of_row w r k _ _ hr⟩
theorem Inn.turn {wf w0 w : World} {r c : Nat} {vr vl vh : Value} {s : St} (h : Inn wf w0 w r c vr vl vh s) (k : Nat) (v : Value) (p : Prd) (hp : ∀ vt, (rcells vt c s.p vr vl vh).setIfInBounds k v = rcells vt c p vr vl vh) (h1 : p.rs = s.p.rs) (h2 : p.lt = s.p.lt) (h3 : p.hd = s.p.hd) : Inn wf w0 (w.setCell ⟨r, k, none⟩ v) r c vr vl vh { s with p := p } := by
  obtain ⟨vt, hr, ht⟩ := h.row
  exact h.move ((Exr.refl r w).set k v) rfl h1 h2 h3 ⟨vt, (heap_setCell_same w r k _ _ v hr).trans (by rw [hp vt]), ht⟩
theorem lay_count (w : World) : ∃ W b, w.alloc (.cells #[.string ⟨#[116, 104, 105, 114, 116, 121]⟩, .int .i64 1, .string ⟨#[102, 105, 120, 101, 100]⟩, .int .i64 2, .string ⟨#[97, 99, 116, 117, 97, 108]⟩, .int .i64 3] 140) = W ∧ w.heap.size = b ∧ Ext w W ∧ Opt W b oCount :=
  ⟨_, _, rfl, rfl, (Ext.refl w).alloc _ _, ⟨fun k u v hk => match k, hk with
    | 0, e => by
      obtain ⟨rfl, rfl⟩ : _ = u ∧ _ = v := by simpa [oCount] using e
      exact ⟨by simp [go_sem], by simp [go_sem]⟩
    | 1, e => by
      obtain ⟨rfl, rfl⟩ : _ = u ∧ _ = v := by simpa [oCount] using e
      exact ⟨by simp [go_sem], by simp [go_sem]⟩
    | 2, e => by
      obtain ⟨rfl, rfl⟩ : _ = u ∧ _ = v := by simpa [oCount] using e
      exact ⟨by simp [go_sem], by simp [go_sem]⟩
    | k + 3, e => by simp [oCount] at e⟩⟩
theorem lay_round (w : World) : ∃ W b, w.alloc (.cells #[.string ⟨#[104, 97, 108, 102, 45, 117, 112]⟩, .int .i64 1, .string ⟨#[100, 111, 119, 110]⟩, .int .i64 3] 140) = W ∧ w.heap.size = b ∧ Ext w W ∧ Opt W b oRound :=
  ⟨_, _, rfl, rfl, (Ext.refl w).alloc _ _, ⟨fun k u v hk => match k, hk with
    | 0, e => by
      obtain ⟨rfl, rfl⟩ : _ = u ∧ _ = v := by simpa [oRound] using e
      exact ⟨by simp [go_sem], by simp [go_sem]⟩
    | 1, e => by
      obtain ⟨rfl, rfl⟩ : _ = u ∧ _ = v := by simpa [oRound] using e
      exact ⟨by simp [go_sem], by simp [go_sem]⟩
    | k + 2, e => by simp [oRound] at e⟩⟩
theorem lay_kind (w : World) : ∃ W b, w.alloc (.cells #[.string ⟨#[97, 110, 110, 117, 105, 116, 121]⟩, .int .i64 1, .string ⟨#[101, 113, 117, 97, 108]⟩, .int .i64 2, .string ⟨#[98, 117, 108, 108, 101, 116]⟩, .int .i64 3] 140) = W ∧ w.heap.size = b ∧ Ext w W ∧ Opt W b oKind :=
  ⟨_, _, rfl, rfl, (Ext.refl w).alloc _ _, ⟨fun k u v hk => match k, hk with
    | 0, e => by
      obtain ⟨rfl, rfl⟩ : _ = u ∧ _ = v := by simpa [oKind] using e
      exact ⟨by simp [go_sem], by simp [go_sem]⟩
    | 1, e => by
      obtain ⟨rfl, rfl⟩ : _ = u ∧ _ = v := by simpa [oKind] using e
      exact ⟨by simp [go_sem], by simp [go_sem]⟩
    | 2, e => by
      obtain ⟨rfl, rfl⟩ : _ = u ∧ _ = v := by simpa [oKind] using e
      exact ⟨by simp [go_sem], by simp [go_sem]⟩
    | k + 3, e => by simp [oKind] at e⟩⟩
theorem lay_over (w : World) : ∃ W b, w.alloc (.cells #[.string ⟨#[104, 111, 108, 100]⟩, .int .i64 1, .string ⟨#[112, 114, 101, 112, 97, 121]⟩, .int .i64 2, .string ⟨#[114, 101, 102, 117, 110, 100]⟩, .int .i64 3] 140) = W ∧ w.heap.size = b ∧ Ext w W ∧ Opt W b oOver :=
  ⟨_, _, rfl, rfl, (Ext.refl w).alloc _ _, ⟨fun k u v hk => match k, hk with
    | 0, e => by
      obtain ⟨rfl, rfl⟩ : _ = u ∧ _ = v := by simpa [oOver] using e
      exact ⟨by simp [go_sem], by simp [go_sem]⟩
    | 1, e => by
      obtain ⟨rfl, rfl⟩ : _ = u ∧ _ = v := by simpa [oOver] using e
      exact ⟨by simp [go_sem], by simp [go_sem]⟩
    | 2, e => by
      obtain ⟨rfl, rfl⟩ : _ = u ∧ _ = v := by simpa [oOver] using e
      exact ⟨by simp [go_sem], by simp [go_sem]⟩
    | k + 3, e => by simp [oOver] at e⟩⟩
theorem lay_roll (w : World) : ∃ W b, w.alloc (.cells #[.string ⟨#[115, 116, 97, 121]⟩, .int .i64 1, .string ⟨#[110, 101, 120, 116]⟩, .int .i64 2, .string ⟨#[119, 105, 116, 104, 105, 110]⟩, .int .i64 3, .string ⟨#[112, 114, 101, 118, 105, 111, 117, 115]⟩, .int .i64 4] 140) = W ∧ w.heap.size = b ∧ Ext w W ∧ Opt W b oRoll :=
  ⟨_, _, rfl, rfl, (Ext.refl w).alloc _ _, ⟨fun k u v hk => match k, hk with
    | 0, e => by
      obtain ⟨rfl, rfl⟩ : _ = u ∧ _ = v := by simpa [oRoll] using e
      exact ⟨by simp [go_sem], by simp [go_sem]⟩
    | 1, e => by
      obtain ⟨rfl, rfl⟩ : _ = u ∧ _ = v := by simpa [oRoll] using e
      exact ⟨by simp [go_sem], by simp [go_sem]⟩
    | 2, e => by
      obtain ⟨rfl, rfl⟩ : _ = u ∧ _ = v := by simpa [oRoll] using e
      exact ⟨by simp [go_sem], by simp [go_sem]⟩
    | 3, e => by
      obtain ⟨rfl, rfl⟩ : _ = u ∧ _ = v := by simpa [oRoll] using e
      exact ⟨by simp [go_sem], by simp [go_sem]⟩
    | k + 4, e => by simp [oRoll] at e⟩⟩
theorem count_c (wf w0 w : World) (r c : Nat) (vr vl vh : Value) (s : St) (t : Tok) (ts : List Tok) (hs : s.ts = t :: ts) (hl : ts.length ≤ 20010) (h : Inn wf w0 w r c vr vl vh s) :
    Calls Tryz.prog 85 #[.pointer (some ⟨r, 0, none⟩)] w fun e w' => Rds wf w0 r c s.had (clauseR 0 s.p s.ts) e w' := by
  replace h := show Hid _ from h
  replace hs := show Hid _ from hs
  obtain ⟨W, g, hW, hg, hx0, ho⟩ := lay_count w
  have hne : Hid (g ≠ r) := by have := h.out.lt.1; show g ≠ r; omega
  have h0 : Hid (Inn wf w0 W r c vr vl vh s) := h.out.on hx0
  replace ho := show Hid _ from ho
  clear hx0
  go_enter Tryz.func85, Tryz.ntmps85
  go_wp2_with fail
  refine (choose_x wf w0 _ r c vr vl vh s t ts g 3 3 oCount hs.out hl rfl (by decide) ho.out hne.out h0.out).mono ?_
  rintro e w1 ⟨hf, h1, hx⟩
  replace h1 := show Hid _ from h1
  clear hx ho hne h0 hW hg
  cases hp : pick oCount t.text with
  | some v =>
    rw [hp] at hf
    obtain rfl : e = .returned (.int .i64 v) := hf
    have hc := h1.out.cell 3 (.int .i64 s.p.cn) (fun _ => rfl)
    obtain ⟨c0, z0⟩ := hc
    replace hp := show Hid _ from hp
    go_wp2
    go_end0
    have hfin := h1.out.turn 3 (.int .i64 v) { s.p with cn := v } (fun _ => rfl) rfl rfl rfl
    have hX : clauseR 0 s.p s.ts = .ok ({ s.p with cn := v }, ts) := by
      rw [hs.out]; show (tk _ _).bind _ = _; rw [tk_some hp.out]; rfl
    rw [hX]
    exact Rds.ok (s := s) hfin
  | none =>
    rw [hp] at hf
    obtain rfl : e = thrown 7 t.at_ := hf
    replace hp := show Hid _ from hp
    unfold thrown
    go_wp2
    have hX : clauseR 0 s.p s.ts = .no 7 t.at_ := by
      rw [hs.out]; show (tk _ _).bind _ = _; rw [tk_none hp.out]; rfl
    rw [hX]
    exact ⟨rfl, Rds.no h1.out.ext⟩
theorem round_c (wf w0 w : World) (r c : Nat) (vr vl vh : Value) (s : St) (t : Tok) (ts : List Tok) (hs : s.ts = t :: ts) (hl : ts.length ≤ 20010) (h : Inn wf w0 w r c vr vl vh s) :
    Calls Tryz.prog 86 #[.pointer (some ⟨r, 0, none⟩)] w fun e w' => Rds wf w0 r c s.had (clauseR 1 s.p s.ts) e w' := by
  replace h := show Hid _ from h
  replace hs := show Hid _ from hs
  obtain ⟨W, g, hW, hg, hx0, ho⟩ := lay_round w
  have hne : Hid (g ≠ r) := by have := h.out.lt.1; show g ≠ r; omega
  have h0 : Hid (Inn wf w0 W r c vr vl vh s) := h.out.on hx0
  replace ho := show Hid _ from ho
  clear hx0
  go_enter Tryz.func86, Tryz.ntmps86
  go_wp2_with fail
  refine (choose_x wf w0 _ r c vr vl vh s t ts g 2 2 oRound hs.out hl rfl (by decide) ho.out hne.out h0.out).mono ?_
  rintro e w1 ⟨hf, h1, hx⟩
  replace h1 := show Hid _ from h1
  clear hx ho hne h0 hW hg
  cases hp : pick oRound t.text with
  | some v =>
    rw [hp] at hf
    obtain rfl : e = .returned (.int .i64 v) := hf
    have hc := h1.out.cell 4 (.int .i64 s.p.rd) (fun _ => rfl)
    obtain ⟨c0, z0⟩ := hc
    replace hp := show Hid _ from hp
    go_wp2
    go_end0
    have hfin := h1.out.turn 4 (.int .i64 v) { s.p with rd := v } (fun _ => rfl) rfl rfl rfl
    have hX : clauseR 1 s.p s.ts = .ok ({ s.p with rd := v }, ts) := by
      rw [hs.out]; show (tk _ _).bind _ = _; rw [tk_some hp.out]; rfl
    rw [hX]
    exact Rds.ok (s := s) hfin
  | none =>
    rw [hp] at hf
    obtain rfl : e = thrown 7 t.at_ := hf
    replace hp := show Hid _ from hp
    unfold thrown
    go_wp2
    have hX : clauseR 1 s.p s.ts = .no 7 t.at_ := by
      rw [hs.out]; show (tk _ _).bind _ = _; rw [tk_none hp.out]; rfl
    rw [hX]
    exact ⟨rfl, Rds.no h1.out.ext⟩
theorem kind_c (wf w0 w : World) (r c : Nat) (vr vl vh : Value) (s : St) (t : Tok) (ts : List Tok) (hs : s.ts = t :: ts) (hl : ts.length ≤ 20010) (h : Inn wf w0 w r c vr vl vh s) :
    Calls Tryz.prog 87 #[.pointer (some ⟨r, 0, none⟩)] w fun e w' => Rds wf w0 r c s.had (clauseR 2 s.p s.ts) e w' := by
  replace h := show Hid _ from h
  replace hs := show Hid _ from hs
  obtain ⟨W, g, hW, hg, hx0, ho⟩ := lay_kind w
  have hne : Hid (g ≠ r) := by have := h.out.lt.1; show g ≠ r; omega
  have h0 : Hid (Inn wf w0 W r c vr vl vh s) := h.out.on hx0
  replace ho := show Hid _ from ho
  clear hx0
  go_enter Tryz.func87, Tryz.ntmps87
  go_wp2_with fail
  refine (choose_x wf w0 _ r c vr vl vh s t ts g 3 3 oKind hs.out hl rfl (by decide) ho.out hne.out h0.out).mono ?_
  rintro e w1 ⟨hf, h1, hx⟩
  replace h1 := show Hid _ from h1
  clear hx ho hne h0 hW hg
  cases hp : pick oKind t.text with
  | some v =>
    rw [hp] at hf
    obtain rfl : e = .returned (.int .i64 v) := hf
    have hc := h1.out.cell 5 (.int .i64 s.p.kd) (fun _ => rfl)
    obtain ⟨c0, z0⟩ := hc
    replace hp := show Hid _ from hp
    go_wp2
    go_end0
    have hfin := h1.out.turn 5 (.int .i64 v) { s.p with kd := v } (fun _ => rfl) rfl rfl rfl
    have hX : clauseR 2 s.p s.ts = .ok ({ s.p with kd := v }, ts) := by
      rw [hs.out]; show (tk _ _).bind _ = _; rw [tk_some hp.out]; rfl
    rw [hX]
    exact Rds.ok (s := s) hfin
  | none =>
    rw [hp] at hf
    obtain rfl : e = thrown 7 t.at_ := hf
    replace hp := show Hid _ from hp
    unfold thrown
    go_wp2
    have hX : clauseR 2 s.p s.ts = .no 7 t.at_ := by
      rw [hs.out]; show (tk _ _).bind _ = _; rw [tk_none hp.out]; rfl
    rw [hX]
    exact ⟨rfl, Rds.no h1.out.ext⟩
theorem over_c (wf w0 w : World) (r c : Nat) (vr vl vh : Value) (s : St) (t : Tok) (ts : List Tok) (hs : s.ts = t :: ts) (hl : ts.length ≤ 20010) (h : Inn wf w0 w r c vr vl vh s) :
    Calls Tryz.prog 98 #[.pointer (some ⟨r, 0, none⟩)] w fun e w' => Rds wf w0 r c s.had (clauseR 13 s.p s.ts) e w' := by
  replace h := show Hid _ from h
  replace hs := show Hid _ from hs
  obtain ⟨W, g, hW, hg, hx0, ho⟩ := lay_over w
  have hne : Hid (g ≠ r) := by have := h.out.lt.1; show g ≠ r; omega
  have h0 : Hid (Inn wf w0 W r c vr vl vh s) := h.out.on hx0
  replace ho := show Hid _ from ho
  clear hx0
  go_enter Tryz.func98, Tryz.ntmps98
  go_wp2_with fail
  refine (choose_x wf w0 _ r c vr vl vh s t ts g 3 3 oOver hs.out hl rfl (by decide) ho.out hne.out h0.out).mono ?_
  rintro e w1 ⟨hf, h1, hx⟩
  replace h1 := show Hid _ from h1
  clear hx ho hne h0 hW hg
  cases hp : pick oOver t.text with
  | some v =>
    rw [hp] at hf
    obtain rfl : e = .returned (.int .i64 v) := hf
    have hc := h1.out.cell 16 (.int .i64 s.p.ov) (fun _ => rfl)
    obtain ⟨c0, z0⟩ := hc
    replace hp := show Hid _ from hp
    go_wp2
    go_end0
    have hfin := h1.out.turn 16 (.int .i64 v) { s.p with ov := v } (fun _ => rfl) rfl rfl rfl
    have hX : clauseR 13 s.p s.ts = .ok ({ s.p with ov := v }, ts) := by
      rw [hs.out]; show (tk _ _).bind _ = _; rw [tk_some hp.out]; rfl
    rw [hX]
    exact Rds.ok (s := s) hfin
  | none =>
    rw [hp] at hf
    obtain rfl : e = thrown 7 t.at_ := hf
    replace hp := show Hid _ from hp
    unfold thrown
    go_wp2
    have hX : clauseR 13 s.p s.ts = .no 7 t.at_ := by
      rw [hs.out]; show (tk _ _).bind _ = _; rw [tk_none hp.out]; rfl
    rw [hX]
    exact ⟨rfl, Rds.no h1.out.ext⟩
theorem roll_c (wf w0 w : World) (r c : Nat) (vr vl vh : Value) (s : St) (t : Tok) (ts : List Tok) (hs : s.ts = t :: ts) (hl : ts.length ≤ 20010) (h : Inn wf w0 w r c vr vl vh s) :
    Calls Tryz.prog 99 #[.pointer (some ⟨r, 0, none⟩)] w fun e w' => Rds wf w0 r c s.had (clauseR 14 s.p s.ts) e w' := by
  replace h := show Hid _ from h
  replace hs := show Hid _ from hs
  obtain ⟨W, g, hW, hg, hx0, ho⟩ := lay_roll w
  have hne : Hid (g ≠ r) := by have := h.out.lt.1; show g ≠ r; omega
  have h0 : Hid (Inn wf w0 W r c vr vl vh s) := h.out.on hx0
  replace ho := show Hid _ from ho
  clear hx0
  go_enter Tryz.func99, Tryz.ntmps99
  go_wp2_with fail
  refine (choose_x wf w0 _ r c vr vl vh s t ts g 4 4 oRoll hs.out hl rfl (by decide) ho.out hne.out h0.out).mono ?_
  rintro e w1 ⟨hf, h1, hx⟩
  replace h1 := show Hid _ from h1
  clear hx ho hne h0 hW hg
  cases hp : pick oRoll t.text with
  | some v =>
    rw [hp] at hf
    obtain rfl : e = .returned (.int .i64 v) := hf
    have hc := h1.out.cell 19 (.int .i64 s.p.rl) (fun _ => rfl)
    obtain ⟨c0, z0⟩ := hc
    replace hp := show Hid _ from hp
    go_wp2
    go_end0
    have hfin := h1.out.turn 19 (.int .i64 v) { s.p with rl := v } (fun _ => rfl) rfl rfl rfl
    have hX : clauseR 14 s.p s.ts = .ok ({ s.p with rl := v }, ts) := by
      rw [hs.out]; show (tk _ _).bind _ = _; rw [tk_some hp.out]; rfl
    rw [hX]
    exact Rds.ok (s := s) hfin
  | none =>
    rw [hp] at hf
    obtain rfl : e = thrown 7 t.at_ := hf
    replace hp := show Hid _ from hp
    unfold thrown
    go_wp2
    have hX : clauseR 14 s.p s.ts = .no 7 t.at_ := by
      rw [hs.out]; show (tk _ _).bind _ = _; rw [tk_none hp.out]; rfl
    rw [hX]
    exact ⟨rfl, Rds.no h1.out.ext⟩
theorem every_r (wf w0 w : World) (r c : Nat) (vr vl vh : Value) (s : St) (t : Tok) (ts : List Tok) (hs : s.ts = t :: ts) (hl : ts.length ≤ 20010) (htl : t.text.length ≤ 20000) (he0 : Hid (Env w0)) (h : Inn wf w0 w r c vr vl vh s) :
    Calls Tryz.prog 88 #[.pointer (some ⟨r, 0, none⟩)] w fun e w' => Rds wf w0 r c s.had (clauseR 3 s.p s.ts) e w' := by
  replace h := show Hid _ from h
  replace hs := show Hid _ from hs
  go_enter Tryz.func88, Tryz.ntmps88
  go_wp2_with fail
  refine (readN_c wf w0 _ r c vr vl vh s t ts hs.out hl htl he0 h.out).mono ?_
  rintro e w1 ⟨hf, h1, hx⟩
  replace h1 := show Hid _ from h1
  clear hx
  cases hp : numO t.text with
  | some v =>
    rw [hp] at hf
    obtain rfl : e = .returned (.int .i64 v) := hf
    have hc := h1.out.cell 6 (.int .i64 s.p.ev) (fun _ => rfl)
    obtain ⟨c0, z0⟩ := hc
    replace hp := show Hid _ from hp
    go_wp2
    go_end0
    have hfin := h1.out.turn 6 (.int .i64 v) { s.p with ev := v } (fun _ => rfl) rfl rfl rfl
    have hX : clauseR 3 s.p s.ts = .ok ({ s.p with ev := v }, ts) := by
      rw [hs.out]; show (tk _ _).bind _ = _; rw [tk_some hp.out]; rfl
    rw [hX]
    exact Rds.ok (s := s) hfin
  | none =>
    rw [hp] at hf
    obtain rfl : e = thrown 7 t.at_ := hf
    replace hp := show Hid _ from hp
    unfold thrown
    go_wp2
    have hX : clauseR 3 s.p s.ts = .no 7 t.at_ := by
      rw [hs.out]; show (tk _ _).bind _ = _; rw [tk_none hp.out]; rfl
    rw [hX]
    exact ⟨rfl, Rds.no h1.out.ext⟩
theorem times_r (wf w0 w : World) (r c : Nat) (vr vl vh : Value) (s : St) (t : Tok) (ts : List Tok) (hs : s.ts = t :: ts) (hl : ts.length ≤ 20010) (htl : t.text.length ≤ 20000) (he0 : Hid (Env w0)) (h : Inn wf w0 w r c vr vl vh s) :
    Calls Tryz.prog 89 #[.pointer (some ⟨r, 0, none⟩)] w fun e w' => Rds wf w0 r c s.had (clauseR 4 s.p s.ts) e w' := by
  replace h := show Hid _ from h
  replace hs := show Hid _ from hs
  go_enter Tryz.func89, Tryz.ntmps89
  go_wp2_with fail
  refine (readN_c wf w0 _ r c vr vl vh s t ts hs.out hl htl he0 h.out).mono ?_
  rintro e w1 ⟨hf, h1, hx⟩
  replace h1 := show Hid _ from h1
  clear hx
  cases hp : numO t.text with
  | some v =>
    rw [hp] at hf
    obtain rfl : e = .returned (.int .i64 v) := hf
    have hc := h1.out.cell 7 (.int .i64 s.p.tm) (fun _ => rfl)
    obtain ⟨c0, z0⟩ := hc
    replace hp := show Hid _ from hp
    go_wp2
    go_end0
    have hfin := h1.out.turn 7 (.int .i64 v) { s.p with tm := v } (fun _ => rfl) rfl rfl rfl
    have hX : clauseR 4 s.p s.ts = .ok ({ s.p with tm := v }, ts) := by
      rw [hs.out]; show (tk _ _).bind _ = _; rw [tk_some hp.out]; rfl
    rw [hX]
    exact Rds.ok (s := s) hfin
  | none =>
    rw [hp] at hf
    obtain rfl : e = thrown 7 t.at_ := hf
    replace hp := show Hid _ from hp
    unfold thrown
    go_wp2
    have hX : clauseR 4 s.p s.ts = .no 7 t.at_ := by
      rw [hs.out]; show (tk _ _).bind _ = _; rw [tk_none hp.out]; rfl
    rw [hX]
    exact ⟨rfl, Rds.no h1.out.ext⟩
theorem grace_r (wf w0 w : World) (r c : Nat) (vr vl vh : Value) (s : St) (t : Tok) (ts : List Tok) (hs : s.ts = t :: ts) (hl : ts.length ≤ 20010) (htl : t.text.length ≤ 20000) (he0 : Hid (Env w0)) (h : Inn wf w0 w r c vr vl vh s) :
    Calls Tryz.prog 90 #[.pointer (some ⟨r, 0, none⟩)] w fun e w' => Rds wf w0 r c s.had (clauseR 5 s.p s.ts) e w' := by
  replace h := show Hid _ from h
  replace hs := show Hid _ from hs
  go_enter Tryz.func90, Tryz.ntmps90
  go_wp2_with fail
  refine (readN_c wf w0 _ r c vr vl vh s t ts hs.out hl htl he0 h.out).mono ?_
  rintro e w1 ⟨hf, h1, hx⟩
  replace h1 := show Hid _ from h1
  clear hx
  cases hp : numO t.text with
  | some v =>
    rw [hp] at hf
    obtain rfl : e = .returned (.int .i64 v) := hf
    have hc := h1.out.cell 8 (.int .i64 s.p.gr) (fun _ => rfl)
    obtain ⟨c0, z0⟩ := hc
    replace hp := show Hid _ from hp
    go_wp2
    go_end0
    have hfin := h1.out.turn 8 (.int .i64 v) { s.p with gr := v } (fun _ => rfl) rfl rfl rfl
    have hX : clauseR 5 s.p s.ts = .ok ({ s.p with gr := v }, ts) := by
      rw [hs.out]; show (tk _ _).bind _ = _; rw [tk_some hp.out]; rfl
    rw [hX]
    exact Rds.ok (s := s) hfin
  | none =>
    rw [hp] at hf
    obtain rfl : e = thrown 7 t.at_ := hf
    replace hp := show Hid _ from hp
    unfold thrown
    go_wp2
    have hX : clauseR 5 s.p s.ts = .no 7 t.at_ := by
      rw [hs.out]; show (tk _ _).bind _ = _; rw [tk_none hp.out]; rfl
    rw [hX]
    exact ⟨rfl, Rds.no h1.out.ext⟩
theorem rate_r (wf w0 w : World) (r c : Nat) (vr vl vh : Value) (s : St) (t : Tok) (ts : List Tok) (hs : s.ts = t :: ts) (hl : ts.length ≤ 20010) (htl : t.text.length ≤ 20000) (he0 : Hid (Env w0)) (h : Inn wf w0 w r c vr vl vh s) :
    Calls Tryz.prog 91 #[.pointer (some ⟨r, 0, none⟩)] w fun e w' => Rds wf w0 r c s.had (clauseR 6 s.p s.ts) e w' := by
  replace h := show Hid _ from h
  replace hs := show Hid _ from hs
  go_enter Tryz.func91, Tryz.ntmps91
  go_wp2_with fail
  refine (readR_c wf w0 _ r c vr vl vh s t ts hs.out hl htl he0 h.out).mono ?_
  rintro e w1 ⟨hf, h1, hx⟩
  replace h1 := show Hid _ from h1
  clear hx
  cases hp : rateO t.text with
  | some v =>
    rw [hp] at hf
    obtain rfl : e = .returned (.int .i64 v) := hf
    have hc := h1.out.cell 9 (.int .i64 s.p.rt) (fun _ => rfl)
    obtain ⟨c0, z0⟩ := hc
    replace hp := show Hid _ from hp
    go_wp2
    go_end0
    have hfin := h1.out.turn 9 (.int .i64 v) { s.p with rt := v } (fun _ => rfl) rfl rfl rfl
    have hX : clauseR 6 s.p s.ts = .ok ({ s.p with rt := v }, ts) := by
      rw [hs.out]; show (tk _ _).bind _ = _; rw [tk_some hp.out]; rfl
    rw [hX]
    exact Rds.ok (s := s) hfin
  | none =>
    rw [hp] at hf
    obtain rfl : e = thrown 7 t.at_ := hf
    replace hp := show Hid _ from hp
    unfold thrown
    go_wp2
    have hX : clauseR 6 s.p s.ts = .no 7 t.at_ := by
      rw [hs.out]; show (tk _ _).bind _ = _; rw [tk_none hp.out]; rfl
    rw [hX]
    exact ⟨rfl, Rds.no h1.out.ext⟩
theorem penalty_r (wf w0 w : World) (r c : Nat) (vr vl vh : Value) (s : St) (t : Tok) (ts : List Tok) (hs : s.ts = t :: ts) (hl : ts.length ≤ 20010) (htl : t.text.length ≤ 20000) (he0 : Hid (Env w0)) (h : Inn wf w0 w r c vr vl vh s) :
    Calls Tryz.prog 92 #[.pointer (some ⟨r, 0, none⟩)] w fun e w' => Rds wf w0 r c s.had (clauseR 7 s.p s.ts) e w' := by
  replace h := show Hid _ from h
  replace hs := show Hid _ from hs
  go_enter Tryz.func92, Tryz.ntmps92
  go_wp2_with fail
  refine (readR_c wf w0 _ r c vr vl vh s t ts hs.out hl htl he0 h.out).mono ?_
  rintro e w1 ⟨hf, h1, hx⟩
  replace h1 := show Hid _ from h1
  clear hx
  cases hp : rateO t.text with
  | some v =>
    rw [hp] at hf
    obtain rfl : e = .returned (.int .i64 v) := hf
    have hc := h1.out.cell 11 (.int .i64 s.p.pn) (fun _ => rfl)
    obtain ⟨c0, z0⟩ := hc
    replace hp := show Hid _ from hp
    go_wp2
    go_end0
    have hfin := h1.out.turn 11 (.int .i64 v) { s.p with pn := v } (fun _ => rfl) rfl rfl rfl
    have hX : clauseR 7 s.p s.ts = .ok ({ s.p with pn := v }, ts) := by
      rw [hs.out]; show (tk _ _).bind _ = _; rw [tk_some hp.out]; rfl
    rw [hX]
    exact Rds.ok (s := s) hfin
  | none =>
    rw [hp] at hf
    obtain rfl : e = thrown 7 t.at_ := hf
    replace hp := show Hid _ from hp
    unfold thrown
    go_wp2
    have hX : clauseR 7 s.p s.ts = .no 7 t.at_ := by
      rw [hs.out]; show (tk _ _).bind _ = _; rw [tk_none hp.out]; rfl
    rw [hX]
    exact ⟨rfl, Rds.no h1.out.ext⟩
theorem cap_r (wf w0 w : World) (r c : Nat) (vr vl vh : Value) (s : St) (t : Tok) (ts : List Tok) (hs : s.ts = t :: ts) (hl : ts.length ≤ 20010) (htl : t.text.length ≤ 20000) (he0 : Hid (Env w0)) (h : Inn wf w0 w r c vr vl vh s) :
    Calls Tryz.prog 95 #[.pointer (some ⟨r, 0, none⟩)] w fun e w' => Rds wf w0 r c s.had (clauseR 10 s.p s.ts) e w' := by
  replace h := show Hid _ from h
  replace hs := show Hid _ from hs
  go_enter Tryz.func95, Tryz.ntmps95
  go_wp2_with fail
  refine (readM_c wf w0 _ r c vr vl vh s t ts hs.out hl htl he0 h.out).mono ?_
  rintro e w1 ⟨hf, h1, hx⟩
  replace h1 := show Hid _ from h1
  clear hx
  cases hp : monO t.text with
  | some v =>
    rw [hp] at hf
    obtain rfl : e = .returned (.int .i64 v) := hf
    have hc := h1.out.cell 18 (.int .i64 s.p.cp) (fun _ => rfl)
    obtain ⟨c0, z0⟩ := hc
    replace hp := show Hid _ from hp
    go_wp2
    go_end0
    have hfin := h1.out.turn 18 (.int .i64 v) { s.p with cp := v } (fun _ => rfl) rfl rfl rfl
    have hX : clauseR 10 s.p s.ts = .ok ({ s.p with cp := v }, ts) := by
      rw [hs.out]; show (tk _ _).bind _ = _; rw [tk_some hp.out]; rfl
    rw [hX]
    exact Rds.ok (s := s) hfin
  | none =>
    rw [hp] at hf
    obtain rfl : e = thrown 7 t.at_ := hf
    replace hp := show Hid _ from hp
    unfold thrown
    go_wp2
    have hX : clauseR 10 s.p s.ts = .no 7 t.at_ := by
      rw [hs.out]; show (tk _ _).bind _ = _; rw [tk_none hp.out]; rfl
    rw [hX]
    exact ⟨rfl, Rds.no h1.out.ext⟩
end Go.Proofs.YtbnpaeejlfaboaaGreatDoor

namespace Go.Proofs.YtbnpaeejlfaboaaGreatDoor
open Go.RowKit Go.Lib
set_option linter.unusedVariables false
theorem info_int : (Tryz.prog.info? 3).map (fun i => (i.zero, i.size, i.bytes)) = some (some (.int .i64 0), 1, 8) := by kernel_rfl
theorem info_rs : (Tryz.prog.info? 57).map (fun i => (i.zero, i.size, i.bytes)) = some (some (.agg #[.int .i64 0, .int .i64 0]), 2, 16) := by kernel_rfl
theorem info_lt : (Tryz.prog.info? 60).map (fun i => (i.zero, i.size, i.bytes)) = some (some (.agg #[.int .i64 0, .int .i64 0]), 2, 16) := by kernel_rfl
theorem own_slice {w : World} {B : Nat} {e : TypeId} {z n : Nat} {v : Value} {xs : List Value} (h : w.ownsRow B e z v n xs) : ∃ ao c, v = .slice ao n c := by
  rcases h.2 with ⟨rfl, h0⟩ | ⟨g, c, cur, rfl, _⟩
  · subst h0; exact ⟨_, _, rfl⟩
  · exact ⟨_, _, rfl⟩
theorem own_tag {w : World} {B : Nat} {e : TypeId} {z n : Nat} {v : Value} {xs : List Value} (h : w.ownsRow B e z v n xs) (k : Nat) (hk : v.ownBlock = some k) : ∃ cur, w.heap[k]? = some (Obj.cells cur e (0, 0)) := by
  rcases h.2 with ⟨rfl, h0⟩ | ⟨g, c, cur, rfl, _, h3, _⟩
  · cases hk
  · obtain rfl : g = k := by simpa [Value.ownBlock] using hk
    exact ⟨cur, h3⟩
/-- A list has grown; the reader is told of it next. -/
structure Grn (wf w0 w : World) (r c : Nat) (vr vl vh : Value) (s : St) (e : TypeId) (w' : World) : Prop where
  ext : Ext w0 w'
  row : ∃ vt, w'.heap[r]? = some (.cells (rcells vt c s.p vr vl vh) 90 (0, 0)) ∧ Tks w0 vt s.ts
  cls : w'.heap[c]? = some (.cells (ccells r s.had) 109 (0, 0))
  kp : Kp wf w'
  keep : ∀ (f : TypeId) (k : Nat) (cur : Array Value), f ≠ e → w.heap[k]? = some (Obj.cells cur f (0, 0)) → w'.heap[k]? = w.heap[k]?
theorem Inn.grow {wf w0 w w' : World} {r c : Nat} {vr vl vh : Value} {s : St} {e : TypeId} {z n : Nat} {v : Value} {xs : List Value} (h : Inn wf w0 w r c vr vl vh s) (ho : w.ownsRow w0.heap.size e z v n xs) (hg : w.grownBy w' v.ownBlock)
    (h1 : e ≠ 90) (h2 : e ≠ 109) (h3 : e ≠ 27) (h4 : e ≠ 93) : Grn wf w0 w r c vr vl vh s e w' := by
  have hk : ∀ (f : TypeId) (k : Nat) (cur : Array Value), f ≠ e → w.heap[k]? = some (Obj.cells cur f (0, 0)) → w'.heap[k]? = w.heap[k]? := fun f k cur hf hk => hg.block k (Array.getElem?_eq_some_iff.1 hk).1 (fun e1 => by
    obtain ⟨cur2, h3⟩ := own_tag ho k e1.symm
    have := hk.symm.trans h3
    simp at this
    exact hf this.2)
  obtain ⟨vt, hr, ht⟩ := h.row
  exact ⟨⟨h.ext.below.grown hg h.ext.size (L7.own_lo ho)⟩, ⟨vt, (hk _ _ _ (Ne.symm h1) hr).trans hr, ht⟩, (hk _ _ _ (Ne.symm h2) h.cls).trans h.cls, h.kp.go fun f k cur hf => hk f k cur (by rcases hf with rfl | rfl; exact Ne.symm h3; exact Ne.symm h4), hk⟩
theorem keep_set {w : World} {r k : Nat} {v : Value} {cells : Array Value} {T : TypeId} (hr : w.heap[r]? = some (Obj.cells cells T (0, 0))) (f : TypeId) (hf : f ≠ T) (j : Nat) (cur : Array Value) (hj : w.heap[j]? = some (Obj.cells cur f (0, 0))) : (w.setCell ⟨r, k, none⟩ v).heap[j]? = w.heap[j]? :=
  heap_setCell_other _ _ _ _ (by
    show j ≠ r
    rintro rfl
    have := hj.symm.trans hr
    simp at this
    exact hf this.2)
theorem Grn.fin_r {wf w0 w w' : World} {r c : Nat} {vr vl vh : Value} {s : St} (h : Inn wf w0 w r c vr vl vh s) (g : Grn wf w0 w r c vr vl vh s 57 w') (v' : Value) (a x : Int) (ho : w'.ownsRow w0.heap.size 57 2 v' (s.p.rs.length + 1) (cellsP s.p.rs ++ [.int .i64 a, .int .i64 x])) : Inn wf w0 (w'.setCell ⟨r, 10, none⟩ v') r c v' vl vh { s with p := { s.p with rs := s.p.rs ++ [(a, x)] } } := by
  obtain ⟨vt, hr, ht⟩ := g.row
  refine ⟨g.ext.setCell h.lo _, h.lo, h.loc, ⟨vt, (heap_setCell_same w' r 10 _ _ v' hr).trans rfl, ht⟩, ?_, ?_, ?_, ?_, g.kp.go fun f k cur hf hk => keep_set hr f (by rcases hf with rfl | rfl <;> decide) k cur hk⟩
  · exact (keep_set hr _ (by decide) c _ g.cls).trans g.cls
  · have e1 : (cellsP (s.p.rs ++ [(a, x)])) = cellsP s.p.rs ++ [.int .i64 a, .int .i64 x] := by simp [cellsP]
    have e2 : (s.p.rs ++ [(a, x)]).length = s.p.rs.length + 1 := by simp
    show World.ownsRow _ _ _ _ _ (s.p.rs ++ [(a, x)]).length _
    rw [e2]
    show World.ownsRow _ _ _ _ _ _ (cellsP (s.p.rs ++ [(a, x)]))
    rw [e1]
    exact own_keep ho (keep_set hr _ (by decide))
  · exact own_keep (own_keep h.sl (fun k cur => g.keep _ k cur (by decide))) (keep_set hr _ (by decide))
  · exact own_keep (own_keep h.sh (fun k cur => g.keep _ k cur (by decide))) (keep_set hr _ (by decide))
theorem Grn.fin_l {wf w0 w w' : World} {r c : Nat} {vr vl vh : Value} {s : St} (h : Inn wf w0 w r c vr vl vh s) (g : Grn wf w0 w r c vr vl vh s 60 w') (v' : Value) (a x : Int) (ho : w'.ownsRow w0.heap.size 60 2 v' (s.p.lt.length + 1) (cellsP s.p.lt ++ [.int .i64 a, .int .i64 x])) : Inn wf w0 (w'.setCell ⟨r, 17, none⟩ v') r c vr v' vh { s with p := { s.p with lt := s.p.lt ++ [(a, x)] } } := by
  obtain ⟨vt, hr, ht⟩ := g.row
  refine ⟨g.ext.setCell h.lo _, h.lo, h.loc, ⟨vt, (heap_setCell_same w' r 17 _ _ v' hr).trans rfl, ht⟩, ?_, ?_, ?_, ?_, g.kp.go fun f k cur hf hk => keep_set hr f (by rcases hf with rfl | rfl <;> decide) k cur hk⟩
  · exact (keep_set hr _ (by decide) c _ g.cls).trans g.cls
  · exact own_keep (own_keep h.sr (fun k cur => g.keep _ k cur (by decide))) (keep_set hr _ (by decide))
  · have e1 : (cellsP (s.p.lt ++ [(a, x)])) = cellsP s.p.lt ++ [.int .i64 a, .int .i64 x] := by simp [cellsP]
    have e2 : (s.p.lt ++ [(a, x)]).length = s.p.lt.length + 1 := by simp
    show World.ownsRow _ _ _ _ _ (s.p.lt ++ [(a, x)]).length _
    rw [e2]
    show World.ownsRow _ _ _ _ _ _ (cellsP (s.p.lt ++ [(a, x)]))
    rw [e1]
    exact own_keep ho (keep_set hr _ (by decide))
  · exact own_keep (own_keep h.sh (fun k cur => g.keep _ k cur (by decide))) (keep_set hr _ (by decide))
theorem Grn.fin_h {wf w0 w w' : World} {r c : Nat} {vr vl vh : Value} {s : St} (h : Inn wf w0 w r c vr vl vh s) (g : Grn wf w0 w r c vr vl vh s 3 w') (v' : Value) (x : Int) (ho : w'.ownsRow w0.heap.size 3 1 v' (s.p.hd.length + 1) (s.p.hd.map (.int .i64) ++ [.int .i64 x])) : Inn wf w0 (w'.setCell ⟨r, 20, none⟩ v') r c vr vl v' { s with p := { s.p with hd := s.p.hd ++ [x] } } := by
  obtain ⟨vt, hr, ht⟩ := g.row
  refine ⟨g.ext.setCell h.lo _, h.lo, h.loc, ⟨vt, (heap_setCell_same w' r 20 _ _ v' hr).trans rfl, ht⟩, ?_, ?_, ?_, ?_, g.kp.go fun f k cur hf hk => keep_set hr f (by rcases hf with rfl | rfl <;> decide) k cur hk⟩
  · exact (keep_set hr _ (by decide) c _ g.cls).trans g.cls
  · exact own_keep (own_keep h.sr (fun k cur => g.keep _ k cur (by decide))) (keep_set hr _ (by decide))
  · exact own_keep (own_keep h.sl (fun k cur => g.keep _ k cur (by decide))) (keep_set hr _ (by decide))
  · have e1 : ((s.p.hd ++ [x]).map (Value.int .i64)) = s.p.hd.map (.int .i64) ++ [.int .i64 x] := by simp
    have e2 : (s.p.hd ++ [x]).length = s.p.hd.length + 1 := by simp
    show World.ownsRow _ _ _ _ _ (s.p.hd ++ [x]).length _
    rw [e2]
    show World.ownsRow _ _ _ _ _ _ ((s.p.hd ++ [x]).map (Value.int .i64))
    rw [e1]
    exact own_keep ho (keep_set hr _ (by decide))
theorem holiday_no (wf w0 w : World) (r c : Nat) (vr vl vh : Value) (s : St) (t : Tok) (ts : List Tok) (hs : s.ts = t :: ts) (hl : ts.length ≤ 20010) (htl : t.text.length ≤ 20000) (hfew : s.p.hd.length ≤ 20010) (he0 : Hid (Env w0)) (h : Inn wf w0 w r c vr vl vh s) (hp : dayO t.text = none) :
    Calls Tryz.prog 96 #[.pointer (some ⟨r, 0, none⟩)] w fun e w' => Rds wf w0 r c s.had (.no 7 t.at_) e w' := by
  go_enter Tryz.func96, Tryz.ntmps96
  have hvh := (h.cell 20 vh (fun _ => rfl)).1
  obtain ⟨ao, cp, hvs⟩ := own_slice h.sh
  subst hvs
  replace h := show Hid _ from h
  replace hs := show Hid _ from hs
  replace hp := show Hid _ from hp
  refine L8.wp_region_thrown (fun W => True) (fun a => a.defers = []) [] (fun t => none) (fun x W => Rds wf w0 r c s.had (.no 7 t.at_) (.panicked x) W) (by kernel_rfl) (fun _ _ _ h1 _ h3 => ⟨h1, h3⟩) trivial (fun hHeld => ?_)
  clear hHeld
  have hd : Ext w w.drew := (Ext.refl w).drew
  replace hvh := hd.cell_of hvh
  replace h := show Hid _ from h.out.on hd
  generalize w.drew = w1 at *
  clear hd
  refine L8.takeT 0 (oi := { dst := some 2, op := Op.move (Operand.tmp 0), type := 53, pos := "clauses.go:97", after := #[], guard := none }) (v := .pointer (some ⟨r, 0, none⟩)) rfl (by kernel_rfl) (by kernel_rfl) (by kernel_rfl) (by decide) (Or.inl ⟨by rfl, fun W hW => ?_⟩) trivial ?_
  · go_simp
  simp only [Act.put, List.setIfInBounds_toArray, List.set_cons_zero, List.set_cons_succ]
  refine L8.takeT 1 (oi := { dst := some 3, op := Op.move (Operand.tmp 0), type := 53, pos := "clauses.go:97", after := #[], guard := none }) (v := .pointer (some ⟨r, 0, none⟩)) rfl (by kernel_rfl) (by kernel_rfl) (by kernel_rfl) (by decide) (Or.inl ⟨by rfl, fun W hW => ?_⟩) trivial ?_
  · go_simp
  simp only [Act.put, List.setIfInBounds_toArray, List.set_cons_zero, List.set_cons_succ]
  refine L8.takeT 2 (oi := { dst := some 4, op := Op.nilCheck (Operand.tmp 3), type := 0, pos := "clauses.go:97", after := #[{ on := 1, ground := Ground.data }], guard := none }) (v := .pointer (some ⟨r, 0, none⟩)) rfl (by kernel_rfl) (by kernel_rfl) (by kernel_rfl) (by decide) (Or.inl ⟨by rfl, fun W hW => ?_⟩) trivial ?_
  · go_simp
  simp only [Act.put, List.setIfInBounds_toArray, List.set_cons_zero, List.set_cons_succ]
  refine L8.takeT 3 (oi := { dst := some 5, op := Op.fieldAddr 90 (Operand.tmp 4) 2, type := 0, pos := "clauses.go:97", after := #[{ on := 2, ground := Ground.data }], guard := none }) (v := .pointer (some ⟨r, 2, none⟩)) rfl (by kernel_rfl) (by kernel_rfl) (by kernel_rfl) (by decide) (Or.inl ⟨by rfl, fun W hW => ?_⟩) trivial ?_
  · go_simp
  simp only [Act.put, List.setIfInBounds_toArray, List.set_cons_zero, List.set_cons_succ]
  refine L8.takeT 4 (oi := { dst := some 6, op := Op.fieldAddr 27 (Operand.tmp 5) 15, type := 0, pos := "clauses.go:97", after := #[{ on := 3, ground := Ground.data }], guard := none }) (v := .pointer (some ⟨r, 20, none⟩)) rfl (by kernel_rfl) (by kernel_rfl) (by kernel_rfl) (by decide) (Or.inl ⟨by rfl, fun W hW => ?_⟩) trivial ?_
  · go_simp
  simp only [Act.put, List.setIfInBounds_toArray, List.set_cons_zero, List.set_cons_succ]
  refine L8.takeT 6 (oi := { dst := some 8, op := Op.move (Operand.tmp 0), type := 53, pos := "clauses.go:97", after := #[], guard := none }) (v := .pointer (some ⟨r, 0, none⟩)) rfl (by kernel_rfl) (by kernel_rfl) (by kernel_rfl) (by decide) (Or.inl ⟨by rfl, fun W hW => ?_⟩) trivial ?_
  · go_simp
  simp only [Act.put, List.setIfInBounds_toArray, List.set_cons_zero, List.set_cons_succ]
  refine wpAnyH_ready (rs := [5, 7]) (by kernel_rfl) (by simp) ?_
  refine AllReadyH.cons (o := { dst := some 7, op := Op.load 25 (Operand.tmp 6), type := 25, pos := "clauses.go:97", after := #[{ on := 4, ground := Ground.data }], guard := none }) rfl (fun K hK => ?_) (AllReadyH.cons (o := { dst := some 9, op := Op.call { callee := Callee.value (Operand.func 124), args := #[Operand.tmp 8, Operand.func 129], argTypes := #[53, 142] }, type := 3, pos := "clauses.go:97", after := #[{ on := 6, ground := Ground.data }], guard := none }) rfl (fun K hK => ?_) AllReadyH.nil)
  · go_simp
    refine hK.out _ _ trivial ?_
    clear hK K
    intro _
    try simp only [Act.put, List.setIfInBounds_toArray, List.set_cons_zero, List.set_cons_succ]
    refine wpAnyH_ready (rs := [7]) (by kernel_rfl) (by simp) ?_
    refine AllReadyH.cons (o := { dst := some 9, op := Op.call { callee := Callee.value (Operand.func 124), args := #[Operand.tmp 8, Operand.func 129], argTypes := #[53, 142] }, type := 3, pos := "clauses.go:97", after := #[{ on := 6, ground := Ground.data }], guard := none }) rfl (fun K hK => ?_) AllReadyH.nil
    go_simp
    refine (readD_c wf w0 _ r c vr vl (.slice ao s.p.hd.length cp) s t ts hs.out hl htl he0 h.out).mono ?_
    rintro e w2 ⟨he, h1, hx⟩
    rw [hp.out] at he
    obtain rfl : e = thrown 7 t.at_ := he
    exact ⟨rfl, (fun _ h => by cases h), Rds.no h1.ext⟩
  · go_simp
    refine (readD_c wf w0 _ r c vr vl (.slice ao s.p.hd.length cp) s t ts hs.out hl htl he0 h.out).mono ?_
    rintro e w2 ⟨he, h1, hx⟩
    rw [hp.out] at he
    obtain rfl : e = thrown 7 t.at_ := he
    exact ⟨rfl, (fun _ h => by cases h), Rds.no h1.ext⟩
theorem holiday_ok (wf w0 w : World) (r c : Nat) (vr vl vh : Value) (s : St) (t : Tok) (ts : List Tok) (hs : s.ts = t :: ts) (hl : ts.length ≤ 20010) (htl : t.text.length ≤ 20000) (hfew : s.p.hd.length ≤ 20010) (he0 : Hid (Env w0)) (h : Inn wf w0 w r c vr vl vh s) (v : Int) (hp : dayO t.text = some v) :
    Calls Tryz.prog 96 #[.pointer (some ⟨r, 0, none⟩)] w fun e w' => Rds wf w0 r c s.had (.ok ({ s.p with hd := s.p.hd ++ [v] }, ts)) e w' := by
  obtain ⟨i0, hi, hz0, hz1, hz2⟩ := info_parts info_int
  go_enter Tryz.func96, Tryz.ntmps96
  have hvh := (h.cell 20 vh (fun _ => rfl)).1
  obtain ⟨ao, cp, hvs⟩ := own_slice h.sh
  subst hvs
  replace h := show Hid _ from h
  replace hs := show Hid _ from hs
  replace hp := show Hid _ from hp
  refine L8.wp_region_thrown (fun W => True) (fun a => a.defers = []) [] (fun t => none) (fun x W => Rds wf w0 r c s.had (.ok ({ s.p with hd := s.p.hd ++ [v] }, ts)) (.panicked x) W) (by kernel_rfl) (fun _ _ _ h1 _ h3 => ⟨h1, h3⟩) trivial (fun hHeld => ?_)
  clear hHeld
  have hd : Ext w w.drew := (Ext.refl w).drew
  replace hvh := hd.cell_of hvh
  replace h := show Hid _ from h.out.on hd
  generalize w.drew = w1 at *
  clear hd
  refine L8.takeT 0 (oi := { dst := some 2, op := Op.move (Operand.tmp 0), type := 53, pos := "clauses.go:97", after := #[], guard := none }) (v := .pointer (some ⟨r, 0, none⟩)) rfl (by kernel_rfl) (by kernel_rfl) (by kernel_rfl) (by decide) (Or.inl ⟨by rfl, fun W hW => ?_⟩) trivial ?_
  · go_simp
  simp only [Act.put, List.setIfInBounds_toArray, List.set_cons_zero, List.set_cons_succ]
  refine L8.takeT 1 (oi := { dst := some 3, op := Op.move (Operand.tmp 0), type := 53, pos := "clauses.go:97", after := #[], guard := none }) (v := .pointer (some ⟨r, 0, none⟩)) rfl (by kernel_rfl) (by kernel_rfl) (by kernel_rfl) (by decide) (Or.inl ⟨by rfl, fun W hW => ?_⟩) trivial ?_
  · go_simp
  simp only [Act.put, List.setIfInBounds_toArray, List.set_cons_zero, List.set_cons_succ]
  refine L8.takeT 2 (oi := { dst := some 4, op := Op.nilCheck (Operand.tmp 3), type := 0, pos := "clauses.go:97", after := #[{ on := 1, ground := Ground.data }], guard := none }) (v := .pointer (some ⟨r, 0, none⟩)) rfl (by kernel_rfl) (by kernel_rfl) (by kernel_rfl) (by decide) (Or.inl ⟨by rfl, fun W hW => ?_⟩) trivial ?_
  · go_simp
  simp only [Act.put, List.setIfInBounds_toArray, List.set_cons_zero, List.set_cons_succ]
  refine L8.takeT 3 (oi := { dst := some 5, op := Op.fieldAddr 90 (Operand.tmp 4) 2, type := 0, pos := "clauses.go:97", after := #[{ on := 2, ground := Ground.data }], guard := none }) (v := .pointer (some ⟨r, 2, none⟩)) rfl (by kernel_rfl) (by kernel_rfl) (by kernel_rfl) (by decide) (Or.inl ⟨by rfl, fun W hW => ?_⟩) trivial ?_
  · go_simp
  simp only [Act.put, List.setIfInBounds_toArray, List.set_cons_zero, List.set_cons_succ]
  refine L8.takeT 4 (oi := { dst := some 6, op := Op.fieldAddr 27 (Operand.tmp 5) 15, type := 0, pos := "clauses.go:97", after := #[{ on := 3, ground := Ground.data }], guard := none }) (v := .pointer (some ⟨r, 20, none⟩)) rfl (by kernel_rfl) (by kernel_rfl) (by kernel_rfl) (by decide) (Or.inl ⟨by rfl, fun W hW => ?_⟩) trivial ?_
  · go_simp
  simp only [Act.put, List.setIfInBounds_toArray, List.set_cons_zero, List.set_cons_succ]
  refine L8.takeT 6 (oi := { dst := some 8, op := Op.move (Operand.tmp 0), type := 53, pos := "clauses.go:97", after := #[], guard := none }) (v := .pointer (some ⟨r, 0, none⟩)) rfl (by kernel_rfl) (by kernel_rfl) (by kernel_rfl) (by decide) (Or.inl ⟨by rfl, fun W hW => ?_⟩) trivial ?_
  · go_simp
  simp only [Act.put, List.setIfInBounds_toArray, List.set_cons_zero, List.set_cons_succ]
  refine wpAnyH_ready (rs := [5, 7]) (by kernel_rfl) (by simp) ?_
  refine AllReadyH.cons (o := { dst := some 7, op := Op.load 25 (Operand.tmp 6), type := 25, pos := "clauses.go:97", after := #[{ on := 4, ground := Ground.data }], guard := none }) rfl (fun K hK => ?_) (AllReadyH.cons (o := { dst := some 9, op := Op.call { callee := Callee.value (Operand.func 124), args := #[Operand.tmp 8, Operand.func 129], argTypes := #[53, 142] }, type := 3, pos := "clauses.go:97", after := #[{ on := 6, ground := Ground.data }], guard := none }) rfl (fun K hK => ?_) AllReadyH.nil)
  · go_simp
    refine hK.out _ _ trivial ?_
    clear hK K
    intro _
    try simp only [Act.put, List.setIfInBounds_toArray, List.set_cons_zero, List.set_cons_succ]
    refine wpAnyH_ready (rs := [7]) (by kernel_rfl) (by simp) ?_
    refine AllReadyH.cons (o := { dst := some 9, op := Op.call { callee := Callee.value (Operand.func 124), args := #[Operand.tmp 8, Operand.func 129], argTypes := #[53, 142] }, type := 3, pos := "clauses.go:97", after := #[{ on := 6, ground := Ground.data }], guard := none }) rfl (fun K hK => ?_) AllReadyH.nil
    go_simp
    refine (readD_c wf w0 _ r c vr vl (.slice ao s.p.hd.length cp) s t ts hs.out hl htl he0 h.out).mono ?_
    rintro e w2 ⟨he, h1, hx⟩
    rw [hp.out] at he
    obtain rfl : e = .returned (.int .i64 v) := he
    have hvh2 := (h1.cell 20 (.slice ao s.p.hd.length cp) (fun _ => rfl)).1
    replace h1 := show Hid _ from h1
    clear hx
    try dsimp only
    refine hK.out _ _ trivial ?_
    clear hK K
    intro _
    try simp only [Act.put, List.setIfInBounds_toArray, List.set_cons_zero, List.set_cons_succ]
    refine wpAnyH_ready (rs := [8]) (by kernel_rfl) (by simp) ?_
    refine AllReadyH.cons (o := { dst := some 10, op := Op.buildSlice 25 1 #[(0, Operand.tmp 9)], type := 25, pos := "clauses.go:97", after := #[{ on := 7, ground := Ground.data }], guard := none }) rfl (fun K hK => ?_) AllReadyH.nil
    go_simp
    refine hK.out _ _ trivial ?_
    clear hK K
    intro _
    try simp only [Act.put, List.setIfInBounds_toArray, List.set_cons_zero, List.set_cons_succ]
    refine wpAnyH_ready (rs := [9]) (by kernel_rfl) (by simp) ?_
    refine AllReadyH.cons (o := { dst := some 11, op := Op.call { callee := Callee.builtin Builtin.append, args := #[Operand.tmp 7, Operand.tmp 10], argTypes := #[25, 25] }, type := 25, pos := "clauses.go:97", after := #[{ on := 5, ground := Ground.data }, { on := 8, ground := Ground.data }, { on := 7, ground := Ground.chain }], guard := none }) rfl (fun K hK => ?_) AllReadyH.nil
    rw [if_pos (by rfl)]
    have h2 := h1.out.on ((Ext.refl w2).alloc #[.int .i64 v] 3)
    have hsz := h2.ext.size
    refine wp_append_own _ (.tmp 7) (.tmp 10) 25 rfl w0.heap.size 3 i0 (.int .i64 0) 1 8 Tryz.underlying25 hi hz0 hz1 hz2 rfl (by decide) _ _ _ rfl h2.sh ⟨w2.heap.size, 0, none⟩ 1 1 [.int .i64 v] rfl rfl ?c1 ?c2 ?c3 ?c4 ?c5 ?_
    case c1 =>
      intro p u hp
      match p, hp with
      | 0, hp => simp at hp; subst hp; simp [Addr.add, go_sem]
      | p + 1, hp => simp at hp
    case c2 => intro u hu; simp at hu; subst hu; rfl
    case c3 => unfold maxLen; show s.p.hd.length + 1 ≤ _; omega
    case c4 => show (s.p.hd.length + 1) * 8 ≤ _; omega
    case c5 => exact hsz
    intro v' w3 hown hgrow _
    obtain ⟨ao2, cp2, hv2⟩ := own_slice hown
    subst hv2
    have hG := h2.grow h2.sh hgrow (by decide) (by decide) (by decide) (by decide)
    obtain ⟨vt, hr3, _⟩ := hG.row
    have c3 := (cell_of_row w3 r 20 _ _ _ hr3).trans (show _ = some (.slice ao s.p.hd.length cp) from rfl)
    have z3 := frozen_of_row w3 r 20 _ _ hr3
    have hfin := show Hid _ from Grn.fin_h h2 hG _ v hown
    clear hr3 hG hgrow hown hvh2 hvh h1 h2 hsz
    refine hK.out _ _ trivial ?_
    clear hK K
    intro _
    try simp only [Act.put, List.setIfInBounds_toArray, List.set_cons_zero, List.set_cons_succ]
    refine L8.takeT 10 (oi := { dst := some 12, op := Op.nilCheck (Operand.tmp 2), type := 0, pos := "clauses.go:97", after := #[{ on := 0, ground := Ground.data }, { on := 0, ground := Ground.phase }, { on := 1, ground := Ground.phase }, { on := 2, ground := Ground.phase }, { on := 3, ground := Ground.phase }, { on := 4, ground := Ground.phase }, { on := 5, ground := Ground.phase }, { on := 6, ground := Ground.phase }, { on := 7, ground := Ground.phase }, { on := 8, ground := Ground.phase }, { on := 9, ground := Ground.phase }], guard := none }) (v := .pointer (some ⟨r, 0, none⟩)) rfl (by kernel_rfl) (by kernel_rfl) (by kernel_rfl) (by decide) (Or.inl ⟨by rfl, fun W hW => ?_⟩) trivial ?_
    · go_simp
    simp only [Act.put, List.setIfInBounds_toArray, List.set_cons_zero, List.set_cons_succ]
    refine L8.takeT 11 (oi := { dst := some 13, op := Op.fieldAddr 90 (Operand.tmp 12) 2, type := 0, pos := "clauses.go:97", after := #[{ on := 10, ground := Ground.data }, { on := 0, ground := Ground.phase }, { on := 1, ground := Ground.phase }, { on := 2, ground := Ground.phase }, { on := 3, ground := Ground.phase }, { on := 4, ground := Ground.phase }, { on := 5, ground := Ground.phase }, { on := 6, ground := Ground.phase }, { on := 7, ground := Ground.phase }, { on := 8, ground := Ground.phase }, { on := 9, ground := Ground.phase }], guard := none }) (v := .pointer (some ⟨r, 2, none⟩)) rfl (by kernel_rfl) (by kernel_rfl) (by kernel_rfl) (by decide) (Or.inl ⟨by rfl, fun W hW => ?_⟩) trivial ?_
    · go_simp
    simp only [Act.put, List.setIfInBounds_toArray, List.set_cons_zero, List.set_cons_succ]
    refine L8.takeT 12 (oi := { dst := some 14, op := Op.fieldAddr 27 (Operand.tmp 13) 15, type := 0, pos := "clauses.go:97", after := #[{ on := 11, ground := Ground.data }, { on := 0, ground := Ground.phase }, { on := 1, ground := Ground.phase }, { on := 2, ground := Ground.phase }, { on := 3, ground := Ground.phase }, { on := 4, ground := Ground.phase }, { on := 5, ground := Ground.phase }, { on := 6, ground := Ground.phase }, { on := 7, ground := Ground.phase }, { on := 8, ground := Ground.phase }, { on := 9, ground := Ground.phase }], guard := none }) (v := .pointer (some ⟨r, 20, none⟩)) rfl (by kernel_rfl) (by kernel_rfl) (by kernel_rfl) (by decide) (Or.inl ⟨by rfl, fun W hW => ?_⟩) trivial ?_
    · go_simp
    simp only [Act.put, List.setIfInBounds_toArray, List.set_cons_zero, List.set_cons_succ]
    refine wpAnyH_ready (rs := [13]) (by kernel_rfl) (by simp) ?_
    refine AllReadyH.cons (o := { dst := none, op := Op.store 25 (Operand.tmp 14) (Operand.tmp 11), type := 0, pos := "clauses.go:97", after := #[{ on := 12, ground := Ground.data }, { on := 9, ground := Ground.data }, { on := 9, ground := Ground.chain }, { on := 0, ground := Ground.phase }, { on := 1, ground := Ground.phase }, { on := 2, ground := Ground.phase }, { on := 3, ground := Ground.phase }, { on := 4, ground := Ground.phase }, { on := 5, ground := Ground.phase }, { on := 6, ground := Ground.phase }, { on := 7, ground := Ground.phase }, { on := 8, ground := Ground.phase }, { on := 9, ground := Ground.phase }], guard := none }) rfl (fun K hK => ?_) AllReadyH.nil
    go_simp
    refine hK.out _ _ trivial ?_
    clear hK K
    intro _
    try simp only [Act.put, List.setIfInBounds_toArray, List.set_cons_zero, List.set_cons_succ]
    refine wpAnyH_done (by kernel_rfl) (L8.ThrowQ.normal ?_) _
    exact ⟨rfl, _, results_none rfl _ _ _, Rds.ok (s := s) hfin.out⟩
  · go_simp
    refine (readD_c wf w0 _ r c vr vl (.slice ao s.p.hd.length cp) s t ts hs.out hl htl he0 h.out).mono ?_
    rintro e w2 ⟨he, h1, hx⟩
    rw [hp.out] at he
    obtain rfl : e = .returned (.int .i64 v) := he
    have hvh2 := (h1.cell 20 (.slice ao s.p.hd.length cp) (fun _ => rfl)).1
    replace h1 := show Hid _ from h1
    clear hx
    try dsimp only
    refine hK.out _ _ trivial ?_
    clear hK K
    intro _
    try simp only [Act.put, List.setIfInBounds_toArray, List.set_cons_zero, List.set_cons_succ]
    refine wpAnyH_ready (rs := [5, 8]) (by kernel_rfl) (by simp) ?_
    refine AllReadyH.cons (o := { dst := some 7, op := Op.load 25 (Operand.tmp 6), type := 25, pos := "clauses.go:97", after := #[{ on := 4, ground := Ground.data }], guard := none }) rfl (fun K hK => ?_) (AllReadyH.cons (o := { dst := some 10, op := Op.buildSlice 25 1 #[(0, Operand.tmp 9)], type := 25, pos := "clauses.go:97", after := #[{ on := 7, ground := Ground.data }], guard := none }) rfl (fun K hK => ?_) AllReadyH.nil)
    · go_simp
      refine hK.out _ _ trivial ?_
      clear hK K
      intro _
      try simp only [Act.put, List.setIfInBounds_toArray, List.set_cons_zero, List.set_cons_succ]
      refine wpAnyH_ready (rs := [8]) (by kernel_rfl) (by simp) ?_
      refine AllReadyH.cons (o := { dst := some 10, op := Op.buildSlice 25 1 #[(0, Operand.tmp 9)], type := 25, pos := "clauses.go:97", after := #[{ on := 7, ground := Ground.data }], guard := none }) rfl (fun K hK => ?_) AllReadyH.nil
      go_simp
      refine hK.out _ _ trivial ?_
      clear hK K
      intro _
      try simp only [Act.put, List.setIfInBounds_toArray, List.set_cons_zero, List.set_cons_succ]
      refine wpAnyH_ready (rs := [9]) (by kernel_rfl) (by simp) ?_
      refine AllReadyH.cons (o := { dst := some 11, op := Op.call { callee := Callee.builtin Builtin.append, args := #[Operand.tmp 7, Operand.tmp 10], argTypes := #[25, 25] }, type := 25, pos := "clauses.go:97", after := #[{ on := 5, ground := Ground.data }, { on := 8, ground := Ground.data }, { on := 7, ground := Ground.chain }], guard := none }) rfl (fun K hK => ?_) AllReadyH.nil
      rw [if_pos (by rfl)]
      have h2 := h1.out.on ((Ext.refl w2).alloc #[.int .i64 v] 3)
      have hsz := h2.ext.size
      refine wp_append_own _ (.tmp 7) (.tmp 10) 25 rfl w0.heap.size 3 i0 (.int .i64 0) 1 8 Tryz.underlying25 hi hz0 hz1 hz2 rfl (by decide) _ _ _ rfl h2.sh ⟨w2.heap.size, 0, none⟩ 1 1 [.int .i64 v] rfl rfl ?c1 ?c2 ?c3 ?c4 ?c5 ?_
      case c1 =>
        intro p u hp
        match p, hp with
        | 0, hp => simp at hp; subst hp; simp [Addr.add, go_sem]
        | p + 1, hp => simp at hp
      case c2 => intro u hu; simp at hu; subst hu; rfl
      case c3 => unfold maxLen; show s.p.hd.length + 1 ≤ _; omega
      case c4 => show (s.p.hd.length + 1) * 8 ≤ _; omega
      case c5 => exact hsz
      intro v' w3 hown hgrow _
      obtain ⟨ao2, cp2, hv2⟩ := own_slice hown
      subst hv2
      have hG := h2.grow h2.sh hgrow (by decide) (by decide) (by decide) (by decide)
      obtain ⟨vt, hr3, _⟩ := hG.row
      have c3 := (cell_of_row w3 r 20 _ _ _ hr3).trans (show _ = some (.slice ao s.p.hd.length cp) from rfl)
      have z3 := frozen_of_row w3 r 20 _ _ hr3
      have hfin := show Hid _ from Grn.fin_h h2 hG _ v hown
      clear hr3 hG hgrow hown hvh2 hvh h1 h2 hsz
      refine hK.out _ _ trivial ?_
      clear hK K
      intro _
      try simp only [Act.put, List.setIfInBounds_toArray, List.set_cons_zero, List.set_cons_succ]
      refine L8.takeT 10 (oi := { dst := some 12, op := Op.nilCheck (Operand.tmp 2), type := 0, pos := "clauses.go:97", after := #[{ on := 0, ground := Ground.data }, { on := 0, ground := Ground.phase }, { on := 1, ground := Ground.phase }, { on := 2, ground := Ground.phase }, { on := 3, ground := Ground.phase }, { on := 4, ground := Ground.phase }, { on := 5, ground := Ground.phase }, { on := 6, ground := Ground.phase }, { on := 7, ground := Ground.phase }, { on := 8, ground := Ground.phase }, { on := 9, ground := Ground.phase }], guard := none }) (v := .pointer (some ⟨r, 0, none⟩)) rfl (by kernel_rfl) (by kernel_rfl) (by kernel_rfl) (by decide) (Or.inl ⟨by rfl, fun W hW => ?_⟩) trivial ?_
      · go_simp
      simp only [Act.put, List.setIfInBounds_toArray, List.set_cons_zero, List.set_cons_succ]
      refine L8.takeT 11 (oi := { dst := some 13, op := Op.fieldAddr 90 (Operand.tmp 12) 2, type := 0, pos := "clauses.go:97", after := #[{ on := 10, ground := Ground.data }, { on := 0, ground := Ground.phase }, { on := 1, ground := Ground.phase }, { on := 2, ground := Ground.phase }, { on := 3, ground := Ground.phase }, { on := 4, ground := Ground.phase }, { on := 5, ground := Ground.phase }, { on := 6, ground := Ground.phase }, { on := 7, ground := Ground.phase }, { on := 8, ground := Ground.phase }, { on := 9, ground := Ground.phase }], guard := none }) (v := .pointer (some ⟨r, 2, none⟩)) rfl (by kernel_rfl) (by kernel_rfl) (by kernel_rfl) (by decide) (Or.inl ⟨by rfl, fun W hW => ?_⟩) trivial ?_
      · go_simp
      simp only [Act.put, List.setIfInBounds_toArray, List.set_cons_zero, List.set_cons_succ]
      refine L8.takeT 12 (oi := { dst := some 14, op := Op.fieldAddr 27 (Operand.tmp 13) 15, type := 0, pos := "clauses.go:97", after := #[{ on := 11, ground := Ground.data }, { on := 0, ground := Ground.phase }, { on := 1, ground := Ground.phase }, { on := 2, ground := Ground.phase }, { on := 3, ground := Ground.phase }, { on := 4, ground := Ground.phase }, { on := 5, ground := Ground.phase }, { on := 6, ground := Ground.phase }, { on := 7, ground := Ground.phase }, { on := 8, ground := Ground.phase }, { on := 9, ground := Ground.phase }], guard := none }) (v := .pointer (some ⟨r, 20, none⟩)) rfl (by kernel_rfl) (by kernel_rfl) (by kernel_rfl) (by decide) (Or.inl ⟨by rfl, fun W hW => ?_⟩) trivial ?_
      · go_simp
      simp only [Act.put, List.setIfInBounds_toArray, List.set_cons_zero, List.set_cons_succ]
      refine wpAnyH_ready (rs := [13]) (by kernel_rfl) (by simp) ?_
      refine AllReadyH.cons (o := { dst := none, op := Op.store 25 (Operand.tmp 14) (Operand.tmp 11), type := 0, pos := "clauses.go:97", after := #[{ on := 12, ground := Ground.data }, { on := 9, ground := Ground.data }, { on := 9, ground := Ground.chain }, { on := 0, ground := Ground.phase }, { on := 1, ground := Ground.phase }, { on := 2, ground := Ground.phase }, { on := 3, ground := Ground.phase }, { on := 4, ground := Ground.phase }, { on := 5, ground := Ground.phase }, { on := 6, ground := Ground.phase }, { on := 7, ground := Ground.phase }, { on := 8, ground := Ground.phase }, { on := 9, ground := Ground.phase }], guard := none }) rfl (fun K hK => ?_) AllReadyH.nil
      go_simp
      refine hK.out _ _ trivial ?_
      clear hK K
      intro _
      try simp only [Act.put, List.setIfInBounds_toArray, List.set_cons_zero, List.set_cons_succ]
      refine wpAnyH_done (by kernel_rfl) (L8.ThrowQ.normal ?_) _
      exact ⟨rfl, _, results_none rfl _ _ _, Rds.ok (s := s) hfin.out⟩
    · go_simp
      refine hK.out _ _ trivial ?_
      clear hK K
      intro _
      try simp only [Act.put, List.setIfInBounds_toArray, List.set_cons_zero, List.set_cons_succ]
      have hvh3 := ((Ext.refl w2).alloc #[.int .i64 v] 3).cell_of hvh2
      refine wpAnyH_ready (rs := [5]) (by kernel_rfl) (by simp) ?_
      refine AllReadyH.cons (o := { dst := some 7, op := Op.load 25 (Operand.tmp 6), type := 25, pos := "clauses.go:97", after := #[{ on := 4, ground := Ground.data }], guard := none }) rfl (fun K hK => ?_) AllReadyH.nil
      go_simp
      refine hK.out _ _ trivial ?_
      clear hK K
      intro _
      try simp only [Act.put, List.setIfInBounds_toArray, List.set_cons_zero, List.set_cons_succ]
      refine wpAnyH_ready (rs := [9]) (by kernel_rfl) (by simp) ?_
      refine AllReadyH.cons (o := { dst := some 11, op := Op.call { callee := Callee.builtin Builtin.append, args := #[Operand.tmp 7, Operand.tmp 10], argTypes := #[25, 25] }, type := 25, pos := "clauses.go:97", after := #[{ on := 5, ground := Ground.data }, { on := 8, ground := Ground.data }, { on := 7, ground := Ground.chain }], guard := none }) rfl (fun K hK => ?_) AllReadyH.nil
      rw [if_pos (by rfl)]
      have h2 := h1.out.on ((Ext.refl w2).alloc #[.int .i64 v] 3)
      have hsz := h2.ext.size
      refine wp_append_own _ (.tmp 7) (.tmp 10) 25 rfl w0.heap.size 3 i0 (.int .i64 0) 1 8 Tryz.underlying25 hi hz0 hz1 hz2 rfl (by decide) _ _ _ rfl h2.sh ⟨w2.heap.size, 0, none⟩ 1 1 [.int .i64 v] rfl rfl ?c1 ?c2 ?c3 ?c4 ?c5 ?_
      case c1 =>
        intro p u hp
        match p, hp with
        | 0, hp => simp at hp; subst hp; simp [Addr.add, go_sem]
        | p + 1, hp => simp at hp
      case c2 => intro u hu; simp at hu; subst hu; rfl
      case c3 => unfold maxLen; show s.p.hd.length + 1 ≤ _; omega
      case c4 => show (s.p.hd.length + 1) * 8 ≤ _; omega
      case c5 => exact hsz
      intro v' w3 hown hgrow _
      obtain ⟨ao2, cp2, hv2⟩ := own_slice hown
      subst hv2
      have hG := h2.grow h2.sh hgrow (by decide) (by decide) (by decide) (by decide)
      obtain ⟨vt, hr3, _⟩ := hG.row
      have c3 := (cell_of_row w3 r 20 _ _ _ hr3).trans (show _ = some (.slice ao s.p.hd.length cp) from rfl)
      have z3 := frozen_of_row w3 r 20 _ _ hr3
      have hfin := show Hid _ from Grn.fin_h h2 hG _ v hown
      clear hr3 hG hgrow hown hvh2 hvh h1 h2 hsz
      refine hK.out _ _ trivial ?_
      clear hK K
      intro _
      try simp only [Act.put, List.setIfInBounds_toArray, List.set_cons_zero, List.set_cons_succ]
      refine L8.takeT 10 (oi := { dst := some 12, op := Op.nilCheck (Operand.tmp 2), type := 0, pos := "clauses.go:97", after := #[{ on := 0, ground := Ground.data }, { on := 0, ground := Ground.phase }, { on := 1, ground := Ground.phase }, { on := 2, ground := Ground.phase }, { on := 3, ground := Ground.phase }, { on := 4, ground := Ground.phase }, { on := 5, ground := Ground.phase }, { on := 6, ground := Ground.phase }, { on := 7, ground := Ground.phase }, { on := 8, ground := Ground.phase }, { on := 9, ground := Ground.phase }], guard := none }) (v := .pointer (some ⟨r, 0, none⟩)) rfl (by kernel_rfl) (by kernel_rfl) (by kernel_rfl) (by decide) (Or.inl ⟨by rfl, fun W hW => ?_⟩) trivial ?_
      · go_simp
      simp only [Act.put, List.setIfInBounds_toArray, List.set_cons_zero, List.set_cons_succ]
      refine L8.takeT 11 (oi := { dst := some 13, op := Op.fieldAddr 90 (Operand.tmp 12) 2, type := 0, pos := "clauses.go:97", after := #[{ on := 10, ground := Ground.data }, { on := 0, ground := Ground.phase }, { on := 1, ground := Ground.phase }, { on := 2, ground := Ground.phase }, { on := 3, ground := Ground.phase }, { on := 4, ground := Ground.phase }, { on := 5, ground := Ground.phase }, { on := 6, ground := Ground.phase }, { on := 7, ground := Ground.phase }, { on := 8, ground := Ground.phase }, { on := 9, ground := Ground.phase }], guard := none }) (v := .pointer (some ⟨r, 2, none⟩)) rfl (by kernel_rfl) (by kernel_rfl) (by kernel_rfl) (by decide) (Or.inl ⟨by rfl, fun W hW => ?_⟩) trivial ?_
      · go_simp
      simp only [Act.put, List.setIfInBounds_toArray, List.set_cons_zero, List.set_cons_succ]
      refine L8.takeT 12 (oi := { dst := some 14, op := Op.fieldAddr 27 (Operand.tmp 13) 15, type := 0, pos := "clauses.go:97", after := #[{ on := 11, ground := Ground.data }, { on := 0, ground := Ground.phase }, { on := 1, ground := Ground.phase }, { on := 2, ground := Ground.phase }, { on := 3, ground := Ground.phase }, { on := 4, ground := Ground.phase }, { on := 5, ground := Ground.phase }, { on := 6, ground := Ground.phase }, { on := 7, ground := Ground.phase }, { on := 8, ground := Ground.phase }, { on := 9, ground := Ground.phase }], guard := none }) (v := .pointer (some ⟨r, 20, none⟩)) rfl (by kernel_rfl) (by kernel_rfl) (by kernel_rfl) (by decide) (Or.inl ⟨by rfl, fun W hW => ?_⟩) trivial ?_
      · go_simp
      simp only [Act.put, List.setIfInBounds_toArray, List.set_cons_zero, List.set_cons_succ]
      refine wpAnyH_ready (rs := [13]) (by kernel_rfl) (by simp) ?_
      refine AllReadyH.cons (o := { dst := none, op := Op.store 25 (Operand.tmp 14) (Operand.tmp 11), type := 0, pos := "clauses.go:97", after := #[{ on := 12, ground := Ground.data }, { on := 9, ground := Ground.data }, { on := 9, ground := Ground.chain }, { on := 0, ground := Ground.phase }, { on := 1, ground := Ground.phase }, { on := 2, ground := Ground.phase }, { on := 3, ground := Ground.phase }, { on := 4, ground := Ground.phase }, { on := 5, ground := Ground.phase }, { on := 6, ground := Ground.phase }, { on := 7, ground := Ground.phase }, { on := 8, ground := Ground.phase }, { on := 9, ground := Ground.phase }], guard := none }) rfl (fun K hK => ?_) AllReadyH.nil
      go_simp
      refine hK.out _ _ trivial ?_
      clear hK K
      intro _
      try simp only [Act.put, List.setIfInBounds_toArray, List.set_cons_zero, List.set_cons_succ]
      refine wpAnyH_done (by kernel_rfl) (L8.ThrowQ.normal ?_) _
      exact ⟨rfl, _, results_none rfl _ _ _, Rds.ok (s := s) hfin.out⟩
theorem holiday_c (wf w0 w : World) (r c : Nat) (vr vl vh : Value) (s : St) (t : Tok) (ts : List Tok) (hs : s.ts = t :: ts) (hl : ts.length ≤ 20010) (htl : t.text.length ≤ 20000) (hfew : s.p.hd.length ≤ 20010) (he0 : Hid (Env w0)) (h : Inn wf w0 w r c vr vl vh s) :
    Calls Tryz.prog 96 #[.pointer (some ⟨r, 0, none⟩)] w fun e w' => Rds wf w0 r c s.had (clauseR 11 s.p s.ts) e w' := by
  cases hp : dayO t.text with
  | some v =>
    have hX : clauseR 11 s.p s.ts = (.ok ({ s.p with hd := s.p.hd ++ [v] }, ts)) := by
      rw [hs]; show (tk _ _).bind _ = _; rw [tk_some hp]; rfl
    rw [hX]; exact holiday_ok wf w0 w r c vr vl vh s t ts hs hl htl hfew he0 h v hp
  | none =>
    have hX : clauseR 11 s.p s.ts = .no 7 t.at_ := by
      rw [hs]; show (tk _ _).bind _ = _; rw [tk_none hp]; rfl
    rw [hX]; exact holiday_no wf w0 w r c vr vl vh s t ts hs hl htl hfew he0 h hp
theorem reset_no (wf w0 wb : World) (r c : Nat) (vr vl vh : Value) (s : St) (a : Int) (t0 t : Tok) (ts : List Tok) (hs : s.ts = t :: ts) (hl : ts.length ≤ 20008) (ht0 : t0.text.length ≤ 20000) (htl : t.text.length ≤ 20000) (hfew : s.p.rs.length ≤ 20010) (he0 : Hid (Env w0)) (hp0 : numO t0.text = some a) (h0 : Inn wf w0 wb r c vr vl vh { s with ts := t0 :: t :: ts }) (hp : rateO t.text = none) :
    Calls Tryz.prog 93 #[.pointer (some ⟨r, 0, none⟩)] wb fun e w' => Rds wf w0 r c s.had (.no 7 t.at_) e w' := by
  have hse : { s with ts := t :: ts } = s := by rw [← hs]
  replace hse := show Hid _ from hse
  go_enter Tryz.func93, Tryz.ntmps93
  go_wp2_with fail
  refine (readN_c wf w0 _ r c vr vl vh { s with ts := t0 :: t :: ts } t0 (t :: ts) rfl (by simp; omega) ht0 he0 h0).mono ?_
  rintro e w ⟨he, h, hx⟩
  rw [hp0] at he
  obtain rfl : e = .returned (.int .i64 a) := he
  clear hx h0 hp0
  have h := show Hid (Inn wf w0 w r c vr vl vh s) from hse.out ▸ h
  replace h := show Hid _ from h
  go_upto_region 1 with fail
  replace h := h.out
  have hvh := (h.cell 10 vr (fun _ => rfl)).1
  obtain ⟨ao, cp, hvs⟩ := own_slice h.sr
  subst hvs
  replace h := show Hid _ from h
  replace hs := show Hid _ from hs
  replace hp := show Hid _ from hp
  refine L8.wp_region_thrown (fun W => True) (fun a => a.defers = []) [] (fun t => none) (fun x W => Rds wf w0 r c s.had (.no 7 t.at_) (.panicked x) W) (by kernel_rfl) (fun _ _ _ h1 _ h3 => ⟨h1, h3⟩) trivial (fun hHeld => ?_)
  clear hHeld
  have hd : Ext w w.drew := (Ext.refl w).drew
  replace hvh := hd.cell_of hvh
  replace h := show Hid _ from h.out.on hd
  generalize w.drew = w1 at *
  clear hd
  refine L8.takeT 0 (oi := { dst := some 5, op := Op.move (Operand.tmp 0), type := 53, pos := "clauses.go:84", after := #[], guard := none }) (v := .pointer (some ⟨r, 0, none⟩)) rfl (by kernel_rfl) (by kernel_rfl) (by kernel_rfl) (by decide) (Or.inl ⟨by rfl, fun W hW => ?_⟩) trivial ?_
  · go_simp
  simp only [Act.put, List.setIfInBounds_toArray, List.set_cons_zero, List.set_cons_succ]
  refine L8.takeT 1 (oi := { dst := some 6, op := Op.move (Operand.tmp 0), type := 53, pos := "clauses.go:84", after := #[], guard := none }) (v := .pointer (some ⟨r, 0, none⟩)) rfl (by kernel_rfl) (by kernel_rfl) (by kernel_rfl) (by decide) (Or.inl ⟨by rfl, fun W hW => ?_⟩) trivial ?_
  · go_simp
  simp only [Act.put, List.setIfInBounds_toArray, List.set_cons_zero, List.set_cons_succ]
  refine L8.takeT 2 (oi := { dst := some 7, op := Op.nilCheck (Operand.tmp 6), type := 0, pos := "clauses.go:84", after := #[{ on := 1, ground := Ground.data }], guard := none }) (v := .pointer (some ⟨r, 0, none⟩)) rfl (by kernel_rfl) (by kernel_rfl) (by kernel_rfl) (by decide) (Or.inl ⟨by rfl, fun W hW => ?_⟩) trivial ?_
  · go_simp
  simp only [Act.put, List.setIfInBounds_toArray, List.set_cons_zero, List.set_cons_succ]
  refine L8.takeT 3 (oi := { dst := some 8, op := Op.fieldAddr 90 (Operand.tmp 7) 2, type := 0, pos := "clauses.go:84", after := #[{ on := 2, ground := Ground.data }], guard := none }) (v := .pointer (some ⟨r, 2, none⟩)) rfl (by kernel_rfl) (by kernel_rfl) (by kernel_rfl) (by decide) (Or.inl ⟨by rfl, fun W hW => ?_⟩) trivial ?_
  · go_simp
  simp only [Act.put, List.setIfInBounds_toArray, List.set_cons_zero, List.set_cons_succ]
  refine L8.takeT 4 (oi := { dst := some 9, op := Op.fieldAddr 27 (Operand.tmp 8) 8, type := 0, pos := "clauses.go:84", after := #[{ on := 3, ground := Ground.data }], guard := none }) (v := .pointer (some ⟨r, 10, none⟩)) rfl (by kernel_rfl) (by kernel_rfl) (by kernel_rfl) (by decide) (Or.inl ⟨by rfl, fun W hW => ?_⟩) trivial ?_
  · go_simp
  simp only [Act.put, List.setIfInBounds_toArray, List.set_cons_zero, List.set_cons_succ]
  refine L8.takeT 6 (oi := { dst := some 11, op := Op.move (Operand.tmp 2), type := 3, pos := "clauses.go:84", after := #[], guard := none }) (v := .int .i64 a) rfl (by kernel_rfl) (by kernel_rfl) (by kernel_rfl) (by decide) (Or.inl ⟨by rfl, fun W hW => ?_⟩) trivial ?_
  · go_simp
  simp only [Act.put, List.setIfInBounds_toArray, List.set_cons_zero, List.set_cons_succ]
  refine L8.takeT 7 (oi := { dst := some 12, op := Op.move (Operand.tmp 0), type := 53, pos := "clauses.go:84", after := #[], guard := none }) (v := .pointer (some ⟨r, 0, none⟩)) rfl (by kernel_rfl) (by kernel_rfl) (by kernel_rfl) (by decide) (Or.inl ⟨by rfl, fun W hW => ?_⟩) trivial ?_
  · go_simp
  simp only [Act.put, List.setIfInBounds_toArray, List.set_cons_zero, List.set_cons_succ]
  refine wpAnyH_ready (rs := [5, 8]) (by kernel_rfl) (by simp) ?_
  refine AllReadyH.cons (o := { dst := some 10, op := Op.load 22 (Operand.tmp 9), type := 22, pos := "clauses.go:84", after := #[{ on := 4, ground := Ground.data }], guard := none }) rfl (fun K hK => ?_) (AllReadyH.cons (o := { dst := some 13, op := Op.call { callee := Callee.value (Operand.func 126), args := #[Operand.tmp 12, Operand.func 127], argTypes := #[53, 144] }, type := 2, pos := "clauses.go:84", after := #[{ on := 7, ground := Ground.data }], guard := none }) rfl (fun K hK => ?_) AllReadyH.nil)
  · go_simp
    refine hK.out _ _ trivial ?_
    clear hK K
    intro _
    try simp only [Act.put, List.setIfInBounds_toArray, List.set_cons_zero, List.set_cons_succ]
    refine wpAnyH_ready (rs := [8]) (by kernel_rfl) (by simp) ?_
    refine AllReadyH.cons (o := { dst := some 13, op := Op.call { callee := Callee.value (Operand.func 126), args := #[Operand.tmp 12, Operand.func 127], argTypes := #[53, 144] }, type := 2, pos := "clauses.go:84", after := #[{ on := 7, ground := Ground.data }], guard := none }) rfl (fun K hK => ?_) AllReadyH.nil
    go_simp
    refine (readR_c wf w0 _ r c (.slice ao s.p.rs.length cp) vl vh s t ts hs.out (by omega) htl he0 h.out).mono ?_
    rintro e w2 ⟨he, h1, hx⟩
    rw [hp.out] at he
    obtain rfl : e = thrown 7 t.at_ := he
    exact ⟨rfl, (fun _ h => by cases h), Rds.no h1.ext⟩
  · go_simp
    refine (readR_c wf w0 _ r c (.slice ao s.p.rs.length cp) vl vh s t ts hs.out (by omega) htl he0 h.out).mono ?_
    rintro e w2 ⟨he, h1, hx⟩
    rw [hp.out] at he
    obtain rfl : e = thrown 7 t.at_ := he
    exact ⟨rfl, (fun _ h => by cases h), Rds.no h1.ext⟩
theorem reset_ok (wf w0 wb : World) (r c : Nat) (vr vl vh : Value) (s : St) (a : Int) (t0 t : Tok) (ts : List Tok) (hs : s.ts = t :: ts) (hl : ts.length ≤ 20008) (ht0 : t0.text.length ≤ 20000) (htl : t.text.length ≤ 20000) (hfew : s.p.rs.length ≤ 20010) (he0 : Hid (Env w0)) (hp0 : numO t0.text = some a) (h0 : Inn wf w0 wb r c vr vl vh { s with ts := t0 :: t :: ts }) (v : Int) (hp : rateO t.text = some v) :
    Calls Tryz.prog 93 #[.pointer (some ⟨r, 0, none⟩)] wb fun e w' => Rds wf w0 r c s.had (.ok ({ s.p with rs := s.p.rs ++ [(a, v)] }, ts)) e w' := by
  obtain ⟨i0, hi, hz0, hz1, hz2⟩ := info_parts info_rs
  have hse : { s with ts := t :: ts } = s := by rw [← hs]
  replace hse := show Hid _ from hse
  go_enter Tryz.func93, Tryz.ntmps93
  go_wp2_with fail
  refine (readN_c wf w0 _ r c vr vl vh { s with ts := t0 :: t :: ts } t0 (t :: ts) rfl (by simp; omega) ht0 he0 h0).mono ?_
  rintro e w ⟨he, h, hx⟩
  rw [hp0] at he
  obtain rfl : e = .returned (.int .i64 a) := he
  clear hx h0 hp0
  have h := show Hid (Inn wf w0 w r c vr vl vh s) from hse.out ▸ h
  replace h := show Hid _ from h
  go_upto_region 1 with fail
  replace h := h.out
  have hvh := (h.cell 10 vr (fun _ => rfl)).1
  obtain ⟨ao, cp, hvs⟩ := own_slice h.sr
  subst hvs
  replace h := show Hid _ from h
  replace hs := show Hid _ from hs
  replace hp := show Hid _ from hp
  refine L8.wp_region_thrown (fun W => True) (fun a => a.defers = []) [] (fun t => none) (fun x W => Rds wf w0 r c s.had (.ok ({ s.p with rs := s.p.rs ++ [(a, v)] }, ts)) (.panicked x) W) (by kernel_rfl) (fun _ _ _ h1 _ h3 => ⟨h1, h3⟩) trivial (fun hHeld => ?_)
  clear hHeld
  have hd : Ext w w.drew := (Ext.refl w).drew
  replace hvh := hd.cell_of hvh
  replace h := show Hid _ from h.out.on hd
  generalize w.drew = w1 at *
  clear hd
  refine L8.takeT 0 (oi := { dst := some 5, op := Op.move (Operand.tmp 0), type := 53, pos := "clauses.go:84", after := #[], guard := none }) (v := .pointer (some ⟨r, 0, none⟩)) rfl (by kernel_rfl) (by kernel_rfl) (by kernel_rfl) (by decide) (Or.inl ⟨by rfl, fun W hW => ?_⟩) trivial ?_
  · go_simp
  simp only [Act.put, List.setIfInBounds_toArray, List.set_cons_zero, List.set_cons_succ]
  refine L8.takeT 1 (oi := { dst := some 6, op := Op.move (Operand.tmp 0), type := 53, pos := "clauses.go:84", after := #[], guard := none }) (v := .pointer (some ⟨r, 0, none⟩)) rfl (by kernel_rfl) (by kernel_rfl) (by kernel_rfl) (by decide) (Or.inl ⟨by rfl, fun W hW => ?_⟩) trivial ?_
  · go_simp
  simp only [Act.put, List.setIfInBounds_toArray, List.set_cons_zero, List.set_cons_succ]
  refine L8.takeT 2 (oi := { dst := some 7, op := Op.nilCheck (Operand.tmp 6), type := 0, pos := "clauses.go:84", after := #[{ on := 1, ground := Ground.data }], guard := none }) (v := .pointer (some ⟨r, 0, none⟩)) rfl (by kernel_rfl) (by kernel_rfl) (by kernel_rfl) (by decide) (Or.inl ⟨by rfl, fun W hW => ?_⟩) trivial ?_
  · go_simp
  simp only [Act.put, List.setIfInBounds_toArray, List.set_cons_zero, List.set_cons_succ]
  refine L8.takeT 3 (oi := { dst := some 8, op := Op.fieldAddr 90 (Operand.tmp 7) 2, type := 0, pos := "clauses.go:84", after := #[{ on := 2, ground := Ground.data }], guard := none }) (v := .pointer (some ⟨r, 2, none⟩)) rfl (by kernel_rfl) (by kernel_rfl) (by kernel_rfl) (by decide) (Or.inl ⟨by rfl, fun W hW => ?_⟩) trivial ?_
  · go_simp
  simp only [Act.put, List.setIfInBounds_toArray, List.set_cons_zero, List.set_cons_succ]
  refine L8.takeT 4 (oi := { dst := some 9, op := Op.fieldAddr 27 (Operand.tmp 8) 8, type := 0, pos := "clauses.go:84", after := #[{ on := 3, ground := Ground.data }], guard := none }) (v := .pointer (some ⟨r, 10, none⟩)) rfl (by kernel_rfl) (by kernel_rfl) (by kernel_rfl) (by decide) (Or.inl ⟨by rfl, fun W hW => ?_⟩) trivial ?_
  · go_simp
  simp only [Act.put, List.setIfInBounds_toArray, List.set_cons_zero, List.set_cons_succ]
  refine L8.takeT 6 (oi := { dst := some 11, op := Op.move (Operand.tmp 2), type := 3, pos := "clauses.go:84", after := #[], guard := none }) (v := .int .i64 a) rfl (by kernel_rfl) (by kernel_rfl) (by kernel_rfl) (by decide) (Or.inl ⟨by rfl, fun W hW => ?_⟩) trivial ?_
  · go_simp
  simp only [Act.put, List.setIfInBounds_toArray, List.set_cons_zero, List.set_cons_succ]
  refine L8.takeT 7 (oi := { dst := some 12, op := Op.move (Operand.tmp 0), type := 53, pos := "clauses.go:84", after := #[], guard := none }) (v := .pointer (some ⟨r, 0, none⟩)) rfl (by kernel_rfl) (by kernel_rfl) (by kernel_rfl) (by decide) (Or.inl ⟨by rfl, fun W hW => ?_⟩) trivial ?_
  · go_simp
  simp only [Act.put, List.setIfInBounds_toArray, List.set_cons_zero, List.set_cons_succ]
  refine wpAnyH_ready (rs := [5, 8]) (by kernel_rfl) (by simp) ?_
  refine AllReadyH.cons (o := { dst := some 10, op := Op.load 22 (Operand.tmp 9), type := 22, pos := "clauses.go:84", after := #[{ on := 4, ground := Ground.data }], guard := none }) rfl (fun K hK => ?_) (AllReadyH.cons (o := { dst := some 13, op := Op.call { callee := Callee.value (Operand.func 126), args := #[Operand.tmp 12, Operand.func 127], argTypes := #[53, 144] }, type := 2, pos := "clauses.go:84", after := #[{ on := 7, ground := Ground.data }], guard := none }) rfl (fun K hK => ?_) AllReadyH.nil)
  · go_simp
    refine hK.out _ _ trivial ?_
    clear hK K
    intro _
    try simp only [Act.put, List.setIfInBounds_toArray, List.set_cons_zero, List.set_cons_succ]
    refine wpAnyH_ready (rs := [8]) (by kernel_rfl) (by simp) ?_
    refine AllReadyH.cons (o := { dst := some 13, op := Op.call { callee := Callee.value (Operand.func 126), args := #[Operand.tmp 12, Operand.func 127], argTypes := #[53, 144] }, type := 2, pos := "clauses.go:84", after := #[{ on := 7, ground := Ground.data }], guard := none }) rfl (fun K hK => ?_) AllReadyH.nil
    go_simp
    refine (readR_c wf w0 _ r c (.slice ao s.p.rs.length cp) vl vh s t ts hs.out (by omega) htl he0 h.out).mono ?_
    rintro e w2 ⟨he, h1, hx⟩
    rw [hp.out] at he
    obtain rfl : e = .returned (.int .i64 v) := he
    have hvh2 := (h1.cell 10 (.slice ao s.p.rs.length cp) (fun _ => rfl)).1
    replace h1 := show Hid _ from h1
    clear hx
    try dsimp only
    refine hK.out _ _ trivial ?_
    clear hK K
    intro _
    try simp only [Act.put, List.setIfInBounds_toArray, List.set_cons_zero, List.set_cons_succ]
    refine L8.takeT 9 (oi := { dst := some 14, op := Op.build 57 #[(0, Operand.tmp 11), (1, Operand.tmp 13)], type := 57, pos := "clauses.go:84", after := #[{ on := 6, ground := Ground.data }, { on := 8, ground := Ground.data }], guard := none }) (v := .agg #[.int .i64 a, .int .i64 v]) rfl (by kernel_rfl) (by kernel_rfl) (by kernel_rfl) (by decide) (Or.inl ⟨by rfl, fun W hW => ?_⟩) trivial ?_
    · go_simp
    simp only [Act.put, List.setIfInBounds_toArray, List.set_cons_zero, List.set_cons_succ]
    refine wpAnyH_ready (rs := [10]) (by kernel_rfl) (by simp) ?_
    refine AllReadyH.cons (o := { dst := some 15, op := Op.buildSlice 22 1 #[(0, Operand.tmp 14)], type := 22, pos := "clauses.go:84", after := #[{ on := 9, ground := Ground.data }], guard := none }) rfl (fun K hK => ?_) AllReadyH.nil
    go_simp
    refine hK.out _ _ trivial ?_
    clear hK K
    intro _
    try simp only [Act.put, List.setIfInBounds_toArray, List.set_cons_zero, List.set_cons_succ]
    refine wpAnyH_ready (rs := [11]) (by kernel_rfl) (by simp) ?_
    refine AllReadyH.cons (o := { dst := some 16, op := Op.call { callee := Callee.builtin Builtin.append, args := #[Operand.tmp 10, Operand.tmp 15], argTypes := #[22, 22] }, type := 22, pos := "clauses.go:84", after := #[{ on := 5, ground := Ground.data }, { on := 10, ground := Ground.data }, { on := 8, ground := Ground.chain }], guard := none }) rfl (fun K hK => ?_) AllReadyH.nil
    rw [if_pos (by rfl)]
    have h2 := h1.out.on ((Ext.refl w2).alloc #[.int .i64 a, .int .i64 v] 57)
    have hsz := h2.ext.size
    refine wp_append_own _ (.tmp 10) (.tmp 15) 22 rfl w0.heap.size 57 i0 (.agg #[.int .i64 0, .int .i64 0]) 2 16 Tryz.underlying22 hi hz0 hz1 hz2 rfl (by decide) _ _ _ rfl h2.sr ⟨w2.heap.size, 0, none⟩ 1 1 [.int .i64 a, .int .i64 v] rfl rfl ?c1 ?c2 ?c3 ?c4 ?c5 ?_
    case c1 =>
      intro p u hp
      match p, hp with
      | 0, hp => simp at hp; subst hp; simp [Addr.add, go_sem]
      | 1, hp => simp at hp; subst hp; simp [Addr.add, go_sem]
      | p + 2, hp => simp at hp
    case c2 => intro u hu; simp at hu; rcases hu with rfl | rfl <;> rfl
    case c3 => unfold maxLen; show s.p.rs.length + 1 ≤ _; omega
    case c4 => show (s.p.rs.length + 1) * 16 ≤ _; omega
    case c5 => exact hsz
    intro v' w3 hown hgrow _
    obtain ⟨ao2, cp2, hv2⟩ := own_slice hown
    subst hv2
    have hG := h2.grow h2.sr hgrow (by decide) (by decide) (by decide) (by decide)
    obtain ⟨vt, hr3, _⟩ := hG.row
    have c3 := (cell_of_row w3 r 10 _ _ _ hr3).trans (show _ = some (.slice ao s.p.rs.length cp) from rfl)
    have z3 := frozen_of_row w3 r 10 _ _ hr3
    have hfin := show Hid _ from Grn.fin_r h2 hG _ a v hown
    clear hr3 hG hgrow hown hvh2 hvh h1 h2 hsz
    refine hK.out _ _ trivial ?_
    clear hK K
    intro _
    try simp only [Act.put, List.setIfInBounds_toArray, List.set_cons_zero, List.set_cons_succ]
    refine L8.takeT 12 (oi := { dst := some 17, op := Op.nilCheck (Operand.tmp 5), type := 0, pos := "clauses.go:84", after := #[{ on := 0, ground := Ground.data }, { on := 0, ground := Ground.phase }, { on := 1, ground := Ground.phase }, { on := 2, ground := Ground.phase }, { on := 3, ground := Ground.phase }, { on := 4, ground := Ground.phase }, { on := 5, ground := Ground.phase }, { on := 6, ground := Ground.phase }, { on := 7, ground := Ground.phase }, { on := 8, ground := Ground.phase }, { on := 9, ground := Ground.phase }, { on := 10, ground := Ground.phase }, { on := 11, ground := Ground.phase }], guard := none }) (v := .pointer (some ⟨r, 0, none⟩)) rfl (by kernel_rfl) (by kernel_rfl) (by kernel_rfl) (by decide) (Or.inl ⟨by rfl, fun W hW => ?_⟩) trivial ?_
    · go_simp
    simp only [Act.put, List.setIfInBounds_toArray, List.set_cons_zero, List.set_cons_succ]
    refine L8.takeT 13 (oi := { dst := some 18, op := Op.fieldAddr 90 (Operand.tmp 17) 2, type := 0, pos := "clauses.go:84", after := #[{ on := 12, ground := Ground.data }, { on := 0, ground := Ground.phase }, { on := 1, ground := Ground.phase }, { on := 2, ground := Ground.phase }, { on := 3, ground := Ground.phase }, { on := 4, ground := Ground.phase }, { on := 5, ground := Ground.phase }, { on := 6, ground := Ground.phase }, { on := 7, ground := Ground.phase }, { on := 8, ground := Ground.phase }, { on := 9, ground := Ground.phase }, { on := 10, ground := Ground.phase }, { on := 11, ground := Ground.phase }], guard := none }) (v := .pointer (some ⟨r, 2, none⟩)) rfl (by kernel_rfl) (by kernel_rfl) (by kernel_rfl) (by decide) (Or.inl ⟨by rfl, fun W hW => ?_⟩) trivial ?_
    · go_simp
    simp only [Act.put, List.setIfInBounds_toArray, List.set_cons_zero, List.set_cons_succ]
    refine L8.takeT 14 (oi := { dst := some 19, op := Op.fieldAddr 27 (Operand.tmp 18) 8, type := 0, pos := "clauses.go:84", after := #[{ on := 13, ground := Ground.data }, { on := 0, ground := Ground.phase }, { on := 1, ground := Ground.phase }, { on := 2, ground := Ground.phase }, { on := 3, ground := Ground.phase }, { on := 4, ground := Ground.phase }, { on := 5, ground := Ground.phase }, { on := 6, ground := Ground.phase }, { on := 7, ground := Ground.phase }, { on := 8, ground := Ground.phase }, { on := 9, ground := Ground.phase }, { on := 10, ground := Ground.phase }, { on := 11, ground := Ground.phase }], guard := none }) (v := .pointer (some ⟨r, 10, none⟩)) rfl (by kernel_rfl) (by kernel_rfl) (by kernel_rfl) (by decide) (Or.inl ⟨by rfl, fun W hW => ?_⟩) trivial ?_
    · go_simp
    simp only [Act.put, List.setIfInBounds_toArray, List.set_cons_zero, List.set_cons_succ]
    refine wpAnyH_ready (rs := [15]) (by kernel_rfl) (by simp) ?_
    refine AllReadyH.cons (o := { dst := none, op := Op.store 22 (Operand.tmp 19) (Operand.tmp 16), type := 0, pos := "clauses.go:84", after := #[{ on := 14, ground := Ground.data }, { on := 11, ground := Ground.data }, { on := 11, ground := Ground.chain }, { on := 0, ground := Ground.phase }, { on := 1, ground := Ground.phase }, { on := 2, ground := Ground.phase }, { on := 3, ground := Ground.phase }, { on := 4, ground := Ground.phase }, { on := 5, ground := Ground.phase }, { on := 6, ground := Ground.phase }, { on := 7, ground := Ground.phase }, { on := 8, ground := Ground.phase }, { on := 9, ground := Ground.phase }, { on := 10, ground := Ground.phase }, { on := 11, ground := Ground.phase }], guard := none }) rfl (fun K hK => ?_) AllReadyH.nil
    go_simp
    refine hK.out _ _ trivial ?_
    clear hK K
    intro _
    try simp only [Act.put, List.setIfInBounds_toArray, List.set_cons_zero, List.set_cons_succ]
    refine wpAnyH_done (by kernel_rfl) (L8.ThrowQ.normal ?_) _
    exact ⟨rfl, _, results_none rfl _ _ _, Rds.ok (s := s) hfin.out⟩
  · go_simp
    refine (readR_c wf w0 _ r c (.slice ao s.p.rs.length cp) vl vh s t ts hs.out (by omega) htl he0 h.out).mono ?_
    rintro e w2 ⟨he, h1, hx⟩
    rw [hp.out] at he
    obtain rfl : e = .returned (.int .i64 v) := he
    have hvh2 := (h1.cell 10 (.slice ao s.p.rs.length cp) (fun _ => rfl)).1
    replace h1 := show Hid _ from h1
    clear hx
    try dsimp only
    refine hK.out _ _ trivial ?_
    clear hK K
    intro _
    try simp only [Act.put, List.setIfInBounds_toArray, List.set_cons_zero, List.set_cons_succ]
    refine L8.takeT 9 (oi := { dst := some 14, op := Op.build 57 #[(0, Operand.tmp 11), (1, Operand.tmp 13)], type := 57, pos := "clauses.go:84", after := #[{ on := 6, ground := Ground.data }, { on := 8, ground := Ground.data }], guard := none }) (v := .agg #[.int .i64 a, .int .i64 v]) rfl (by kernel_rfl) (by kernel_rfl) (by kernel_rfl) (by decide) (Or.inl ⟨by rfl, fun W hW => ?_⟩) trivial ?_
    · go_simp
    simp only [Act.put, List.setIfInBounds_toArray, List.set_cons_zero, List.set_cons_succ]
    refine wpAnyH_ready (rs := [5, 10]) (by kernel_rfl) (by simp) ?_
    refine AllReadyH.cons (o := { dst := some 10, op := Op.load 22 (Operand.tmp 9), type := 22, pos := "clauses.go:84", after := #[{ on := 4, ground := Ground.data }], guard := none }) rfl (fun K hK => ?_) (AllReadyH.cons (o := { dst := some 15, op := Op.buildSlice 22 1 #[(0, Operand.tmp 14)], type := 22, pos := "clauses.go:84", after := #[{ on := 9, ground := Ground.data }], guard := none }) rfl (fun K hK => ?_) AllReadyH.nil)
    · go_simp
      refine hK.out _ _ trivial ?_
      clear hK K
      intro _
      try simp only [Act.put, List.setIfInBounds_toArray, List.set_cons_zero, List.set_cons_succ]
      refine wpAnyH_ready (rs := [10]) (by kernel_rfl) (by simp) ?_
      refine AllReadyH.cons (o := { dst := some 15, op := Op.buildSlice 22 1 #[(0, Operand.tmp 14)], type := 22, pos := "clauses.go:84", after := #[{ on := 9, ground := Ground.data }], guard := none }) rfl (fun K hK => ?_) AllReadyH.nil
      go_simp
      refine hK.out _ _ trivial ?_
      clear hK K
      intro _
      try simp only [Act.put, List.setIfInBounds_toArray, List.set_cons_zero, List.set_cons_succ]
      refine wpAnyH_ready (rs := [11]) (by kernel_rfl) (by simp) ?_
      refine AllReadyH.cons (o := { dst := some 16, op := Op.call { callee := Callee.builtin Builtin.append, args := #[Operand.tmp 10, Operand.tmp 15], argTypes := #[22, 22] }, type := 22, pos := "clauses.go:84", after := #[{ on := 5, ground := Ground.data }, { on := 10, ground := Ground.data }, { on := 8, ground := Ground.chain }], guard := none }) rfl (fun K hK => ?_) AllReadyH.nil
      rw [if_pos (by rfl)]
      have h2 := h1.out.on ((Ext.refl w2).alloc #[.int .i64 a, .int .i64 v] 57)
      have hsz := h2.ext.size
      refine wp_append_own _ (.tmp 10) (.tmp 15) 22 rfl w0.heap.size 57 i0 (.agg #[.int .i64 0, .int .i64 0]) 2 16 Tryz.underlying22 hi hz0 hz1 hz2 rfl (by decide) _ _ _ rfl h2.sr ⟨w2.heap.size, 0, none⟩ 1 1 [.int .i64 a, .int .i64 v] rfl rfl ?c1 ?c2 ?c3 ?c4 ?c5 ?_
      case c1 =>
        intro p u hp
        match p, hp with
        | 0, hp => simp at hp; subst hp; simp [Addr.add, go_sem]
        | 1, hp => simp at hp; subst hp; simp [Addr.add, go_sem]
        | p + 2, hp => simp at hp
      case c2 => intro u hu; simp at hu; rcases hu with rfl | rfl <;> rfl
      case c3 => unfold maxLen; show s.p.rs.length + 1 ≤ _; omega
      case c4 => show (s.p.rs.length + 1) * 16 ≤ _; omega
      case c5 => exact hsz
      intro v' w3 hown hgrow _
      obtain ⟨ao2, cp2, hv2⟩ := own_slice hown
      subst hv2
      have hG := h2.grow h2.sr hgrow (by decide) (by decide) (by decide) (by decide)
      obtain ⟨vt, hr3, _⟩ := hG.row
      have c3 := (cell_of_row w3 r 10 _ _ _ hr3).trans (show _ = some (.slice ao s.p.rs.length cp) from rfl)
      have z3 := frozen_of_row w3 r 10 _ _ hr3
      have hfin := show Hid _ from Grn.fin_r h2 hG _ a v hown
      clear hr3 hG hgrow hown hvh2 hvh h1 h2 hsz
      refine hK.out _ _ trivial ?_
      clear hK K
      intro _
      try simp only [Act.put, List.setIfInBounds_toArray, List.set_cons_zero, List.set_cons_succ]
      refine L8.takeT 12 (oi := { dst := some 17, op := Op.nilCheck (Operand.tmp 5), type := 0, pos := "clauses.go:84", after := #[{ on := 0, ground := Ground.data }, { on := 0, ground := Ground.phase }, { on := 1, ground := Ground.phase }, { on := 2, ground := Ground.phase }, { on := 3, ground := Ground.phase }, { on := 4, ground := Ground.phase }, { on := 5, ground := Ground.phase }, { on := 6, ground := Ground.phase }, { on := 7, ground := Ground.phase }, { on := 8, ground := Ground.phase }, { on := 9, ground := Ground.phase }, { on := 10, ground := Ground.phase }, { on := 11, ground := Ground.phase }], guard := none }) (v := .pointer (some ⟨r, 0, none⟩)) rfl (by kernel_rfl) (by kernel_rfl) (by kernel_rfl) (by decide) (Or.inl ⟨by rfl, fun W hW => ?_⟩) trivial ?_
      · go_simp
      simp only [Act.put, List.setIfInBounds_toArray, List.set_cons_zero, List.set_cons_succ]
      refine L8.takeT 13 (oi := { dst := some 18, op := Op.fieldAddr 90 (Operand.tmp 17) 2, type := 0, pos := "clauses.go:84", after := #[{ on := 12, ground := Ground.data }, { on := 0, ground := Ground.phase }, { on := 1, ground := Ground.phase }, { on := 2, ground := Ground.phase }, { on := 3, ground := Ground.phase }, { on := 4, ground := Ground.phase }, { on := 5, ground := Ground.phase }, { on := 6, ground := Ground.phase }, { on := 7, ground := Ground.phase }, { on := 8, ground := Ground.phase }, { on := 9, ground := Ground.phase }, { on := 10, ground := Ground.phase }, { on := 11, ground := Ground.phase }], guard := none }) (v := .pointer (some ⟨r, 2, none⟩)) rfl (by kernel_rfl) (by kernel_rfl) (by kernel_rfl) (by decide) (Or.inl ⟨by rfl, fun W hW => ?_⟩) trivial ?_
      · go_simp
      simp only [Act.put, List.setIfInBounds_toArray, List.set_cons_zero, List.set_cons_succ]
      refine L8.takeT 14 (oi := { dst := some 19, op := Op.fieldAddr 27 (Operand.tmp 18) 8, type := 0, pos := "clauses.go:84", after := #[{ on := 13, ground := Ground.data }, { on := 0, ground := Ground.phase }, { on := 1, ground := Ground.phase }, { on := 2, ground := Ground.phase }, { on := 3, ground := Ground.phase }, { on := 4, ground := Ground.phase }, { on := 5, ground := Ground.phase }, { on := 6, ground := Ground.phase }, { on := 7, ground := Ground.phase }, { on := 8, ground := Ground.phase }, { on := 9, ground := Ground.phase }, { on := 10, ground := Ground.phase }, { on := 11, ground := Ground.phase }], guard := none }) (v := .pointer (some ⟨r, 10, none⟩)) rfl (by kernel_rfl) (by kernel_rfl) (by kernel_rfl) (by decide) (Or.inl ⟨by rfl, fun W hW => ?_⟩) trivial ?_
      · go_simp
      simp only [Act.put, List.setIfInBounds_toArray, List.set_cons_zero, List.set_cons_succ]
      refine wpAnyH_ready (rs := [15]) (by kernel_rfl) (by simp) ?_
      refine AllReadyH.cons (o := { dst := none, op := Op.store 22 (Operand.tmp 19) (Operand.tmp 16), type := 0, pos := "clauses.go:84", after := #[{ on := 14, ground := Ground.data }, { on := 11, ground := Ground.data }, { on := 11, ground := Ground.chain }, { on := 0, ground := Ground.phase }, { on := 1, ground := Ground.phase }, { on := 2, ground := Ground.phase }, { on := 3, ground := Ground.phase }, { on := 4, ground := Ground.phase }, { on := 5, ground := Ground.phase }, { on := 6, ground := Ground.phase }, { on := 7, ground := Ground.phase }, { on := 8, ground := Ground.phase }, { on := 9, ground := Ground.phase }, { on := 10, ground := Ground.phase }, { on := 11, ground := Ground.phase }], guard := none }) rfl (fun K hK => ?_) AllReadyH.nil
      go_simp
      refine hK.out _ _ trivial ?_
      clear hK K
      intro _
      try simp only [Act.put, List.setIfInBounds_toArray, List.set_cons_zero, List.set_cons_succ]
      refine wpAnyH_done (by kernel_rfl) (L8.ThrowQ.normal ?_) _
      exact ⟨rfl, _, results_none rfl _ _ _, Rds.ok (s := s) hfin.out⟩
    · go_simp
      refine hK.out _ _ trivial ?_
      clear hK K
      intro _
      try simp only [Act.put, List.setIfInBounds_toArray, List.set_cons_zero, List.set_cons_succ]
      have hvh3 := ((Ext.refl w2).alloc #[.int .i64 a, .int .i64 v] 57).cell_of hvh2
      refine wpAnyH_ready (rs := [5]) (by kernel_rfl) (by simp) ?_
      refine AllReadyH.cons (o := { dst := some 10, op := Op.load 22 (Operand.tmp 9), type := 22, pos := "clauses.go:84", after := #[{ on := 4, ground := Ground.data }], guard := none }) rfl (fun K hK => ?_) AllReadyH.nil
      go_simp
      refine hK.out _ _ trivial ?_
      clear hK K
      intro _
      try simp only [Act.put, List.setIfInBounds_toArray, List.set_cons_zero, List.set_cons_succ]
      refine wpAnyH_ready (rs := [11]) (by kernel_rfl) (by simp) ?_
      refine AllReadyH.cons (o := { dst := some 16, op := Op.call { callee := Callee.builtin Builtin.append, args := #[Operand.tmp 10, Operand.tmp 15], argTypes := #[22, 22] }, type := 22, pos := "clauses.go:84", after := #[{ on := 5, ground := Ground.data }, { on := 10, ground := Ground.data }, { on := 8, ground := Ground.chain }], guard := none }) rfl (fun K hK => ?_) AllReadyH.nil
      rw [if_pos (by rfl)]
      have h2 := h1.out.on ((Ext.refl w2).alloc #[.int .i64 a, .int .i64 v] 57)
      have hsz := h2.ext.size
      refine wp_append_own _ (.tmp 10) (.tmp 15) 22 rfl w0.heap.size 57 i0 (.agg #[.int .i64 0, .int .i64 0]) 2 16 Tryz.underlying22 hi hz0 hz1 hz2 rfl (by decide) _ _ _ rfl h2.sr ⟨w2.heap.size, 0, none⟩ 1 1 [.int .i64 a, .int .i64 v] rfl rfl ?c1 ?c2 ?c3 ?c4 ?c5 ?_
      case c1 =>
        intro p u hp
        match p, hp with
        | 0, hp => simp at hp; subst hp; simp [Addr.add, go_sem]
        | 1, hp => simp at hp; subst hp; simp [Addr.add, go_sem]
        | p + 2, hp => simp at hp
      case c2 => intro u hu; simp at hu; rcases hu with rfl | rfl <;> rfl
      case c3 => unfold maxLen; show s.p.rs.length + 1 ≤ _; omega
      case c4 => show (s.p.rs.length + 1) * 16 ≤ _; omega
      case c5 => exact hsz
      intro v' w3 hown hgrow _
      obtain ⟨ao2, cp2, hv2⟩ := own_slice hown
      subst hv2
      have hG := h2.grow h2.sr hgrow (by decide) (by decide) (by decide) (by decide)
      obtain ⟨vt, hr3, _⟩ := hG.row
      have c3 := (cell_of_row w3 r 10 _ _ _ hr3).trans (show _ = some (.slice ao s.p.rs.length cp) from rfl)
      have z3 := frozen_of_row w3 r 10 _ _ hr3
      have hfin := show Hid _ from Grn.fin_r h2 hG _ a v hown
      clear hr3 hG hgrow hown hvh2 hvh h1 h2 hsz
      refine hK.out _ _ trivial ?_
      clear hK K
      intro _
      try simp only [Act.put, List.setIfInBounds_toArray, List.set_cons_zero, List.set_cons_succ]
      refine L8.takeT 12 (oi := { dst := some 17, op := Op.nilCheck (Operand.tmp 5), type := 0, pos := "clauses.go:84", after := #[{ on := 0, ground := Ground.data }, { on := 0, ground := Ground.phase }, { on := 1, ground := Ground.phase }, { on := 2, ground := Ground.phase }, { on := 3, ground := Ground.phase }, { on := 4, ground := Ground.phase }, { on := 5, ground := Ground.phase }, { on := 6, ground := Ground.phase }, { on := 7, ground := Ground.phase }, { on := 8, ground := Ground.phase }, { on := 9, ground := Ground.phase }, { on := 10, ground := Ground.phase }, { on := 11, ground := Ground.phase }], guard := none }) (v := .pointer (some ⟨r, 0, none⟩)) rfl (by kernel_rfl) (by kernel_rfl) (by kernel_rfl) (by decide) (Or.inl ⟨by rfl, fun W hW => ?_⟩) trivial ?_
      · go_simp
      simp only [Act.put, List.setIfInBounds_toArray, List.set_cons_zero, List.set_cons_succ]
      refine L8.takeT 13 (oi := { dst := some 18, op := Op.fieldAddr 90 (Operand.tmp 17) 2, type := 0, pos := "clauses.go:84", after := #[{ on := 12, ground := Ground.data }, { on := 0, ground := Ground.phase }, { on := 1, ground := Ground.phase }, { on := 2, ground := Ground.phase }, { on := 3, ground := Ground.phase }, { on := 4, ground := Ground.phase }, { on := 5, ground := Ground.phase }, { on := 6, ground := Ground.phase }, { on := 7, ground := Ground.phase }, { on := 8, ground := Ground.phase }, { on := 9, ground := Ground.phase }, { on := 10, ground := Ground.phase }, { on := 11, ground := Ground.phase }], guard := none }) (v := .pointer (some ⟨r, 2, none⟩)) rfl (by kernel_rfl) (by kernel_rfl) (by kernel_rfl) (by decide) (Or.inl ⟨by rfl, fun W hW => ?_⟩) trivial ?_
      · go_simp
      simp only [Act.put, List.setIfInBounds_toArray, List.set_cons_zero, List.set_cons_succ]
      refine L8.takeT 14 (oi := { dst := some 19, op := Op.fieldAddr 27 (Operand.tmp 18) 8, type := 0, pos := "clauses.go:84", after := #[{ on := 13, ground := Ground.data }, { on := 0, ground := Ground.phase }, { on := 1, ground := Ground.phase }, { on := 2, ground := Ground.phase }, { on := 3, ground := Ground.phase }, { on := 4, ground := Ground.phase }, { on := 5, ground := Ground.phase }, { on := 6, ground := Ground.phase }, { on := 7, ground := Ground.phase }, { on := 8, ground := Ground.phase }, { on := 9, ground := Ground.phase }, { on := 10, ground := Ground.phase }, { on := 11, ground := Ground.phase }], guard := none }) (v := .pointer (some ⟨r, 10, none⟩)) rfl (by kernel_rfl) (by kernel_rfl) (by kernel_rfl) (by decide) (Or.inl ⟨by rfl, fun W hW => ?_⟩) trivial ?_
      · go_simp
      simp only [Act.put, List.setIfInBounds_toArray, List.set_cons_zero, List.set_cons_succ]
      refine wpAnyH_ready (rs := [15]) (by kernel_rfl) (by simp) ?_
      refine AllReadyH.cons (o := { dst := none, op := Op.store 22 (Operand.tmp 19) (Operand.tmp 16), type := 0, pos := "clauses.go:84", after := #[{ on := 14, ground := Ground.data }, { on := 11, ground := Ground.data }, { on := 11, ground := Ground.chain }, { on := 0, ground := Ground.phase }, { on := 1, ground := Ground.phase }, { on := 2, ground := Ground.phase }, { on := 3, ground := Ground.phase }, { on := 4, ground := Ground.phase }, { on := 5, ground := Ground.phase }, { on := 6, ground := Ground.phase }, { on := 7, ground := Ground.phase }, { on := 8, ground := Ground.phase }, { on := 9, ground := Ground.phase }, { on := 10, ground := Ground.phase }, { on := 11, ground := Ground.phase }], guard := none }) rfl (fun K hK => ?_) AllReadyH.nil
      go_simp
      refine hK.out _ _ trivial ?_
      clear hK K
      intro _
      try simp only [Act.put, List.setIfInBounds_toArray, List.set_cons_zero, List.set_cons_succ]
      refine wpAnyH_done (by kernel_rfl) (L8.ThrowQ.normal ?_) _
      exact ⟨rfl, _, results_none rfl _ _ _, Rds.ok (s := s) hfin.out⟩
theorem late_no (wf w0 wb : World) (r c : Nat) (vr vl vh : Value) (s : St) (a : Int) (t0 t : Tok) (ts : List Tok) (hs : s.ts = t :: ts) (hl : ts.length ≤ 20008) (ht0 : t0.text.length ≤ 20000) (htl : t.text.length ≤ 20000) (hfew : s.p.lt.length ≤ 20010) (he0 : Hid (Env w0)) (hp0 : numO t0.text = some a) (h0 : Inn wf w0 wb r c vr vl vh { s with ts := t0 :: t :: ts }) (hp : monO t.text = none) :
    Calls Tryz.prog 94 #[.pointer (some ⟨r, 0, none⟩)] wb fun e w' => Rds wf w0 r c s.had (.no 7 t.at_) e w' := by
  have hse : { s with ts := t :: ts } = s := by rw [← hs]
  replace hse := show Hid _ from hse
  go_enter Tryz.func94, Tryz.ntmps94
  go_wp2_with fail
  refine (readN_c wf w0 _ r c vr vl vh { s with ts := t0 :: t :: ts } t0 (t :: ts) rfl (by simp; omega) ht0 he0 h0).mono ?_
  rintro e w ⟨he, h, hx⟩
  rw [hp0] at he
  obtain rfl : e = .returned (.int .i64 a) := he
  clear hx h0 hp0
  have h := show Hid (Inn wf w0 w r c vr vl vh s) from hse.out ▸ h
  replace h := show Hid _ from h
  go_upto_region 1 with fail
  replace h := h.out
  have hvh := (h.cell 17 vl (fun _ => rfl)).1
  obtain ⟨ao, cp, hvs⟩ := own_slice h.sl
  subst hvs
  replace h := show Hid _ from h
  replace hs := show Hid _ from hs
  replace hp := show Hid _ from hp
  refine L8.wp_region_thrown (fun W => True) (fun a => a.defers = []) [] (fun t => none) (fun x W => Rds wf w0 r c s.had (.no 7 t.at_) (.panicked x) W) (by kernel_rfl) (fun _ _ _ h1 _ h3 => ⟨h1, h3⟩) trivial (fun hHeld => ?_)
  clear hHeld
  have hd : Ext w w.drew := (Ext.refl w).drew
  replace hvh := hd.cell_of hvh
  replace h := show Hid _ from h.out.on hd
  generalize w.drew = w1 at *
  clear hd
  refine L8.takeT 0 (oi := { dst := some 5, op := Op.move (Operand.tmp 0), type := 53, pos := "clauses.go:89", after := #[], guard := none }) (v := .pointer (some ⟨r, 0, none⟩)) rfl (by kernel_rfl) (by kernel_rfl) (by kernel_rfl) (by decide) (Or.inl ⟨by rfl, fun W hW => ?_⟩) trivial ?_
  · go_simp
  simp only [Act.put, List.setIfInBounds_toArray, List.set_cons_zero, List.set_cons_succ]
  refine L8.takeT 1 (oi := { dst := some 6, op := Op.move (Operand.tmp 0), type := 53, pos := "clauses.go:89", after := #[], guard := none }) (v := .pointer (some ⟨r, 0, none⟩)) rfl (by kernel_rfl) (by kernel_rfl) (by kernel_rfl) (by decide) (Or.inl ⟨by rfl, fun W hW => ?_⟩) trivial ?_
  · go_simp
  simp only [Act.put, List.setIfInBounds_toArray, List.set_cons_zero, List.set_cons_succ]
  refine L8.takeT 2 (oi := { dst := some 7, op := Op.nilCheck (Operand.tmp 6), type := 0, pos := "clauses.go:89", after := #[{ on := 1, ground := Ground.data }], guard := none }) (v := .pointer (some ⟨r, 0, none⟩)) rfl (by kernel_rfl) (by kernel_rfl) (by kernel_rfl) (by decide) (Or.inl ⟨by rfl, fun W hW => ?_⟩) trivial ?_
  · go_simp
  simp only [Act.put, List.setIfInBounds_toArray, List.set_cons_zero, List.set_cons_succ]
  refine L8.takeT 3 (oi := { dst := some 8, op := Op.fieldAddr 90 (Operand.tmp 7) 2, type := 0, pos := "clauses.go:89", after := #[{ on := 2, ground := Ground.data }], guard := none }) (v := .pointer (some ⟨r, 2, none⟩)) rfl (by kernel_rfl) (by kernel_rfl) (by kernel_rfl) (by decide) (Or.inl ⟨by rfl, fun W hW => ?_⟩) trivial ?_
  · go_simp
  simp only [Act.put, List.setIfInBounds_toArray, List.set_cons_zero, List.set_cons_succ]
  refine L8.takeT 4 (oi := { dst := some 9, op := Op.fieldAddr 27 (Operand.tmp 8) 12, type := 0, pos := "clauses.go:89", after := #[{ on := 3, ground := Ground.data }], guard := none }) (v := .pointer (some ⟨r, 17, none⟩)) rfl (by kernel_rfl) (by kernel_rfl) (by kernel_rfl) (by decide) (Or.inl ⟨by rfl, fun W hW => ?_⟩) trivial ?_
  · go_simp
  simp only [Act.put, List.setIfInBounds_toArray, List.set_cons_zero, List.set_cons_succ]
  refine L8.takeT 6 (oi := { dst := some 11, op := Op.move (Operand.tmp 2), type := 3, pos := "clauses.go:89", after := #[], guard := none }) (v := .int .i64 a) rfl (by kernel_rfl) (by kernel_rfl) (by kernel_rfl) (by decide) (Or.inl ⟨by rfl, fun W hW => ?_⟩) trivial ?_
  · go_simp
  simp only [Act.put, List.setIfInBounds_toArray, List.set_cons_zero, List.set_cons_succ]
  refine L8.takeT 7 (oi := { dst := some 12, op := Op.move (Operand.tmp 0), type := 53, pos := "clauses.go:89", after := #[], guard := none }) (v := .pointer (some ⟨r, 0, none⟩)) rfl (by kernel_rfl) (by kernel_rfl) (by kernel_rfl) (by decide) (Or.inl ⟨by rfl, fun W hW => ?_⟩) trivial ?_
  · go_simp
  simp only [Act.put, List.setIfInBounds_toArray, List.set_cons_zero, List.set_cons_succ]
  refine wpAnyH_ready (rs := [5, 8]) (by kernel_rfl) (by simp) ?_
  refine AllReadyH.cons (o := { dst := some 10, op := Op.load 24 (Operand.tmp 9), type := 24, pos := "clauses.go:89", after := #[{ on := 4, ground := Ground.data }], guard := none }) rfl (fun K hK => ?_) (AllReadyH.cons (o := { dst := some 13, op := Op.call { callee := Callee.value (Operand.func 126), args := #[Operand.tmp 12, Operand.func 128], argTypes := #[53, 144] }, type := 2, pos := "clauses.go:89", after := #[{ on := 7, ground := Ground.data }], guard := none }) rfl (fun K hK => ?_) AllReadyH.nil)
  · go_simp
    refine hK.out _ _ trivial ?_
    clear hK K
    intro _
    try simp only [Act.put, List.setIfInBounds_toArray, List.set_cons_zero, List.set_cons_succ]
    refine wpAnyH_ready (rs := [8]) (by kernel_rfl) (by simp) ?_
    refine AllReadyH.cons (o := { dst := some 13, op := Op.call { callee := Callee.value (Operand.func 126), args := #[Operand.tmp 12, Operand.func 128], argTypes := #[53, 144] }, type := 2, pos := "clauses.go:89", after := #[{ on := 7, ground := Ground.data }], guard := none }) rfl (fun K hK => ?_) AllReadyH.nil
    go_simp
    refine (readM_c wf w0 _ r c vr (.slice ao s.p.lt.length cp) vh s t ts hs.out (by omega) htl he0 h.out).mono ?_
    rintro e w2 ⟨he, h1, hx⟩
    rw [hp.out] at he
    obtain rfl : e = thrown 7 t.at_ := he
    exact ⟨rfl, (fun _ h => by cases h), Rds.no h1.ext⟩
  · go_simp
    refine (readM_c wf w0 _ r c vr (.slice ao s.p.lt.length cp) vh s t ts hs.out (by omega) htl he0 h.out).mono ?_
    rintro e w2 ⟨he, h1, hx⟩
    rw [hp.out] at he
    obtain rfl : e = thrown 7 t.at_ := he
    exact ⟨rfl, (fun _ h => by cases h), Rds.no h1.ext⟩
theorem late_ok (wf w0 wb : World) (r c : Nat) (vr vl vh : Value) (s : St) (a : Int) (t0 t : Tok) (ts : List Tok) (hs : s.ts = t :: ts) (hl : ts.length ≤ 20008) (ht0 : t0.text.length ≤ 20000) (htl : t.text.length ≤ 20000) (hfew : s.p.lt.length ≤ 20010) (he0 : Hid (Env w0)) (hp0 : numO t0.text = some a) (h0 : Inn wf w0 wb r c vr vl vh { s with ts := t0 :: t :: ts }) (v : Int) (hp : monO t.text = some v) :
    Calls Tryz.prog 94 #[.pointer (some ⟨r, 0, none⟩)] wb fun e w' => Rds wf w0 r c s.had (.ok ({ s.p with lt := s.p.lt ++ [(a, v)] }, ts)) e w' := by
  obtain ⟨i0, hi, hz0, hz1, hz2⟩ := info_parts info_lt
  have hse : { s with ts := t :: ts } = s := by rw [← hs]
  replace hse := show Hid _ from hse
  go_enter Tryz.func94, Tryz.ntmps94
  go_wp2_with fail
  refine (readN_c wf w0 _ r c vr vl vh { s with ts := t0 :: t :: ts } t0 (t :: ts) rfl (by simp; omega) ht0 he0 h0).mono ?_
  rintro e w ⟨he, h, hx⟩
  rw [hp0] at he
  obtain rfl : e = .returned (.int .i64 a) := he
  clear hx h0 hp0
  have h := show Hid (Inn wf w0 w r c vr vl vh s) from hse.out ▸ h
  replace h := show Hid _ from h
  go_upto_region 1 with fail
  replace h := h.out
  have hvh := (h.cell 17 vl (fun _ => rfl)).1
  obtain ⟨ao, cp, hvs⟩ := own_slice h.sl
  subst hvs
  replace h := show Hid _ from h
  replace hs := show Hid _ from hs
  replace hp := show Hid _ from hp
  refine L8.wp_region_thrown (fun W => True) (fun a => a.defers = []) [] (fun t => none) (fun x W => Rds wf w0 r c s.had (.ok ({ s.p with lt := s.p.lt ++ [(a, v)] }, ts)) (.panicked x) W) (by kernel_rfl) (fun _ _ _ h1 _ h3 => ⟨h1, h3⟩) trivial (fun hHeld => ?_)
  clear hHeld
  have hd : Ext w w.drew := (Ext.refl w).drew
  replace hvh := hd.cell_of hvh
  replace h := show Hid _ from h.out.on hd
  generalize w.drew = w1 at *
  clear hd
  refine L8.takeT 0 (oi := { dst := some 5, op := Op.move (Operand.tmp 0), type := 53, pos := "clauses.go:89", after := #[], guard := none }) (v := .pointer (some ⟨r, 0, none⟩)) rfl (by kernel_rfl) (by kernel_rfl) (by kernel_rfl) (by decide) (Or.inl ⟨by rfl, fun W hW => ?_⟩) trivial ?_
  · go_simp
  simp only [Act.put, List.setIfInBounds_toArray, List.set_cons_zero, List.set_cons_succ]
  refine L8.takeT 1 (oi := { dst := some 6, op := Op.move (Operand.tmp 0), type := 53, pos := "clauses.go:89", after := #[], guard := none }) (v := .pointer (some ⟨r, 0, none⟩)) rfl (by kernel_rfl) (by kernel_rfl) (by kernel_rfl) (by decide) (Or.inl ⟨by rfl, fun W hW => ?_⟩) trivial ?_
  · go_simp
  simp only [Act.put, List.setIfInBounds_toArray, List.set_cons_zero, List.set_cons_succ]
  refine L8.takeT 2 (oi := { dst := some 7, op := Op.nilCheck (Operand.tmp 6), type := 0, pos := "clauses.go:89", after := #[{ on := 1, ground := Ground.data }], guard := none }) (v := .pointer (some ⟨r, 0, none⟩)) rfl (by kernel_rfl) (by kernel_rfl) (by kernel_rfl) (by decide) (Or.inl ⟨by rfl, fun W hW => ?_⟩) trivial ?_
  · go_simp
  simp only [Act.put, List.setIfInBounds_toArray, List.set_cons_zero, List.set_cons_succ]
  refine L8.takeT 3 (oi := { dst := some 8, op := Op.fieldAddr 90 (Operand.tmp 7) 2, type := 0, pos := "clauses.go:89", after := #[{ on := 2, ground := Ground.data }], guard := none }) (v := .pointer (some ⟨r, 2, none⟩)) rfl (by kernel_rfl) (by kernel_rfl) (by kernel_rfl) (by decide) (Or.inl ⟨by rfl, fun W hW => ?_⟩) trivial ?_
  · go_simp
  simp only [Act.put, List.setIfInBounds_toArray, List.set_cons_zero, List.set_cons_succ]
  refine L8.takeT 4 (oi := { dst := some 9, op := Op.fieldAddr 27 (Operand.tmp 8) 12, type := 0, pos := "clauses.go:89", after := #[{ on := 3, ground := Ground.data }], guard := none }) (v := .pointer (some ⟨r, 17, none⟩)) rfl (by kernel_rfl) (by kernel_rfl) (by kernel_rfl) (by decide) (Or.inl ⟨by rfl, fun W hW => ?_⟩) trivial ?_
  · go_simp
  simp only [Act.put, List.setIfInBounds_toArray, List.set_cons_zero, List.set_cons_succ]
  refine L8.takeT 6 (oi := { dst := some 11, op := Op.move (Operand.tmp 2), type := 3, pos := "clauses.go:89", after := #[], guard := none }) (v := .int .i64 a) rfl (by kernel_rfl) (by kernel_rfl) (by kernel_rfl) (by decide) (Or.inl ⟨by rfl, fun W hW => ?_⟩) trivial ?_
  · go_simp
  simp only [Act.put, List.setIfInBounds_toArray, List.set_cons_zero, List.set_cons_succ]
  refine L8.takeT 7 (oi := { dst := some 12, op := Op.move (Operand.tmp 0), type := 53, pos := "clauses.go:89", after := #[], guard := none }) (v := .pointer (some ⟨r, 0, none⟩)) rfl (by kernel_rfl) (by kernel_rfl) (by kernel_rfl) (by decide) (Or.inl ⟨by rfl, fun W hW => ?_⟩) trivial ?_
  · go_simp
  simp only [Act.put, List.setIfInBounds_toArray, List.set_cons_zero, List.set_cons_succ]
  refine wpAnyH_ready (rs := [5, 8]) (by kernel_rfl) (by simp) ?_
  refine AllReadyH.cons (o := { dst := some 10, op := Op.load 24 (Operand.tmp 9), type := 24, pos := "clauses.go:89", after := #[{ on := 4, ground := Ground.data }], guard := none }) rfl (fun K hK => ?_) (AllReadyH.cons (o := { dst := some 13, op := Op.call { callee := Callee.value (Operand.func 126), args := #[Operand.tmp 12, Operand.func 128], argTypes := #[53, 144] }, type := 2, pos := "clauses.go:89", after := #[{ on := 7, ground := Ground.data }], guard := none }) rfl (fun K hK => ?_) AllReadyH.nil)
  · go_simp
    refine hK.out _ _ trivial ?_
    clear hK K
    intro _
    try simp only [Act.put, List.setIfInBounds_toArray, List.set_cons_zero, List.set_cons_succ]
    refine wpAnyH_ready (rs := [8]) (by kernel_rfl) (by simp) ?_
    refine AllReadyH.cons (o := { dst := some 13, op := Op.call { callee := Callee.value (Operand.func 126), args := #[Operand.tmp 12, Operand.func 128], argTypes := #[53, 144] }, type := 2, pos := "clauses.go:89", after := #[{ on := 7, ground := Ground.data }], guard := none }) rfl (fun K hK => ?_) AllReadyH.nil
    go_simp
    refine (readM_c wf w0 _ r c vr (.slice ao s.p.lt.length cp) vh s t ts hs.out (by omega) htl he0 h.out).mono ?_
    rintro e w2 ⟨he, h1, hx⟩
    rw [hp.out] at he
    obtain rfl : e = .returned (.int .i64 v) := he
    have hvh2 := (h1.cell 17 (.slice ao s.p.lt.length cp) (fun _ => rfl)).1
    replace h1 := show Hid _ from h1
    clear hx
    try dsimp only
    refine hK.out _ _ trivial ?_
    clear hK K
    intro _
    try simp only [Act.put, List.setIfInBounds_toArray, List.set_cons_zero, List.set_cons_succ]
    refine L8.takeT 9 (oi := { dst := some 14, op := Op.build 60 #[(0, Operand.tmp 11), (1, Operand.tmp 13)], type := 60, pos := "clauses.go:89", after := #[{ on := 6, ground := Ground.data }, { on := 8, ground := Ground.data }], guard := none }) (v := .agg #[.int .i64 a, .int .i64 v]) rfl (by kernel_rfl) (by kernel_rfl) (by kernel_rfl) (by decide) (Or.inl ⟨by rfl, fun W hW => ?_⟩) trivial ?_
    · go_simp
    simp only [Act.put, List.setIfInBounds_toArray, List.set_cons_zero, List.set_cons_succ]
    refine wpAnyH_ready (rs := [10]) (by kernel_rfl) (by simp) ?_
    refine AllReadyH.cons (o := { dst := some 15, op := Op.buildSlice 24 1 #[(0, Operand.tmp 14)], type := 24, pos := "clauses.go:89", after := #[{ on := 9, ground := Ground.data }], guard := none }) rfl (fun K hK => ?_) AllReadyH.nil
    go_simp
    refine hK.out _ _ trivial ?_
    clear hK K
    intro _
    try simp only [Act.put, List.setIfInBounds_toArray, List.set_cons_zero, List.set_cons_succ]
    refine wpAnyH_ready (rs := [11]) (by kernel_rfl) (by simp) ?_
    refine AllReadyH.cons (o := { dst := some 16, op := Op.call { callee := Callee.builtin Builtin.append, args := #[Operand.tmp 10, Operand.tmp 15], argTypes := #[24, 24] }, type := 24, pos := "clauses.go:89", after := #[{ on := 5, ground := Ground.data }, { on := 10, ground := Ground.data }, { on := 8, ground := Ground.chain }], guard := none }) rfl (fun K hK => ?_) AllReadyH.nil
    rw [if_pos (by rfl)]
    have h2 := h1.out.on ((Ext.refl w2).alloc #[.int .i64 a, .int .i64 v] 60)
    have hsz := h2.ext.size
    refine wp_append_own _ (.tmp 10) (.tmp 15) 24 rfl w0.heap.size 60 i0 (.agg #[.int .i64 0, .int .i64 0]) 2 16 Tryz.underlying24 hi hz0 hz1 hz2 rfl (by decide) _ _ _ rfl h2.sl ⟨w2.heap.size, 0, none⟩ 1 1 [.int .i64 a, .int .i64 v] rfl rfl ?c1 ?c2 ?c3 ?c4 ?c5 ?_
    case c1 =>
      intro p u hp
      match p, hp with
      | 0, hp => simp at hp; subst hp; simp [Addr.add, go_sem]
      | 1, hp => simp at hp; subst hp; simp [Addr.add, go_sem]
      | p + 2, hp => simp at hp
    case c2 => intro u hu; simp at hu; rcases hu with rfl | rfl <;> rfl
    case c3 => unfold maxLen; show s.p.lt.length + 1 ≤ _; omega
    case c4 => show (s.p.lt.length + 1) * 16 ≤ _; omega
    case c5 => exact hsz
    intro v' w3 hown hgrow _
    obtain ⟨ao2, cp2, hv2⟩ := own_slice hown
    subst hv2
    have hG := h2.grow h2.sl hgrow (by decide) (by decide) (by decide) (by decide)
    obtain ⟨vt, hr3, _⟩ := hG.row
    have c3 := (cell_of_row w3 r 17 _ _ _ hr3).trans (show _ = some (.slice ao s.p.lt.length cp) from rfl)
    have z3 := frozen_of_row w3 r 17 _ _ hr3
    have hfin := show Hid _ from Grn.fin_l h2 hG _ a v hown
    clear hr3 hG hgrow hown hvh2 hvh h1 h2 hsz
    refine hK.out _ _ trivial ?_
    clear hK K
    intro _
    try simp only [Act.put, List.setIfInBounds_toArray, List.set_cons_zero, List.set_cons_succ]
    refine L8.takeT 12 (oi := { dst := some 17, op := Op.nilCheck (Operand.tmp 5), type := 0, pos := "clauses.go:89", after := #[{ on := 0, ground := Ground.data }, { on := 0, ground := Ground.phase }, { on := 1, ground := Ground.phase }, { on := 2, ground := Ground.phase }, { on := 3, ground := Ground.phase }, { on := 4, ground := Ground.phase }, { on := 5, ground := Ground.phase }, { on := 6, ground := Ground.phase }, { on := 7, ground := Ground.phase }, { on := 8, ground := Ground.phase }, { on := 9, ground := Ground.phase }, { on := 10, ground := Ground.phase }, { on := 11, ground := Ground.phase }], guard := none }) (v := .pointer (some ⟨r, 0, none⟩)) rfl (by kernel_rfl) (by kernel_rfl) (by kernel_rfl) (by decide) (Or.inl ⟨by rfl, fun W hW => ?_⟩) trivial ?_
    · go_simp
    simp only [Act.put, List.setIfInBounds_toArray, List.set_cons_zero, List.set_cons_succ]
    refine L8.takeT 13 (oi := { dst := some 18, op := Op.fieldAddr 90 (Operand.tmp 17) 2, type := 0, pos := "clauses.go:89", after := #[{ on := 12, ground := Ground.data }, { on := 0, ground := Ground.phase }, { on := 1, ground := Ground.phase }, { on := 2, ground := Ground.phase }, { on := 3, ground := Ground.phase }, { on := 4, ground := Ground.phase }, { on := 5, ground := Ground.phase }, { on := 6, ground := Ground.phase }, { on := 7, ground := Ground.phase }, { on := 8, ground := Ground.phase }, { on := 9, ground := Ground.phase }, { on := 10, ground := Ground.phase }, { on := 11, ground := Ground.phase }], guard := none }) (v := .pointer (some ⟨r, 2, none⟩)) rfl (by kernel_rfl) (by kernel_rfl) (by kernel_rfl) (by decide) (Or.inl ⟨by rfl, fun W hW => ?_⟩) trivial ?_
    · go_simp
    simp only [Act.put, List.setIfInBounds_toArray, List.set_cons_zero, List.set_cons_succ]
    refine L8.takeT 14 (oi := { dst := some 19, op := Op.fieldAddr 27 (Operand.tmp 18) 12, type := 0, pos := "clauses.go:89", after := #[{ on := 13, ground := Ground.data }, { on := 0, ground := Ground.phase }, { on := 1, ground := Ground.phase }, { on := 2, ground := Ground.phase }, { on := 3, ground := Ground.phase }, { on := 4, ground := Ground.phase }, { on := 5, ground := Ground.phase }, { on := 6, ground := Ground.phase }, { on := 7, ground := Ground.phase }, { on := 8, ground := Ground.phase }, { on := 9, ground := Ground.phase }, { on := 10, ground := Ground.phase }, { on := 11, ground := Ground.phase }], guard := none }) (v := .pointer (some ⟨r, 17, none⟩)) rfl (by kernel_rfl) (by kernel_rfl) (by kernel_rfl) (by decide) (Or.inl ⟨by rfl, fun W hW => ?_⟩) trivial ?_
    · go_simp
    simp only [Act.put, List.setIfInBounds_toArray, List.set_cons_zero, List.set_cons_succ]
    refine wpAnyH_ready (rs := [15]) (by kernel_rfl) (by simp) ?_
    refine AllReadyH.cons (o := { dst := none, op := Op.store 24 (Operand.tmp 19) (Operand.tmp 16), type := 0, pos := "clauses.go:89", after := #[{ on := 14, ground := Ground.data }, { on := 11, ground := Ground.data }, { on := 11, ground := Ground.chain }, { on := 0, ground := Ground.phase }, { on := 1, ground := Ground.phase }, { on := 2, ground := Ground.phase }, { on := 3, ground := Ground.phase }, { on := 4, ground := Ground.phase }, { on := 5, ground := Ground.phase }, { on := 6, ground := Ground.phase }, { on := 7, ground := Ground.phase }, { on := 8, ground := Ground.phase }, { on := 9, ground := Ground.phase }, { on := 10, ground := Ground.phase }, { on := 11, ground := Ground.phase }], guard := none }) rfl (fun K hK => ?_) AllReadyH.nil
    go_simp
    refine hK.out _ _ trivial ?_
    clear hK K
    intro _
    try simp only [Act.put, List.setIfInBounds_toArray, List.set_cons_zero, List.set_cons_succ]
    refine wpAnyH_done (by kernel_rfl) (L8.ThrowQ.normal ?_) _
    exact ⟨rfl, _, results_none rfl _ _ _, Rds.ok (s := s) hfin.out⟩
  · go_simp
    refine (readM_c wf w0 _ r c vr (.slice ao s.p.lt.length cp) vh s t ts hs.out (by omega) htl he0 h.out).mono ?_
    rintro e w2 ⟨he, h1, hx⟩
    rw [hp.out] at he
    obtain rfl : e = .returned (.int .i64 v) := he
    have hvh2 := (h1.cell 17 (.slice ao s.p.lt.length cp) (fun _ => rfl)).1
    replace h1 := show Hid _ from h1
    clear hx
    try dsimp only
    refine hK.out _ _ trivial ?_
    clear hK K
    intro _
    try simp only [Act.put, List.setIfInBounds_toArray, List.set_cons_zero, List.set_cons_succ]
    refine L8.takeT 9 (oi := { dst := some 14, op := Op.build 60 #[(0, Operand.tmp 11), (1, Operand.tmp 13)], type := 60, pos := "clauses.go:89", after := #[{ on := 6, ground := Ground.data }, { on := 8, ground := Ground.data }], guard := none }) (v := .agg #[.int .i64 a, .int .i64 v]) rfl (by kernel_rfl) (by kernel_rfl) (by kernel_rfl) (by decide) (Or.inl ⟨by rfl, fun W hW => ?_⟩) trivial ?_
    · go_simp
    simp only [Act.put, List.setIfInBounds_toArray, List.set_cons_zero, List.set_cons_succ]
    refine wpAnyH_ready (rs := [5, 10]) (by kernel_rfl) (by simp) ?_
    refine AllReadyH.cons (o := { dst := some 10, op := Op.load 24 (Operand.tmp 9), type := 24, pos := "clauses.go:89", after := #[{ on := 4, ground := Ground.data }], guard := none }) rfl (fun K hK => ?_) (AllReadyH.cons (o := { dst := some 15, op := Op.buildSlice 24 1 #[(0, Operand.tmp 14)], type := 24, pos := "clauses.go:89", after := #[{ on := 9, ground := Ground.data }], guard := none }) rfl (fun K hK => ?_) AllReadyH.nil)
    · go_simp
      refine hK.out _ _ trivial ?_
      clear hK K
      intro _
      try simp only [Act.put, List.setIfInBounds_toArray, List.set_cons_zero, List.set_cons_succ]
      refine wpAnyH_ready (rs := [10]) (by kernel_rfl) (by simp) ?_
      refine AllReadyH.cons (o := { dst := some 15, op := Op.buildSlice 24 1 #[(0, Operand.tmp 14)], type := 24, pos := "clauses.go:89", after := #[{ on := 9, ground := Ground.data }], guard := none }) rfl (fun K hK => ?_) AllReadyH.nil
      go_simp
      refine hK.out _ _ trivial ?_
      clear hK K
      intro _
      try simp only [Act.put, List.setIfInBounds_toArray, List.set_cons_zero, List.set_cons_succ]
      refine wpAnyH_ready (rs := [11]) (by kernel_rfl) (by simp) ?_
      refine AllReadyH.cons (o := { dst := some 16, op := Op.call { callee := Callee.builtin Builtin.append, args := #[Operand.tmp 10, Operand.tmp 15], argTypes := #[24, 24] }, type := 24, pos := "clauses.go:89", after := #[{ on := 5, ground := Ground.data }, { on := 10, ground := Ground.data }, { on := 8, ground := Ground.chain }], guard := none }) rfl (fun K hK => ?_) AllReadyH.nil
      rw [if_pos (by rfl)]
      have h2 := h1.out.on ((Ext.refl w2).alloc #[.int .i64 a, .int .i64 v] 60)
      have hsz := h2.ext.size
      refine wp_append_own _ (.tmp 10) (.tmp 15) 24 rfl w0.heap.size 60 i0 (.agg #[.int .i64 0, .int .i64 0]) 2 16 Tryz.underlying24 hi hz0 hz1 hz2 rfl (by decide) _ _ _ rfl h2.sl ⟨w2.heap.size, 0, none⟩ 1 1 [.int .i64 a, .int .i64 v] rfl rfl ?c1 ?c2 ?c3 ?c4 ?c5 ?_
      case c1 =>
        intro p u hp
        match p, hp with
        | 0, hp => simp at hp; subst hp; simp [Addr.add, go_sem]
        | 1, hp => simp at hp; subst hp; simp [Addr.add, go_sem]
        | p + 2, hp => simp at hp
      case c2 => intro u hu; simp at hu; rcases hu with rfl | rfl <;> rfl
      case c3 => unfold maxLen; show s.p.lt.length + 1 ≤ _; omega
      case c4 => show (s.p.lt.length + 1) * 16 ≤ _; omega
      case c5 => exact hsz
      intro v' w3 hown hgrow _
      obtain ⟨ao2, cp2, hv2⟩ := own_slice hown
      subst hv2
      have hG := h2.grow h2.sl hgrow (by decide) (by decide) (by decide) (by decide)
      obtain ⟨vt, hr3, _⟩ := hG.row
      have c3 := (cell_of_row w3 r 17 _ _ _ hr3).trans (show _ = some (.slice ao s.p.lt.length cp) from rfl)
      have z3 := frozen_of_row w3 r 17 _ _ hr3
      have hfin := show Hid _ from Grn.fin_l h2 hG _ a v hown
      clear hr3 hG hgrow hown hvh2 hvh h1 h2 hsz
      refine hK.out _ _ trivial ?_
      clear hK K
      intro _
      try simp only [Act.put, List.setIfInBounds_toArray, List.set_cons_zero, List.set_cons_succ]
      refine L8.takeT 12 (oi := { dst := some 17, op := Op.nilCheck (Operand.tmp 5), type := 0, pos := "clauses.go:89", after := #[{ on := 0, ground := Ground.data }, { on := 0, ground := Ground.phase }, { on := 1, ground := Ground.phase }, { on := 2, ground := Ground.phase }, { on := 3, ground := Ground.phase }, { on := 4, ground := Ground.phase }, { on := 5, ground := Ground.phase }, { on := 6, ground := Ground.phase }, { on := 7, ground := Ground.phase }, { on := 8, ground := Ground.phase }, { on := 9, ground := Ground.phase }, { on := 10, ground := Ground.phase }, { on := 11, ground := Ground.phase }], guard := none }) (v := .pointer (some ⟨r, 0, none⟩)) rfl (by kernel_rfl) (by kernel_rfl) (by kernel_rfl) (by decide) (Or.inl ⟨by rfl, fun W hW => ?_⟩) trivial ?_
      · go_simp
      simp only [Act.put, List.setIfInBounds_toArray, List.set_cons_zero, List.set_cons_succ]
      refine L8.takeT 13 (oi := { dst := some 18, op := Op.fieldAddr 90 (Operand.tmp 17) 2, type := 0, pos := "clauses.go:89", after := #[{ on := 12, ground := Ground.data }, { on := 0, ground := Ground.phase }, { on := 1, ground := Ground.phase }, { on := 2, ground := Ground.phase }, { on := 3, ground := Ground.phase }, { on := 4, ground := Ground.phase }, { on := 5, ground := Ground.phase }, { on := 6, ground := Ground.phase }, { on := 7, ground := Ground.phase }, { on := 8, ground := Ground.phase }, { on := 9, ground := Ground.phase }, { on := 10, ground := Ground.phase }, { on := 11, ground := Ground.phase }], guard := none }) (v := .pointer (some ⟨r, 2, none⟩)) rfl (by kernel_rfl) (by kernel_rfl) (by kernel_rfl) (by decide) (Or.inl ⟨by rfl, fun W hW => ?_⟩) trivial ?_
      · go_simp
      simp only [Act.put, List.setIfInBounds_toArray, List.set_cons_zero, List.set_cons_succ]
      refine L8.takeT 14 (oi := { dst := some 19, op := Op.fieldAddr 27 (Operand.tmp 18) 12, type := 0, pos := "clauses.go:89", after := #[{ on := 13, ground := Ground.data }, { on := 0, ground := Ground.phase }, { on := 1, ground := Ground.phase }, { on := 2, ground := Ground.phase }, { on := 3, ground := Ground.phase }, { on := 4, ground := Ground.phase }, { on := 5, ground := Ground.phase }, { on := 6, ground := Ground.phase }, { on := 7, ground := Ground.phase }, { on := 8, ground := Ground.phase }, { on := 9, ground := Ground.phase }, { on := 10, ground := Ground.phase }, { on := 11, ground := Ground.phase }], guard := none }) (v := .pointer (some ⟨r, 17, none⟩)) rfl (by kernel_rfl) (by kernel_rfl) (by kernel_rfl) (by decide) (Or.inl ⟨by rfl, fun W hW => ?_⟩) trivial ?_
      · go_simp
      simp only [Act.put, List.setIfInBounds_toArray, List.set_cons_zero, List.set_cons_succ]
      refine wpAnyH_ready (rs := [15]) (by kernel_rfl) (by simp) ?_
      refine AllReadyH.cons (o := { dst := none, op := Op.store 24 (Operand.tmp 19) (Operand.tmp 16), type := 0, pos := "clauses.go:89", after := #[{ on := 14, ground := Ground.data }, { on := 11, ground := Ground.data }, { on := 11, ground := Ground.chain }, { on := 0, ground := Ground.phase }, { on := 1, ground := Ground.phase }, { on := 2, ground := Ground.phase }, { on := 3, ground := Ground.phase }, { on := 4, ground := Ground.phase }, { on := 5, ground := Ground.phase }, { on := 6, ground := Ground.phase }, { on := 7, ground := Ground.phase }, { on := 8, ground := Ground.phase }, { on := 9, ground := Ground.phase }, { on := 10, ground := Ground.phase }, { on := 11, ground := Ground.phase }], guard := none }) rfl (fun K hK => ?_) AllReadyH.nil
      go_simp
      refine hK.out _ _ trivial ?_
      clear hK K
      intro _
      try simp only [Act.put, List.setIfInBounds_toArray, List.set_cons_zero, List.set_cons_succ]
      refine wpAnyH_done (by kernel_rfl) (L8.ThrowQ.normal ?_) _
      exact ⟨rfl, _, results_none rfl _ _ _, Rds.ok (s := s) hfin.out⟩
    · go_simp
      refine hK.out _ _ trivial ?_
      clear hK K
      intro _
      try simp only [Act.put, List.setIfInBounds_toArray, List.set_cons_zero, List.set_cons_succ]
      have hvh3 := ((Ext.refl w2).alloc #[.int .i64 a, .int .i64 v] 60).cell_of hvh2
      refine wpAnyH_ready (rs := [5]) (by kernel_rfl) (by simp) ?_
      refine AllReadyH.cons (o := { dst := some 10, op := Op.load 24 (Operand.tmp 9), type := 24, pos := "clauses.go:89", after := #[{ on := 4, ground := Ground.data }], guard := none }) rfl (fun K hK => ?_) AllReadyH.nil
      go_simp
      refine hK.out _ _ trivial ?_
      clear hK K
      intro _
      try simp only [Act.put, List.setIfInBounds_toArray, List.set_cons_zero, List.set_cons_succ]
      refine wpAnyH_ready (rs := [11]) (by kernel_rfl) (by simp) ?_
      refine AllReadyH.cons (o := { dst := some 16, op := Op.call { callee := Callee.builtin Builtin.append, args := #[Operand.tmp 10, Operand.tmp 15], argTypes := #[24, 24] }, type := 24, pos := "clauses.go:89", after := #[{ on := 5, ground := Ground.data }, { on := 10, ground := Ground.data }, { on := 8, ground := Ground.chain }], guard := none }) rfl (fun K hK => ?_) AllReadyH.nil
      rw [if_pos (by rfl)]
      have h2 := h1.out.on ((Ext.refl w2).alloc #[.int .i64 a, .int .i64 v] 60)
      have hsz := h2.ext.size
      refine wp_append_own _ (.tmp 10) (.tmp 15) 24 rfl w0.heap.size 60 i0 (.agg #[.int .i64 0, .int .i64 0]) 2 16 Tryz.underlying24 hi hz0 hz1 hz2 rfl (by decide) _ _ _ rfl h2.sl ⟨w2.heap.size, 0, none⟩ 1 1 [.int .i64 a, .int .i64 v] rfl rfl ?c1 ?c2 ?c3 ?c4 ?c5 ?_
      case c1 =>
        intro p u hp
        match p, hp with
        | 0, hp => simp at hp; subst hp; simp [Addr.add, go_sem]
        | 1, hp => simp at hp; subst hp; simp [Addr.add, go_sem]
        | p + 2, hp => simp at hp
      case c2 => intro u hu; simp at hu; rcases hu with rfl | rfl <;> rfl
      case c3 => unfold maxLen; show s.p.lt.length + 1 ≤ _; omega
      case c4 => show (s.p.lt.length + 1) * 16 ≤ _; omega
      case c5 => exact hsz
      intro v' w3 hown hgrow _
      obtain ⟨ao2, cp2, hv2⟩ := own_slice hown
      subst hv2
      have hG := h2.grow h2.sl hgrow (by decide) (by decide) (by decide) (by decide)
      obtain ⟨vt, hr3, _⟩ := hG.row
      have c3 := (cell_of_row w3 r 17 _ _ _ hr3).trans (show _ = some (.slice ao s.p.lt.length cp) from rfl)
      have z3 := frozen_of_row w3 r 17 _ _ hr3
      have hfin := show Hid _ from Grn.fin_l h2 hG _ a v hown
      clear hr3 hG hgrow hown hvh2 hvh h1 h2 hsz
      refine hK.out _ _ trivial ?_
      clear hK K
      intro _
      try simp only [Act.put, List.setIfInBounds_toArray, List.set_cons_zero, List.set_cons_succ]
      refine L8.takeT 12 (oi := { dst := some 17, op := Op.nilCheck (Operand.tmp 5), type := 0, pos := "clauses.go:89", after := #[{ on := 0, ground := Ground.data }, { on := 0, ground := Ground.phase }, { on := 1, ground := Ground.phase }, { on := 2, ground := Ground.phase }, { on := 3, ground := Ground.phase }, { on := 4, ground := Ground.phase }, { on := 5, ground := Ground.phase }, { on := 6, ground := Ground.phase }, { on := 7, ground := Ground.phase }, { on := 8, ground := Ground.phase }, { on := 9, ground := Ground.phase }, { on := 10, ground := Ground.phase }, { on := 11, ground := Ground.phase }], guard := none }) (v := .pointer (some ⟨r, 0, none⟩)) rfl (by kernel_rfl) (by kernel_rfl) (by kernel_rfl) (by decide) (Or.inl ⟨by rfl, fun W hW => ?_⟩) trivial ?_
      · go_simp
      simp only [Act.put, List.setIfInBounds_toArray, List.set_cons_zero, List.set_cons_succ]
      refine L8.takeT 13 (oi := { dst := some 18, op := Op.fieldAddr 90 (Operand.tmp 17) 2, type := 0, pos := "clauses.go:89", after := #[{ on := 12, ground := Ground.data }, { on := 0, ground := Ground.phase }, { on := 1, ground := Ground.phase }, { on := 2, ground := Ground.phase }, { on := 3, ground := Ground.phase }, { on := 4, ground := Ground.phase }, { on := 5, ground := Ground.phase }, { on := 6, ground := Ground.phase }, { on := 7, ground := Ground.phase }, { on := 8, ground := Ground.phase }, { on := 9, ground := Ground.phase }, { on := 10, ground := Ground.phase }, { on := 11, ground := Ground.phase }], guard := none }) (v := .pointer (some ⟨r, 2, none⟩)) rfl (by kernel_rfl) (by kernel_rfl) (by kernel_rfl) (by decide) (Or.inl ⟨by rfl, fun W hW => ?_⟩) trivial ?_
      · go_simp
      simp only [Act.put, List.setIfInBounds_toArray, List.set_cons_zero, List.set_cons_succ]
      refine L8.takeT 14 (oi := { dst := some 19, op := Op.fieldAddr 27 (Operand.tmp 18) 12, type := 0, pos := "clauses.go:89", after := #[{ on := 13, ground := Ground.data }, { on := 0, ground := Ground.phase }, { on := 1, ground := Ground.phase }, { on := 2, ground := Ground.phase }, { on := 3, ground := Ground.phase }, { on := 4, ground := Ground.phase }, { on := 5, ground := Ground.phase }, { on := 6, ground := Ground.phase }, { on := 7, ground := Ground.phase }, { on := 8, ground := Ground.phase }, { on := 9, ground := Ground.phase }, { on := 10, ground := Ground.phase }, { on := 11, ground := Ground.phase }], guard := none }) (v := .pointer (some ⟨r, 17, none⟩)) rfl (by kernel_rfl) (by kernel_rfl) (by kernel_rfl) (by decide) (Or.inl ⟨by rfl, fun W hW => ?_⟩) trivial ?_
      · go_simp
      simp only [Act.put, List.setIfInBounds_toArray, List.set_cons_zero, List.set_cons_succ]
      refine wpAnyH_ready (rs := [15]) (by kernel_rfl) (by simp) ?_
      refine AllReadyH.cons (o := { dst := none, op := Op.store 24 (Operand.tmp 19) (Operand.tmp 16), type := 0, pos := "clauses.go:89", after := #[{ on := 14, ground := Ground.data }, { on := 11, ground := Ground.data }, { on := 11, ground := Ground.chain }, { on := 0, ground := Ground.phase }, { on := 1, ground := Ground.phase }, { on := 2, ground := Ground.phase }, { on := 3, ground := Ground.phase }, { on := 4, ground := Ground.phase }, { on := 5, ground := Ground.phase }, { on := 6, ground := Ground.phase }, { on := 7, ground := Ground.phase }, { on := 8, ground := Ground.phase }, { on := 9, ground := Ground.phase }, { on := 10, ground := Ground.phase }, { on := 11, ground := Ground.phase }], guard := none }) rfl (fun K hK => ?_) AllReadyH.nil
      go_simp
      refine hK.out _ _ trivial ?_
      clear hK K
      intro _
      try simp only [Act.put, List.setIfInBounds_toArray, List.set_cons_zero, List.set_cons_succ]
      refine wpAnyH_done (by kernel_rfl) (L8.ThrowQ.normal ?_) _
      exact ⟨rfl, _, results_none rfl _ _ _, Rds.ok (s := s) hfin.out⟩
end Go.Proofs.YtbnpaeejlfaboaaGreatDoor

namespace Go.Proofs.YtbnpaeejlfaboaaGreatDoor
open Go.RowKit Go.Lib
set_option linter.unusedVariables false
/-- The end comes last; no sign is too long; no list is. -/
structure Fine (s : St) : Prop where
  fin : ∃ pre e, s.ts = pre ++ [e] ∧ e.text = []
  len : ∀ t ∈ s.ts, t.text.length ≤ 20000
  few : s.ts.length + s.p.rs.length + s.p.lt.length + s.p.hd.length ≤ 20010
theorem Fine.cons {s : St} (h : Fine s) : ∃ t ts, s.ts = t :: ts ∧ t.text.length ≤ 20000 ∧ ts.length + 1 ≤ 20010 := by
  obtain ⟨pre, e, h1, _⟩ := h.fin
  cases hs : s.ts with
  | nil => rw [hs] at h1; simp at h1
  | cons t ts =>
    have := h.few
    rw [hs] at this
    simp only [List.length_cons] at this
    exact ⟨t, ts, rfl, h.len t (by rw [hs]; simp), by omega⟩
theorem Fine.next {s : St} {t : Tok} {ts : List Tok} (h : Fine s) (hs : s.ts = t :: ts) (ht : t.text ≠ []) : Fine { s with ts := ts } := by
  refine ⟨?_, fun u hu => h.len u (by rw [hs]; exact List.mem_cons_of_mem _ hu), ?_⟩
  · obtain ⟨pre, e, h1, h2⟩ := h.fin
    rw [hs] at h1
    cases pre with
    | nil =>
      simp only [List.nil_append, List.cons.injEq] at h1
      exact absurd (h1.1 ▸ h2) ht
    | cons a pre =>
      simp only [List.cons_append, List.cons.injEq] at h1
      exact ⟨pre, e, h1.2, h2⟩
  · have := h.few
    rw [hs] at this
    simp only [List.length_cons] at this
    show ts.length + s.p.rs.length + s.p.lt.length + s.p.hd.length ≤ 20010
    omega
theorem num_nil : numO [] = none := by decide +kernel
theorem rate_nil : rateO [] = none := by decide +kernel
theorem mon_nil : monO [] = none := by decide +kernel
theorem day_nil : dayO [] = none := by decide +kernel
theorem some_ne {f : List UInt8 → Option Int} (hf : f [] = none) {l : List UInt8} {v : Int} (h : f l = some v) : l ≠ [] := by
  rintro rfl
  rw [hf] at h
  cases h
theorem reset_n (wf w0 w : World) (r c : Nat) (vr vl vh : Value) (s : St) (t : Tok) (ts : List Tok) (hs : s.ts = t :: ts) (hl : ts.length ≤ 20010) (htl : t.text.length ≤ 20000) (he0 : Hid (Env w0)) (h : Inn wf w0 w r c vr vl vh s) (hp : numO t.text = none) :
    Calls Tryz.prog 93 #[.pointer (some ⟨r, 0, none⟩)] w fun e w' => Rds wf w0 r c s.had (.no 7 t.at_) e w' := by
  go_enter Tryz.func93, Tryz.ntmps93
  go_wp2_with fail
  refine (readN_c wf w0 _ r c vr vl vh s t ts hs hl htl he0 h).mono ?_
  rintro e w1 ⟨he, h1, hx⟩
  rw [hp] at he
  obtain rfl : e = thrown 7 t.at_ := he
  replace h1 := show Hid _ from h1
  clear hx h hp hs
  unfold thrown
  go_wp2
  exact ⟨rfl, Rds.no h1.out.ext⟩
theorem reset_c (wf w0 w : World) (r c : Nat) (vr vl vh : Value) (s : St) (hf : Fine s) (he0 : Hid (Env w0)) (h : Inn wf w0 w r c vr vl vh s) :
    Calls Tryz.prog 93 #[.pointer (some ⟨r, 0, none⟩)] w fun e w' => Rds wf w0 r c s.had (clauseR 8 s.p s.ts) e w' := by
  obtain ⟨t0, ts0, hs, ht0, hl0⟩ := hf.cons
  cases hp : numO t0.text with
  | none =>
    have hX : clauseR 8 s.p s.ts = .no 7 t0.at_ := by
      rw [hs]; show (tk _ _).bind _ = _; rw [tk_none hp]; rfl
    rw [hX]; exact reset_n wf w0 w r c vr vl vh s t0 ts0 hs (by omega) ht0 he0 h hp
  | some a =>
    have hf2 := hf.next hs (some_ne num_nil hp)
    obtain ⟨t, ts, hs2, ht, hl⟩ := hf2.cons
    have hs2' : ts0 = t :: ts := hs2
    subst hs2'
    have hfew : s.p.rs.length ≤ 20010 := by have := hf.few; omega
    have hse : { s with ts := t0 :: t :: ts } = s := by rw [← hs]
    have h0 : Inn wf w0 w r c vr vl vh { s with ts := t0 :: t :: ts } := hse.symm ▸ h
    have hlen : ts.length ≤ 20008 := by
      simp only [List.length_cons] at hl0
      omega
    cases hq : rateO t.text with
    | none =>
      have hX : clauseR 8 s.p s.ts = .no 7 t.at_ := by
        rw [hs]; show (tk _ _).bind _ = _; rw [tk_some hp]; show (tk _ _).bind _ = _; rw [tk_none hq]; rfl
      rw [hX]; exact reset_no wf w0 w r c vr vl vh { s with ts := t :: ts } a t0 t ts rfl hlen ht0 ht hfew he0 hp h0 hq
    | some v =>
      have hX : clauseR 8 s.p s.ts = .ok ({ s.p with rs := s.p.rs ++ [(a, v)] }, ts) := by
        rw [hs]; show (tk _ _).bind _ = _; rw [tk_some hp]; show (tk _ _).bind _ = _; rw [tk_some hq]; rfl
      rw [hX]; exact reset_ok wf w0 w r c vr vl vh { s with ts := t :: ts } a t0 t ts rfl hlen ht0 ht hfew he0 hp h0 v hq
theorem late_n (wf w0 w : World) (r c : Nat) (vr vl vh : Value) (s : St) (t : Tok) (ts : List Tok) (hs : s.ts = t :: ts) (hl : ts.length ≤ 20010) (htl : t.text.length ≤ 20000) (he0 : Hid (Env w0)) (h : Inn wf w0 w r c vr vl vh s) (hp : numO t.text = none) :
    Calls Tryz.prog 94 #[.pointer (some ⟨r, 0, none⟩)] w fun e w' => Rds wf w0 r c s.had (.no 7 t.at_) e w' := by
  go_enter Tryz.func94, Tryz.ntmps94
  go_wp2_with fail
  refine (readN_c wf w0 _ r c vr vl vh s t ts hs hl htl he0 h).mono ?_
  rintro e w1 ⟨he, h1, hx⟩
  rw [hp] at he
  obtain rfl : e = thrown 7 t.at_ := he
  replace h1 := show Hid _ from h1
  clear hx h hp hs
  unfold thrown
  go_wp2
  exact ⟨rfl, Rds.no h1.out.ext⟩
theorem late_c (wf w0 w : World) (r c : Nat) (vr vl vh : Value) (s : St) (hf : Fine s) (he0 : Hid (Env w0)) (h : Inn wf w0 w r c vr vl vh s) :
    Calls Tryz.prog 94 #[.pointer (some ⟨r, 0, none⟩)] w fun e w' => Rds wf w0 r c s.had (clauseR 9 s.p s.ts) e w' := by
  obtain ⟨t0, ts0, hs, ht0, hl0⟩ := hf.cons
  cases hp : numO t0.text with
  | none =>
    have hX : clauseR 9 s.p s.ts = .no 7 t0.at_ := by
      rw [hs]; show (tk _ _).bind _ = _; rw [tk_none hp]; rfl
    rw [hX]; exact late_n wf w0 w r c vr vl vh s t0 ts0 hs (by omega) ht0 he0 h hp
  | some a =>
    have hf2 := hf.next hs (some_ne num_nil hp)
    obtain ⟨t, ts, hs2, ht, hl⟩ := hf2.cons
    have hs2' : ts0 = t :: ts := hs2
    subst hs2'
    have hfew : s.p.lt.length ≤ 20010 := by have := hf.few; omega
    have hse : { s with ts := t0 :: t :: ts } = s := by rw [← hs]
    have h0 : Inn wf w0 w r c vr vl vh { s with ts := t0 :: t :: ts } := hse.symm ▸ h
    have hlen : ts.length ≤ 20008 := by
      simp only [List.length_cons] at hl0
      omega
    cases hq : monO t.text with
    | none =>
      have hX : clauseR 9 s.p s.ts = .no 7 t.at_ := by
        rw [hs]; show (tk _ _).bind _ = _; rw [tk_some hp]; show (tk _ _).bind _ = _; rw [tk_none hq]; rfl
      rw [hX]; exact late_no wf w0 w r c vr vl vh { s with ts := t :: ts } a t0 t ts rfl hlen ht0 ht hfew he0 hp h0 hq
    | some v =>
      have hX : clauseR 9 s.p s.ts = .ok ({ s.p with lt := s.p.lt ++ [(a, v)] }, ts) := by
        rw [hs]; show (tk _ _).bind _ = _; rw [tk_some hp]; show (tk _ _).bind _ = _; rw [tk_some hq]; rfl
      rw [hX]; exact late_ok wf w0 w r c vr vl vh { s with ts := t :: ts } a t0 t ts rfl hlen ht0 ht hfew he0 hp h0 v hq
end Go.Proofs.YtbnpaeejlfaboaaGreatDoor
