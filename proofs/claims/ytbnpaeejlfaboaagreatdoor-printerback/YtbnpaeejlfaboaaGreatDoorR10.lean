/- Contracts that the proof of this law leans on: no statement of the seat is proved here. -/
import Derived.Deep.MidRow
import Derived.Deep.RegionHeld3
import Derived.Laws.Externs
import Derived.Lib.AppendStr
import Derived.Lib.Builder
import Derived.Lib.UnsafeStr
import Derived.Test.YtbnpaeejlfaboaaGreatDoorR0
import Derived.Test.YtbnpaeejlfaboaaGreatDoorR2
import Derived.Test.YtbnpaeejlfaboaaGreatDoorR3
import Derived.Test.YtbnpaeejlfaboaaGreatDoorR4
import Derived.Test.YtbnpaeejlfaboaaGreatDoorR5
import Derived.Test.YtbnpaeejlfaboaaGreatDoorR7
import Derived.Test.YtbnpaeejlfaboaaGreatDoorR8
import Derived.Test.YtbnpaeejlfaboaaGreatDoorR9

namespace Go.Proofs.YtbnpaeejlfaboaaGreatDoor
open Go.RowKit Go.Lib
set_option linter.unusedVariables false
def pcells (p : Prd) (vr vl vh : Value) : Array Value := #[.string ⟨p.nm.toArray⟩, .int .i64 p.cn, .int .i64 p.rd, .int .i64 p.kd, .int .i64 p.ev, .int .i64 p.tm, .int .i64 p.gr, .int .i64 p.rt, vr, .int .i64 p.pn, .int .i64 p.o0, .int .i64 p.o1, .int .i64 p.o2, .int .i64 p.o3, .int .i64 p.ov, vl, .int .i64 p.cp, .int .i64 p.rl, vh]
/-- A product's lists, in rows of their own. -/
structure Lsts (w0 w : World) (p : Prd) (vr vl vh : Value) : Prop where
  sr : w.ownsRow w0.heap.size 57 2 vr p.rs.length (cellsP p.rs)
  sl : w.ownsRow w0.heap.size 60 2 vl p.lt.length (cellsP p.lt)
  sh : w.ownsRow w0.heap.size 3 1 vh p.hd.length (p.hd.map (.int .i64))
theorem Lsts.ext {w0 w w' : World} {p : Prd} {vr vl vh : Value} (h : Lsts w0 w p vr vl vh) (hx : Ext w w') : Lsts w0 w' p vr vl vh := ⟨L7.own_ext h.sr hx, L7.own_ext h.sl hx, L7.own_ext h.sh hx⟩
/-- What is told of signs, or thrown. -/
def Txt (w0 : World) (X : Res Prd) (e : Ending) (w' : World) : Prop :=
  Ext w0 w' ∧ match X with
    | .ok p => ∃ vr vl vh, e = .returned (.agg (pcells p vr vl vh)) ∧ Lsts w0 w' p vr vl vh
    | .no x y => e = thrown x y
theorem Txt.no {w0 w : World} {x y : Nat} (hx : Ext w0 w) : Txt w0 (.no x y) (thrown x y) w := ⟨hx, rfl⟩
theorem Inn.range {wf w0 w : World} {r c : Nat} {vr vl vh : Value} {s : St} (h : Inn wf w0 w r c vr vl vh s) : w.rangeAt r 2 (pcells s.p vr vl vh).toList := fun j v hv => by
  obtain ⟨vt, hr, _⟩ := h.row
  refine (cell_of_row w r (2 + j) _ _ _ hr).trans ?_
  match j, hv with
  | 0, hv => exact hv
  | 1, hv => exact hv
  | 2, hv => exact hv
  | 3, hv => exact hv
  | 4, hv => exact hv
  | 5, hv => exact hv
  | 6, hv => exact hv
  | 7, hv => exact hv
  | 8, hv => exact hv
  | 9, hv => exact hv
  | 10, hv => exact hv
  | 11, hv => exact hv
  | 12, hv => exact hv
  | 13, hv => exact hv
  | 14, hv => exact hv
  | 15, hv => exact hv
  | 16, hv => exact hv
  | 17, hv => exact hv
  | 18, hv => exact hv
  | j + 19, hv => simp [pcells] at hv
theorem cellsP_at : ∀ (l : List (Int × Int)) (k : Nat) (x y : Int), l[k]? = some (x, y) → (cellsP l)[k * 2]? = some (.int .i64 x) ∧ (cellsP l)[k * 2 + 1]? = some (.int .i64 y)
  | [], k, x, y, h => by simp at h
  | p :: l, 0, x, y, h => by
    obtain rfl : p = (x, y) := by simpa using h
    exact ⟨rfl, rfl⟩
  | p :: l, k + 1, x, y, h => by
    have ih := cellsP_at l k x y (by simpa using h)
    have e : (k + 1) * 2 = k * 2 + 2 := by omega
    rw [e]
    exact ih
theorem slp_own {w : World} {B : Nat} {e : TypeId} {v : Value} {l : List (Int × Int)} (h : w.ownsRow B e 2 v l.length (cellsP l)) : L8.Slp w v l := by
  have h' := h
  rcases h'.2 with ⟨rfl, h0⟩ | ⟨g, c, cur, rfl, _⟩
  · obtain rfl := List.eq_nil_of_length_eq_zero h0
    exact Or.inl ⟨none, 0, rfl, fun _ => rfl, rfl⟩
  · refine Or.inr ⟨g, 0, c, rfl, fun k x y hk => ?_⟩
    have hc := h.cells (g := g) rfl
    have hadd : ∀ j, (⟨g, 0, none⟩ : Addr).add j = ⟨g, 0 + j, none⟩ := fun j => Addr.add_mid g 0 j
    exact ⟨hadd _ ▸ hc _ _ (cellsP_at l k x y hk).1, by have := hc _ _ (cellsP_at l k x y hk).2; rw [hadd] at this; simpa [Nat.add_assoc] using this⟩
theorem slc_own {w : World} {B : Nat} {e : TypeId} {v : Value} {l : List Int} (h : w.ownsRow B e 1 v l.length (l.map (.int .i64))) : L8.Slc w v l := by
  have h' := h
  rcases h'.2 with ⟨rfl, h0⟩ | ⟨g, c, cur, rfl, _⟩
  · obtain rfl := List.eq_nil_of_length_eq_zero h0
    exact Or.inl ⟨none, 0, rfl, fun _ => rfl, rfl⟩
  · refine Or.inr ⟨g, 0, c, rfl, fun k x hk => ?_⟩
    have hc := h.cells (g := g) rfl k (.int .i64 x) (by simp [hk])
    rw [Addr.add_mid] at hc
    exact hc
theorem Check_p (p : Prd) (vr vl vh : Value) (w : World) (hnm : p.nm.length ≤ 30000) (hf : p.rs.length + p.lt.length + p.hd.length ≤ 30000) (sr : L8.Slp w vr p.rs) (sl : L8.Slp w vl p.lt) (sh : L8.Slc w vh p.hd) :
    Calls Tryz.prog 10 #[.agg (pcells p vr vl vh)] w fun e w' => e = .returned (.int .i64 (if okP p then 0 else 9)) ∧ Ext w w' :=
  L8.Check_x p.nm p.cn p.rd p.kd p.ev p.tm p.gr p.rt vr p.rs p.pn p.o0 p.o1 p.o2 p.o3 p.ov vl p.lt p.cp p.rl vh p.hd (if okP p then 0 else 9) rfl w (by omega) (by omega) (by omega) (by omega) sr sl sh
theorem bind_ok {α β : Type} {r : Res α} {f : α → Res β} {b : β} (h : r.bind f = .ok b) : ∃ a, r = .ok a ∧ f a = .ok b := by
  cases r with
  | ok a => exact ⟨a, rfl, h⟩
  | no x y => cases h
theorem clauseR_nm {i : Nat} {p : Prd} {ts : List Tok} {a : Prd × List Tok} (h : clauseR i p ts = .ok a) : a.1.nm = p.nm := by
  have one : ∀ {f : List UInt8 → Option Int} {g : Int → Prd}, (∀ v, (g v).nm = p.nm) → ((tk f ts).bind fun b => Res.ok (g b.1, b.2)) = .ok a → a.1.nm = p.nm := by
    intro f g hg hb
    obtain ⟨b, _, hb2⟩ := bind_ok hb
    obtain rfl := Res.ok.inj hb2
    exact hg b.1
  have two : ∀ {f g : List UInt8 → Option Int} {q : Int → Int → Prd}, (∀ u v, (q u v).nm = p.nm) → ((tk f ts).bind fun b => (tk g b.2).bind fun d => Res.ok (q b.1 d.1, d.2)) = .ok a → a.1.nm = p.nm := by
    intro f g q hq hb
    obtain ⟨b, _, hb2⟩ := bind_ok hb
    obtain ⟨d, _, hb3⟩ := bind_ok hb2
    obtain rfl := Res.ok.inj hb3
    exact hq b.1 d.1
  match i, h with
  | 0, h => exact one (g := fun v => { p with cn := v }) (fun _ => rfl) h
  | 1, h => exact one (g := fun v => { p with rd := v }) (fun _ => rfl) h
  | 2, h => exact one (g := fun v => { p with kd := v }) (fun _ => rfl) h
  | 3, h => exact one (g := fun v => { p with ev := v }) (fun _ => rfl) h
  | 4, h => exact one (g := fun v => { p with tm := v }) (fun _ => rfl) h
  | 5, h => exact one (g := fun v => { p with gr := v }) (fun _ => rfl) h
  | 6, h => exact one (g := fun v => { p with rt := v }) (fun _ => rfl) h
  | 7, h => exact one (g := fun v => { p with pn := v }) (fun _ => rfl) h
  | 8, h => exact two (q := fun u v => { p with rs := p.rs ++ [(u, v)] }) (fun _ _ => rfl) h
  | 9, h => exact two (q := fun u v => { p with lt := p.lt ++ [(u, v)] }) (fun _ _ => rfl) h
  | 10, h => exact one (g := fun v => { p with cp := v }) (fun _ => rfl) h
  | 11, h => exact one (g := fun v => { p with hd := p.hd ++ [v] }) (fun _ => rfl) h
  | 12, h =>
    obtain ⟨a0, _, h⟩ := bind_ok (show orderR p ts = .ok a from h)
    obtain ⟨a1, _, h⟩ := bind_ok h
    obtain ⟨a2, _, h⟩ := bind_ok h
    obtain ⟨a3, _, h⟩ := bind_ok h
    obtain rfl := Res.ok.inj h
    rfl
  | 13, h => exact one (g := fun v => { p with ov := v }) (fun _ => rfl) h
  | 14, h => exact one (g := fun v => { p with rl := v }) (fun _ => rfl) h
  | i + 15, h => cases h
theorem clR_nm {t : Tok} {s u : St} (h : clR t s = .ok u) : u.p.nm = s.p.nm := by
  unfold clR at h
  split at h
  · split at h
    · obtain ⟨a, ha, h⟩ := bind_ok h
      obtain ⟨b, _, h⟩ := bind_ok h
      obtain rfl := Res.ok.inj h
      exact clauseR_nm ha
    · cases h
  · cases h
theorem grp_nm : ∀ (f d : Nat) (s u : St), grp f d s = .ok u → u.p.nm = s.p.nm
  | 0, d, s, u, h => by cases h
  | f + 1, d, s, u, h => by
    rw [grp] at h
    cases hs : s.ts with
    | nil => rw [hs] at h; cases h
    | cons t ts =>
      rw [hs] at h
      simp only [] at h
      split at h
      · obtain rfl := Res.ok.inj h; rfl
      · split at h
        · split at h
          · obtain ⟨v, hv, h⟩ := bind_ok h
            exact (grp_nm f d v u h).trans (grp_nm f (d + 1) { s with ts := ts } v hv)
          · cases h
        · obtain ⟨v, hv, h⟩ := bind_ok h
          exact (grp_nm f d v u h).trans (clR_nm (s := { s with ts := ts }) hv)
theorem pcells_one {w : World} {B : Nat} {p : Prd} {vr vl vh : Value} {e f g : TypeId} {x y z a b c : Nat} {xs ys zs : List Value} (h1 : w.ownsRow B e x vr a xs) (h2 : w.ownsRow B f y vl b ys) (h3 : w.ownsRow B g z vh c zs) : (pcells p vr vl vh).all (·.oneCell') = true := by
  obtain ⟨ar, cr, rfl⟩ := own_slice h1
  obtain ⟨al, cl, rfl⟩ := own_slice h2
  obtain ⟨ah, ch, rfl⟩ := own_slice h3
  simp [pcells, Value.oneCell']
theorem keep_tag {w w' : World} {a : Nat} {cells : Array Value} (ha : w.heap[a]? = some (Obj.cells cells 27 (0, 0))) (hx : Exr a w w') : ∀ (f : TypeId), f ≠ 27 → ∀ (k : Nat) (cur : Array Value), w.heap[k]? = some (Obj.cells cur f (0, 0)) → w'.heap[k]? = w.heap[k]? := fun f hf k cur hk => hx.block k (Array.getElem?_eq_some_iff.1 hk).1 (by
  rintro rfl
  have := hk.symm.trans ha
  simp at this
  exact hf this.2)
theorem xp_ok {l : List UInt8} {t : Tok} {ts : List Tok} (h : t.text = l) : xp l (t :: ts) = .ok ts := by simp only [xp, if_pos h]
theorem xp_no {l : List UInt8} {t : Tok} {ts : List Tok} (h : ¬ t.text = l) : xp l (t :: ts) = .no 7 t.at_ := by simp only [xp, if_neg h]
def prodL : List UInt8 := [112, 114, 111, 100, 117, 99, 116]
theorem textR_a {t0 : Tok} {ts : List Tok} (h : ¬ t0.text = prodL) : textR (t0 :: ts) = .no 7 t0.at_ := by
  unfold textR
  simp only []
  rw [show xp [112, 114, 111, 100, 117, 99, 116] (t0 :: ts) = .no 7 t0.at_ from xp_no h]
  rfl
theorem textR_b {t0 t1 : Tok} {ts : List Tok} (h : t0.text = prodL) (hn : L8.nmb t1.text = false) : textR (t0 :: t1 :: ts) = .no 7 t1.at_ := by
  unfold textR
  simp only []
  rw [show xp [112, 114, 111, 100, 117, 99, 116] (t0 :: t1 :: ts) = .ok (t1 :: ts) from xp_ok h]
  simp only [Res.bind, hn]
  rfl
theorem textR_c {t0 t1 t2 : Tok} {ts : List Tok} (h : t0.text = prodL) (hn : L8.nmb t1.text = true) (h2 : ¬ t2.text = [123]) : textR (t0 :: t1 :: t2 :: ts) = .no 7 t2.at_ := by
  unfold textR
  simp only []
  rw [show xp [112, 114, 111, 100, 117, 99, 116] (t0 :: t1 :: t2 :: ts) = .ok (t1 :: t2 :: ts) from xp_ok h]
  simp only [Res.bind, hn, if_true]
  rw [xp_no h2]
def st0 (nm : List UInt8) (ts : List Tok) : St := ⟨ts, { prd0 with nm := nm }, had0⟩
def lastR (at_ : Nat) (s : St) : Res Prd :=
  match s.ts with
  | [] => .no 0 0
  | e :: _ => if e.kind = 0 then (if whole s.had && okP s.p then .ok s.p else .no 9 at_) else .no 7 e.at_
theorem textR_d {t0 t1 t2 : Tok} {ts : List Tok} (h : t0.text = prodL) (hn : L8.nmb t1.text = true) (h2 : t2.text = [123]) : textR (t0 :: t1 :: t2 :: ts) = (grpR 1 (st0 t1.text ts)).bind (lastR t0.at_) := by
  unfold textR
  simp only []
  rw [show xp [112, 114, 111, 100, 117, 99, 116] (t0 :: t1 :: t2 :: ts) = .ok (t1 :: t2 :: ts) from xp_ok h]
  simp only [Res.bind, hn, if_true]
  rw [xp_ok h2]
  rfl
set_option maxRecDepth 100000 in
set_option maxHeartbeats 4000000 in
theorem text_c (wf w0 w : World) (r c : Nat) (t0 : Tok) (ts : List Tok) (he0 : Hid (Env w0)) (hf : Fine ⟨t0 :: ts, prd0, had0⟩) (h : Inn wf w0 w r c (.slice none 0 0) (.slice none 0 0) (.slice none 0 0) ⟨t0 :: ts, prd0, had0⟩) :
    Calls Tryz.prog 26 #[.pointer (some ⟨r, 0, none⟩)] w fun e w' => Txt w0 (textR (t0 :: ts)) e w' := by
  obtain ⟨W0, a, hW0, ha, hx0, hA⟩ : ∃ W a, w.alloc (.cells #[.string ⟨#[]⟩, .int .i64 0, .int .i64 0, .int .i64 0, .int .i64 0, .int .i64 0, .int .i64 0, .int .i64 0, .slice none 0 0, .int .i64 0, .int .i64 0, .int .i64 0, .int .i64 0, .int .i64 0, .int .i64 0, .slice none 0 0, .int .i64 0, .int .i64 0, .slice none 0 0] 27) = W ∧ w.heap.size = a ∧ Ext w W ∧ W.heap[a]? = some (Obj.cells #[.string ⟨#[]⟩, .int .i64 0, .int .i64 0, .int .i64 0, .int .i64 0, .int .i64 0, .int .i64 0, .int .i64 0, .slice none 0 0, .int .i64 0, .int .i64 0, .int .i64 0, .int .i64 0, .int .i64 0, .int .i64 0, .slice none 0 0, .int .i64 0, .int .i64 0, .slice none 0 0] 27 (0, 0)) := ⟨_, _, rfl, rfl, (Ext.refl w).alloc _ _, heap_alloc_last w _⟩
  have h0 := h.on hx0
  obtain ⟨vt, hr, htk⟩ := h0.row
  obtain ⟨g, off, cp, rfl, hcp, k0, k1, k2, _⟩ := htk.head
  replace k0 := h0.ext.cell_of k0
  replace k1 := h0.ext.cell_of k1
  replace k2 := h0.ext.cell_of k2
  have c0 := (cell_of_row W0 r 0 _ _ _ hr).trans (show _ = some (.slice (some ⟨g, off, none⟩) (ts.length + 1) cp) from rfl)
  obtain ⟨W1, b, hW1, hb, hx1, hB⟩ : ∃ W b, W0.alloc (.cells #[.int .i64 t0.kind, .int .i64 t0.at_, .string ⟨t0.text.toArray⟩] 93) = W ∧ W0.heap.size = b ∧ Ext W0 W ∧ W.heap[b]? = some (Obj.cells #[.int .i64 t0.kind, .int .i64 t0.at_, .string ⟨t0.text.toArray⟩] 93 (0, 0)) := ⟨_, _, rfl, rfl, (Ext.refl W0).alloc _ _, heap_alloc_last W0 _⟩
  have hlo : Hid (w0.heap.size ≤ a) := by have := h.ext.size; show _ ≤ _; omega
  have h1 : Hid (Inn W1 w0 W1 r c (.slice none 0 0) (.slice none 0 0) (.slice none 0 0) ⟨t0 :: ts, prd0, had0⟩) := (h0.on hx1).frame
  have hA1 : Hid (W1.heap[a]? = some (Obj.cells #[.string ⟨#[]⟩, .int .i64 0, .int .i64 0, .int .i64 0, .int .i64 0, .int .i64 0, .int .i64 0, .int .i64 0, .slice none 0 0, .int .i64 0, .int .i64 0, .int .i64 0, .int .i64 0, .int .i64 0, .int .i64 0, .slice none 0 0, .int .i64 0, .int .i64 0, .slice none 0 0] 27 (0, 0))) := (hx1.below.block a (Array.getElem?_eq_some_iff.1 hA).1).trans hA
  replace hB := show Hid _ from hB
  obtain ⟨t0', ts', hs0, _, hl0⟩ := hf.cons
  obtain ⟨rfl, rfl⟩ : t0 = t0' ∧ ts = ts' := by simpa using hs0
  replace hf := show Hid _ from hf
  clear h h0 hr htk hx0 hx1 hA hs0
  go_enter Tryz.func26, Tryz.ntmps26
  go_wp2_with fail
  clear k0 k1 k2 c0 hW0 hW1 ha hb
  refine (expect_c W1 w0 _ r c _ _ _ ⟨t0 :: ts, prd0, had0⟩ t0 ts prodL rfl (by omega) h1.out).mono ?_
  rintro e w2 ⟨he, h2, hx⟩
  clear hx h1
  by_cases hq : t0.text = prodL
  case neg =>
    rw [if_neg hq] at he
    subst he
    replace h2 := show Hid _ from h2
    replace hq := show Hid _ from hq
    unfold thrown
    go_wp2
    rw [textR_a hq.out]
    exact ⟨rfl, Txt.no h2.out.ext⟩
  rw [if_pos hq] at he
  subst he
  have hf2 := hf.out.next rfl (show t0.text ≠ [] by rw [hq]; decide)
  obtain ⟨t1, ts1, hs1, ht1, hl1⟩ := hf2.cons
  have hs1' : ts = t1 :: ts1 := hs1
  subst hs1'
  replace h2 := show Hid _ from h2
  replace hf2 := show Hid _ from hf2
  replace hq := show Hid _ from hq
  clear hf hs1
  go_wp2_with fail
  refine (name_c W1 w0 _ r c _ _ _ ⟨t1 :: ts1, prd0, had0⟩ t1 ts1 rfl (by omega) ht1 h2.out).mono ?_
  rintro e w3 hR
  clear h2
  cases hn : L8.nmb t1.text
  case false =>
    rw [hn] at hR
    obtain ⟨hx, rfl⟩ : Ext w0 w3 ∧ e = thrown 7 t1.at_ := hR
    replace hx := show Hid _ from hx
    replace hn := show Hid _ from hn
    unfold thrown
    go_wp2
    rw [textR_b hq.out hn.out]
    exact ⟨rfl, Txt.no hx.out⟩
  rw [hn] at hR
  obtain ⟨_, rfl, vr1, vl1, vh1, h3⟩ : Ext w0 w3 ∧ e = .returned (.tuple #[]) ∧ ∃ vr vl vh, Inn W1 w0 w3 r c vr vl vh (st0 t1.text ts1) := hR
  have hf3 : Fine (st0 t1.text ts1) := by
    have := hf2.out.next rfl (show t1.text ≠ [] by rintro e; rw [e] at hn; cases hn)
    exact ⟨this.fin, this.len, this.few⟩
  obtain ⟨t2, ts2, hs2, ht2, hl2⟩ := hf3.cons
  have hs2' : ts1 = t2 :: ts2 := hs2
  subst hs2'
  replace h3 := show Hid _ from h3
  replace hf3 := show Hid _ from hf3
  replace hn := show Hid _ from hn
  clear hf2 hs2
  go_wp2_with fail
  refine (expect_c W1 w0 _ r c _ _ _ (st0 t1.text (t2 :: ts2)) t2 ts2 [123] rfl (by omega) h3.out).mono ?_
  rintro e w4 ⟨he, h4, hx⟩
  clear hx h3
  by_cases hq2 : t2.text = [123]
  case neg =>
    rw [if_neg hq2] at he
    subst he
    replace h4 := show Hid _ from h4
    replace hq2 := show Hid _ from hq2
    unfold thrown
    go_wp2
    rw [textR_c hq.out hn.out hq2.out]
    exact ⟨rfl, Txt.no h4.out.ext⟩
  rw [if_pos hq2] at he
  subst he
  have hf4 : Fine (st0 t1.text ts2) := hf3.out.next rfl (show t2.text ≠ [] by rw [hq2]; decide)
  replace h4 := show Hid (Inn W1 w0 w4 r c vr1 vl1 vh1 (st0 t1.text ts2)) from h4
  replace hf4 := show Hid _ from hf4
  replace hq2 := show Hid _ from hq2
  clear hf3
  go_wp2_with fail
  refine (group_c W1 w0 r c he0 (st0 t1.text ts2).ts.length 1 1 _ vr1 vl1 vh1 (st0 t1.text ts2) rfl (Nat.le_refl _) (by omega) hf4.out h4.out).mono ?_
  rintro e w5 hR
  clear h4
  cases hg5 : grpR 1 (st0 t1.text ts2) with
  | no x y =>
    have hR2 : Ext w0 w5 ∧ e = thrown x y := by have := hR; unfold Rdc at this; rw [hg5] at this; exact this
    obtain ⟨hx, rfl⟩ := hR2
    replace hx := show Hid _ from hx
    replace hg5 := show Hid _ from hg5
    clear hR
    unfold thrown
    go_wp2
    rw [textR_d hq.out hn.out hq2.out, hg5.out]
    exact ⟨rfl, Txt.no hx.out⟩
  | ok u =>
    have hR2 : Ext w0 w5 ∧ e = .returned (.tuple #[]) ∧ ∃ vr vl vh, Inn W1 w0 w5 r c vr vl vh u := by have := hR; unfold Rdc at this; rw [hg5] at this; exact this
    obtain ⟨_, rfl, vr, vl, vh, h5⟩ := hR2
    have hf5 := (grp_fine _ _ _ u hf4.out hg5).1
    obtain ⟨t6, ts6, hs6, ht6, hl6⟩ := hf5.cons
    have hX : textR (t0 :: t1 :: t2 :: ts2) = lastR t0.at_ u := by rw [textR_d hq.out hn.out hq2.out, hg5]; rfl
    replace hX := show Hid _ from hX
    replace h5 := show Hid _ from h5
    replace hs6 := show Hid _ from hs6
    have hfew := show Hid _ from hf5.few
    have hnm : Hid (u.p.nm.length ≤ 30000) := by show _ ≤ _; have := grp_nm _ _ _ u hg5; rw [this]; show t1.text.length ≤ 30000; omega
    clear hR hg5 hf4 hq hq2 hn hf5
    go_wp2_with fail
    refine (end_c W1 w0 _ r c _ _ _ u t6 ts6 hs6.out (by omega) h5.out).mono ?_
    rintro e w6 ⟨he, h6, hx⟩
    clear hx h5
    by_cases hk6 : t6.kind = 0
    case neg =>
      rw [if_neg hk6] at he
      subst he
      replace h6 := show Hid _ from h6
      have hX2 : lastR t0.at_ u = .no 7 t6.at_ := by unfold lastR; rw [hs6.out]; simp only [if_neg hk6]
      replace hk6 := show Hid _ from hk6
      replace hX2 := show Hid _ from hX2
      unfold thrown
      go_wp2
      rw [hX.out, hX2.out]
      exact ⟨rfl, Txt.no h6.out.ext⟩
    rw [if_pos hk6] at he
    subst he
    have hX2 : textR (t0 :: t1 :: t2 :: ts2) = if whole u.had && okP u.p then .ok u.p else .no 9 t0.at_ := by rw [hX.out]; unfold lastR; rw [hs6.out]; simp only [if_pos hk6]
    replace hX2 := show Hid _ from hX2
    replace h6 := show Hid _ from h6
    clear hX hk6 hs6
    go_upto_region 7 with fail
    have hcell : w6.cell? ⟨b, 1, none⟩ = some (.int .i64 t0.at_) := (cell_of_row w6 b 1 _ _ _ (h6.out.kp.at_ b _ _ (Or.inr rfl) hB.out)).trans rfl
    have hrng := h6.out.range
    refine L8.wp_region_thrown (fun W => W.cell? ⟨b, 1, none⟩ = some (.int .i64 t0.at_) ∧ W.rangeAt r 2 (pcells u.p vr vl vh).toList) (fun a => a.defers = []) [] (fun t => none) (fun x W => Txt w0 (textR (t0 :: t1 :: t2 :: ts2)) (.panicked x) W) (by kernel_rfl) (fun _ _ _ h1 _ h3 => ⟨h1, h3⟩) ⟨(Ext.refl _).drew.cell_of hcell, fun j v hv => (Ext.refl _).drew.cell_of (hrng j v hv)⟩ (fun hHeld => ?_)
    clear hcell hrng
    replace h6 := show Hid _ from h6.out.on (Ext.refl _).drew
    generalize w6.drew = w7 at *
    refine L8.takeT 0 (oi := { dst := some 20, op := Op.move (Operand.tmp 0), type := 53, pos := "reader.go:33", after := #[], guard := none }) (v := .pointer (some ⟨r, 0, none⟩)) rfl (by kernel_rfl) (by kernel_rfl) (by kernel_rfl) (by decide) (Or.inl ⟨by rfl, fun W hW => ?_⟩) hHeld ?_
    · go_simp
    simp only [Act.put, List.setIfInBounds_toArray, List.set_cons_zero, List.set_cons_succ]
    refine L8.takeT 10 (oi := { dst := some 30, op := Op.fieldAddr 93 (Operand.tmp 3) 1, type := 0, pos := "reader.go:33", after := #[], guard := none }) (v := .pointer (some ⟨b, 1, none⟩)) rfl (by kernel_rfl) (by kernel_rfl) (by kernel_rfl) (by decide) (Or.inl ⟨by rfl, fun W hW => ?_⟩) hHeld ?_
    · go_simp
    simp only [Act.put, List.setIfInBounds_toArray, List.set_cons_zero, List.set_cons_succ]
    refine L8.takeT 11 (oi := { dst := some 31, op := Op.load 3 (Operand.tmp 30), type := 3, pos := "reader.go:33", after := #[{ on := 10, ground := Ground.data }], guard := none }) (v := .int .i64 t0.at_) rfl (by kernel_rfl) (by kernel_rfl) (by kernel_rfl) (by decide) (Or.inl ⟨by rfl, fun W hW => ?_⟩) hHeld ?_
    · have hW1 := hW.1
      go_simp
    simp only [Act.put, List.setIfInBounds_toArray, List.set_cons_zero, List.set_cons_succ]
    refine wpAnyH_ready (rs := [1]) (by kernel_rfl) (by simp) ?_
    refine AllReadyH.cons (o := { dst := some 21, op := Op.call { callee := Callee.value (Operand.func 48), args := #[Operand.tmp 20], argTypes := #[53] }, type := 4, pos := "reader.go:33", after := #[{ on := 0, ground := Ground.data }], guard := none }) rfl (fun K hK => ?_) AllReadyH.nil
    go_simp
    refine (complete_c W1 w0 _ r c vr vl vh _ h6.out).mono ?_
    rintro e w8 ⟨rfl, hx⟩
    try dsimp only
    have hS8 : w8.cell? ⟨b, 1, none⟩ = some (.int .i64 t0.at_) ∧ w8.rangeAt r 2 (pcells u.p vr vl vh).toList := ⟨hx.cell_of hHeld.1, fun j v hv => hx.cell_of (hHeld.2 j v hv)⟩
    refine hK.out _ _ hS8 ?_
    clear hK K hHeld
    intro hHeld
    replace h6 := show Hid _ from h6.out.on hx
    clear hx hS8
    try simp only [Act.put, List.setIfInBounds_toArray, List.set_cons_zero, List.set_cons_succ]
    cases hwh : whole u.had
    · rw [hwh] at hX2
      replace hX2 := show Hid _ from hX2
      refine L8.takeT 2 (oi := { dst := some 22, op := Op.move (Operand.tmp 21), type := 4, pos := "reader.go:33", after := #[{ on := 1, ground := Ground.data }, { on := 1, ground := Ground.chain }], guard := none }) (v := .bool false) rfl (by kernel_rfl) (by kernel_rfl) (by kernel_rfl) (by decide) (Or.inl ⟨by rfl, fun W hW => ?_⟩) hHeld ?_
      · go_simp
      simp only [Act.put, List.setIfInBounds_toArray, List.set_cons_zero, List.set_cons_succ]
      refine L8.takeT 3 (oi := { dst := some 23, op := Op.move (Operand.tmp 0), type := 53, pos := "reader.go:33", after := #[{ on := 2, ground := Ground.guard }], guard := some (2, true) }) (v := undef) rfl (by kernel_rfl) (by kernel_rfl) (by kernel_rfl) (by decide) (Or.inr ⟨by rfl, rfl⟩) hHeld ?_
      simp only [Act.put, List.setIfInBounds_toArray, List.set_cons_zero, List.set_cons_succ]
      refine L8.takeT 4 (oi := { dst := some 24, op := Op.nilCheck (Operand.tmp 23), type := 0, pos := "reader.go:33", after := #[{ on := 3, ground := Ground.data }, { on := 2, ground := Ground.guard }], guard := some (2, true) }) (v := undef) rfl (by kernel_rfl) (by kernel_rfl) (by kernel_rfl) (by decide) (Or.inr ⟨by rfl, rfl⟩) hHeld ?_
      simp only [Act.put, List.setIfInBounds_toArray, List.set_cons_zero, List.set_cons_succ]
      refine L8.takeT 5 (oi := { dst := some 25, op := Op.fieldAddr 90 (Operand.tmp 24) 2, type := 0, pos := "reader.go:33", after := #[{ on := 4, ground := Ground.data }, { on := 2, ground := Ground.guard }], guard := some (2, true) }) (v := undef) rfl (by kernel_rfl) (by kernel_rfl) (by kernel_rfl) (by decide) (Or.inr ⟨by rfl, rfl⟩) hHeld ?_
      simp only [Act.put, List.setIfInBounds_toArray, List.set_cons_zero, List.set_cons_succ]
      refine L8.takeT 6 (oi := { dst := some 26, op := Op.load 27 (Operand.tmp 25), type := 27, pos := "reader.go:33", after := #[{ on := 5, ground := Ground.data }, { on := 2, ground := Ground.guard }], guard := some (2, true) }) (v := undef) rfl (by kernel_rfl) (by kernel_rfl) (by kernel_rfl) (by decide) (Or.inr ⟨by rfl, rfl⟩) hHeld ?_
      simp only [Act.put, List.setIfInBounds_toArray, List.set_cons_zero, List.set_cons_succ]
      refine L8.takeT 7 (oi := { dst := some 27, op := Op.call { callee := Callee.value (Operand.func 10), args := #[Operand.tmp 26], argTypes := #[27] }, type := 29, pos := "reader.go:33", after := #[{ on := 6, ground := Ground.data }, { on := 2, ground := Ground.chain }, { on := 2, ground := Ground.guard }], guard := some (2, true) }) (v := undef) rfl (by kernel_rfl) (by kernel_rfl) (by kernel_rfl) (by decide) (Or.inr ⟨by rfl, rfl⟩) hHeld ?_
      simp only [Act.put, List.setIfInBounds_toArray, List.set_cons_zero, List.set_cons_succ]
      refine L8.takeT 8 (oi := { dst := some 28, op := Op.binOp BinOp.eql 29 (Operand.tmp 27) (Operand.const (Value.int IntKind.i64 0)) 29, type := 4, pos := "reader.go:33", after := #[{ on := 7, ground := Ground.data }, { on := 2, ground := Ground.guard }], guard := some (2, true) }) (v := undef) rfl (by kernel_rfl) (by kernel_rfl) (by kernel_rfl) (by decide) (Or.inr ⟨by rfl, rfl⟩) hHeld ?_
      simp only [Act.put, List.setIfInBounds_toArray, List.set_cons_zero, List.set_cons_succ]
      refine L8.takeT 9 (oi := { dst := some 29, op := Op.pick (Operand.tmp 22) (Operand.tmp 28) (Operand.const (Value.bool false)), type := 4, pos := "reader.go:33", after := #[{ on := 2, ground := Ground.data }, { on := 8, ground := Ground.data }], guard := none }) (v := .bool false) rfl (by kernel_rfl) (by kernel_rfl) (by kernel_rfl) (by decide) (Or.inl ⟨by rfl, fun W hW => ?_⟩) hHeld ?_
      · go_simp
      simp only [Act.put, List.setIfInBounds_toArray, List.set_cons_zero, List.set_cons_succ]
      refine wpAnyH_ready (rs := [12]) (by kernel_rfl) (by simp) ?_
      refine AllReadyH.cons (o := { dst := some 32, op := Op.call { callee := Callee.value (Operand.func 24), args := #[Operand.tmp 29, Operand.const (Value.int IntKind.i64 9), Operand.tmp 31], argTypes := #[4, 29, 3] }, type := 0, pos := "reader.go:33", after := #[{ on := 9, ground := Ground.data }, { on := 11, ground := Ground.data }, { on := 7, ground := Ground.chain }], guard := none }) rfl (fun K hK => ?_) AllReadyH.nil
      go_simp
      refine (L7.needAt_no _ _ _).mono ?_
      rintro e w9 ⟨rfl, rfl⟩
      refine ⟨rfl, (fun _ h => by cases h), ?_⟩
      rw [hX2.out]
      exact Txt.no h6.out.ext
    · rw [hwh] at hX2
      refine L8.takeT 2 (oi := { dst := some 22, op := Op.move (Operand.tmp 21), type := 4, pos := "reader.go:33", after := #[{ on := 1, ground := Ground.data }, { on := 1, ground := Ground.chain }], guard := none }) (v := .bool true) rfl (by kernel_rfl) (by kernel_rfl) (by kernel_rfl) (by decide) (Or.inl ⟨by rfl, fun W hW => ?_⟩) hHeld ?_
      · go_simp
      simp only [Act.put, List.setIfInBounds_toArray, List.set_cons_zero, List.set_cons_succ]
      refine L8.takeT 3 (oi := { dst := some 23, op := Op.move (Operand.tmp 0), type := 53, pos := "reader.go:33", after := #[{ on := 2, ground := Ground.guard }], guard := some (2, true) }) (v := .pointer (some ⟨r, 0, none⟩)) rfl (by kernel_rfl) (by kernel_rfl) (by kernel_rfl) (by decide) (Or.inl ⟨by rfl, fun W hW => ?_⟩) hHeld ?_
      · go_simp
      simp only [Act.put, List.setIfInBounds_toArray, List.set_cons_zero, List.set_cons_succ]
      refine L8.takeT 4 (oi := { dst := some 24, op := Op.nilCheck (Operand.tmp 23), type := 0, pos := "reader.go:33", after := #[{ on := 3, ground := Ground.data }, { on := 2, ground := Ground.guard }], guard := some (2, true) }) (v := .pointer (some ⟨r, 0, none⟩)) rfl (by kernel_rfl) (by kernel_rfl) (by kernel_rfl) (by decide) (Or.inl ⟨by rfl, fun W hW => ?_⟩) hHeld ?_
      · go_simp
      simp only [Act.put, List.setIfInBounds_toArray, List.set_cons_zero, List.set_cons_succ]
      refine L8.takeT 5 (oi := { dst := some 25, op := Op.fieldAddr 90 (Operand.tmp 24) 2, type := 0, pos := "reader.go:33", after := #[{ on := 4, ground := Ground.data }, { on := 2, ground := Ground.guard }], guard := some (2, true) }) (v := .pointer (some ⟨r, 2, none⟩)) rfl (by kernel_rfl) (by kernel_rfl) (by kernel_rfl) (by decide) (Or.inl ⟨by rfl, fun W hW => ?_⟩) hHeld ?_
      · go_simp
      simp only [Act.put, List.setIfInBounds_toArray, List.set_cons_zero, List.set_cons_succ]
      refine L8.takeT 6 (oi := { dst := some 26, op := Op.load 27 (Operand.tmp 25), type := 27, pos := "reader.go:33", after := #[{ on := 5, ground := Ground.data }, { on := 2, ground := Ground.guard }], guard := some (2, true) }) (v := .agg (pcells u.p vr vl vh).toList.toArray) rfl (by kernel_rfl) (by kernel_rfl) (by kernel_rfl) (by decide) (yieldsIf_load_mid (by rfl) _ (.tmp 25) rfl r 2 rfl _ _ (fun W hW => hW.2) Tryz.underlying27 rfl (by kernel_rfl)) hHeld ?_
      simp only [Act.put, List.setIfInBounds_toArray, List.set_cons_zero, List.set_cons_succ]
      refine wpAnyH_ready (rs := [7]) (by kernel_rfl) (by simp) ?_
      refine AllReadyH.cons (o := { dst := some 27, op := Op.call { callee := Callee.value (Operand.func 10), args := #[Operand.tmp 26], argTypes := #[27] }, type := 29, pos := "reader.go:33", after := #[{ on := 6, ground := Ground.data }, { on := 2, ground := Ground.chain }, { on := 2, ground := Ground.guard }], guard := some (2, true) }) rfl (fun K hK => ?_) AllReadyH.nil
      go_simp
      refine (Check_p u.p vr vl vh _ hnm.out (by have := hfew.out; omega) (slp_own h6.out.sr) (slp_own h6.out.sl) (slc_own h6.out.sh)).mono ?_
      rintro e w9 ⟨rfl, hx⟩
      try dsimp only
      have hS9 : w9.cell? ⟨b, 1, none⟩ = some (.int .i64 t0.at_) ∧ w9.rangeAt r 2 (pcells u.p vr vl vh).toList := ⟨hx.cell_of hHeld.1, fun j v hv => hx.cell_of (hHeld.2 j v hv)⟩
      refine hK.out _ _ hS9 ?_
      clear hK K hHeld
      intro hHeld
      replace h6 := show Hid _ from h6.out.on hx
      clear hx hS9
      try simp only [Act.put, List.setIfInBounds_toArray, List.set_cons_zero, List.set_cons_succ]
      cases hok : okP u.p
      · rw [hok] at hX2
        replace hX2 := show Hid _ from hX2
        simp only [Bool.false_eq_true, if_false]
        refine L8.takeT 8 (oi := { dst := some 28, op := Op.binOp BinOp.eql 29 (Operand.tmp 27) (Operand.const (Value.int IntKind.i64 0)) 29, type := 4, pos := "reader.go:33", after := #[{ on := 7, ground := Ground.data }, { on := 2, ground := Ground.guard }], guard := some (2, true) }) (v := .bool false) rfl (by kernel_rfl) (by kernel_rfl) (by kernel_rfl) (by decide) (Or.inl ⟨by rfl, fun W hW => ?_⟩) hHeld ?_
        · go_simp
        simp only [Act.put, List.setIfInBounds_toArray, List.set_cons_zero, List.set_cons_succ]
        refine L8.takeT 9 (oi := { dst := some 29, op := Op.pick (Operand.tmp 22) (Operand.tmp 28) (Operand.const (Value.bool false)), type := 4, pos := "reader.go:33", after := #[{ on := 2, ground := Ground.data }, { on := 8, ground := Ground.data }], guard := none }) (v := .bool false) rfl (by kernel_rfl) (by kernel_rfl) (by kernel_rfl) (by decide) (Or.inl ⟨by rfl, fun W hW => ?_⟩) hHeld ?_
        · go_simp
        simp only [Act.put, List.setIfInBounds_toArray, List.set_cons_zero, List.set_cons_succ]
        refine wpAnyH_ready (rs := [12]) (by kernel_rfl) (by simp) ?_
        refine AllReadyH.cons (o := { dst := some 32, op := Op.call { callee := Callee.value (Operand.func 24), args := #[Operand.tmp 29, Operand.const (Value.int IntKind.i64 9), Operand.tmp 31], argTypes := #[4, 29, 3] }, type := 0, pos := "reader.go:33", after := #[{ on := 9, ground := Ground.data }, { on := 11, ground := Ground.data }, { on := 7, ground := Ground.chain }], guard := none }) rfl (fun K hK => ?_) AllReadyH.nil
        go_simp
        refine (L7.needAt_no _ _ _).mono ?_
        rintro e w9 ⟨rfl, rfl⟩
        refine ⟨rfl, (fun _ h => by cases h), ?_⟩
        rw [hX2.out]
        exact Txt.no h6.out.ext
      · rw [hok] at hX2
        replace hX2 := show Hid _ from hX2
        simp only [if_true]
        refine L8.takeT 8 (oi := { dst := some 28, op := Op.binOp BinOp.eql 29 (Operand.tmp 27) (Operand.const (Value.int IntKind.i64 0)) 29, type := 4, pos := "reader.go:33", after := #[{ on := 7, ground := Ground.data }, { on := 2, ground := Ground.guard }], guard := some (2, true) }) (v := .bool true) rfl (by kernel_rfl) (by kernel_rfl) (by kernel_rfl) (by decide) (Or.inl ⟨by rfl, fun W hW => ?_⟩) hHeld ?_
        · go_simp
        simp only [Act.put, List.setIfInBounds_toArray, List.set_cons_zero, List.set_cons_succ]
        refine L8.takeT 9 (oi := { dst := some 29, op := Op.pick (Operand.tmp 22) (Operand.tmp 28) (Operand.const (Value.bool false)), type := 4, pos := "reader.go:33", after := #[{ on := 2, ground := Ground.data }, { on := 8, ground := Ground.data }], guard := none }) (v := .bool true) rfl (by kernel_rfl) (by kernel_rfl) (by kernel_rfl) (by decide) (Or.inl ⟨by rfl, fun W hW => ?_⟩) hHeld ?_
        · go_simp
        simp only [Act.put, List.setIfInBounds_toArray, List.set_cons_zero, List.set_cons_succ]
        refine wpAnyH_ready (rs := [12]) (by kernel_rfl) (by simp) ?_
        refine AllReadyH.cons (o := { dst := some 32, op := Op.call { callee := Callee.value (Operand.func 24), args := #[Operand.tmp 29, Operand.const (Value.int IntKind.i64 9), Operand.tmp 31], argTypes := #[4, 29, 3] }, type := 0, pos := "reader.go:33", after := #[{ on := 9, ground := Ground.data }, { on := 11, ground := Ground.data }, { on := 7, ground := Ground.chain }], guard := none }) rfl (fun K hK => ?_) AllReadyH.nil
        go_simp
        refine (L7.needAt_ok _ _ _).mono ?_
        rintro e w10 ⟨rfl, rfl⟩
        try dsimp only
        refine hK.out _ _ hHeld ?_
        clear hK K
        intro _
        try simp only [Act.put, List.setIfInBounds_toArray, List.set_cons_zero, List.set_cons_succ]
        refine wpAnyH_done (by kernel_rfl) (L8.ThrowQ.normal ?_) _
        have hA9 := h6.out.kp.at_ a _ _ (Or.inl rfl) hA1.out
        have hrng := h6.out.range
        have hsz : (pcells u.p vr vl vh).size = 19 := rfl
        have hone := pcells_one (p := u.p) h6.out.sr h6.out.sl h6.out.sh
        go_upto_region 8 with fail
        refine wp_region_lit ?_
        go_wp2_with (first | (refine wpList_load_mid rfl _ (.tmp 35) rfl r 2 rfl _ _ hrng Tryz.underlying27 rfl (by kernel_rfl) ?_) | (refine store27 hA9 rfl hsz hone rfl rfl rfl rfl ?_))
        intro W11 hB11 hx11
        have hK := show Hid _ from keep_tag hA9 hx11
        replace hB11 := show Hid _ from hB11
        replace hx11 := show Hid _ from hx11
        clear hA9 hrng hone
        go_wp2
        refine bodyPost_ret (v := .agg (pcells u.p vr vl vh)) (results_cell_row (p := 2) Tryz.results26 _ _ a _ _ (0, 0) _ rfl hB11.out Tryz.underlying27 rfl (by kernel_rfl)) rfl ?_
        rw [hX2.out]
        exact ⟨hx11.out.ext h6.out.ext hlo.out, vr, vl, vh, rfl, own_keep h6.out.sr (hK.out _ (by decide)), own_keep h6.out.sl (hK.out _ (by decide)), own_keep h6.out.sh (hK.out _ (by decide))⟩
end Go.Proofs.YtbnpaeejlfaboaaGreatDoor

namespace Go.Proofs.YtbnpaeejlfaboaaGreatDoor
open Go.RowKit Go.Lib
set_option linter.unusedVariables false
set_option maxRecDepth 100000 in
set_option maxHeartbeats 4000000 in
theorem parse_idle (b : Nat) (cs : Array Value) (hc : Flat cs) (y z : Int) (w : World) (hB : Blk w b cs) (hq : w.cell? ⟨b + 1, 0, none⟩ = some (.int .i64 y)) (hr : w.cell? ⟨b + 2, 0, none⟩ = some (.int .i64 z)) (hqz : w.frozen? ⟨b + 1, 0, none⟩ = false) (hrz : w.frozen? ⟨b + 2, 0, none⟩ = false) :
    CallsD Tryz.prog 21 #[.pointer (some ⟨b, 0, none⟩), .pointer (some ⟨b + 1, 0, none⟩), .pointer (some ⟨b + 2, 0, none⟩)] .returning w fun e u' w' => e = .returned (.tuple #[]) ∧ u' = .returning ∧ ∃ w1, Ext w w1 ∧ w' = (((w1.setRow b cs).setCell ⟨b + 1, 0, none⟩ (.int .i64 0)).setCell ⟨b + 2, 0, none⟩ (.int .i64 0)) := by
  have hm := hc.size
  have hn : (cs : Array Value).size = 19 := hc.size
  have h1 : (cs : Array Value).all (·.oneCell') = true := hc.one
  have hb1 := lt_of_cell hq
  have hb2 := lt_of_cell hr
  have hd : Blk w.drew b cs := hB.ext (Ext.refl w).drew
  refine callsD_of_wpS Tryz.func21 rfl fun c₀ cs' hu => ?_
  rw [show (#[Value.pointer (some ⟨b, 0, none⟩), .pointer (some ⟨b + 1, 0, none⟩), .pointer (some ⟨b + 2, 0, none⟩)] ++ Array.replicate (Tryz.f21.ntmps - (#[Value.pointer (some ⟨b, 0, none⟩), .pointer (some ⟨b + 1, 0, none⟩), .pointer (some ⟨b + 2, 0, none⟩)] : Array Value).size) undef : Array Value) = #[.pointer (some ⟨b, 0, none⟩), .pointer (some ⟨b + 1, 0, none⟩), .pointer (some ⟨b + 2, 0, none⟩), undef, undef, undef, undef, undef, undef, undef] from rfl]
  refine wpS_region_any 10 rfl (by kernel_rfl) ?_
  refine wpAnyS_two (i := 0) (j := 1) (by decide +kernel) ?_ ?_
  · simp [wpOpS, go_sem, recoverD, hu]
    refine wpAnyS_one (i := 1) (by decide +kernel) ?_
    refine wpOpS_run (o := { dst := some 5, op := Op.load 27 (Operand.tmp 0), type := 27, pos := "grammar.go:13", after := #[], guard := none }) (v := .agg cs) rfl rfl (exec_loadP hd hm rfl rfl) (Or.inl rfl) ?_
    simp only [Act.put, List.setIfInBounds_toArray, List.set_cons_zero, List.set_cons_succ]
    refine wpAnyS_one (i := 2) (by decide +kernel) ?_
    simp [wpOpS, go_sem]
    refine (settleP_nil cs hc _).mono ?_
    rintro e w1 ⟨rfl, hx⟩
    have gB : Blk w1 b cs := hd.ext hx
    have gx := Exr.setRow w1 b cs
    have gq0 : w1.cell? ⟨b + 1, 0, none⟩ = some (.int .i64 y) := by rw [hx.cell (b + 1) 0 (by simpa using hb1)]; simpa using hq
    have gr0 : w1.cell? ⟨b + 2, 0, none⟩ = some (.int .i64 z) := by rw [hx.cell (b + 2) 0 (by simpa using hb2)]; simpa using hr
    have gqz0 : w1.frozen? ⟨b + 1, 0, none⟩ = false := by rw [hx.froz (b + 1) 0 (by simpa using hb1)]; simpa using hqz
    have grz0 : w1.frozen? ⟨b + 2, 0, none⟩ = false := by rw [hx.froz (b + 2) 0 (by simpa using hb2)]; simpa using hrz
    have gq := gx.cell_of (by omega) gq0
    have gr := gx.cell_of (by omega) gr0
    have gqz := (World.frozen?_of_block (a := ⟨b + 1, 0, none⟩) (gx.block (b + 1) (lt_of_cell gq0) (by omega))).trans gqz0
    have grz := (World.frozen?_of_block (a := ⟨b + 2, 0, none⟩) (gx.block (b + 2) (lt_of_cell gr0) (by omega))).trans grz0
    clear gq0 gr0 gqz0 grz0
    refine wpAnyS_one (i := 3) (by decide +kernel) ?_
    simp [wpOpS, go_sem]
    refine L7.wpAnyS_three (i := 4) (j := 5) (k := 6) (by decide +kernel) ?_ ?_ ?_
    · simp [wpOpS, go_sem]
      refine L7.wpAnyS_three (i := 5) (j := 6) (k := 7) (by decide +kernel) ?_ ?_ ?_
      · simp [wpOpS, go_sem]
        refine wpAnyS_two (i := 6) (j := 7) (by decide +kernel) ?_ ?_
        · simp [wpOpS, go_sem]
          refine wpAnyS_one (i := 7) (by decide +kernel) ?_
          refine wpOpS_run (o := { dst := none, op := Op.store 27 (Operand.tmp 0) (Operand.tmp 7), type := 0, pos := "grammar.go:13", after := #[{ on := 4, ground := Ground.data }, { on := 2, ground := Ground.chain }, { on := 0, ground := Ground.phase }, { on := 1, ground := Ground.phase }, { on := 2, ground := Ground.phase }, { on := 3, ground := Ground.phase }, { on := 4, ground := Ground.phase }, { on := 5, ground := Ground.textOnly Departure.lateStores }, { on := 6, ground := Ground.textOnly Departure.lateStores }], guard := none }) (v := undef) rfl rfl (exec_storeP gB hm hn h1 rfl rfl rfl) (Or.inr ⟨rfl, rfl⟩) ?_
          simp only [Act.put]
          refine wpAnyS_one (i := 8) (by decide +kernel) ?_
          simp [wpOpS, go_sem, gq, gqz]
          refine wpAnyS_one (i := 9) (by decide +kernel) ?_
          simp [wpOpS, go_sem, gr, grz]
          refine wpAnyS_done (by decide +kernel) ?_ _
          exact ⟨rfl, .returning, by rw [← hu], .tuple #[], results_none (by rfl) _ _ _, rfl, rfl, w1, (Ext.refl w).drew.trans hx, rfl⟩
        · refine wpOpS_run (o := { dst := none, op := Op.store 27 (Operand.tmp 0) (Operand.tmp 7), type := 0, pos := "grammar.go:13", after := #[{ on := 4, ground := Ground.data }, { on := 2, ground := Ground.chain }, { on := 0, ground := Ground.phase }, { on := 1, ground := Ground.phase }, { on := 2, ground := Ground.phase }, { on := 3, ground := Ground.phase }, { on := 4, ground := Ground.phase }, { on := 5, ground := Ground.textOnly Departure.lateStores }, { on := 6, ground := Ground.textOnly Departure.lateStores }], guard := none }) (v := undef) rfl rfl (exec_storeP gB hm hn h1 rfl rfl rfl) (Or.inr ⟨rfl, rfl⟩) ?_
          simp only [Act.put]
          refine wpAnyS_two (i := 6) (j := 8) (by decide +kernel) ?_ ?_
          · simp [wpOpS, go_sem]
            refine wpAnyS_one (i := 8) (by decide +kernel) ?_
            simp [wpOpS, go_sem, gq, gqz]
            refine wpAnyS_one (i := 9) (by decide +kernel) ?_
            simp [wpOpS, go_sem, gr, grz]
            refine wpAnyS_done (by decide +kernel) ?_ _
            exact ⟨rfl, .returning, by rw [← hu], .tuple #[], results_none (by rfl) _ _ _, rfl, rfl, w1, (Ext.refl w).drew.trans hx, rfl⟩
          · simp [wpOpS, go_sem, gq, gqz]
            refine wpAnyS_one (i := 6) (by decide +kernel) ?_
            simp [wpOpS, go_sem]
            refine wpAnyS_one (i := 9) (by decide +kernel) ?_
            simp [wpOpS, go_sem, gr, grz]
            refine wpAnyS_done (by decide +kernel) ?_ _
            exact ⟨rfl, .returning, by rw [← hu], .tuple #[], results_none (by rfl) _ _ _, rfl, rfl, w1, (Ext.refl w).drew.trans hx, rfl⟩
      · simp [wpOpS, go_sem]
        refine wpAnyS_two (i := 5) (j := 7) (by decide +kernel) ?_ ?_
        · simp [wpOpS, go_sem]
          refine wpAnyS_one (i := 7) (by decide +kernel) ?_
          refine wpOpS_run (o := { dst := none, op := Op.store 27 (Operand.tmp 0) (Operand.tmp 7), type := 0, pos := "grammar.go:13", after := #[{ on := 4, ground := Ground.data }, { on := 2, ground := Ground.chain }, { on := 0, ground := Ground.phase }, { on := 1, ground := Ground.phase }, { on := 2, ground := Ground.phase }, { on := 3, ground := Ground.phase }, { on := 4, ground := Ground.phase }, { on := 5, ground := Ground.textOnly Departure.lateStores }, { on := 6, ground := Ground.textOnly Departure.lateStores }], guard := none }) (v := undef) rfl rfl (exec_storeP gB hm hn h1 rfl rfl rfl) (Or.inr ⟨rfl, rfl⟩) ?_
          simp only [Act.put]
          refine wpAnyS_one (i := 8) (by decide +kernel) ?_
          simp [wpOpS, go_sem, gq, gqz]
          refine wpAnyS_one (i := 9) (by decide +kernel) ?_
          simp [wpOpS, go_sem, gr, grz]
          refine wpAnyS_done (by decide +kernel) ?_ _
          exact ⟨rfl, .returning, by rw [← hu], .tuple #[], results_none (by rfl) _ _ _, rfl, rfl, w1, (Ext.refl w).drew.trans hx, rfl⟩
        · refine wpOpS_run (o := { dst := none, op := Op.store 27 (Operand.tmp 0) (Operand.tmp 7), type := 0, pos := "grammar.go:13", after := #[{ on := 4, ground := Ground.data }, { on := 2, ground := Ground.chain }, { on := 0, ground := Ground.phase }, { on := 1, ground := Ground.phase }, { on := 2, ground := Ground.phase }, { on := 3, ground := Ground.phase }, { on := 4, ground := Ground.phase }, { on := 5, ground := Ground.textOnly Departure.lateStores }, { on := 6, ground := Ground.textOnly Departure.lateStores }], guard := none }) (v := undef) rfl rfl (exec_storeP gB hm hn h1 rfl rfl rfl) (Or.inr ⟨rfl, rfl⟩) ?_
          simp only [Act.put]
          refine wpAnyS_one (i := 5) (by decide +kernel) ?_
          simp [wpOpS, go_sem]
          refine wpAnyS_one (i := 8) (by decide +kernel) ?_
          simp [wpOpS, go_sem, gq, gqz]
          refine wpAnyS_one (i := 9) (by decide +kernel) ?_
          simp [wpOpS, go_sem, gr, grz]
          refine wpAnyS_done (by decide +kernel) ?_ _
          exact ⟨rfl, .returning, by rw [← hu], .tuple #[], results_none (by rfl) _ _ _, rfl, rfl, w1, (Ext.refl w).drew.trans hx, rfl⟩
      · refine wpOpS_run (o := { dst := none, op := Op.store 27 (Operand.tmp 0) (Operand.tmp 7), type := 0, pos := "grammar.go:13", after := #[{ on := 4, ground := Ground.data }, { on := 2, ground := Ground.chain }, { on := 0, ground := Ground.phase }, { on := 1, ground := Ground.phase }, { on := 2, ground := Ground.phase }, { on := 3, ground := Ground.phase }, { on := 4, ground := Ground.phase }, { on := 5, ground := Ground.textOnly Departure.lateStores }, { on := 6, ground := Ground.textOnly Departure.lateStores }], guard := none }) (v := undef) rfl rfl (exec_storeP gB hm hn h1 rfl rfl rfl) (Or.inr ⟨rfl, rfl⟩) ?_
        simp only [Act.put]
        refine wpAnyS_two (i := 5) (j := 6) (by decide +kernel) ?_ ?_
        · simp [wpOpS, go_sem]
          refine wpAnyS_two (i := 6) (j := 8) (by decide +kernel) ?_ ?_
          · simp [wpOpS, go_sem]
            refine wpAnyS_one (i := 8) (by decide +kernel) ?_
            simp [wpOpS, go_sem, gq, gqz]
            refine wpAnyS_one (i := 9) (by decide +kernel) ?_
            simp [wpOpS, go_sem, gr, grz]
            refine wpAnyS_done (by decide +kernel) ?_ _
            exact ⟨rfl, .returning, by rw [← hu], .tuple #[], results_none (by rfl) _ _ _, rfl, rfl, w1, (Ext.refl w).drew.trans hx, rfl⟩
          · simp [wpOpS, go_sem, gq, gqz]
            refine wpAnyS_one (i := 6) (by decide +kernel) ?_
            simp [wpOpS, go_sem]
            refine wpAnyS_one (i := 9) (by decide +kernel) ?_
            simp [wpOpS, go_sem, gr, grz]
            refine wpAnyS_done (by decide +kernel) ?_ _
            exact ⟨rfl, .returning, by rw [← hu], .tuple #[], results_none (by rfl) _ _ _, rfl, rfl, w1, (Ext.refl w).drew.trans hx, rfl⟩
        · simp [wpOpS, go_sem]
          refine wpAnyS_one (i := 5) (by decide +kernel) ?_
          simp [wpOpS, go_sem]
          refine wpAnyS_one (i := 8) (by decide +kernel) ?_
          simp [wpOpS, go_sem, gq, gqz]
          refine wpAnyS_one (i := 9) (by decide +kernel) ?_
          simp [wpOpS, go_sem, gr, grz]
          refine wpAnyS_done (by decide +kernel) ?_ _
          exact ⟨rfl, .returning, by rw [← hu], .tuple #[], results_none (by rfl) _ _ _, rfl, rfl, w1, (Ext.refl w).drew.trans hx, rfl⟩
    · simp [wpOpS, go_sem]
      refine wpAnyS_two (i := 4) (j := 6) (by decide +kernel) ?_ ?_
      · simp [wpOpS, go_sem]
        refine wpAnyS_two (i := 6) (j := 7) (by decide +kernel) ?_ ?_
        · simp [wpOpS, go_sem]
          refine wpAnyS_one (i := 7) (by decide +kernel) ?_
          refine wpOpS_run (o := { dst := none, op := Op.store 27 (Operand.tmp 0) (Operand.tmp 7), type := 0, pos := "grammar.go:13", after := #[{ on := 4, ground := Ground.data }, { on := 2, ground := Ground.chain }, { on := 0, ground := Ground.phase }, { on := 1, ground := Ground.phase }, { on := 2, ground := Ground.phase }, { on := 3, ground := Ground.phase }, { on := 4, ground := Ground.phase }, { on := 5, ground := Ground.textOnly Departure.lateStores }, { on := 6, ground := Ground.textOnly Departure.lateStores }], guard := none }) (v := undef) rfl rfl (exec_storeP gB hm hn h1 rfl rfl rfl) (Or.inr ⟨rfl, rfl⟩) ?_
          simp only [Act.put]
          refine wpAnyS_one (i := 8) (by decide +kernel) ?_
          simp [wpOpS, go_sem, gq, gqz]
          refine wpAnyS_one (i := 9) (by decide +kernel) ?_
          simp [wpOpS, go_sem, gr, grz]
          refine wpAnyS_done (by decide +kernel) ?_ _
          exact ⟨rfl, .returning, by rw [← hu], .tuple #[], results_none (by rfl) _ _ _, rfl, rfl, w1, (Ext.refl w).drew.trans hx, rfl⟩
        · refine wpOpS_run (o := { dst := none, op := Op.store 27 (Operand.tmp 0) (Operand.tmp 7), type := 0, pos := "grammar.go:13", after := #[{ on := 4, ground := Ground.data }, { on := 2, ground := Ground.chain }, { on := 0, ground := Ground.phase }, { on := 1, ground := Ground.phase }, { on := 2, ground := Ground.phase }, { on := 3, ground := Ground.phase }, { on := 4, ground := Ground.phase }, { on := 5, ground := Ground.textOnly Departure.lateStores }, { on := 6, ground := Ground.textOnly Departure.lateStores }], guard := none }) (v := undef) rfl rfl (exec_storeP gB hm hn h1 rfl rfl rfl) (Or.inr ⟨rfl, rfl⟩) ?_
          simp only [Act.put]
          refine wpAnyS_two (i := 6) (j := 8) (by decide +kernel) ?_ ?_
          · simp [wpOpS, go_sem]
            refine wpAnyS_one (i := 8) (by decide +kernel) ?_
            simp [wpOpS, go_sem, gq, gqz]
            refine wpAnyS_one (i := 9) (by decide +kernel) ?_
            simp [wpOpS, go_sem, gr, grz]
            refine wpAnyS_done (by decide +kernel) ?_ _
            exact ⟨rfl, .returning, by rw [← hu], .tuple #[], results_none (by rfl) _ _ _, rfl, rfl, w1, (Ext.refl w).drew.trans hx, rfl⟩
          · simp [wpOpS, go_sem, gq, gqz]
            refine wpAnyS_one (i := 6) (by decide +kernel) ?_
            simp [wpOpS, go_sem]
            refine wpAnyS_one (i := 9) (by decide +kernel) ?_
            simp [wpOpS, go_sem, gr, grz]
            refine wpAnyS_done (by decide +kernel) ?_ _
            exact ⟨rfl, .returning, by rw [← hu], .tuple #[], results_none (by rfl) _ _ _, rfl, rfl, w1, (Ext.refl w).drew.trans hx, rfl⟩
      · simp [wpOpS, go_sem]
        refine wpAnyS_one (i := 4) (by decide +kernel) ?_
        simp [wpOpS, go_sem]
        refine wpAnyS_one (i := 7) (by decide +kernel) ?_
        refine wpOpS_run (o := { dst := none, op := Op.store 27 (Operand.tmp 0) (Operand.tmp 7), type := 0, pos := "grammar.go:13", after := #[{ on := 4, ground := Ground.data }, { on := 2, ground := Ground.chain }, { on := 0, ground := Ground.phase }, { on := 1, ground := Ground.phase }, { on := 2, ground := Ground.phase }, { on := 3, ground := Ground.phase }, { on := 4, ground := Ground.phase }, { on := 5, ground := Ground.textOnly Departure.lateStores }, { on := 6, ground := Ground.textOnly Departure.lateStores }], guard := none }) (v := undef) rfl rfl (exec_storeP gB hm hn h1 rfl rfl rfl) (Or.inr ⟨rfl, rfl⟩) ?_
        simp only [Act.put]
        refine wpAnyS_one (i := 8) (by decide +kernel) ?_
        simp [wpOpS, go_sem, gq, gqz]
        refine wpAnyS_one (i := 9) (by decide +kernel) ?_
        simp [wpOpS, go_sem, gr, grz]
        refine wpAnyS_done (by decide +kernel) ?_ _
        exact ⟨rfl, .returning, by rw [← hu], .tuple #[], results_none (by rfl) _ _ _, rfl, rfl, w1, (Ext.refl w).drew.trans hx, rfl⟩
    · simp [wpOpS, go_sem]
      refine wpAnyS_two (i := 4) (j := 5) (by decide +kernel) ?_ ?_
      · simp [wpOpS, go_sem]
        refine wpAnyS_two (i := 5) (j := 7) (by decide +kernel) ?_ ?_
        · simp [wpOpS, go_sem]
          refine wpAnyS_one (i := 7) (by decide +kernel) ?_
          refine wpOpS_run (o := { dst := none, op := Op.store 27 (Operand.tmp 0) (Operand.tmp 7), type := 0, pos := "grammar.go:13", after := #[{ on := 4, ground := Ground.data }, { on := 2, ground := Ground.chain }, { on := 0, ground := Ground.phase }, { on := 1, ground := Ground.phase }, { on := 2, ground := Ground.phase }, { on := 3, ground := Ground.phase }, { on := 4, ground := Ground.phase }, { on := 5, ground := Ground.textOnly Departure.lateStores }, { on := 6, ground := Ground.textOnly Departure.lateStores }], guard := none }) (v := undef) rfl rfl (exec_storeP gB hm hn h1 rfl rfl rfl) (Or.inr ⟨rfl, rfl⟩) ?_
          simp only [Act.put]
          refine wpAnyS_one (i := 8) (by decide +kernel) ?_
          simp [wpOpS, go_sem, gq, gqz]
          refine wpAnyS_one (i := 9) (by decide +kernel) ?_
          simp [wpOpS, go_sem, gr, grz]
          refine wpAnyS_done (by decide +kernel) ?_ _
          exact ⟨rfl, .returning, by rw [← hu], .tuple #[], results_none (by rfl) _ _ _, rfl, rfl, w1, (Ext.refl w).drew.trans hx, rfl⟩
        · refine wpOpS_run (o := { dst := none, op := Op.store 27 (Operand.tmp 0) (Operand.tmp 7), type := 0, pos := "grammar.go:13", after := #[{ on := 4, ground := Ground.data }, { on := 2, ground := Ground.chain }, { on := 0, ground := Ground.phase }, { on := 1, ground := Ground.phase }, { on := 2, ground := Ground.phase }, { on := 3, ground := Ground.phase }, { on := 4, ground := Ground.phase }, { on := 5, ground := Ground.textOnly Departure.lateStores }, { on := 6, ground := Ground.textOnly Departure.lateStores }], guard := none }) (v := undef) rfl rfl (exec_storeP gB hm hn h1 rfl rfl rfl) (Or.inr ⟨rfl, rfl⟩) ?_
          simp only [Act.put]
          refine wpAnyS_one (i := 5) (by decide +kernel) ?_
          simp [wpOpS, go_sem]
          refine wpAnyS_one (i := 8) (by decide +kernel) ?_
          simp [wpOpS, go_sem, gq, gqz]
          refine wpAnyS_one (i := 9) (by decide +kernel) ?_
          simp [wpOpS, go_sem, gr, grz]
          refine wpAnyS_done (by decide +kernel) ?_ _
          exact ⟨rfl, .returning, by rw [← hu], .tuple #[], results_none (by rfl) _ _ _, rfl, rfl, w1, (Ext.refl w).drew.trans hx, rfl⟩
      · simp [wpOpS, go_sem]
        refine wpAnyS_one (i := 4) (by decide +kernel) ?_
        simp [wpOpS, go_sem]
        refine wpAnyS_one (i := 7) (by decide +kernel) ?_
        refine wpOpS_run (o := { dst := none, op := Op.store 27 (Operand.tmp 0) (Operand.tmp 7), type := 0, pos := "grammar.go:13", after := #[{ on := 4, ground := Ground.data }, { on := 2, ground := Ground.chain }, { on := 0, ground := Ground.phase }, { on := 1, ground := Ground.phase }, { on := 2, ground := Ground.phase }, { on := 3, ground := Ground.phase }, { on := 4, ground := Ground.phase }, { on := 5, ground := Ground.textOnly Departure.lateStores }, { on := 6, ground := Ground.textOnly Departure.lateStores }], guard := none }) (v := undef) rfl rfl (exec_storeP gB hm hn h1 rfl rfl rfl) (Or.inr ⟨rfl, rfl⟩) ?_
        simp only [Act.put]
        refine wpAnyS_one (i := 8) (by decide +kernel) ?_
        simp [wpOpS, go_sem, gq, gqz]
        refine wpAnyS_one (i := 9) (by decide +kernel) ?_
        simp [wpOpS, go_sem, gr, grz]
        refine wpAnyS_done (by decide +kernel) ?_ _
        exact ⟨rfl, .returning, by rw [← hu], .tuple #[], results_none (by rfl) _ _ _, rfl, rfl, w1, (Ext.refl w).drew.trans hx, rfl⟩
  · refine wpOpS_run (o := { dst := some 5, op := Op.load 27 (Operand.tmp 0), type := 27, pos := "grammar.go:13", after := #[], guard := none }) (v := .agg cs) rfl rfl (exec_loadP hd hm rfl rfl) (Or.inl rfl) ?_
    simp only [Act.put, List.setIfInBounds_toArray, List.set_cons_zero, List.set_cons_succ]
    refine wpAnyS_one (i := 0) (by decide +kernel) ?_
    simp [wpOpS, go_sem, recoverD, hu]
    refine wpAnyS_one (i := 2) (by decide +kernel) ?_
    simp [wpOpS, go_sem]
    refine (settleP_nil cs hc _).mono ?_
    rintro e w1 ⟨rfl, hx⟩
    have gB : Blk w1 b cs := hd.ext hx
    have gx := Exr.setRow w1 b cs
    have gq0 : w1.cell? ⟨b + 1, 0, none⟩ = some (.int .i64 y) := by rw [hx.cell (b + 1) 0 (by simpa using hb1)]; simpa using hq
    have gr0 : w1.cell? ⟨b + 2, 0, none⟩ = some (.int .i64 z) := by rw [hx.cell (b + 2) 0 (by simpa using hb2)]; simpa using hr
    have gqz0 : w1.frozen? ⟨b + 1, 0, none⟩ = false := by rw [hx.froz (b + 1) 0 (by simpa using hb1)]; simpa using hqz
    have grz0 : w1.frozen? ⟨b + 2, 0, none⟩ = false := by rw [hx.froz (b + 2) 0 (by simpa using hb2)]; simpa using hrz
    have gq := gx.cell_of (by omega) gq0
    have gr := gx.cell_of (by omega) gr0
    have gqz := (World.frozen?_of_block (a := ⟨b + 1, 0, none⟩) (gx.block (b + 1) (lt_of_cell gq0) (by omega))).trans gqz0
    have grz := (World.frozen?_of_block (a := ⟨b + 2, 0, none⟩) (gx.block (b + 2) (lt_of_cell gr0) (by omega))).trans grz0
    clear gq0 gr0 gqz0 grz0
    refine wpAnyS_one (i := 3) (by decide +kernel) ?_
    simp [wpOpS, go_sem]
    refine L7.wpAnyS_three (i := 4) (j := 5) (k := 6) (by decide +kernel) ?_ ?_ ?_
    · simp [wpOpS, go_sem]
      refine L7.wpAnyS_three (i := 5) (j := 6) (k := 7) (by decide +kernel) ?_ ?_ ?_
      · simp [wpOpS, go_sem]
        refine wpAnyS_two (i := 6) (j := 7) (by decide +kernel) ?_ ?_
        · simp [wpOpS, go_sem]
          refine wpAnyS_one (i := 7) (by decide +kernel) ?_
          refine wpOpS_run (o := { dst := none, op := Op.store 27 (Operand.tmp 0) (Operand.tmp 7), type := 0, pos := "grammar.go:13", after := #[{ on := 4, ground := Ground.data }, { on := 2, ground := Ground.chain }, { on := 0, ground := Ground.phase }, { on := 1, ground := Ground.phase }, { on := 2, ground := Ground.phase }, { on := 3, ground := Ground.phase }, { on := 4, ground := Ground.phase }, { on := 5, ground := Ground.textOnly Departure.lateStores }, { on := 6, ground := Ground.textOnly Departure.lateStores }], guard := none }) (v := undef) rfl rfl (exec_storeP gB hm hn h1 rfl rfl rfl) (Or.inr ⟨rfl, rfl⟩) ?_
          simp only [Act.put]
          refine wpAnyS_one (i := 8) (by decide +kernel) ?_
          simp [wpOpS, go_sem, gq, gqz]
          refine wpAnyS_one (i := 9) (by decide +kernel) ?_
          simp [wpOpS, go_sem, gr, grz]
          refine wpAnyS_done (by decide +kernel) ?_ _
          exact ⟨rfl, .returning, by rw [← hu], .tuple #[], results_none (by rfl) _ _ _, rfl, rfl, w1, (Ext.refl w).drew.trans hx, rfl⟩
        · refine wpOpS_run (o := { dst := none, op := Op.store 27 (Operand.tmp 0) (Operand.tmp 7), type := 0, pos := "grammar.go:13", after := #[{ on := 4, ground := Ground.data }, { on := 2, ground := Ground.chain }, { on := 0, ground := Ground.phase }, { on := 1, ground := Ground.phase }, { on := 2, ground := Ground.phase }, { on := 3, ground := Ground.phase }, { on := 4, ground := Ground.phase }, { on := 5, ground := Ground.textOnly Departure.lateStores }, { on := 6, ground := Ground.textOnly Departure.lateStores }], guard := none }) (v := undef) rfl rfl (exec_storeP gB hm hn h1 rfl rfl rfl) (Or.inr ⟨rfl, rfl⟩) ?_
          simp only [Act.put]
          refine wpAnyS_two (i := 6) (j := 8) (by decide +kernel) ?_ ?_
          · simp [wpOpS, go_sem]
            refine wpAnyS_one (i := 8) (by decide +kernel) ?_
            simp [wpOpS, go_sem, gq, gqz]
            refine wpAnyS_one (i := 9) (by decide +kernel) ?_
            simp [wpOpS, go_sem, gr, grz]
            refine wpAnyS_done (by decide +kernel) ?_ _
            exact ⟨rfl, .returning, by rw [← hu], .tuple #[], results_none (by rfl) _ _ _, rfl, rfl, w1, (Ext.refl w).drew.trans hx, rfl⟩
          · simp [wpOpS, go_sem, gq, gqz]
            refine wpAnyS_one (i := 6) (by decide +kernel) ?_
            simp [wpOpS, go_sem]
            refine wpAnyS_one (i := 9) (by decide +kernel) ?_
            simp [wpOpS, go_sem, gr, grz]
            refine wpAnyS_done (by decide +kernel) ?_ _
            exact ⟨rfl, .returning, by rw [← hu], .tuple #[], results_none (by rfl) _ _ _, rfl, rfl, w1, (Ext.refl w).drew.trans hx, rfl⟩
      · simp [wpOpS, go_sem]
        refine wpAnyS_two (i := 5) (j := 7) (by decide +kernel) ?_ ?_
        · simp [wpOpS, go_sem]
          refine wpAnyS_one (i := 7) (by decide +kernel) ?_
          refine wpOpS_run (o := { dst := none, op := Op.store 27 (Operand.tmp 0) (Operand.tmp 7), type := 0, pos := "grammar.go:13", after := #[{ on := 4, ground := Ground.data }, { on := 2, ground := Ground.chain }, { on := 0, ground := Ground.phase }, { on := 1, ground := Ground.phase }, { on := 2, ground := Ground.phase }, { on := 3, ground := Ground.phase }, { on := 4, ground := Ground.phase }, { on := 5, ground := Ground.textOnly Departure.lateStores }, { on := 6, ground := Ground.textOnly Departure.lateStores }], guard := none }) (v := undef) rfl rfl (exec_storeP gB hm hn h1 rfl rfl rfl) (Or.inr ⟨rfl, rfl⟩) ?_
          simp only [Act.put]
          refine wpAnyS_one (i := 8) (by decide +kernel) ?_
          simp [wpOpS, go_sem, gq, gqz]
          refine wpAnyS_one (i := 9) (by decide +kernel) ?_
          simp [wpOpS, go_sem, gr, grz]
          refine wpAnyS_done (by decide +kernel) ?_ _
          exact ⟨rfl, .returning, by rw [← hu], .tuple #[], results_none (by rfl) _ _ _, rfl, rfl, w1, (Ext.refl w).drew.trans hx, rfl⟩
        · refine wpOpS_run (o := { dst := none, op := Op.store 27 (Operand.tmp 0) (Operand.tmp 7), type := 0, pos := "grammar.go:13", after := #[{ on := 4, ground := Ground.data }, { on := 2, ground := Ground.chain }, { on := 0, ground := Ground.phase }, { on := 1, ground := Ground.phase }, { on := 2, ground := Ground.phase }, { on := 3, ground := Ground.phase }, { on := 4, ground := Ground.phase }, { on := 5, ground := Ground.textOnly Departure.lateStores }, { on := 6, ground := Ground.textOnly Departure.lateStores }], guard := none }) (v := undef) rfl rfl (exec_storeP gB hm hn h1 rfl rfl rfl) (Or.inr ⟨rfl, rfl⟩) ?_
          simp only [Act.put]
          refine wpAnyS_one (i := 5) (by decide +kernel) ?_
          simp [wpOpS, go_sem]
          refine wpAnyS_one (i := 8) (by decide +kernel) ?_
          simp [wpOpS, go_sem, gq, gqz]
          refine wpAnyS_one (i := 9) (by decide +kernel) ?_
          simp [wpOpS, go_sem, gr, grz]
          refine wpAnyS_done (by decide +kernel) ?_ _
          exact ⟨rfl, .returning, by rw [← hu], .tuple #[], results_none (by rfl) _ _ _, rfl, rfl, w1, (Ext.refl w).drew.trans hx, rfl⟩
      · refine wpOpS_run (o := { dst := none, op := Op.store 27 (Operand.tmp 0) (Operand.tmp 7), type := 0, pos := "grammar.go:13", after := #[{ on := 4, ground := Ground.data }, { on := 2, ground := Ground.chain }, { on := 0, ground := Ground.phase }, { on := 1, ground := Ground.phase }, { on := 2, ground := Ground.phase }, { on := 3, ground := Ground.phase }, { on := 4, ground := Ground.phase }, { on := 5, ground := Ground.textOnly Departure.lateStores }, { on := 6, ground := Ground.textOnly Departure.lateStores }], guard := none }) (v := undef) rfl rfl (exec_storeP gB hm hn h1 rfl rfl rfl) (Or.inr ⟨rfl, rfl⟩) ?_
        simp only [Act.put]
        refine wpAnyS_two (i := 5) (j := 6) (by decide +kernel) ?_ ?_
        · simp [wpOpS, go_sem]
          refine wpAnyS_two (i := 6) (j := 8) (by decide +kernel) ?_ ?_
          · simp [wpOpS, go_sem]
            refine wpAnyS_one (i := 8) (by decide +kernel) ?_
            simp [wpOpS, go_sem, gq, gqz]
            refine wpAnyS_one (i := 9) (by decide +kernel) ?_
            simp [wpOpS, go_sem, gr, grz]
            refine wpAnyS_done (by decide +kernel) ?_ _
            exact ⟨rfl, .returning, by rw [← hu], .tuple #[], results_none (by rfl) _ _ _, rfl, rfl, w1, (Ext.refl w).drew.trans hx, rfl⟩
          · simp [wpOpS, go_sem, gq, gqz]
            refine wpAnyS_one (i := 6) (by decide +kernel) ?_
            simp [wpOpS, go_sem]
            refine wpAnyS_one (i := 9) (by decide +kernel) ?_
            simp [wpOpS, go_sem, gr, grz]
            refine wpAnyS_done (by decide +kernel) ?_ _
            exact ⟨rfl, .returning, by rw [← hu], .tuple #[], results_none (by rfl) _ _ _, rfl, rfl, w1, (Ext.refl w).drew.trans hx, rfl⟩
        · simp [wpOpS, go_sem]
          refine wpAnyS_one (i := 5) (by decide +kernel) ?_
          simp [wpOpS, go_sem]
          refine wpAnyS_one (i := 8) (by decide +kernel) ?_
          simp [wpOpS, go_sem, gq, gqz]
          refine wpAnyS_one (i := 9) (by decide +kernel) ?_
          simp [wpOpS, go_sem, gr, grz]
          refine wpAnyS_done (by decide +kernel) ?_ _
          exact ⟨rfl, .returning, by rw [← hu], .tuple #[], results_none (by rfl) _ _ _, rfl, rfl, w1, (Ext.refl w).drew.trans hx, rfl⟩
    · simp [wpOpS, go_sem]
      refine wpAnyS_two (i := 4) (j := 6) (by decide +kernel) ?_ ?_
      · simp [wpOpS, go_sem]
        refine wpAnyS_two (i := 6) (j := 7) (by decide +kernel) ?_ ?_
        · simp [wpOpS, go_sem]
          refine wpAnyS_one (i := 7) (by decide +kernel) ?_
          refine wpOpS_run (o := { dst := none, op := Op.store 27 (Operand.tmp 0) (Operand.tmp 7), type := 0, pos := "grammar.go:13", after := #[{ on := 4, ground := Ground.data }, { on := 2, ground := Ground.chain }, { on := 0, ground := Ground.phase }, { on := 1, ground := Ground.phase }, { on := 2, ground := Ground.phase }, { on := 3, ground := Ground.phase }, { on := 4, ground := Ground.phase }, { on := 5, ground := Ground.textOnly Departure.lateStores }, { on := 6, ground := Ground.textOnly Departure.lateStores }], guard := none }) (v := undef) rfl rfl (exec_storeP gB hm hn h1 rfl rfl rfl) (Or.inr ⟨rfl, rfl⟩) ?_
          simp only [Act.put]
          refine wpAnyS_one (i := 8) (by decide +kernel) ?_
          simp [wpOpS, go_sem, gq, gqz]
          refine wpAnyS_one (i := 9) (by decide +kernel) ?_
          simp [wpOpS, go_sem, gr, grz]
          refine wpAnyS_done (by decide +kernel) ?_ _
          exact ⟨rfl, .returning, by rw [← hu], .tuple #[], results_none (by rfl) _ _ _, rfl, rfl, w1, (Ext.refl w).drew.trans hx, rfl⟩
        · refine wpOpS_run (o := { dst := none, op := Op.store 27 (Operand.tmp 0) (Operand.tmp 7), type := 0, pos := "grammar.go:13", after := #[{ on := 4, ground := Ground.data }, { on := 2, ground := Ground.chain }, { on := 0, ground := Ground.phase }, { on := 1, ground := Ground.phase }, { on := 2, ground := Ground.phase }, { on := 3, ground := Ground.phase }, { on := 4, ground := Ground.phase }, { on := 5, ground := Ground.textOnly Departure.lateStores }, { on := 6, ground := Ground.textOnly Departure.lateStores }], guard := none }) (v := undef) rfl rfl (exec_storeP gB hm hn h1 rfl rfl rfl) (Or.inr ⟨rfl, rfl⟩) ?_
          simp only [Act.put]
          refine wpAnyS_two (i := 6) (j := 8) (by decide +kernel) ?_ ?_
          · simp [wpOpS, go_sem]
            refine wpAnyS_one (i := 8) (by decide +kernel) ?_
            simp [wpOpS, go_sem, gq, gqz]
            refine wpAnyS_one (i := 9) (by decide +kernel) ?_
            simp [wpOpS, go_sem, gr, grz]
            refine wpAnyS_done (by decide +kernel) ?_ _
            exact ⟨rfl, .returning, by rw [← hu], .tuple #[], results_none (by rfl) _ _ _, rfl, rfl, w1, (Ext.refl w).drew.trans hx, rfl⟩
          · simp [wpOpS, go_sem, gq, gqz]
            refine wpAnyS_one (i := 6) (by decide +kernel) ?_
            simp [wpOpS, go_sem]
            refine wpAnyS_one (i := 9) (by decide +kernel) ?_
            simp [wpOpS, go_sem, gr, grz]
            refine wpAnyS_done (by decide +kernel) ?_ _
            exact ⟨rfl, .returning, by rw [← hu], .tuple #[], results_none (by rfl) _ _ _, rfl, rfl, w1, (Ext.refl w).drew.trans hx, rfl⟩
      · simp [wpOpS, go_sem]
        refine wpAnyS_one (i := 4) (by decide +kernel) ?_
        simp [wpOpS, go_sem]
        refine wpAnyS_one (i := 7) (by decide +kernel) ?_
        refine wpOpS_run (o := { dst := none, op := Op.store 27 (Operand.tmp 0) (Operand.tmp 7), type := 0, pos := "grammar.go:13", after := #[{ on := 4, ground := Ground.data }, { on := 2, ground := Ground.chain }, { on := 0, ground := Ground.phase }, { on := 1, ground := Ground.phase }, { on := 2, ground := Ground.phase }, { on := 3, ground := Ground.phase }, { on := 4, ground := Ground.phase }, { on := 5, ground := Ground.textOnly Departure.lateStores }, { on := 6, ground := Ground.textOnly Departure.lateStores }], guard := none }) (v := undef) rfl rfl (exec_storeP gB hm hn h1 rfl rfl rfl) (Or.inr ⟨rfl, rfl⟩) ?_
        simp only [Act.put]
        refine wpAnyS_one (i := 8) (by decide +kernel) ?_
        simp [wpOpS, go_sem, gq, gqz]
        refine wpAnyS_one (i := 9) (by decide +kernel) ?_
        simp [wpOpS, go_sem, gr, grz]
        refine wpAnyS_done (by decide +kernel) ?_ _
        exact ⟨rfl, .returning, by rw [← hu], .tuple #[], results_none (by rfl) _ _ _, rfl, rfl, w1, (Ext.refl w).drew.trans hx, rfl⟩
    · simp [wpOpS, go_sem]
      refine wpAnyS_two (i := 4) (j := 5) (by decide +kernel) ?_ ?_
      · simp [wpOpS, go_sem]
        refine wpAnyS_two (i := 5) (j := 7) (by decide +kernel) ?_ ?_
        · simp [wpOpS, go_sem]
          refine wpAnyS_one (i := 7) (by decide +kernel) ?_
          refine wpOpS_run (o := { dst := none, op := Op.store 27 (Operand.tmp 0) (Operand.tmp 7), type := 0, pos := "grammar.go:13", after := #[{ on := 4, ground := Ground.data }, { on := 2, ground := Ground.chain }, { on := 0, ground := Ground.phase }, { on := 1, ground := Ground.phase }, { on := 2, ground := Ground.phase }, { on := 3, ground := Ground.phase }, { on := 4, ground := Ground.phase }, { on := 5, ground := Ground.textOnly Departure.lateStores }, { on := 6, ground := Ground.textOnly Departure.lateStores }], guard := none }) (v := undef) rfl rfl (exec_storeP gB hm hn h1 rfl rfl rfl) (Or.inr ⟨rfl, rfl⟩) ?_
          simp only [Act.put]
          refine wpAnyS_one (i := 8) (by decide +kernel) ?_
          simp [wpOpS, go_sem, gq, gqz]
          refine wpAnyS_one (i := 9) (by decide +kernel) ?_
          simp [wpOpS, go_sem, gr, grz]
          refine wpAnyS_done (by decide +kernel) ?_ _
          exact ⟨rfl, .returning, by rw [← hu], .tuple #[], results_none (by rfl) _ _ _, rfl, rfl, w1, (Ext.refl w).drew.trans hx, rfl⟩
        · refine wpOpS_run (o := { dst := none, op := Op.store 27 (Operand.tmp 0) (Operand.tmp 7), type := 0, pos := "grammar.go:13", after := #[{ on := 4, ground := Ground.data }, { on := 2, ground := Ground.chain }, { on := 0, ground := Ground.phase }, { on := 1, ground := Ground.phase }, { on := 2, ground := Ground.phase }, { on := 3, ground := Ground.phase }, { on := 4, ground := Ground.phase }, { on := 5, ground := Ground.textOnly Departure.lateStores }, { on := 6, ground := Ground.textOnly Departure.lateStores }], guard := none }) (v := undef) rfl rfl (exec_storeP gB hm hn h1 rfl rfl rfl) (Or.inr ⟨rfl, rfl⟩) ?_
          simp only [Act.put]
          refine wpAnyS_one (i := 5) (by decide +kernel) ?_
          simp [wpOpS, go_sem]
          refine wpAnyS_one (i := 8) (by decide +kernel) ?_
          simp [wpOpS, go_sem, gq, gqz]
          refine wpAnyS_one (i := 9) (by decide +kernel) ?_
          simp [wpOpS, go_sem, gr, grz]
          refine wpAnyS_done (by decide +kernel) ?_ _
          exact ⟨rfl, .returning, by rw [← hu], .tuple #[], results_none (by rfl) _ _ _, rfl, rfl, w1, (Ext.refl w).drew.trans hx, rfl⟩
      · simp [wpOpS, go_sem]
        refine wpAnyS_one (i := 4) (by decide +kernel) ?_
        simp [wpOpS, go_sem]
        refine wpAnyS_one (i := 7) (by decide +kernel) ?_
        refine wpOpS_run (o := { dst := none, op := Op.store 27 (Operand.tmp 0) (Operand.tmp 7), type := 0, pos := "grammar.go:13", after := #[{ on := 4, ground := Ground.data }, { on := 2, ground := Ground.chain }, { on := 0, ground := Ground.phase }, { on := 1, ground := Ground.phase }, { on := 2, ground := Ground.phase }, { on := 3, ground := Ground.phase }, { on := 4, ground := Ground.phase }, { on := 5, ground := Ground.textOnly Departure.lateStores }, { on := 6, ground := Ground.textOnly Departure.lateStores }], guard := none }) (v := undef) rfl rfl (exec_storeP gB hm hn h1 rfl rfl rfl) (Or.inr ⟨rfl, rfl⟩) ?_
        simp only [Act.put]
        refine wpAnyS_one (i := 8) (by decide +kernel) ?_
        simp [wpOpS, go_sem, gq, gqz]
        refine wpAnyS_one (i := 9) (by decide +kernel) ?_
        simp [wpOpS, go_sem, gr, grz]
        refine wpAnyS_done (by decide +kernel) ?_ _
        exact ⟨rfl, .returning, by rw [← hu], .tuple #[], results_none (by rfl) _ _ _, rfl, rfl, w1, (Ext.refl w).drew.trans hx, rfl⟩
set_option maxRecDepth 100000 in
set_option maxHeartbeats 4000000 in
theorem parse_placed (b : Nat) (cs : Array Value) (hc : Flat cs) (c k : Int) (older : List PanicEntry) (y z : Int) (w : World) (hB : Blk w b cs) (hq : w.cell? ⟨b + 1, 0, none⟩ = some (.int .i64 y)) (hr : w.cell? ⟨b + 2, 0, none⟩ = some (.int .i64 z)) (hqz : w.frozen? ⟨b + 1, 0, none⟩ = false) (hrz : w.frozen? ⟨b + 2, 0, none⟩ = false) :
    CallsD Tryz.prog 21 #[.pointer (some ⟨b, 0, none⟩), .pointer (some ⟨b + 1, 0, none⟩), .pointer (some ⟨b + 2, 0, none⟩)] (.panicking ({ v := .iface 85 (.agg #[.int .i64 c, .int .i64 k]), recovered := false } :: older)) w fun e u' w' => e = .returned (.tuple #[]) ∧ u' = .panicking ({ v := .iface 85 (.agg #[.int .i64 c, .int .i64 k]), recovered := true } :: older) ∧ ∃ w1, Ext w w1 ∧ w' = (((w1.setRow b zP).setCell ⟨b + 1, 0, none⟩ (.int .i64 k)).setCell ⟨b + 2, 0, none⟩ (.int .i64 c)) := by
  have hm := hc.size
  have hn : (zP : Array Value).size = 19 := zP_ok.1
  have h1 : (zP : Array Value).all (·.oneCell') = true := zP_ok.2
  have hb1 := lt_of_cell hq
  have hb2 := lt_of_cell hr
  have hd : Blk w.drew b cs := hB.ext (Ext.refl w).drew
  refine callsD_of_wpS Tryz.func21 rfl fun c₀ cs' hu => ?_
  rw [show (#[Value.pointer (some ⟨b, 0, none⟩), .pointer (some ⟨b + 1, 0, none⟩), .pointer (some ⟨b + 2, 0, none⟩)] ++ Array.replicate (Tryz.f21.ntmps - (#[Value.pointer (some ⟨b, 0, none⟩), .pointer (some ⟨b + 1, 0, none⟩), .pointer (some ⟨b + 2, 0, none⟩)] : Array Value).size) undef : Array Value) = #[.pointer (some ⟨b, 0, none⟩), .pointer (some ⟨b + 1, 0, none⟩), .pointer (some ⟨b + 2, 0, none⟩), undef, undef, undef, undef, undef, undef, undef] from rfl]
  refine wpS_region_any 10 rfl (by kernel_rfl) ?_
  refine wpAnyS_two (i := 0) (j := 1) (by decide +kernel) ?_ ?_
  · simp [wpOpS, go_sem, recoverD, hu]
    refine wpAnyS_one (i := 1) (by decide +kernel) ?_
    refine wpOpS_run (o := { dst := some 5, op := Op.load 27 (Operand.tmp 0), type := 27, pos := "grammar.go:13", after := #[], guard := none }) (v := .agg cs) rfl rfl (exec_loadP hd hm rfl rfl) (Or.inl rfl) ?_
    simp only [Act.put, List.setIfInBounds_toArray, List.set_cons_zero, List.set_cons_succ]
    refine wpAnyS_one (i := 2) (by decide +kernel) ?_
    simp [wpOpS, go_sem]
    refine (settleP_placed c k cs hc _).mono ?_
    rintro e w1 ⟨rfl, hx⟩
    have gB : Blk w1 b cs := hd.ext hx
    have gx := Exr.setRow w1 b zP
    have gq0 : w1.cell? ⟨b + 1, 0, none⟩ = some (.int .i64 y) := by rw [hx.cell (b + 1) 0 (by simpa using hb1)]; simpa using hq
    have gr0 : w1.cell? ⟨b + 2, 0, none⟩ = some (.int .i64 z) := by rw [hx.cell (b + 2) 0 (by simpa using hb2)]; simpa using hr
    have gqz0 : w1.frozen? ⟨b + 1, 0, none⟩ = false := by rw [hx.froz (b + 1) 0 (by simpa using hb1)]; simpa using hqz
    have grz0 : w1.frozen? ⟨b + 2, 0, none⟩ = false := by rw [hx.froz (b + 2) 0 (by simpa using hb2)]; simpa using hrz
    have gq := gx.cell_of (by omega) gq0
    have gr := gx.cell_of (by omega) gr0
    have gqz := (World.frozen?_of_block (a := ⟨b + 1, 0, none⟩) (gx.block (b + 1) (lt_of_cell gq0) (by omega))).trans gqz0
    have grz := (World.frozen?_of_block (a := ⟨b + 2, 0, none⟩) (gx.block (b + 2) (lt_of_cell gr0) (by omega))).trans grz0
    clear gq0 gr0 gqz0 grz0
    refine wpAnyS_one (i := 3) (by decide +kernel) ?_
    simp [wpOpS, go_sem]
    refine L7.wpAnyS_three (i := 4) (j := 5) (k := 6) (by decide +kernel) ?_ ?_ ?_
    · simp [wpOpS, go_sem]
      refine L7.wpAnyS_three (i := 5) (j := 6) (k := 7) (by decide +kernel) ?_ ?_ ?_
      · simp [wpOpS, go_sem]
        refine wpAnyS_two (i := 6) (j := 7) (by decide +kernel) ?_ ?_
        · simp [wpOpS, go_sem]
          refine wpAnyS_one (i := 7) (by decide +kernel) ?_
          refine wpOpS_run (o := { dst := none, op := Op.store 27 (Operand.tmp 0) (Operand.tmp 7), type := 0, pos := "grammar.go:13", after := #[{ on := 4, ground := Ground.data }, { on := 2, ground := Ground.chain }, { on := 0, ground := Ground.phase }, { on := 1, ground := Ground.phase }, { on := 2, ground := Ground.phase }, { on := 3, ground := Ground.phase }, { on := 4, ground := Ground.phase }, { on := 5, ground := Ground.textOnly Departure.lateStores }, { on := 6, ground := Ground.textOnly Departure.lateStores }], guard := none }) (v := undef) rfl rfl (exec_storeP gB hm hn h1 rfl rfl rfl) (Or.inr ⟨rfl, rfl⟩) ?_
          simp only [Act.put]
          refine wpAnyS_one (i := 8) (by decide +kernel) ?_
          simp [wpOpS, go_sem, gq, gqz]
          refine wpAnyS_one (i := 9) (by decide +kernel) ?_
          simp [wpOpS, go_sem, gr, grz]
          refine wpAnyS_done (by decide +kernel) ?_ _
          exact ⟨rfl, _, rfl, .tuple #[], results_none (by rfl) _ _ _, rfl, rfl, w1, (Ext.refl w).drew.trans hx, rfl⟩
        · refine wpOpS_run (o := { dst := none, op := Op.store 27 (Operand.tmp 0) (Operand.tmp 7), type := 0, pos := "grammar.go:13", after := #[{ on := 4, ground := Ground.data }, { on := 2, ground := Ground.chain }, { on := 0, ground := Ground.phase }, { on := 1, ground := Ground.phase }, { on := 2, ground := Ground.phase }, { on := 3, ground := Ground.phase }, { on := 4, ground := Ground.phase }, { on := 5, ground := Ground.textOnly Departure.lateStores }, { on := 6, ground := Ground.textOnly Departure.lateStores }], guard := none }) (v := undef) rfl rfl (exec_storeP gB hm hn h1 rfl rfl rfl) (Or.inr ⟨rfl, rfl⟩) ?_
          simp only [Act.put]
          refine wpAnyS_two (i := 6) (j := 8) (by decide +kernel) ?_ ?_
          · simp [wpOpS, go_sem]
            refine wpAnyS_one (i := 8) (by decide +kernel) ?_
            simp [wpOpS, go_sem, gq, gqz]
            refine wpAnyS_one (i := 9) (by decide +kernel) ?_
            simp [wpOpS, go_sem, gr, grz]
            refine wpAnyS_done (by decide +kernel) ?_ _
            exact ⟨rfl, _, rfl, .tuple #[], results_none (by rfl) _ _ _, rfl, rfl, w1, (Ext.refl w).drew.trans hx, rfl⟩
          · simp [wpOpS, go_sem, gq, gqz]
            refine wpAnyS_one (i := 6) (by decide +kernel) ?_
            simp [wpOpS, go_sem]
            refine wpAnyS_one (i := 9) (by decide +kernel) ?_
            simp [wpOpS, go_sem, gr, grz]
            refine wpAnyS_done (by decide +kernel) ?_ _
            exact ⟨rfl, _, rfl, .tuple #[], results_none (by rfl) _ _ _, rfl, rfl, w1, (Ext.refl w).drew.trans hx, rfl⟩
      · simp [wpOpS, go_sem]
        refine wpAnyS_two (i := 5) (j := 7) (by decide +kernel) ?_ ?_
        · simp [wpOpS, go_sem]
          refine wpAnyS_one (i := 7) (by decide +kernel) ?_
          refine wpOpS_run (o := { dst := none, op := Op.store 27 (Operand.tmp 0) (Operand.tmp 7), type := 0, pos := "grammar.go:13", after := #[{ on := 4, ground := Ground.data }, { on := 2, ground := Ground.chain }, { on := 0, ground := Ground.phase }, { on := 1, ground := Ground.phase }, { on := 2, ground := Ground.phase }, { on := 3, ground := Ground.phase }, { on := 4, ground := Ground.phase }, { on := 5, ground := Ground.textOnly Departure.lateStores }, { on := 6, ground := Ground.textOnly Departure.lateStores }], guard := none }) (v := undef) rfl rfl (exec_storeP gB hm hn h1 rfl rfl rfl) (Or.inr ⟨rfl, rfl⟩) ?_
          simp only [Act.put]
          refine wpAnyS_one (i := 8) (by decide +kernel) ?_
          simp [wpOpS, go_sem, gq, gqz]
          refine wpAnyS_one (i := 9) (by decide +kernel) ?_
          simp [wpOpS, go_sem, gr, grz]
          refine wpAnyS_done (by decide +kernel) ?_ _
          exact ⟨rfl, _, rfl, .tuple #[], results_none (by rfl) _ _ _, rfl, rfl, w1, (Ext.refl w).drew.trans hx, rfl⟩
        · refine wpOpS_run (o := { dst := none, op := Op.store 27 (Operand.tmp 0) (Operand.tmp 7), type := 0, pos := "grammar.go:13", after := #[{ on := 4, ground := Ground.data }, { on := 2, ground := Ground.chain }, { on := 0, ground := Ground.phase }, { on := 1, ground := Ground.phase }, { on := 2, ground := Ground.phase }, { on := 3, ground := Ground.phase }, { on := 4, ground := Ground.phase }, { on := 5, ground := Ground.textOnly Departure.lateStores }, { on := 6, ground := Ground.textOnly Departure.lateStores }], guard := none }) (v := undef) rfl rfl (exec_storeP gB hm hn h1 rfl rfl rfl) (Or.inr ⟨rfl, rfl⟩) ?_
          simp only [Act.put]
          refine wpAnyS_one (i := 5) (by decide +kernel) ?_
          simp [wpOpS, go_sem]
          refine wpAnyS_one (i := 8) (by decide +kernel) ?_
          simp [wpOpS, go_sem, gq, gqz]
          refine wpAnyS_one (i := 9) (by decide +kernel) ?_
          simp [wpOpS, go_sem, gr, grz]
          refine wpAnyS_done (by decide +kernel) ?_ _
          exact ⟨rfl, _, rfl, .tuple #[], results_none (by rfl) _ _ _, rfl, rfl, w1, (Ext.refl w).drew.trans hx, rfl⟩
      · refine wpOpS_run (o := { dst := none, op := Op.store 27 (Operand.tmp 0) (Operand.tmp 7), type := 0, pos := "grammar.go:13", after := #[{ on := 4, ground := Ground.data }, { on := 2, ground := Ground.chain }, { on := 0, ground := Ground.phase }, { on := 1, ground := Ground.phase }, { on := 2, ground := Ground.phase }, { on := 3, ground := Ground.phase }, { on := 4, ground := Ground.phase }, { on := 5, ground := Ground.textOnly Departure.lateStores }, { on := 6, ground := Ground.textOnly Departure.lateStores }], guard := none }) (v := undef) rfl rfl (exec_storeP gB hm hn h1 rfl rfl rfl) (Or.inr ⟨rfl, rfl⟩) ?_
        simp only [Act.put]
        refine wpAnyS_two (i := 5) (j := 6) (by decide +kernel) ?_ ?_
        · simp [wpOpS, go_sem]
          refine wpAnyS_two (i := 6) (j := 8) (by decide +kernel) ?_ ?_
          · simp [wpOpS, go_sem]
            refine wpAnyS_one (i := 8) (by decide +kernel) ?_
            simp [wpOpS, go_sem, gq, gqz]
            refine wpAnyS_one (i := 9) (by decide +kernel) ?_
            simp [wpOpS, go_sem, gr, grz]
            refine wpAnyS_done (by decide +kernel) ?_ _
            exact ⟨rfl, _, rfl, .tuple #[], results_none (by rfl) _ _ _, rfl, rfl, w1, (Ext.refl w).drew.trans hx, rfl⟩
          · simp [wpOpS, go_sem, gq, gqz]
            refine wpAnyS_one (i := 6) (by decide +kernel) ?_
            simp [wpOpS, go_sem]
            refine wpAnyS_one (i := 9) (by decide +kernel) ?_
            simp [wpOpS, go_sem, gr, grz]
            refine wpAnyS_done (by decide +kernel) ?_ _
            exact ⟨rfl, _, rfl, .tuple #[], results_none (by rfl) _ _ _, rfl, rfl, w1, (Ext.refl w).drew.trans hx, rfl⟩
        · simp [wpOpS, go_sem]
          refine wpAnyS_one (i := 5) (by decide +kernel) ?_
          simp [wpOpS, go_sem]
          refine wpAnyS_one (i := 8) (by decide +kernel) ?_
          simp [wpOpS, go_sem, gq, gqz]
          refine wpAnyS_one (i := 9) (by decide +kernel) ?_
          simp [wpOpS, go_sem, gr, grz]
          refine wpAnyS_done (by decide +kernel) ?_ _
          exact ⟨rfl, _, rfl, .tuple #[], results_none (by rfl) _ _ _, rfl, rfl, w1, (Ext.refl w).drew.trans hx, rfl⟩
    · simp [wpOpS, go_sem]
      refine wpAnyS_two (i := 4) (j := 6) (by decide +kernel) ?_ ?_
      · simp [wpOpS, go_sem]
        refine wpAnyS_two (i := 6) (j := 7) (by decide +kernel) ?_ ?_
        · simp [wpOpS, go_sem]
          refine wpAnyS_one (i := 7) (by decide +kernel) ?_
          refine wpOpS_run (o := { dst := none, op := Op.store 27 (Operand.tmp 0) (Operand.tmp 7), type := 0, pos := "grammar.go:13", after := #[{ on := 4, ground := Ground.data }, { on := 2, ground := Ground.chain }, { on := 0, ground := Ground.phase }, { on := 1, ground := Ground.phase }, { on := 2, ground := Ground.phase }, { on := 3, ground := Ground.phase }, { on := 4, ground := Ground.phase }, { on := 5, ground := Ground.textOnly Departure.lateStores }, { on := 6, ground := Ground.textOnly Departure.lateStores }], guard := none }) (v := undef) rfl rfl (exec_storeP gB hm hn h1 rfl rfl rfl) (Or.inr ⟨rfl, rfl⟩) ?_
          simp only [Act.put]
          refine wpAnyS_one (i := 8) (by decide +kernel) ?_
          simp [wpOpS, go_sem, gq, gqz]
          refine wpAnyS_one (i := 9) (by decide +kernel) ?_
          simp [wpOpS, go_sem, gr, grz]
          refine wpAnyS_done (by decide +kernel) ?_ _
          exact ⟨rfl, _, rfl, .tuple #[], results_none (by rfl) _ _ _, rfl, rfl, w1, (Ext.refl w).drew.trans hx, rfl⟩
        · refine wpOpS_run (o := { dst := none, op := Op.store 27 (Operand.tmp 0) (Operand.tmp 7), type := 0, pos := "grammar.go:13", after := #[{ on := 4, ground := Ground.data }, { on := 2, ground := Ground.chain }, { on := 0, ground := Ground.phase }, { on := 1, ground := Ground.phase }, { on := 2, ground := Ground.phase }, { on := 3, ground := Ground.phase }, { on := 4, ground := Ground.phase }, { on := 5, ground := Ground.textOnly Departure.lateStores }, { on := 6, ground := Ground.textOnly Departure.lateStores }], guard := none }) (v := undef) rfl rfl (exec_storeP gB hm hn h1 rfl rfl rfl) (Or.inr ⟨rfl, rfl⟩) ?_
          simp only [Act.put]
          refine wpAnyS_two (i := 6) (j := 8) (by decide +kernel) ?_ ?_
          · simp [wpOpS, go_sem]
            refine wpAnyS_one (i := 8) (by decide +kernel) ?_
            simp [wpOpS, go_sem, gq, gqz]
            refine wpAnyS_one (i := 9) (by decide +kernel) ?_
            simp [wpOpS, go_sem, gr, grz]
            refine wpAnyS_done (by decide +kernel) ?_ _
            exact ⟨rfl, _, rfl, .tuple #[], results_none (by rfl) _ _ _, rfl, rfl, w1, (Ext.refl w).drew.trans hx, rfl⟩
          · simp [wpOpS, go_sem, gq, gqz]
            refine wpAnyS_one (i := 6) (by decide +kernel) ?_
            simp [wpOpS, go_sem]
            refine wpAnyS_one (i := 9) (by decide +kernel) ?_
            simp [wpOpS, go_sem, gr, grz]
            refine wpAnyS_done (by decide +kernel) ?_ _
            exact ⟨rfl, _, rfl, .tuple #[], results_none (by rfl) _ _ _, rfl, rfl, w1, (Ext.refl w).drew.trans hx, rfl⟩
      · simp [wpOpS, go_sem]
        refine wpAnyS_one (i := 4) (by decide +kernel) ?_
        simp [wpOpS, go_sem]
        refine wpAnyS_one (i := 7) (by decide +kernel) ?_
        refine wpOpS_run (o := { dst := none, op := Op.store 27 (Operand.tmp 0) (Operand.tmp 7), type := 0, pos := "grammar.go:13", after := #[{ on := 4, ground := Ground.data }, { on := 2, ground := Ground.chain }, { on := 0, ground := Ground.phase }, { on := 1, ground := Ground.phase }, { on := 2, ground := Ground.phase }, { on := 3, ground := Ground.phase }, { on := 4, ground := Ground.phase }, { on := 5, ground := Ground.textOnly Departure.lateStores }, { on := 6, ground := Ground.textOnly Departure.lateStores }], guard := none }) (v := undef) rfl rfl (exec_storeP gB hm hn h1 rfl rfl rfl) (Or.inr ⟨rfl, rfl⟩) ?_
        simp only [Act.put]
        refine wpAnyS_one (i := 8) (by decide +kernel) ?_
        simp [wpOpS, go_sem, gq, gqz]
        refine wpAnyS_one (i := 9) (by decide +kernel) ?_
        simp [wpOpS, go_sem, gr, grz]
        refine wpAnyS_done (by decide +kernel) ?_ _
        exact ⟨rfl, _, rfl, .tuple #[], results_none (by rfl) _ _ _, rfl, rfl, w1, (Ext.refl w).drew.trans hx, rfl⟩
    · simp [wpOpS, go_sem]
      refine wpAnyS_two (i := 4) (j := 5) (by decide +kernel) ?_ ?_
      · simp [wpOpS, go_sem]
        refine wpAnyS_two (i := 5) (j := 7) (by decide +kernel) ?_ ?_
        · simp [wpOpS, go_sem]
          refine wpAnyS_one (i := 7) (by decide +kernel) ?_
          refine wpOpS_run (o := { dst := none, op := Op.store 27 (Operand.tmp 0) (Operand.tmp 7), type := 0, pos := "grammar.go:13", after := #[{ on := 4, ground := Ground.data }, { on := 2, ground := Ground.chain }, { on := 0, ground := Ground.phase }, { on := 1, ground := Ground.phase }, { on := 2, ground := Ground.phase }, { on := 3, ground := Ground.phase }, { on := 4, ground := Ground.phase }, { on := 5, ground := Ground.textOnly Departure.lateStores }, { on := 6, ground := Ground.textOnly Departure.lateStores }], guard := none }) (v := undef) rfl rfl (exec_storeP gB hm hn h1 rfl rfl rfl) (Or.inr ⟨rfl, rfl⟩) ?_
          simp only [Act.put]
          refine wpAnyS_one (i := 8) (by decide +kernel) ?_
          simp [wpOpS, go_sem, gq, gqz]
          refine wpAnyS_one (i := 9) (by decide +kernel) ?_
          simp [wpOpS, go_sem, gr, grz]
          refine wpAnyS_done (by decide +kernel) ?_ _
          exact ⟨rfl, _, rfl, .tuple #[], results_none (by rfl) _ _ _, rfl, rfl, w1, (Ext.refl w).drew.trans hx, rfl⟩
        · refine wpOpS_run (o := { dst := none, op := Op.store 27 (Operand.tmp 0) (Operand.tmp 7), type := 0, pos := "grammar.go:13", after := #[{ on := 4, ground := Ground.data }, { on := 2, ground := Ground.chain }, { on := 0, ground := Ground.phase }, { on := 1, ground := Ground.phase }, { on := 2, ground := Ground.phase }, { on := 3, ground := Ground.phase }, { on := 4, ground := Ground.phase }, { on := 5, ground := Ground.textOnly Departure.lateStores }, { on := 6, ground := Ground.textOnly Departure.lateStores }], guard := none }) (v := undef) rfl rfl (exec_storeP gB hm hn h1 rfl rfl rfl) (Or.inr ⟨rfl, rfl⟩) ?_
          simp only [Act.put]
          refine wpAnyS_one (i := 5) (by decide +kernel) ?_
          simp [wpOpS, go_sem]
          refine wpAnyS_one (i := 8) (by decide +kernel) ?_
          simp [wpOpS, go_sem, gq, gqz]
          refine wpAnyS_one (i := 9) (by decide +kernel) ?_
          simp [wpOpS, go_sem, gr, grz]
          refine wpAnyS_done (by decide +kernel) ?_ _
          exact ⟨rfl, _, rfl, .tuple #[], results_none (by rfl) _ _ _, rfl, rfl, w1, (Ext.refl w).drew.trans hx, rfl⟩
      · simp [wpOpS, go_sem]
        refine wpAnyS_one (i := 4) (by decide +kernel) ?_
        simp [wpOpS, go_sem]
        refine wpAnyS_one (i := 7) (by decide +kernel) ?_
        refine wpOpS_run (o := { dst := none, op := Op.store 27 (Operand.tmp 0) (Operand.tmp 7), type := 0, pos := "grammar.go:13", after := #[{ on := 4, ground := Ground.data }, { on := 2, ground := Ground.chain }, { on := 0, ground := Ground.phase }, { on := 1, ground := Ground.phase }, { on := 2, ground := Ground.phase }, { on := 3, ground := Ground.phase }, { on := 4, ground := Ground.phase }, { on := 5, ground := Ground.textOnly Departure.lateStores }, { on := 6, ground := Ground.textOnly Departure.lateStores }], guard := none }) (v := undef) rfl rfl (exec_storeP gB hm hn h1 rfl rfl rfl) (Or.inr ⟨rfl, rfl⟩) ?_
        simp only [Act.put]
        refine wpAnyS_one (i := 8) (by decide +kernel) ?_
        simp [wpOpS, go_sem, gq, gqz]
        refine wpAnyS_one (i := 9) (by decide +kernel) ?_
        simp [wpOpS, go_sem, gr, grz]
        refine wpAnyS_done (by decide +kernel) ?_ _
        exact ⟨rfl, _, rfl, .tuple #[], results_none (by rfl) _ _ _, rfl, rfl, w1, (Ext.refl w).drew.trans hx, rfl⟩
  · refine wpOpS_run (o := { dst := some 5, op := Op.load 27 (Operand.tmp 0), type := 27, pos := "grammar.go:13", after := #[], guard := none }) (v := .agg cs) rfl rfl (exec_loadP hd hm rfl rfl) (Or.inl rfl) ?_
    simp only [Act.put, List.setIfInBounds_toArray, List.set_cons_zero, List.set_cons_succ]
    refine wpAnyS_one (i := 0) (by decide +kernel) ?_
    simp [wpOpS, go_sem, recoverD, hu]
    refine wpAnyS_one (i := 2) (by decide +kernel) ?_
    simp [wpOpS, go_sem]
    refine (settleP_placed c k cs hc _).mono ?_
    rintro e w1 ⟨rfl, hx⟩
    have gB : Blk w1 b cs := hd.ext hx
    have gx := Exr.setRow w1 b zP
    have gq0 : w1.cell? ⟨b + 1, 0, none⟩ = some (.int .i64 y) := by rw [hx.cell (b + 1) 0 (by simpa using hb1)]; simpa using hq
    have gr0 : w1.cell? ⟨b + 2, 0, none⟩ = some (.int .i64 z) := by rw [hx.cell (b + 2) 0 (by simpa using hb2)]; simpa using hr
    have gqz0 : w1.frozen? ⟨b + 1, 0, none⟩ = false := by rw [hx.froz (b + 1) 0 (by simpa using hb1)]; simpa using hqz
    have grz0 : w1.frozen? ⟨b + 2, 0, none⟩ = false := by rw [hx.froz (b + 2) 0 (by simpa using hb2)]; simpa using hrz
    have gq := gx.cell_of (by omega) gq0
    have gr := gx.cell_of (by omega) gr0
    have gqz := (World.frozen?_of_block (a := ⟨b + 1, 0, none⟩) (gx.block (b + 1) (lt_of_cell gq0) (by omega))).trans gqz0
    have grz := (World.frozen?_of_block (a := ⟨b + 2, 0, none⟩) (gx.block (b + 2) (lt_of_cell gr0) (by omega))).trans grz0
    clear gq0 gr0 gqz0 grz0
    refine wpAnyS_one (i := 3) (by decide +kernel) ?_
    simp [wpOpS, go_sem]
    refine L7.wpAnyS_three (i := 4) (j := 5) (k := 6) (by decide +kernel) ?_ ?_ ?_
    · simp [wpOpS, go_sem]
      refine L7.wpAnyS_three (i := 5) (j := 6) (k := 7) (by decide +kernel) ?_ ?_ ?_
      · simp [wpOpS, go_sem]
        refine wpAnyS_two (i := 6) (j := 7) (by decide +kernel) ?_ ?_
        · simp [wpOpS, go_sem]
          refine wpAnyS_one (i := 7) (by decide +kernel) ?_
          refine wpOpS_run (o := { dst := none, op := Op.store 27 (Operand.tmp 0) (Operand.tmp 7), type := 0, pos := "grammar.go:13", after := #[{ on := 4, ground := Ground.data }, { on := 2, ground := Ground.chain }, { on := 0, ground := Ground.phase }, { on := 1, ground := Ground.phase }, { on := 2, ground := Ground.phase }, { on := 3, ground := Ground.phase }, { on := 4, ground := Ground.phase }, { on := 5, ground := Ground.textOnly Departure.lateStores }, { on := 6, ground := Ground.textOnly Departure.lateStores }], guard := none }) (v := undef) rfl rfl (exec_storeP gB hm hn h1 rfl rfl rfl) (Or.inr ⟨rfl, rfl⟩) ?_
          simp only [Act.put]
          refine wpAnyS_one (i := 8) (by decide +kernel) ?_
          simp [wpOpS, go_sem, gq, gqz]
          refine wpAnyS_one (i := 9) (by decide +kernel) ?_
          simp [wpOpS, go_sem, gr, grz]
          refine wpAnyS_done (by decide +kernel) ?_ _
          exact ⟨rfl, _, rfl, .tuple #[], results_none (by rfl) _ _ _, rfl, rfl, w1, (Ext.refl w).drew.trans hx, rfl⟩
        · refine wpOpS_run (o := { dst := none, op := Op.store 27 (Operand.tmp 0) (Operand.tmp 7), type := 0, pos := "grammar.go:13", after := #[{ on := 4, ground := Ground.data }, { on := 2, ground := Ground.chain }, { on := 0, ground := Ground.phase }, { on := 1, ground := Ground.phase }, { on := 2, ground := Ground.phase }, { on := 3, ground := Ground.phase }, { on := 4, ground := Ground.phase }, { on := 5, ground := Ground.textOnly Departure.lateStores }, { on := 6, ground := Ground.textOnly Departure.lateStores }], guard := none }) (v := undef) rfl rfl (exec_storeP gB hm hn h1 rfl rfl rfl) (Or.inr ⟨rfl, rfl⟩) ?_
          simp only [Act.put]
          refine wpAnyS_two (i := 6) (j := 8) (by decide +kernel) ?_ ?_
          · simp [wpOpS, go_sem]
            refine wpAnyS_one (i := 8) (by decide +kernel) ?_
            simp [wpOpS, go_sem, gq, gqz]
            refine wpAnyS_one (i := 9) (by decide +kernel) ?_
            simp [wpOpS, go_sem, gr, grz]
            refine wpAnyS_done (by decide +kernel) ?_ _
            exact ⟨rfl, _, rfl, .tuple #[], results_none (by rfl) _ _ _, rfl, rfl, w1, (Ext.refl w).drew.trans hx, rfl⟩
          · simp [wpOpS, go_sem, gq, gqz]
            refine wpAnyS_one (i := 6) (by decide +kernel) ?_
            simp [wpOpS, go_sem]
            refine wpAnyS_one (i := 9) (by decide +kernel) ?_
            simp [wpOpS, go_sem, gr, grz]
            refine wpAnyS_done (by decide +kernel) ?_ _
            exact ⟨rfl, _, rfl, .tuple #[], results_none (by rfl) _ _ _, rfl, rfl, w1, (Ext.refl w).drew.trans hx, rfl⟩
      · simp [wpOpS, go_sem]
        refine wpAnyS_two (i := 5) (j := 7) (by decide +kernel) ?_ ?_
        · simp [wpOpS, go_sem]
          refine wpAnyS_one (i := 7) (by decide +kernel) ?_
          refine wpOpS_run (o := { dst := none, op := Op.store 27 (Operand.tmp 0) (Operand.tmp 7), type := 0, pos := "grammar.go:13", after := #[{ on := 4, ground := Ground.data }, { on := 2, ground := Ground.chain }, { on := 0, ground := Ground.phase }, { on := 1, ground := Ground.phase }, { on := 2, ground := Ground.phase }, { on := 3, ground := Ground.phase }, { on := 4, ground := Ground.phase }, { on := 5, ground := Ground.textOnly Departure.lateStores }, { on := 6, ground := Ground.textOnly Departure.lateStores }], guard := none }) (v := undef) rfl rfl (exec_storeP gB hm hn h1 rfl rfl rfl) (Or.inr ⟨rfl, rfl⟩) ?_
          simp only [Act.put]
          refine wpAnyS_one (i := 8) (by decide +kernel) ?_
          simp [wpOpS, go_sem, gq, gqz]
          refine wpAnyS_one (i := 9) (by decide +kernel) ?_
          simp [wpOpS, go_sem, gr, grz]
          refine wpAnyS_done (by decide +kernel) ?_ _
          exact ⟨rfl, _, rfl, .tuple #[], results_none (by rfl) _ _ _, rfl, rfl, w1, (Ext.refl w).drew.trans hx, rfl⟩
        · refine wpOpS_run (o := { dst := none, op := Op.store 27 (Operand.tmp 0) (Operand.tmp 7), type := 0, pos := "grammar.go:13", after := #[{ on := 4, ground := Ground.data }, { on := 2, ground := Ground.chain }, { on := 0, ground := Ground.phase }, { on := 1, ground := Ground.phase }, { on := 2, ground := Ground.phase }, { on := 3, ground := Ground.phase }, { on := 4, ground := Ground.phase }, { on := 5, ground := Ground.textOnly Departure.lateStores }, { on := 6, ground := Ground.textOnly Departure.lateStores }], guard := none }) (v := undef) rfl rfl (exec_storeP gB hm hn h1 rfl rfl rfl) (Or.inr ⟨rfl, rfl⟩) ?_
          simp only [Act.put]
          refine wpAnyS_one (i := 5) (by decide +kernel) ?_
          simp [wpOpS, go_sem]
          refine wpAnyS_one (i := 8) (by decide +kernel) ?_
          simp [wpOpS, go_sem, gq, gqz]
          refine wpAnyS_one (i := 9) (by decide +kernel) ?_
          simp [wpOpS, go_sem, gr, grz]
          refine wpAnyS_done (by decide +kernel) ?_ _
          exact ⟨rfl, _, rfl, .tuple #[], results_none (by rfl) _ _ _, rfl, rfl, w1, (Ext.refl w).drew.trans hx, rfl⟩
      · refine wpOpS_run (o := { dst := none, op := Op.store 27 (Operand.tmp 0) (Operand.tmp 7), type := 0, pos := "grammar.go:13", after := #[{ on := 4, ground := Ground.data }, { on := 2, ground := Ground.chain }, { on := 0, ground := Ground.phase }, { on := 1, ground := Ground.phase }, { on := 2, ground := Ground.phase }, { on := 3, ground := Ground.phase }, { on := 4, ground := Ground.phase }, { on := 5, ground := Ground.textOnly Departure.lateStores }, { on := 6, ground := Ground.textOnly Departure.lateStores }], guard := none }) (v := undef) rfl rfl (exec_storeP gB hm hn h1 rfl rfl rfl) (Or.inr ⟨rfl, rfl⟩) ?_
        simp only [Act.put]
        refine wpAnyS_two (i := 5) (j := 6) (by decide +kernel) ?_ ?_
        · simp [wpOpS, go_sem]
          refine wpAnyS_two (i := 6) (j := 8) (by decide +kernel) ?_ ?_
          · simp [wpOpS, go_sem]
            refine wpAnyS_one (i := 8) (by decide +kernel) ?_
            simp [wpOpS, go_sem, gq, gqz]
            refine wpAnyS_one (i := 9) (by decide +kernel) ?_
            simp [wpOpS, go_sem, gr, grz]
            refine wpAnyS_done (by decide +kernel) ?_ _
            exact ⟨rfl, _, rfl, .tuple #[], results_none (by rfl) _ _ _, rfl, rfl, w1, (Ext.refl w).drew.trans hx, rfl⟩
          · simp [wpOpS, go_sem, gq, gqz]
            refine wpAnyS_one (i := 6) (by decide +kernel) ?_
            simp [wpOpS, go_sem]
            refine wpAnyS_one (i := 9) (by decide +kernel) ?_
            simp [wpOpS, go_sem, gr, grz]
            refine wpAnyS_done (by decide +kernel) ?_ _
            exact ⟨rfl, _, rfl, .tuple #[], results_none (by rfl) _ _ _, rfl, rfl, w1, (Ext.refl w).drew.trans hx, rfl⟩
        · simp [wpOpS, go_sem]
          refine wpAnyS_one (i := 5) (by decide +kernel) ?_
          simp [wpOpS, go_sem]
          refine wpAnyS_one (i := 8) (by decide +kernel) ?_
          simp [wpOpS, go_sem, gq, gqz]
          refine wpAnyS_one (i := 9) (by decide +kernel) ?_
          simp [wpOpS, go_sem, gr, grz]
          refine wpAnyS_done (by decide +kernel) ?_ _
          exact ⟨rfl, _, rfl, .tuple #[], results_none (by rfl) _ _ _, rfl, rfl, w1, (Ext.refl w).drew.trans hx, rfl⟩
    · simp [wpOpS, go_sem]
      refine wpAnyS_two (i := 4) (j := 6) (by decide +kernel) ?_ ?_
      · simp [wpOpS, go_sem]
        refine wpAnyS_two (i := 6) (j := 7) (by decide +kernel) ?_ ?_
        · simp [wpOpS, go_sem]
          refine wpAnyS_one (i := 7) (by decide +kernel) ?_
          refine wpOpS_run (o := { dst := none, op := Op.store 27 (Operand.tmp 0) (Operand.tmp 7), type := 0, pos := "grammar.go:13", after := #[{ on := 4, ground := Ground.data }, { on := 2, ground := Ground.chain }, { on := 0, ground := Ground.phase }, { on := 1, ground := Ground.phase }, { on := 2, ground := Ground.phase }, { on := 3, ground := Ground.phase }, { on := 4, ground := Ground.phase }, { on := 5, ground := Ground.textOnly Departure.lateStores }, { on := 6, ground := Ground.textOnly Departure.lateStores }], guard := none }) (v := undef) rfl rfl (exec_storeP gB hm hn h1 rfl rfl rfl) (Or.inr ⟨rfl, rfl⟩) ?_
          simp only [Act.put]
          refine wpAnyS_one (i := 8) (by decide +kernel) ?_
          simp [wpOpS, go_sem, gq, gqz]
          refine wpAnyS_one (i := 9) (by decide +kernel) ?_
          simp [wpOpS, go_sem, gr, grz]
          refine wpAnyS_done (by decide +kernel) ?_ _
          exact ⟨rfl, _, rfl, .tuple #[], results_none (by rfl) _ _ _, rfl, rfl, w1, (Ext.refl w).drew.trans hx, rfl⟩
        · refine wpOpS_run (o := { dst := none, op := Op.store 27 (Operand.tmp 0) (Operand.tmp 7), type := 0, pos := "grammar.go:13", after := #[{ on := 4, ground := Ground.data }, { on := 2, ground := Ground.chain }, { on := 0, ground := Ground.phase }, { on := 1, ground := Ground.phase }, { on := 2, ground := Ground.phase }, { on := 3, ground := Ground.phase }, { on := 4, ground := Ground.phase }, { on := 5, ground := Ground.textOnly Departure.lateStores }, { on := 6, ground := Ground.textOnly Departure.lateStores }], guard := none }) (v := undef) rfl rfl (exec_storeP gB hm hn h1 rfl rfl rfl) (Or.inr ⟨rfl, rfl⟩) ?_
          simp only [Act.put]
          refine wpAnyS_two (i := 6) (j := 8) (by decide +kernel) ?_ ?_
          · simp [wpOpS, go_sem]
            refine wpAnyS_one (i := 8) (by decide +kernel) ?_
            simp [wpOpS, go_sem, gq, gqz]
            refine wpAnyS_one (i := 9) (by decide +kernel) ?_
            simp [wpOpS, go_sem, gr, grz]
            refine wpAnyS_done (by decide +kernel) ?_ _
            exact ⟨rfl, _, rfl, .tuple #[], results_none (by rfl) _ _ _, rfl, rfl, w1, (Ext.refl w).drew.trans hx, rfl⟩
          · simp [wpOpS, go_sem, gq, gqz]
            refine wpAnyS_one (i := 6) (by decide +kernel) ?_
            simp [wpOpS, go_sem]
            refine wpAnyS_one (i := 9) (by decide +kernel) ?_
            simp [wpOpS, go_sem, gr, grz]
            refine wpAnyS_done (by decide +kernel) ?_ _
            exact ⟨rfl, _, rfl, .tuple #[], results_none (by rfl) _ _ _, rfl, rfl, w1, (Ext.refl w).drew.trans hx, rfl⟩
      · simp [wpOpS, go_sem]
        refine wpAnyS_one (i := 4) (by decide +kernel) ?_
        simp [wpOpS, go_sem]
        refine wpAnyS_one (i := 7) (by decide +kernel) ?_
        refine wpOpS_run (o := { dst := none, op := Op.store 27 (Operand.tmp 0) (Operand.tmp 7), type := 0, pos := "grammar.go:13", after := #[{ on := 4, ground := Ground.data }, { on := 2, ground := Ground.chain }, { on := 0, ground := Ground.phase }, { on := 1, ground := Ground.phase }, { on := 2, ground := Ground.phase }, { on := 3, ground := Ground.phase }, { on := 4, ground := Ground.phase }, { on := 5, ground := Ground.textOnly Departure.lateStores }, { on := 6, ground := Ground.textOnly Departure.lateStores }], guard := none }) (v := undef) rfl rfl (exec_storeP gB hm hn h1 rfl rfl rfl) (Or.inr ⟨rfl, rfl⟩) ?_
        simp only [Act.put]
        refine wpAnyS_one (i := 8) (by decide +kernel) ?_
        simp [wpOpS, go_sem, gq, gqz]
        refine wpAnyS_one (i := 9) (by decide +kernel) ?_
        simp [wpOpS, go_sem, gr, grz]
        refine wpAnyS_done (by decide +kernel) ?_ _
        exact ⟨rfl, _, rfl, .tuple #[], results_none (by rfl) _ _ _, rfl, rfl, w1, (Ext.refl w).drew.trans hx, rfl⟩
    · simp [wpOpS, go_sem]
      refine wpAnyS_two (i := 4) (j := 5) (by decide +kernel) ?_ ?_
      · simp [wpOpS, go_sem]
        refine wpAnyS_two (i := 5) (j := 7) (by decide +kernel) ?_ ?_
        · simp [wpOpS, go_sem]
          refine wpAnyS_one (i := 7) (by decide +kernel) ?_
          refine wpOpS_run (o := { dst := none, op := Op.store 27 (Operand.tmp 0) (Operand.tmp 7), type := 0, pos := "grammar.go:13", after := #[{ on := 4, ground := Ground.data }, { on := 2, ground := Ground.chain }, { on := 0, ground := Ground.phase }, { on := 1, ground := Ground.phase }, { on := 2, ground := Ground.phase }, { on := 3, ground := Ground.phase }, { on := 4, ground := Ground.phase }, { on := 5, ground := Ground.textOnly Departure.lateStores }, { on := 6, ground := Ground.textOnly Departure.lateStores }], guard := none }) (v := undef) rfl rfl (exec_storeP gB hm hn h1 rfl rfl rfl) (Or.inr ⟨rfl, rfl⟩) ?_
          simp only [Act.put]
          refine wpAnyS_one (i := 8) (by decide +kernel) ?_
          simp [wpOpS, go_sem, gq, gqz]
          refine wpAnyS_one (i := 9) (by decide +kernel) ?_
          simp [wpOpS, go_sem, gr, grz]
          refine wpAnyS_done (by decide +kernel) ?_ _
          exact ⟨rfl, _, rfl, .tuple #[], results_none (by rfl) _ _ _, rfl, rfl, w1, (Ext.refl w).drew.trans hx, rfl⟩
        · refine wpOpS_run (o := { dst := none, op := Op.store 27 (Operand.tmp 0) (Operand.tmp 7), type := 0, pos := "grammar.go:13", after := #[{ on := 4, ground := Ground.data }, { on := 2, ground := Ground.chain }, { on := 0, ground := Ground.phase }, { on := 1, ground := Ground.phase }, { on := 2, ground := Ground.phase }, { on := 3, ground := Ground.phase }, { on := 4, ground := Ground.phase }, { on := 5, ground := Ground.textOnly Departure.lateStores }, { on := 6, ground := Ground.textOnly Departure.lateStores }], guard := none }) (v := undef) rfl rfl (exec_storeP gB hm hn h1 rfl rfl rfl) (Or.inr ⟨rfl, rfl⟩) ?_
          simp only [Act.put]
          refine wpAnyS_one (i := 5) (by decide +kernel) ?_
          simp [wpOpS, go_sem]
          refine wpAnyS_one (i := 8) (by decide +kernel) ?_
          simp [wpOpS, go_sem, gq, gqz]
          refine wpAnyS_one (i := 9) (by decide +kernel) ?_
          simp [wpOpS, go_sem, gr, grz]
          refine wpAnyS_done (by decide +kernel) ?_ _
          exact ⟨rfl, _, rfl, .tuple #[], results_none (by rfl) _ _ _, rfl, rfl, w1, (Ext.refl w).drew.trans hx, rfl⟩
      · simp [wpOpS, go_sem]
        refine wpAnyS_one (i := 4) (by decide +kernel) ?_
        simp [wpOpS, go_sem]
        refine wpAnyS_one (i := 7) (by decide +kernel) ?_
        refine wpOpS_run (o := { dst := none, op := Op.store 27 (Operand.tmp 0) (Operand.tmp 7), type := 0, pos := "grammar.go:13", after := #[{ on := 4, ground := Ground.data }, { on := 2, ground := Ground.chain }, { on := 0, ground := Ground.phase }, { on := 1, ground := Ground.phase }, { on := 2, ground := Ground.phase }, { on := 3, ground := Ground.phase }, { on := 4, ground := Ground.phase }, { on := 5, ground := Ground.textOnly Departure.lateStores }, { on := 6, ground := Ground.textOnly Departure.lateStores }], guard := none }) (v := undef) rfl rfl (exec_storeP gB hm hn h1 rfl rfl rfl) (Or.inr ⟨rfl, rfl⟩) ?_
        simp only [Act.put]
        refine wpAnyS_one (i := 8) (by decide +kernel) ?_
        simp [wpOpS, go_sem, gq, gqz]
        refine wpAnyS_one (i := 9) (by decide +kernel) ?_
        simp [wpOpS, go_sem, gr, grz]
        refine wpAnyS_done (by decide +kernel) ?_ _
        exact ⟨rfl, _, rfl, .tuple #[], results_none (by rfl) _ _ _, rfl, rfl, w1, (Ext.refl w).drew.trans hx, rfl⟩
end Go.Proofs.YtbnpaeejlfaboaaGreatDoor

namespace Go.Proofs.YtbnpaeejlfaboaaGreatDoor
open Go.RowKit Go.Lib
set_option linter.unusedVariables false
/-- What Parse has deferred. -/
def dfr (Z : Nat) : List Deferred := [{ target := .fn (.func 21) #[.pointer (some ⟨Z, 0, none⟩), .pointer (some ⟨Z + 1, 0, none⟩), .pointer (some ⟨Z + 2, 0, none⟩)], args := #[] }]
/-- The world of the face: its three results' blocks, and all that was there. -/
structure Fac (w W : World) (cs : Array Value) (y z : Int) : Prop where
  p : Blk W w.heap.size cs
  q : W.cell? ⟨w.heap.size + 1, 0, none⟩ = some (.int .i64 y)
  r : W.cell? ⟨w.heap.size + 2, 0, none⟩ = some (.int .i64 z)
  qz : W.frozen? ⟨w.heap.size + 1, 0, none⟩ = false
  rz : W.frozen? ⟨w.heap.size + 2, 0, none⟩ = false
  ext : Ext w W
theorem froz_exr {g : Nat} {w w' : World} {b o : Nat} {v : Value} (hx : Exr g w w') (hb : b ≠ g) (h : w.cell? ⟨b, o, none⟩ = some v) (hz : w.frozen? ⟨b, o, none⟩ = false) : w'.frozen? ⟨b, o, none⟩ = false :=
  (World.frozen?_of_block (a := ⟨b, o, none⟩) (hx.block b (lt_of_cell h) hb)).trans hz
theorem Fac.begin (w : World) (s r : TypeId) : Fac w (((w.alloc (.cells zP 27)).alloc (.cells #[.int .i64 0] s)).alloc (.cells #[.int .i64 0] r)) zP 0 0 := by
  have h : Blk (w.alloc (.cells zP 27)) w.heap.size zP := heap_alloc_last w _
  exact ⟨h.ext (((Ext.refl _).alloc _ _).alloc _ _), by simp [go_sem], by simp [go_sem], by simp [go_sem], by simp [go_sem], (((Ext.refl w).alloc _ _).alloc _ _).alloc _ _⟩
theorem Fac.on {w W W' : World} {cs : Array Value} {y z : Int} (h : Fac w W cs y z) (hx : Ext W W') : Fac w W' cs y z :=
  ⟨h.p.ext hx, hx.cell_of h.q, hx.cell_of h.r, by rw [hx.froz _ _ (lt_of_cell h.q)]; exact h.qz, by rw [hx.froz _ _ (lt_of_cell h.r)]; exact h.rz, h.ext.trans hx⟩
theorem Fac.row {w W W' : World} {cs cs' : Array Value} {y z : Int} (h : Fac w W cs y z) (hp : Blk W' w.heap.size cs') (hx : Exr w.heap.size W W') : Fac w W' cs' y z :=
  ⟨hp, hx.cell_of (by omega) h.q, hx.cell_of (by omega) h.r, froz_exr hx (by omega) h.q h.qz, froz_exr hx (by omega) h.r h.rz, hx.ext h.ext (Nat.le_refl _)⟩
theorem Fac.set2 {w W : World} {cs : Array Value} {y z : Int} (h : Fac w W cs y z) (x : Int) : Fac w (W.setCell ⟨w.heap.size + 1, 0, none⟩ (.int .i64 x)) cs x z :=
  ⟨(heap_setCell_other _ _ _ _ (by show w.heap.size ≠ w.heap.size + 1; omega)).trans h.p, L8.same h.q, by rw [L8.other _ (Or.inl (by omega))]; exact h.r, by simp [go_sem, h.qz], by simp [go_sem, h.rz], h.ext.setCell (by show w.heap.size ≤ w.heap.size + 1; omega) _⟩
theorem Fac.set3 {w W : World} {cs : Array Value} {y z : Int} (h : Fac w W cs y z) (x : Int) : Fac w (W.setCell ⟨w.heap.size + 2, 0, none⟩ (.int .i64 x)) cs y x :=
  ⟨(heap_setCell_other _ _ _ _ (by show w.heap.size ≠ w.heap.size + 2; omega)).trans h.p, by rw [L8.other _ (Or.inl (by omega))]; exact h.q, L8.same h.r, by simp [go_sem, h.qz], by simp [go_sem, h.rz], h.ext.setCell (by show w.heap.size ≤ w.heap.size + 2; omega) _⟩
theorem resultsF {tmps : Array Value} {w W : World} {cs : Array Value} {y z : Int} (hf : Fac w W cs y z) (hn : cs.size = 19) (h1 : tmps[2]? = some (.pointer (some ⟨w.heap.size, 0, none⟩))) (h2 : tmps[3]? = some (.pointer (some ⟨w.heap.size + 1, 0, none⟩))) (h3 : tmps[4]? = some (.pointer (some ⟨w.heap.size + 2, 0, none⟩))) :
    (results Tryz.f7 tmps).run Tryz.prog W = .ok (.tuple #[.agg cs, .int .i64 y, .int .i64 z]) W := by
  have hl := run_loadVar_row (P := Tryz.prog) W w.heap.size 27 27 cs (0, 0) _ hf.p Tryz.underlying27 rfl (by rw [hn]; kernel_rfl)
  simp [results, Tryz.results7, h1, h2, h3, asAddr, hl]
  simp [go_sem, hf.q, hf.r]
/-- What Parse answers. -/
def Ans (w : World) (X : Res Prd) (e : Ending) (w' : World) : Prop :=
  Ext w w' ∧ match X with
    | .ok p => ∃ vr vl vh, e = .returned (.tuple #[.agg (pcells p vr vl vh), .int .i64 0, .int .i64 0]) ∧ Lsts w w' p vr vl vh
    | .no x y => e = .returned (.tuple #[.agg zP, .int .i64 y, .int .i64 x])
theorem cells_at : ∀ (ts : List Tok) (i : Nat) (t : Tok), ts[i]? = some t → (L7.cellsT ts)[i * 3]? = some (.int .i64 t.kind) ∧ (L7.cellsT ts)[i * 3 + 1]? = some (.int .i64 t.at_) ∧ (L7.cellsT ts)[i * 3 + 2]? = some (.string ⟨t.text.toArray⟩)
  | [], i, t, h => by simp at h
  | u :: ts, 0, t, h => by
    obtain rfl : u = t := by simpa using h
    exact ⟨rfl, rfl, rfl⟩
  | u :: ts, i + 1, t, h => by
    have ih := cells_at ts i t (by simpa using h)
    have e : (i + 1) * 3 = i * 3 + 3 := by omega
    rw [e]
    exact ih
theorem flat_of {cs : Array Value} (hn : cs.size = 19) (h1 : cs.all (·.oneCell') = true) : Flat cs := ⟨hn, h1, fun w => by
  simp [Instr.box, newVar, go_sem]⟩
theorem leave_idle (w W : World) (tm : Array Value) (p : Prd) (vr vl vh : Value) (B : Nat) (y z : Int) (h1 : tm[2]? = some (.pointer (some ⟨w.heap.size, 0, none⟩))) (h2 : tm[3]? = some (.pointer (some ⟨w.heap.size + 1, 0, none⟩))) (h3 : tm[4]? = some (.pointer (some ⟨w.heap.size + 2, 0, none⟩))) (hf : Fac w W (pcells p vr vl vh) y z) (w0 : World) (hB : w.heap.size + 2 < w0.heap.size) (hL : Lsts w0 W p vr vl vh) :
    Leaves Tryz.prog Tryz.f7 tm (fun e w' => Ans w (.ok p) e w') (dfr w.heap.size) .returning W := by
  refine leaves_cons (f := 21) (args := #[.pointer (some ⟨w.heap.size, 0, none⟩), .pointer (some ⟨w.heap.size + 1, 0, none⟩), .pointer (some ⟨w.heap.size + 2, 0, none⟩)]) (by simp) (by simp [go_sem]) ?_
  have hfl : Flat (pcells p vr vl vh) := flat_of rfl (pcells_one hL.sr hL.sl hL.sh)
  refine (parse_idle w.heap.size _ hfl y z _ hf.p hf.q hf.r hf.qz hf.rz).mono ?_
  rintro e u' w'' ⟨rfl, rfl, w2, hy, rfl⟩
  have hf2 := hf.on hy
  have hx := Exr.setRow w2 w.heap.size (pcells p vr vl vh)
  have hg := ((hf2.row (setRow_heap w2 _ _ _ _ _ hf2.p) hx).set2 0).set3 0
  have hL2 := hL.ext hy
  have hk : ∀ (g : Nat), w0.heap.size ≤ g → (((w2.setRow w.heap.size (pcells p vr vl vh)).setCell ⟨w.heap.size + 1, 0, none⟩ (.int .i64 0)).setCell ⟨w.heap.size + 2, 0, none⟩ (.int .i64 0)).heap[g]? = w2.heap[g]? := fun g hg => by
    rw [heap_setCell_other _ _ _ _ (by show g ≠ w.heap.size + 2; omega), heap_setCell_other _ _ _ _ (by show g ≠ w.heap.size + 1; omega)]
    unfold World.setRow
    simp only []
    rw [Array.getElem?_modify, if_neg (by omega)]
  have own : ∀ {e : TypeId} {z n : Nat} {v : Value} {xs : List Value}, w2.ownsRow w0.heap.size e z v n xs → (((w2.setRow w.heap.size (pcells p vr vl vh)).setCell ⟨w.heap.size + 1, 0, none⟩ (.int .i64 0)).setCell ⟨w.heap.size + 2, 0, none⟩ (.int .i64 0)).ownsRow w.heap.size e z v n xs := by
    intro e z n v xs h
    refine ⟨h.1, ?_⟩
    rcases h.2 with h0 | ⟨g, c, cur, a1, a2, a3, a4⟩
    · exact Or.inl h0
    · exact Or.inr ⟨g, c, cur, a1, by omega, (hk g a2).trans a3, a4⟩
  have hl3 : Lsts w (((w2.setRow w.heap.size (pcells p vr vl vh)).setCell ⟨w.heap.size + 1, 0, none⟩ (.int .i64 0)).setCell ⟨w.heap.size + 2, 0, none⟩ (.int .i64 0)) p vr vl vh := ⟨own hL2.sr, own hL2.sl, own hL2.sh⟩
  generalize ((w2.setRow w.heap.size (pcells p vr vl vh)).setCell ⟨w.heap.size + 1, 0, none⟩ (.int .i64 0)).setCell ⟨w.heap.size + 2, 0, none⟩ (.int .i64 0) = Wf at *
  have hres := resultsF hg rfl h1 h2 h3
  simp [Leaves, settle, hres]
  exact ⟨hg.ext, vr, vl, vh, rfl, hl3⟩
theorem leave_placed (w W : World) (tm : Array Value) (x k : Nat) (y z : Int) (h1 : tm[2]? = some (.pointer (some ⟨w.heap.size, 0, none⟩))) (h2 : tm[3]? = some (.pointer (some ⟨w.heap.size + 1, 0, none⟩))) (h3 : tm[4]? = some (.pointer (some ⟨w.heap.size + 2, 0, none⟩))) (hf : Fac w W zP y z) :
    Leaves Tryz.prog Tryz.f7 tm (fun e w' => Ans w (.no x k) e w') (dfr w.heap.size) (.panicking [{ v := .iface 85 (.agg #[.int .i64 x, .int .i64 k]), recovered := false }]) W := by
  refine leaves_cons (f := 21) (args := #[.pointer (some ⟨w.heap.size, 0, none⟩), .pointer (some ⟨w.heap.size + 1, 0, none⟩), .pointer (some ⟨w.heap.size + 2, 0, none⟩)]) (by simp) (by simp [go_sem]) ?_
  refine (parse_placed w.heap.size zP (flat_of zP_ok.1 zP_ok.2) x k [] y z _ hf.p hf.q hf.r hf.qz hf.rz).mono ?_
  rintro e u' w'' ⟨rfl, rfl, w2, hy, rfl⟩
  have hf2 := hf.on hy
  have hx := Exr.setRow w2 w.heap.size zP
  have hg := ((hf2.row (setRow_heap w2 _ _ _ _ _ hf2.p) hx).set2 k).set3 x
  generalize ((w2.setRow w.heap.size zP).setCell ⟨w.heap.size + 1, 0, none⟩ (.int .i64 k)).setCell ⟨w.heap.size + 2, 0, none⟩ (.int .i64 x) = Wf at *
  have hres := resultsF hg zP_ok.1 h1 h2 h3
  simp [Leaves, settle, hres]
  exact ⟨hg.ext, rfl⟩
theorem lexF_len : ∀ (f p : Nat) (l : List UInt8), (L7.lexF f p l).1.length ≤ l.length ∧ ∀ t ∈ (L7.lexF f p l).1, t.text.length ≤ l.length
  | 0, p, l => by simp [L7.lexF]
  | f + 1, p, l => by
    rw [L7.lexF]
    have hd : (l.drop (L7.wh false l)).length ≤ l.length := by simp
    cases hm : l.drop (L7.wh false l) with
    | nil => simp
    | cons c m =>
      simp only []
      rw [hm] at hd
      split
      · simp
      · rename_i hs
        obtain ⟨h1, h2⟩ := lexF_len f (p + L7.wh false l + L7.sz (c :: m)) ((c :: m).drop (L7.sz (c :: m)))
        have hz := L7.sz_le (c :: m)
        rw [List.length_drop] at h1 h2
        refine ⟨?_, fun t ht => ?_⟩
        · simp only [List.length_cons] at h1 hd hz ⊢
          omega
        · rcases List.mem_cons.1 ht with rfl | ht
          · show ((c :: m).take _).length ≤ _
            rw [List.length_take]; omega
          · have := h2 t ht
            omega
theorem fine_of {l : List UInt8} (h : L7.aE l = 0) (p : Prd) (hp : p.rs.length + p.lt.length + p.hd.length = 0) (hd : Nat → Bool) : Fine ⟨L7.aT l, p, hd⟩ := by
  have hl : l.length ≤ 20000 := by
    by_cases hl : 20000 < l.length
    · unfold L7.aE at h; rw [if_pos hl] at h; cases h
    · omega
  have ho : (L7.lex 0 l).2 = none := by
    unfold L7.aE at h
    rw [if_neg (by omega)] at h
    cases hq : (L7.lex 0 l).2 with
    | none => rfl
    | some q => rw [hq] at h; cases h
  have e : L7.aT l = (L7.lex 0 l).1 ++ [⟨0, l.length, []⟩] := by unfold L7.aT; rw [if_neg (by omega), ho]
  obtain ⟨h1, h2⟩ := lexF_len (l.length + 1) 0 l
  refine ⟨⟨_, _, e, rfl⟩, fun t ht => ?_, ?_⟩
  · have ht' : t ∈ (L7.lex 0 l).1 ++ [⟨0, l.length, []⟩] := e ▸ ht
    rcases List.mem_append.1 ht' with ht' | ht'
    · have := h2 t ht'; omega
    · obtain rfl : t = ⟨0, l.length, []⟩ := by simpa using ht'
      simp
  · show (L7.aT l).length + p.rs.length + p.lt.length + p.hd.length ≤ 20010
    rw [e, List.length_append]
    have h1' : (L7.lex 0 l).1.length ≤ l.length := h1
    simp only [List.length_cons, List.length_nil]
    omega
theorem tks_own {w : World} {B : Nat} {v : Value} {ts : List Tok} (h : L7.Own B w v ts) : Tks w v ts := by
  have h' := h
  rcases h'.row.2 with ⟨rfl, h0⟩ | ⟨g, c, cur, rfl, _, _, hle, _⟩
  · obtain rfl := List.eq_nil_of_length_eq_zero h0
    exact ⟨none, 0, rfl, Nat.le_refl _, fun h => absurd rfl h⟩
  · refine ⟨some ⟨g, 0, none⟩, c, rfl, hle, fun _ => ⟨g, 0, rfl, fun k t hk => ?_⟩⟩
    have hc := h.row.cells (g := g) rfl
    obtain ⟨a1, a2, a3⟩ := cells_at ts k t hk
    have b1 := hc _ _ a1
    have b2 := hc _ _ a2
    have b3 := hc _ _ a3
    rw [Addr.add_mid] at b1 b2 b3
    exact ⟨b1, by simpa [Nat.add_assoc] using b2, by simpa [Nat.add_assoc] using b3⟩
theorem Lsts.low {w0 w w' : World} {p : Prd} {vr vl vh : Value} (h : Lsts w0 w p vr vl vh) (hk : ∀ g, w0.heap.size ≤ g → g < w.heap.size → w'.heap[g]? = w.heap[g]?) : Lsts w0 w' p vr vl vh := by
  have own : ∀ {e : TypeId} {z n : Nat} {v : Value} {xs : List Value}, w.ownsRow w0.heap.size e z v n xs → w'.ownsRow w0.heap.size e z v n xs := by
    intro e z n v xs h
    refine ⟨h.1, ?_⟩
    rcases h.2 with h0 | ⟨g, c, cur, a1, a2, a3, a4⟩
    · exact Or.inl h0
    · exact Or.inr ⟨g, c, cur, a1, a2, (hk g a2 (Array.getElem?_eq_some_iff.1 a3).1).trans a3, a4⟩
  exact ⟨own h.sr, own h.sl, own h.sh⟩
theorem layF (w : World) : ∃ W1 W2 W3, w.alloc (.cells #[.string ⟨#[]⟩, .int .i64 0, .int .i64 0, .int .i64 0, .int .i64 0, .int .i64 0, .int .i64 0, .int .i64 0, .slice none 0 0, .int .i64 0, .int .i64 0, .int .i64 0, .int .i64 0, .int .i64 0, .int .i64 0, .slice none 0 0, .int .i64 0, .int .i64 0, .slice none 0 0] 27) = W1 ∧ W1.heap.size = w.heap.size + 1 ∧ W1.alloc (.cells #[.int .i64 0] 3) = W2 ∧ W2.heap.size = w.heap.size + 2 ∧ W2.alloc (.cells #[.int .i64 0] 29) = W3 ∧ Fac w W3 zP 0 0 :=
  ⟨_, _, _, rfl, by simp, rfl, by simp, rfl, Fac.begin w _ _⟩
set_option maxRecDepth 100000 in
set_option maxHeartbeats 2000000 in
theorem Parse_c (l : List UInt8) (w : World) (hm : l.length ≤ 9223372036854775807) (he : Hid (Env w)) :
    Calls Tryz.prog 7 #[.string ⟨l.toArray⟩] w fun e w' => Ans w (prs l) e w' := by
  have hmf := L7.make_func
  obtain ⟨W1, W2, W3, hW1, hs1, hW2, hs2, hW3, hF⟩ := layF w
  have he3 : Hid (L7.Env W3) := (he.out.ext hF.ext).seven
  replace hF := show Hid _ from hF
  go_enter_defers Tryz.func7, Tryz.ntmps7
  go_wp2_with fail
  refine (L7.All_c l _ hm he3).mono ?_
  rintro e w4 ⟨⟨v, rfl, hown⟩, hx⟩
  replace hF := show Hid _ from hF.out.on hx
  have hlt : Hid (w.heap.size + 2 < w4.heap.size) := lt_of_cell hF.out.r
  clear hW1 hs1 hW2 hs2 hW3 he3
  by_cases hE : L7.aE l = 0
  case neg =>
    have hp : prs l = .no (L7.aE l) (L7.aP l) := by unfold prs; rw [if_neg hE]
    have hd : ((L7.aE l : Int) == 0) = false := by simp [hE]
    replace hp := show Hid _ from hp
    obtain ⟨ao, n, cc, rfl⟩ := hown.slc
    clear hown hx
    go_wp2_with fail
    refine (L7.needAt_no _ _ _).mono ?_
    rintro e w5 ⟨rfl, rfl⟩
    go_wp2
    rw [hp.out]
    refine leave_placed w _ _ _ _ 0 0 ?_ ?_ ?_ hF.out
    · rfl
    · rfl
    · rfl
  have hp : prs l = textR (L7.aT l) := by unfold prs; rw [if_pos hE]
  have hd : ((L7.aE l : Int) == 0) = true := by simp [hE]
  have hfi := fine_of hE prd0 rfl had0
  have htk := tks_own hown
  have he4 : Hid (Env w4) := he.out.ext hF.out.ext
  obtain ⟨t0, ts, hts, _, _⟩ := hfi.cons
  have hts' : L7.aT l = t0 :: ts := hts
  obtain ⟨ao, n, cc, rfl⟩ := hown.slc
  rw [hts'] at hp hfi htk
  replace hp := show Hid _ from hp
  replace hfi := show Hid _ from hfi
  replace htk := show Hid (Tks _ _ _) from htk
  replace hE := show Hid _ from hE
  clear hown hx hts hts'
  go_wp2_with fail
  refine (L7.needAt_ok _ _ _).mono ?_
  rintro e w5 ⟨rfl, rfl⟩
  go_wp2_with fail
  refine (newReader_c _ (t0 :: ts) _ htk.out).mono ?_
  rintro e w6 ⟨r, c, rfl, hI⟩
  replace hI := show Hid _ from hI
  go_wp2_with fail
  refine (text_c _ _ _ r c t0 ts he4 hfi.out hI.out).mono ?_
  rintro e w7 hT
  cases hR : textR (t0 :: ts) with
  | no x y =>
    have hT2 : Ext w5 w7 ∧ e = thrown x y := by have := hT; unfold Txt at this; rw [hR] at this; exact this
    obtain ⟨hx7, rfl⟩ := hT2
    replace hF := show Hid _ from hF.out.on hx7
    replace hR := show Hid _ from hR
    clear hT hx7
    unfold thrown
    go_wp2
    rw [hp.out, hR.out]
    refine leave_placed w _ _ _ _ 0 0 ?_ ?_ ?_ hF.out
    · rfl
    · rfl
    · rfl
  | ok p =>
    have hT2 : Ext w5 w7 ∧ ∃ vr vl vh, e = .returned (.agg (pcells p vr vl vh)) ∧ Lsts w5 w7 p vr vl vh := by have := hT; unfold Txt at this; rw [hR] at this; exact this
    obtain ⟨hx7, vr, vl, vh, rfl, hL⟩ := hT2
    replace hF := show Hid _ from hF.out.on hx7
    replace hR := show Hid _ from hR
    have hFp := hF.out.p
    have hsz : (pcells p vr vl vh).size = 19 := rfl
    have hone := pcells_one (p := p) hL.sr hL.sl hL.sh
    replace hL := show Hid _ from hL
    clear hT hx7 hI
    go_wp2_with (refine store27 hFp rfl hsz hone rfl rfl rfl rfl ?_)
    intro W8 hB8 hx8
    have hF8 := hF.out.row hB8 hx8
    have gq := hF8.q; have gr := hF8.r; have gqz := hF8.qz; have grz := hF8.rz
    have hL8 : Hid (Lsts w5 W8 p vr vl vh) := hL.out.low fun g hg hgl => hx8.block g hgl (by have := hlt.out; omega)
    replace hF8 := show Hid _ from hF8
    clear hFp hone hB8 hx8
    go_wp2
    rw [hp.out, hR.out]
    refine leave_idle w _ _ p vr vl vh 0 0 0 ?_ ?_ ?_ ((hF8.out.set2 0).set3 0) w5 hlt.out (hL8.out.low fun g hg _ => ?_)
    · rfl
    · rfl
    · rfl
    · rw [heap_setCell_other _ _ _ _ (by show g ≠ w.heap.size + 2; have := hlt.out; omega), heap_setCell_other _ _ _ _ (by show g ≠ w.heap.size + 1; have := hlt.out; omega)]
end Go.Proofs.YtbnpaeejlfaboaaGreatDoor

namespace Go.Proofs.YtbnpaeejlfaboaaGreatDoor.L7
open Go.RowKit
set_option linter.unusedVariables false
theorem wh_none35 : ∀ (l r : List UInt8), (35 : UInt8) ∉ l → wh false l = l.length → wh false (l ++ r) = l.length + wh false r
  | [], r, _, _ => by simp
  | c :: l, r, hn, h => by
    have hl := wh_le false l
    simp only [List.mem_cons, not_or] at hn
    rw [wh] at h
    rw [List.cons_append, wh]
    simp only [List.length_cons] at h ⊢
    split
    · rename_i h1
      rw [if_pos h1] at h
      rw [wh_none35 l r hn.2 (by omega)]
      omega
    · rename_i h1
      rw [if_neg h1, if_neg (fun e => hn.1 e.symm)] at h
      omega
/-- A text without remarks, and what stands behind it and goes on with no sign of its own. -/
theorem lex_cut (r : List UInt8) (hr : stops r) : ∀ (n p : Nat) (l : List UInt8), l.length ≤ n → (35 : UInt8) ∉ l → lex p (l ++ r) =
    ((lex p l).1 ++ (if (lex p l).2.isSome then [] else (lex (p + l.length) r).1), if (lex p l).2.isSome then (lex p l).2 else (lex (p + l.length) r).2) := by
  intro n
  induction n with
  | zero =>
    intro p l h _
    obtain rfl : l = [] := List.eq_nil_of_length_eq_zero (by omega)
    rw [lex_end (l := []) rfl]
    simp
  | succ n ih =>
    intro p l h h35
    by_cases hw : wh false l = l.length
    · rw [lex_end hw]
      rw [lex_pass, wh_none35 l r h35 hw]
      have hd : (l ++ r).drop (l.length + wh false r) = r.drop (wh false r) := by rw [← List.drop_drop]; simp
      rw [hd, ← Nat.add_assoc, ← lex_pass]
      simp
    · have hlt : wh false l < l.length := by have := wh_le false l; omega
      rw [lex_def p (l ++ r), lex_def p l, wh_part false l _ hlt, List.drop_append_of_le_length (by omega)]
      cases hm : l.drop (wh false l) with
      | nil => have := congrArg List.length hm; simp at this; omega
      | cons c m =>
        have hlen : l.length = wh false l + (m.length + 1) := by have := congrArg List.length hm; simp at this; omega
        simp only [List.cons_append]
        obtain ⟨h1, h2⟩ := join_cons (c := c) (m := m) hr
        rw [h1, h2]
        split
        · simp
        · rename_i hs
          have hz := sz_le (c :: m)
          rw [← List.cons_append, List.take_append_of_le_length hz, List.drop_append_of_le_length hz]
          rw [ih _ _ (by rw [List.length_drop]; simp at hz ⊢; omega) (fun h => h35 ((List.drop_sublist (wh false l) l).subset (by rw [hm]; exact (List.drop_sublist _ (c :: m)).subset h)))]
          have hp : p + wh false l + sz (c :: m) + ((c :: m).drop (sz (c :: m))).length = p + l.length := by rw [List.length_drop]; simp at hz ⊢; omega
          rw [hp]
          simp
/-- A byte that is white, or a sign by itself. -/
def closer (c : UInt8) : Bool := blankL.contains c || sgnL.contains c
theorem closer_stops {c : UInt8} (h : closer c = true) (r : List UInt8) : stops (c :: r) := by
  have h1 := byte_all (fun c => !closer c || (!inWL.contains c && !inNL.contains c && !digL.contains c)) (by decide +kernel) c
  rw [h] at h1
  simp only [Bool.not_true, Bool.false_or, Bool.and_eq_true, Bool.not_eq_true'] at h1
  exact ⟨h1.1.1, h1.1.2, h1.2⟩
theorem lex_one {c : UInt8} (h : closer c = true) (p : Nat) (r : List UInt8) : lex p (c :: r) = ((lex p [c]).1 ++ (lex (p + 1) r).1, (lex (p + 1) r).2) ∧ (lex p [c]).2 = none := by
  unfold closer at h
  cases hb : blankL.contains c with
  | true =>
    have e1 : wh false (c :: r) = 1 + wh false r := by rw [wh, if_pos hb]
    have e2 : wh false [c] = 1 := by rw [wh, if_pos hb]; rfl
    rw [lex_end (l := [c]) (by rw [e2]; rfl)]
    rw [lex_skip (n := 1) (l := c :: r) (by rw [e1]; rfl)]
    exact ⟨by simp, rfl⟩
  | false =>
    rw [hb] at h
    have hs : sgnL.contains c = true := by simpa using h
    obtain ⟨h1, h2, h3⟩ := sgn_let c hs
    have sz1 : ∀ m, sz (c :: m) = 1 := fun m => by
      rw [sz_cons, h1, h2, show (c == 45) = false by simpa using h3, hs]; rfl
    have kd1 : ∀ m, kd (c :: m) = 3 := fun m => by
      rw [kd_cons, h1, h2, show (c == 45) = false by simpa using h3, hs]; rfl
    have w0 := wh_sgn (c := c) (m := []) (by rw [sz1]; omega)
    rw [lex_tok (w0 r) (sz1 r) (by omega), lex_tok (w0 []) (sz1 []) (by omega), kd1, kd1]
    simp [lex_end (p := p + 1) (l := []) rfl]
/-- A text without remarks that ends with white, or with such a sign; and whatever stands behind it. -/
theorem lex_close {l : List UInt8} {c : UInt8} (hc : closer c = true) (h35 : (35 : UInt8) ∉ l) (p : Nat) (ho : (lex p (l ++ [c])).2 = none) (r : List UInt8) :
    lex p ((l ++ [c]) ++ r) = ((lex p (l ++ [c])).1 ++ (lex (p + (l ++ [c]).length) r).1, (lex (p + (l ++ [c]).length) r).2) := by
  have h1 := lex_cut (c :: r) (closer_stops hc r) l.length p l (Nat.le_refl _) h35
  have h2 := lex_cut [c] (closer_stops hc []) l.length p l (Nat.le_refl _) h35
  obtain ⟨h3, h4⟩ := lex_one hc (p + l.length) r
  rw [h2] at ho ⊢
  rw [List.append_assoc, List.singleton_append, h1]
  cases hq : (lex p l).2 with
  | some q => rw [hq] at ho; simp at ho
  | none =>
    rw [h3]
    simp [Nat.add_assoc]
/-- Signs that are so, wherever the text stands. -/
theorem lex_at {l : List UInt8} {T : List Tok} (h : lex 0 l = (T, none)) (p : Nat) : lex p l = (T.map (shT p), none) := by
  have := lex_shift p l.length 0 l (Nat.le_refl _)
  rw [Nat.zero_add, h] at this
  exact this
/-- A text by pieces, of which each ends with white or a sign: its signs are theirs. -/
theorem lex_piece {l : List UInt8} {T : List Tok} (h : lex 0 l = (T, none)) (hc : (match l.getLast? with | some c => closer c | none => true) = true) (h35 : l.all (· != 35) = true) (p : Nat) (r : List UInt8) :
    lex p (l ++ r) = (T.map (shT p) ++ (lex (p + l.length) r).1, (lex (p + l.length) r).2) := by
  have h1 := lex_at h p
  rcases List.eq_nil_or_concat l with rfl | ⟨m, c, rfl⟩
  · rw [lex_end (l := []) rfl] at h1
    have : T.map (shT p) = [] := (congrArg Prod.fst h1).symm
    rw [this]
    simp
  · rw [List.concat_eq_append] at *
    have hc' : closer c = true := by simpa using hc
    rw [lex_close hc' (fun h => by
      have := List.all_eq_true.1 h35 35 (by simp [h])
      simp at this) p (by rw [h1]) r, h1]
theorem lex_num {p : Nat} {c : UInt8} {m : List UInt8} (hc : digL.contains c = true) (hm : rn m inNL = m.length) : lex p (c :: m) = ([⟨2, p, c :: m⟩], none) := by
  have hl : letL.contains c = false := by
    have := byte_all (fun c => !digL.contains c || !letL.contains c) (by decide +kernel) c
    rw [hc] at this
    simpa using this
  have hs : sz (c :: m) = m.length + 1 := by rw [sz_cons, hl, hc]; simp [hm]
  have hk : kd (c :: m) = 2 := by rw [kd_cons, hl, hc]; simp
  rw [lex_tok (wh_sgn (by rw [hs]; omega) m) hs (by omega), hk]
  rw [lex_end (by simp [wh])]
  simp
/-- A word, or a number, and what stops it. -/
theorem lex_then {l : List UInt8} {t : Tok} {p : Nat} (h : lex p l = ([t], none)) (h35 : l.all (· != 35) = true) {r : List UInt8} (hr : stops r) : lex p (l ++ r) = (t :: (lex (p + l.length) r).1, (lex (p + l.length) r).2) := by
  rw [lex_cut r hr l.length p l (Nat.le_refl _) (fun h => by
    have := List.all_eq_true.1 h35 35 h
    simp at this), h]
  simp
end Go.Proofs.YtbnpaeejlfaboaaGreatDoor.L7

namespace Go.Proofs.YtbnpaeejlfaboaaGreatDoor
open Go.RowKit Go.Lib
set_option linter.unusedVariables false
theorem dig_isD {c : UInt8} (h : L2.isD c = true) : L7.digL.contains c = true := (L2.digs_contains c).trans h
end Go.Proofs.YtbnpaeejlfaboaaGreatDoor

namespace Go.Proofs.YtbnpaeejlfaboaaGreatDoor
open Go.RowKit Go.Lib
set_option linter.unusedVariables false
theorem cl_one {f : List UInt8 → Option Int} {g : Int → Prd} {t : Tok} {ts : List Tok} {v : Int} (h : f t.text = some v) : ((tk f (t :: ts)).bind fun a => Res.ok (g a.1, a.2)) = .ok (g v, ts) := by
  rw [tk_some h]; rfl
theorem cl_two {f k : List UInt8 → Option Int} {g : Int → Int → Prd} {t u : Tok} {ts : List Tok} {v x : Int} (h : f t.text = some v) (h2 : k u.text = some x) : ((tk f (t :: u :: ts)).bind fun a => (tk k a.2).bind fun b => Res.ok (g a.1 b.1, b.2)) = .ok (g v x, ts) := by
  rw [tk_some h]
  show (tk k (u :: ts)).bind _ = _
  rw [tk_some h2]; rfl
theorem cl0 {p : Prd} {t : Tok} {ts : List Tok} {v : Int} (h : pick oCount t.text = some v) : clauseR 0 p (t :: ts) = .ok ({ p with cn := v }, ts) := cl_one (g := fun v => { p with cn := v }) h
theorem cl1 {p : Prd} {t : Tok} {ts : List Tok} {v : Int} (h : pick oRound t.text = some v) : clauseR 1 p (t :: ts) = .ok ({ p with rd := v }, ts) := cl_one (g := fun v => { p with rd := v }) h
theorem cl2 {p : Prd} {t : Tok} {ts : List Tok} {v : Int} (h : pick oKind t.text = some v) : clauseR 2 p (t :: ts) = .ok ({ p with kd := v }, ts) := cl_one (g := fun v => { p with kd := v }) h
theorem cl3 {p : Prd} {t : Tok} {ts : List Tok} {v : Int} (h : numO t.text = some v) : clauseR 3 p (t :: ts) = .ok ({ p with ev := v }, ts) := cl_one (g := fun v => { p with ev := v }) h
theorem cl4 {p : Prd} {t : Tok} {ts : List Tok} {v : Int} (h : numO t.text = some v) : clauseR 4 p (t :: ts) = .ok ({ p with tm := v }, ts) := cl_one (g := fun v => { p with tm := v }) h
theorem cl5 {p : Prd} {t : Tok} {ts : List Tok} {v : Int} (h : numO t.text = some v) : clauseR 5 p (t :: ts) = .ok ({ p with gr := v }, ts) := cl_one (g := fun v => { p with gr := v }) h
theorem cl6 {p : Prd} {t : Tok} {ts : List Tok} {v : Int} (h : rateO t.text = some v) : clauseR 6 p (t :: ts) = .ok ({ p with rt := v }, ts) := cl_one (g := fun v => { p with rt := v }) h
theorem cl7 {p : Prd} {t : Tok} {ts : List Tok} {v : Int} (h : rateO t.text = some v) : clauseR 7 p (t :: ts) = .ok ({ p with pn := v }, ts) := cl_one (g := fun v => { p with pn := v }) h
theorem cl10 {p : Prd} {t : Tok} {ts : List Tok} {v : Int} (h : monO t.text = some v) : clauseR 10 p (t :: ts) = .ok ({ p with cp := v }, ts) := cl_one (g := fun v => { p with cp := v }) h
theorem cl13 {p : Prd} {t : Tok} {ts : List Tok} {v : Int} (h : pick oOver t.text = some v) : clauseR 13 p (t :: ts) = .ok ({ p with ov := v }, ts) := cl_one (g := fun v => { p with ov := v }) h
theorem cl14 {p : Prd} {t : Tok} {ts : List Tok} {v : Int} (h : pick oRoll t.text = some v) : clauseR 14 p (t :: ts) = .ok ({ p with rl := v }, ts) := cl_one (g := fun v => { p with rl := v }) h
theorem cl11 {p : Prd} {t : Tok} {ts : List Tok} {v : Int} (h : dayO t.text = some v) : clauseR 11 p (t :: ts) = .ok ({ p with hd := p.hd ++ [v] }, ts) := cl_one (g := fun v => { p with hd := p.hd ++ [v] }) h
theorem cl8 {p : Prd} {t u : Tok} {ts : List Tok} {v x : Int} (h : numO t.text = some v) (h2 : rateO u.text = some x) : clauseR 8 p (t :: u :: ts) = .ok ({ p with rs := p.rs ++ [(v, x)] }, ts) := cl_two (g := fun v x => { p with rs := p.rs ++ [(v, x)] }) h h2
theorem cl9 {p : Prd} {t u : Tok} {ts : List Tok} {v x : Int} (h : numO t.text = some v) (h2 : monO u.text = some x) : clauseR 9 p (t :: u :: ts) = .ok ({ p with lt := p.lt ++ [(v, x)] }, ts) := cl_two (g := fun v x => { p with lt := p.lt ++ [(v, x)] }) h h2
theorem cl12 {p : Prd} {t0 t1 t2 t3 : Tok} {ts : List Tok} {a b c d : Int} (h0 : pick oOrder t0.text = some a) (h1 : pick (lessO oOrder a) t1.text = some b) (h2 : pick (lessO (lessO oOrder a) b) t2.text = some c) (h3 : pick (lessO (lessO (lessO oOrder a) b) c) t3.text = some d) :
    clauseR 12 p (t0 :: t1 :: t2 :: t3 :: ts) = .ok ({ p with o0 := a, o1 := b, o2 := c, o3 := d }, ts) := by
  show orderR p _ = _
  unfold orderR
  rw [tk_some h0]
  show (tk _ (t1 :: t2 :: t3 :: ts)).bind _ = _
  rw [tk_some h1]
  show (tk _ (t2 :: t3 :: ts)).bind _ = _
  rw [tk_some h2]
  show (tk _ (t3 :: ts)).bind _ = _
  rw [tk_some h3]
  rfl
theorem which_ne {l : List UInt8} {i : Nat} (h : which l = i) (hi : i < 15) : l ≠ [] ∧ l ≠ [125] ∧ l ≠ [123] := by
  refine ⟨?_, ?_, ?_⟩ <;> rintro rfl <;> revert h <;> (intro h; have : i = 15 := h.symm.trans (by decide)) <;> omega
/-- One clause of a group, whole. -/
theorem grp_clause {d i : Nat} {t e : Tok} {us rest : List Tok} {p p' : Prd} {h : Nat → Bool} (hw : which t.text = i) (hi : i < 15) (ho : (often i || !h i) = true) (hr : clauseR i p (us ++ e :: rest) = .ok (p', e :: rest)) (he : e.text = [59]) (hf : Fine ⟨t :: (us ++ e :: rest), p, h⟩) :
    grpR d ⟨t :: (us ++ e :: rest), p, h⟩ = grpR d ⟨rest, p', seen h i⟩ ∧ Fine ⟨rest, p', seen h i⟩ := by
  obtain ⟨hn, h1, h2⟩ := which_ne hw hi
  have hc : clR t ⟨us ++ e :: rest, p, h⟩ = .ok ⟨rest, p', seen h i⟩ := by
    unfold clR
    rw [hw, if_pos hi]
    simp only [ho, if_true, hr]
    show (xp [59] (e :: rest)).bind _ = _
    rw [xp_ok he]
    rfl
  have hf1 : Fine ⟨us ++ e :: rest, p, h⟩ := hf.next (s := ⟨t :: (us ++ e :: rest), p, h⟩) rfl hn
  refine ⟨?_, (clR_fine hf1 hc).1⟩
  rw [grpR_else hf rfl h1 h2]
  show (clR t ⟨us ++ e :: rest, p, h⟩).bind _ = _
  rw [hc]
  rfl
/-- What aT is of a text that is all signs. -/
theorem aT_of {l : List UInt8} {T : List Tok} (h : L7.lex 0 l = (T, none)) (hl : l.length ≤ 20000) : L7.aT l = T ++ [⟨0, l.length, []⟩] ∧ L7.aE l = 0 := by
  unfold L7.aT L7.aE
  rw [if_neg (by omega), if_neg (by omega), h]
  exact ⟨rfl, rfl⟩
theorem prs_of {l : List UInt8} {T : List Tok} (h : L7.lex 0 l = (T, none)) (hl : l.length ≤ 20000) : prs l = textR (T ++ [⟨0, l.length, []⟩]) := by
  obtain ⟨h1, h2⟩ := aT_of h hl
  unfold prs
  rw [if_pos h2, h1]
theorem fine_text {l : List UInt8} {T : List Tok} (h : L7.lex 0 l = (T, none)) (hl : l.length ≤ 20000) (p : Prd) (hp : p.rs.length + p.lt.length + p.hd.length = 0) (hd : Nat → Bool) : Fine ⟨T ++ [⟨0, l.length, []⟩], p, hd⟩ := by
  obtain ⟨h1, h2⟩ := aT_of h hl
  rw [← h1]
  exact fine_of h2 p hp hd
/-- A text that is a product's, from its group's end on. -/
theorem text_end {t0 t1 t2 : Tok} {ts : List Tok} {u : St} {e : Tok} {us : List Tok} (h : t0.text = prodL) (hn : L8.nmb t1.text = true) (h2 : t2.text = [123]) (hg : grpR 1 (st0 t1.text ts) = .ok u) (hu : u.ts = e :: us) (he : e.kind = 0) (hw : whole u.had = true) (hp : okP u.p = true) : textR (t0 :: t1 :: t2 :: ts) = .ok u.p := by
  rw [textR_d h hn h2, hg]
  show lastR t0.at_ u = _
  unfold lastR
  rw [hu]
  simp only [if_pos he, hw, hp]
  rfl
end Go.Proofs.YtbnpaeejlfaboaaGreatDoor

namespace Go.Proofs.YtbnpaeejlfaboaaGreatDoor
open Go.RowKit Go.Lib
set_option linter.unusedVariables false
end Go.Proofs.YtbnpaeejlfaboaaGreatDoor

namespace Go.Proofs.YtbnpaeejlfaboaaGreatDoor
open Go.RowKit Go.Lib
set_option linter.unusedVariables false
/-- No byte that is none; 1: behind a word's byte, 2: behind a number's. -/
def cl : Nat → List UInt8 → Bool
  | _, [] => true
  | st, c :: l => if st == 1 && L7.inWL.contains c then cl 1 l else if st == 2 && L7.inNL.contains c then cl 2 l else if L7.letL.contains c then cl 1 l else if L7.digL.contains c then cl 2 l else if L7.sgnL.contains c || L7.blankL.contains c then cl 0 l else false
end Go.Proofs.YtbnpaeejlfaboaaGreatDoor

namespace Go.Proofs.YtbnpaeejlfaboaaGreatDoor
open Go.RowKit Go.Lib
set_option linter.unusedVariables false
theorem isD_inN {c : UInt8} (h : L2.isD c = true) : L7.inNL.contains c = true := L7.dig_inN c (dig_isD h)
theorem all_inN {l : List UInt8} (h : l.all L2.isD = true) : l.all (L7.inNL.contains ·) = true := by
  rw [List.all_eq_true] at h ⊢
  exact fun c hc => isD_inN (h c hc)
theorem trim_all {q : UInt8 → Bool} {l : List UInt8} (c : UInt8) (h : l.all q = true) : (trimRightB l c).all q = true := by
  unfold trimRightB
  rw [List.all_eq_true] at h ⊢
  intro x hx
  rw [List.mem_reverse] at hx
  exact h x (List.mem_reverse.1 ((List.dropWhile_suffix _).subset hx))
theorem low_let (c : UInt8) (h : L8.lowB c = true) : L7.letL.contains c = true := by
  have := L7.byte_all (fun c => !L8.lowB c || L7.letL.contains c) (by decide +kernel) c
  rw [h] at this
  simpa using this
theorem in_inW (c : UInt8) (h : L8.inB c = true) : L7.inWL.contains c = true := by
  have := L7.byte_all (fun c => !L8.inB c || L7.inWL.contains c) (by decide +kernel) c
  rw [h] at this
  simpa using this
/-- A row more. -/
def lineL (q : List UInt8) : List UInt8 := [32, 32] ++ (q ++ [59, 10])
/-- How a product's text begins. -/
def topL (nm : List UInt8) : List UInt8 := [112, 114, 111, 100, 117, 99, 116, 32] ++ (nm ++ [32, 123, 10])
end Go.Proofs.YtbnpaeejlfaboaaGreatDoor

namespace Go.Proofs.YtbnpaeejlfaboaaGreatDoor
open Go.RowKit Go.Lib
set_option linter.unusedVariables false
end Go.Proofs.YtbnpaeejlfaboaaGreatDoor

namespace Go.Proofs.YtbnpaeejlfaboaaGreatDoor
open Go.RowKit Go.Lib
set_option linter.unusedVariables false
structure Okf (p : Prd) : Prop where
  nm : L8.nmb p.nm = true
  nl : p.nm.length ≤ 20
  cn : 1 ≤ p.cn ∧ p.cn ≤ 3
  rd : p.rd = 1 ∨ p.rd = 3
  kd : 1 ≤ p.kd ∧ p.kd ≤ 3
  ov : 1 ≤ p.ov ∧ p.ov ≤ 3
  rl : 1 ≤ p.rl ∧ p.rl ≤ 4
  ev : 1 ≤ p.ev ∧ p.ev ≤ 12
  tm : 1 ≤ p.tm ∧ p.tm ≤ 600
  gr : 0 ≤ p.gr ∧ p.gr ≤ 600
  rt : 0 ≤ p.rt ∧ p.rt ≤ 1000000000
  pn : 0 ≤ p.pn ∧ p.pn ≤ 1000000000
  rl_ : p.rs.length ≤ 20
  rs : ∀ x ∈ p.rs, 0 ≤ x.1 ∧ x.1 ≤ 600 ∧ 0 ≤ x.2 ∧ x.2 ≤ 1000000000
  o0 : 1 ≤ p.o0 ∧ p.o0 ≤ 4
  o1 : 1 ≤ p.o1 ∧ p.o1 ≤ 4
  o2 : 1 ≤ p.o2 ∧ p.o2 ≤ 4
  o3 : 1 ≤ p.o3 ∧ p.o3 ≤ 4
  ll : p.lt.length ≤ 8
  lt : ∀ x ∈ p.lt, 0 ≤ x.1 ∧ x.1 ≤ 365 ∧ 0 ≤ x.2 ∧ x.2 ≤ 10000000000000
  cp : 0 ≤ p.cp ∧ p.cp ≤ 10000000000000
  hl : p.hd.length ≤ 200
  hd : ∀ x ∈ p.hd, -25567 ≤ x ∧ x ≤ 84370
theorem rsB_all {t : Int} (ht : t ≤ 600) : ∀ (l : List (Int × Int)) (a : Int), 0 ≤ a → L8.rsB t a l = true → ∀ x ∈ l, 0 ≤ x.1 ∧ x.1 ≤ 600 ∧ 0 ≤ x.2 ∧ x.2 ≤ 1000000000
  | [], _, _, _, x, hx => by cases hx
  | (u, v) :: l, a, ha, h, x, hx => by
    simp only [L8.rsB, Bool.and_eq_true, decide_eq_true_eq, L8.lz_iff] at h
    obtain ⟨h1, h2, h3, h4⟩ := h
    rcases List.mem_cons.1 hx with rfl | hx
    · exact ⟨by show 0 ≤ u; omega, by show u ≤ 600; omega, h3.1, h3.2⟩
    · exact rsB_all ht l u (by omega) h4 x hx
theorem ltB_all : ∀ (l : List (Int × Int)) (a f : Int), 0 ≤ a → 0 ≤ f → L8.ltB a f l = true → ∀ x ∈ l, 0 ≤ x.1 ∧ x.1 ≤ 365 ∧ 0 ≤ x.2 ∧ x.2 ≤ 10000000000000
  | [], _, _, _, _, _, x, hx => by cases hx
  | (u, v) :: l, a, f, ha, hf, h, x, hx => by
    simp only [L8.ltB, Bool.and_eq_true, decide_eq_true_eq, L8.lz_iff] at h
    obtain ⟨h1, h2, h3, h4⟩ := h
    rcases List.mem_cons.1 hx with rfl | hx
    · exact ⟨by show 0 ≤ u; omega, h2, by show 0 ≤ v; omega, h3.2⟩
    · exact ltB_all l u v (by omega) (by omega) h4 x hx
theorem rsg_all : ∀ (l : List Int) (a : Int), -25568 ≤ a → L8.rsg a l = true → ∀ x ∈ l, -25567 ≤ x ∧ x ≤ 84370
  | [], _, _, _, x, hx => by cases hx
  | u :: l, a, ha, h, x, hx => by
    simp only [L8.rsg, Bool.and_eq_true, decide_eq_true_eq] at h
    obtain ⟨⟨h1, h2⟩, h3⟩ := h
    rcases List.mem_cons.1 hx with rfl | hx
    · exact ⟨by omega, h2⟩
    · exact rsg_all l u (by omega) h3 x hx
theorem four_in {a b c d : Int} (h : L8.r7B a b c d = true) : (1 ≤ a ∧ a ≤ 4) ∧ (1 ≤ b ∧ b ≤ 4) ∧ (1 ≤ c ∧ c ≤ 4) ∧ (1 ≤ d ∧ d ≤ 4) := by
  simp only [L8.r7B, Bool.and_eq_true, decide_eq_true_eq, List.mem_cons, List.not_mem_nil, or_false] at h
  omega
theorem okf {p : Prd} (h : okP p = true) : Okf p := by
  unfold okP at h
  simp only [Bool.and_eq_true] at h
  obtain ⟨hn, h1, h2, h3, h4, h5, h6, h7, h8, h9, h10⟩ := h
  have hnn := hn
  unfold L8.nmb at hnn
  simp only [Bool.and_eq_true, L8.lz_iff] at hnn
  unfold L8.r1B at h1
  simp only [Bool.and_eq_true, Bool.or_eq_true, beq_iff_eq, L8.lz_iff] at h1
  unfold L8.r2B at h2
  simp only [Bool.or_eq_true, beq_iff_eq] at h2
  rw [L8.lz_iff] at h3
  unfold L8.r4B at h4
  simp only [Bool.and_eq_true, Bool.or_eq_true, beq_iff_eq, bne_iff_ne, decide_eq_true_eq] at h4
  unfold L8.r5B at h5
  simp only [Bool.and_eq_true, L8.lz_iff] at h5
  unfold L8.r6B at h6
  simp only [Bool.and_eq_true, decide_eq_true_eq] at h6
  unfold L8.r8B at h8
  simp only [Bool.and_eq_true, decide_eq_true_eq] at h8
  unfold L8.r9B at h9
  simp only [Bool.and_eq_true, Bool.or_eq_true, beq_iff_eq, decide_eq_true_eq, L8.lz_iff] at h9
  obtain ⟨q0, q1, q2, q3⟩ := four_in h7
  have hh : p.hd.length ≤ 200 ∧ ∀ x ∈ p.hd, -25567 ≤ x ∧ x ≤ 84370 := by
    unfold L8.r10B at h10
    split at h10
    · have h0 : p.hd.length = 0 := of_decide_eq_true h10
      have h0' := List.eq_nil_of_length_eq_zero h0
      exact ⟨by omega, fun x hx => by rw [h0'] at hx; cases hx⟩
    · refine ⟨L8.rgt_len h10, ?_⟩
      unfold L8.rgt at h10
      simp only [Bool.and_eq_true] at h10
      exact rsg_all _ _ (by omega) h10.1
  exact { nm := hn, nl := by omega, cn := h1.1, rd := h1.2.1, kd := h1.2.2.1, ov := h1.2.2.2.1, rl := h1.2.2.2.2, ev := by omega, tm := h3, gr := by omega, rt := h5.1, pn := h5.2, rl_ := h6.1, rs := rsB_all h3.2 _ 0 (by omega) h6.2, o0 := q0, o1 := q1, o2 := q2, o3 := q3, ll := h8.1, lt := ltB_all _ 0 0 (by omega) (by omega) h8.2, cp := by omega, hl := hh.1, hd := hh.2 }
end Go.Proofs.YtbnpaeejlfaboaaGreatDoor

namespace Go.Proofs.YtbnpaeejlfaboaaGreatDoor
open Go.RowKit Go.Lib
set_option linter.unusedVariables false
/-- The word that a number stands for. -/
def nthL (o : List (List UInt8)) (v : Int) : List UInt8 := (o[(v - 1).toNat]?).getD []
def txCount : List (List UInt8) := [[116, 104, 105, 114, 116, 121], [102, 105, 120, 101, 100], [97, 99, 116, 117, 97, 108]]
def txRound : List (List UInt8) := [[104, 97, 108, 102, 45, 117, 112], [], [100, 111, 119, 110]]
def txKind : List (List UInt8) := [[97, 110, 110, 117, 105, 116, 121], [101, 113, 117, 97, 108], [98, 117, 108, 108, 101, 116]]
def txOrder : List (List UInt8) := [[102, 101, 101, 115], [112, 101, 110, 97, 108, 116, 121], [105, 110, 116, 101, 114, 101, 115, 116], [112, 114, 105, 110, 99, 105, 112, 97, 108]]
def txOver : List (List UInt8) := [[104, 111, 108, 100], [112, 114, 101, 112, 97, 121], [114, 101, 102, 117, 110, 100]]
def txRoll : List (List UInt8) := [[115, 116, 97, 121], [110, 101, 120, 116], [119, 105, 116, 104, 105, 110], [112, 114, 101, 118, 105, 111, 117, 115]]
/-- Words, with a blank between. -/
def spL : List (List UInt8) → List UInt8
  | [] => []
  | [q] => q
  | q :: r :: s => q ++ 32 :: spL (r :: s)
def dayL (n : Int) : List UInt8 := L3.textL (L3.yOf n) (L3.mOf n) (L3.dOf n)
/-- A clause: its words, which one it is, and what it turns in a product. -/
structure Cl where
  ws : List (List UInt8)
  i : Nat
  f : Prd → Prd
def cCount (p : Prd) : Cl := ⟨[[99, 111, 117, 110, 116], nthL txCount p.cn], 0, fun q => { q with cn := p.cn }⟩
def cRound (p : Prd) : Cl := ⟨[[114, 111, 117, 110, 100], nthL txRound p.rd], 1, fun q => { q with rd := p.rd }⟩
def cKind (p : Prd) : Cl := ⟨[[107, 105, 110, 100], nthL txKind p.kd], 2, fun q => { q with kd := p.kd }⟩
def cEvery (p : Prd) : Cl := ⟨[[101, 118, 101, 114, 121], decDigits p.ev.toNat], 3, fun q => { q with ev := p.ev }⟩
def cTimes (p : Prd) : Cl := ⟨[[116, 105, 109, 101, 115], decDigits p.tm.toNat], 4, fun q => { q with tm := p.tm }⟩
def cGrace (p : Prd) : Cl := ⟨[[103, 114, 97, 99, 101], decDigits p.gr.toNat], 5, fun q => { q with gr := p.gr }⟩
def cRate (p : Prd) : Cl := ⟨[[114, 97, 116, 101], L2.rateL p.rt], 6, fun q => { q with rt := p.rt }⟩
def cPenalty (p : Prd) : Cl := ⟨[[112, 101, 110, 97, 108, 116, 121], L2.rateL p.pn], 7, fun q => { q with pn := p.pn }⟩
def cReset (x : Int × Int) : Cl := ⟨[[114, 101, 115, 101, 116], decDigits x.1.toNat, L2.rateL x.2], 8, fun q => { q with rs := q.rs ++ [x] }⟩
def cOrder (p : Prd) : Cl := ⟨[[111, 114, 100, 101, 114], nthL txOrder p.o0, nthL txOrder p.o1, nthL txOrder p.o2, nthL txOrder p.o3], 12, fun q => { q with o0 := p.o0, o1 := p.o1, o2 := p.o2, o3 := p.o3 }⟩
def cOver (p : Prd) : Cl := ⟨[[111, 118, 101, 114], nthL txOver p.ov], 13, fun q => { q with ov := p.ov }⟩
def cLate (x : Int × Int) : Cl := ⟨[[108, 97, 116, 101], decDigits x.1.toNat, L2.moneyL x.2], 9, fun q => { q with lt := q.lt ++ [x] }⟩
def cCap (p : Prd) : Cl := ⟨[[99, 97, 112], L2.moneyL p.cp], 10, fun q => { q with cp := p.cp }⟩
def cRoll (p : Prd) : Cl := ⟨[[114, 111, 108, 108], nthL txRoll p.rl], 14, fun q => { q with rl := p.rl }⟩
def cHol (x : Int) : Cl := ⟨[[104, 111, 108, 105, 100, 97, 121], dayL x], 11, fun q => { q with hd := q.hd ++ [x] }⟩
/-- The clauses of a text, by the fifteen that write them. -/
def grpC (p : Prd) : Nat → List Cl
  | 0 => [cCount p]
  | 1 => [cRound p]
  | 2 => [cKind p]
  | 3 => [cEvery p]
  | 4 => [cTimes p]
  | 5 => [cGrace p]
  | 6 => [cRate p]
  | 7 => [cPenalty p]
  | 8 => p.rs.map cReset
  | 9 => [cOrder p]
  | 10 => [cOver p]
  | 11 => p.lt.map cLate
  | 12 => [cCap p]
  | 13 => [cRoll p]
  | 14 => p.hd.map cHol
  | _ => []
/-- The clauses of the first so many. -/
def upC (p : Prd) : Nat → List Cl
  | 0 => []
  | k + 1 => upC p k ++ grpC p k
def cls (p : Prd) : List Cl := upC p 15
theorem cls_eq (p : Prd) : cls p = [cCount p, cRound p, cKind p, cEvery p, cTimes p, cGrace p, cRate p, cPenalty p] ++ (p.rs.map cReset ++ ([cOrder p, cOver p] ++ (p.lt.map cLate ++ ([cCap p, cRoll p] ++ p.hd.map cHol)))) := by
  simp [cls, upC, grpC]
def rowL (c : Cl) : List UInt8 := lineL (spL c.ws)
def rowsL (l : List Cl) : List UInt8 := l.flatMap rowL
theorem rowsL_app (l m : List Cl) : rowsL (l ++ m) = rowsL l ++ rowsL m := by unfold rowsL; rw [List.flatMap_append]
theorem rowsL_one (c : Cl) : rowsL [c] = rowL c := by simp [rowsL]
theorem rowsL_cons (c : Cl) (l : List Cl) : rowsL (c :: l) = rowL c ++ rowsL l := by simp [rowsL]
theorem rowsL_nil : rowsL [] = [] := rfl
/-- The text. -/
def prt (p : Prd) : List UInt8 := topL p.nm ++ (rowsL (cls p) ++ [125, 10])
/-- What has been written ahead of the k-th. -/
def preL (p : Prd) (k : Nat) : List UInt8 := topL p.nm ++ rowsL (upC p k)
theorem preL_succ (p : Prd) (k : Nat) : preL p (k + 1) = preL p k ++ rowsL (grpC p k) := by
  unfold preL
  rw [show upC p (k + 1) = upC p k ++ grpC p k from rfl, rowsL_app, List.append_assoc]
theorem prt_pre (p : Prd) : prt p = preL p 15 ++ [125, 10] := by unfold prt preL cls; rw [List.append_assoc]
/-- A sign by itself, wherever it stands; no remark, no end of a line is in it. -/
structure Arg (l : List UInt8) : Prop where
  ex : ∃ k, ∀ p, L7.lex p l = ([⟨k, p, l⟩], none)
  no35 : l.all (· != 35) = true
  no10 : l.all (· != 10) = true
theorem rn_all {t : List UInt8} : ∀ {m : List UInt8}, m.all (t.contains ·) = true → L7.rn m t = m.length
  | [], _ => rfl
  | c :: m, h => by
    simp only [List.all_cons, Bool.and_eq_true] at h
    rw [L7.rn_in h.1, rn_all h.2]; rfl
theorem no_byte {l t : List UInt8} {c : UInt8} (ht : t.contains c = false) (h : l.all (t.contains ·) = true) : l.all (· != c) = true := by
  rw [List.all_eq_true] at h ⊢
  intro x hx
  have := h x hx
  simp only [bne_iff_ne, ne_eq]
  rintro rfl
  rw [ht] at this
  cases this
theorem lex_word {p : Nat} {c : UInt8} {m : List UInt8} (hc : L7.letL.contains c = true) (hm : L7.rn m L7.inWL = m.length) : L7.lex p (c :: m) = ([⟨1, p, c :: m⟩], none) := by
  have hs : L7.sz (c :: m) = m.length + 1 := by rw [L7.sz_cons, hc]; simp [hm]
  have hk : L7.kd (c :: m) = 1 := by rw [L7.kd_cons, hc]; simp
  rw [L7.lex_tok (L7.wh_sgn (by rw [hs]; omega) m) hs (by omega), hk]
  rw [L7.lex_end (by simp [L7.wh])]
  simp
theorem arg_num {c : UInt8} {m : List UInt8} (hc : L7.digL.contains c = true) (hm : m.all (L7.inNL.contains ·) = true) : Arg (c :: m) := by
  have ha : (c :: m).all (L7.inNL.contains ·) = true := by simp only [List.all_cons, Bool.and_eq_true]; exact ⟨L7.dig_inN c hc, hm⟩
  exact ⟨⟨2, fun p => L7.lex_num hc (rn_all hm)⟩, no_byte (by decide) ha, no_byte (by decide) ha⟩
theorem arg_word {c : UInt8} {m : List UInt8} (hc : L7.letL.contains c = true) (hm : m.all (L7.inWL.contains ·) = true) : Arg (c :: m) := by
  have ha : (c :: m).all (L7.inWL.contains ·) = true := by simp only [List.all_cons, Bool.and_eq_true]; exact ⟨L7.let_inW c hc, hm⟩
  exact ⟨⟨1, fun p => lex_word hc (rn_all hm)⟩, no_byte (by decide) ha, no_byte (by decide) ha⟩
theorem arg_digits {d r : List UInt8} (hn : d ≠ []) (hd : d.all L2.isD = true) (hr : r.all (L7.inNL.contains ·) = true) : Arg (d ++ r) := by
  cases d with
  | nil => exact absurd rfl hn
  | cons c m =>
    simp only [List.all_cons, Bool.and_eq_true] at hd
    refine arg_num (dig_isD hd.1) ?_
    show (m ++ r).all _ = true
    rw [List.all_append, Bool.and_eq_true]
    exact ⟨all_inN hd.2, hr⟩
theorem arg_dec (n : Nat) : Arg (decDigits n) := by
  have := arg_digits (L2.decDigits_ne n) (L2.decDigits_all n) (r := []) rfl
  simpa using this
theorem arg_money (v : Int) (h : 0 ≤ v) : Arg (L2.moneyL v) := by
  unfold L2.moneyL L2.signL
  rw [if_neg (by omega), List.nil_append]
  refine arg_digits (L2.decDigits_ne _) (L2.decDigits_all _) ?_
  simp only [List.all_cons, Bool.and_eq_true]
  exact ⟨by decide, all_inN (L2.fix_all _ _)⟩
theorem arg_rate (v : Int) (h : 0 ≤ v) : Arg (L2.rateL v) := by
  unfold L2.rateL L2.signL
  rw [if_neg (by omega), List.nil_append]
  refine arg_digits (L2.decDigits_ne _) (L2.decDigits_all _) ?_
  have ht : (L2.tailL v.natAbs).all (L7.inNL.contains ·) = true := by
    unfold L2.tailL
    exact trim_all 48 (all_inN (L2.fix_all _ _))
  rw [List.all_append, Bool.and_eq_true]
  refine ⟨?_, by decide⟩
  unfold L2.dotL
  split
  · rfl
  · simp only [List.all_cons, Bool.and_eq_true]
    exact ⟨by decide, ht⟩
theorem arg_day (n : Int) : Arg (dayL n) := by
  unfold dayL L3.textL
  have e : ∀ k n, L3.fix k n = L2.fix k n := by
    intro k
    induction k with
    | zero => intro n; rfl
    | succ k ih => intro n; rw [L3.fix, L2.fix, ih]; rfl
  rw [e, e, e]
  refine arg_digits (by rw [L2.fix_cons]; simp) (L2.fix_all _ _) ?_
  simp only [List.all_cons, List.all_append, Bool.and_eq_true]
  exact ⟨by decide, all_inN (L2.fix_all _ _), by decide, all_inN (L2.fix_all _ _)⟩
theorem arg_name {l : List UInt8} (h : L8.nmb l = true) : Arg l := by
  unfold L8.nmb at h
  simp only [Bool.and_eq_true] at h
  cases l with
  | nil => simp [L8.headB] at h
  | cons c m =>
    obtain ⟨_, h1, h2, _⟩ := h
    simp only [List.all_cons, Bool.and_eq_true] at h2
    refine arg_word (low_let c h1) ?_
    rw [List.all_eq_true]
    exact fun x hx => in_inW x (List.all_eq_true.1 h2.2 x hx)
theorem day_len (n : Int) : (dayL n).length = 10 := L3.text_length _ _ _
theorem i64_ofP {v : Int} (h0 : 0 ≤ v) (h1 : v ≤ 10000000000000) : L2.I64 v := ⟨by omega, by omega⟩
theorem rate_lenP (v : Int) (h0 : 0 ≤ v) (h1 : v ≤ 10000000000000) : (L2.rateL v).length ≤ 40 := by
  unfold L2.rateL L2.signL
  rw [if_neg (by omega), List.nil_append]
  have hd := (L2.dec_len v (i64_ofP h0 h1) 10000000).2
  have ht : (L2.tailL v.natAbs).length ≤ 7 := by
    unfold L2.tailL
    have := L2.trimRightB_le (L2.fix 7 v.natAbs) 48
    rw [L2.fix_length] at this
    exact this
  have hdot : (L2.dotL (L2.tailL v.natAbs)).length ≤ 8 := by
    unfold L2.dotL
    split
    · simp
    · simp only [List.length_cons]; omega
  simp only [List.length_append, List.length_cons, List.length_nil]
  omega
theorem money_lenP (v : Int) (h0 : 0 ≤ v) (h1 : v ≤ 10000000000000) : (L2.moneyL v).length ≤ 40 := by
  unfold L2.moneyL L2.signL
  rw [if_neg (by omega), List.nil_append]
  have hd := (L2.dec_len v (i64_ofP h0 h1) 100).2
  simp only [List.length_append, List.length_cons, L2.fix_length]
  omega
theorem dec_lenP (v : Int) (h : v ≤ 99999) : (decDigits v.toNat).length ≤ 5 := dec_len 4 _ (by omega)
/-- A clause that is read as what it is. -/
structure Cls (c : Cl) : Prop where
  arg : ∀ q ∈ c.ws, Arg q
  len : (spL c.ws).length ≤ 76
  tell : ∃ w args, c.ws = w :: args ∧ which w = c.i ∧ c.i < 15 ∧ ∀ (p : Prd) (us ts : List Tok), us.map (·.text) = args → clauseR c.i p (us ++ ts) = .ok (c.f p, ts)
theorem map_one {us : List Tok} {q : List UInt8} (h : us.map (·.text) = [q]) : ∃ t, us = [t] ∧ t.text = q := by
  match us, h with
  | [t], h => exact ⟨t, rfl, by simpa using h⟩
theorem map_two {us : List Tok} {q r : List UInt8} (h : us.map (·.text) = [q, r]) : ∃ t u, us = [t, u] ∧ t.text = q ∧ u.text = r := by
  match us, h with
  | [t, u], h =>
    simp at h
    exact ⟨t, u, rfl, h.1, h.2⟩
theorem map_four {us : List Tok} {q r s x : List UInt8} (h : us.map (·.text) = [q, r, s, x]) : ∃ t u v w, us = [t, u, v, w] ∧ t.text = q ∧ u.text = r ∧ v.text = s ∧ w.text = x := by
  match us, h with
  | [t, u, v, w], h =>
    simp at h
    exact ⟨t, u, v, w, rfl, h.1, h.2.1, h.2.2.1, h.2.2.2⟩
/-- A clause of one word behind its own. -/
theorem cls_one {w q : List UInt8} {i : Nat} {g : Prd → Prd} (hw : Arg w) (hq : Arg q) (hl : w.length + q.length ≤ 75) (hi : which w = i) (h15 : i < 15)
    (h : ∀ (p : Prd) (t : Tok) (ts : List Tok), t.text = q → clauseR i p (t :: ts) = .ok (g p, ts)) : Cls ⟨[w, q], i, g⟩ := by
  refine ⟨fun a ha => ?_, ?_, w, [q], rfl, hi, h15, fun p us ts hus => ?_⟩
  · simp only [List.mem_cons, List.not_mem_nil, or_false] at ha
    rcases ha with rfl | rfl <;> assumption
  · simp only [spL, List.length_append, List.length_cons]; omega
  · obtain ⟨t, rfl, ht⟩ := map_one hus
    exact h p t ts ht
theorem cls_two {w q r : List UInt8} {i : Nat} {g : Prd → Prd} (hw : Arg w) (hq : Arg q) (hr : Arg r) (hl : w.length + q.length + r.length ≤ 74) (hi : which w = i) (h15 : i < 15)
    (h : ∀ (p : Prd) (t u : Tok) (ts : List Tok), t.text = q → u.text = r → clauseR i p (t :: u :: ts) = .ok (g p, ts)) : Cls ⟨[w, q, r], i, g⟩ := by
  refine ⟨fun a ha => ?_, ?_, w, [q, r], rfl, hi, h15, fun p us ts hus => ?_⟩
  · simp only [List.mem_cons, List.not_mem_nil, or_false] at ha
    rcases ha with rfl | rfl | rfl <;> assumption
  · simp only [spL, List.length_append, List.length_cons]; omega
  · obtain ⟨t, u, rfl, ht, hu⟩ := map_two hus
    exact h p t u ts ht hu
theorem num_dec {v : Int} (h0 : 0 ≤ v) (h1 : v ≤ 600) : numO (decDigits v.toNat) = some v := by
  have := num_of v (by omega) (by omega)
  rwa [show itoa v = decDigits v.toNat by unfold itoa; rw [if_neg (by omega)]] at this
theorem rate_O {v : Int} (h0 : 0 ≤ v) (h1 : v ≤ 1000000000) : rateO (L2.rateL v) = some v := by
  unfold rateO
  have hb : v.natAbs ≤ 10000000000 := by omega
  rw [L2.take_rate v, if_pos hb]
  rfl
theorem mon_O {v : Int} (h0 : 0 ≤ v) (h1 : v ≤ 10000000000000) : monO (L2.moneyL v) = some v := by
  unfold monO
  have hb : v.natAbs ≤ 1000000000000000 := by omega
  rw [L2.take_money v (i64_ofP h0 h1), if_pos hb]
  rfl
theorem day_O {n : Int} (h0 : -25567 ≤ n) (h1 : n ≤ 84370) : dayO (dayL n) = some n := by
  obtain ⟨hv, hn⟩ := L3.ofDay n h0 h1
  obtain ⟨k1, k2⟩ := L3.text_take _ _ _ hv
  unfold dayO dayL
  rw [k1, k2, hn]
  rfl
theorem cls_count {p : Prd} (hK : Okf p) : Cls (cCount p) := by
  have h := hK.cn
  have h2 : p.cn = 1 ∨ p.cn = 2 ∨ p.cn = 3 := by omega
  unfold cCount
  rcases h2 with h2 | h2 | h2
  · rw [h2]; exact cls_one (arg_word (c := 99) (m := [111, 117, 110, 116]) (by decide) (by decide)) (show Arg [116, 104, 105, 114, 116, 121] from arg_word (c := 116) (m := [104, 105, 114, 116, 121]) (by decide) (by decide)) (by decide) (by decide) (by decide) (fun q t ts ht => by rw [cl0 (v := 1) (by rw [ht]; decide)])
  · rw [h2]; exact cls_one (arg_word (c := 99) (m := [111, 117, 110, 116]) (by decide) (by decide)) (show Arg [102, 105, 120, 101, 100] from arg_word (c := 102) (m := [105, 120, 101, 100]) (by decide) (by decide)) (by decide) (by decide) (by decide) (fun q t ts ht => by rw [cl0 (v := 2) (by rw [ht]; decide)])
  · rw [h2]; exact cls_one (arg_word (c := 99) (m := [111, 117, 110, 116]) (by decide) (by decide)) (show Arg [97, 99, 116, 117, 97, 108] from arg_word (c := 97) (m := [99, 116, 117, 97, 108]) (by decide) (by decide)) (by decide) (by decide) (by decide) (fun q t ts ht => by rw [cl0 (v := 3) (by rw [ht]; decide)])
theorem cls_round {p : Prd} (hK : Okf p) : Cls (cRound p) := by
  have h := hK.rd
  have h2 : p.rd = 1 ∨ p.rd = 3 := by omega
  unfold cRound
  rcases h2 with h2 | h2
  · rw [h2]; exact cls_one (arg_word (c := 114) (m := [111, 117, 110, 100]) (by decide) (by decide)) (show Arg [104, 97, 108, 102, 45, 117, 112] from arg_word (c := 104) (m := [97, 108, 102, 45, 117, 112]) (by decide) (by decide)) (by decide) (by decide) (by decide) (fun q t ts ht => by rw [cl1 (v := 1) (by rw [ht]; decide)])
  · rw [h2]; exact cls_one (arg_word (c := 114) (m := [111, 117, 110, 100]) (by decide) (by decide)) (show Arg [100, 111, 119, 110] from arg_word (c := 100) (m := [111, 119, 110]) (by decide) (by decide)) (by decide) (by decide) (by decide) (fun q t ts ht => by rw [cl1 (v := 3) (by rw [ht]; decide)])
theorem cls_kind {p : Prd} (hK : Okf p) : Cls (cKind p) := by
  have h := hK.kd
  have h2 : p.kd = 1 ∨ p.kd = 2 ∨ p.kd = 3 := by omega
  unfold cKind
  rcases h2 with h2 | h2 | h2
  · rw [h2]; exact cls_one (arg_word (c := 107) (m := [105, 110, 100]) (by decide) (by decide)) (show Arg [97, 110, 110, 117, 105, 116, 121] from arg_word (c := 97) (m := [110, 110, 117, 105, 116, 121]) (by decide) (by decide)) (by decide) (by decide) (by decide) (fun q t ts ht => by rw [cl2 (v := 1) (by rw [ht]; decide)])
  · rw [h2]; exact cls_one (arg_word (c := 107) (m := [105, 110, 100]) (by decide) (by decide)) (show Arg [101, 113, 117, 97, 108] from arg_word (c := 101) (m := [113, 117, 97, 108]) (by decide) (by decide)) (by decide) (by decide) (by decide) (fun q t ts ht => by rw [cl2 (v := 2) (by rw [ht]; decide)])
  · rw [h2]; exact cls_one (arg_word (c := 107) (m := [105, 110, 100]) (by decide) (by decide)) (show Arg [98, 117, 108, 108, 101, 116] from arg_word (c := 98) (m := [117, 108, 108, 101, 116]) (by decide) (by decide)) (by decide) (by decide) (by decide) (fun q t ts ht => by rw [cl2 (v := 3) (by rw [ht]; decide)])
theorem cls_every {p : Prd} (hK : Okf p) : Cls (cEvery p) := by
  have h := hK.ev
  have hl := dec_lenP p.ev (by omega)
  exact cls_one (arg_word (c := 101) (m := [118, 101, 114, 121]) (by decide) (by decide)) (arg_dec _) (by simp only [List.length_cons, List.length_nil]; omega) (by decide) (by decide) (fun q t ts ht => by rw [cl3 (v := p.ev) (by rw [ht]; exact num_dec (by omega) (by omega))])
theorem cls_times {p : Prd} (hK : Okf p) : Cls (cTimes p) := by
  have h := hK.tm
  have hl := dec_lenP p.tm (by omega)
  exact cls_one (arg_word (c := 116) (m := [105, 109, 101, 115]) (by decide) (by decide)) (arg_dec _) (by simp only [List.length_cons, List.length_nil]; omega) (by decide) (by decide) (fun q t ts ht => by rw [cl4 (v := p.tm) (by rw [ht]; exact num_dec (by omega) (by omega))])
theorem cls_grace {p : Prd} (hK : Okf p) : Cls (cGrace p) := by
  have h := hK.gr
  have hl := dec_lenP p.gr (by omega)
  exact cls_one (arg_word (c := 103) (m := [114, 97, 99, 101]) (by decide) (by decide)) (arg_dec _) (by simp only [List.length_cons, List.length_nil]; omega) (by decide) (by decide) (fun q t ts ht => by rw [cl5 (v := p.gr) (by rw [ht]; exact num_dec (by omega) (by omega))])
theorem cls_rate {p : Prd} (hK : Okf p) : Cls (cRate p) := by
  have h := hK.rt
  have hl := rate_lenP p.rt (by omega) (by omega)
  exact cls_one (arg_word (c := 114) (m := [97, 116, 101]) (by decide) (by decide)) (arg_rate _ (by omega)) (by simp only [List.length_cons, List.length_nil]; omega) (by decide) (by decide) (fun q t ts ht => by rw [cl6 (v := p.rt) (by rw [ht]; exact rate_O (by omega) (by omega))])
theorem cls_penalty {p : Prd} (hK : Okf p) : Cls (cPenalty p) := by
  have h := hK.pn
  have hl := rate_lenP p.pn (by omega) (by omega)
  exact cls_one (arg_word (c := 112) (m := [101, 110, 97, 108, 116, 121]) (by decide) (by decide)) (arg_rate _ (by omega)) (by simp only [List.length_cons, List.length_nil]; omega) (by decide) (by decide) (fun q t ts ht => by rw [cl7 (v := p.pn) (by rw [ht]; exact rate_O (by omega) (by omega))])
theorem cls_reset {x : Int × Int} (h : 0 ≤ x.1 ∧ x.1 ≤ 600 ∧ 0 ≤ x.2 ∧ x.2 ≤ 1000000000) : Cls (cReset x) := by
  obtain ⟨u, v⟩ := x
  simp only [] at h
  have hl := dec_lenP u (by omega)
  have hl2 := rate_lenP v (by omega) (by omega)
  exact cls_two (arg_word (c := 114) (m := [101, 115, 101, 116]) (by decide) (by decide)) (arg_dec _) (arg_rate _ (by omega)) (by simp only [List.length_cons, List.length_nil]; omega) (by decide) (by decide) (fun q t s ts ht hs => by rw [cl8 (v := u) (x := v) (by rw [ht]; exact num_dec (by omega) (by omega)) (by rw [hs]; exact rate_O (by omega) (by omega))])
theorem cls_late {x : Int × Int} (h : 0 ≤ x.1 ∧ x.1 ≤ 365 ∧ 0 ≤ x.2 ∧ x.2 ≤ 10000000000000) : Cls (cLate x) := by
  obtain ⟨u, v⟩ := x
  simp only [] at h
  have hl := dec_lenP u (by omega)
  have hl2 := money_lenP v (by omega) (by omega)
  exact cls_two (arg_word (c := 108) (m := [97, 116, 101]) (by decide) (by decide)) (arg_dec _) (arg_money _ (by omega)) (by simp only [List.length_cons, List.length_nil]; omega) (by decide) (by decide) (fun q t s ts ht hs => by rw [cl9 (v := u) (x := v) (by rw [ht]; exact num_dec (by omega) (by omega)) (by rw [hs]; exact mon_O (by omega) (by omega))])
theorem cls_cap {p : Prd} (hK : Okf p) : Cls (cCap p) := by
  have h := hK.cp
  have hl := money_lenP p.cp (by omega) (by omega)
  exact cls_one (arg_word (c := 99) (m := [97, 112]) (by decide) (by decide)) (arg_money _ (by omega)) (by simp only [List.length_cons, List.length_nil]; omega) (by decide) (by decide) (fun q t ts ht => by rw [cl10 (v := p.cp) (by rw [ht]; exact mon_O (by omega) (by omega))])
theorem cls_hol {x : Int} (h : -25567 ≤ x ∧ x ≤ 84370) : Cls (cHol x) := by
  have hl := day_len x
  exact cls_one (arg_word (c := 104) (m := [111, 108, 105, 100, 97, 121]) (by decide) (by decide)) (arg_day _) (by simp only [List.length_cons, List.length_nil]; omega) (by decide) (by decide) (fun q t ts ht => by rw [cl11 (v := x) (by rw [ht]; exact day_O h.1 h.2)])
theorem cls_over {p : Prd} (hK : Okf p) : Cls (cOver p) := by
  have h := hK.ov
  have h2 : p.ov = 1 ∨ p.ov = 2 ∨ p.ov = 3 := by omega
  unfold cOver
  rcases h2 with h2 | h2 | h2
  · rw [h2]; exact cls_one (arg_word (c := 111) (m := [118, 101, 114]) (by decide) (by decide)) (show Arg [104, 111, 108, 100] from arg_word (c := 104) (m := [111, 108, 100]) (by decide) (by decide)) (by decide) (by decide) (by decide) (fun q t ts ht => by rw [cl13 (v := 1) (by rw [ht]; decide)])
  · rw [h2]; exact cls_one (arg_word (c := 111) (m := [118, 101, 114]) (by decide) (by decide)) (show Arg [112, 114, 101, 112, 97, 121] from arg_word (c := 112) (m := [114, 101, 112, 97, 121]) (by decide) (by decide)) (by decide) (by decide) (by decide) (fun q t ts ht => by rw [cl13 (v := 2) (by rw [ht]; decide)])
  · rw [h2]; exact cls_one (arg_word (c := 111) (m := [118, 101, 114]) (by decide) (by decide)) (show Arg [114, 101, 102, 117, 110, 100] from arg_word (c := 114) (m := [101, 102, 117, 110, 100]) (by decide) (by decide)) (by decide) (by decide) (by decide) (fun q t ts ht => by rw [cl13 (v := 3) (by rw [ht]; decide)])
theorem cls_roll {p : Prd} (hK : Okf p) : Cls (cRoll p) := by
  have h := hK.rl
  have h2 : p.rl = 1 ∨ p.rl = 2 ∨ p.rl = 3 ∨ p.rl = 4 := by omega
  unfold cRoll
  rcases h2 with h2 | h2 | h2 | h2
  · rw [h2]; exact cls_one (arg_word (c := 114) (m := [111, 108, 108]) (by decide) (by decide)) (show Arg [115, 116, 97, 121] from arg_word (c := 115) (m := [116, 97, 121]) (by decide) (by decide)) (by decide) (by decide) (by decide) (fun q t ts ht => by rw [cl14 (v := 1) (by rw [ht]; decide)])
  · rw [h2]; exact cls_one (arg_word (c := 114) (m := [111, 108, 108]) (by decide) (by decide)) (show Arg [110, 101, 120, 116] from arg_word (c := 110) (m := [101, 120, 116]) (by decide) (by decide)) (by decide) (by decide) (by decide) (fun q t ts ht => by rw [cl14 (v := 2) (by rw [ht]; decide)])
  · rw [h2]; exact cls_one (arg_word (c := 114) (m := [111, 108, 108]) (by decide) (by decide)) (show Arg [119, 105, 116, 104, 105, 110] from arg_word (c := 119) (m := [105, 116, 104, 105, 110]) (by decide) (by decide)) (by decide) (by decide) (by decide) (fun q t ts ht => by rw [cl14 (v := 3) (by rw [ht]; decide)])
  · rw [h2]; exact cls_one (arg_word (c := 114) (m := [111, 108, 108]) (by decide) (by decide)) (show Arg [112, 114, 101, 118, 105, 111, 117, 115] from arg_word (c := 112) (m := [114, 101, 118, 105, 111, 117, 115]) (by decide) (by decide)) (by decide) (by decide) (by decide) (fun q t ts ht => by rw [cl14 (v := 4) (by rw [ht]; decide)])
/-- Four kinds, each once: which words are left to choose from, each time. -/
def okO (a b c d : Int) : Bool := !L8.r7B a b c d || (decide (pick oOrder (nthL txOrder a) = some a) && (decide (pick (lessO oOrder a) (nthL txOrder b) = some b) && (decide (pick (lessO (lessO oOrder a) b) (nthL txOrder c) = some c) && decide (pick (lessO (lessO (lessO oOrder a) b) c) (nthL txOrder d) = some d))))
theorem okO_all : ([1, 2, 3, 4] : List Int).all (fun a => ([1, 2, 3, 4] : List Int).all fun b => ([1, 2, 3, 4] : List Int).all fun c => ([1, 2, 3, 4] : List Int).all fun d => okO a b c d) = true := by decide +kernel
theorem in4 {a : Int} (h : 1 ≤ a ∧ a ≤ 4) : a ∈ ([1, 2, 3, 4] : List Int) := by
  have : a = 1 ∨ a = 2 ∨ a = 3 ∨ a = 4 := by omega
  rcases this with rfl | rfl | rfl | rfl <;> decide
theorem arg_order {a : Int} (h : 1 ≤ a ∧ a ≤ 4) : Arg (nthL txOrder a) ∧ (nthL txOrder a).length ≤ 9 := by
  have : a = 1 ∨ a = 2 ∨ a = 3 ∨ a = 4 := by omega
  rcases this with rfl | rfl | rfl | rfl

  · exact ⟨show Arg [102, 101, 101, 115] from arg_word (c := 102) (m := [101, 101, 115]) (by decide) (by decide), by decide⟩
  · exact ⟨show Arg [112, 101, 110, 97, 108, 116, 121] from arg_word (c := 112) (m := [101, 110, 97, 108, 116, 121]) (by decide) (by decide), by decide⟩
  · exact ⟨show Arg [105, 110, 116, 101, 114, 101, 115, 116] from arg_word (c := 105) (m := [110, 116, 101, 114, 101, 115, 116]) (by decide) (by decide), by decide⟩
  · exact ⟨show Arg [112, 114, 105, 110, 99, 105, 112, 97, 108] from arg_word (c := 112) (m := [114, 105, 110, 99, 105, 112, 97, 108]) (by decide) (by decide), by decide⟩
theorem cls_order {p : Prd} (hK : Okf p) (h7 : L8.r7B p.o0 p.o1 p.o2 p.o3 = true) : Cls (cOrder p) := by
  have h := List.all_eq_true.1 (List.all_eq_true.1 (List.all_eq_true.1 (List.all_eq_true.1 okO_all _ (in4 hK.o0)) _ (in4 hK.o1)) _ (in4 hK.o2)) _ (in4 hK.o3)
  unfold okO at h
  rw [h7] at h
  simp only [Bool.not_true, Bool.false_or, Bool.and_eq_true, decide_eq_true_eq] at h
  obtain ⟨k0, k1, k2, k3⟩ := h
  obtain ⟨a0, l0⟩ := arg_order hK.o0
  obtain ⟨a1, l1⟩ := arg_order hK.o1
  obtain ⟨a2, l2⟩ := arg_order hK.o2
  obtain ⟨a3, l3⟩ := arg_order hK.o3
  refine ⟨fun a ha => ?_, ?_, [111, 114, 100, 101, 114], [nthL txOrder p.o0, nthL txOrder p.o1, nthL txOrder p.o2, nthL txOrder p.o3], rfl, by show which _ = 12; decide, by show 12 < 15; decide, fun q us ts hus => ?_⟩
  · simp only [cOrder, List.mem_cons, List.not_mem_nil, or_false] at ha
    rcases ha with rfl | rfl | rfl | rfl | rfl
    · exact arg_word (c := 111) (m := [114, 100, 101, 114]) (by decide) (by decide)
    · exact a0
    · exact a1
    · exact a2
    · exact a3
  · simp only [cOrder, spL, List.length_append, List.length_cons, List.length_nil]; omega
  · obtain ⟨t, u, v, w, rfl, e0, e1, e2, e3⟩ := map_four hus
    show clauseR 12 q (t :: u :: v :: w :: ts) = _
    rw [cl12 (a := p.o0) (b := p.o1) (c := p.o2) (d := p.o3) (by rw [e0]; exact k0) (by rw [e1]; exact k1) (by rw [e2]; exact k2) (by rw [e3]; exact k3)]
    rfl
/-- All of them. -/
theorem cls_all {p : Prd} (hp : okP p = true) : ∀ c ∈ cls p, Cls c := by
  have hK := okf hp
  have h7 : L8.r7B p.o0 p.o1 p.o2 p.o3 = true := by
    unfold okP at hp
    simp only [Bool.and_eq_true] at hp
    exact hp.2.2.2.2.2.2.2.1
  intro c hc
  rw [cls_eq] at hc
  simp only [List.mem_append, List.mem_cons, List.not_mem_nil, or_false, List.mem_map] at hc
  rcases hc with (rfl | rfl | rfl | rfl | rfl | rfl | rfl | rfl) | ⟨x, hx, rfl⟩ | (rfl | rfl) | ⟨x, hx, rfl⟩ | (rfl | rfl) | ⟨x, hx, rfl⟩
  · exact cls_count hK
  · exact cls_round hK
  · exact cls_kind hK
  · exact cls_every hK
  · exact cls_times hK
  · exact cls_grace hK
  · exact cls_rate hK
  · exact cls_penalty hK
  · exact cls_reset (hK.rs x hx)
  · exact cls_order hK h7
  · exact cls_over hK
  · exact cls_late (hK.lt x hx)
  · exact cls_cap hK
  · exact cls_roll hK
  · exact cls_hol (hK.hd x hx)
theorem rows_len : ∀ l : List Cl, (∀ c ∈ l, Cls c) → (rowsL l).length ≤ 80 * l.length
  | [], _ => Nat.le_refl _
  | c :: l, h => by
    have h1 := (h c (by simp)).len
    have h2 := rows_len l (fun d hd => h d (by simp [hd]))
    rw [rowsL_cons, List.length_append]
    have e : (rowL c).length = (spL c.ws).length + 4 := by unfold rowL lineL; simp
    simp only [List.length_cons]
    omega
theorem cls_len (p : Prd) : (cls p).length = 12 + p.rs.length + p.lt.length + p.hd.length := by
  rw [cls_eq]
  simp
  omega
theorem top_len (l : List UInt8) : (topL l).length = l.length + 11 := by unfold topL; simp
theorem prt_len {p : Prd} (hp : okP p = true) : (prt p).length ≤ 19300 := by
  have hK := okf hp
  have h1 := rows_len _ (cls_all hp)
  rw [cls_len] at h1
  have := hK.nl; have := hK.rl_; have := hK.ll; have := hK.hl
  unfold prt
  rw [List.length_append, List.length_append, top_len]
  simp only [List.length_cons, List.length_nil]
  omega
end Go.Proofs.YtbnpaeejlfaboaaGreatDoor

namespace Go.Proofs.YtbnpaeejlfaboaaGreatDoor
open Go.RowKit Go.Lib
set_option linter.unusedVariables false
/-- A writer's cells: its product's, and its builder's two. -/
def wcells (p : Prd) (vr vl vh ad bf : Value) : Array Value := #[.string ⟨p.nm.toArray⟩, .int .i64 p.cn, .int .i64 p.rd, .int .i64 p.kd, .int .i64 p.ev, .int .i64 p.tm, .int .i64 p.gr, .int .i64 p.rt, vr, .int .i64 p.pn, .int .i64 p.o0, .int .i64 p.o1, .int .i64 p.o2, .int .i64 p.o3, .int .i64 p.ov, vl, .int .i64 p.cp, .int .i64 p.rl, vh, ad, bf]
/-- A writer in a block of its own, made behind w0, and what it has written. -/
structure Wrt (w0 w : World) (b : Nat) (p : Prd) (vr vl vh : Value) (l : List UInt8) : Prop where
  ext : Ext w0 w
  lo : w0.heap.size ≤ b
  row : ∃ ad bf, w.heap[b]? = some (Obj.cells (wcells p vr vl vh ad bf) 73 (0, 0)) ∧ (ad = .pointer none ∨ ad = .pointer (some ⟨b, 19, none⟩)) ∧ w.ownsRow w0.heap.size 5 1 bf l.length (Lib.byteCells l)
theorem Wrt.on {w0 w w' : World} {b : Nat} {p : Prd} {vr vl vh : Value} {l : List UInt8} (h : Wrt w0 w b p vr vl vh l) (hx : Ext w w') : Wrt w0 w' b p vr vl vh l := by
  obtain ⟨ad, bf, h1, h2, h3⟩ := h.row
  exact ⟨h.ext.trans hx, h.lo, ad, bf, (hx.below.block b (Array.getElem?_eq_some_iff.1 h1).1).trans h1, h2, L7.own_ext h3 hx⟩
theorem Wrt.lt {w0 w : World} {b : Nat} {p : Prd} {vr vl vh : Value} {l : List UInt8} (h : Wrt w0 w b p vr vl vh l) : b < w.heap.size := by
  obtain ⟨ad, bf, h1, _⟩ := h.row
  exact (Array.getElem?_eq_some_iff.1 h1).1
theorem Wrt.cell {w0 w : World} {b : Nat} {p : Prd} {vr vl vh : Value} {l : List UInt8} (h : Wrt w0 w b p vr vl vh l) {k : Nat} {v : Value} (hk : k < 19) (hv : (wcells p vr vl vh (.pointer none) (.pointer none))[k]? = some v) : w.cell? ⟨b, k, none⟩ = some v := by
  obtain ⟨ad, bf, h1, _⟩ := h.row
  refine (cell_of_row w b k _ _ _ h1).trans (Eq.trans ?_ hv)
  match k, hk with
  | 0, _ => rfl
  | 1, _ => rfl
  | 2, _ => rfl
  | 3, _ => rfl
  | 4, _ => rfl
  | 5, _ => rfl
  | 6, _ => rfl
  | 7, _ => rfl
  | 8, _ => rfl
  | 9, _ => rfl
  | 10, _ => rfl
  | 11, _ => rfl
  | 12, _ => rfl
  | 13, _ => rfl
  | 14, _ => rfl
  | 15, _ => rfl
  | 16, _ => rfl
  | 17, _ => rfl
  | 18, _ => rfl
  | k + 19, hk => omega
theorem row_other {w : World} {B : Nat} {v : Value} {n b : Nat} {xs : List Value} {cs : Array Value} (h : w.ownsRow B 5 1 v n xs) (hb : w.heap[b]? = some (Obj.cells cs 73 (0, 0))) : v.ownBlock ≠ some b := ownBlock_ne h hb (by decide)
/-- A store into the writer's own block: what was appended to lies elsewhere. -/
theorem own_set {w : World} {B : Nat} {v x : Value} {n b o : Nat} {xs : List Value} {cs : Array Value} (h : w.ownsRow B 5 1 v n xs) (hb : w.heap[b]? = some (Obj.cells cs 73 (0, 0))) : (w.setCell ⟨b, o, none⟩ x).ownsRow B 5 1 v n xs :=
  own_keep h fun k cur hk => heap_setCell_other _ _ _ _ (by
    show k ≠ b
    rintro rfl
    have := hk.symm.trans hb
    simp at this)
/-- What has turned are bytes, and the writer's own block, alone. -/
structure Stp (b : Nat) (w w' : World) : Prop where
  keep : ∀ (k : Nat) (T : TypeId) (cur : Array Value), T ≠ 5 → k ≠ b → w.heap[k]? = some (Obj.cells cur T (0, 0)) → w'.heap[k]? = some (Obj.cells cur T (0, 0))
  size : w.heap.size ≤ w'.heap.size
theorem Stp.refl (b : Nat) (w : World) : Stp b w w := ⟨fun _ _ _ _ _ h => h, Nat.le_refl _⟩
theorem Stp.trans {b : Nat} {u v w : World} (h : Stp b u v) (k : Stp b v w) : Stp b u w := ⟨fun i T cur h1 h2 h3 => k.keep i T cur h1 h2 (h.keep i T cur h1 h2 h3), Nat.le_trans h.size k.size⟩
theorem Stp.of {b : Nat} {w w' : World} (hx : Ext w w') : Stp b w w' := ⟨fun k _ _ _ _ h => (hx.below.block k (Array.getElem?_eq_some_iff.1 h).1).trans h, hx.size⟩
theorem Stp.set (b : Nat) (w : World) (o : Nat) (v : Value) : Stp b w (w.setCell ⟨b, o, none⟩ v) := ⟨fun k _ _ _ hk h => (heap_setCell_other _ _ _ _ hk).trans h, by simp [World.setCell]⟩
theorem Stp.grown {b : Nat} {w w' : World} {B n : Nat} {v : Value} {xs : List Value} (h : w.grownBy w' v.ownBlock) (hown : w.ownsRow B 5 1 v n xs) : Stp b w w' :=
  ⟨fun k T cur hT _ hk => (h.block k (Array.getElem?_eq_some_iff.1 hk).1 (fun e => ownBlock_ne hown hk hT e.symm)).trans hk, h.size⟩
theorem Stp.cell {b : Nat} {w w' : World} (h : Stp b w w') {k o : Nat} {T : TypeId} {cur : Array Value} (hT : T ≠ 5) (hk : k ≠ b) (hb : w.heap[k]? = some (Obj.cells cur T (0, 0))) : w'.cell? ⟨k, o, none⟩ = cur[o]? := cell_of_row w' k o _ _ _ (h.keep k T cur hT hk hb)
theorem infoB : ∃ j, Tryz.prog.info? 71 = some j ∧ j.size = 2 := by
  obtain ⟨j, h1, h2⟩ := Option.map_eq_some_iff.1 (show (Tryz.prog.info? 71).map (·.size) = some 2 by kernel_rfl)
  exact ⟨j, h1, h2⟩
theorem infoU : (Tryz.prog.info? 5).map (fun i => (i.zero, i.size, i.bytes)) = some (some (.int .u8 0), 1, 1) := by kernel_rfl
theorem liesB : liesAt Tryz.prog Tryz.prog.depth 73 (21 / Tryz.prog.cellsOf 73) 19 71 1 = true := by kernel_rfl
set_option maxRecDepth 100000 in
set_option maxHeartbeats 1000000 in
theorem copyCheck_w (w0 w : World) (b : Nat) (p : Prd) (vr vl vh : Value) (l : List UInt8) (h : Wrt w0 w b p vr vl vh l) :
    Calls Tryz.prog 67 #[.pointer (some ⟨b, 19, none⟩)] w fun e w' => e = .returned (.tuple #[]) ∧ Wrt w0 w' b p vr vl vh l ∧ Stp b w w' := by
  obtain ⟨ad, bf, hr, hor, hown⟩ := h.row
  obtain ⟨j, hj, hjs⟩ := infoB
  have hb := h.lt
  have hlo := h.lo
  have hsh : w.shape? b = some (73, 21) := by simp [World.shape?, hr, wcells]
  have c19 := (cell_of_row w b 19 _ _ _ hr).trans (show _ = some ad from rfl)
  have fz : w.frozen? ⟨b, 19, none⟩ = false := by simp [World.frozen?, hr]
  rcases hor with rfl | rfl
  · go_enter Tryz.func67, Tryz.ntmps67
    go_wp2
    rw [Lib.run_to_unsafe w ⟨b, 19, none⟩ Tryz.underlying68 Tryz.underlying123 hj (by rw [hjs]; decide) hsh (by show 19 < 21; decide)]
    simp only [Result.andThen]
    rw [Oper.upon_value]
    go_wp2
    rw [run_callFunc_extern Tryz.func112 (by kernel_rfl) (by kernel_rfl) (by kernel_rfl) (e := Extern.AbiNoEscape.same) (by kernel_rfl)]
    rw [Lib.run_noEscape]
    simp only [Result.andThen]
    rw [Oper.upon_value]
    go_wp2
    rw [Lib.run_from_unsafe w ⟨b, 19, none⟩ Tryz.underlying123 Tryz.underlying68 hj hsh liesB]
    simp only [Result.andThen]
    rw [Oper.upon_value]
    go_wp2
    go_end0
    refine ⟨rfl, ⟨h.ext.setCell hlo _, hlo, .pointer (some ⟨b, 19, none⟩), bf, ?_, Or.inr rfl, own_set hown hr⟩, Stp.set _ _ _ _⟩
    simp [World.setCell, Array.getElem?_modify, hr, wcells]
  · go_enter Tryz.func67, Tryz.ntmps67
    go_wp2
    rw [Lib.run_neq_ptr_same w _ Tryz.underlying68 hj]
    go_wp2
    go_end0
    exact ⟨rfl, h, Stp.refl _ _⟩
set_option maxRecDepth 100000 in
set_option maxHeartbeats 2000000 in
/-- What is written stands behind what was. -/
theorem WriteString_w (w0 w : World) (b : Nat) (p : Prd) (vr vl vh : Value) (l s : List UInt8) (h : Wrt w0 w b p vr vl vh l) (hl : l.length + s.length ≤ 140737488355328) :
    Calls Tryz.prog 34 #[.pointer (some ⟨b, 19, none⟩), .string ⟨s.toArray⟩] w fun e w' => e = .returned (.tuple #[.int .i64 s.length, .nilIface]) ∧ Wrt w0 w' b p vr vl vh (l ++ s) ∧ Stp b w w' := by
  obtain ⟨i0, hi, hz0, hz1, hz2⟩ := info_parts infoU
  have hC := show Hid _ from copyCheck_w w0 w b p vr vl vh l h
  have hlo := show Hid _ from h.lo
  clear h
  go_enter Tryz.func34, Tryz.ntmps34
  go_wp2_with fail
  refine Calls.mono hC.out ?_
  rintro e w1 ⟨rfl, h1, hs1⟩
  clear hC
  obtain ⟨ad, bf, hr, hor, hown⟩ := h1.row
  have hx1 := show Hid _ from h1.ext
  have hb := show Hid _ from h1.lt
  clear h1
  have c20 := (cell_of_row w1 b 20 _ _ _ hr).trans (show _ = some bf from rfl)
  go_wp2_with (at_builtin; refine Lib.wpList_append_own_string _ rfl _ _ 69 9 rfl w0.heap.size 5 i0 Tryz.underlying69 Tryz.underlying9 hi hz0 hz1 hz2 _ _ _ rfl hown ⟨s.toArray⟩ rfl ?c3 ?c4 ?c5 ?_)
  case c3 => simp only [Lib.size_mk]; unfold maxLen; omega
  case c4 => simp only [Lib.size_mk]; omega
  case c5 => exact hx1.out.size
  intro v' w2 hown' hgrow _
  try simp only [Lib.size_mk] at hown'
  have hne := row_other hown hr
  have hb2 : w2.heap[b]? = some (Obj.cells (wcells p vr vl vh ad bf) 73 (0, 0)) := by
    rw [hgrow.block b hb.out (fun e => hne e.symm)]
    exact hr
  have d20 := (cell_of_row w2 b 20 _ _ _ hb2).trans (show _ = some bf from rfl)
  have f20 : w2.frozen? ⟨b, 20, none⟩ = false := by simp [World.frozen?, hb2]
  have hx2 := show Hid (Ext w0 w2) from ⟨hx1.out.below.grown hgrow hx1.out.size (fun k hk => (hown.lt k hk).1)⟩
  obtain ⟨ao, n', cap, rfl⟩ : ∃ ao n' cap, v' = .slice ao n' cap := by
    rcases hown'.2 with ⟨hv, _⟩ | ⟨g, cap, cur, hv, _⟩
    · exact ⟨_, _, _, hv⟩
    · exact ⟨_, _, _, hv⟩
  have hs2 := show Hid _ from hs1.trans (Stp.grown hgrow hown)
  clear hs1
  replace hb2 := show Hid _ from hb2
  replace hown' := show Hid _ from hown'
  replace hor := show Hid _ from hor
  clear hgrow hown hr c20 hi hz0 hz1 hz2 hne
  go_wp2
  go_ret2
  refine ⟨rfl, ⟨hx2.out.setCell hlo.out _, hlo.out, ad, .slice ao n' cap, ?_, hor.out, ?_⟩, hs2.out.trans (Stp.set _ _ _ _)⟩
  · have := hb2.out
    simp [World.setCell, Array.getElem?_modify, this, wcells]
  · have := own_set (o := 20) (x := .slice ao n' cap) hown'.out hb2.out
    have e : Lib.byteCells l ++ strCells ⟨s.toArray⟩ = Lib.byteCells (l ++ s) := by simp [Lib.byteCells, strCells]
    rw [e] at this
    simpa using this
set_option maxRecDepth 100000 in
set_option maxHeartbeats 1000000 in
/-- What was written, as a string. -/
theorem String_w (w0 w : World) (b : Nat) (p : Prd) (vr vl vh : Value) (l : List UInt8) (h : Wrt w0 w b p vr vl vh l) (h0 : l ≠ []) :
    Calls Tryz.prog 36 #[.pointer (some ⟨b, 19, none⟩)] w fun e w' => e = .returned (.string ⟨l.toArray⟩) ∧ Ext w0 w' := by
  obtain ⟨ad, bf, hr, hor, hown⟩ := h.row
  have hx := show Hid _ from h.ext
  have hl0 : l.length ≠ 0 := by simpa using h0
  obtain ⟨g, cap, cur, rfl, hbg, hg, hnc, hcm, hcs, htake⟩ : ∃ g cap cur, bf = .slice (some ⟨g, 0, none⟩) l.length cap ∧ w0.heap.size ≤ g ∧ w.heap[g]? = some (Obj.cells cur 5 (0, 0)) ∧ l.length ≤ cap ∧ cap ≤ maxLen ∧ cur.size = cap * 1 ∧ cur.toList.take (l.length * 1) = Lib.byteCells l := by
    rcases hown.2 with ⟨_, hz⟩ | ⟨g, cap, cur, hv, r⟩
    · exact absurd hz hl0
    · exact ⟨g, cap, cur, hv, r⟩
  have c20 : w.drew.cell? ⟨b, 20, none⟩ = some (.slice (some ⟨g, 0, none⟩) l.length cap) := (cell_of_row w b 20 _ _ _ hr).trans rfl
  have hSD : (Builtin.unsafeSliceData_ #[69] 105 #[.slice (some ⟨g, 0, none⟩) l.length cap]).run Tryz.prog w.drew = .ok (.pointer (some ⟨g, 0, none⟩)) w.drew :=
    Lib.run_unsafeSliceData_row _ _ _ _ _ _ (by omega)
  have hUS : (Builtin.unsafeString_ #[105, 3] 9 #[.pointer (some ⟨g, 0, none⟩), .int .i64 l.length]).run Tryz.prog w.drew = .ok (.string ⟨l.toArray⟩) (w.drew.freeze ⟨g, 0, none⟩ l.length) := by
    refine Lib.run_unsafeString_row w.drew 105 3 9 5 Tryz.underlying105 (by kernel_rfl) g cur.size (by have hg' : w.drew.heap[g]? = some (Obj.cells cur 5 (0, 0)) := hg; simp [World.shape?, hg']) l h0 (by omega) (by unfold maxLen at hcm; omega) ?_
    intro j x hx
    have := hown.cells (g := g) rfl j (.int .u8 x.toNat) (by simp [Lib.byteCells, hx])
    exact this
  have mixed : Tryz.prog.follows .mixedOrders = true := by kernel_rfl
  clear h hown htake
  go_enter Tryz.func36, Tryz.ntmps36
  go_wp2
  go_region_o
  all_goals (go_wp2; go_ret; exact ⟨rfl, ⟨Lib.below_freeze hx.out.below.drew (p := ⟨g, 0, none⟩) hbg _⟩⟩)
end Go.Proofs.YtbnpaeejlfaboaaGreatDoor

namespace Go.Proofs.YtbnpaeejlfaboaaGreatDoor
open Go.RowKit Go.Lib
set_option linter.unusedVariables false
theorem join_sp : ∀ l : List (List UInt8), Lib.join l [32] = spL l
  | [] => rfl
  | [a] => Lib.join_one a [32]
  | a :: b :: s => by
    have ih := join_sp (b :: s)
    rw [Lib.join_cons] at ih ⊢
    show a ++ Lib.joinTail [32] (b :: s) = a ++ 32 :: spL (b :: s)
    rw [← ih]
    unfold Lib.joinTail
    simp
theorem Join_w (ws : List (List UInt8)) (d c : Nat) (w : World) (hS : L8.Strs w d ws) (hd : d < w.heap.size) (hc : ws.length ≤ c) (hn : ws.length ≤ 100) (hl : (spL ws).length ≤ 100000) :
    Calls Tryz.prog 139 #[.slice (some ⟨d, 0, none⟩) ws.length c, .string ⟨#[32]⟩] w fun e w' => e = .returned (.string ⟨(spL ws).toArray⟩) ∧ Ext w w' := by
  have hm : (ws.map fun u => (⟨u.toArray⟩ : ByteArray)).map (·.data.toList) = ws := by
    rw [List.map_map]
    conv => rhs; rw [← List.map_id ws]
    exact List.map_congr_left fun u _ => by simp
  have h := Tryz.strings_Join d 0 c (ws.map fun u => (⟨u.toArray⟩ : ByteArray)) ⟨#[32]⟩ w
    (fun j x hx => by
      rw [List.getElem?_map] at hx
      cases hj : ws[j]? with
      | none => rw [hj] at hx; cases hx
      | some u =>
        rw [hj] at hx
        obtain rfl := Option.some.inj hx
        rw [Nat.zero_add]
        exact hS j u hj) hd (by rw [List.length_map]; omega) (by rw [List.length_map]; exact hc)
    (by rw [hm, show (⟨#[32]⟩ : ByteArray).data.toList = [32] from rfl, join_sp]; omega)
  rw [hm, show (⟨#[32]⟩ : ByteArray).data.toList = [32] from rfl, join_sp, List.length_map] at h
  exact h.mono fun e w' ⟨he, hb⟩ => ⟨he, ⟨hb⟩⟩
set_option maxRecDepth 100000 in
set_option maxHeartbeats 2000000 in
theorem line_w (w0 w : World) (b : Nat) (p : Prd) (vr vl vh : Value) (l : List UInt8) (ws : List (List UInt8)) (d c n : Nat) (h : Wrt w0 w b p vr vl vh l) (hS : L8.Strs w d ws) (hd : d < w.heap.size) (hn : ws.length = n) (hc : n ≤ c) (hn2 : n ≤ 100) (hl : l.length ≤ 100000) (hq : (spL ws).length ≤ 1000) :
    Calls Tryz.prog 113 #[.pointer (some ⟨b, 0, none⟩), .slice (some ⟨d, 0, none⟩) n c] w fun e w' => e = .returned (.tuple #[]) ∧ Wrt w0 w' b p vr vl vh (l ++ lineL (spL ws)) ∧ Stp b w w' := by
  have hJ := fun W (hx : Ext w W) => Join_w ws d c W (fun k x hk => hx.cell_of (hS k x hk)) (Nat.lt_of_lt_of_le hd hx.size) (by omega) (by omega) (by omega)
  rw [hn] at hJ
  have hL : lineL (spL ws) = 32 :: 32 :: (spL ws ++ [59, 10]) := rfl
  rw [hL]
  clear hL hS hd
  generalize spL ws = q at *
  have g1 : ¬ 9223372036854775807 < 2 + q.length := by omega
  have g2 : ¬ 9223372036854775807 < 2 + q.length + 2 := by omega
  have g3 : ¬ 9223372036854775807 < 2 + (q.length + 2) := by omega
  have g4 : ¬ 9223372036854775807 < q.length + 1 + 1 := by omega
  have g5 : ¬ 9223372036854775807 < q.length + 1 + 1 + 2 := by omega
  have hWS := fun (W : World) (hW : Wrt w0 W b p vr vl vh l) => WriteString_w w0 W b p vr vl vh l (32 :: 32 :: (q ++ [59, 10])) hW (by simp only [List.length_cons, List.length_append, List.length_nil]; omega)
  replace hJ := show Hid _ from hJ
  replace hWS := show Hid _ from hWS
  have hx0 := show Hid (Ext w0 w) from h.ext
  replace h := show Hid _ from h
  clear hn hc hn2 hl hq
  go_enter Tryz.func113, Tryz.ntmps113

  refine L8.wp_region_thrown (fun W => Ext w0 W) (fun a => False) [] (fun t => none) (fun x W => False) (by kernel_rfl) (fun _ _ _ h1 _ h3 => h3.elim) (hx0.out.drew) (fun hSt => ?_)
  obtain ⟨wz, hwz⟩ : ∃ W, W = w.drew := ⟨_, rfl⟩
  rw [← hwz] at hSt ⊢
  have hxz : Hid (Ext w wz) := by rw [hwz]; exact (Ext.refl w).drew
  clear hwz
  refine L8.takeT 0 (oi := { dst := some 4, op := Op.move (Operand.tmp 0), type := 39, pos := "writer.go:31", after := #[], guard := none }) (v := .pointer (some ⟨b, 0, none⟩)) rfl (by kernel_rfl) (by kernel_rfl) (by kernel_rfl) (by decide) (Or.inl ⟨by rfl, fun W hW => ?_⟩) hSt ?_
  · go_simp
  simp only [Act.put, List.setIfInBounds_toArray, List.set_cons_zero, List.set_cons_succ]
  refine L8.takeT 1 (oi := { dst := some 5, op := Op.nilCheck (Operand.tmp 4), type := 0, pos := "writer.go:31", after := #[{ on := 0, ground := Ground.data }], guard := none }) (v := .pointer (some ⟨b, 0, none⟩)) rfl (by kernel_rfl) (by kernel_rfl) (by kernel_rfl) (by decide) (Or.inl ⟨by rfl, fun W hW => ?_⟩) hSt ?_
  · go_simp
  simp only [Act.put, List.setIfInBounds_toArray, List.set_cons_zero, List.set_cons_succ]
  refine L8.takeT 2 (oi := { dst := some 6, op := Op.fieldAddr 73 (Operand.tmp 5) 1, type := 0, pos := "writer.go:31", after := #[{ on := 1, ground := Ground.data }], guard := none }) (v := .pointer (some ⟨b, 19, none⟩)) rfl (by kernel_rfl) (by kernel_rfl) (by kernel_rfl) (by decide) (Or.inl ⟨by rfl, fun W hW => ?_⟩) hSt ?_
  · go_simp
  simp only [Act.put, List.setIfInBounds_toArray, List.set_cons_zero, List.set_cons_succ]
  refine L8.takeT 3 (oi := { dst := some 7, op := Op.move (Operand.tmp 1), type := 81, pos := "writer.go:31", after := #[], guard := none }) (v := .slice (some ⟨d, 0, none⟩) n c) rfl (by kernel_rfl) (by kernel_rfl) (by kernel_rfl) (by decide) (Or.inl ⟨by rfl, fun W hW => ?_⟩) hSt ?_
  · go_simp
  simp only [Act.put, List.setIfInBounds_toArray, List.set_cons_zero, List.set_cons_succ]
  refine wpAnyH_ready (rs := [4]) (by kernel_rfl) (by simp) ?_
  refine AllReadyH.cons (o := { dst := some 8, op := Op.call { callee := Callee.value (Operand.func 139), args := #[Operand.tmp 7, Operand.const (Value.string { data := #[32] })], argTypes := #[81, 9] }, type := 9, pos := "writer.go:31", after := #[{ on := 3, ground := Ground.data }], guard := none }) rfl (fun K hK => ?_) AllReadyH.nil
  go_simp
  refine Calls.mono (hJ.out _ hxz.out) ?_
  rintro e wm ⟨rfl, hxm⟩
  try dsimp only
  have hE0 := Ext.trans hSt hxm
  replace hxz : Hid (Ext w wm) := hxz.out.trans hxm
  refine hK.out _ _ hE0 ?_
  clear hK K
  intro _
  try simp only [Act.put, List.setIfInBounds_toArray, List.set_cons_zero, List.set_cons_succ]
  refine L8.takeT 5 (oi := { dst := some 9, op := Op.binOp BinOp.add 9 (Operand.const (Value.string { data := #[32, 32] })) (Operand.tmp 8) 9, type := 9, pos := "writer.go:31", after := #[{ on := 4, ground := Ground.data }], guard := none }) (v := .string ⟨(32 :: 32 :: q).toArray⟩) rfl (by kernel_rfl) (by kernel_rfl) (by kernel_rfl) (by decide) (Or.inl ⟨by rfl, fun W hW => ?_⟩) hE0 ?_
  · go_simp
  simp only [Act.put, List.setIfInBounds_toArray, List.set_cons_zero, List.set_cons_succ]
  refine L8.takeT 6 (oi := { dst := some 10, op := Op.binOp BinOp.add 9 (Operand.tmp 9) (Operand.const (Value.string { data := #[59, 10] })) 9, type := 9, pos := "writer.go:31", after := #[{ on := 5, ground := Ground.data }], guard := none }) (v := .string ⟨(32 :: 32 :: (q ++ [59, 10])).toArray⟩) rfl (by kernel_rfl) (by kernel_rfl) (by kernel_rfl) (by decide) (Or.inl ⟨by rfl, fun W hW => ?_⟩) hE0 ?_
  · go_simp
  simp only [Act.put, List.setIfInBounds_toArray, List.set_cons_zero, List.set_cons_succ]
  refine wpAnyH_ready (rs := [7]) (by kernel_rfl) (by simp) ?_
  refine AllReadyH.cons (o := { dst := some 11, op := Op.call { callee := Callee.value (Operand.func 34), args := #[Operand.tmp 6, Operand.tmp 10], argTypes := #[71, 9] }, type := 76, pos := "writer.go:31", after := #[{ on := 2, ground := Ground.data }, { on := 6, ground := Ground.data }, { on := 4, ground := Ground.chain }], guard := none }) rfl (fun K hK => ?_) AllReadyH.nil
  go_simp
  refine Calls.mono (hWS.out _ (h.out.on hxz.out)) ?_
  rintro e wn ⟨rfl, hWn, hSn⟩
  try dsimp only
  refine hK.out _ _ hWn.ext ?_
  clear hK K
  intro _
  try simp only [Act.put, List.setIfInBounds_toArray, List.set_cons_zero, List.set_cons_succ]
  refine wpAnyH_done (by kernel_rfl) (L8.ThrowQ.normal ?_) _
  have hfin := show Hid _ from hWn
  have hst := show Hid _ from (Stp.of hxz.out).trans hSn
  clear g1 g2 g3 g4 g5
  go_wp2
  go_end0
  exact ⟨rfl, hfin.out, hst.out⟩
end Go.Proofs.YtbnpaeejlfaboaaGreatDoor
