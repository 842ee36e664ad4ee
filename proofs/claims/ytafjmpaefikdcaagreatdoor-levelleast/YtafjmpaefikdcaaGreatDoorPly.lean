
/- Own texts of the layers ahead, what is wanted here: no statement of the seat is proved here. -/
import Derived.Test.YtafjmpaefikdcaaGreatDoorL8Pr13
import Derived.Test.YtafjmpaefikdcaaGreatDoorL8Frame2
import Derived.Test.YtafjmpaefikdcaaGreatDoorL8Hel
import Derived.Deep.DeepCutAuto
namespace Go.Proofs.YtafjmpaefikdcaaGreatDoor
open Go.RowKit Go.Lib
set_option linter.unusedVariables false
open L8 (Slc Slp)
/-- A product. -/
structure Prd where
  nm : List UInt8
  cn : Int
  rd : Int
  kd : Int
  ev : Int
  tm : Int
  gr : Int
  rt : Int
  rs : List (Int × Int)
  pn : Int
  o0 : Int
  o1 : Int
  o2 : Int
  o3 : Int
  ov : Int
  lt : List (Int × Int)
  cp : Int
  rl : Int
  hd : List Int
/-- May it be? -/
def okP (p : Prd) : Bool := L8.nmb p.nm && (L8.r1B p.cn p.rd p.kd p.ov p.rl && (L8.r2B p.ev && (L8.lz p.tm 1 600 && (L8.r4B p.kd p.tm p.gr && (L8.r5B p.rt p.pn && (L8.r6B p.tm p.rs && (L8.r7B p.o0 p.o1 p.o2 p.o3 && (L8.r8B p.lt && (L8.r9B p.lt.length p.cp && (L8.r10B p.rl p.hd))))))))))
/-- Nothing that was there has turned, but for the block r. -/
structure Exr (r : Nat) (w w' : World) : Prop where
  os : w'.os = w.os
  tape : w'.tape = w.tape
  output : w'.output = w.output
  size : w.heap.size ≤ w'.heap.size
  block : ∀ k, k < w.heap.size → k ≠ r → w'.heap[k]? = w.heap[k]?
theorem Exr.refl (r : Nat) (w : World) : Exr r w w := ⟨rfl, rfl, rfl, Nat.le_refl _, fun _ _ _ => rfl⟩
theorem Exr.ext {r : Nat} {w0 w w' : World} (h : Exr r w w') (k : Ext w0 w) (hr : w0.heap.size ≤ r) : Ext w0 w' :=
  ⟨h.os.trans k.below.os, h.tape.trans k.below.tape, h.output.trans k.below.output, Nat.le_trans k.below.size h.size, fun i hi => (h.block i (Nat.lt_of_lt_of_le hi k.below.size) (by omega)).trans (k.below.block i hi)⟩
def pcells (p : Prd) (vr vl vh : Value) : Array Value := #[.string ⟨p.nm.toArray⟩, .int .i64 p.cn, .int .i64 p.rd, .int .i64 p.kd, .int .i64 p.ev, .int .i64 p.tm, .int .i64 p.gr, .int .i64 p.rt, vr, .int .i64 p.pn, .int .i64 p.o0, .int .i64 p.o1, .int .i64 p.o2, .int .i64 p.o3, .int .i64 p.ov, vl, .int .i64 p.cp, .int .i64 p.rl, vh]
/-- A product's block. -/
def Blk (w : World) (b : Nat) (c : Array Value) : Prop := w.heap[b]? = some (Obj.cells c 27 (0, 0))
theorem Blk.ext {w w' : World} {b : Nat} {c : Array Value} (h : Blk w b c) (hx : Ext w w') : Blk w' b c := (hx.below.block b (Array.getElem?_eq_some_iff.1 h).1).trans h
theorem Blk.exr {w w' : World} {b g : Nat} {c : Array Value} (h : Blk w b c) (hx : Exr g w w') (hn : b ≠ g) : Blk w' b c := (hx.block b (Array.getElem?_eq_some_iff.1 h).1 hn).trans h
theorem Exr.setRow (w : World) (g : Nat) (c : Array Value) : Exr g w (w.setRow g c) :=
  ⟨rfl, rfl, rfl, by simp [World.setRow], fun k _ hk => by
    unfold World.setRow
    simp only []
    rw [Array.getElem?_modify, if_neg (Ne.symm hk)]⟩
theorem load27 {ops : Array Oper} {rest : List Oper} {o : Oper} {a : Act} {w : World} {Q : Exit → Act → World → Prop} {x : Operand} {g : Nat} {cs : Array Value} (hg : Blk w g cs) (hn : cs.size = 19) (ho : o.op = .load 27 x)
    (hx : a.eval x = .pointer (some ⟨g, 0, none⟩)) (hw : Region.wanted o (yielded ops a.tmps) = true)
    (h : wpList Tryz.prog ops Q rest (a.put o.dst (.agg cs)) w) : wpList Tryz.prog ops Q (o :: rest) a w :=
  L8.load27 hg hn ho hx hw h
theorem store27 {ops : Array Oper} {rest : List Oper} {o : Oper} {a : Act} {w : World} {Q : Exit → Act → World → Prop} {x y : Operand} {g : Nat} {old cs : Array Value} (hg : Blk w g old) (hm : old.size = 19) (hn : cs.size = 19) (h1 : cs.all (·.oneCell') = true) (hgd : o.guard = none) (ho : o.op = .store 27 x y)
    (hx : a.eval x = .pointer (some ⟨g, 0, none⟩)) (hy : a.eval y = .agg cs)
    (h : ∀ W, Blk W g cs → Exr g w W → wpList Tryz.prog ops Q rest (a.put o.dst undef) W) : wpList Tryz.prog ops Q (o :: rest) a w :=
  wpList_store_row hgd _ x y ho g cs hx hy _ old hg (by rw [hn]; kernel_rfl) (by rw [hm, hn]) h1 (h _ (setRow_heap w g old cs _ _ hg) (Exr.setRow w g cs))
def zP : Array Value := #[.string ⟨#[]⟩, .int .i64 0, .int .i64 0, .int .i64 0, .int .i64 0, .int .i64 0, .int .i64 0, .int .i64 0, .slice none 0 0, .int .i64 0, .int .i64 0, .int .i64 0, .int .i64 0, .int .i64 0, .int .i64 0, .slice none 0 0, .int .i64 0, .int .i64 0, .slice none 0 0]
/-- A product that is boxed: its cells are what it is made of. -/
structure Flat (cs : Array Value) : Prop where
  size : cs.size = 19
  one : cs.all (·.oneCell') = true
  box : ∀ (w : World), (Instr.box 27 (.agg cs)).run Tryz.prog w = .ok (.pointer (some ⟨w.heap.size, 0, none⟩)) (w.alloc (.cells cs 27))
theorem flat_of {cs : Array Value} (hn : cs.size = 19) (h1 : cs.all (·.oneCell') = true) : Flat cs := ⟨hn, h1, fun w => by
  simp [Instr.box, newVar, go_sem]⟩
theorem box_prod (p : Prd) (vr vl vh : Value) (h1 : (pcells p vr vl vh).all (·.oneCell') = true) : ∀ W : World, (Instr.box 27 (.agg (pcells p vr vl vh))).run Tryz.prog W = .ok (.pointer (some ⟨W.heap.size, 0, none⟩)) (W.alloc (.cells (pcells p vr vl vh) 27)) := (flat_of (cs := pcells p vr vl vh) rfl h1).box
theorem pcells_slp {w : World} {p : Prd} {vr vl vh : Value} (s1 : L8.Slp w vr p.rs) (s2 : L8.Slp w vl p.lt) (s3 : L8.Slc w vh p.hd) : (pcells p vr vl vh).all (·.oneCell') = true := by
  obtain ⟨a1, c1, rfl⟩ := s1.len
  obtain ⟨a2, c2, rfl⟩ := s2.len
  obtain ⟨a3, c3, rfl⟩ := s3.len
  simp [pcells, Value.oneCell']
theorem layZ (w : World) : ∃ W b, w.alloc (.cells #[.string ⟨#[]⟩, .int .i64 0, .int .i64 0, .int .i64 0, .int .i64 0, .int .i64 0, .int .i64 0, .int .i64 0, .slice none 0 0, .int .i64 0, .int .i64 0, .int .i64 0, .int .i64 0, .int .i64 0, .int .i64 0, .slice none 0 0, .int .i64 0, .int .i64 0, .slice none 0 0] 27) = W ∧ w.heap.size = b ∧ Ext w W ∧ Blk W b zP := ⟨_, _, rfl, rfl, (Ext.refl w).alloc _ _, heap_alloc_last w _⟩
structure Okf (p : Prd) : Prop where
  nm : L8.nmb p.nm = true
  nl : p.nm.length ≤ 20
  cn : 1 ≤ p.cn ∧ p.cn ≤ 3
  rd : p.rd = 1 ∨ p.rd = 3
  kd : 1 ≤ p.kd ∧ p.kd ≤ 3
  ov : 1 ≤ p.ov ∧ p.ov ≤ 3
  rl : 1 ≤ p.rl ∧ p.rl ≤ 4
  ev : 1 ≤ p.ev ∧ p.ev ≤ 12
  tm : 1 ≤ p.tm ∧ p.tm ≤ 600
  gr : 0 ≤ p.gr ∧ p.gr ≤ 600
  rt : 0 ≤ p.rt ∧ p.rt ≤ 1000000000
  pn : 0 ≤ p.pn ∧ p.pn ≤ 1000000000
  rl_ : p.rs.length ≤ 20
  rs : ∀ x ∈ p.rs, 0 ≤ x.1 ∧ x.1 ≤ 600 ∧ 0 ≤ x.2 ∧ x.2 ≤ 1000000000
  o0 : 1 ≤ p.o0 ∧ p.o0 ≤ 4
  o1 : 1 ≤ p.o1 ∧ p.o1 ≤ 4
  o2 : 1 ≤ p.o2 ∧ p.o2 ≤ 4
  o3 : 1 ≤ p.o3 ∧ p.o3 ≤ 4
  ll : p.lt.length ≤ 8
  lt : ∀ x ∈ p.lt, 0 ≤ x.1 ∧ x.1 ≤ 365 ∧ 0 ≤ x.2 ∧ x.2 ≤ 10000000000000
  cp : 0 ≤ p.cp ∧ p.cp ≤ 10000000000000
  hl : p.hd.length ≤ 200
  hd : ∀ x ∈ p.hd, -25567 ≤ x ∧ x ≤ 84370
theorem rsB_all {t : Int} (ht : t ≤ 600) : ∀ (l : List (Int × Int)) (a : Int), 0 ≤ a → L8.rsB t a l = true → ∀ x ∈ l, 0 ≤ x.1 ∧ x.1 ≤ 600 ∧ 0 ≤ x.2 ∧ x.2 ≤ 1000000000
  | [], _, _, _, x, hx => by cases hx
  | (u, v) :: l, a, ha, h, x, hx => by
    simp only [L8.rsB, Bool.and_eq_true, decide_eq_true_eq, L8.lz_iff] at h
    obtain ⟨h1, h2, h3, h4⟩ := h
    rcases List.mem_cons.1 hx with rfl | hx
    · exact ⟨by show 0 ≤ u; omega, by show u ≤ 600; omega, h3.1, h3.2⟩
    · exact rsB_all ht l u (by omega) h4 x hx
theorem ltB_all : ∀ (l : List (Int × Int)) (a f : Int), 0 ≤ a → 0 ≤ f → L8.ltB a f l = true → ∀ x ∈ l, 0 ≤ x.1 ∧ x.1 ≤ 365 ∧ 0 ≤ x.2 ∧ x.2 ≤ 10000000000000
  | [], _, _, _, _, _, x, hx => by cases hx
  | (u, v) :: l, a, f, ha, hf, h, x, hx => by
    simp only [L8.ltB, Bool.and_eq_true, decide_eq_true_eq, L8.lz_iff] at h
    obtain ⟨h1, h2, h3, h4⟩ := h
    rcases List.mem_cons.1 hx with rfl | hx
    · exact ⟨by show 0 ≤ u; omega, h2, by show 0 ≤ v; omega, h3.2⟩
    · exact ltB_all l u v (by omega) (by omega) h4 x hx
theorem rsg_all : ∀ (l : List Int) (a : Int), -25568 ≤ a → L8.rsg a l = true → ∀ x ∈ l, -25567 ≤ x ∧ x ≤ 84370
  | [], _, _, _, x, hx => by cases hx
  | u :: l, a, ha, h, x, hx => by
    simp only [L8.rsg, Bool.and_eq_true, decide_eq_true_eq] at h
    obtain ⟨⟨h1, h2⟩, h3⟩ := h
    rcases List.mem_cons.1 hx with rfl | hx
    · exact ⟨by omega, h2⟩
    · exact rsg_all l u (by omega) h3 x hx
theorem four_in {a b c d : Int} (h : L8.r7B a b c d = true) : (1 ≤ a ∧ a ≤ 4) ∧ (1 ≤ b ∧ b ≤ 4) ∧ (1 ≤ c ∧ c ≤ 4) ∧ (1 ≤ d ∧ d ≤ 4) := by
  simp only [L8.r7B, Bool.and_eq_true, decide_eq_true_eq, List.mem_cons, List.not_mem_nil, or_false] at h
  omega
theorem okf {p : Prd} (h : okP p = true) : Okf p := by
  unfold okP at h
  simp only [Bool.and_eq_true] at h
  obtain ⟨hn, h1, h2, h3, h4, h5, h6, h7, h8, h9, h10⟩ := h
  have hnn := hn
  unfold L8.nmb at hnn
  simp only [Bool.and_eq_true, L8.lz_iff] at hnn
  unfold L8.r1B at h1
  simp only [Bool.and_eq_true, Bool.or_eq_true, beq_iff_eq, L8.lz_iff] at h1
  unfold L8.r2B at h2
  simp only [Bool.or_eq_true, beq_iff_eq] at h2
  rw [L8.lz_iff] at h3
  unfold L8.r4B at h4
  simp only [Bool.and_eq_true, Bool.or_eq_true, beq_iff_eq, bne_iff_ne, decide_eq_true_eq] at h4
  unfold L8.r5B at h5
  simp only [Bool.and_eq_true, L8.lz_iff] at h5
  unfold L8.r6B at h6
  simp only [Bool.and_eq_true, decide_eq_true_eq] at h6
  unfold L8.r8B at h8
  simp only [Bool.and_eq_true, decide_eq_true_eq] at h8
  unfold L8.r9B at h9
  simp only [Bool.and_eq_true, Bool.or_eq_true, beq_iff_eq, decide_eq_true_eq, L8.lz_iff] at h9
  obtain ⟨q0, q1, q2, q3⟩ := four_in h7
  have hh : p.hd.length ≤ 200 ∧ ∀ x ∈ p.hd, -25567 ≤ x ∧ x ≤ 84370 := by
    unfold L8.r10B at h10
    split at h10
    · have h0 : p.hd.length = 0 := of_decide_eq_true h10
      have h0' := List.eq_nil_of_length_eq_zero h0
      exact ⟨by omega, fun x hx => by rw [h0'] at hx; cases hx⟩
    · refine ⟨L8.rgt_len h10, ?_⟩
      unfold L8.rgt at h10
      simp only [Bool.and_eq_true] at h10
      exact rsg_all _ _ (by omega) h10.1
  exact { nm := hn, nl := by omega, cn := h1.1, rd := h1.2.1, kd := h1.2.2.1, ov := h1.2.2.2.1, rl := h1.2.2.2.2, ev := by omega, tm := h3, gr := by omega, rt := h5.1, pn := h5.2, rl_ := h6.1, rs := rsB_all h3.2 _ 0 (by omega) h6.2, o0 := q0, o1 := q1, o2 := q2, o3 := q3, ll := h8.1, lt := ltB_all _ 0 0 (by omega) (by omega) h8.2, cp := by omega, hl := hh.1, hd := hh.2 }
theorem rCheck_q (p : Prd) (vr vl vh : Value) (B : Bool) (hB : okP p = B) (w : World) (h0 : p.nm.length ≤ 9223372036854775807) (h1 : p.rs.length ≤ 9223372036854775807) (h2 : p.lt.length ≤ 9223372036854775807) (h3 : p.hd.length ≤ 9223372036854775807) (sr : L8.Slp w vr p.rs) (sl : L8.Slp w vl p.lt) (sh : L8.Slc w vh p.hd) :
    Calls Tryz.prog 16 #[.agg (pcells p vr vl vh)] w fun e w' => e = .returned (.int .i64 (if B then 0 else 9)) ∧ Ext w w' :=
  L8.rCheck_x p.nm p.cn p.rd p.kd p.ev p.tm p.gr p.rt vr p.rs p.pn p.o0 p.o1 p.o2 p.o3 p.ov vl p.lt p.cp p.rl vh p.hd (if B then 0 else 9) (by rw [← hB]; rfl) w h0 h1 h2 h3 sr sl sh
def pl0 : Prd := ⟨[104, 111, 109, 101], 2, 1, 1, 1, 12, 0, 60000000, [], 100000000, 1, 2, 3, 4, 1, [], 0, 1, []⟩
/-- What Product is about to answer. -/
structure Ply (v : World) (p : Prd) (vr vl vh : Value) (w wx : World) (b r o : Nat) (q : Prd) (ur ul uh : Value) : Prop where
  ext : Ext w wx
  lo : w.heap.size ≤ o
  lr : w.heap.size ≤ r
  nb : b ≠ o
  nr : r ≠ o
  box : Blk wx b (pcells p vr vl vh)
  res : Blk wx r zP
  out : Blk wx o (pcells q ur ul uh)
  sr : L8.Slp v ur q.rs
  sl : L8.Slp v ul q.lt
  sh : L8.Slc v uh q.hd
  nm : q.nm.length ≤ 30000
  few : q.rs.length + q.lt.length + q.hd.length ≤ 30000
theorem Ply.on {v : World} {p : Prd} {vr vl vh : Value} {w wx wy : World} {b r o : Nat} {q : Prd} {ur ul uh : Value} (h : Ply v p vr vl vh w wx b r o q ur ul uh) (hx : Ext wx wy) : Ply v p vr vl vh w wy b r o q ur ul uh :=
  ⟨h.ext.trans hx, h.lo, h.lr, h.nb, h.nr, h.box.ext hx, h.res.ext hx, h.out.ext hx, h.sr, h.sl, h.sh, h.nm, h.few⟩
theorem Ply.put {v : World} {p : Prd} {vr vl vh : Value} {w wx : World} {b r o : Nat} {q : Prd} {ur ul uh : Value} (h : Ply v p vr vl vh w wx b r o q ur ul uh) (k : Nat) (x : Value) (q' : Prd) (hq : (pcells q ur ul uh).setIfInBounds k x = pcells q' ur ul uh) (h0 : q'.nm = q.nm) (h1 : q'.rs = q.rs) (h2 : q'.lt = q.lt) (h3 : q'.hd = q.hd) : Ply v p vr vl vh w (wx.setCell ⟨o, k, none⟩ x) b r o q' ur ul uh := by
  refine ⟨h.ext.setCell h.lo x, h.lo, h.lr, h.nb, h.nr, L8.Blk.other h.box k x h.nb, L8.Blk.other h.res k x h.nr, ?_, h1 ▸ h.sr, h2 ▸ h.sl, h3 ▸ h.sh, h0 ▸ h.nm, by rw [h1, h2, h3]; exact h.few⟩
  rw [← hq]
  exact L8.Blk.set h.out k x
theorem Ply.bare {v : World} {p : Prd} {vr vl vh : Value} {w wx : World} {b r o : Nat} {q : Prd} {ur ul uh : Value} (h : Ply v p vr vl vh w wx b r o q ur ul uh) : Ply v p vr vl vh w (wx.setCell ⟨o, 8, none⟩ (.slice none 0 0)) b r o { q with rs := [] } (.slice none 0 0) ul uh := by
  refine ⟨h.ext.setCell h.lo _, h.lo, h.lr, h.nb, h.nr, L8.Blk.other h.box 8 _ h.nb, L8.Blk.other h.res 8 _ h.nr, ?_, L8.nilr v, h.sl, h.sh, h.nm, by have := h.few; show 0 + q.lt.length + q.hd.length ≤ 30000; omega⟩
  exact L8.Blk.set h.out 8 _
theorem one_of {w : World} {q : Prd} {ur ul uh : Value} (h1 : L8.Slp w ur q.rs) (h2 : L8.Slp w ul q.lt) (h3 : L8.Slc w uh q.hd) : (pcells q ur ul uh).all (·.oneCell') = true := pcells_slp h1 h2 h3
/-- What a remainder of a number without a sign is. -/
theorem rem_is (x m : Int) (hm : 0 < m) (hM : m ≤ 1000000000) : ∃ R : Int, (IntKind.u64.wrap x).tmod m = R ∧ 0 ≤ R ∧ R < m ∧ IntKind.i64.wrap R = R ∧ IntKind.i64.wrap (1 + R) = 1 + R := by
  have h0 : 0 ≤ IntKind.u64.wrap x := by rw [IntKind.wrap_u64]; exact Int.emod_nonneg _ (by decide)
  have h1 := Int.tmod_nonneg m h0
  have h2 := Int.tmod_lt_of_pos (IntKind.u64.wrap x) hm
  exact ⟨_, rfl, h1, h2, by rw [IntKind.wrap_i64]; omega, by rw [IntKind.wrap_i64]; omega⟩
theorem lay_n (w : World) (l : List Int) : ∃ W d, w.alloc (.cells (l.map (Value.int .i64)).toArray 3) = W ∧ w.heap.size = d ∧ Ext w W ∧ ∀ k x, l[k]? = some x → W.cell? ⟨d, k, none⟩ = some (.int .i64 x) := by
  refine ⟨_, _, rfl, rfl, (Ext.refl w).alloc _ _, fun k x hk => ?_⟩
  refine (cell_of_row _ _ k _ _ _ (heap_alloc_last w _)).trans ?_
  simp [hk]
theorem ok_parts {q : Prd} (h : okP q = true) : L8.nmb q.nm = true ∧ L8.r1B q.cn q.rd q.kd q.ov q.rl = true ∧ L8.r2B q.ev = true ∧ L8.lz q.tm 1 600 = true ∧ L8.r4B q.kd q.tm q.gr = true ∧ L8.r5B q.rt q.pn = true ∧ L8.r6B q.tm q.rs = true ∧ L8.r7B q.o0 q.o1 q.o2 q.o3 = true ∧ L8.r8B q.lt = true ∧ L8.r9B q.lt.length q.cp = true ∧ L8.r10B q.rl q.hd = true := by
  unfold okP at h
  simpa only [Bool.and_eq_true] using h
theorem ok_of {q : Prd} (h : L8.nmb q.nm = true ∧ L8.r1B q.cn q.rd q.kd q.ov q.rl = true ∧ L8.r2B q.ev = true ∧ L8.lz q.tm 1 600 = true ∧ L8.r4B q.kd q.tm q.gr = true ∧ L8.r5B q.rt q.pn = true ∧ L8.r6B q.tm q.rs = true ∧ L8.r7B q.o0 q.o1 q.o2 q.o3 = true ∧ L8.r8B q.lt = true ∧ L8.r9B q.lt.length q.cp = true ∧ L8.r10B q.rl q.hd = true) : okP q = true := by
  unfold okP
  simpa only [Bool.and_eq_true] using h
theorem lz_of {v a b : Int} (h1 : a ≤ v) (h2 : v ≤ b) : L8.lz v a b = true := (L8.lz_iff v a b).2 ⟨h1, h2⟩
/-- It may be, and has no grace and no resets. -/
structure OkI (q : Prd) : Prop where
  ok : okP q = true
  gr : q.gr = 0
  rs : q.rs = []
theorem r1_parts {cn rd kd ov rl : Int} (h : L8.r1B cn rd kd ov rl = true) : L8.lz cn 1 3 = true ∧ (rd == 1 || rd == 3) = true ∧ L8.lz kd 1 3 = true ∧ L8.lz ov 1 3 = true ∧ L8.lz rl 1 4 = true := by
  unfold L8.r1B at h
  simpa only [Bool.and_eq_true] using h
theorem r1_of {cn rd kd ov rl : Int} (h : L8.lz cn 1 3 = true ∧ (rd == 1 || rd == 3) = true ∧ L8.lz kd 1 3 = true ∧ L8.lz ov 1 3 = true ∧ L8.lz rl 1 4 = true) : L8.r1B cn rd kd ov rl = true := by
  unfold L8.r1B
  simpa only [Bool.and_eq_true] using h
theorem OkI.cn {q : Prd} (h : OkI q) {x : Int} (h1 : 1 ≤ x) (h2 : x ≤ 3) : OkI { q with cn := x } := by
  obtain ⟨a0, a1, a2, a3, a4, a5, a6, a7, a8, a9, a10⟩ := ok_parts h.ok
  obtain ⟨b0, b1, b2, b3, b4⟩ := r1_parts a1
  exact ⟨ok_of ⟨a0, r1_of ⟨lz_of h1 h2, b1, b2, b3, b4⟩, a2, a3, a4, a5, a6, a7, a8, a9, a10⟩, h.gr, h.rs⟩
theorem OkI.kd {q : Prd} (h : OkI q) {x : Int} (h1 : 1 ≤ x) (h2 : x ≤ 3) : OkI { q with kd := x } := by
  obtain ⟨a0, a1, a2, a3, a4, a5, a6, a7, a8, a9, a10⟩ := ok_parts h.ok
  obtain ⟨b0, b1, b2, b3, b4⟩ := r1_parts a1
  exact ⟨ok_of ⟨a0, r1_of ⟨b0, b1, lz_of h1 h2, b3, b4⟩, a2, a3, by show L8.r4B x q.tm q.gr = true; rw [h.gr]; rfl, a5, a6, a7, a8, a9, a10⟩, h.gr, h.rs⟩
theorem OkI.ov {q : Prd} (h : OkI q) {x : Int} (h1 : 1 ≤ x) (h2 : x ≤ 3) : OkI { q with ov := x } := by
  obtain ⟨a0, a1, a2, a3, a4, a5, a6, a7, a8, a9, a10⟩ := ok_parts h.ok
  obtain ⟨b0, b1, b2, b3, b4⟩ := r1_parts a1
  exact ⟨ok_of ⟨a0, r1_of ⟨b0, b1, b2, lz_of h1 h2, b4⟩, a2, a3, a4, a5, a6, a7, a8, a9, a10⟩, h.gr, h.rs⟩
theorem OkI.rd {q : Prd} (h : OkI q) {x : Int} (h1 : x ∈ ([1, 3] : List Int)) : OkI { q with rd := x } := by
  obtain ⟨a0, a1, a2, a3, a4, a5, a6, a7, a8, a9, a10⟩ := ok_parts h.ok
  obtain ⟨b0, b1, b2, b3, b4⟩ := r1_parts a1
  have hx : (x == 1 || x == 3) = true := by
    simp only [List.mem_cons, List.not_mem_nil, or_false] at h1
    rcases h1 with rfl | rfl <;> rfl
  exact ⟨ok_of ⟨a0, r1_of ⟨b0, hx, b2, b3, b4⟩, a2, a3, a4, a5, a6, a7, a8, a9, a10⟩, h.gr, h.rs⟩
theorem OkI.ev {q : Prd} (h : OkI q) {x : Int} (h1 : x ∈ ([1, 2, 3, 4, 6, 12] : List Int)) : OkI { q with ev := x } := by
  obtain ⟨a0, a1, a2, a3, a4, a5, a6, a7, a8, a9, a10⟩ := ok_parts h.ok
  have hx : L8.r2B x = true := by
    simp only [List.mem_cons, List.not_mem_nil, or_false] at h1
    rcases h1 with rfl | rfl | rfl | rfl | rfl | rfl <;> rfl
  exact ⟨ok_of ⟨a0, a1, hx, a3, a4, a5, a6, a7, a8, a9, a10⟩, h.gr, h.rs⟩
theorem OkI.tm {q : Prd} (h : OkI q) {x : Int} (h1 : 1 ≤ x) (h2 : x ≤ 600) : OkI { q with tm := x } := by
  obtain ⟨a0, a1, a2, a3, a4, a5, a6, a7, a8, a9, a10⟩ := ok_parts h.ok
  exact ⟨ok_of ⟨a0, a1, a2, lz_of h1 h2, by show L8.r4B q.kd x q.gr = true; rw [h.gr]; rfl, a5, by show L8.r6B x q.rs = true; rw [h.rs]; rfl, a7, a8, a9, a10⟩, h.gr, h.rs⟩
theorem r5_parts {a b : Int} (h : L8.r5B a b = true) : L8.lz a 0 1000000000 = true ∧ L8.lz b 0 1000000000 = true := by
  unfold L8.r5B at h
  simpa only [Bool.and_eq_true] using h
theorem r5_of {a b : Int} (h : L8.lz a 0 1000000000 = true ∧ L8.lz b 0 1000000000 = true) : L8.r5B a b = true := by
  unfold L8.r5B
  simpa only [Bool.and_eq_true] using h
theorem OkI.rt {q : Prd} (h : OkI q) {x : Int} (h1 : 0 ≤ x) (h2 : x ≤ 1000000000) : OkI { q with rt := x } := by
  obtain ⟨a0, a1, a2, a3, a4, a5, a6, a7, a8, a9, a10⟩ := ok_parts h.ok
  exact ⟨ok_of ⟨a0, a1, a2, a3, a4, r5_of ⟨lz_of h1 h2, (r5_parts a5).2⟩, a6, a7, a8, a9, a10⟩, h.gr, h.rs⟩
theorem OkI.pn {q : Prd} (h : OkI q) {x : Int} (h1 : 0 ≤ x) (h2 : x ≤ 1000000000) : OkI { q with pn := x } := by
  obtain ⟨a0, a1, a2, a3, a4, a5, a6, a7, a8, a9, a10⟩ := ok_parts h.ok
  exact ⟨ok_of ⟨a0, a1, a2, a3, a4, r5_of ⟨(r5_parts a5).1, lz_of h1 h2⟩, a6, a7, a8, a9, a10⟩, h.gr, h.rs⟩
theorem okI_0 : OkI pl0 := ⟨by decide +kernel, rfl, rfl⟩
/-- It may be without its grace; and with it, where it is short, and the kind no bullet. -/
structure OkT (q : Prd) : Prop where
  bare : okP { q with gr := 0 } = true
  full : ¬ q.tm ≤ q.gr → q.kd ≠ 3 → okP q = true
theorem okT_of {q : Prd} (h : okP q = true) : OkT q := by
  obtain ⟨a0, a1, a2, a3, a4, a5, a6, a7, a8, a9, a10⟩ := ok_parts h
  exact ⟨ok_of ⟨a0, a1, a2, a3, rfl, a5, a6, a7, a8, a9, a10⟩, fun _ _ => h⟩
theorem okT_cut {q : Prd} (h : okP q = true) (t : Int) (h1 : 1 ≤ t) (h2 : t ≤ 600) : OkT { q with tm := t, rs := [] } := by
  obtain ⟨a0, a1, a2, a3, a4, a5, a6, a7, a8, a9, a10⟩ := ok_parts h
  refine ⟨ok_of ⟨a0, a1, a2, lz_of h1 h2, rfl, a5, rfl, a7, a8, a9, a10⟩, fun k1 k2 => ok_of ⟨a0, a1, a2, lz_of h1 h2, ?_, a5, rfl, a7, a8, a9, a10⟩⟩
  have k1' : ¬ t ≤ q.gr := k1
  have k2' : q.kd ≠ 3 := k2
  show L8.r4B q.kd t q.gr = true
  unfold L8.r4B at a4 ⊢
  simp only [Bool.or_eq_true, beq_iff_eq, Bool.and_eq_true, bne_iff_ne, decide_eq_true_eq] at a4 ⊢
  rcases a4 with a | ⟨_, b, _⟩
  · exact Or.inl a
  · exact Or.inr ⟨k2', b, by omega⟩
set_option maxRecDepth 100000 in
set_option maxHeartbeats 4000000 in
theorem Play_40 (p : Prd) (vr vl vh : Value) (v w : World) (hv : Ext v w) (h0 : p.nm.length ≤ 9223372036854775807) (h1 : p.rs.length ≤ 9223372036854775807) (h2 : p.lt.length ≤ 9223372036854775807) (h3 : p.hd.length ≤ 9223372036854775807) (sr : L8.Slp v vr p.rs) (sl : L8.Slp v vl p.lt) (sh : L8.Slc v vh p.hd) :
    Calls Tryz.prog 7 #[.agg (pcells p vr vl vh), .int .i64 40] w fun e w' => Ext w w' ∧ ∃ (q : Prd) (ur ul uh : Value), e = .returned (.agg (pcells q ur ul uh)) ∧ L8.Slp v ur q.rs ∧ L8.Slp v ul q.lt ∧ L8.Slc v uh q.hd ∧ q.nm.length ≤ 30000 ∧ q.rs.length + q.lt.length + q.hd.length ≤ 30000 ∧ okP q = true ∧ q.tm ≤ 40 := by
  have hone := pcells_slp sr sl sh
  have hbox := box_prod p vr vl vh hone
  obtain ⟨W1, b, hW1, hb, hx1, hB1⟩ : ∃ W b, w.alloc (.cells (pcells p vr vl vh) 27) = W ∧ w.heap.size = b ∧ Ext w W ∧ Blk W b (pcells p vr vl vh) := ⟨_, _, rfl, rfl, (Ext.refl w).alloc _ _, heap_alloc_last w _⟩
  obtain ⟨W2, r, hW2, hr, hx2, hB2⟩ := layZ W1
  have hsz : (pcells p vr vl vh).size = 19 := rfl
  obtain ⟨B, hB⟩ : ∃ B, okP p = B := ⟨_, rfl⟩
  have hlr : Hid (b < r) := by show _ < _; have := (Array.getElem?_eq_some_iff.1 hB1).1; omega
  replace hv := show Hid _ from hv
  replace sr : Hid (L8.Slp v vr p.rs) := sr
  replace sl : Hid (L8.Slp v vl p.lt) := sl
  replace sh : Hid (L8.Slc v vh p.hd) := sh
  have hB1' : Hid (Blk W2 b (pcells p vr vl vh)) := hB1.ext hx2
  replace hB2 : Hid (Blk W2 r zP) := hB2
  replace hx2 := show Hid _ from hx1.trans hx2
  clear hB1 hx1
  go_enter Tryz.func7, Tryz.ntmps7
  go_wp2_with fail
  refine (L8.Plain_c _).mono ?_
  rintro e w3 ⟨rfl, hx3⟩
  replace hb := show Hid _ from hb
  obtain ⟨W4, o, hW4, ho, hx4, hB4⟩ := layZ w3
  have hro : Hid (r < o) := by show _ < _; have := (Array.getElem?_eq_some_iff.1 (hB2.out.ext hx3)).1; omega
  have hBb : Hid (Blk W4 b (pcells p vr vl vh)) := hB1'.out.ext (hx3.trans hx4)
  have hBr : Hid (Blk W4 r zP) := hB2.out.ext (hx3.trans hx4)
  replace hx4 := show Hid _ from (hx2.out.trans hx3).trans hx4
  clear hx3 hB1' hB2 hx2 hW1 hW2 hr hbox
  have hpo : (pcells pl0 (.slice none 0 0) (.slice none 0 0) (.slice none 0 0)).all (·.oneCell') = true := one_of (w := v) (L8.nilr v) (L8.nilr v) (L8.nilh v)
  have hlR : Hid (w.heap.size ≤ r) := by show _ ≤ _; have := hb.out; have := hlr.out; omega
  have hlo : Hid (w.heap.size ≤ o) := by show _ ≤ _; have := hx4.out.size; have := hb.out; have := hlr.out; have := hro.out; omega
  go_wp2_with (refine store27 (cs := pcells pl0 (.slice none 0 0) (.slice none 0 0) (.slice none 0 0)) hB4 rfl rfl hpo rfl rfl rfl rfl ?_)
  intro W5 hB5 hx5
  have hP : Hid (Ply v p vr vl vh w W5 b r o pl0 (.slice none 0 0) (.slice none 0 0) (.slice none 0 0)) := ⟨hx5.ext hx4.out hlo.out, hlo.out, hlR.out, by have := hlr.out; have := hro.out; omega, by have := hro.out; omega, hBb.out.exr hx5 (by have := hlr.out; have := hro.out; omega), hBr.out.exr hx5 (by have := hro.out; omega), hB5, L8.nilr v, L8.nilr v, L8.nilh v, by decide, by decide⟩
  clear hW4 ho hB4 hB5 hx5 hpo hBb hBr hx4 hlo hlR hro hlr hb
  have hBb := hP.out.box
  go_wp2_with (refine load27 hBb hsz rfl rfl rfl ?_)
  refine (rCheck_q p vr vl vh B hB _ h0 h1 h2 h3 (sr.out.ext (hv.out.trans hP.out.ext)) (sl.out.ext (hv.out.trans hP.out.ext)) (sh.out.ext (hv.out.trans hP.out.ext))).mono ?_
  rintro e w6 ⟨rfl, hx6⟩
  replace hP : Hid (Ply v p vr vl vh w w6 b r o pl0 (.slice none 0 0) (.slice none 0 0) (.slice none 0 0)) := hP.out.on hx6
  clear hx6 hBb
  go_upto_if 9 with fail
  go_cut [5, 8, 9] from 10 to 70 (fun x _ _ wx => x = .pointer (some ⟨o, 0, none⟩) ∧ ∃ (q : Prd) (ur ul uh : Value), Hid (Ply v p vr vl vh w wx b r o q ur ul uh) ∧ okP q = true)
  case first =>
    cases B
    case true =>
      have hK := okf hB
      have hQ : Ply v p vr vl vh w w6 b r o pl0 (.slice none 0 0) (.slice none 0 0) (.slice none 0 0) := hP.out
      have hBb := hQ.box
      have hBo := hQ.out
      simp only [if_true]
      go_wp2_with (first | refine load27 hBb hsz rfl rfl rfl ?_ | refine store27 (cs := pcells p vr vl vh) hBo rfl rfl hone rfl rfl rfl rfl ?_)
      intro W7 hB7 hx7
      go_wp2
      go_meet
      exact ⟨rfl, p, vr, vl, vh, ⟨hx7.ext hQ.ext hQ.lo, hQ.lo, hQ.lr, hQ.nb, hQ.nr, hQ.box.exr hx7 hQ.nb, hQ.res.exr hx7 hQ.nr, hB7, sr.out, sl.out, sh.out, by have := hK.nl; omega, by have := hK.rl_; have := hK.ll; have := hK.hl; omega⟩, hB⟩
    case false =>
    clear hB hone hsz
    obtain ⟨q, ur, ul, uh, hP, hI⟩ : ∃ (q : Prd) (ur ul uh : Value), Hid (Ply v p vr vl vh w w6 b r o q ur ul uh) ∧ OkI q := ⟨_, _, _, _, hP, okI_0⟩
    replace hI := show Hid _ from hI
    simp only [Bool.false_eq_true, if_false]

    go_upto_region 4 with fail
    go_cut [5] from 11 to 24 (fun x wx => x = .pointer (some ⟨o, 0, none⟩) ∧ ∃ (q : Prd) (ur ul uh : Value), Hid (Ply v p vr vl vh w wx b r o q ur ul uh) ∧ OkI q)
    case first =>
      obtain ⟨R1, e1, l1, m1, f1, g1⟩ := rem_is p.cn 3 (by decide) (by decide)
      obtain ⟨R2, e2, l2, m2, f2, g2⟩ := rem_is p.kd 3 (by decide) (by decide)
      have hbx := hP.out.box
      have hnb := hP.out.nb
      refine L8.wp_region_thrown (fun W => Blk W b (pcells p vr vl vh)) (fun a => False) [] (fun t => none) (fun x W => False) (by kernel_rfl) (fun _ _ _ h1 _ h3 => h3.elim) (hbx.ext (Ext.refl w6).drew) (fun hSt => ?_)
      obtain ⟨wz, hwz⟩ : ∃ W, W = w6.drew := ⟨_, rfl⟩
      replace hP : Hid (Ply v p vr vl vh w wz b r o q ur ul uh) := by rw [hwz]; exact hP.out.on (Ext.refl w6).drew
      rw [← hwz] at hSt ⊢
      clear hwz hbx
      refine L8.takeT 0 (oi := { dst := some 11, op := Op.fieldAddr 27 (Operand.tmp 2) 1, type := 0, pos := "play.go:21", after := #[], guard := none }) (v := .pointer (some ⟨b, 1, none⟩)) rfl (by kernel_rfl) (by kernel_rfl) (by kernel_rfl) (by decide) (Or.inl ⟨by rfl, fun W hW => ?_⟩) hSt ?_
      · go_simp
      simp only [Act.put, List.setIfInBounds_toArray, List.set_cons_zero, List.set_cons_succ]
      refine L8.takeT 1 (oi := { dst := some 12, op := Op.load 3 (Operand.tmp 11), type := 3, pos := "play.go:21", after := #[{ on := 0, ground := Ground.data }], guard := none }) (v := .int .i64 p.cn) rfl (by kernel_rfl) (by kernel_rfl) (by kernel_rfl) (by decide) (Or.inl ⟨by rfl, fun W hW => ?_⟩) hSt ?_
      · have hW1 := (cell_of_row W b 1 _ _ _ (show Blk W b (pcells p vr vl vh) from hW)).trans (show _ = some (.int .i64 p.cn) from rfl)
        go_simp
      simp only [Act.put, List.setIfInBounds_toArray, List.set_cons_zero, List.set_cons_succ]
      refine L8.takeT 2 (oi := { dst := some 13, op := Op.convert 3 45 (Operand.tmp 12), type := 45, pos := "play.go:21", after := #[{ on := 1, ground := Ground.data }], guard := none }) (v := .int .u64 (IntKind.u64.wrap p.cn)) rfl (by kernel_rfl) (by kernel_rfl) (by kernel_rfl) (by decide) (Or.inl ⟨by rfl, fun W hW => ?_⟩) hSt ?_
      · go_simp
      simp only [Act.put, List.setIfInBounds_toArray, List.set_cons_zero, List.set_cons_succ]
      refine L8.takeT 3 (oi := { dst := some 14, op := Op.binOp BinOp.rem 45 (Operand.tmp 13) (Operand.const (Value.int IntKind.u64 3)) 45, type := 45, pos := "play.go:21", after := #[{ on := 2, ground := Ground.data }], guard := none }) (v := .int .u64 R1) rfl (by kernel_rfl) (by kernel_rfl) (by kernel_rfl) (by decide) (Or.inl ⟨by rfl, fun W hW => ?_⟩) hSt ?_
      · go_simp
      simp only [Act.put, List.setIfInBounds_toArray, List.set_cons_zero, List.set_cons_succ]
      refine L8.takeT 4 (oi := { dst := some 15, op := Op.convert 45 3 (Operand.tmp 14), type := 3, pos := "play.go:21", after := #[{ on := 3, ground := Ground.data }], guard := none }) (v := .int .i64 R1) rfl (by kernel_rfl) (by kernel_rfl) (by kernel_rfl) (by decide) (Or.inl ⟨by rfl, fun W hW => ?_⟩) hSt ?_
      · go_simp
      simp only [Act.put, List.setIfInBounds_toArray, List.set_cons_zero, List.set_cons_succ]
      refine L8.takeT 5 (oi := { dst := some 16, op := Op.binOp BinOp.add 3 (Operand.const (Value.int IntKind.i64 1)) (Operand.tmp 15) 3, type := 3, pos := "play.go:21", after := #[{ on := 4, ground := Ground.data }], guard := none }) (v := .int .i64 (1 + R1)) rfl (by kernel_rfl) (by kernel_rfl) (by kernel_rfl) (by decide) (Or.inl ⟨by rfl, fun W hW => ?_⟩) hSt ?_
      · go_simp
      simp only [Act.put, List.setIfInBounds_toArray, List.set_cons_zero, List.set_cons_succ]
      refine L8.takeT 6 (oi := { dst := some 17, op := Op.fieldAddr 27 (Operand.tmp 2) 3, type := 0, pos := "play.go:21", after := #[{ on := 13, ground := Ground.gcOnly Departure.lateStores }], guard := none }) (v := .pointer (some ⟨b, 3, none⟩)) rfl (by kernel_rfl) (by kernel_rfl) (by kernel_rfl) (by decide) (Or.inl ⟨by rfl, fun W hW => ?_⟩) hSt ?_
      · go_simp
      simp only [Act.put, List.setIfInBounds_toArray, List.set_cons_zero, List.set_cons_succ]
      refine L8.takeT 7 (oi := { dst := some 18, op := Op.load 3 (Operand.tmp 17), type := 3, pos := "play.go:21", after := #[{ on := 6, ground := Ground.data }, { on := 13, ground := Ground.gcOnly Departure.lateStores }], guard := none }) (v := .int .i64 p.kd) rfl (by kernel_rfl) (by kernel_rfl) (by kernel_rfl) (by decide) (Or.inl ⟨by rfl, fun W hW => ?_⟩) hSt ?_
      · have hW1 := (cell_of_row W b 3 _ _ _ (show Blk W b (pcells p vr vl vh) from hW)).trans (show _ = some (.int .i64 p.kd) from rfl)
        go_simp
      simp only [Act.put, List.setIfInBounds_toArray, List.set_cons_zero, List.set_cons_succ]
      refine L8.takeT 8 (oi := { dst := some 19, op := Op.convert 3 45 (Operand.tmp 18), type := 45, pos := "play.go:21", after := #[{ on := 7, ground := Ground.data }, { on := 13, ground := Ground.gcOnly Departure.lateStores }], guard := none }) (v := .int .u64 (IntKind.u64.wrap p.kd)) rfl (by kernel_rfl) (by kernel_rfl) (by kernel_rfl) (by decide) (Or.inl ⟨by rfl, fun W hW => ?_⟩) hSt ?_
      · go_simp
      simp only [Act.put, List.setIfInBounds_toArray, List.set_cons_zero, List.set_cons_succ]
      refine L8.takeT 9 (oi := { dst := some 20, op := Op.binOp BinOp.rem 45 (Operand.tmp 19) (Operand.const (Value.int IntKind.u64 3)) 45, type := 45, pos := "play.go:21", after := #[{ on := 8, ground := Ground.data }, { on := 13, ground := Ground.gcOnly Departure.lateStores }], guard := none }) (v := .int .u64 R2) rfl (by kernel_rfl) (by kernel_rfl) (by kernel_rfl) (by decide) (Or.inl ⟨by rfl, fun W hW => ?_⟩) hSt ?_
      · go_simp
      simp only [Act.put, List.setIfInBounds_toArray, List.set_cons_zero, List.set_cons_succ]
      refine L8.takeT 10 (oi := { dst := some 21, op := Op.convert 45 3 (Operand.tmp 20), type := 3, pos := "play.go:21", after := #[{ on := 9, ground := Ground.data }, { on := 13, ground := Ground.gcOnly Departure.lateStores }], guard := none }) (v := .int .i64 R2) rfl (by kernel_rfl) (by kernel_rfl) (by kernel_rfl) (by decide) (Or.inl ⟨by rfl, fun W hW => ?_⟩) hSt ?_
      · go_simp
      simp only [Act.put, List.setIfInBounds_toArray, List.set_cons_zero, List.set_cons_succ]
      refine L8.takeT 11 (oi := { dst := some 22, op := Op.binOp BinOp.add 3 (Operand.const (Value.int IntKind.i64 1)) (Operand.tmp 21) 3, type := 3, pos := "play.go:21", after := #[{ on := 10, ground := Ground.data }, { on := 13, ground := Ground.gcOnly Departure.lateStores }], guard := none }) (v := .int .i64 (1 + R2)) rfl (by kernel_rfl) (by kernel_rfl) (by kernel_rfl) (by decide) (Or.inl ⟨by rfl, fun W hW => ?_⟩) hSt ?_
      · go_simp
      simp only [Act.put, List.setIfInBounds_toArray, List.set_cons_zero, List.set_cons_succ]
      refine L8.takeT 12 (oi := { dst := some 23, op := Op.fieldAddr 27 (Operand.tmp 5) 1, type := 0, pos := "play.go:21", after := #[{ on := 0, ground := Ground.phase }, { on := 1, ground := Ground.phase }, { on := 2, ground := Ground.phase }, { on := 3, ground := Ground.phase }, { on := 4, ground := Ground.phase }, { on := 5, ground := Ground.phase }, { on := 6, ground := Ground.textOnly Departure.lateStores }, { on := 7, ground := Ground.textOnly Departure.lateStores }, { on := 8, ground := Ground.textOnly Departure.lateStores }, { on := 9, ground := Ground.textOnly Departure.lateStores }, { on := 10, ground := Ground.textOnly Departure.lateStores }, { on := 11, ground := Ground.textOnly Departure.lateStores }], guard := none }) (v := .pointer (some ⟨o, 1, none⟩)) rfl (by kernel_rfl) (by kernel_rfl) (by kernel_rfl) (by decide) (Or.inl ⟨by rfl, fun W hW => ?_⟩) hSt ?_
      · go_simp
      simp only [Act.put, List.setIfInBounds_toArray, List.set_cons_zero, List.set_cons_succ]
      refine wpAnyH_ready (rs := [13]) (by kernel_rfl) (by simp) ?_
      refine AllReadyH.cons (o := { dst := none, op := Op.store 3 (Operand.tmp 23) (Operand.tmp 16), type := 0, pos := "play.go:21", after := #[{ on := 12, ground := Ground.data }, { on := 5, ground := Ground.data }, { on := 0, ground := Ground.phase }, { on := 1, ground := Ground.phase }, { on := 2, ground := Ground.phase }, { on := 3, ground := Ground.phase }, { on := 4, ground := Ground.phase }, { on := 5, ground := Ground.phase }, { on := 6, ground := Ground.textOnly Departure.lateStores }, { on := 7, ground := Ground.textOnly Departure.lateStores }, { on := 8, ground := Ground.textOnly Departure.lateStores }, { on := 9, ground := Ground.textOnly Departure.lateStores }, { on := 10, ground := Ground.textOnly Departure.lateStores }, { on := 11, ground := Ground.textOnly Departure.lateStores }], guard := none }) rfl (fun K hK => ?_) AllReadyH.nil
      have co := (cell_of_row wz o 1 _ _ _ hP.out.out).trans (show _ = some (.int .i64 q.cn) from rfl)
      have zo := frozen_of_row wz o 1 _ _ hP.out.out
      go_simp
      refine hK.out _ _ (L8.Blk.other hSt 1 _ hnb) ?_
      clear hK K hSt co zo
      intro hSt
      try simp only [Act.put, List.setIfInBounds_toArray, List.set_cons_zero, List.set_cons_succ]
      obtain ⟨wy, hwy⟩ : ∃ W, W = wz.setCell ⟨o, 1, none⟩ (.int .i64 (1 + R1)) := ⟨_, rfl⟩
      obtain ⟨q, hP, hI⟩ : ∃ q, Hid (Ply v p vr vl vh w wy b r o q ur ul uh) ∧ Hid (OkI q) := by rw [hwy]; exact ⟨{ q with cn := (1 + R1) }, hP.out.put 1 _ _ rfl rfl rfl rfl rfl, hI.out.cn (by omega) (by omega)⟩
      rw [← hwy] at hSt ⊢
      clear hwy
      refine L8.takeT 14 (oi := { dst := some 24, op := Op.fieldAddr 27 (Operand.tmp 5) 3, type := 0, pos := "play.go:21", after := #[{ on := 0, ground := Ground.phase }, { on := 1, ground := Ground.phase }, { on := 2, ground := Ground.phase }, { on := 3, ground := Ground.phase }, { on := 4, ground := Ground.phase }, { on := 5, ground := Ground.phase }, { on := 6, ground := Ground.phase }, { on := 7, ground := Ground.phase }, { on := 8, ground := Ground.phase }, { on := 9, ground := Ground.phase }, { on := 10, ground := Ground.phase }, { on := 11, ground := Ground.phase }, { on := 12, ground := Ground.phase }, { on := 13, ground := Ground.phase }], guard := none }) (v := .pointer (some ⟨o, 3, none⟩)) rfl (by kernel_rfl) (by kernel_rfl) (by kernel_rfl) (by decide) (Or.inl ⟨by rfl, fun W hW => ?_⟩) hSt ?_
      · go_simp
      simp only [Act.put, List.setIfInBounds_toArray, List.set_cons_zero, List.set_cons_succ]
      refine wpAnyH_ready (rs := [15]) (by kernel_rfl) (by simp) ?_
      refine AllReadyH.cons (o := { dst := none, op := Op.store 3 (Operand.tmp 24) (Operand.tmp 22), type := 0, pos := "play.go:21", after := #[{ on := 14, ground := Ground.data }, { on := 11, ground := Ground.data }, { on := 13, ground := Ground.chain }, { on := 0, ground := Ground.phase }, { on := 1, ground := Ground.phase }, { on := 2, ground := Ground.phase }, { on := 3, ground := Ground.phase }, { on := 4, ground := Ground.phase }, { on := 5, ground := Ground.phase }, { on := 6, ground := Ground.phase }, { on := 7, ground := Ground.phase }, { on := 8, ground := Ground.phase }, { on := 9, ground := Ground.phase }, { on := 10, ground := Ground.phase }, { on := 11, ground := Ground.phase }, { on := 12, ground := Ground.phase }, { on := 13, ground := Ground.phase }], guard := none }) rfl (fun K hK => ?_) AllReadyH.nil
      have co := (cell_of_row wy o 3 _ _ _ hP.out.out).trans (show _ = some (.int .i64 q.kd) from rfl)
      have zo := frozen_of_row wy o 3 _ _ hP.out.out
      go_simp
      refine hK.out _ _ (L8.Blk.other hSt 3 _ hnb) ?_
      clear hK K hSt co zo
      intro hSt
      try simp only [Act.put, List.setIfInBounds_toArray, List.set_cons_zero, List.set_cons_succ]
      refine wpAnyH_done (by kernel_rfl) (L8.ThrowQ.normal ?_) _
      go_wp2
      go_meet
      exact ⟨rfl, { q with kd := (1 + R2) }, ur, ul, uh, hP.out.put 3 _ _ rfl rfl rfl rfl rfl, hI.out.kd (by omega) (by omega)⟩
    case rest =>
    clear hP hI
    obtain ⟨rfl, q, ur, ul, uh, hP, hI⟩ := hcut
    replace hI := show Hid _ from hI
    go_upto_region 5 with fail
    go_cut [5] from 25 to 33 (fun x wx => x = .pointer (some ⟨o, 0, none⟩) ∧ ∃ (q : Prd) (ur ul uh : Value), Hid (Ply v p vr vl vh w wx b r o q ur ul uh) ∧ OkI q)
    case first =>
      obtain ⟨R1, e1, l1, m1, f1, g1⟩ := rem_is p.rd 2 (by decide) (by decide)
      have ck1 := (cell_of_row wc b 2 _ _ _ hP.out.box).trans (show _ = some (.int .i64 p.rd) from rfl)
      have co1 := (cell_of_row wc o 2 _ _ _ hP.out.out).trans (show _ = some (.int .i64 q.rd) from rfl)
      have zo1 := frozen_of_row wc o 2 _ _ hP.out.out
      obtain ⟨W8, d, hW8, hd, hx8, hc8⟩ := lay_n wc [1, 3]
      obtain ⟨i, rfl⟩ : ∃ i : Nat, R1 = (i : Int) := ⟨R1.toNat, by omega⟩
      obtain ⟨x, hx⟩ : ∃ x, ([1, 3] : List Int)[i]? = some x := ⟨_, List.getElem?_eq_getElem (by show i < 2; omega)⟩
      have cx := hc8 i x hx
      replace ck1 := hx8.cell_of ck1
      replace co1 := hx8.cell_of co1
      replace zo1 := frozen_of_row W8 o 2 _ _ (hP.out.out.ext hx8)
      simp only [List.map_cons, List.map_nil] at hW8
      have hmem := List.mem_of_getElem? hx
      clear hc8 hx
      go_wp2
      go_meet
      exact ⟨rfl, { q with rd := x }, ur, ul, uh, (hP.out.on hx8).put 2 _ _ rfl rfl rfl rfl rfl, hI.out.rd hmem⟩
    case rest =>
    clear hP hI
    obtain ⟨rfl, q, ur, ul, uh, hP, hI⟩ := hcut
    replace hI := show Hid _ from hI
    go_upto_region 6 with fail
    go_cut [5] from 34 to 42 (fun x wx => x = .pointer (some ⟨o, 0, none⟩) ∧ ∃ (q : Prd) (ur ul uh : Value), Hid (Ply v p vr vl vh w wx b r o q ur ul uh) ∧ OkI q)
    case first =>
      obtain ⟨R1, e1, l1, m1, f1, g1⟩ := rem_is p.ev 6 (by decide) (by decide)
      have ck1 := (cell_of_row wc b 4 _ _ _ hP.out.box).trans (show _ = some (.int .i64 p.ev) from rfl)
      have co1 := (cell_of_row wc o 4 _ _ _ hP.out.out).trans (show _ = some (.int .i64 q.ev) from rfl)
      have zo1 := frozen_of_row wc o 4 _ _ hP.out.out
      obtain ⟨W8, d, hW8, hd, hx8, hc8⟩ := lay_n wc [1, 2, 3, 4, 6, 12]
      obtain ⟨i, rfl⟩ : ∃ i : Nat, R1 = (i : Int) := ⟨R1.toNat, by omega⟩
      obtain ⟨x, hx⟩ : ∃ x, ([1, 2, 3, 4, 6, 12] : List Int)[i]? = some x := ⟨_, List.getElem?_eq_getElem (by show i < 6; omega)⟩
      have cx := hc8 i x hx
      replace ck1 := hx8.cell_of ck1
      replace co1 := hx8.cell_of co1
      replace zo1 := frozen_of_row W8 o 4 _ _ (hP.out.out.ext hx8)
      simp only [List.map_cons, List.map_nil] at hW8
      have hmem := List.mem_of_getElem? hx
      clear hc8 hx
      go_wp2
      go_meet
      exact ⟨rfl, { q with ev := x }, ur, ul, uh, (hP.out.on hx8).put 4 _ _ rfl rfl rfl rfl rfl, hI.out.ev hmem⟩
    case rest =>
    clear hP hI
    obtain ⟨rfl, q, ur, ul, uh, hP, hI⟩ := hcut
    replace hI := show Hid _ from hI
    go_upto_region 7 with fail
    go_cut [5] from 43 to 51 (fun x wx => x = .pointer (some ⟨o, 0, none⟩) ∧ ∃ (q : Prd) (ur ul uh : Value), Hid (Ply v p vr vl vh w wx b r o q ur ul uh) ∧ OkI q)
    case first =>
      obtain ⟨R1, e1, l1, m1, f1, g1⟩ := rem_is p.tm 40 (by decide) (by decide)
      have ck1 := (cell_of_row wc b 5 _ _ _ hP.out.box).trans (show _ = some (.int .i64 p.tm) from rfl)
      have co1 := (cell_of_row wc o 5 _ _ _ hP.out.out).trans (show _ = some (.int .i64 q.tm) from rfl)
      have zo1 := frozen_of_row wc o 5 _ _ hP.out.out
      go_wp2
      go_meet
      exact ⟨rfl, { q with tm := (1 + R1) }, ur, ul, uh, (hP.out).put 5 _ _ rfl rfl rfl rfl rfl, hI.out.tm (by omega) (by omega)⟩
    case rest =>
    clear hP hI
    obtain ⟨rfl, q, ur, ul, uh, hP, hI⟩ := hcut
    replace hI := show Hid _ from hI
    go_upto_region 8 with fail
    go_cut [5] from 52 to 63 (fun x wx => x = .pointer (some ⟨o, 0, none⟩) ∧ ∃ (q : Prd) (ur ul uh : Value), Hid (Ply v p vr vl vh w wx b r o q ur ul uh) ∧ OkI q)
    case first =>
      obtain ⟨R1, e1, l1, m1, f1, g1⟩ := rem_is p.rt 300000000 (by decide) (by decide)
      obtain ⟨R2, e2, l2, m2, f2, g2⟩ := rem_is p.pn 500000000 (by decide) (by decide)
      have hbx := hP.out.box
      have hnb := hP.out.nb
      refine L8.wp_region_thrown (fun W => Blk W b (pcells p vr vl vh)) (fun a => False) [] (fun t => none) (fun x W => False) (by kernel_rfl) (fun _ _ _ h1 _ h3 => h3.elim) (hbx.ext (Ext.refl wc).drew) (fun hSt => ?_)
      obtain ⟨wz, hwz⟩ : ∃ W, W = wc.drew := ⟨_, rfl⟩
      replace hP : Hid (Ply v p vr vl vh w wz b r o q ur ul uh) := by rw [hwz]; exact hP.out.on (Ext.refl wc).drew
      rw [← hwz] at hSt ⊢
      clear hwz hbx
      refine L8.takeT 0 (oi := { dst := some 52, op := Op.fieldAddr 27 (Operand.tmp 2) 7, type := 0, pos := "play.go:25", after := #[], guard := none }) (v := .pointer (some ⟨b, 7, none⟩)) rfl (by kernel_rfl) (by kernel_rfl) (by kernel_rfl) (by decide) (Or.inl ⟨by rfl, fun W hW => ?_⟩) hSt ?_
      · go_simp
      simp only [Act.put, List.setIfInBounds_toArray, List.set_cons_zero, List.set_cons_succ]
      refine L8.takeT 1 (oi := { dst := some 53, op := Op.load 2 (Operand.tmp 52), type := 2, pos := "play.go:25", after := #[{ on := 0, ground := Ground.data }], guard := none }) (v := .int .i64 p.rt) rfl (by kernel_rfl) (by kernel_rfl) (by kernel_rfl) (by decide) (Or.inl ⟨by rfl, fun W hW => ?_⟩) hSt ?_
      · have hW1 := (cell_of_row W b 7 _ _ _ (show Blk W b (pcells p vr vl vh) from hW)).trans (show _ = some (.int .i64 p.rt) from rfl)
        go_simp
      simp only [Act.put, List.setIfInBounds_toArray, List.set_cons_zero, List.set_cons_succ]
      refine L8.takeT 2 (oi := { dst := some 54, op := Op.convert 2 31 (Operand.tmp 53), type := 31, pos := "play.go:25", after := #[{ on := 1, ground := Ground.data }], guard := none }) (v := .int .u64 (IntKind.u64.wrap p.rt)) rfl (by kernel_rfl) (by kernel_rfl) (by kernel_rfl) (by decide) (Or.inl ⟨by rfl, fun W hW => ?_⟩) hSt ?_
      · go_simp
      simp only [Act.put, List.setIfInBounds_toArray, List.set_cons_zero, List.set_cons_succ]
      refine L8.takeT 3 (oi := { dst := some 55, op := Op.binOp BinOp.rem 31 (Operand.tmp 54) (Operand.const (Value.int IntKind.u64 300000000)) 31, type := 31, pos := "play.go:25", after := #[{ on := 2, ground := Ground.data }], guard := none }) (v := .int .u64 R1) rfl (by kernel_rfl) (by kernel_rfl) (by kernel_rfl) (by decide) (Or.inl ⟨by rfl, fun W hW => ?_⟩) hSt ?_
      · go_simp
      simp only [Act.put, List.setIfInBounds_toArray, List.set_cons_zero, List.set_cons_succ]
      refine L8.takeT 4 (oi := { dst := some 56, op := Op.convert 31 2 (Operand.tmp 55), type := 2, pos := "play.go:25", after := #[{ on := 3, ground := Ground.data }], guard := none }) (v := .int .i64 R1) rfl (by kernel_rfl) (by kernel_rfl) (by kernel_rfl) (by decide) (Or.inl ⟨by rfl, fun W hW => ?_⟩) hSt ?_
      · go_simp
      simp only [Act.put, List.setIfInBounds_toArray, List.set_cons_zero, List.set_cons_succ]
      refine L8.takeT 5 (oi := { dst := some 57, op := Op.fieldAddr 27 (Operand.tmp 2) 9, type := 0, pos := "play.go:25", after := #[{ on := 11, ground := Ground.gcOnly Departure.lateStores }], guard := none }) (v := .pointer (some ⟨b, 9, none⟩)) rfl (by kernel_rfl) (by kernel_rfl) (by kernel_rfl) (by decide) (Or.inl ⟨by rfl, fun W hW => ?_⟩) hSt ?_
      · go_simp
      simp only [Act.put, List.setIfInBounds_toArray, List.set_cons_zero, List.set_cons_succ]
      refine L8.takeT 6 (oi := { dst := some 58, op := Op.load 2 (Operand.tmp 57), type := 2, pos := "play.go:25", after := #[{ on := 5, ground := Ground.data }, { on := 11, ground := Ground.gcOnly Departure.lateStores }], guard := none }) (v := .int .i64 p.pn) rfl (by kernel_rfl) (by kernel_rfl) (by kernel_rfl) (by decide) (Or.inl ⟨by rfl, fun W hW => ?_⟩) hSt ?_
      · have hW1 := (cell_of_row W b 9 _ _ _ (show Blk W b (pcells p vr vl vh) from hW)).trans (show _ = some (.int .i64 p.pn) from rfl)
        go_simp
      simp only [Act.put, List.setIfInBounds_toArray, List.set_cons_zero, List.set_cons_succ]
      refine L8.takeT 7 (oi := { dst := some 59, op := Op.convert 2 31 (Operand.tmp 58), type := 31, pos := "play.go:25", after := #[{ on := 6, ground := Ground.data }, { on := 11, ground := Ground.gcOnly Departure.lateStores }], guard := none }) (v := .int .u64 (IntKind.u64.wrap p.pn)) rfl (by kernel_rfl) (by kernel_rfl) (by kernel_rfl) (by decide) (Or.inl ⟨by rfl, fun W hW => ?_⟩) hSt ?_
      · go_simp
      simp only [Act.put, List.setIfInBounds_toArray, List.set_cons_zero, List.set_cons_succ]
      refine L8.takeT 8 (oi := { dst := some 60, op := Op.binOp BinOp.rem 31 (Operand.tmp 59) (Operand.const (Value.int IntKind.u64 500000000)) 31, type := 31, pos := "play.go:25", after := #[{ on := 7, ground := Ground.data }, { on := 11, ground := Ground.gcOnly Departure.lateStores }], guard := none }) (v := .int .u64 R2) rfl (by kernel_rfl) (by kernel_rfl) (by kernel_rfl) (by decide) (Or.inl ⟨by rfl, fun W hW => ?_⟩) hSt ?_
      · go_simp
      simp only [Act.put, List.setIfInBounds_toArray, List.set_cons_zero, List.set_cons_succ]
      refine L8.takeT 9 (oi := { dst := some 61, op := Op.convert 31 2 (Operand.tmp 60), type := 2, pos := "play.go:25", after := #[{ on := 8, ground := Ground.data }, { on := 11, ground := Ground.gcOnly Departure.lateStores }], guard := none }) (v := .int .i64 R2) rfl (by kernel_rfl) (by kernel_rfl) (by kernel_rfl) (by decide) (Or.inl ⟨by rfl, fun W hW => ?_⟩) hSt ?_
      · go_simp
      simp only [Act.put, List.setIfInBounds_toArray, List.set_cons_zero, List.set_cons_succ]
      refine L8.takeT 10 (oi := { dst := some 62, op := Op.fieldAddr 27 (Operand.tmp 5) 7, type := 0, pos := "play.go:25", after := #[{ on := 0, ground := Ground.phase }, { on := 1, ground := Ground.phase }, { on := 2, ground := Ground.phase }, { on := 3, ground := Ground.phase }, { on := 4, ground := Ground.phase }, { on := 5, ground := Ground.textOnly Departure.lateStores }, { on := 6, ground := Ground.textOnly Departure.lateStores }, { on := 7, ground := Ground.textOnly Departure.lateStores }, { on := 8, ground := Ground.textOnly Departure.lateStores }, { on := 9, ground := Ground.textOnly Departure.lateStores }], guard := none }) (v := .pointer (some ⟨o, 7, none⟩)) rfl (by kernel_rfl) (by kernel_rfl) (by kernel_rfl) (by decide) (Or.inl ⟨by rfl, fun W hW => ?_⟩) hSt ?_
      · go_simp
      simp only [Act.put, List.setIfInBounds_toArray, List.set_cons_zero, List.set_cons_succ]
      refine wpAnyH_ready (rs := [11]) (by kernel_rfl) (by simp) ?_
      refine AllReadyH.cons (o := { dst := none, op := Op.store 2 (Operand.tmp 62) (Operand.tmp 56), type := 0, pos := "play.go:25", after := #[{ on := 10, ground := Ground.data }, { on := 4, ground := Ground.data }, { on := 0, ground := Ground.phase }, { on := 1, ground := Ground.phase }, { on := 2, ground := Ground.phase }, { on := 3, ground := Ground.phase }, { on := 4, ground := Ground.phase }, { on := 5, ground := Ground.textOnly Departure.lateStores }, { on := 6, ground := Ground.textOnly Departure.lateStores }, { on := 7, ground := Ground.textOnly Departure.lateStores }, { on := 8, ground := Ground.textOnly Departure.lateStores }, { on := 9, ground := Ground.textOnly Departure.lateStores }], guard := none }) rfl (fun K hK => ?_) AllReadyH.nil
      have co := (cell_of_row wz o 7 _ _ _ hP.out.out).trans (show _ = some (.int .i64 q.rt) from rfl)
      have zo := frozen_of_row wz o 7 _ _ hP.out.out
      go_simp
      refine hK.out _ _ (L8.Blk.other hSt 7 _ hnb) ?_
      clear hK K hSt co zo
      intro hSt
      try simp only [Act.put, List.setIfInBounds_toArray, List.set_cons_zero, List.set_cons_succ]
      obtain ⟨wy, hwy⟩ : ∃ W, W = wz.setCell ⟨o, 7, none⟩ (.int .i64 R1) := ⟨_, rfl⟩
      obtain ⟨q, hP, hI⟩ : ∃ q, Hid (Ply v p vr vl vh w wy b r o q ur ul uh) ∧ Hid (OkI q) := by rw [hwy]; exact ⟨{ q with rt := R1 }, hP.out.put 7 _ _ rfl rfl rfl rfl rfl, hI.out.rt (by omega) (by omega)⟩
      rw [← hwy] at hSt ⊢
      clear hwy
      refine L8.takeT 12 (oi := { dst := some 63, op := Op.fieldAddr 27 (Operand.tmp 5) 9, type := 0, pos := "play.go:25", after := #[{ on := 0, ground := Ground.phase }, { on := 1, ground := Ground.phase }, { on := 2, ground := Ground.phase }, { on := 3, ground := Ground.phase }, { on := 4, ground := Ground.phase }, { on := 5, ground := Ground.phase }, { on := 6, ground := Ground.phase }, { on := 7, ground := Ground.phase }, { on := 8, ground := Ground.phase }, { on := 9, ground := Ground.phase }, { on := 10, ground := Ground.phase }, { on := 11, ground := Ground.phase }], guard := none }) (v := .pointer (some ⟨o, 9, none⟩)) rfl (by kernel_rfl) (by kernel_rfl) (by kernel_rfl) (by decide) (Or.inl ⟨by rfl, fun W hW => ?_⟩) hSt ?_
      · go_simp
      simp only [Act.put, List.setIfInBounds_toArray, List.set_cons_zero, List.set_cons_succ]
      refine wpAnyH_ready (rs := [13]) (by kernel_rfl) (by simp) ?_
      refine AllReadyH.cons (o := { dst := none, op := Op.store 2 (Operand.tmp 63) (Operand.tmp 61), type := 0, pos := "play.go:25", after := #[{ on := 12, ground := Ground.data }, { on := 9, ground := Ground.data }, { on := 11, ground := Ground.chain }, { on := 0, ground := Ground.phase }, { on := 1, ground := Ground.phase }, { on := 2, ground := Ground.phase }, { on := 3, ground := Ground.phase }, { on := 4, ground := Ground.phase }, { on := 5, ground := Ground.phase }, { on := 6, ground := Ground.phase }, { on := 7, ground := Ground.phase }, { on := 8, ground := Ground.phase }, { on := 9, ground := Ground.phase }, { on := 10, ground := Ground.phase }, { on := 11, ground := Ground.phase }], guard := none }) rfl (fun K hK => ?_) AllReadyH.nil
      have co := (cell_of_row wy o 9 _ _ _ hP.out.out).trans (show _ = some (.int .i64 q.pn) from rfl)
      have zo := frozen_of_row wy o 9 _ _ hP.out.out
      go_simp
      refine hK.out _ _ (L8.Blk.other hSt 9 _ hnb) ?_
      clear hK K hSt co zo
      intro hSt
      try simp only [Act.put, List.setIfInBounds_toArray, List.set_cons_zero, List.set_cons_succ]
      refine wpAnyH_done (by kernel_rfl) (L8.ThrowQ.normal ?_) _
      go_wp2
      go_meet
      exact ⟨rfl, { q with pn := R2 }, ur, ul, uh, hP.out.put 9 _ _ rfl rfl rfl rfl rfl, hI.out.pn (by omega) (by omega)⟩
    case rest =>
    clear hP hI
    obtain ⟨rfl, q, ur, ul, uh, hP, hI⟩ := hcut
    replace hI := show Hid _ from hI
    go_upto_region 9 with fail
    go_cut [5] from 64 to 70 (fun x wx => x = .pointer (some ⟨o, 0, none⟩) ∧ ∃ (q : Prd) (ur ul uh : Value), Hid (Ply v p vr vl vh w wx b r o q ur ul uh) ∧ OkI q)
    case first =>
      obtain ⟨R1, e1, l1, m1, f1, g1⟩ := rem_is p.ov 3 (by decide) (by decide)
      have ck1 := (cell_of_row wc b 14 _ _ _ hP.out.box).trans (show _ = some (.int .i64 p.ov) from rfl)
      have co1 := (cell_of_row wc o 14 _ _ _ hP.out.out).trans (show _ = some (.int .i64 q.ov) from rfl)
      have zo1 := frozen_of_row wc o 14 _ _ hP.out.out
      go_wp2
      go_meet
      exact ⟨rfl, { q with ov := (1 + R1) }, ur, ul, uh, (hP.out).put 14 _ _ rfl rfl rfl rfl rfl, hI.out.ov (by omega) (by omega)⟩
    case rest =>
    clear hP hI
    obtain ⟨rfl, q, ur, ul, uh, hP, hI⟩ := hcut
    replace hI := show Hid _ from hI
    go_wp2
    go_meet
    exact ⟨rfl, q, ur, ul, uh, hP, hI.out.ok⟩
  case rest =>
  clear hP
  obtain ⟨rfl, q, ur, ul, uh, hP, hok⟩ := hcut
  replace hok := show Hid _ from hok
  go_upto_region 10 with fail
  have c5 := (cell_of_row wc o 5 _ _ _ hP.out.out).trans (show _ = some (.int .i64 q.tm) from rfl)
  have z5 := frozen_of_row wc o 5 _ _ hP.out.out
  have z8 := frozen_of_row wc o 8 _ _ hP.out.out
  have c8 := (cell_of_row wc o 8 _ _ _ hP.out.out).trans (show _ = some ur from rfl)
  go_upto_if 74 with fail
  go_cut [5] from 75 to 77 (fun x wx => x = .pointer (some ⟨o, 0, none⟩) ∧ ∃ (q : Prd) (ur ul uh : Value), Hid (Ply v p vr vl vh w wx b r o q ur ul uh) ∧ OkT q ∧ Hid (q.tm ≤ 40))
  case first =>
    by_cases hq : 40 < q.tm
    · go_wp2
      go_meet
      exact ⟨rfl, { q with tm := 40, rs := [] }, _, ul, uh, (hP.out.put 5 (.int .i64 40) { q with tm := 40 } rfl rfl rfl rfl rfl).bare, okT_cut hok.out 40 (by decide) (by decide), show (40 : Int) ≤ 40 by decide⟩
    · go_wp2
      go_meet
      exact ⟨rfl, q, ur, ul, uh, hP, okT_of hok.out, show q.tm ≤ 40 by omega⟩
  case rest =>
  clear hP hok c5 z5 z8 c8
  obtain ⟨rfl, q, ur, ul, uh, hP, hT, hM⟩ := hcut
  replace hT := show Hid _ from hT
  have c5 := (cell_of_row wc o 5 _ _ _ hP.out.out).trans (show _ = some (.int .i64 q.tm) from rfl)
  have c6 := (cell_of_row wc o 6 _ _ _ hP.out.out).trans (show _ = some (.int .i64 q.gr) from rfl)
  have c3 := (cell_of_row wc o 3 _ _ _ hP.out.out).trans (show _ = some (.int .i64 q.kd) from rfl)
  have z6 := frozen_of_row wc o 6 _ _ hP.out.out
  go_upto_region 13 with fail
  go_cut [87] from 78 to 86 (fun x wx => (∃ vb : Bool, x = .bool vb ∧ Hid (vb = false → ¬ q.tm ≤ q.gr ∧ q.kd ≠ 3)) ∧ wx = wc)
  case first =>
    by_cases hg : q.tm ≤ q.gr
    · go_wp2
      go_meet
      exact ⟨⟨_, rfl, fun h => by cases h⟩, rfl⟩
    · go_wp2
      go_meet
      exact ⟨⟨_, rfl, fun h => ⟨hg, fun e => by rw [e] at h; revert h; decide⟩⟩, rfl⟩
  case rest =>
  obtain ⟨⟨vb, rfl, hvb⟩, rfl⟩ := hcut
  go_upto_if 87 with fail
  go_cut [5, 87] from 88 to 88 (fun x _ wx => x = .pointer (some ⟨o, 0, none⟩) ∧ ∃ (q : Prd) (ur ul uh : Value), Hid (Ply v p vr vl vh w wx b r o q ur ul uh) ∧ okP q = true ∧ Hid (q.tm ≤ 40))
  case first =>
    cases vb
    · go_wp2
      go_meet
      exact ⟨rfl, q, ur, ul, uh, hP, hT.out.full (by have := (hvb.out (by first | rfl | trivial)).1; omega) (hvb.out (by first | rfl | trivial)).2, hM⟩
    · go_wp2
      go_meet
      exact ⟨rfl, { q with gr := 0 }, ur, ul, uh, hP.out.put 6 (.int .i64 0) { q with gr := 0 } rfl rfl rfl rfl rfl, hT.out.bare, hM⟩
  case rest =>
  clear hP hT hvb hM c5 c6 c3 z6
  obtain ⟨rfl, q, ur, ul, uh, hP, hok, hM⟩ := hcut
  replace hok := show Hid _ from hok
  have hBo := hP.out.out
  have hBr := hP.out.res
  have hqo := one_of hP.out.sr hP.out.sl hP.out.sh
  go_wp2_with (first | refine load27 hBo rfl rfl rfl rfl ?_ | refine store27 (cs := pcells q ur ul uh) hBr rfl rfl hqo rfl rfl rfl rfl ?_)
  intro W9 hB9 hx9
  go_wp2
  exact bodyPost_ret (v := .agg (pcells q ur ul uh)) (results_cell_row (p := 4) rfl _ _ r _ (pcells q ur ul uh) (0, 0) _ rfl hB9 Tryz.underlying27 rfl (by kernel_rfl)) rfl ⟨hx9.ext hP.out.ext hP.out.lr, q, ur, ul, uh, rfl, hP.out.sr, hP.out.sl, hP.out.sh, hP.out.nm, hP.out.few, hok.out, hM.out⟩
end Go.Proofs.YtafjmpaefikdcaaGreatDoor
