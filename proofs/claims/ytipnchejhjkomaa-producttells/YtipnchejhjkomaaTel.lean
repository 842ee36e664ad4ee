/- The law of products: no statement of the seat is proved here. -/
import Derived.Test.YtipnchejhjkomaaFrame2
import Derived.Deep.Cut
import Derived.Test.YtipnchejhjkomaaHel
namespace Go.Proofs.Ytipnchejhjkomaa
open Go.RowKit
set_option linter.unusedVariables false

theorem held3 {W W' : World} {b : Nat} {u v x : Value} (hx : Ext W W') (h : W.cell? ⟨b, 8, none⟩ = some u ∧ W.cell? ⟨b, 15, none⟩ = some v ∧ W.cell? ⟨b, 18, none⟩ = some x) : W'.cell? ⟨b, 8, none⟩ = some u ∧ W'.cell? ⟨b, 15, none⟩ = some v ∧ W'.cell? ⟨b, 18, none⟩ = some x :=
  ⟨hx.cell_of h.1, hx.cell_of h.2.1, hx.cell_of h.2.2⟩
theorem held3_far {W : World} {b i : Nat} {u v x y : Value} (h : W.cell? ⟨b, 8, none⟩ = some u ∧ W.cell? ⟨b, 15, none⟩ = some v ∧ W.cell? ⟨b, 18, none⟩ = some x) : (W.setCell ⟨b + 1, i, none⟩ y).cell? ⟨b, 8, none⟩ = some u ∧ (W.setCell ⟨b + 1, i, none⟩ y).cell? ⟨b, 15, none⟩ = some v ∧ (W.setCell ⟨b + 1, i, none⟩ y).cell? ⟨b, 18, none⟩ = some x :=
  ⟨by rw [other _ (Or.inl (by omega))]; exact h.1, by rw [other _ (Or.inl (by omega))]; exact h.2.1, by rw [other _ (Or.inl (by omega))]; exact h.2.2⟩
theorem Lsp.far {w : World} {g b : Nat} {L : List (Int × Int)} (h : Lsp w g L) (hb : b ≠ g) (i : Nat) (v : Value) : Lsp (w.setCell ⟨b, i, none⟩ v) g L :=
  ⟨fun k x y hk => ⟨by rw [other _ (Or.inl hb)]; exact (h.cell k x y hk).1, by rw [other _ (Or.inl hb)]; exact (h.cell k x y hk).2⟩⟩
theorem Lst.far {w : World} {g b : Nat} {L : List Int} (h : Lst w g L) (hb : b ≠ g) (i : Nat) (v : Value) : Lst (w.setCell ⟨b, i, none⟩ v) g L :=
  ⟨fun k x hk => by rw [other _ (Or.inl hb)]; exact h.cell k x hk, fun k x hk => by simpa using h.free k x hk⟩
/-- A whole product out of its block, in whatever world of the class. -/
theorem quiet_load27 {ops : Array Oper} {rest : List Oper} {o : Oper} {a : Act} {C : World → Prop} {Q : Act → Prop} {x : Operand} {g : Nat} {cs : Array Value} (hg : ∀ w', C w' → Blk w' g cs) (hn : cs.size = 19) (ho : o.op = .load 27 x)
    (hx : a.eval x = .pointer (some ⟨g, 0, none⟩)) (hw : Region.wanted o (yielded ops a.tmps) = true)
    (h : wpQuiet Try.prog ops C Q rest (a.put o.dst (.agg cs))) : wpQuiet Try.prog ops C Q (o :: rest) a := by
  unfold wpQuiet
  rw [if_pos hw]
  refine ⟨.agg cs, fun w' hC => ?_, h⟩
  unfold Oper.quietAt execOp
  simp only [ho, hx, Instr.loadAt, Instr.sureAddr, Sem.run_bind, Sem.run_pure, Result.andThen_ok, run_loadVar_row w' g 27 27 cs (0, 0) _ (hg w' hC) Try.underlying27 rfl (by rw [hn]; kernel_rfl)]
  exact ⟨rfl, rfl⟩
theorem long0 (nm : List UInt8) (cn rd kd ev tm gr rt : Int) (ar : Option Addr) (cr : Nat) (rs : List (Int × Int)) (pn o0 o1 o2 o3 ov : Int) (al : Option Addr) (cl : Nat) (lt : List (Int × Int)) (cp rl : Int) (ah : Option Addr) (ch : Nat) (hd : List Int) (s : List UInt8) (w : World) (hp : Fits nm rs lt hd) (hs : s.length ≤ maxLen)  (hl : 100 < nm.length) :
    Calls Try.prog 3 #[.agg #[.string ⟨nm.toArray⟩, .int .i64 cn, .int .i64 rd, .int .i64 kd, .int .i64 ev, .int .i64 tm, .int .i64 gr, .int .i64 rt, .slice ar rs.length cr, .int .i64 pn, .int .i64 o0, .int .i64 o1, .int .i64 o2, .int .i64 o3, .int .i64 ov, .slice al lt.length cl, .int .i64 cp, .int .i64 rl, .slice ah hd.length ch], .string ⟨s.toArray⟩] w fun e w' => e = .returned (.bool true) ∧ Ext w w' := by
  have m0 := hp.nm; have m1 := hp.rs; have m2 := hp.lt; have m3 := hp.hd
  unfold maxLen at m0 m1 m2 m3 hs
  clear hp
  obtain ⟨W0, b, hW0, hb, hx0, hB⟩ : ∃ W b, w.alloc (.cells #[.string ⟨nm.toArray⟩, .int .i64 cn, .int .i64 rd, .int .i64 kd, .int .i64 ev, .int .i64 tm, .int .i64 gr, .int .i64 rt, .slice ar rs.length cr, .int .i64 pn, .int .i64 o0, .int .i64 o1, .int .i64 o2, .int .i64 o3, .int .i64 ov, .slice al lt.length cl, .int .i64 cp, .int .i64 rl, .slice ah hd.length ch] 27) = W ∧ w.heap.size = b ∧ Ext w W ∧ Blk W b #[.string ⟨nm.toArray⟩, .int .i64 cn, .int .i64 rd, .int .i64 kd, .int .i64 ev, .int .i64 tm, .int .i64 gr, .int .i64 rt, .slice ar rs.length cr, .int .i64 pn, .int .i64 o0, .int .i64 o1, .int .i64 o2, .int .i64 o3, .int .i64 ov, .slice al lt.length cl, .int .i64 cp, .int .i64 rl, .slice ah hd.length ch] := ⟨_, _, rfl, rfl, (Ext.refl w).alloc _ _, heap_alloc_last w _⟩
  have y0 : W0.cell? ⟨b, 0, none⟩ = some (.string ⟨nm.toArray⟩) := (cell_of_row _ b 0 _ _ _ hB).trans rfl
  have y8 : W0.cell? ⟨b, 8, none⟩ = some (.slice ar rs.length cr) := (cell_of_row _ b 8 _ _ _ hB).trans rfl
  have y15 : W0.cell? ⟨b, 15, none⟩ = some (.slice al lt.length cl) := (cell_of_row _ b 15 _ _ _ hB).trans rfl
  have y18 : W0.cell? ⟨b, 18, none⟩ = some (.slice ah hd.length ch) := (cell_of_row _ b 18 _ _ _ hB).trans rfl
  have hli : (100 : Int) < (nm.length : Int) := by omega
  clear hB
  replace hx0 := show Hid _ from hx0
  go_enter Try.func3, Try.ntmps3
  go_wp2_with fail
  refine (awake_c _).mono ?_
  rintro e w1 ⟨rfl, hx⟩
  replace hx := show Hid _ from hx
  go_wp2
  go_ret
  exact ⟨rfl, hx0.out.trans hx.out⟩
theorem long1 (nm : List UInt8) (cn rd kd ev tm gr rt : Int) (ar : Option Addr) (cr : Nat) (rs : List (Int × Int)) (pn o0 o1 o2 o3 ov : Int) (al : Option Addr) (cl : Nat) (lt : List (Int × Int)) (cp rl : Int) (ah : Option Addr) (ch : Nat) (hd : List Int) (s : List UInt8) (w : World) (hp : Fits nm rs lt hd) (hs : s.length ≤ maxLen) (p0 : nm.length ≤ 100) (hl : 100 < s.length) :
    Calls Try.prog 3 #[.agg #[.string ⟨nm.toArray⟩, .int .i64 cn, .int .i64 rd, .int .i64 kd, .int .i64 ev, .int .i64 tm, .int .i64 gr, .int .i64 rt, .slice ar rs.length cr, .int .i64 pn, .int .i64 o0, .int .i64 o1, .int .i64 o2, .int .i64 o3, .int .i64 ov, .slice al lt.length cl, .int .i64 cp, .int .i64 rl, .slice ah hd.length ch], .string ⟨s.toArray⟩] w fun e w' => e = .returned (.bool true) ∧ Ext w w' := by
  have m0 := hp.nm; have m1 := hp.rs; have m2 := hp.lt; have m3 := hp.hd
  unfold maxLen at m0 m1 m2 m3 hs
  clear hp
  obtain ⟨W0, b, hW0, hb, hx0, hB⟩ : ∃ W b, w.alloc (.cells #[.string ⟨nm.toArray⟩, .int .i64 cn, .int .i64 rd, .int .i64 kd, .int .i64 ev, .int .i64 tm, .int .i64 gr, .int .i64 rt, .slice ar rs.length cr, .int .i64 pn, .int .i64 o0, .int .i64 o1, .int .i64 o2, .int .i64 o3, .int .i64 ov, .slice al lt.length cl, .int .i64 cp, .int .i64 rl, .slice ah hd.length ch] 27) = W ∧ w.heap.size = b ∧ Ext w W ∧ Blk W b #[.string ⟨nm.toArray⟩, .int .i64 cn, .int .i64 rd, .int .i64 kd, .int .i64 ev, .int .i64 tm, .int .i64 gr, .int .i64 rt, .slice ar rs.length cr, .int .i64 pn, .int .i64 o0, .int .i64 o1, .int .i64 o2, .int .i64 o3, .int .i64 ov, .slice al lt.length cl, .int .i64 cp, .int .i64 rl, .slice ah hd.length ch] := ⟨_, _, rfl, rfl, (Ext.refl w).alloc _ _, heap_alloc_last w _⟩
  have y0 : W0.cell? ⟨b, 0, none⟩ = some (.string ⟨nm.toArray⟩) := (cell_of_row _ b 0 _ _ _ hB).trans rfl
  have y8 : W0.cell? ⟨b, 8, none⟩ = some (.slice ar rs.length cr) := (cell_of_row _ b 8 _ _ _ hB).trans rfl
  have y15 : W0.cell? ⟨b, 15, none⟩ = some (.slice al lt.length cl) := (cell_of_row _ b 15 _ _ _ hB).trans rfl
  have y18 : W0.cell? ⟨b, 18, none⟩ = some (.slice ah hd.length ch) := (cell_of_row _ b 18 _ _ _ hB).trans rfl
  have hli : (100 : Int) < (s.length : Int) := by omega
  have pi0 : ¬ (100 : Int) < (nm.length : Int) := by omega
  clear hB
  replace hx0 := show Hid _ from hx0
  go_enter Try.func3, Try.ntmps3
  go_wp2_with fail
  refine (awake_c _).mono ?_
  rintro e w1 ⟨rfl, hx⟩
  replace hx := show Hid _ from hx
  go_wp2
  go_ret
  exact ⟨rfl, hx0.out.trans hx.out⟩
theorem long2 (nm : List UInt8) (cn rd kd ev tm gr rt : Int) (ar : Option Addr) (cr : Nat) (rs : List (Int × Int)) (pn o0 o1 o2 o3 ov : Int) (al : Option Addr) (cl : Nat) (lt : List (Int × Int)) (cp rl : Int) (ah : Option Addr) (ch : Nat) (hd : List Int) (s : List UInt8) (w : World) (hp : Fits nm rs lt hd) (hs : s.length ≤ maxLen) (p0 : nm.length ≤ 100) (p1 : s.length ≤ 100) (hl : 50 < rs.length) :
    Calls Try.prog 3 #[.agg #[.string ⟨nm.toArray⟩, .int .i64 cn, .int .i64 rd, .int .i64 kd, .int .i64 ev, .int .i64 tm, .int .i64 gr, .int .i64 rt, .slice ar rs.length cr, .int .i64 pn, .int .i64 o0, .int .i64 o1, .int .i64 o2, .int .i64 o3, .int .i64 ov, .slice al lt.length cl, .int .i64 cp, .int .i64 rl, .slice ah hd.length ch], .string ⟨s.toArray⟩] w fun e w' => e = .returned (.bool true) ∧ Ext w w' := by
  have m0 := hp.nm; have m1 := hp.rs; have m2 := hp.lt; have m3 := hp.hd
  unfold maxLen at m0 m1 m2 m3 hs
  clear hp
  obtain ⟨W0, b, hW0, hb, hx0, hB⟩ : ∃ W b, w.alloc (.cells #[.string ⟨nm.toArray⟩, .int .i64 cn, .int .i64 rd, .int .i64 kd, .int .i64 ev, .int .i64 tm, .int .i64 gr, .int .i64 rt, .slice ar rs.length cr, .int .i64 pn, .int .i64 o0, .int .i64 o1, .int .i64 o2, .int .i64 o3, .int .i64 ov, .slice al lt.length cl, .int .i64 cp, .int .i64 rl, .slice ah hd.length ch] 27) = W ∧ w.heap.size = b ∧ Ext w W ∧ Blk W b #[.string ⟨nm.toArray⟩, .int .i64 cn, .int .i64 rd, .int .i64 kd, .int .i64 ev, .int .i64 tm, .int .i64 gr, .int .i64 rt, .slice ar rs.length cr, .int .i64 pn, .int .i64 o0, .int .i64 o1, .int .i64 o2, .int .i64 o3, .int .i64 ov, .slice al lt.length cl, .int .i64 cp, .int .i64 rl, .slice ah hd.length ch] := ⟨_, _, rfl, rfl, (Ext.refl w).alloc _ _, heap_alloc_last w _⟩
  have y0 : W0.cell? ⟨b, 0, none⟩ = some (.string ⟨nm.toArray⟩) := (cell_of_row _ b 0 _ _ _ hB).trans rfl
  have y8 : W0.cell? ⟨b, 8, none⟩ = some (.slice ar rs.length cr) := (cell_of_row _ b 8 _ _ _ hB).trans rfl
  have y15 : W0.cell? ⟨b, 15, none⟩ = some (.slice al lt.length cl) := (cell_of_row _ b 15 _ _ _ hB).trans rfl
  have y18 : W0.cell? ⟨b, 18, none⟩ = some (.slice ah hd.length ch) := (cell_of_row _ b 18 _ _ _ hB).trans rfl
  have hli : (50 : Int) < (rs.length : Int) := by omega
  have pi0 : ¬ (100 : Int) < (nm.length : Int) := by omega
  have pi1 : ¬ (100 : Int) < (s.length : Int) := by omega
  clear hB
  replace hx0 := show Hid _ from hx0
  go_enter Try.func3, Try.ntmps3
  go_wp2_with fail
  refine (awake_c _).mono ?_
  rintro e w1 ⟨rfl, hx⟩
  replace hx := show Hid _ from hx
  go_wp2
  go_ret
  exact ⟨rfl, hx0.out.trans hx.out⟩
theorem long3 (nm : List UInt8) (cn rd kd ev tm gr rt : Int) (ar : Option Addr) (cr : Nat) (rs : List (Int × Int)) (pn o0 o1 o2 o3 ov : Int) (al : Option Addr) (cl : Nat) (lt : List (Int × Int)) (cp rl : Int) (ah : Option Addr) (ch : Nat) (hd : List Int) (s : List UInt8) (w : World) (hp : Fits nm rs lt hd) (hs : s.length ≤ maxLen) (p0 : nm.length ≤ 100) (p1 : s.length ≤ 100) (p2 : rs.length ≤ 50) (hl : 50 < lt.length) :
    Calls Try.prog 3 #[.agg #[.string ⟨nm.toArray⟩, .int .i64 cn, .int .i64 rd, .int .i64 kd, .int .i64 ev, .int .i64 tm, .int .i64 gr, .int .i64 rt, .slice ar rs.length cr, .int .i64 pn, .int .i64 o0, .int .i64 o1, .int .i64 o2, .int .i64 o3, .int .i64 ov, .slice al lt.length cl, .int .i64 cp, .int .i64 rl, .slice ah hd.length ch], .string ⟨s.toArray⟩] w fun e w' => e = .returned (.bool true) ∧ Ext w w' := by
  have m0 := hp.nm; have m1 := hp.rs; have m2 := hp.lt; have m3 := hp.hd
  unfold maxLen at m0 m1 m2 m3 hs
  clear hp
  obtain ⟨W0, b, hW0, hb, hx0, hB⟩ : ∃ W b, w.alloc (.cells #[.string ⟨nm.toArray⟩, .int .i64 cn, .int .i64 rd, .int .i64 kd, .int .i64 ev, .int .i64 tm, .int .i64 gr, .int .i64 rt, .slice ar rs.length cr, .int .i64 pn, .int .i64 o0, .int .i64 o1, .int .i64 o2, .int .i64 o3, .int .i64 ov, .slice al lt.length cl, .int .i64 cp, .int .i64 rl, .slice ah hd.length ch] 27) = W ∧ w.heap.size = b ∧ Ext w W ∧ Blk W b #[.string ⟨nm.toArray⟩, .int .i64 cn, .int .i64 rd, .int .i64 kd, .int .i64 ev, .int .i64 tm, .int .i64 gr, .int .i64 rt, .slice ar rs.length cr, .int .i64 pn, .int .i64 o0, .int .i64 o1, .int .i64 o2, .int .i64 o3, .int .i64 ov, .slice al lt.length cl, .int .i64 cp, .int .i64 rl, .slice ah hd.length ch] := ⟨_, _, rfl, rfl, (Ext.refl w).alloc _ _, heap_alloc_last w _⟩
  have y0 : W0.cell? ⟨b, 0, none⟩ = some (.string ⟨nm.toArray⟩) := (cell_of_row _ b 0 _ _ _ hB).trans rfl
  have y8 : W0.cell? ⟨b, 8, none⟩ = some (.slice ar rs.length cr) := (cell_of_row _ b 8 _ _ _ hB).trans rfl
  have y15 : W0.cell? ⟨b, 15, none⟩ = some (.slice al lt.length cl) := (cell_of_row _ b 15 _ _ _ hB).trans rfl
  have y18 : W0.cell? ⟨b, 18, none⟩ = some (.slice ah hd.length ch) := (cell_of_row _ b 18 _ _ _ hB).trans rfl
  have hli : (50 : Int) < (lt.length : Int) := by omega
  have pi0 : ¬ (100 : Int) < (nm.length : Int) := by omega
  have pi1 : ¬ (100 : Int) < (s.length : Int) := by omega
  have pi2 : ¬ (50 : Int) < (rs.length : Int) := by omega
  clear hB
  replace hx0 := show Hid _ from hx0
  go_enter Try.func3, Try.ntmps3
  go_wp2_with fail
  refine (awake_c _).mono ?_
  rintro e w1 ⟨rfl, hx⟩
  replace hx := show Hid _ from hx
  go_wp2
  go_ret
  exact ⟨rfl, hx0.out.trans hx.out⟩
theorem long4 (nm : List UInt8) (cn rd kd ev tm gr rt : Int) (ar : Option Addr) (cr : Nat) (rs : List (Int × Int)) (pn o0 o1 o2 o3 ov : Int) (al : Option Addr) (cl : Nat) (lt : List (Int × Int)) (cp rl : Int) (ah : Option Addr) (ch : Nat) (hd : List Int) (s : List UInt8) (w : World) (hp : Fits nm rs lt hd) (hs : s.length ≤ maxLen) (p0 : nm.length ≤ 100) (p1 : s.length ≤ 100) (p2 : rs.length ≤ 50) (p3 : lt.length ≤ 50) (hl : 300 < hd.length) :
    Calls Try.prog 3 #[.agg #[.string ⟨nm.toArray⟩, .int .i64 cn, .int .i64 rd, .int .i64 kd, .int .i64 ev, .int .i64 tm, .int .i64 gr, .int .i64 rt, .slice ar rs.length cr, .int .i64 pn, .int .i64 o0, .int .i64 o1, .int .i64 o2, .int .i64 o3, .int .i64 ov, .slice al lt.length cl, .int .i64 cp, .int .i64 rl, .slice ah hd.length ch], .string ⟨s.toArray⟩] w fun e w' => e = .returned (.bool true) ∧ Ext w w' := by
  have m0 := hp.nm; have m1 := hp.rs; have m2 := hp.lt; have m3 := hp.hd
  unfold maxLen at m0 m1 m2 m3 hs
  clear hp
  obtain ⟨W0, b, hW0, hb, hx0, hB⟩ : ∃ W b, w.alloc (.cells #[.string ⟨nm.toArray⟩, .int .i64 cn, .int .i64 rd, .int .i64 kd, .int .i64 ev, .int .i64 tm, .int .i64 gr, .int .i64 rt, .slice ar rs.length cr, .int .i64 pn, .int .i64 o0, .int .i64 o1, .int .i64 o2, .int .i64 o3, .int .i64 ov, .slice al lt.length cl, .int .i64 cp, .int .i64 rl, .slice ah hd.length ch] 27) = W ∧ w.heap.size = b ∧ Ext w W ∧ Blk W b #[.string ⟨nm.toArray⟩, .int .i64 cn, .int .i64 rd, .int .i64 kd, .int .i64 ev, .int .i64 tm, .int .i64 gr, .int .i64 rt, .slice ar rs.length cr, .int .i64 pn, .int .i64 o0, .int .i64 o1, .int .i64 o2, .int .i64 o3, .int .i64 ov, .slice al lt.length cl, .int .i64 cp, .int .i64 rl, .slice ah hd.length ch] := ⟨_, _, rfl, rfl, (Ext.refl w).alloc _ _, heap_alloc_last w _⟩
  have y0 : W0.cell? ⟨b, 0, none⟩ = some (.string ⟨nm.toArray⟩) := (cell_of_row _ b 0 _ _ _ hB).trans rfl
  have y8 : W0.cell? ⟨b, 8, none⟩ = some (.slice ar rs.length cr) := (cell_of_row _ b 8 _ _ _ hB).trans rfl
  have y15 : W0.cell? ⟨b, 15, none⟩ = some (.slice al lt.length cl) := (cell_of_row _ b 15 _ _ _ hB).trans rfl
  have y18 : W0.cell? ⟨b, 18, none⟩ = some (.slice ah hd.length ch) := (cell_of_row _ b 18 _ _ _ hB).trans rfl
  have hli : (300 : Int) < (hd.length : Int) := by omega
  have pi0 : ¬ (100 : Int) < (nm.length : Int) := by omega
  have pi1 : ¬ (100 : Int) < (s.length : Int) := by omega
  have pi2 : ¬ (50 : Int) < (rs.length : Int) := by omega
  have pi3 : ¬ (50 : Int) < (lt.length : Int) := by omega
  clear hB
  replace hx0 := show Hid _ from hx0
  go_enter Try.func3, Try.ntmps3
  go_wp2_with fail
  refine (awake_c _).mono ?_
  rintro e w1 ⟨rfl, hx⟩
  replace hx := show Hid _ from hx
  go_wp2
  go_ret
  exact ⟨rfl, hx0.out.trans hx.out⟩
theorem size_arr (nm : List UInt8) (cn rd kd ev tm gr rt : Int) (ar : Option Addr) (cr : Nat) (rs : List (Int × Int)) (pn o0 o1 o2 o3 ov : Int) (al : Option Addr) (cl : Nat) (lt : List (Int × Int)) (cp rl : Int) (ah : Option Addr) (ch : Nat) (hd : List Int) (s : List UInt8) (w : World) (hp : Fits nm rs lt hd) (hs : s.length ≤ maxLen) : (#[.string ⟨nm.toArray⟩, .int .i64 cn, .int .i64 rd, .int .i64 kd, .int .i64 ev, .int .i64 tm, .int .i64 gr, .int .i64 rt, .slice ar rs.length cr, .int .i64 pn, .int .i64 o0, .int .i64 o1, .int .i64 o2, .int .i64 o3, .int .i64 ov, .slice al lt.length cl, .int .i64 cp, .int .i64 rl, .slice ah hd.length ch] : Array Value).size = 19 ∧ (#[.string ⟨nm.toArray⟩, .int .i64 cn, .int .i64 rd, .int .i64 kd, .int .i64 ev, .int .i64 tm, .int .i64 gr, .int .i64 rt, .slice ar rs.length cr, .int .i64 pn, .int .i64 o0, .int .i64 o1, .int .i64 o2, .int .i64 o3, .int .i64 ov, .slice al lt.length cl, .int .i64 cp, .int .i64 rl, .slice ah hd.length ch] : Array Value).all (·.oneCell') = true := ⟨rfl, by simp [Value.oneCell']⟩
theorem lay_copy (w : World) (c : Array Value) (hn : c.size = 19) (h1 : c.all (·.oneCell') = true) : ∃ W0 W1 b, w.alloc (.cells #[.string ⟨#[]⟩, .int .i64 0, .int .i64 0, .int .i64 0, .int .i64 0, .int .i64 0, .int .i64 0, .int .i64 0, .slice none 0 0, .int .i64 0, .int .i64 0, .int .i64 0, .int .i64 0, .int .i64 0, .int .i64 0, .slice none 0 0, .int .i64 0, .int .i64 0, .slice none 0 0] 27) = W0 ∧ w.heap.size = b ∧ W0.heap.size = b + 1 ∧ (storeCells ⟨b, 0, none⟩ c.toList 0).run Try.prog W0 = .ok () W1 ∧ W1.heap.size = b + 1 ∧ Blk W1 b c ∧ Ext w W1 :=
  ⟨_, _, _, rfl, rfl, by simp, run_storeCells_new w 27 _ c (by rw [hn]; kernel_rfl) (by rw [hn]; rfl) h1, by simp, heap_alloc_last w _, (Ext.refl w).alloc _ _⟩
set_option maxHeartbeats 2000000 in
theorem tells_x (nm : List UInt8) (cn rd kd ev tm gr rt : Int) (ar : Option Addr) (cr : Nat) (rs : List (Int × Int)) (pn o0 o1 o2 o3 ov : Int) (al : Option Addr) (cl : Nat) (lt : List (Int × Int)) (cp rl : Int) (ah : Option Addr) (ch : Nat) (hd : List Int) (s : List UInt8) (w : World) (hp : Fits nm rs lt hd) (hs : s.length ≤ maxLen) (p0 : nm.length ≤ 100) (p1 : s.length ≤ 100) (p2 : rs.length ≤ 50) (p3 : lt.length ≤ 50) (p4 : hd.length ≤ 300) (sr : Slp w (.slice ar rs.length cr) rs) (sl : Slp w (.slice al lt.length cl) lt) (sh : Slc w (.slice ah hd.length ch) hd) :
    Calls Try.prog 3 #[.agg #[.string ⟨nm.toArray⟩, .int .i64 cn, .int .i64 rd, .int .i64 kd, .int .i64 ev, .int .i64 tm, .int .i64 gr, .int .i64 rt, .slice ar rs.length cr, .int .i64 pn, .int .i64 o0, .int .i64 o1, .int .i64 o2, .int .i64 o3, .int .i64 ov, .slice al lt.length cl, .int .i64 cp, .int .i64 rl, .slice ah hd.length ch], .string ⟨s.toArray⟩] w fun e w' => e = .returned (.bool true) ∧ Ext w w' := by
  obtain ⟨hsz, hone⟩ := size_arr nm cn rd kd ev tm gr rt ar cr rs pn o0 o1 o2 o3 ov al cl lt cp rl ah ch hd s w hp hs
  have m0 := hp.nm; have m1 := hp.rs; have m2 := hp.lt; have m3 := hp.hd
  unfold maxLen at m0 m1 m2 m3 hs
  clear hp
  obtain ⟨W0, b, hW0, hb, hx0, hB⟩ : ∃ W b, w.alloc (.cells #[.string ⟨nm.toArray⟩, .int .i64 cn, .int .i64 rd, .int .i64 kd, .int .i64 ev, .int .i64 tm, .int .i64 gr, .int .i64 rt, .slice ar rs.length cr, .int .i64 pn, .int .i64 o0, .int .i64 o1, .int .i64 o2, .int .i64 o3, .int .i64 ov, .slice al lt.length cl, .int .i64 cp, .int .i64 rl, .slice ah hd.length ch] 27) = W ∧ w.heap.size = b ∧ Ext w W ∧ Blk W b #[.string ⟨nm.toArray⟩, .int .i64 cn, .int .i64 rd, .int .i64 kd, .int .i64 ev, .int .i64 tm, .int .i64 gr, .int .i64 rt, .slice ar rs.length cr, .int .i64 pn, .int .i64 o0, .int .i64 o1, .int .i64 o2, .int .i64 o3, .int .i64 ov, .slice al lt.length cl, .int .i64 cp, .int .i64 rl, .slice ah hd.length ch] := ⟨_, _, rfl, rfl, (Ext.refl w).alloc _ _, heap_alloc_last w _⟩
  have hsW0 : W0.heap.size = b + 1 := by rw [← hW0, ← hb]; simp
  have y0 : W0.cell? ⟨b, 0, none⟩ = some (.string ⟨nm.toArray⟩) := (cell_of_row _ b 0 _ _ _ hB).trans rfl
  have y8 : W0.cell? ⟨b, 8, none⟩ = some (.slice ar rs.length cr) := (cell_of_row _ b 8 _ _ _ hB).trans rfl
  have y15 : W0.cell? ⟨b, 15, none⟩ = some (.slice al lt.length cl) := (cell_of_row _ b 15 _ _ _ hB).trans rfl
  have y18 : W0.cell? ⟨b, 18, none⟩ = some (.slice ah hd.length ch) := (cell_of_row _ b 18 _ _ _ hB).trans rfl
  have pi0 : ¬ (100 : Int) < (nm.length : Int) := by omega
  have pi1 : ¬ (100 : Int) < (s.length : Int) := by omega
  have pi2 : ¬ (50 : Int) < (rs.length : Int) := by omega
  have pi3 : ¬ (50 : Int) < (lt.length : Int) := by omega
  have pi4 : ¬ (300 : Int) < (hd.length : Int) := by omega
  have hb0 : Hid (Bx W0 b nm cn rd kd ev tm gr rt (.slice ar rs.length cr) rs pn o0 o1 o2 o3 ov (.slice al lt.length cl) lt cp rl (.slice ah hd.length ch) hd) := Bx.of_blk hB (sr.ext hx0) (sl.ext hx0) (sh.ext hx0)
  replace sr := show Hid (Slp w _ rs) from sr
  replace sl := show Hid (Slp w _ lt) from sl
  replace sh := show Hid (Slc w _ hd) from sh
  have hbw : Hid (w.heap.size ≤ b + 1) := by show _ ≤ _; omega
  obtain ⟨cA, hcA⟩ : ∃ c : Array Value, #[.string ⟨nm.toArray⟩, .int .i64 cn, .int .i64 rd, .int .i64 kd, .int .i64 ev, .int .i64 tm, .int .i64 gr, .int .i64 rt, .slice ar rs.length cr, .int .i64 pn, .int .i64 o0, .int .i64 o1, .int .i64 o2, .int .i64 o3, .int .i64 ov, .slice al lt.length cl, .int .i64 cp, .int .i64 rl, .slice ah hd.length ch] = c := ⟨_, rfl⟩
  have hBk : Hid (Blk W0 b #[.string ⟨nm.toArray⟩, .int .i64 cn, .int .i64 rd, .int .i64 kd, .int .i64 ev, .int .i64 tm, .int .i64 gr, .int .i64 rt, .slice ar rs.length cr, .int .i64 pn, .int .i64 o0, .int .i64 o1, .int .i64 o2, .int .i64 o3, .int .i64 ov, .slice al lt.length cl, .int .i64 cp, .int .i64 rl, .slice ah hd.length ch]) := hB
  rw [hcA] at hB hsz hone
  obtain ⟨X0, X1, p, hX0, hp, hs0, hst, hs1, hP, hx1⟩ := lay_copy W0 cA hsz hone
  obtain rfl : p = b + 1 := by omega
  replace hcA := show Hid _ from hcA
  replace hB := show Hid (Blk W0 b cA) from hB
  replace hP := show Hid (Blk X1 (b + 1) cA) from hP
  replace hx0 := show Hid _ from hx0
  replace hx1 := show Hid _ from hx1
  clear hone
  go_enter Try.func3, Try.ntmps3
  go_upto_region 3 with fail
  clear pi0 pi1 pi2 pi3 pi4 y0 hW0 hb
  go_wp2_with (first | (go_not_at_region 4; refine load27 hB.out hsz rfl rfl rfl ?_))
  have hxw : Hid (Ext w X1) := hx0.out.trans hx1.out
  have hB2 := show Hid (Blk X1 b #[.string ⟨nm.toArray⟩, .int .i64 cn, .int .i64 rd, .int .i64 kd, .int .i64 ev, .int .i64 tm, .int .i64 gr, .int .i64 rt, .slice ar rs.length cr, .int .i64 pn, .int .i64 o0, .int .i64 o1, .int .i64 o2, .int .i64 o3, .int .i64 ov, .slice al lt.length cl, .int .i64 cp, .int .i64 rl, .slice ah hd.length ch]) from hBk.out.ext hx1.out
  have hc8 : cA[8]? = some (.slice ar rs.length cr) := by rw [← hcA.out]; rfl
  have hc15 : cA[15]? = some (.slice al lt.length cl) := by rw [← hcA.out]; rfl
  have hc18 : cA[18]? = some (.slice ah hd.length ch) := by rw [← hcA.out]; rfl
  have hsz2 : Hid (b + 2 ≤ X1.heap.size) := by show _ ≤ _; omega
  have i8 := hx1.out.cell_of y8; have i15 := hx1.out.cell_of y15; have i18 := hx1.out.cell_of y18
  have hO1 : Hid (∀ w' : World, Ext w w' → Calls Try.prog 8 #[.slice ar rs.length cr, .agg #[.int .i64 71, .int .i64 0]] w' fun e w'' => (∃ g, e = .returned (.slice (some ⟨g, 0, none⟩) rs.length (rs.length + 3)) ∧ w'.heap.size ≤ g ∧ g < w''.heap.size ∧ Lsp w'' g (rs ++ [(71, 0), (71, 0), (71, 0)])) ∧ Ext w' w'') := fun w' hx => OwnR_c _ rs w' (by omega) (sr.out.ext hx)
  have hO2 : Hid (∀ w' : World, Ext w w' → Calls Try.prog 9 #[.slice al lt.length cl, .agg #[.int .i64 71, .int .i64 0]] w' fun e w'' => (∃ g, e = .returned (.slice (some ⟨g, 0, none⟩) lt.length (lt.length + 3)) ∧ w'.heap.size ≤ g ∧ g < w''.heap.size ∧ Lsp w'' g (lt ++ [(71, 0), (71, 0), (71, 0)])) ∧ Ext w' w'') := fun w' hx => OwnT_c _ lt w' (by omega) (sl.out.ext hx)
  have hO3 : Hid (∀ w' : World, Ext w w' → Calls Try.prog 10 #[.slice ah hd.length ch, .int .i64 71] w' fun e w'' => (∃ g, e = .returned (.slice (some ⟨g, 0, none⟩) hd.length (hd.length + 3)) ∧ w'.heap.size ≤ g ∧ g < w''.heap.size ∧ Lst w'' g (hd ++ [71, 71, 71])) ∧ Ext w' w'') := fun w' hx => OwnI_c _ hd w' (by omega) (sh.out.ext hx)
  clear y8 y15 y18 hx1 hX0 hst hs0 hs1 hp hsW0 hB hb0 hBk
  refine wp_region_thrown (fun W => W.cell? ⟨b, 8, none⟩ = some (.slice ar rs.length cr) ∧ W.cell? ⟨b, 15, none⟩ = some (.slice al lt.length cl) ∧ W.cell? ⟨b, 18, none⟩ = some (.slice ah hd.length ch)) (fun a => False) []
    (fun t => none) (fun c W => False) (by kernel_rfl) (fun _ _ _ _ _ h => h.elim) (held3 (Ext.refl X1).drew ⟨i8, i15, i18⟩) (fun hHeld => ?_)
  replace hxw := show Hid (Ext w X1.drew) from hxw.out.trans (Ext.refl X1).drew
  replace hB2 := show Hid (Blk X1.drew b _) from hB2.out.ext (Ext.refl X1).drew
  replace hP := show Hid (Blk X1.drew (b + 1) cA) from hP.out.ext (Ext.refl X1).drew
  replace hsz2 := show Hid (b + 2 ≤ X1.drew.heap.size) from hsz2.out
  obtain ⟨Wd, hWd⟩ : ∃ W, X1.drew = W := ⟨_, rfl⟩
  rw [hWd] at hxw hB2 hP hsz2 hHeld ⊢
  clear i8 i15 i18 hWd
  refine takeT 0 (oi := { dst := some 35, op := Op.fieldAddr 27 (Operand.tmp 2) 8, type := 0, pos := "law.go:23", after := #[], guard := none }) (v := .pointer (some ⟨b, 8, none⟩)) rfl (by kernel_rfl) (by kernel_rfl) (by kernel_rfl) (by decide) (Or.inl ⟨by rfl, fun W hW => ?_⟩) hHeld ?_
  · dsimp only at hW
    go_simp
  simp only [Act.put, List.setIfInBounds_toArray, List.set_cons_zero, List.set_cons_succ]
  refine takeT 1 (oi := { dst := some 36, op := Op.load 22 (Operand.tmp 35), type := 22, pos := "law.go:23", after := #[{ on := 0, ground := Ground.data }], guard := none }) (v := .slice ar rs.length cr) rfl (by kernel_rfl) (by kernel_rfl) (by kernel_rfl) (by decide) (Or.inl ⟨by rfl, fun W hW => ?_⟩) hHeld ?_
  · dsimp only at hW
    go_simp
  simp only [Act.put, List.setIfInBounds_toArray, List.set_cons_zero, List.set_cons_succ]
  refine takeT 2 (oi := { dst := some 37, op := Op.build 31 #[(0, Operand.const (Value.int IntKind.i64 71))], type := 31, pos := "law.go:23", after := #[], guard := none }) (v := .agg #[.int .i64 71, .int .i64 0]) rfl (by kernel_rfl) (by kernel_rfl) (by kernel_rfl) (by decide) (Or.inl ⟨by rfl, fun W hW => ?_⟩) hHeld ?_
  · dsimp only at hW
    go_simp
  simp only [Act.put, List.setIfInBounds_toArray, List.set_cons_zero, List.set_cons_succ]
  refine takeT 4 (oi := { dst := some 39, op := Op.fieldAddr 27 (Operand.tmp 2) 12, type := 0, pos := "law.go:23", after := #[], guard := none }) (v := .pointer (some ⟨b, 15, none⟩)) rfl (by kernel_rfl) (by kernel_rfl) (by kernel_rfl) (by decide) (Or.inl ⟨by rfl, fun W hW => ?_⟩) hHeld ?_
  · dsimp only at hW
    go_simp
  simp only [Act.put, List.setIfInBounds_toArray, List.set_cons_zero, List.set_cons_succ]
  refine takeT 5 (oi := { dst := some 40, op := Op.load 24 (Operand.tmp 39), type := 24, pos := "law.go:23", after := #[{ on := 4, ground := Ground.data }], guard := none }) (v := .slice al lt.length cl) rfl (by kernel_rfl) (by kernel_rfl) (by kernel_rfl) (by decide) (Or.inl ⟨by rfl, fun W hW => ?_⟩) hHeld ?_
  · dsimp only at hW
    go_simp
  simp only [Act.put, List.setIfInBounds_toArray, List.set_cons_zero, List.set_cons_succ]
  refine takeT 6 (oi := { dst := some 41, op := Op.build 34 #[(0, Operand.const (Value.int IntKind.i64 71))], type := 34, pos := "law.go:23", after := #[], guard := none }) (v := .agg #[.int .i64 71, .int .i64 0]) rfl (by kernel_rfl) (by kernel_rfl) (by kernel_rfl) (by decide) (Or.inl ⟨by rfl, fun W hW => ?_⟩) hHeld ?_
  · dsimp only at hW
    go_simp
  simp only [Act.put, List.setIfInBounds_toArray, List.set_cons_zero, List.set_cons_succ]
  refine takeT 8 (oi := { dst := some 43, op := Op.fieldAddr 27 (Operand.tmp 2) 15, type := 0, pos := "law.go:23", after := #[], guard := none }) (v := .pointer (some ⟨b, 18, none⟩)) rfl (by kernel_rfl) (by kernel_rfl) (by kernel_rfl) (by decide) (Or.inl ⟨by rfl, fun W hW => ?_⟩) hHeld ?_
  · dsimp only at hW
    go_simp
  simp only [Act.put, List.setIfInBounds_toArray, List.set_cons_zero, List.set_cons_succ]
  refine takeT 9 (oi := { dst := some 44, op := Op.load 25 (Operand.tmp 43), type := 25, pos := "law.go:23", after := #[{ on := 8, ground := Ground.data }], guard := none }) (v := .slice ah hd.length ch) rfl (by kernel_rfl) (by kernel_rfl) (by kernel_rfl) (by decide) (Or.inl ⟨by rfl, fun W hW => ?_⟩) hHeld ?_
  · dsimp only at hW
    go_simp
  simp only [Act.put, List.setIfInBounds_toArray, List.set_cons_zero, List.set_cons_succ]
  refine wpAnyH_ready (rs := [3]) (by kernel_rfl) (by simp) ?_
  refine AllReadyH.cons (o := { dst := some 38, op := Op.call { callee := Callee.value (Operand.func 8), args := #[Operand.tmp 36, Operand.tmp 37], argTypes := #[22, 31] }, type := 22, pos := "law.go:23", after := #[{ on := 1, ground := Ground.data }, { on := 2, ground := Ground.data }], guard := none }) rfl (fun K hK => ?_) AllReadyH.nil
  go_simp
  refine (hO1.out _ hxw.out).mono ?_
  rintro e w2 ⟨⟨g1, rfl, log1, ltg1, hLg1⟩, hx⟩
  try dsimp only
  refine hK.out _ _ (held3 hx hHeld) ?_
  clear hK K hHeld
  intro hHeld
  replace hLg1 := show Hid (Lsp w2 g1 _) from hLg1
  have log1' : b + 2 ≤ g1 := by have := hsz2.out; omega
  have hsz3 : Hid (b + 2 ≤ w2.heap.size) := by show _ ≤ _; have := hsz2.out; have := hx.size; omega
  replace hsz2 := hsz3
  replace hxw := show Hid (Ext w w2) from hxw.out.trans hx
  replace hB2 := show Hid (Blk w2 b _) from hB2.out.ext hx
  replace hP := show Hid (Blk w2 (b + 1) cA) from hP.out.ext hx
  clear hx log1 ltg1
  try simp only [Act.put, List.setIfInBounds_toArray, List.set_cons_zero, List.set_cons_succ]
  refine takeT 11 (oi := { dst := some 46, op := Op.fieldAddr 27 (Operand.tmp 5) 8, type := 0, pos := "law.go:23", after := #[{ on := 0, ground := Ground.phase }, { on := 1, ground := Ground.phase }, { on := 2, ground := Ground.phase }, { on := 3, ground := Ground.phase }, { on := 4, ground := Ground.textOnly Departure.lateStores }, { on := 5, ground := Ground.textOnly Departure.lateStores }, { on := 6, ground := Ground.textOnly Departure.lateStores }, { on := 7, ground := Ground.textOnly Departure.lateStoresUnsure }, { on := 8, ground := Ground.textOnly Departure.lateStores }, { on := 9, ground := Ground.textOnly Departure.lateStores }, { on := 10, ground := Ground.textOnly Departure.lateStoresUnsure }], guard := none }) (v := .pointer (some ⟨b + 1, 8, none⟩)) rfl (by kernel_rfl) (by kernel_rfl) (by kernel_rfl) (by decide) (Or.inl ⟨by rfl, fun W hW => ?_⟩) hHeld ?_
  · dsimp only at hW
    go_simp
  simp only [Act.put, List.setIfInBounds_toArray, List.set_cons_zero, List.set_cons_succ]
  refine wpAnyH_ready (rs := [7]) (by kernel_rfl) (by simp) ?_
  refine AllReadyH.cons (o := { dst := some 42, op := Op.call { callee := Callee.value (Operand.func 9), args := #[Operand.tmp 40, Operand.tmp 41], argTypes := #[24, 34] }, type := 24, pos := "law.go:23", after := #[{ on := 5, ground := Ground.data }, { on := 6, ground := Ground.data }, { on := 3, ground := Ground.chain }], guard := none }) rfl (fun K hK => ?_) AllReadyH.nil
  go_simp
  refine (hO2.out _ hxw.out).mono ?_
  rintro e w3 ⟨⟨g2, rfl, log2, ltg2, hLg2⟩, hx⟩
  try dsimp only
  refine hK.out _ _ (held3 hx hHeld) ?_
  clear hK K hHeld
  intro hHeld
  replace hLg2 := show Hid (Lsp w3 g2 _) from hLg2
  replace hLg1 := show Hid (Lsp w3 g1 _) from hLg1.out.ext hx
  have log2' : b + 2 ≤ g2 := by have := hsz2.out; omega
  have hsz3 : Hid (b + 2 ≤ w3.heap.size) := by show _ ≤ _; have := hsz2.out; have := hx.size; omega
  replace hsz2 := hsz3
  replace hxw := show Hid (Ext w w3) from hxw.out.trans hx
  replace hB2 := show Hid (Blk w3 b _) from hB2.out.ext hx
  replace hP := show Hid (Blk w3 (b + 1) cA) from hP.out.ext hx
  clear hx log2 ltg2
  try simp only [Act.put, List.setIfInBounds_toArray, List.set_cons_zero, List.set_cons_succ]
  refine wpAnyH_ready (rs := [10]) (by kernel_rfl) (by simp) ?_
  refine AllReadyH.cons (o := { dst := some 45, op := Op.call { callee := Callee.value (Operand.func 10), args := #[Operand.tmp 44, Operand.const (Value.int IntKind.i64 71)], argTypes := #[25, 3] }, type := 25, pos := "law.go:23", after := #[{ on := 9, ground := Ground.data }, { on := 7, ground := Ground.chain }], guard := none }) rfl (fun K hK => ?_) AllReadyH.nil
  go_simp
  refine (hO3.out _ hxw.out).mono ?_
  rintro e w4 ⟨⟨g3, rfl, log3, ltg3, hLg3⟩, hx⟩
  try dsimp only
  refine hK.out _ _ (held3 hx hHeld) ?_
  clear hK K hHeld
  intro hHeld
  replace hLg3 := show Hid (Lst w4 g3 _) from hLg3
  replace hLg1 := show Hid (Lsp w4 g1 _) from hLg1.out.ext hx
  replace hLg2 := show Hid (Lsp w4 g2 _) from hLg2.out.ext hx
  have log3' : b + 2 ≤ g3 := by have := hsz2.out; omega
  have hsz3 : Hid (b + 2 ≤ w4.heap.size) := by show _ ≤ _; have := hsz2.out; have := hx.size; omega
  replace hsz2 := hsz3
  replace hxw := show Hid (Ext w w4) from hxw.out.trans hx
  replace hB2 := show Hid (Blk w4 b _) from hB2.out.ext hx
  replace hP := show Hid (Blk w4 (b + 1) cA) from hP.out.ext hx
  clear hx log3 ltg3
  try simp only [Act.put, List.setIfInBounds_toArray, List.set_cons_zero, List.set_cons_succ]
  have q0 : w4.cell? ⟨b + 1, 8, none⟩ = some (.slice ar rs.length cr) := (cell_of_row _ (b + 1) 8 _ _ _ hP.out).trans (hc8)
  have q1 := frozen_of_row _ (b + 1) 8 _ _ hP.out
  refine wpAnyH_ready (rs := [12]) (by kernel_rfl) (by simp) ?_
  refine AllReadyH.cons (o := { dst := none, op := Op.store 22 (Operand.tmp 46) (Operand.tmp 38), type := 0, pos := "law.go:23", after := #[{ on := 11, ground := Ground.data }, { on := 3, ground := Ground.data }, { on := 10, ground := Ground.chain }, { on := 0, ground := Ground.phase }, { on := 1, ground := Ground.phase }, { on := 2, ground := Ground.phase }, { on := 3, ground := Ground.phase }, { on := 4, ground := Ground.textOnly Departure.lateStores }, { on := 5, ground := Ground.textOnly Departure.lateStores }, { on := 6, ground := Ground.textOnly Departure.lateStores }, { on := 7, ground := Ground.textOnly Departure.lateStoresUnsure }, { on := 8, ground := Ground.textOnly Departure.lateStores }, { on := 9, ground := Ground.textOnly Departure.lateStores }, { on := 10, ground := Ground.textOnly Departure.lateStoresUnsure }], guard := none }) rfl (fun K hK => ?_) AllReadyH.nil
  go_simp
  refine hK.out _ _ (held3_far hHeld) ?_
  clear hK K hHeld q0 q1
  intro hHeld
  replace hxw := show Hid (Ext w (w4.setCell ⟨b + 1, 8, none⟩ (.slice (some ⟨g1, 0, none⟩) rs.length (rs.length + 3)))) from hxw.out.setCell hbw.out _
  replace hB2 := show Hid (Blk (w4.setCell ⟨b + 1, 8, none⟩ (.slice (some ⟨g1, 0, none⟩) rs.length (rs.length + 3))) b _) from hB2.out.other 8 _ (by omega)
  replace hP := show Hid (Blk (w4.setCell ⟨b + 1, 8, none⟩ (.slice (some ⟨g1, 0, none⟩) rs.length (rs.length + 3))) (b + 1) _) from hP.out.set 8 _
  replace hLg1 := show Hid (Lsp (w4.setCell ⟨b + 1, 8, none⟩ (.slice (some ⟨g1, 0, none⟩) rs.length (rs.length + 3))) g1 _) from hLg1.out.far (by omega) _ _
  replace hLg2 := show Hid (Lsp (w4.setCell ⟨b + 1, 8, none⟩ (.slice (some ⟨g1, 0, none⟩) rs.length (rs.length + 3))) g2 _) from hLg2.out.far (by omega) _ _
  replace hLg3 := show Hid (Lst (w4.setCell ⟨b + 1, 8, none⟩ (.slice (some ⟨g1, 0, none⟩) rs.length (rs.length + 3))) g3 _) from hLg3.out.far (by omega) _ _
  obtain ⟨w5, hw5⟩ : ∃ W, w4.setCell ⟨b + 1, 8, none⟩ (.slice (some ⟨g1, 0, none⟩) rs.length (rs.length + 3)) = W := ⟨_, rfl⟩
  rw [hw5] at hxw hB2 hP hLg1 hLg2 hLg3 hHeld ⊢
  clear hw5
  refine takeT 13 (oi := { dst := some 47, op := Op.fieldAddr 27 (Operand.tmp 5) 12, type := 0, pos := "law.go:23", after := #[{ on := 0, ground := Ground.phase }, { on := 1, ground := Ground.phase }, { on := 2, ground := Ground.phase }, { on := 3, ground := Ground.phase }, { on := 4, ground := Ground.phase }, { on := 5, ground := Ground.phase }, { on := 6, ground := Ground.phase }, { on := 7, ground := Ground.phase }, { on := 8, ground := Ground.textOnly Departure.lateStores }, { on := 9, ground := Ground.textOnly Departure.lateStores }, { on := 10, ground := Ground.textOnly Departure.lateStoresUnsure }, { on := 11, ground := Ground.phase }, { on := 12, ground := Ground.phase }], guard := none }) (v := .pointer (some ⟨b + 1, 15, none⟩)) rfl (by kernel_rfl) (by kernel_rfl) (by kernel_rfl) (by decide) (Or.inl ⟨by rfl, fun W hW => ?_⟩) hHeld ?_
  · dsimp only at hW
    go_simp
  simp only [Act.put, List.setIfInBounds_toArray, List.set_cons_zero, List.set_cons_succ]
  have q0 : w5.cell? ⟨b + 1, 15, none⟩ = some (.slice al lt.length cl) := (cell_of_row _ (b + 1) 15 _ _ _ hP.out).trans (by rw [Array.getElem?_setIfInBounds_ne (by omega)]; exact hc15)
  have q1 := frozen_of_row _ (b + 1) 15 _ _ hP.out
  refine wpAnyH_ready (rs := [14]) (by kernel_rfl) (by simp) ?_
  refine AllReadyH.cons (o := { dst := none, op := Op.store 24 (Operand.tmp 47) (Operand.tmp 42), type := 0, pos := "law.go:23", after := #[{ on := 13, ground := Ground.data }, { on := 7, ground := Ground.data }, { on := 12, ground := Ground.chain }, { on := 0, ground := Ground.phase }, { on := 1, ground := Ground.phase }, { on := 2, ground := Ground.phase }, { on := 3, ground := Ground.phase }, { on := 4, ground := Ground.phase }, { on := 5, ground := Ground.phase }, { on := 6, ground := Ground.phase }, { on := 7, ground := Ground.phase }, { on := 8, ground := Ground.textOnly Departure.lateStores }, { on := 9, ground := Ground.textOnly Departure.lateStores }, { on := 10, ground := Ground.textOnly Departure.lateStoresUnsure }, { on := 11, ground := Ground.phase }, { on := 12, ground := Ground.phase }], guard := none }) rfl (fun K hK => ?_) AllReadyH.nil
  go_simp
  refine hK.out _ _ (held3_far hHeld) ?_
  clear hK K hHeld q0 q1
  intro hHeld
  replace hxw := show Hid (Ext w (w5.setCell ⟨b + 1, 15, none⟩ (.slice (some ⟨g2, 0, none⟩) lt.length (lt.length + 3)))) from hxw.out.setCell hbw.out _
  replace hB2 := show Hid (Blk (w5.setCell ⟨b + 1, 15, none⟩ (.slice (some ⟨g2, 0, none⟩) lt.length (lt.length + 3))) b _) from hB2.out.other 15 _ (by omega)
  replace hP := show Hid (Blk (w5.setCell ⟨b + 1, 15, none⟩ (.slice (some ⟨g2, 0, none⟩) lt.length (lt.length + 3))) (b + 1) _) from hP.out.set 15 _
  replace hLg1 := show Hid (Lsp (w5.setCell ⟨b + 1, 15, none⟩ (.slice (some ⟨g2, 0, none⟩) lt.length (lt.length + 3))) g1 _) from hLg1.out.far (by omega) _ _
  replace hLg2 := show Hid (Lsp (w5.setCell ⟨b + 1, 15, none⟩ (.slice (some ⟨g2, 0, none⟩) lt.length (lt.length + 3))) g2 _) from hLg2.out.far (by omega) _ _
  replace hLg3 := show Hid (Lst (w5.setCell ⟨b + 1, 15, none⟩ (.slice (some ⟨g2, 0, none⟩) lt.length (lt.length + 3))) g3 _) from hLg3.out.far (by omega) _ _
  obtain ⟨w6, hw6⟩ : ∃ W, w5.setCell ⟨b + 1, 15, none⟩ (.slice (some ⟨g2, 0, none⟩) lt.length (lt.length + 3)) = W := ⟨_, rfl⟩
  rw [hw6] at hxw hB2 hP hLg1 hLg2 hLg3 hHeld ⊢
  clear hw6
  refine takeT 15 (oi := { dst := some 48, op := Op.fieldAddr 27 (Operand.tmp 5) 15, type := 0, pos := "law.go:23", after := #[{ on := 0, ground := Ground.phase }, { on := 1, ground := Ground.phase }, { on := 2, ground := Ground.phase }, { on := 3, ground := Ground.phase }, { on := 4, ground := Ground.phase }, { on := 5, ground := Ground.phase }, { on := 6, ground := Ground.phase }, { on := 7, ground := Ground.phase }, { on := 8, ground := Ground.phase }, { on := 9, ground := Ground.phase }, { on := 10, ground := Ground.phase }, { on := 11, ground := Ground.phase }, { on := 12, ground := Ground.phase }, { on := 13, ground := Ground.phase }, { on := 14, ground := Ground.phase }], guard := none }) (v := .pointer (some ⟨b + 1, 18, none⟩)) rfl (by kernel_rfl) (by kernel_rfl) (by kernel_rfl) (by decide) (Or.inl ⟨by rfl, fun W hW => ?_⟩) hHeld ?_
  · dsimp only at hW
    go_simp
  simp only [Act.put, List.setIfInBounds_toArray, List.set_cons_zero, List.set_cons_succ]
  have q0 : w6.cell? ⟨b + 1, 18, none⟩ = some (.slice ah hd.length ch) := (cell_of_row _ (b + 1) 18 _ _ _ hP.out).trans (by rw [Array.getElem?_setIfInBounds_ne (by omega), Array.getElem?_setIfInBounds_ne (by omega)]; exact hc18)
  have q1 := frozen_of_row _ (b + 1) 18 _ _ hP.out
  refine wpAnyH_ready (rs := [16]) (by kernel_rfl) (by simp) ?_
  refine AllReadyH.cons (o := { dst := none, op := Op.store 25 (Operand.tmp 48) (Operand.tmp 45), type := 0, pos := "law.go:23", after := #[{ on := 15, ground := Ground.data }, { on := 10, ground := Ground.data }, { on := 14, ground := Ground.chain }, { on := 0, ground := Ground.phase }, { on := 1, ground := Ground.phase }, { on := 2, ground := Ground.phase }, { on := 3, ground := Ground.phase }, { on := 4, ground := Ground.phase }, { on := 5, ground := Ground.phase }, { on := 6, ground := Ground.phase }, { on := 7, ground := Ground.phase }, { on := 8, ground := Ground.phase }, { on := 9, ground := Ground.phase }, { on := 10, ground := Ground.phase }, { on := 11, ground := Ground.phase }, { on := 12, ground := Ground.phase }, { on := 13, ground := Ground.phase }, { on := 14, ground := Ground.phase }], guard := none }) rfl (fun K hK => ?_) AllReadyH.nil
  go_simp
  refine hK.out _ _ (held3_far hHeld) ?_
  clear hK K hHeld q0 q1
  intro hHeld
  replace hxw := show Hid (Ext w (w6.setCell ⟨b + 1, 18, none⟩ (.slice (some ⟨g3, 0, none⟩) hd.length (hd.length + 3)))) from hxw.out.setCell hbw.out _
  replace hB2 := show Hid (Blk (w6.setCell ⟨b + 1, 18, none⟩ (.slice (some ⟨g3, 0, none⟩) hd.length (hd.length + 3))) b _) from hB2.out.other 18 _ (by omega)
  replace hP := show Hid (Blk (w6.setCell ⟨b + 1, 18, none⟩ (.slice (some ⟨g3, 0, none⟩) hd.length (hd.length + 3))) (b + 1) _) from hP.out.set 18 _
  replace hLg1 := show Hid (Lsp (w6.setCell ⟨b + 1, 18, none⟩ (.slice (some ⟨g3, 0, none⟩) hd.length (hd.length + 3))) g1 _) from hLg1.out.far (by omega) _ _
  replace hLg2 := show Hid (Lsp (w6.setCell ⟨b + 1, 18, none⟩ (.slice (some ⟨g3, 0, none⟩) hd.length (hd.length + 3))) g2 _) from hLg2.out.far (by omega) _ _
  replace hLg3 := show Hid (Lst (w6.setCell ⟨b + 1, 18, none⟩ (.slice (some ⟨g3, 0, none⟩) hd.length (hd.length + 3))) g3 _) from hLg3.out.far (by omega) _ _
  obtain ⟨w7, hw7⟩ : ∃ W, w6.setCell ⟨b + 1, 18, none⟩ (.slice (some ⟨g3, 0, none⟩) hd.length (hd.length + 3)) = W := ⟨_, rfl⟩
  rw [hw7] at hxw hB2 hP hLg1 hLg2 hLg3 hHeld ⊢
  clear hw7
  refine wpAnyH_done (by kernel_rfl) (ThrowQ.normal ?_) _
  rw [← hcA.out] at hP
  replace hP := show Hid (Blk w7 (b + 1) #[.string ⟨nm.toArray⟩, .int .i64 cn, .int .i64 rd, .int .i64 kd, .int .i64 ev, .int .i64 tm, .int .i64 gr, .int .i64 rt, .slice (some ⟨g1, 0, none⟩) rs.length (rs.length + 3), .int .i64 pn, .int .i64 o0, .int .i64 o1, .int .i64 o2, .int .i64 o3, .int .i64 ov, .slice (some ⟨g2, 0, none⟩) lt.length (lt.length + 3), .int .i64 cp, .int .i64 rl, .slice (some ⟨g3, 0, none⟩) hd.length (hd.length + 3)]) from hP.out
  clear hHeld hc8 hc15 hc18 hO1 hO2 hO3 hsz hcA hsz2
  obtain ⟨E, hE⟩ : ∃ E : Int, E = if chkB nm cn rd kd ev tm gr rt rs pn o0 o1 o2 o3 ov lt cp rl hd then 0 else 9 := ⟨_, rfl⟩
  obtain ⟨N, hN⟩ : ∃ N : Bool, nmb s = N := ⟨_, rfl⟩
  have hCk : Hid (∀ w' : World, Ext w7 w' → Calls Try.prog 11 #[.agg #[.string ⟨nm.toArray⟩, .int .i64 cn, .int .i64 rd, .int .i64 kd, .int .i64 ev, .int .i64 tm, .int .i64 gr, .int .i64 rt, .slice (some ⟨g1, 0, none⟩) rs.length (rs.length + 3), .int .i64 pn, .int .i64 o0, .int .i64 o1, .int .i64 o2, .int .i64 o3, .int .i64 ov, .slice (some ⟨g2, 0, none⟩) lt.length (lt.length + 3), .int .i64 cp, .int .i64 rl, .slice (some ⟨g3, 0, none⟩) hd.length (hd.length + 3)]] w' fun e w'' => e = .returned (.int .i64 E) ∧ Ext w' w'') := fun w' hx => Check_x nm cn rd kd ev tm gr rt _ rs pn o0 o1 o2 o3 ov _ lt cp rl _ hd E hE w' (by omega) (by omega) (by omega) (by omega) (hLg1.out.ext hx).slp (hLg2.out.ext hx).slp ((hLg3.out.ext hx).slc rfl)
  have hRc : Hid (∀ w' : World, Ext w7 w' → Calls Try.prog 12 #[.agg #[.string ⟨nm.toArray⟩, .int .i64 cn, .int .i64 rd, .int .i64 kd, .int .i64 ev, .int .i64 tm, .int .i64 gr, .int .i64 rt, .slice ar rs.length cr, .int .i64 pn, .int .i64 o0, .int .i64 o1, .int .i64 o2, .int .i64 o3, .int .i64 ov, .slice al lt.length cl, .int .i64 cp, .int .i64 rl, .slice ah hd.length ch]] w' fun e w'' => e = .returned (.int .i64 E) ∧ Ext w' w'') := fun w' hx => rCheck_x nm cn rd kd ev tm gr rt _ rs pn o0 o1 o2 o3 ov _ lt cp rl _ hd E hE w' (by omega) (by omega) (by omega) (by omega) (sr.out.ext (hxw.out.trans hx)) (sl.out.ext (hxw.out.trans hx)) (sh.out.ext (hxw.out.trans hx))
  have hNm : Hid (∀ w' : World, Calls Try.prog 13 #[.string ⟨s.toArray⟩] w' fun e w'' => e = .returned (.bool N) ∧ w'' = w') := fun w' => Name_x s N hN w' (by omega)
  have hRn : Hid (∀ w' : World, Calls Try.prog 14 #[.string ⟨s.toArray⟩] w' fun e w'' => e = .returned (.bool N) ∧ Ext w' w'') := fun w' => rName_x s N hN w' (by omega)
  have hK1 : Hid (∀ w' : World, Ext w7 w' → Calls Try.prog 15 #[.slice (some ⟨g1, 0, none⟩) rs.length (rs.length + 3), .slice ar rs.length cr, .agg #[.int .i64 71, .int .i64 0]] w' fun e w'' => e = .returned (.bool true) ∧ Ext w' w'') := fun w' hx => KeptR_c g1 _ rs w' (by omega) (hLg1.out.ext hx) (sr.out.ext (hxw.out.trans hx))
  have hK2 : Hid (∀ w' : World, Ext w7 w' → Calls Try.prog 16 #[.slice (some ⟨g2, 0, none⟩) lt.length (lt.length + 3), .slice al lt.length cl, .agg #[.int .i64 71, .int .i64 0]] w' fun e w'' => e = .returned (.bool true) ∧ Ext w' w'') := fun w' hx => KeptT_c g2 _ lt w' (by omega) (hLg2.out.ext hx) (sl.out.ext (hxw.out.trans hx))
  have hK3 : Hid (∀ w' : World, Ext w7 w' → Calls Try.prog 17 #[.slice (some ⟨g3, 0, none⟩) hd.length (hd.length + 3), .slice ah hd.length ch, .int .i64 71] w' fun e w'' => e = .returned (.bool true) ∧ Ext w' w'') := fun w' hx => KeptI_c g3 _ hd w' (by omega) (hLg3.out.ext hx) (sh.out.ext (hxw.out.trans hx))
  have j1 := Late.cell ((cell_of_row w7 (b + 1) 8 _ _ _ hP.out).trans (show _ = some (.slice (some ⟨g1, 0, none⟩) rs.length (rs.length + 3)) from rfl))
  have j2 := Late.cell ((cell_of_row w7 (b + 1) 15 _ _ _ hP.out).trans (show _ = some (.slice (some ⟨g2, 0, none⟩) lt.length (lt.length + 3)) from rfl))
  have j3 := Late.cell ((cell_of_row w7 (b + 1) 18 _ _ _ hP.out).trans (show _ = some (.slice (some ⟨g3, 0, none⟩) hd.length (hd.length + 3)) from rfl))
  have j4 := Late.cell ((cell_of_row w7 b 8 _ _ _ hB2.out).trans (show _ = some (.slice ar rs.length cr) from rfl))
  have j5 := Late.cell ((cell_of_row w7 b 15 _ _ _ hB2.out).trans (show _ = some (.slice al lt.length cl) from rfl))
  have j6 := Late.cell ((cell_of_row w7 b 18 _ _ _ hB2.out).trans (show _ = some (.slice ah hd.length ch) from rfl))
  have hP' : Hid (∀ w', (∃ s : Late w7, w' = s.to) → Blk w' (b + 1) #[.string ⟨nm.toArray⟩, .int .i64 cn, .int .i64 rd, .int .i64 kd, .int .i64 ev, .int .i64 tm, .int .i64 gr, .int .i64 rt, .slice (some ⟨g1, 0, none⟩) rs.length (rs.length + 3), .int .i64 pn, .int .i64 o0, .int .i64 o1, .int .i64 o2, .int .i64 o3, .int .i64 ov, .slice (some ⟨g2, 0, none⟩) lt.length (lt.length + 3), .int .i64 cp, .int .i64 rl, .slice (some ⟨g3, 0, none⟩) hd.length (hd.length + 3)]) := fun w' h => hP.out.ext (late_ext h)
  have hB' : Hid (∀ w', (∃ s : Late w7, w' = s.to) → Blk w' b #[.string ⟨nm.toArray⟩, .int .i64 cn, .int .i64 rd, .int .i64 kd, .int .i64 ev, .int .i64 tm, .int .i64 gr, .int .i64 rt, .slice ar rs.length cr, .int .i64 pn, .int .i64 o0, .int .i64 o1, .int .i64 o2, .int .i64 o3, .int .i64 ov, .slice al lt.length cl, .int .i64 cp, .int .i64 rl, .slice ah hd.length ch]) := fun w' h => hB2.out.ext (late_ext h)
  have hNe1 : Nonempty (Late w7) := ⟨⟨_, Ext.refl _⟩⟩
  replace hE := show Hid _ from hE
  replace hN := show Hid _ from hN
  clear hLg1 hLg2 hLg3 hP hB2 sr sl sh
  go_wp2_with fail
  try simp only [List.append_eq, List.cons_append, List.nil_append]
  refine wp_region_late (by kernel_rfl) (by kernel_rfl) ?_
  repeat (first
    | (refine quiet_load27 hP'.out rfl rfl rfl rfl ?_; simp only [Act.put, List.setIfInBounds_toArray, List.set_cons_zero, List.set_cons_succ])
    | (refine quiet_load27 hB'.out rfl rfl rfl rfl ?_; simp only [Act.put, List.setIfInBounds_toArray, List.set_cons_zero, List.set_cons_succ])
    | (go_big_quiet_step ((first
        | (go_at_call 7; exact late_of (awake_c _))
        | (go_at_call 11; exact late_of (hCk.out _ (Late.ext _)))
        | (go_at_call 12; exact late_of (hRc.out _ (Late.ext _)))
        | (go_at_call 13; exact late_same (hNm.out _))
        | (go_at_call 14; exact late_of (hRn.out _))
        | (go_at_call 15; exact late_of (hK1.out _ (Late.ext _)))
        | (go_at_call 16; exact late_of (hK2.out _ (Late.ext _)))
        | (go_at_call 17; exact late_of (hK3.out _ (Late.ext _)))))))
  refine wpQuiet_nil ?_
  intro W8 hw'
  replace hxw : Hid (Ext w W8) := hxw.out.trans (late_ext hw')
  clear hw' j1 j2 j3 j4 j5 j6
  go_wp2
  go_ret
  exact ⟨ret_bool (by simp), hxw.out⟩
end Go.Proofs.Ytipnchejhjkomaa
