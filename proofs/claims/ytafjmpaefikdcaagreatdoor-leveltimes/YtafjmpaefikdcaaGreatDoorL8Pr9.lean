
/- What Check of package product answers, of every product, as a contract: no statement of the seat is proved here. -/
import Derived.Test.YtafjmpaefikdcaaGreatDoorL8Pr8
namespace Go.Proofs.YtafjmpaefikdcaaGreatDoor.L8
open Go.RowKit
set_option linter.unusedVariables false

theorem Calls.same_ext {f : FuncId} {args : Array Value} {w : World} {v : Value} (h : Calls Tryz.prog f args w fun e w' => e = .returned v ∧ w' = w) : Calls Tryz.prog f args w fun e w' => e = .returned v ∧ Ext w w' :=
  h.mono fun e w' ⟨a, b⟩ => ⟨a, b ▸ Ext.refl _⟩
theorem chk_all (nm : List UInt8) (cn rd kd ev tm gr rt : Int) (rs : List (Int × Int)) (pn o0 o1 o2 o3 ov : Int) (lt : List (Int × Int)) (cp rl : Int) (hd : List Int) : [nmb nm, r1B cn rd kd ov rl, r2B ev, lz tm 1 600, r4B kd tm gr, r5B rt pn, r6B tm rs, r7B o0 o1 o2 o3, r8B lt, r9B lt.length cp, r10B rl hd].all id = chkB nm cn rd kd ev tm gr rt rs pn o0 o1 o2 o3 ov lt cp rl hd := by
  unfold chkB
  simp only [List.all_cons, List.all_nil, id, Bool.and_true]
theorem Check_x (nm : List UInt8) (cn rd kd ev tm gr rt : Int) (vr : Value) (rs : List (Int × Int)) (pn o0 o1 o2 o3 ov : Int) (vl : Value) (lt : List (Int × Int)) (cp rl : Int) (vh : Value) (hd : List Int) (E : Int) (hE : E = if chkB nm cn rd kd ev tm gr rt rs pn o0 o1 o2 o3 ov lt cp rl hd then 0 else 9) (w : World) (hnm : nm.length ≤ 9223372036854775807) (hrs : rs.length ≤ 9223372036854775807) (hlt : lt.length ≤ 9223372036854775807) (hhd : hd.length ≤ 9223372036854775807) (sr : Slp w vr rs) (sl : Slp w vl lt) (sh : Slc w vh hd) :
    Calls Tryz.prog 38 #[.agg #[.string ⟨nm.toArray⟩, .int .i64 cn, .int .i64 rd, .int .i64 kd, .int .i64 ev, .int .i64 tm, .int .i64 gr, .int .i64 rt, vr, .int .i64 pn, .int .i64 o0, .int .i64 o1, .int .i64 o2, .int .i64 o3, .int .i64 ov, vl, .int .i64 cp, .int .i64 rl, vh]] w fun e w' => e = .returned (.int .i64 E) ∧ Ext w w' := by
  have hb : ∀ (t : TypeId) (w' : World), Ext (w.alloc (.cells #[.string ⟨nm.toArray⟩, .int .i64 cn, .int .i64 rd, .int .i64 kd, .int .i64 ev, .int .i64 tm, .int .i64 gr, .int .i64 rt, vr, .int .i64 pn, .int .i64 o0, .int .i64 o1, .int .i64 o2, .int .i64 o3, .int .i64 ov, vl, .int .i64 cp, .int .i64 rl, vh] t)) w' → Bx w' w.heap.size nm cn rd kd ev tm gr rt vr rs pn o0 o1 o2 o3 ov vl lt cp rl vh hd := fun t w' hx => (Bx.new w nm cn rd kd ev tm gr rt vr rs pn o0 o1 o2 o3 ov vl lt cp rl vh hd sr sl sh t).ext hx
  refine Check_of cn rd kd ev tm gr rt pn o0 o1 o2 o3 ov cp rl nm vr vl vh (nmb nm) (r1B cn rd kd ov rl) (r2B ev) (lz tm 1 600) (r4B kd tm gr) (r5B rt pn) (r6B tm rs) (r7B o0 o1 o2 o3) (r8B lt) (r9B lt.length cp) (r10B rl hd) E w ?_ ?_ ?_ ?_ ?_ ?_ ?_ ?_ ?_ ?_ ?_ (by rw [chk_all]; exact hE)
  · intro t w' hx
    have hb := hb t w' hx
    exact Calls.same_ext (name_c _ _ w' hnm hb.c0)
  · intro t w' hx
    have hb := hb t w' hx
    exact Calls.same_ext (choices_c _ _ _ _ _ _ w' hb.c1 hb.c2 hb.c3 hb.c14 hb.c17)
  · intro t w' hx
    have hb := hb t w' hx
    exact Calls.same_ext (every_c _ _ w' hb.c4)
  · intro t w' hx
    have hb := hb t w' hx
    exact Calls.same_ext (times_c _ _ w' hb.c5)
  · intro t w' hx
    have hb := hb t w' hx
    exact (grace_c _ _ _ _ w' hb.c3 hb.c5 hb.c6)
  · intro t w' hx
    have hb := hb t w' hx
    exact Calls.same_ext (rates_c _ _ _ w' hb.c7 hb.c9)
  · intro t w' hx
    have hb := hb t w' hx
    exact (resets_c _ _ _ _ w' hrs hb.sr hb.c5 hb.c8)
  · intro t w' hx
    have hb := hb t w' hx
    exact Calls.same_ext (order_c _ _ _ _ _ w' hb.c10 hb.c11 hb.c12 hb.c13)
  · intro t w' hx
    have hb := hb t w' hx
    exact (late_c _ _ _ w' hlt hb.sl hb.c15)
  · intro t w' hx
    have hb := hb t w' hx
    obtain ⟨a, c, rfl⟩ := hb.sl.len
    exact Calls.same_ext (cap_c _ a _ c cp w' hlt hb.c15 hb.c16)
  · intro t w' hx
    have hb := hb t w' hx
    exact (holidays_c _ _ _ _ w' hhd hb.sh hb.c17 hb.c18)
end Go.Proofs.YtafjmpaefikdcaaGreatDoor.L8