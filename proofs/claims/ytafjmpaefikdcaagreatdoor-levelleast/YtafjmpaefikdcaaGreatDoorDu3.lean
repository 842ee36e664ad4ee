
/- When instalments are due : what came in, and its check: no statement of the seat is proved here. -/
import Derived.Test.YtafjmpaefikdcaaGreatDoorDu0
import Derived.Test.YtafjmpaefikdcaaGreatDoorL8Pr10
namespace Go.Proofs.YtafjmpaefikdcaaGreatDoor
open Go.RowKit
open L3 (Env)
open L4 (Arr upTo info_int)
open L5 (Cld)
set_option linter.unusedVariables false

theorem info_i64 : (Tryz.prog.info? 2).map (fun i => (i.zero, i.size, i.bytes)) = some (some (.int .i64 0), 1, 8) := by kernel_rfl
theorem slc58 {w : World} {v : Value} {l : List Int} (h : L8.Slc w v l) : L5.Slc w v l := h
theorem slc85 {w : World} {v : Value} {l : List Int} (h : L5.Slc w v l) : L8.Slc w v l := h
theorem Check_q (p : Prd) (vr vl vh : Value) (E : Int) (hE : E = if okP p then 0 else 9) (w : World) (h0 : p.nm.length ≤ 9223372036854775807) (h1 : p.rs.length ≤ 9223372036854775807) (h2 : p.lt.length ≤ 9223372036854775807) (h3 : p.hd.length ≤ 9223372036854775807) (sr : L8.Slp w vr p.rs) (sl : L8.Slp w vl p.lt) (sh : L8.Slc w vh p.hd) :
    Calls Tryz.prog 38 #[.agg (pcells p vr vl vh)] w fun e w' => e = .returned (.int .i64 E) ∧ Ext w w' :=
  L8.Check_x p.nm p.cn p.rd p.kd p.ev p.tm p.gr p.rt vr p.rs p.pn p.o0 p.o1 p.o2 p.o3 p.ov vl p.lt p.cp p.rl vh p.hd E hE w h0 h1 h2 h3 sr sl sh
/-- A product that came in by value: its lists can be read. -/
structure Inp (w : World) (p : Prd) (vr vl vh : Value) : Prop where
  h0 : p.nm.length ≤ 9223372036854775807
  h1 : p.rs.length ≤ 9223372036854775807
  h2 : p.lt.length ≤ 9223372036854775807
  h3 : p.hd.length ≤ 9223372036854775807
  sr : L8.Slp w vr p.rs
  sl : L8.Slp w vl p.lt
  sh : L8.Slc w vh p.hd
theorem Inp.ext {w w' : World} {p : Prd} {vr vl vh : Value} (h : Inp w p vr vl vh) (hx : Ext w w') : Inp w' p vr vl vh :=
  ⟨h.h0, h.h1, h.h2, h.h3, h.sr.ext hx, h.sl.ext hx, h.sh.ext hx⟩
theorem Inp.one {w : World} {p : Prd} {vr vl vh : Value} (h : Inp w p vr vl vh) : (pcells p vr vl vh).all (·.oneCell') = true := pcells_slp h.sr h.sl h.sh
end Go.Proofs.YtafjmpaefikdcaaGreatDoor
