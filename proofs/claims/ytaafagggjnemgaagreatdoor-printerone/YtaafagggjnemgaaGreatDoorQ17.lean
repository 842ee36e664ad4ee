/- Contracts that the proof of this law leans on: no statement of the seat is proved here. -/
import Derived.Test.YtaafagggjnemgaaGreatDoorQ13
import Derived.Test.YtaafagggjnemgaaGreatDoorQ14
import Derived.Test.YtaafagggjnemgaaGreatDoorQ15
import Derived.Test.YtaafagggjnemgaaGreatDoorQ16

namespace Go.Proofs.YtaafagggjnemgaaGreatDoor
open Go.RowKit Go.Lib
set_option linter.unusedVariables false
/-- Two products that may differ. -/
theorem Prod_n (p q : Prd) (vr vl vh ur ul uh : Value) (w : World) (hn : p.rs.length ≤ 30000 ∧ p.lt.length ≤ 30000 ∧ p.hd.length ≤ 30000) (s1 : L8.Slp w vr p.rs) (s2 : L8.Slp w vl p.lt) (s3 : L8.Slc w vh p.hd) (s4 : L8.Slp w ur q.rs) (s5 : L8.Slp w ul q.lt) (s6 : L8.Slc w uh q.hd) (h : p ≠ q) :
    Calls Tryz.prog 16 #[.agg (pcells p vr vl vh), .agg (pcells q ur ul uh)] w fun e w' => e = .returned (.bool false) ∧ Ext w w' := by
  obtain ⟨nm, cn, rd, kd, ev, tm, gr, rt, rs, pn, o0, o1, o2, o3, ov, lt, cp, rl, hd⟩ := p
  obtain ⟨nm', cn', rd', kd', ev', tm', gr', rt', rs', pn', o0', o1', o2', o3', ov', lt', cp', rl', hd'⟩ := q
  unfold pcells
  simp only [] at hn s1 s2 s3 s4 s5 s6 ⊢
  by_cases e0 : nm = nm'
  case neg => exact Prod_0 nm nm' cn rd kd ev tm gr rt pn o0 o1 o2 o3 ov cp rl cn' rd' kd' ev' tm' gr' rt' pn' o0' o1' o2' o3' ov' cp' rl' rs lt rs' lt' hd hd' vr vl vh ur ul uh w hn s1 s2 s3 s4 s5 s6 e0
  case pos =>
  subst e0
  by_cases e1 : cn = cn'
  case neg => exact Prod_1 nm cn rd kd ev tm gr rt pn o0 o1 o2 o3 ov cp rl cn' rd' kd' ev' tm' gr' rt' pn' o0' o1' o2' o3' ov' cp' rl' rs lt rs' lt' hd hd' vr vl vh ur ul uh w hn s1 s2 s3 s4 s5 s6 e1
  case pos =>
  subst e1
  by_cases e2 : rd = rd'
  case neg => exact Prod_2 nm cn rd kd ev tm gr rt pn o0 o1 o2 o3 ov cp rl rd' kd' ev' tm' gr' rt' pn' o0' o1' o2' o3' ov' cp' rl' rs lt rs' lt' hd hd' vr vl vh ur ul uh w hn s1 s2 s3 s4 s5 s6 e2
  case pos =>
  subst e2
  by_cases e3 : kd = kd'
  case neg => exact Prod_3 nm cn rd kd ev tm gr rt pn o0 o1 o2 o3 ov cp rl kd' ev' tm' gr' rt' pn' o0' o1' o2' o3' ov' cp' rl' rs lt rs' lt' hd hd' vr vl vh ur ul uh w hn s1 s2 s3 s4 s5 s6 e3
  case pos =>
  subst e3
  by_cases e4 : ev = ev'
  case neg => exact Prod_4 nm cn rd kd ev tm gr rt pn o0 o1 o2 o3 ov cp rl ev' tm' gr' rt' pn' o0' o1' o2' o3' ov' cp' rl' rs lt rs' lt' hd hd' vr vl vh ur ul uh w hn s1 s2 s3 s4 s5 s6 e4
  case pos =>
  subst e4
  by_cases e5 : tm = tm'
  case neg => exact Prod_5 nm cn rd kd ev tm gr rt pn o0 o1 o2 o3 ov cp rl tm' gr' rt' pn' o0' o1' o2' o3' ov' cp' rl' rs lt rs' lt' hd hd' vr vl vh ur ul uh w hn s1 s2 s3 s4 s5 s6 e5
  case pos =>
  subst e5
  by_cases e6 : gr = gr'
  case neg => exact Prod_6 nm cn rd kd ev tm gr rt pn o0 o1 o2 o3 ov cp rl gr' rt' pn' o0' o1' o2' o3' ov' cp' rl' rs lt rs' lt' hd hd' vr vl vh ur ul uh w hn s1 s2 s3 s4 s5 s6 e6
  case pos =>
  subst e6
  by_cases e7 : rt = rt'
  case neg => exact Prod_7 nm cn rd kd ev tm gr rt pn o0 o1 o2 o3 ov cp rl rt' pn' o0' o1' o2' o3' ov' cp' rl' rs lt rs' lt' hd hd' vr vl vh ur ul uh w hn s1 s2 s3 s4 s5 s6 e7
  case pos =>
  subst e7
  by_cases e8 : rs = rs'
  case neg => exact Prod_8 nm cn rd kd ev tm gr rt pn o0 o1 o2 o3 ov cp rl pn' o0' o1' o2' o3' ov' cp' rl' rs lt rs' lt' hd hd' vr vl vh ur ul uh w hn s1 s2 s3 s4 s5 s6 e8
  case pos =>
  subst e8
  by_cases e9 : pn = pn'
  case neg => exact Prod_9 nm cn rd kd ev tm gr rt pn o0 o1 o2 o3 ov cp rl pn' o0' o1' o2' o3' ov' cp' rl' rs lt lt' hd hd' vr vl vh ur ul uh w hn s1 s2 s3 s4 s5 s6 e9
  case pos =>
  subst e9
  by_cases e10 : o0 = o0' ∧ o1 = o1' ∧ o2 = o2' ∧ o3 = o3'
  case neg => exact Prod_10 nm cn rd kd ev tm gr rt pn o0 o1 o2 o3 ov cp rl o0' o1' o2' o3' ov' cp' rl' rs lt lt' hd hd' vr vl vh ur ul uh w hn s1 s2 s3 s4 s5 s6 e10
  case pos =>
  obtain ⟨rfl, rfl, rfl, rfl⟩ := e10
  by_cases e11 : ov = ov'
  case neg => exact Prod_11 nm cn rd kd ev tm gr rt pn o0 o1 o2 o3 ov cp rl ov' cp' rl' rs lt lt' hd hd' vr vl vh ur ul uh w hn s1 s2 s3 s4 s5 s6 e11
  case pos =>
  subst e11
  by_cases e12 : lt = lt'
  case neg => exact Prod_12 nm cn rd kd ev tm gr rt pn o0 o1 o2 o3 ov cp rl cp' rl' rs lt lt' hd hd' vr vl vh ur ul uh w hn s1 s2 s3 s4 s5 s6 e12
  case pos =>
  subst e12
  by_cases e13 : cp = cp'
  case neg => exact Prod_13 nm cn rd kd ev tm gr rt pn o0 o1 o2 o3 ov cp rl cp' rl' rs lt hd hd' vr vl vh ur ul uh w hn s1 s2 s3 s4 s5 s6 e13
  case pos =>
  subst e13
  by_cases e14 : rl = rl'
  case neg => exact Prod_14 nm cn rd kd ev tm gr rt pn o0 o1 o2 o3 ov cp rl rl' rs lt hd hd' vr vl vh ur ul uh w hn s1 s2 s3 s4 s5 s6 e14
  case pos =>
  subst e14
  by_cases e15 : hd = hd'
  case neg => exact Prod_15 nm cn rd kd ev tm gr rt pn o0 o1 o2 o3 ov cp rl rs lt hd hd' vr vl vh ur ul uh w hn s1 s2 s3 s4 s5 s6 e15
  case pos =>
  subst e15
  exact absurd rfl h
end Go.Proofs.YtaafagggjnemgaaGreatDoor
