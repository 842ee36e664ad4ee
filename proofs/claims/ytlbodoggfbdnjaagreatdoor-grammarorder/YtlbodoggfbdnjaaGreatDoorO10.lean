/- Contracts that the proof of this law leans on: no statement of the seat is proved here. -/
import Derived.Test.YtlbodoggfbdnjaaGreatDoorO9
set_option linter.unusedVariables false
set_option maxRecDepth 100000
set_option maxHeartbeats 8000000
namespace Go.Proofs.YtlbodoggfbdnjaaGreatDoor
open Go.RowKit Go.Lib
theorem clause_0t (wf w0 w:World)(r c:Nat)(vr vl vh:Value)(s:St)(t:Tok)(hf:Fine s)(he0:Hid (Env w0))(h:Inn wf w0 w r c vr vl vh s)(hi:which t.text=0)(hh:s.had 0=true) :
  Calls Tryz.prog 92 #[.pointer (some ⟨r,0,none⟩),tokV t] w fun e w'=>Rdc wf w0 r c (clR t s) e w':=by
 have hX:clR t s=.no 7 t.at_:=by unfold clR;rw [hi,hh];rfl
 rw [hX]
 clear hX
 have hmf:=L7.make_func
 obtain⟨W0,b,hW,hb,hx0,b0,b1,b2⟩:=box_tok w t 59
 replace h:=hid <| h.on hx0
 have c1:=(h.out.cell 1 (.slice (some ⟨c,0,none⟩) 15 15) (fun _=>rfl)).1
 have hcl:=hid <| Cll.of h.out.cls
 replace hf:=hid hf
 clear hx0
 unfold tokV
 go_enter Tryz.func92,Tryz.ntmps92
 go_wp2_with fail
 refine (idxC_c c b s.had t.text _ hcl.out b2).mono ?_
 rintro e w1 ⟨he,hx⟩
 rw [hi] at he
 replace h:=hid <| h.out.on hx
 replace b0:=hx.cell_of b0
 replace b1:=hx.cell_of b1
 replace b2:=hx.cell_of b2
 clear hx c1 hcl hW hb
 obtain rfl:e=.returned (.int .i64 0):=he
 go_wp2_with fail
 refine (need_ok t _).mono ?_
 rintro e w2 ⟨rfl,hx⟩
 replace h:=hid <| h.out.on hx
 replace b0:=hx.cell_of b0
 replace b1:=hx.cell_of b1
 replace b2:=hx.cell_of b2
 clear hx
 have c1:=(h.out.cell 1 (.slice (some ⟨c,0,none⟩) 15 15) (fun _=>rfl)).1
 have d2:=(cell_of_row _ c 2 _ _ _ h.out.cls).trans (show _=some (.bool false) from rfl)
 have d4:=(cell_of_row _ c 4 _ _ _ h.out.cls).trans (show _=some (.bool (s.had 0)) from rfl)
 rw [hh] at d4
 clear hi hmf hh
 go_upto_region 4 with fail
 refine wp_region_tail 12 (by kernel_rfl) (by kernel_rfl) ?_
 intro w3 hx
 replace h:=hid <| h.out.on hx
 replace b0:=hx.cell_of b0
 replace b1:=hx.cell_of b1
 replace b2:=hx.cell_of b2
 replace d2:=hx.cell_of d2
 replace d4:=hx.cell_of d4
 replace c1:=hx.cell_of c1
 clear hx
 simp only [List.take_succ_cons,List.take_zero,List.drop_succ_cons,List.drop_zero]
 repeat still_step
 refine wpStill_nil ?_
 go_wp2_with fail
 refine (need_no t _).mono ?_
 rintro e w4 ⟨rfl,hx⟩
 replace h:=hid <| h.out.on hx
 clear hx b0 b1 b2 c1 d2 d4
 unfold thrown
 go_wp2
 exact⟨rfl,Rdc.no h.out.ext⟩
theorem clause_0f (wf w0 w:World)(r c:Nat)(vr vl vh:Value)(s:St)(t:Tok)(hf:Fine s)(he0:Hid (Env w0))(h:Inn wf w0 w r c vr vl vh s)(hi:which t.text=0)(hh:s.had 0=false) :
  Calls Tryz.prog 92 #[.pointer (some ⟨r,0,none⟩),tokV t] w fun e w'=>Rdc wf w0 r c (clR t s) e w':=by
 have hX:clR t s=(clauseR 0 s.p s.ts).bind fun a=>(xp [59] a.2).bind fun ts=>.ok ⟨ts,a.1,seen s.had 0⟩:=by unfold clR;rw [hi,hh];rfl
 rw [hX]
 clear hX
 have hmf:=L7.make_func
 obtain⟨W0,b,hW,hb,hx0,b0,b1,b2⟩:=box_tok w t 59
 replace h:=hid <| h.on hx0
 have c1:=(h.out.cell 1 (.slice (some ⟨c,0,none⟩) 15 15) (fun _=>rfl)).1
 have hcl:=hid <| Cll.of h.out.cls
 replace hf:=hid hf
 clear hx0
 unfold tokV
 go_enter Tryz.func92,Tryz.ntmps92
 go_wp2_with fail
 refine (idxC_c c b s.had t.text _ hcl.out b2).mono ?_
 rintro e w1 ⟨he,hx⟩
 rw [hi] at he
 replace h:=hid <| h.out.on hx
 replace b0:=hx.cell_of b0
 replace b1:=hx.cell_of b1
 replace b2:=hx.cell_of b2
 clear hx c1 hcl hW hb
 obtain rfl:e=.returned (.int .i64 0):=he
 go_wp2_with fail
 refine (need_ok t _).mono ?_
 rintro e w2 ⟨rfl,hx⟩
 replace h:=hid <| h.out.on hx
 replace b0:=hx.cell_of b0
 replace b1:=hx.cell_of b1
 replace b2:=hx.cell_of b2
 clear hx
 have c1:=(h.out.cell 1 (.slice (some ⟨c,0,none⟩) 15 15) (fun _=>rfl)).1
 have d2:=(cell_of_row _ c 2 _ _ _ h.out.cls).trans (show _=some (.bool false) from rfl)
 have d4:=(cell_of_row _ c 4 _ _ _ h.out.cls).trans (show _=some (.bool (s.had 0)) from rfl)
 rw [hh] at d4
 clear hi hmf hh
 go_upto_region 4 with fail
 refine wp_region_tail 12 (by kernel_rfl) (by kernel_rfl) ?_
 intro w3 hx
 replace h:=hid <| h.out.on hx
 replace b0:=hx.cell_of b0
 replace b1:=hx.cell_of b1
 replace b2:=hx.cell_of b2
 replace d2:=hx.cell_of d2
 replace d4:=hx.cell_of d4
 replace c1:=hx.cell_of c1
 clear hx
 simp only [List.take_succ_cons,List.take_zero,List.drop_succ_cons,List.drop_zero]
 repeat still_step
 refine wpStill_nil ?_
 go_wp2_with fail
 refine (need_ok t _).mono ?_
 rintro e w4 ⟨rfl,hx⟩
 replace h:=hid <| h.out.on hx
 clear hx b0 b1 b2 c1 d2 d4
 have d3:=(cell_of_row _ c 3 _ _ _ h.out.cls).trans (show _=some (.func (.func 74) #[.pointer (some ⟨r,0,none⟩)] #[]) from rfl)
 have d4:=(cell_of_row _ c 4 _ _ _ h.out.cls).trans (show _=some (.bool (s.had 0)) from rfl)
 have z4:=frozen_of_row _ c 4 _ _ h.out.cls
 replace h:=show Hid (Inn wf w0 (w4.setCell ⟨c,4,none⟩ (.bool true)) r c vr vl vh { s with had:=seen s.had 0 }) from h.out.tell 0 (by omega)
 have hf2:Hid (Fine { s with had:=seen s.had 0 }):=⟨hf.out.fin,hf.out.len,hf.out.few⟩
 go_wp2_with fail
 obtain⟨t1,ts1,hs1,ht1,hl1⟩:=(show Fine { s with had:=seen s.had 0 } from hf2.out).cons
 refine (count_c wf w0 _ r c vr vl vh { s with had:=seen s.had 0 } t1 ts1 hs1 (by omega) h.out).mono ?_
 rintro e w5 hR
 clear h d3 d4 z4
 cases hr:clauseR 0 s.p s.ts with
 | no x y =>
  have hR2:Ext w0 w5∧e=thrown x y:=by have:=hR;unfold Rds at this;rw [show clauseR 0 ({ s with had:=seen s.had 0 }:St).p ({ s with had:=seen s.had 0 }:St).ts=.no x y from hr] at this;exact this
  obtain⟨hx,rfl⟩:=hR2
  replace hr:=hid hr
  replace hx:=hid hx
  clear hR
  unfold thrown
  go_wp2
  rw [hr.out]
  exact⟨rfl,Rdc.no hx.out⟩
 | ok a =>
  have hR2:Ext w0 w5∧e=.returned (.tuple #[])∧∃ vr vl vh,Inn wf w0 w5 r c vr vl vh ⟨a.2,a.1,seen s.had 0⟩:=by have:=hR;unfold Rds at this;rw [show clauseR 0 ({ s with had:=seen s.had 0 }:St).p ({ s with had:=seen s.had 0 }:St).ts=.ok a from hr] at this;exact this
  obtain⟨_,rfl,vr',vl',vh',h⟩:=hR2
  obtain⟨t6,ts6,hs6,ht6,hl6⟩:=(reads_fine hf.out hr (seen s.had 0)).1.cons
  have hs6':a.2=t6::ts6:=hs6
  replace hr:=hid hr
  replace h:=hid h
  replace hs6:=hid hs6
  clear hR
  by_cases hq:t6.text = [59]
  ·replace hq:=hid hq
   go_wp2_with fail
   refine (expect_c wf w0 _ r c vr' vl' vh' ⟨a.2,a.1,seen s.had 0⟩ t6 ts6 [59] hs6.out (by omega) h.out).mono ?_
   rintro e w7 ⟨he,h7,hx⟩
   rw [if_pos hq.out] at he
   subst he
   replace h7:=hid h7
   clear hx
   go_wp2
   go_end0
   have hY:((clauseR 0 s.p s.ts).bind fun a=>(xp [59] a.2).bind fun ts=>.ok ⟨ts,a.1,seen s.had 0⟩)=Res.ok (⟨ts6,a.1,seen s.had 0⟩:St):=by
    rw [hr.out];show (xp [59] a.2).bind _=_;rw [hs6'];show (if t6.text = [59] then Res.ok ts6 else Res.no 7 t6.at_).bind _=_;rw [if_pos hq.out];rfl
   rw [hY]
   exact Rdc.ok h7.out
  ·replace hq:=hid hq
   go_wp2_with fail
   refine (expect_c wf w0 _ r c vr' vl' vh' ⟨a.2,a.1,seen s.had 0⟩ t6 ts6 [59] hs6.out (by omega) h.out).mono ?_
   rintro e w7 ⟨he,h7,hx⟩
   rw [if_neg hq.out] at he
   subst he
   replace h7:=hid h7
   clear hx
   unfold thrown
   go_wp2
   have hY:((clauseR 0 s.p s.ts).bind fun a=>(xp [59] a.2).bind fun ts=>.ok ⟨ts,a.1,seen s.had 0⟩)=(Res.no 7 t6.at_:Res St):=by
    rw [hr.out];show (xp [59] a.2).bind _=_;rw [hs6'];show (if t6.text = [59] then Res.ok ts6 else Res.no 7 t6.at_).bind _=_;rw [if_neg hq.out];rfl
   rw [hY]
   exact⟨rfl,Rdc.no h7.out.ext⟩
theorem clause_1t (wf w0 w:World)(r c:Nat)(vr vl vh:Value)(s:St)(t:Tok)(hf:Fine s)(he0:Hid (Env w0))(h:Inn wf w0 w r c vr vl vh s)(hi:which t.text=1)(hh:s.had 1=true) :
  Calls Tryz.prog 92 #[.pointer (some ⟨r,0,none⟩),tokV t] w fun e w'=>Rdc wf w0 r c (clR t s) e w':=by
 have hX:clR t s=.no 7 t.at_:=by unfold clR;rw [hi,hh];rfl
 rw [hX]
 clear hX
 have hmf:=L7.make_func
 obtain⟨W0,b,hW,hb,hx0,b0,b1,b2⟩:=box_tok w t 59
 replace h:=hid <| h.on hx0
 have c1:=(h.out.cell 1 (.slice (some ⟨c,0,none⟩) 15 15) (fun _=>rfl)).1
 have hcl:=hid <| Cll.of h.out.cls
 replace hf:=hid hf
 clear hx0
 unfold tokV
 go_enter Tryz.func92,Tryz.ntmps92
 go_wp2_with fail
 refine (idxC_c c b s.had t.text _ hcl.out b2).mono ?_
 rintro e w1 ⟨he,hx⟩
 rw [hi] at he
 replace h:=hid <| h.out.on hx
 replace b0:=hx.cell_of b0
 replace b1:=hx.cell_of b1
 replace b2:=hx.cell_of b2
 clear hx c1 hcl hW hb
 obtain rfl:e=.returned (.int .i64 1):=he
 go_wp2_with fail
 refine (need_ok t _).mono ?_
 rintro e w2 ⟨rfl,hx⟩
 replace h:=hid <| h.out.on hx
 replace b0:=hx.cell_of b0
 replace b1:=hx.cell_of b1
 replace b2:=hx.cell_of b2
 clear hx
 have c1:=(h.out.cell 1 (.slice (some ⟨c,0,none⟩) 15 15) (fun _=>rfl)).1
 have d2:=(cell_of_row _ c 7 _ _ _ h.out.cls).trans (show _=some (.bool false) from rfl)
 have d4:=(cell_of_row _ c 9 _ _ _ h.out.cls).trans (show _=some (.bool (s.had 1)) from rfl)
 rw [hh] at d4
 clear hi hmf hh
 go_upto_region 4 with fail
 refine wp_region_tail 12 (by kernel_rfl) (by kernel_rfl) ?_
 intro w3 hx
 replace h:=hid <| h.out.on hx
 replace b0:=hx.cell_of b0
 replace b1:=hx.cell_of b1
 replace b2:=hx.cell_of b2
 replace d2:=hx.cell_of d2
 replace d4:=hx.cell_of d4
 replace c1:=hx.cell_of c1
 clear hx
 simp only [List.take_succ_cons,List.take_zero,List.drop_succ_cons,List.drop_zero]
 repeat still_step
 refine wpStill_nil ?_
 go_wp2_with fail
 refine (need_no t _).mono ?_
 rintro e w4 ⟨rfl,hx⟩
 replace h:=hid <| h.out.on hx
 clear hx b0 b1 b2 c1 d2 d4
 unfold thrown
 go_wp2
 exact⟨rfl,Rdc.no h.out.ext⟩
theorem clause_1f (wf w0 w:World)(r c:Nat)(vr vl vh:Value)(s:St)(t:Tok)(hf:Fine s)(he0:Hid (Env w0))(h:Inn wf w0 w r c vr vl vh s)(hi:which t.text=1)(hh:s.had 1=false) :
  Calls Tryz.prog 92 #[.pointer (some ⟨r,0,none⟩),tokV t] w fun e w'=>Rdc wf w0 r c (clR t s) e w':=by
 have hX:clR t s=(clauseR 1 s.p s.ts).bind fun a=>(xp [59] a.2).bind fun ts=>.ok ⟨ts,a.1,seen s.had 1⟩:=by unfold clR;rw [hi,hh];rfl
 rw [hX]
 clear hX
 have hmf:=L7.make_func
 obtain⟨W0,b,hW,hb,hx0,b0,b1,b2⟩:=box_tok w t 59
 replace h:=hid <| h.on hx0
 have c1:=(h.out.cell 1 (.slice (some ⟨c,0,none⟩) 15 15) (fun _=>rfl)).1
 have hcl:=hid <| Cll.of h.out.cls
 replace hf:=hid hf
 clear hx0
 unfold tokV
 go_enter Tryz.func92,Tryz.ntmps92
 go_wp2_with fail
 refine (idxC_c c b s.had t.text _ hcl.out b2).mono ?_
 rintro e w1 ⟨he,hx⟩
 rw [hi] at he
 replace h:=hid <| h.out.on hx
 replace b0:=hx.cell_of b0
 replace b1:=hx.cell_of b1
 replace b2:=hx.cell_of b2
 clear hx c1 hcl hW hb
 obtain rfl:e=.returned (.int .i64 1):=he
 go_wp2_with fail
 refine (need_ok t _).mono ?_
 rintro e w2 ⟨rfl,hx⟩
 replace h:=hid <| h.out.on hx
 replace b0:=hx.cell_of b0
 replace b1:=hx.cell_of b1
 replace b2:=hx.cell_of b2
 clear hx
 have c1:=(h.out.cell 1 (.slice (some ⟨c,0,none⟩) 15 15) (fun _=>rfl)).1
 have d2:=(cell_of_row _ c 7 _ _ _ h.out.cls).trans (show _=some (.bool false) from rfl)
 have d4:=(cell_of_row _ c 9 _ _ _ h.out.cls).trans (show _=some (.bool (s.had 1)) from rfl)
 rw [hh] at d4
 clear hi hmf hh
 go_upto_region 4 with fail
 refine wp_region_tail 12 (by kernel_rfl) (by kernel_rfl) ?_
 intro w3 hx
 replace h:=hid <| h.out.on hx
 replace b0:=hx.cell_of b0
 replace b1:=hx.cell_of b1
 replace b2:=hx.cell_of b2
 replace d2:=hx.cell_of d2
 replace d4:=hx.cell_of d4
 replace c1:=hx.cell_of c1
 clear hx
 simp only [List.take_succ_cons,List.take_zero,List.drop_succ_cons,List.drop_zero]
 repeat still_step
 refine wpStill_nil ?_
 go_wp2_with fail
 refine (need_ok t _).mono ?_
 rintro e w4 ⟨rfl,hx⟩
 replace h:=hid <| h.out.on hx
 clear hx b0 b1 b2 c1 d2 d4
 have d3:=(cell_of_row _ c 8 _ _ _ h.out.cls).trans (show _=some (.func (.func 75) #[.pointer (some ⟨r,0,none⟩)] #[]) from rfl)
 have d4:=(cell_of_row _ c 9 _ _ _ h.out.cls).trans (show _=some (.bool (s.had 1)) from rfl)
 have z4:=frozen_of_row _ c 9 _ _ h.out.cls
 replace h:=show Hid (Inn wf w0 (w4.setCell ⟨c,9,none⟩ (.bool true)) r c vr vl vh { s with had:=seen s.had 1 }) from h.out.tell 1 (by omega)
 have hf2:Hid (Fine { s with had:=seen s.had 1 }):=⟨hf.out.fin,hf.out.len,hf.out.few⟩
 go_wp2_with fail
 obtain⟨t1,ts1,hs1,ht1,hl1⟩:=(show Fine { s with had:=seen s.had 1 } from hf2.out).cons
 refine (round_c wf w0 _ r c vr vl vh { s with had:=seen s.had 1 } t1 ts1 hs1 (by omega) h.out).mono ?_
 rintro e w5 hR
 clear h d3 d4 z4
 cases hr:clauseR 1 s.p s.ts with
 | no x y =>
  have hR2:Ext w0 w5∧e=thrown x y:=by have:=hR;unfold Rds at this;rw [show clauseR 1 ({ s with had:=seen s.had 1 }:St).p ({ s with had:=seen s.had 1 }:St).ts=.no x y from hr] at this;exact this
  obtain⟨hx,rfl⟩:=hR2
  replace hr:=hid hr
  replace hx:=hid hx
  clear hR
  unfold thrown
  go_wp2
  rw [hr.out]
  exact⟨rfl,Rdc.no hx.out⟩
 | ok a =>
  have hR2:Ext w0 w5∧e=.returned (.tuple #[])∧∃ vr vl vh,Inn wf w0 w5 r c vr vl vh ⟨a.2,a.1,seen s.had 1⟩:=by have:=hR;unfold Rds at this;rw [show clauseR 1 ({ s with had:=seen s.had 1 }:St).p ({ s with had:=seen s.had 1 }:St).ts=.ok a from hr] at this;exact this
  obtain⟨_,rfl,vr',vl',vh',h⟩:=hR2
  obtain⟨t6,ts6,hs6,ht6,hl6⟩:=(reads_fine hf.out hr (seen s.had 1)).1.cons
  have hs6':a.2=t6::ts6:=hs6
  replace hr:=hid hr
  replace h:=hid h
  replace hs6:=hid hs6
  clear hR
  by_cases hq:t6.text = [59]
  ·replace hq:=hid hq
   go_wp2_with fail
   refine (expect_c wf w0 _ r c vr' vl' vh' ⟨a.2,a.1,seen s.had 1⟩ t6 ts6 [59] hs6.out (by omega) h.out).mono ?_
   rintro e w7 ⟨he,h7,hx⟩
   rw [if_pos hq.out] at he
   subst he
   replace h7:=hid h7
   clear hx
   go_wp2
   go_end0
   have hY:((clauseR 1 s.p s.ts).bind fun a=>(xp [59] a.2).bind fun ts=>.ok ⟨ts,a.1,seen s.had 1⟩)=Res.ok (⟨ts6,a.1,seen s.had 1⟩:St):=by
    rw [hr.out];show (xp [59] a.2).bind _=_;rw [hs6'];show (if t6.text = [59] then Res.ok ts6 else Res.no 7 t6.at_).bind _=_;rw [if_pos hq.out];rfl
   rw [hY]
   exact Rdc.ok h7.out
  ·replace hq:=hid hq
   go_wp2_with fail
   refine (expect_c wf w0 _ r c vr' vl' vh' ⟨a.2,a.1,seen s.had 1⟩ t6 ts6 [59] hs6.out (by omega) h.out).mono ?_
   rintro e w7 ⟨he,h7,hx⟩
   rw [if_neg hq.out] at he
   subst he
   replace h7:=hid h7
   clear hx
   unfold thrown
   go_wp2
   have hY:((clauseR 1 s.p s.ts).bind fun a=>(xp [59] a.2).bind fun ts=>.ok ⟨ts,a.1,seen s.had 1⟩)=(Res.no 7 t6.at_:Res St):=by
    rw [hr.out];show (xp [59] a.2).bind _=_;rw [hs6'];show (if t6.text = [59] then Res.ok ts6 else Res.no 7 t6.at_).bind _=_;rw [if_neg hq.out];rfl
   rw [hY]
   exact⟨rfl,Rdc.no h7.out.ext⟩
theorem clause_2t (wf w0 w:World)(r c:Nat)(vr vl vh:Value)(s:St)(t:Tok)(hf:Fine s)(he0:Hid (Env w0))(h:Inn wf w0 w r c vr vl vh s)(hi:which t.text=2)(hh:s.had 2=true) :
  Calls Tryz.prog 92 #[.pointer (some ⟨r,0,none⟩),tokV t] w fun e w'=>Rdc wf w0 r c (clR t s) e w':=by
 have hX:clR t s=.no 7 t.at_:=by unfold clR;rw [hi,hh];rfl
 rw [hX]
 clear hX
 have hmf:=L7.make_func
 obtain⟨W0,b,hW,hb,hx0,b0,b1,b2⟩:=box_tok w t 59
 replace h:=hid <| h.on hx0
 have c1:=(h.out.cell 1 (.slice (some ⟨c,0,none⟩) 15 15) (fun _=>rfl)).1
 have hcl:=hid <| Cll.of h.out.cls
 replace hf:=hid hf
 clear hx0
 unfold tokV
 go_enter Tryz.func92,Tryz.ntmps92
 go_wp2_with fail
 refine (idxC_c c b s.had t.text _ hcl.out b2).mono ?_
 rintro e w1 ⟨he,hx⟩
 rw [hi] at he
 replace h:=hid <| h.out.on hx
 replace b0:=hx.cell_of b0
 replace b1:=hx.cell_of b1
 replace b2:=hx.cell_of b2
 clear hx c1 hcl hW hb
 obtain rfl:e=.returned (.int .i64 2):=he
 go_wp2_with fail
 refine (need_ok t _).mono ?_
 rintro e w2 ⟨rfl,hx⟩
 replace h:=hid <| h.out.on hx
 replace b0:=hx.cell_of b0
 replace b1:=hx.cell_of b1
 replace b2:=hx.cell_of b2
 clear hx
 have c1:=(h.out.cell 1 (.slice (some ⟨c,0,none⟩) 15 15) (fun _=>rfl)).1
 have d2:=(cell_of_row _ c 12 _ _ _ h.out.cls).trans (show _=some (.bool false) from rfl)
 have d4:=(cell_of_row _ c 14 _ _ _ h.out.cls).trans (show _=some (.bool (s.had 2)) from rfl)
 rw [hh] at d4
 clear hi hmf hh
 go_upto_region 4 with fail
 refine wp_region_tail 12 (by kernel_rfl) (by kernel_rfl) ?_
 intro w3 hx
 replace h:=hid <| h.out.on hx
 replace b0:=hx.cell_of b0
 replace b1:=hx.cell_of b1
 replace b2:=hx.cell_of b2
 replace d2:=hx.cell_of d2
 replace d4:=hx.cell_of d4
 replace c1:=hx.cell_of c1
 clear hx
 simp only [List.take_succ_cons,List.take_zero,List.drop_succ_cons,List.drop_zero]
 repeat still_step
 refine wpStill_nil ?_
 go_wp2_with fail
 refine (need_no t _).mono ?_
 rintro e w4 ⟨rfl,hx⟩
 replace h:=hid <| h.out.on hx
 clear hx b0 b1 b2 c1 d2 d4
 unfold thrown
 go_wp2
 exact⟨rfl,Rdc.no h.out.ext⟩
theorem clause_2f (wf w0 w:World)(r c:Nat)(vr vl vh:Value)(s:St)(t:Tok)(hf:Fine s)(he0:Hid (Env w0))(h:Inn wf w0 w r c vr vl vh s)(hi:which t.text=2)(hh:s.had 2=false) :
  Calls Tryz.prog 92 #[.pointer (some ⟨r,0,none⟩),tokV t] w fun e w'=>Rdc wf w0 r c (clR t s) e w':=by
 have hX:clR t s=(clauseR 2 s.p s.ts).bind fun a=>(xp [59] a.2).bind fun ts=>.ok ⟨ts,a.1,seen s.had 2⟩:=by unfold clR;rw [hi,hh];rfl
 rw [hX]
 clear hX
 have hmf:=L7.make_func
 obtain⟨W0,b,hW,hb,hx0,b0,b1,b2⟩:=box_tok w t 59
 replace h:=hid <| h.on hx0
 have c1:=(h.out.cell 1 (.slice (some ⟨c,0,none⟩) 15 15) (fun _=>rfl)).1
 have hcl:=hid <| Cll.of h.out.cls
 replace hf:=hid hf
 clear hx0
 unfold tokV
 go_enter Tryz.func92,Tryz.ntmps92
 go_wp2_with fail
 refine (idxC_c c b s.had t.text _ hcl.out b2).mono ?_
 rintro e w1 ⟨he,hx⟩
 rw [hi] at he
 replace h:=hid <| h.out.on hx
 replace b0:=hx.cell_of b0
 replace b1:=hx.cell_of b1
 replace b2:=hx.cell_of b2
 clear hx c1 hcl hW hb
 obtain rfl:e=.returned (.int .i64 2):=he
 go_wp2_with fail
 refine (need_ok t _).mono ?_
 rintro e w2 ⟨rfl,hx⟩
 replace h:=hid <| h.out.on hx
 replace b0:=hx.cell_of b0
 replace b1:=hx.cell_of b1
 replace b2:=hx.cell_of b2
 clear hx
 have c1:=(h.out.cell 1 (.slice (some ⟨c,0,none⟩) 15 15) (fun _=>rfl)).1
 have d2:=(cell_of_row _ c 12 _ _ _ h.out.cls).trans (show _=some (.bool false) from rfl)
 have d4:=(cell_of_row _ c 14 _ _ _ h.out.cls).trans (show _=some (.bool (s.had 2)) from rfl)
 rw [hh] at d4
 clear hi hmf hh
 go_upto_region 4 with fail
 refine wp_region_tail 12 (by kernel_rfl) (by kernel_rfl) ?_
 intro w3 hx
 replace h:=hid <| h.out.on hx
 replace b0:=hx.cell_of b0
 replace b1:=hx.cell_of b1
 replace b2:=hx.cell_of b2
 replace d2:=hx.cell_of d2
 replace d4:=hx.cell_of d4
 replace c1:=hx.cell_of c1
 clear hx
 simp only [List.take_succ_cons,List.take_zero,List.drop_succ_cons,List.drop_zero]
 repeat still_step
 refine wpStill_nil ?_
 go_wp2_with fail
 refine (need_ok t _).mono ?_
 rintro e w4 ⟨rfl,hx⟩
 replace h:=hid <| h.out.on hx
 clear hx b0 b1 b2 c1 d2 d4
 have d3:=(cell_of_row _ c 13 _ _ _ h.out.cls).trans (show _=some (.func (.func 76) #[.pointer (some ⟨r,0,none⟩)] #[]) from rfl)
 have d4:=(cell_of_row _ c 14 _ _ _ h.out.cls).trans (show _=some (.bool (s.had 2)) from rfl)
 have z4:=frozen_of_row _ c 14 _ _ h.out.cls
 replace h:=show Hid (Inn wf w0 (w4.setCell ⟨c,14,none⟩ (.bool true)) r c vr vl vh { s with had:=seen s.had 2 }) from h.out.tell 2 (by omega)
 have hf2:Hid (Fine { s with had:=seen s.had 2 }):=⟨hf.out.fin,hf.out.len,hf.out.few⟩
 go_wp2_with fail
 obtain⟨t1,ts1,hs1,ht1,hl1⟩:=(show Fine { s with had:=seen s.had 2 } from hf2.out).cons
 refine (kind_c wf w0 _ r c vr vl vh { s with had:=seen s.had 2 } t1 ts1 hs1 (by omega) h.out).mono ?_
 rintro e w5 hR
 clear h d3 d4 z4
 cases hr:clauseR 2 s.p s.ts with
 | no x y =>
  have hR2:Ext w0 w5∧e=thrown x y:=by have:=hR;unfold Rds at this;rw [show clauseR 2 ({ s with had:=seen s.had 2 }:St).p ({ s with had:=seen s.had 2 }:St).ts=.no x y from hr] at this;exact this
  obtain⟨hx,rfl⟩:=hR2
  replace hr:=hid hr
  replace hx:=hid hx
  clear hR
  unfold thrown
  go_wp2
  rw [hr.out]
  exact⟨rfl,Rdc.no hx.out⟩
 | ok a =>
  have hR2:Ext w0 w5∧e=.returned (.tuple #[])∧∃ vr vl vh,Inn wf w0 w5 r c vr vl vh ⟨a.2,a.1,seen s.had 2⟩:=by have:=hR;unfold Rds at this;rw [show clauseR 2 ({ s with had:=seen s.had 2 }:St).p ({ s with had:=seen s.had 2 }:St).ts=.ok a from hr] at this;exact this
  obtain⟨_,rfl,vr',vl',vh',h⟩:=hR2
  obtain⟨t6,ts6,hs6,ht6,hl6⟩:=(reads_fine hf.out hr (seen s.had 2)).1.cons
  have hs6':a.2=t6::ts6:=hs6
  replace hr:=hid hr
  replace h:=hid h
  replace hs6:=hid hs6
  clear hR
  by_cases hq:t6.text = [59]
  ·replace hq:=hid hq
   go_wp2_with fail
   refine (expect_c wf w0 _ r c vr' vl' vh' ⟨a.2,a.1,seen s.had 2⟩ t6 ts6 [59] hs6.out (by omega) h.out).mono ?_
   rintro e w7 ⟨he,h7,hx⟩
   rw [if_pos hq.out] at he
   subst he
   replace h7:=hid h7
   clear hx
   go_wp2
   go_end0
   have hY:((clauseR 2 s.p s.ts).bind fun a=>(xp [59] a.2).bind fun ts=>.ok ⟨ts,a.1,seen s.had 2⟩)=Res.ok (⟨ts6,a.1,seen s.had 2⟩:St):=by
    rw [hr.out];show (xp [59] a.2).bind _=_;rw [hs6'];show (if t6.text = [59] then Res.ok ts6 else Res.no 7 t6.at_).bind _=_;rw [if_pos hq.out];rfl
   rw [hY]
   exact Rdc.ok h7.out
  ·replace hq:=hid hq
   go_wp2_with fail
   refine (expect_c wf w0 _ r c vr' vl' vh' ⟨a.2,a.1,seen s.had 2⟩ t6 ts6 [59] hs6.out (by omega) h.out).mono ?_
   rintro e w7 ⟨he,h7,hx⟩
   rw [if_neg hq.out] at he
   subst he
   replace h7:=hid h7
   clear hx
   unfold thrown
   go_wp2
   have hY:((clauseR 2 s.p s.ts).bind fun a=>(xp [59] a.2).bind fun ts=>.ok ⟨ts,a.1,seen s.had 2⟩)=(Res.no 7 t6.at_:Res St):=by
    rw [hr.out];show (xp [59] a.2).bind _=_;rw [hs6'];show (if t6.text = [59] then Res.ok ts6 else Res.no 7 t6.at_).bind _=_;rw [if_neg hq.out];rfl
   rw [hY]
   exact⟨rfl,Rdc.no h7.out.ext⟩
theorem clause_3t (wf w0 w:World)(r c:Nat)(vr vl vh:Value)(s:St)(t:Tok)(hf:Fine s)(he0:Hid (Env w0))(h:Inn wf w0 w r c vr vl vh s)(hi:which t.text=3)(hh:s.had 3=true) :
  Calls Tryz.prog 92 #[.pointer (some ⟨r,0,none⟩),tokV t] w fun e w'=>Rdc wf w0 r c (clR t s) e w':=by
 have hX:clR t s=.no 7 t.at_:=by unfold clR;rw [hi,hh];rfl
 rw [hX]
 clear hX
 have hmf:=L7.make_func
 obtain⟨W0,b,hW,hb,hx0,b0,b1,b2⟩:=box_tok w t 59
 replace h:=hid <| h.on hx0
 have c1:=(h.out.cell 1 (.slice (some ⟨c,0,none⟩) 15 15) (fun _=>rfl)).1
 have hcl:=hid <| Cll.of h.out.cls
 replace hf:=hid hf
 clear hx0
 unfold tokV
 go_enter Tryz.func92,Tryz.ntmps92
 go_wp2_with fail
 refine (idxC_c c b s.had t.text _ hcl.out b2).mono ?_
 rintro e w1 ⟨he,hx⟩
 rw [hi] at he
 replace h:=hid <| h.out.on hx
 replace b0:=hx.cell_of b0
 replace b1:=hx.cell_of b1
 replace b2:=hx.cell_of b2
 clear hx c1 hcl hW hb
 obtain rfl:e=.returned (.int .i64 3):=he
 go_wp2_with fail
 refine (need_ok t _).mono ?_
 rintro e w2 ⟨rfl,hx⟩
 replace h:=hid <| h.out.on hx
 replace b0:=hx.cell_of b0
 replace b1:=hx.cell_of b1
 replace b2:=hx.cell_of b2
 clear hx
 have c1:=(h.out.cell 1 (.slice (some ⟨c,0,none⟩) 15 15) (fun _=>rfl)).1
 have d2:=(cell_of_row _ c 17 _ _ _ h.out.cls).trans (show _=some (.bool false) from rfl)
 have d4:=(cell_of_row _ c 19 _ _ _ h.out.cls).trans (show _=some (.bool (s.had 3)) from rfl)
 rw [hh] at d4
 clear hi hmf hh
 go_upto_region 4 with fail
 refine wp_region_tail 12 (by kernel_rfl) (by kernel_rfl) ?_
 intro w3 hx
 replace h:=hid <| h.out.on hx
 replace b0:=hx.cell_of b0
 replace b1:=hx.cell_of b1
 replace b2:=hx.cell_of b2
 replace d2:=hx.cell_of d2
 replace d4:=hx.cell_of d4
 replace c1:=hx.cell_of c1
 clear hx
 simp only [List.take_succ_cons,List.take_zero,List.drop_succ_cons,List.drop_zero]
 repeat still_step
 refine wpStill_nil ?_
 go_wp2_with fail
 refine (need_no t _).mono ?_
 rintro e w4 ⟨rfl,hx⟩
 replace h:=hid <| h.out.on hx
 clear hx b0 b1 b2 c1 d2 d4
 unfold thrown
 go_wp2
 exact⟨rfl,Rdc.no h.out.ext⟩
theorem clause_3f (wf w0 w:World)(r c:Nat)(vr vl vh:Value)(s:St)(t:Tok)(hf:Fine s)(he0:Hid (Env w0))(h:Inn wf w0 w r c vr vl vh s)(hi:which t.text=3)(hh:s.had 3=false) :
  Calls Tryz.prog 92 #[.pointer (some ⟨r,0,none⟩),tokV t] w fun e w'=>Rdc wf w0 r c (clR t s) e w':=by
 have hX:clR t s=(clauseR 3 s.p s.ts).bind fun a=>(xp [59] a.2).bind fun ts=>.ok ⟨ts,a.1,seen s.had 3⟩:=by unfold clR;rw [hi,hh];rfl
 rw [hX]
 clear hX
 have hmf:=L7.make_func
 obtain⟨W0,b,hW,hb,hx0,b0,b1,b2⟩:=box_tok w t 59
 replace h:=hid <| h.on hx0
 have c1:=(h.out.cell 1 (.slice (some ⟨c,0,none⟩) 15 15) (fun _=>rfl)).1
 have hcl:=hid <| Cll.of h.out.cls
 replace hf:=hid hf
 clear hx0
 unfold tokV
 go_enter Tryz.func92,Tryz.ntmps92
 go_wp2_with fail
 refine (idxC_c c b s.had t.text _ hcl.out b2).mono ?_
 rintro e w1 ⟨he,hx⟩
 rw [hi] at he
 replace h:=hid <| h.out.on hx
 replace b0:=hx.cell_of b0
 replace b1:=hx.cell_of b1
 replace b2:=hx.cell_of b2
 clear hx c1 hcl hW hb
 obtain rfl:e=.returned (.int .i64 3):=he
 go_wp2_with fail
 refine (need_ok t _).mono ?_
 rintro e w2 ⟨rfl,hx⟩
 replace h:=hid <| h.out.on hx
 replace b0:=hx.cell_of b0
 replace b1:=hx.cell_of b1
 replace b2:=hx.cell_of b2
 clear hx
 have c1:=(h.out.cell 1 (.slice (some ⟨c,0,none⟩) 15 15) (fun _=>rfl)).1
 have d2:=(cell_of_row _ c 17 _ _ _ h.out.cls).trans (show _=some (.bool false) from rfl)
 have d4:=(cell_of_row _ c 19 _ _ _ h.out.cls).trans (show _=some (.bool (s.had 3)) from rfl)
 rw [hh] at d4
 clear hi hmf hh
 go_upto_region 4 with fail
 refine wp_region_tail 12 (by kernel_rfl) (by kernel_rfl) ?_
 intro w3 hx
 replace h:=hid <| h.out.on hx
 replace b0:=hx.cell_of b0
 replace b1:=hx.cell_of b1
 replace b2:=hx.cell_of b2
 replace d2:=hx.cell_of d2
 replace d4:=hx.cell_of d4
 replace c1:=hx.cell_of c1
 clear hx
 simp only [List.take_succ_cons,List.take_zero,List.drop_succ_cons,List.drop_zero]
 repeat still_step
 refine wpStill_nil ?_
 go_wp2_with fail
 refine (need_ok t _).mono ?_
 rintro e w4 ⟨rfl,hx⟩
 replace h:=hid <| h.out.on hx
 clear hx b0 b1 b2 c1 d2 d4
 have d3:=(cell_of_row _ c 18 _ _ _ h.out.cls).trans (show _=some (.func (.func 77) #[.pointer (some ⟨r,0,none⟩)] #[]) from rfl)
 have d4:=(cell_of_row _ c 19 _ _ _ h.out.cls).trans (show _=some (.bool (s.had 3)) from rfl)
 have z4:=frozen_of_row _ c 19 _ _ h.out.cls
 replace h:=show Hid (Inn wf w0 (w4.setCell ⟨c,19,none⟩ (.bool true)) r c vr vl vh { s with had:=seen s.had 3 }) from h.out.tell 3 (by omega)
 have hf2:Hid (Fine { s with had:=seen s.had 3 }):=⟨hf.out.fin,hf.out.len,hf.out.few⟩
 go_wp2_with fail
 obtain⟨t1,ts1,hs1,ht1,hl1⟩:=(show Fine { s with had:=seen s.had 3 } from hf2.out).cons
 refine (every_r wf w0 _ r c vr vl vh { s with had:=seen s.had 3 } t1 ts1 hs1 (by omega) ht1 he0 h.out).mono ?_
 rintro e w5 hR
 clear h d3 d4 z4
 cases hr:clauseR 3 s.p s.ts with
 | no x y =>
  have hR2:Ext w0 w5∧e=thrown x y:=by have:=hR;unfold Rds at this;rw [show clauseR 3 ({ s with had:=seen s.had 3 }:St).p ({ s with had:=seen s.had 3 }:St).ts=.no x y from hr] at this;exact this
  obtain⟨hx,rfl⟩:=hR2
  replace hr:=hid hr
  replace hx:=hid hx
  clear hR
  unfold thrown
  go_wp2
  rw [hr.out]
  exact⟨rfl,Rdc.no hx.out⟩
 | ok a =>
  have hR2:Ext w0 w5∧e=.returned (.tuple #[])∧∃ vr vl vh,Inn wf w0 w5 r c vr vl vh ⟨a.2,a.1,seen s.had 3⟩:=by have:=hR;unfold Rds at this;rw [show clauseR 3 ({ s with had:=seen s.had 3 }:St).p ({ s with had:=seen s.had 3 }:St).ts=.ok a from hr] at this;exact this
  obtain⟨_,rfl,vr',vl',vh',h⟩:=hR2
  obtain⟨t6,ts6,hs6,ht6,hl6⟩:=(reads_fine hf.out hr (seen s.had 3)).1.cons
  have hs6':a.2=t6::ts6:=hs6
  replace hr:=hid hr
  replace h:=hid h
  replace hs6:=hid hs6
  clear hR
  by_cases hq:t6.text = [59]
  ·replace hq:=hid hq
   go_wp2_with fail
   refine (expect_c wf w0 _ r c vr' vl' vh' ⟨a.2,a.1,seen s.had 3⟩ t6 ts6 [59] hs6.out (by omega) h.out).mono ?_
   rintro e w7 ⟨he,h7,hx⟩
   rw [if_pos hq.out] at he
   subst he
   replace h7:=hid h7
   clear hx
   go_wp2
   go_end0
   have hY:((clauseR 3 s.p s.ts).bind fun a=>(xp [59] a.2).bind fun ts=>.ok ⟨ts,a.1,seen s.had 3⟩)=Res.ok (⟨ts6,a.1,seen s.had 3⟩:St):=by
    rw [hr.out];show (xp [59] a.2).bind _=_;rw [hs6'];show (if t6.text = [59] then Res.ok ts6 else Res.no 7 t6.at_).bind _=_;rw [if_pos hq.out];rfl
   rw [hY]
   exact Rdc.ok h7.out
  ·replace hq:=hid hq
   go_wp2_with fail
   refine (expect_c wf w0 _ r c vr' vl' vh' ⟨a.2,a.1,seen s.had 3⟩ t6 ts6 [59] hs6.out (by omega) h.out).mono ?_
   rintro e w7 ⟨he,h7,hx⟩
   rw [if_neg hq.out] at he
   subst he
   replace h7:=hid h7
   clear hx
   unfold thrown
   go_wp2
   have hY:((clauseR 3 s.p s.ts).bind fun a=>(xp [59] a.2).bind fun ts=>.ok ⟨ts,a.1,seen s.had 3⟩)=(Res.no 7 t6.at_:Res St):=by
    rw [hr.out];show (xp [59] a.2).bind _=_;rw [hs6'];show (if t6.text = [59] then Res.ok ts6 else Res.no 7 t6.at_).bind _=_;rw [if_neg hq.out];rfl
   rw [hY]
   exact⟨rfl,Rdc.no h7.out.ext⟩
theorem clause_4t (wf w0 w:World)(r c:Nat)(vr vl vh:Value)(s:St)(t:Tok)(hf:Fine s)(he0:Hid (Env w0))(h:Inn wf w0 w r c vr vl vh s)(hi:which t.text=4)(hh:s.had 4=true) :
  Calls Tryz.prog 92 #[.pointer (some ⟨r,0,none⟩),tokV t] w fun e w'=>Rdc wf w0 r c (clR t s) e w':=by
 have hX:clR t s=.no 7 t.at_:=by unfold clR;rw [hi,hh];rfl
 rw [hX]
 clear hX
 have hmf:=L7.make_func
 obtain⟨W0,b,hW,hb,hx0,b0,b1,b2⟩:=box_tok w t 59
 replace h:=hid <| h.on hx0
 have c1:=(h.out.cell 1 (.slice (some ⟨c,0,none⟩) 15 15) (fun _=>rfl)).1
 have hcl:=hid <| Cll.of h.out.cls
 replace hf:=hid hf
 clear hx0
 unfold tokV
 go_enter Tryz.func92,Tryz.ntmps92
 go_wp2_with fail
 refine (idxC_c c b s.had t.text _ hcl.out b2).mono ?_
 rintro e w1 ⟨he,hx⟩
 rw [hi] at he
 replace h:=hid <| h.out.on hx
 replace b0:=hx.cell_of b0
 replace b1:=hx.cell_of b1
 replace b2:=hx.cell_of b2
 clear hx c1 hcl hW hb
 obtain rfl:e=.returned (.int .i64 4):=he
 go_wp2_with fail
 refine (need_ok t _).mono ?_
 rintro e w2 ⟨rfl,hx⟩
 replace h:=hid <| h.out.on hx
 replace b0:=hx.cell_of b0
 replace b1:=hx.cell_of b1
 replace b2:=hx.cell_of b2
 clear hx
 have c1:=(h.out.cell 1 (.slice (some ⟨c,0,none⟩) 15 15) (fun _=>rfl)).1
 have d2:=(cell_of_row _ c 22 _ _ _ h.out.cls).trans (show _=some (.bool false) from rfl)
 have d4:=(cell_of_row _ c 24 _ _ _ h.out.cls).trans (show _=some (.bool (s.had 4)) from rfl)
 rw [hh] at d4
 clear hi hmf hh
 go_upto_region 4 with fail
 refine wp_region_tail 12 (by kernel_rfl) (by kernel_rfl) ?_
 intro w3 hx
 replace h:=hid <| h.out.on hx
 replace b0:=hx.cell_of b0
 replace b1:=hx.cell_of b1
 replace b2:=hx.cell_of b2
 replace d2:=hx.cell_of d2
 replace d4:=hx.cell_of d4
 replace c1:=hx.cell_of c1
 clear hx
 simp only [List.take_succ_cons,List.take_zero,List.drop_succ_cons,List.drop_zero]
 repeat still_step
 refine wpStill_nil ?_
 go_wp2_with fail
 refine (need_no t _).mono ?_
 rintro e w4 ⟨rfl,hx⟩
 replace h:=hid <| h.out.on hx
 clear hx b0 b1 b2 c1 d2 d4
 unfold thrown
 go_wp2
 exact⟨rfl,Rdc.no h.out.ext⟩
theorem clause_4f (wf w0 w:World)(r c:Nat)(vr vl vh:Value)(s:St)(t:Tok)(hf:Fine s)(he0:Hid (Env w0))(h:Inn wf w0 w r c vr vl vh s)(hi:which t.text=4)(hh:s.had 4=false) :
  Calls Tryz.prog 92 #[.pointer (some ⟨r,0,none⟩),tokV t] w fun e w'=>Rdc wf w0 r c (clR t s) e w':=by
 have hX:clR t s=(clauseR 4 s.p s.ts).bind fun a=>(xp [59] a.2).bind fun ts=>.ok ⟨ts,a.1,seen s.had 4⟩:=by unfold clR;rw [hi,hh];rfl
 rw [hX]
 clear hX
 have hmf:=L7.make_func
 obtain⟨W0,b,hW,hb,hx0,b0,b1,b2⟩:=box_tok w t 59
 replace h:=hid <| h.on hx0
 have c1:=(h.out.cell 1 (.slice (some ⟨c,0,none⟩) 15 15) (fun _=>rfl)).1
 have hcl:=hid <| Cll.of h.out.cls
 replace hf:=hid hf
 clear hx0
 unfold tokV
 go_enter Tryz.func92,Tryz.ntmps92
 go_wp2_with fail
 refine (idxC_c c b s.had t.text _ hcl.out b2).mono ?_
 rintro e w1 ⟨he,hx⟩
 rw [hi] at he
 replace h:=hid <| h.out.on hx
 replace b0:=hx.cell_of b0
 replace b1:=hx.cell_of b1
 replace b2:=hx.cell_of b2
 clear hx c1 hcl hW hb
 obtain rfl:e=.returned (.int .i64 4):=he
 go_wp2_with fail
 refine (need_ok t _).mono ?_
 rintro e w2 ⟨rfl,hx⟩
 replace h:=hid <| h.out.on hx
 replace b0:=hx.cell_of b0
 replace b1:=hx.cell_of b1
 replace b2:=hx.cell_of b2
 clear hx
 have c1:=(h.out.cell 1 (.slice (some ⟨c,0,none⟩) 15 15) (fun _=>rfl)).1
 have d2:=(cell_of_row _ c 22 _ _ _ h.out.cls).trans (show _=some (.bool false) from rfl)
 have d4:=(cell_of_row _ c 24 _ _ _ h.out.cls).trans (show _=some (.bool (s.had 4)) from rfl)
 rw [hh] at d4
 clear hi hmf hh
 go_upto_region 4 with fail
 refine wp_region_tail 12 (by kernel_rfl) (by kernel_rfl) ?_
 intro w3 hx
 replace h:=hid <| h.out.on hx
 replace b0:=hx.cell_of b0
 replace b1:=hx.cell_of b1
 replace b2:=hx.cell_of b2
 replace d2:=hx.cell_of d2
 replace d4:=hx.cell_of d4
 replace c1:=hx.cell_of c1
 clear hx
 simp only [List.take_succ_cons,List.take_zero,List.drop_succ_cons,List.drop_zero]
 repeat still_step
 refine wpStill_nil ?_
 go_wp2_with fail
 refine (need_ok t _).mono ?_
 rintro e w4 ⟨rfl,hx⟩
 replace h:=hid <| h.out.on hx
 clear hx b0 b1 b2 c1 d2 d4
 have d3:=(cell_of_row _ c 23 _ _ _ h.out.cls).trans (show _=some (.func (.func 78) #[.pointer (some ⟨r,0,none⟩)] #[]) from rfl)
 have d4:=(cell_of_row _ c 24 _ _ _ h.out.cls).trans (show _=some (.bool (s.had 4)) from rfl)
 have z4:=frozen_of_row _ c 24 _ _ h.out.cls
 replace h:=show Hid (Inn wf w0 (w4.setCell ⟨c,24,none⟩ (.bool true)) r c vr vl vh { s with had:=seen s.had 4 }) from h.out.tell 4 (by omega)
 have hf2:Hid (Fine { s with had:=seen s.had 4 }):=⟨hf.out.fin,hf.out.len,hf.out.few⟩
 go_wp2_with fail
 obtain⟨t1,ts1,hs1,ht1,hl1⟩:=(show Fine { s with had:=seen s.had 4 } from hf2.out).cons
 refine (times_r wf w0 _ r c vr vl vh { s with had:=seen s.had 4 } t1 ts1 hs1 (by omega) ht1 he0 h.out).mono ?_
 rintro e w5 hR
 clear h d3 d4 z4
 cases hr:clauseR 4 s.p s.ts with
 | no x y =>
  have hR2:Ext w0 w5∧e=thrown x y:=by have:=hR;unfold Rds at this;rw [show clauseR 4 ({ s with had:=seen s.had 4 }:St).p ({ s with had:=seen s.had 4 }:St).ts=.no x y from hr] at this;exact this
  obtain⟨hx,rfl⟩:=hR2
  replace hr:=hid hr
  replace hx:=hid hx
  clear hR
  unfold thrown
  go_wp2
  rw [hr.out]
  exact⟨rfl,Rdc.no hx.out⟩
 | ok a =>
  have hR2:Ext w0 w5∧e=.returned (.tuple #[])∧∃ vr vl vh,Inn wf w0 w5 r c vr vl vh ⟨a.2,a.1,seen s.had 4⟩:=by have:=hR;unfold Rds at this;rw [show clauseR 4 ({ s with had:=seen s.had 4 }:St).p ({ s with had:=seen s.had 4 }:St).ts=.ok a from hr] at this;exact this
  obtain⟨_,rfl,vr',vl',vh',h⟩:=hR2
  obtain⟨t6,ts6,hs6,ht6,hl6⟩:=(reads_fine hf.out hr (seen s.had 4)).1.cons
  have hs6':a.2=t6::ts6:=hs6
  replace hr:=hid hr
  replace h:=hid h
  replace hs6:=hid hs6
  clear hR
  by_cases hq:t6.text = [59]
  ·replace hq:=hid hq
   go_wp2_with fail
   refine (expect_c wf w0 _ r c vr' vl' vh' ⟨a.2,a.1,seen s.had 4⟩ t6 ts6 [59] hs6.out (by omega) h.out).mono ?_
   rintro e w7 ⟨he,h7,hx⟩
   rw [if_pos hq.out] at he
   subst he
   replace h7:=hid h7
   clear hx
   go_wp2
   go_end0
   have hY:((clauseR 4 s.p s.ts).bind fun a=>(xp [59] a.2).bind fun ts=>.ok ⟨ts,a.1,seen s.had 4⟩)=Res.ok (⟨ts6,a.1,seen s.had 4⟩:St):=by
    rw [hr.out];show (xp [59] a.2).bind _=_;rw [hs6'];show (if t6.text = [59] then Res.ok ts6 else Res.no 7 t6.at_).bind _=_;rw [if_pos hq.out];rfl
   rw [hY]
   exact Rdc.ok h7.out
  ·replace hq:=hid hq
   go_wp2_with fail
   refine (expect_c wf w0 _ r c vr' vl' vh' ⟨a.2,a.1,seen s.had 4⟩ t6 ts6 [59] hs6.out (by omega) h.out).mono ?_
   rintro e w7 ⟨he,h7,hx⟩
   rw [if_neg hq.out] at he
   subst he
   replace h7:=hid h7
   clear hx
   unfold thrown
   go_wp2
   have hY:((clauseR 4 s.p s.ts).bind fun a=>(xp [59] a.2).bind fun ts=>.ok ⟨ts,a.1,seen s.had 4⟩)=(Res.no 7 t6.at_:Res St):=by
    rw [hr.out];show (xp [59] a.2).bind _=_;rw [hs6'];show (if t6.text = [59] then Res.ok ts6 else Res.no 7 t6.at_).bind _=_;rw [if_neg hq.out];rfl
   rw [hY]
   exact⟨rfl,Rdc.no h7.out.ext⟩
end Go.Proofs.YtlbodoggfbdnjaaGreatDoor
