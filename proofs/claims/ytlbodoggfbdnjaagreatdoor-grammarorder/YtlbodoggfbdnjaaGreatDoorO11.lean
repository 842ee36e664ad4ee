/- Contracts that the proof of this law leans on: no statement of the seat is proved here. -/
import Derived.Test.YtlbodoggfbdnjaaGreatDoorO9
set_option linter.unusedVariables false
set_option maxRecDepth 100000
set_option maxHeartbeats 8000000
namespace Go.Proofs.YtlbodoggfbdnjaaGreatDoor
open Go.RowKit Go.Lib
theorem clause_5t (wf w0 w:World)(r c:Nat)(vr vl vh:Value)(s:St)(t:Tok)(hf:Fine s)(he0:Hid (Env w0))(h:Inn wf w0 w r c vr vl vh s)(hi:which t.text=5)(hh:s.had 5=true) :
  Calls Tryz.prog 92 #[.pointer (some ⟨r,0,none⟩),tokV t] w fun e w'=>Rdc wf w0 r c (clR t s) e w':=by
 have hX:clR t s=.no 7 t.at_:=by unfold clR;rw [hi,hh];rfl
 rw [hX]
 clear hX
 have hmf:=L7.make_func
 obtain⟨W0,b,hW,hb,hx0,b0,b1,b2⟩:=box_tok w t 59
 replace h:=hid <| h.on hx0
 have c1:=(h.out.cell 1 (.slice (some ⟨c,0,none⟩) 15 15) (fun _=>rfl)).1
 have hcl:=hid <| Cll.of h.out.cls
 replace hf:=hid hf
 clear hx0
 unfold tokV
 go_enter Tryz.func92,Tryz.ntmps92
 go_wp2_with fail
 refine (idxC_c c b s.had t.text _ hcl.out b2).mono ?_
 rintro e w1 ⟨he,hx⟩
 rw [hi] at he
 replace h:=hid <| h.out.on hx
 replace b0:=hx.cell_of b0
 replace b1:=hx.cell_of b1
 replace b2:=hx.cell_of b2
 clear hx c1 hcl hW hb
 obtain rfl:e=.returned (.int .i64 5):=he
 go_wp2_with fail
 refine (need_ok t _).mono ?_
 rintro e w2 ⟨rfl,hx⟩
 replace h:=hid <| h.out.on hx
 replace b0:=hx.cell_of b0
 replace b1:=hx.cell_of b1
 replace b2:=hx.cell_of b2
 clear hx
 have c1:=(h.out.cell 1 (.slice (some ⟨c,0,none⟩) 15 15) (fun _=>rfl)).1
 have d2:=(cell_of_row _ c 27 _ _ _ h.out.cls).trans (show _=some (.bool false) from rfl)
 have d4:=(cell_of_row _ c 29 _ _ _ h.out.cls).trans (show _=some (.bool (s.had 5)) from rfl)
 rw [hh] at d4
 clear hi hmf hh
 go_upto_region 4 with fail
 refine wp_region_tail 12 (by kernel_rfl) (by kernel_rfl) ?_
 intro w3 hx
 replace h:=hid <| h.out.on hx
 replace b0:=hx.cell_of b0
 replace b1:=hx.cell_of b1
 replace b2:=hx.cell_of b2
 replace d2:=hx.cell_of d2
 replace d4:=hx.cell_of d4
 replace c1:=hx.cell_of c1
 clear hx
 simp only [List.take_succ_cons,List.take_zero,List.drop_succ_cons,List.drop_zero]
 repeat still_step
 refine wpStill_nil ?_
 go_wp2_with fail
 refine (need_no t _).mono ?_
 rintro e w4 ⟨rfl,hx⟩
 replace h:=hid <| h.out.on hx
 clear hx b0 b1 b2 c1 d2 d4
 unfold thrown
 go_wp2
 exact⟨rfl,Rdc.no h.out.ext⟩
theorem clause_5f (wf w0 w:World)(r c:Nat)(vr vl vh:Value)(s:St)(t:Tok)(hf:Fine s)(he0:Hid (Env w0))(h:Inn wf w0 w r c vr vl vh s)(hi:which t.text=5)(hh:s.had 5=false) :
  Calls Tryz.prog 92 #[.pointer (some ⟨r,0,none⟩),tokV t] w fun e w'=>Rdc wf w0 r c (clR t s) e w':=by
 have hX:clR t s=(clauseR 5 s.p s.ts).bind fun a=>(xp [59] a.2).bind fun ts=>.ok ⟨ts,a.1,seen s.had 5⟩:=by unfold clR;rw [hi,hh];rfl
 rw [hX]
 clear hX
 have hmf:=L7.make_func
 obtain⟨W0,b,hW,hb,hx0,b0,b1,b2⟩:=box_tok w t 59
 replace h:=hid <| h.on hx0
 have c1:=(h.out.cell 1 (.slice (some ⟨c,0,none⟩) 15 15) (fun _=>rfl)).1
 have hcl:=hid <| Cll.of h.out.cls
 replace hf:=hid hf
 clear hx0
 unfold tokV
 go_enter Tryz.func92,Tryz.ntmps92
 go_wp2_with fail
 refine (idxC_c c b s.had t.text _ hcl.out b2).mono ?_
 rintro e w1 ⟨he,hx⟩
 rw [hi] at he
 replace h:=hid <| h.out.on hx
 replace b0:=hx.cell_of b0
 replace b1:=hx.cell_of b1
 replace b2:=hx.cell_of b2
 clear hx c1 hcl hW hb
 obtain rfl:e=.returned (.int .i64 5):=he
 go_wp2_with fail
 refine (need_ok t _).mono ?_
 rintro e w2 ⟨rfl,hx⟩
 replace h:=hid <| h.out.on hx
 replace b0:=hx.cell_of b0
 replace b1:=hx.cell_of b1
 replace b2:=hx.cell_of b2
 clear hx
 have c1:=(h.out.cell 1 (.slice (some ⟨c,0,none⟩) 15 15) (fun _=>rfl)).1
 have d2:=(cell_of_row _ c 27 _ _ _ h.out.cls).trans (show _=some (.bool false) from rfl)
 have d4:=(cell_of_row _ c 29 _ _ _ h.out.cls).trans (show _=some (.bool (s.had 5)) from rfl)
 rw [hh] at d4
 clear hi hmf hh
 go_upto_region 4 with fail
 refine wp_region_tail 12 (by kernel_rfl) (by kernel_rfl) ?_
 intro w3 hx
 replace h:=hid <| h.out.on hx
 replace b0:=hx.cell_of b0
 replace b1:=hx.cell_of b1
 replace b2:=hx.cell_of b2
 replace d2:=hx.cell_of d2
 replace d4:=hx.cell_of d4
 replace c1:=hx.cell_of c1
 clear hx
 simp only [List.take_succ_cons,List.take_zero,List.drop_succ_cons,List.drop_zero]
 repeat still_step
 refine wpStill_nil ?_
 go_wp2_with fail
 refine (need_ok t _).mono ?_
 rintro e w4 ⟨rfl,hx⟩
 replace h:=hid <| h.out.on hx
 clear hx b0 b1 b2 c1 d2 d4
 have d3:=(cell_of_row _ c 28 _ _ _ h.out.cls).trans (show _=some (.func (.func 79) #[.pointer (some ⟨r,0,none⟩)] #[]) from rfl)
 have d4:=(cell_of_row _ c 29 _ _ _ h.out.cls).trans (show _=some (.bool (s.had 5)) from rfl)
 have z4:=frozen_of_row _ c 29 _ _ h.out.cls
 replace h:=show Hid (Inn wf w0 (w4.setCell ⟨c,29,none⟩ (.bool true)) r c vr vl vh { s with had:=seen s.had 5 }) from h.out.tell 5 (by omega)
 have hf2:Hid (Fine { s with had:=seen s.had 5 }):=⟨hf.out.fin,hf.out.len,hf.out.few⟩
 go_wp2_with fail
 obtain⟨t1,ts1,hs1,ht1,hl1⟩:=(show Fine { s with had:=seen s.had 5 } from hf2.out).cons
 refine (grace_r wf w0 _ r c vr vl vh { s with had:=seen s.had 5 } t1 ts1 hs1 (by omega) ht1 he0 h.out).mono ?_
 rintro e w5 hR
 clear h d3 d4 z4
 cases hr:clauseR 5 s.p s.ts with
 | no x y =>
  have hR2:Ext w0 w5∧e=thrown x y:=by have:=hR;unfold Rds at this;rw [show clauseR 5 ({ s with had:=seen s.had 5 }:St).p ({ s with had:=seen s.had 5 }:St).ts=.no x y from hr] at this;exact this
  obtain⟨hx,rfl⟩:=hR2
  replace hr:=hid hr
  replace hx:=hid hx
  clear hR
  unfold thrown
  go_wp2
  rw [hr.out]
  exact⟨rfl,Rdc.no hx.out⟩
 | ok a =>
  have hR2:Ext w0 w5∧e=.returned (.tuple #[])∧∃ vr vl vh,Inn wf w0 w5 r c vr vl vh ⟨a.2,a.1,seen s.had 5⟩:=by have:=hR;unfold Rds at this;rw [show clauseR 5 ({ s with had:=seen s.had 5 }:St).p ({ s with had:=seen s.had 5 }:St).ts=.ok a from hr] at this;exact this
  obtain⟨_,rfl,vr',vl',vh',h⟩:=hR2
  obtain⟨t6,ts6,hs6,ht6,hl6⟩:=(reads_fine hf.out hr (seen s.had 5)).1.cons
  have hs6':a.2=t6::ts6:=hs6
  replace hr:=hid hr
  replace h:=hid h
  replace hs6:=hid hs6
  clear hR
  by_cases hq:t6.text = [59]
  ·replace hq:=hid hq
   go_wp2_with fail
   refine (expect_c wf w0 _ r c vr' vl' vh' ⟨a.2,a.1,seen s.had 5⟩ t6 ts6 [59] hs6.out (by omega) h.out).mono ?_
   rintro e w7 ⟨he,h7,hx⟩
   rw [if_pos hq.out] at he
   subst he
   replace h7:=hid h7
   clear hx
   go_wp2
   go_end0
   have hY:((clauseR 5 s.p s.ts).bind fun a=>(xp [59] a.2).bind fun ts=>.ok ⟨ts,a.1,seen s.had 5⟩)=Res.ok (⟨ts6,a.1,seen s.had 5⟩:St):=by
    rw [hr.out];show (xp [59] a.2).bind _=_;rw [hs6'];show (if t6.text = [59] then Res.ok ts6 else Res.no 7 t6.at_).bind _=_;rw [if_pos hq.out];rfl
   rw [hY]
   exact Rdc.ok h7.out
  ·replace hq:=hid hq
   go_wp2_with fail
   refine (expect_c wf w0 _ r c vr' vl' vh' ⟨a.2,a.1,seen s.had 5⟩ t6 ts6 [59] hs6.out (by omega) h.out).mono ?_
   rintro e w7 ⟨he,h7,hx⟩
   rw [if_neg hq.out] at he
   subst he
   replace h7:=hid h7
   clear hx
   unfold thrown
   go_wp2
   have hY:((clauseR 5 s.p s.ts).bind fun a=>(xp [59] a.2).bind fun ts=>.ok ⟨ts,a.1,seen s.had 5⟩)=(Res.no 7 t6.at_:Res St):=by
    rw [hr.out];show (xp [59] a.2).bind _=_;rw [hs6'];show (if t6.text = [59] then Res.ok ts6 else Res.no 7 t6.at_).bind _=_;rw [if_neg hq.out];rfl
   rw [hY]
   exact⟨rfl,Rdc.no h7.out.ext⟩
theorem clause_6t (wf w0 w:World)(r c:Nat)(vr vl vh:Value)(s:St)(t:Tok)(hf:Fine s)(he0:Hid (Env w0))(h:Inn wf w0 w r c vr vl vh s)(hi:which t.text=6)(hh:s.had 6=true) :
  Calls Tryz.prog 92 #[.pointer (some ⟨r,0,none⟩),tokV t] w fun e w'=>Rdc wf w0 r c (clR t s) e w':=by
 have hX:clR t s=.no 7 t.at_:=by unfold clR;rw [hi,hh];rfl
 rw [hX]
 clear hX
 have hmf:=L7.make_func
 obtain⟨W0,b,hW,hb,hx0,b0,b1,b2⟩:=box_tok w t 59
 replace h:=hid <| h.on hx0
 have c1:=(h.out.cell 1 (.slice (some ⟨c,0,none⟩) 15 15) (fun _=>rfl)).1
 have hcl:=hid <| Cll.of h.out.cls
 replace hf:=hid hf
 clear hx0
 unfold tokV
 go_enter Tryz.func92,Tryz.ntmps92
 go_wp2_with fail
 refine (idxC_c c b s.had t.text _ hcl.out b2).mono ?_
 rintro e w1 ⟨he,hx⟩
 rw [hi] at he
 replace h:=hid <| h.out.on hx
 replace b0:=hx.cell_of b0
 replace b1:=hx.cell_of b1
 replace b2:=hx.cell_of b2
 clear hx c1 hcl hW hb
 obtain rfl:e=.returned (.int .i64 6):=he
 go_wp2_with fail
 refine (need_ok t _).mono ?_
 rintro e w2 ⟨rfl,hx⟩
 replace h:=hid <| h.out.on hx
 replace b0:=hx.cell_of b0
 replace b1:=hx.cell_of b1
 replace b2:=hx.cell_of b2
 clear hx
 have c1:=(h.out.cell 1 (.slice (some ⟨c,0,none⟩) 15 15) (fun _=>rfl)).1
 have d2:=(cell_of_row _ c 32 _ _ _ h.out.cls).trans (show _=some (.bool false) from rfl)
 have d4:=(cell_of_row _ c 34 _ _ _ h.out.cls).trans (show _=some (.bool (s.had 6)) from rfl)
 rw [hh] at d4
 clear hi hmf hh
 go_upto_region 4 with fail
 refine wp_region_tail 12 (by kernel_rfl) (by kernel_rfl) ?_
 intro w3 hx
 replace h:=hid <| h.out.on hx
 replace b0:=hx.cell_of b0
 replace b1:=hx.cell_of b1
 replace b2:=hx.cell_of b2
 replace d2:=hx.cell_of d2
 replace d4:=hx.cell_of d4
 replace c1:=hx.cell_of c1
 clear hx
 simp only [List.take_succ_cons,List.take_zero,List.drop_succ_cons,List.drop_zero]
 repeat still_step
 refine wpStill_nil ?_
 go_wp2_with fail
 refine (need_no t _).mono ?_
 rintro e w4 ⟨rfl,hx⟩
 replace h:=hid <| h.out.on hx
 clear hx b0 b1 b2 c1 d2 d4
 unfold thrown
 go_wp2
 exact⟨rfl,Rdc.no h.out.ext⟩
theorem clause_6f (wf w0 w:World)(r c:Nat)(vr vl vh:Value)(s:St)(t:Tok)(hf:Fine s)(he0:Hid (Env w0))(h:Inn wf w0 w r c vr vl vh s)(hi:which t.text=6)(hh:s.had 6=false) :
  Calls Tryz.prog 92 #[.pointer (some ⟨r,0,none⟩),tokV t] w fun e w'=>Rdc wf w0 r c (clR t s) e w':=by
 have hX:clR t s=(clauseR 6 s.p s.ts).bind fun a=>(xp [59] a.2).bind fun ts=>.ok ⟨ts,a.1,seen s.had 6⟩:=by unfold clR;rw [hi,hh];rfl
 rw [hX]
 clear hX
 have hmf:=L7.make_func
 obtain⟨W0,b,hW,hb,hx0,b0,b1,b2⟩:=box_tok w t 59
 replace h:=hid <| h.on hx0
 have c1:=(h.out.cell 1 (.slice (some ⟨c,0,none⟩) 15 15) (fun _=>rfl)).1
 have hcl:=hid <| Cll.of h.out.cls
 replace hf:=hid hf
 clear hx0
 unfold tokV
 go_enter Tryz.func92,Tryz.ntmps92
 go_wp2_with fail
 refine (idxC_c c b s.had t.text _ hcl.out b2).mono ?_
 rintro e w1 ⟨he,hx⟩
 rw [hi] at he
 replace h:=hid <| h.out.on hx
 replace b0:=hx.cell_of b0
 replace b1:=hx.cell_of b1
 replace b2:=hx.cell_of b2
 clear hx c1 hcl hW hb
 obtain rfl:e=.returned (.int .i64 6):=he
 go_wp2_with fail
 refine (need_ok t _).mono ?_
 rintro e w2 ⟨rfl,hx⟩
 replace h:=hid <| h.out.on hx
 replace b0:=hx.cell_of b0
 replace b1:=hx.cell_of b1
 replace b2:=hx.cell_of b2
 clear hx
 have c1:=(h.out.cell 1 (.slice (some ⟨c,0,none⟩) 15 15) (fun _=>rfl)).1
 have d2:=(cell_of_row _ c 32 _ _ _ h.out.cls).trans (show _=some (.bool false) from rfl)
 have d4:=(cell_of_row _ c 34 _ _ _ h.out.cls).trans (show _=some (.bool (s.had 6)) from rfl)
 rw [hh] at d4
 clear hi hmf hh
 go_upto_region 4 with fail
 refine wp_region_tail 12 (by kernel_rfl) (by kernel_rfl) ?_
 intro w3 hx
 replace h:=hid <| h.out.on hx
 replace b0:=hx.cell_of b0
 replace b1:=hx.cell_of b1
 replace b2:=hx.cell_of b2
 replace d2:=hx.cell_of d2
 replace d4:=hx.cell_of d4
 replace c1:=hx.cell_of c1
 clear hx
 simp only [List.take_succ_cons,List.take_zero,List.drop_succ_cons,List.drop_zero]
 repeat still_step
 refine wpStill_nil ?_
 go_wp2_with fail
 refine (need_ok t _).mono ?_
 rintro e w4 ⟨rfl,hx⟩
 replace h:=hid <| h.out.on hx
 clear hx b0 b1 b2 c1 d2 d4
 have d3:=(cell_of_row _ c 33 _ _ _ h.out.cls).trans (show _=some (.func (.func 80) #[.pointer (some ⟨r,0,none⟩)] #[]) from rfl)
 have d4:=(cell_of_row _ c 34 _ _ _ h.out.cls).trans (show _=some (.bool (s.had 6)) from rfl)
 have z4:=frozen_of_row _ c 34 _ _ h.out.cls
 replace h:=show Hid (Inn wf w0 (w4.setCell ⟨c,34,none⟩ (.bool true)) r c vr vl vh { s with had:=seen s.had 6 }) from h.out.tell 6 (by omega)
 have hf2:Hid (Fine { s with had:=seen s.had 6 }):=⟨hf.out.fin,hf.out.len,hf.out.few⟩
 go_wp2_with fail
 obtain⟨t1,ts1,hs1,ht1,hl1⟩:=(show Fine { s with had:=seen s.had 6 } from hf2.out).cons
 refine (rate_r wf w0 _ r c vr vl vh { s with had:=seen s.had 6 } t1 ts1 hs1 (by omega) ht1 he0 h.out).mono ?_
 rintro e w5 hR
 clear h d3 d4 z4
 cases hr:clauseR 6 s.p s.ts with
 | no x y =>
  have hR2:Ext w0 w5∧e=thrown x y:=by have:=hR;unfold Rds at this;rw [show clauseR 6 ({ s with had:=seen s.had 6 }:St).p ({ s with had:=seen s.had 6 }:St).ts=.no x y from hr] at this;exact this
  obtain⟨hx,rfl⟩:=hR2
  replace hr:=hid hr
  replace hx:=hid hx
  clear hR
  unfold thrown
  go_wp2
  rw [hr.out]
  exact⟨rfl,Rdc.no hx.out⟩
 | ok a =>
  have hR2:Ext w0 w5∧e=.returned (.tuple #[])∧∃ vr vl vh,Inn wf w0 w5 r c vr vl vh ⟨a.2,a.1,seen s.had 6⟩:=by have:=hR;unfold Rds at this;rw [show clauseR 6 ({ s with had:=seen s.had 6 }:St).p ({ s with had:=seen s.had 6 }:St).ts=.ok a from hr] at this;exact this
  obtain⟨_,rfl,vr',vl',vh',h⟩:=hR2
  obtain⟨t6,ts6,hs6,ht6,hl6⟩:=(reads_fine hf.out hr (seen s.had 6)).1.cons
  have hs6':a.2=t6::ts6:=hs6
  replace hr:=hid hr
  replace h:=hid h
  replace hs6:=hid hs6
  clear hR
  by_cases hq:t6.text = [59]
  ·replace hq:=hid hq
   go_wp2_with fail
   refine (expect_c wf w0 _ r c vr' vl' vh' ⟨a.2,a.1,seen s.had 6⟩ t6 ts6 [59] hs6.out (by omega) h.out).mono ?_
   rintro e w7 ⟨he,h7,hx⟩
   rw [if_pos hq.out] at he
   subst he
   replace h7:=hid h7
   clear hx
   go_wp2
   go_end0
   have hY:((clauseR 6 s.p s.ts).bind fun a=>(xp [59] a.2).bind fun ts=>.ok ⟨ts,a.1,seen s.had 6⟩)=Res.ok (⟨ts6,a.1,seen s.had 6⟩:St):=by
    rw [hr.out];show (xp [59] a.2).bind _=_;rw [hs6'];show (if t6.text = [59] then Res.ok ts6 else Res.no 7 t6.at_).bind _=_;rw [if_pos hq.out];rfl
   rw [hY]
   exact Rdc.ok h7.out
  ·replace hq:=hid hq
   go_wp2_with fail
   refine (expect_c wf w0 _ r c vr' vl' vh' ⟨a.2,a.1,seen s.had 6⟩ t6 ts6 [59] hs6.out (by omega) h.out).mono ?_
   rintro e w7 ⟨he,h7,hx⟩
   rw [if_neg hq.out] at he
   subst he
   replace h7:=hid h7
   clear hx
   unfold thrown
   go_wp2
   have hY:((clauseR 6 s.p s.ts).bind fun a=>(xp [59] a.2).bind fun ts=>.ok ⟨ts,a.1,seen s.had 6⟩)=(Res.no 7 t6.at_:Res St):=by
    rw [hr.out];show (xp [59] a.2).bind _=_;rw [hs6'];show (if t6.text = [59] then Res.ok ts6 else Res.no 7 t6.at_).bind _=_;rw [if_neg hq.out];rfl
   rw [hY]
   exact⟨rfl,Rdc.no h7.out.ext⟩
theorem clause_7t (wf w0 w:World)(r c:Nat)(vr vl vh:Value)(s:St)(t:Tok)(hf:Fine s)(he0:Hid (Env w0))(h:Inn wf w0 w r c vr vl vh s)(hi:which t.text=7)(hh:s.had 7=true) :
  Calls Tryz.prog 92 #[.pointer (some ⟨r,0,none⟩),tokV t] w fun e w'=>Rdc wf w0 r c (clR t s) e w':=by
 have hX:clR t s=.no 7 t.at_:=by unfold clR;rw [hi,hh];rfl
 rw [hX]
 clear hX
 have hmf:=L7.make_func
 obtain⟨W0,b,hW,hb,hx0,b0,b1,b2⟩:=box_tok w t 59
 replace h:=hid <| h.on hx0
 have c1:=(h.out.cell 1 (.slice (some ⟨c,0,none⟩) 15 15) (fun _=>rfl)).1
 have hcl:=hid <| Cll.of h.out.cls
 replace hf:=hid hf
 clear hx0
 unfold tokV
 go_enter Tryz.func92,Tryz.ntmps92
 go_wp2_with fail
 refine (idxC_c c b s.had t.text _ hcl.out b2).mono ?_
 rintro e w1 ⟨he,hx⟩
 rw [hi] at he
 replace h:=hid <| h.out.on hx
 replace b0:=hx.cell_of b0
 replace b1:=hx.cell_of b1
 replace b2:=hx.cell_of b2
 clear hx c1 hcl hW hb
 obtain rfl:e=.returned (.int .i64 7):=he
 go_wp2_with fail
 refine (need_ok t _).mono ?_
 rintro e w2 ⟨rfl,hx⟩
 replace h:=hid <| h.out.on hx
 replace b0:=hx.cell_of b0
 replace b1:=hx.cell_of b1
 replace b2:=hx.cell_of b2
 clear hx
 have c1:=(h.out.cell 1 (.slice (some ⟨c,0,none⟩) 15 15) (fun _=>rfl)).1
 have d2:=(cell_of_row _ c 37 _ _ _ h.out.cls).trans (show _=some (.bool false) from rfl)
 have d4:=(cell_of_row _ c 39 _ _ _ h.out.cls).trans (show _=some (.bool (s.had 7)) from rfl)
 rw [hh] at d4
 clear hi hmf hh
 go_upto_region 4 with fail
 refine wp_region_tail 12 (by kernel_rfl) (by kernel_rfl) ?_
 intro w3 hx
 replace h:=hid <| h.out.on hx
 replace b0:=hx.cell_of b0
 replace b1:=hx.cell_of b1
 replace b2:=hx.cell_of b2
 replace d2:=hx.cell_of d2
 replace d4:=hx.cell_of d4
 replace c1:=hx.cell_of c1
 clear hx
 simp only [List.take_succ_cons,List.take_zero,List.drop_succ_cons,List.drop_zero]
 repeat still_step
 refine wpStill_nil ?_
 go_wp2_with fail
 refine (need_no t _).mono ?_
 rintro e w4 ⟨rfl,hx⟩
 replace h:=hid <| h.out.on hx
 clear hx b0 b1 b2 c1 d2 d4
 unfold thrown
 go_wp2
 exact⟨rfl,Rdc.no h.out.ext⟩
theorem clause_7f (wf w0 w:World)(r c:Nat)(vr vl vh:Value)(s:St)(t:Tok)(hf:Fine s)(he0:Hid (Env w0))(h:Inn wf w0 w r c vr vl vh s)(hi:which t.text=7)(hh:s.had 7=false) :
  Calls Tryz.prog 92 #[.pointer (some ⟨r,0,none⟩),tokV t] w fun e w'=>Rdc wf w0 r c (clR t s) e w':=by
 have hX:clR t s=(clauseR 7 s.p s.ts).bind fun a=>(xp [59] a.2).bind fun ts=>.ok ⟨ts,a.1,seen s.had 7⟩:=by unfold clR;rw [hi,hh];rfl
 rw [hX]
 clear hX
 have hmf:=L7.make_func
 obtain⟨W0,b,hW,hb,hx0,b0,b1,b2⟩:=box_tok w t 59
 replace h:=hid <| h.on hx0
 have c1:=(h.out.cell 1 (.slice (some ⟨c,0,none⟩) 15 15) (fun _=>rfl)).1
 have hcl:=hid <| Cll.of h.out.cls
 replace hf:=hid hf
 clear hx0
 unfold tokV
 go_enter Tryz.func92,Tryz.ntmps92
 go_wp2_with fail
 refine (idxC_c c b s.had t.text _ hcl.out b2).mono ?_
 rintro e w1 ⟨he,hx⟩
 rw [hi] at he
 replace h:=hid <| h.out.on hx
 replace b0:=hx.cell_of b0
 replace b1:=hx.cell_of b1
 replace b2:=hx.cell_of b2
 clear hx c1 hcl hW hb
 obtain rfl:e=.returned (.int .i64 7):=he
 go_wp2_with fail
 refine (need_ok t _).mono ?_
 rintro e w2 ⟨rfl,hx⟩
 replace h:=hid <| h.out.on hx
 replace b0:=hx.cell_of b0
 replace b1:=hx.cell_of b1
 replace b2:=hx.cell_of b2
 clear hx
 have c1:=(h.out.cell 1 (.slice (some ⟨c,0,none⟩) 15 15) (fun _=>rfl)).1
 have d2:=(cell_of_row _ c 37 _ _ _ h.out.cls).trans (show _=some (.bool false) from rfl)
 have d4:=(cell_of_row _ c 39 _ _ _ h.out.cls).trans (show _=some (.bool (s.had 7)) from rfl)
 rw [hh] at d4
 clear hi hmf hh
 go_upto_region 4 with fail
 refine wp_region_tail 12 (by kernel_rfl) (by kernel_rfl) ?_
 intro w3 hx
 replace h:=hid <| h.out.on hx
 replace b0:=hx.cell_of b0
 replace b1:=hx.cell_of b1
 replace b2:=hx.cell_of b2
 replace d2:=hx.cell_of d2
 replace d4:=hx.cell_of d4
 replace c1:=hx.cell_of c1
 clear hx
 simp only [List.take_succ_cons,List.take_zero,List.drop_succ_cons,List.drop_zero]
 repeat still_step
 refine wpStill_nil ?_
 go_wp2_with fail
 refine (need_ok t _).mono ?_
 rintro e w4 ⟨rfl,hx⟩
 replace h:=hid <| h.out.on hx
 clear hx b0 b1 b2 c1 d2 d4
 have d3:=(cell_of_row _ c 38 _ _ _ h.out.cls).trans (show _=some (.func (.func 81) #[.pointer (some ⟨r,0,none⟩)] #[]) from rfl)
 have d4:=(cell_of_row _ c 39 _ _ _ h.out.cls).trans (show _=some (.bool (s.had 7)) from rfl)
 have z4:=frozen_of_row _ c 39 _ _ h.out.cls
 replace h:=show Hid (Inn wf w0 (w4.setCell ⟨c,39,none⟩ (.bool true)) r c vr vl vh { s with had:=seen s.had 7 }) from h.out.tell 7 (by omega)
 have hf2:Hid (Fine { s with had:=seen s.had 7 }):=⟨hf.out.fin,hf.out.len,hf.out.few⟩
 go_wp2_with fail
 obtain⟨t1,ts1,hs1,ht1,hl1⟩:=(show Fine { s with had:=seen s.had 7 } from hf2.out).cons
 refine (penalty_r wf w0 _ r c vr vl vh { s with had:=seen s.had 7 } t1 ts1 hs1 (by omega) ht1 he0 h.out).mono ?_
 rintro e w5 hR
 clear h d3 d4 z4
 cases hr:clauseR 7 s.p s.ts with
 | no x y =>
  have hR2:Ext w0 w5∧e=thrown x y:=by have:=hR;unfold Rds at this;rw [show clauseR 7 ({ s with had:=seen s.had 7 }:St).p ({ s with had:=seen s.had 7 }:St).ts=.no x y from hr] at this;exact this
  obtain⟨hx,rfl⟩:=hR2
  replace hr:=hid hr
  replace hx:=hid hx
  clear hR
  unfold thrown
  go_wp2
  rw [hr.out]
  exact⟨rfl,Rdc.no hx.out⟩
 | ok a =>
  have hR2:Ext w0 w5∧e=.returned (.tuple #[])∧∃ vr vl vh,Inn wf w0 w5 r c vr vl vh ⟨a.2,a.1,seen s.had 7⟩:=by have:=hR;unfold Rds at this;rw [show clauseR 7 ({ s with had:=seen s.had 7 }:St).p ({ s with had:=seen s.had 7 }:St).ts=.ok a from hr] at this;exact this
  obtain⟨_,rfl,vr',vl',vh',h⟩:=hR2
  obtain⟨t6,ts6,hs6,ht6,hl6⟩:=(reads_fine hf.out hr (seen s.had 7)).1.cons
  have hs6':a.2=t6::ts6:=hs6
  replace hr:=hid hr
  replace h:=hid h
  replace hs6:=hid hs6
  clear hR
  by_cases hq:t6.text = [59]
  ·replace hq:=hid hq
   go_wp2_with fail
   refine (expect_c wf w0 _ r c vr' vl' vh' ⟨a.2,a.1,seen s.had 7⟩ t6 ts6 [59] hs6.out (by omega) h.out).mono ?_
   rintro e w7 ⟨he,h7,hx⟩
   rw [if_pos hq.out] at he
   subst he
   replace h7:=hid h7
   clear hx
   go_wp2
   go_end0
   have hY:((clauseR 7 s.p s.ts).bind fun a=>(xp [59] a.2).bind fun ts=>.ok ⟨ts,a.1,seen s.had 7⟩)=Res.ok (⟨ts6,a.1,seen s.had 7⟩:St):=by
    rw [hr.out];show (xp [59] a.2).bind _=_;rw [hs6'];show (if t6.text = [59] then Res.ok ts6 else Res.no 7 t6.at_).bind _=_;rw [if_pos hq.out];rfl
   rw [hY]
   exact Rdc.ok h7.out
  ·replace hq:=hid hq
   go_wp2_with fail
   refine (expect_c wf w0 _ r c vr' vl' vh' ⟨a.2,a.1,seen s.had 7⟩ t6 ts6 [59] hs6.out (by omega) h.out).mono ?_
   rintro e w7 ⟨he,h7,hx⟩
   rw [if_neg hq.out] at he
   subst he
   replace h7:=hid h7
   clear hx
   unfold thrown
   go_wp2
   have hY:((clauseR 7 s.p s.ts).bind fun a=>(xp [59] a.2).bind fun ts=>.ok ⟨ts,a.1,seen s.had 7⟩)=(Res.no 7 t6.at_:Res St):=by
    rw [hr.out];show (xp [59] a.2).bind _=_;rw [hs6'];show (if t6.text = [59] then Res.ok ts6 else Res.no 7 t6.at_).bind _=_;rw [if_neg hq.out];rfl
   rw [hY]
   exact⟨rfl,Rdc.no h7.out.ext⟩
theorem clause_8f (wf w0 w:World)(r c:Nat)(vr vl vh:Value)(s:St)(t:Tok)(hf:Fine s)(he0:Hid (Env w0))(h:Inn wf w0 w r c vr vl vh s)(hi:which t.text=8) :
  Calls Tryz.prog 92 #[.pointer (some ⟨r,0,none⟩),tokV t] w fun e w'=>Rdc wf w0 r c (clR t s) e w':=by
 have hX:clR t s=(clauseR 8 s.p s.ts).bind fun a=>(xp [59] a.2).bind fun ts=>.ok ⟨ts,a.1,seen s.had 8⟩:=by unfold clR;rw [hi];rfl
 rw [hX]
 clear hX
 have hmf:=L7.make_func
 obtain⟨W0,b,hW,hb,hx0,b0,b1,b2⟩:=box_tok w t 59
 replace h:=hid <| h.on hx0
 have c1:=(h.out.cell 1 (.slice (some ⟨c,0,none⟩) 15 15) (fun _=>rfl)).1
 have hcl:=hid <| Cll.of h.out.cls
 replace hf:=hid hf
 clear hx0
 unfold tokV
 go_enter Tryz.func92,Tryz.ntmps92
 go_wp2_with fail
 refine (idxC_c c b s.had t.text _ hcl.out b2).mono ?_
 rintro e w1 ⟨he,hx⟩
 rw [hi] at he
 replace h:=hid <| h.out.on hx
 replace b0:=hx.cell_of b0
 replace b1:=hx.cell_of b1
 replace b2:=hx.cell_of b2
 clear hx c1 hcl hW hb
 obtain rfl:e=.returned (.int .i64 8):=he
 go_wp2_with fail
 refine (need_ok t _).mono ?_
 rintro e w2 ⟨rfl,hx⟩
 replace h:=hid <| h.out.on hx
 replace b0:=hx.cell_of b0
 replace b1:=hx.cell_of b1
 replace b2:=hx.cell_of b2
 clear hx
 have c1:=(h.out.cell 1 (.slice (some ⟨c,0,none⟩) 15 15) (fun _=>rfl)).1
 have d2:=(cell_of_row _ c 42 _ _ _ h.out.cls).trans (show _=some (.bool true) from rfl)
 have d4:=(cell_of_row _ c 44 _ _ _ h.out.cls).trans (show _=some (.bool (s.had 8)) from rfl)
 skip
 clear hi hmf
 go_upto_region 4 with fail
 refine wp_region_tail 12 (by kernel_rfl) (by kernel_rfl) ?_
 intro w3 hx
 replace h:=hid <| h.out.on hx
 replace b0:=hx.cell_of b0
 replace b1:=hx.cell_of b1
 replace b2:=hx.cell_of b2
 replace d2:=hx.cell_of d2
 replace d4:=hx.cell_of d4
 replace c1:=hx.cell_of c1
 clear hx
 simp only [List.take_succ_cons,List.take_zero,List.drop_succ_cons,List.drop_zero]
 repeat still_step
 refine wpStill_nil ?_
 go_wp2_with fail
 refine (need_ok t _).mono ?_
 rintro e w4 ⟨rfl,hx⟩
 replace h:=hid <| h.out.on hx
 clear hx b0 b1 b2 c1 d2 d4
 have d3:=(cell_of_row _ c 43 _ _ _ h.out.cls).trans (show _=some (.func (.func 82) #[.pointer (some ⟨r,0,none⟩)] #[]) from rfl)
 have d4:=(cell_of_row _ c 44 _ _ _ h.out.cls).trans (show _=some (.bool (s.had 8)) from rfl)
 have z4:=frozen_of_row _ c 44 _ _ h.out.cls
 replace h:=show Hid (Inn wf w0 (w4.setCell ⟨c,44,none⟩ (.bool true)) r c vr vl vh { s with had:=seen s.had 8 }) from h.out.tell 8 (by omega)
 have hf2:Hid (Fine { s with had:=seen s.had 8 }):=⟨hf.out.fin,hf.out.len,hf.out.few⟩
 go_wp2_with fail
 refine (reset_c wf w0 _ r c vr vl vh { s with had:=seen s.had 8 } hf2.out he0 h.out).mono ?_
 rintro e w5 hR
 clear h d3 d4 z4
 cases hr:clauseR 8 s.p s.ts with
 | no x y =>
  have hR2:Ext w0 w5∧e=thrown x y:=by have:=hR;unfold Rds at this;rw [show clauseR 8 ({ s with had:=seen s.had 8 }:St).p ({ s with had:=seen s.had 8 }:St).ts=.no x y from hr] at this;exact this
  obtain⟨hx,rfl⟩:=hR2
  replace hr:=hid hr
  replace hx:=hid hx
  clear hR
  unfold thrown
  go_wp2
  rw [hr.out]
  exact⟨rfl,Rdc.no hx.out⟩
 | ok a =>
  have hR2:Ext w0 w5∧e=.returned (.tuple #[])∧∃ vr vl vh,Inn wf w0 w5 r c vr vl vh ⟨a.2,a.1,seen s.had 8⟩:=by have:=hR;unfold Rds at this;rw [show clauseR 8 ({ s with had:=seen s.had 8 }:St).p ({ s with had:=seen s.had 8 }:St).ts=.ok a from hr] at this;exact this
  obtain⟨_,rfl,vr',vl',vh',h⟩:=hR2
  obtain⟨t6,ts6,hs6,ht6,hl6⟩:=(reads_fine hf.out hr (seen s.had 8)).1.cons
  have hs6':a.2=t6::ts6:=hs6
  replace hr:=hid hr
  replace h:=hid h
  replace hs6:=hid hs6
  clear hR
  by_cases hq:t6.text = [59]
  ·replace hq:=hid hq
   go_wp2_with fail
   refine (expect_c wf w0 _ r c vr' vl' vh' ⟨a.2,a.1,seen s.had 8⟩ t6 ts6 [59] hs6.out (by omega) h.out).mono ?_
   rintro e w7 ⟨he,h7,hx⟩
   rw [if_pos hq.out] at he
   subst he
   replace h7:=hid h7
   clear hx
   go_wp2
   go_end0
   have hY:((clauseR 8 s.p s.ts).bind fun a=>(xp [59] a.2).bind fun ts=>.ok ⟨ts,a.1,seen s.had 8⟩)=Res.ok (⟨ts6,a.1,seen s.had 8⟩:St):=by
    rw [hr.out];show (xp [59] a.2).bind _=_;rw [hs6'];show (if t6.text = [59] then Res.ok ts6 else Res.no 7 t6.at_).bind _=_;rw [if_pos hq.out];rfl
   rw [hY]
   exact Rdc.ok h7.out
  ·replace hq:=hid hq
   go_wp2_with fail
   refine (expect_c wf w0 _ r c vr' vl' vh' ⟨a.2,a.1,seen s.had 8⟩ t6 ts6 [59] hs6.out (by omega) h.out).mono ?_
   rintro e w7 ⟨he,h7,hx⟩
   rw [if_neg hq.out] at he
   subst he
   replace h7:=hid h7
   clear hx
   unfold thrown
   go_wp2
   have hY:((clauseR 8 s.p s.ts).bind fun a=>(xp [59] a.2).bind fun ts=>.ok ⟨ts,a.1,seen s.had 8⟩)=(Res.no 7 t6.at_:Res St):=by
    rw [hr.out];show (xp [59] a.2).bind _=_;rw [hs6'];show (if t6.text = [59] then Res.ok ts6 else Res.no 7 t6.at_).bind _=_;rw [if_neg hq.out];rfl
   rw [hY]
   exact⟨rfl,Rdc.no h7.out.ext⟩
theorem clause_9f (wf w0 w:World)(r c:Nat)(vr vl vh:Value)(s:St)(t:Tok)(hf:Fine s)(he0:Hid (Env w0))(h:Inn wf w0 w r c vr vl vh s)(hi:which t.text=9) :
  Calls Tryz.prog 92 #[.pointer (some ⟨r,0,none⟩),tokV t] w fun e w'=>Rdc wf w0 r c (clR t s) e w':=by
 have hX:clR t s=(clauseR 9 s.p s.ts).bind fun a=>(xp [59] a.2).bind fun ts=>.ok ⟨ts,a.1,seen s.had 9⟩:=by unfold clR;rw [hi];rfl
 rw [hX]
 clear hX
 have hmf:=L7.make_func
 obtain⟨W0,b,hW,hb,hx0,b0,b1,b2⟩:=box_tok w t 59
 replace h:=hid <| h.on hx0
 have c1:=(h.out.cell 1 (.slice (some ⟨c,0,none⟩) 15 15) (fun _=>rfl)).1
 have hcl:=hid <| Cll.of h.out.cls
 replace hf:=hid hf
 clear hx0
 unfold tokV
 go_enter Tryz.func92,Tryz.ntmps92
 go_wp2_with fail
 refine (idxC_c c b s.had t.text _ hcl.out b2).mono ?_
 rintro e w1 ⟨he,hx⟩
 rw [hi] at he
 replace h:=hid <| h.out.on hx
 replace b0:=hx.cell_of b0
 replace b1:=hx.cell_of b1
 replace b2:=hx.cell_of b2
 clear hx c1 hcl hW hb
 obtain rfl:e=.returned (.int .i64 9):=he
 go_wp2_with fail
 refine (need_ok t _).mono ?_
 rintro e w2 ⟨rfl,hx⟩
 replace h:=hid <| h.out.on hx
 replace b0:=hx.cell_of b0
 replace b1:=hx.cell_of b1
 replace b2:=hx.cell_of b2
 clear hx
 have c1:=(h.out.cell 1 (.slice (some ⟨c,0,none⟩) 15 15) (fun _=>rfl)).1
 have d2:=(cell_of_row _ c 47 _ _ _ h.out.cls).trans (show _=some (.bool true) from rfl)
 have d4:=(cell_of_row _ c 49 _ _ _ h.out.cls).trans (show _=some (.bool (s.had 9)) from rfl)
 skip
 clear hi hmf
 go_upto_region 4 with fail
 refine wp_region_tail 12 (by kernel_rfl) (by kernel_rfl) ?_
 intro w3 hx
 replace h:=hid <| h.out.on hx
 replace b0:=hx.cell_of b0
 replace b1:=hx.cell_of b1
 replace b2:=hx.cell_of b2
 replace d2:=hx.cell_of d2
 replace d4:=hx.cell_of d4
 replace c1:=hx.cell_of c1
 clear hx
 simp only [List.take_succ_cons,List.take_zero,List.drop_succ_cons,List.drop_zero]
 repeat still_step
 refine wpStill_nil ?_
 go_wp2_with fail
 refine (need_ok t _).mono ?_
 rintro e w4 ⟨rfl,hx⟩
 replace h:=hid <| h.out.on hx
 clear hx b0 b1 b2 c1 d2 d4
 have d3:=(cell_of_row _ c 48 _ _ _ h.out.cls).trans (show _=some (.func (.func 83) #[.pointer (some ⟨r,0,none⟩)] #[]) from rfl)
 have d4:=(cell_of_row _ c 49 _ _ _ h.out.cls).trans (show _=some (.bool (s.had 9)) from rfl)
 have z4:=frozen_of_row _ c 49 _ _ h.out.cls
 replace h:=show Hid (Inn wf w0 (w4.setCell ⟨c,49,none⟩ (.bool true)) r c vr vl vh { s with had:=seen s.had 9 }) from h.out.tell 9 (by omega)
 have hf2:Hid (Fine { s with had:=seen s.had 9 }):=⟨hf.out.fin,hf.out.len,hf.out.few⟩
 go_wp2_with fail
 refine (late_c wf w0 _ r c vr vl vh { s with had:=seen s.had 9 } hf2.out he0 h.out).mono ?_
 rintro e w5 hR
 clear h d3 d4 z4
 cases hr:clauseR 9 s.p s.ts with
 | no x y =>
  have hR2:Ext w0 w5∧e=thrown x y:=by have:=hR;unfold Rds at this;rw [show clauseR 9 ({ s with had:=seen s.had 9 }:St).p ({ s with had:=seen s.had 9 }:St).ts=.no x y from hr] at this;exact this
  obtain⟨hx,rfl⟩:=hR2
  replace hr:=hid hr
  replace hx:=hid hx
  clear hR
  unfold thrown
  go_wp2
  rw [hr.out]
  exact⟨rfl,Rdc.no hx.out⟩
 | ok a =>
  have hR2:Ext w0 w5∧e=.returned (.tuple #[])∧∃ vr vl vh,Inn wf w0 w5 r c vr vl vh ⟨a.2,a.1,seen s.had 9⟩:=by have:=hR;unfold Rds at this;rw [show clauseR 9 ({ s with had:=seen s.had 9 }:St).p ({ s with had:=seen s.had 9 }:St).ts=.ok a from hr] at this;exact this
  obtain⟨_,rfl,vr',vl',vh',h⟩:=hR2
  obtain⟨t6,ts6,hs6,ht6,hl6⟩:=(reads_fine hf.out hr (seen s.had 9)).1.cons
  have hs6':a.2=t6::ts6:=hs6
  replace hr:=hid hr
  replace h:=hid h
  replace hs6:=hid hs6
  clear hR
  by_cases hq:t6.text = [59]
  ·replace hq:=hid hq
   go_wp2_with fail
   refine (expect_c wf w0 _ r c vr' vl' vh' ⟨a.2,a.1,seen s.had 9⟩ t6 ts6 [59] hs6.out (by omega) h.out).mono ?_
   rintro e w7 ⟨he,h7,hx⟩
   rw [if_pos hq.out] at he
   subst he
   replace h7:=hid h7
   clear hx
   go_wp2
   go_end0
   have hY:((clauseR 9 s.p s.ts).bind fun a=>(xp [59] a.2).bind fun ts=>.ok ⟨ts,a.1,seen s.had 9⟩)=Res.ok (⟨ts6,a.1,seen s.had 9⟩:St):=by
    rw [hr.out];show (xp [59] a.2).bind _=_;rw [hs6'];show (if t6.text = [59] then Res.ok ts6 else Res.no 7 t6.at_).bind _=_;rw [if_pos hq.out];rfl
   rw [hY]
   exact Rdc.ok h7.out
  ·replace hq:=hid hq
   go_wp2_with fail
   refine (expect_c wf w0 _ r c vr' vl' vh' ⟨a.2,a.1,seen s.had 9⟩ t6 ts6 [59] hs6.out (by omega) h.out).mono ?_
   rintro e w7 ⟨he,h7,hx⟩
   rw [if_neg hq.out] at he
   subst he
   replace h7:=hid h7
   clear hx
   unfold thrown
   go_wp2
   have hY:((clauseR 9 s.p s.ts).bind fun a=>(xp [59] a.2).bind fun ts=>.ok ⟨ts,a.1,seen s.had 9⟩)=(Res.no 7 t6.at_:Res St):=by
    rw [hr.out];show (xp [59] a.2).bind _=_;rw [hs6'];show (if t6.text = [59] then Res.ok ts6 else Res.no 7 t6.at_).bind _=_;rw [if_neg hq.out];rfl
   rw [hY]
   exact⟨rfl,Rdc.no h7.out.ext⟩
end Go.Proofs.YtlbodoggfbdnjaaGreatDoor
