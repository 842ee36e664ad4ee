/- Contracts that the proof of this law leans on: no statement of the seat is proved here. -/
import Derived.Test.YtlbodoggfbdnjaaGreatDoorO9
set_option linter.unusedVariables false
set_option maxRecDepth 100000
set_option maxHeartbeats 8000000
namespace Go.Proofs.YtlbodoggfbdnjaaGreatDoor
open Go.RowKit Go.Lib
theorem clause_10t (wf w0 w:World)(r c:Nat)(vr vl vh:Value)(s:St)(t:Tok)(hf:Fine s)(he0:Hid (Env w0))(h:Inn wf w0 w r c vr vl vh s)(hi:which t.text=10)(hh:s.had 10=true) :
  Calls Tryz.prog 92 #[.pointer (some ⟨r,0,none⟩),tokV t] w fun e w'=>Rdc wf w0 r c (clR t s) e w':=by
 have hX:clR t s=.no 7 t.at_:=by unfold clR;rw [hi,hh];rfl
 rw [hX]
 clear hX
 have hmf:=L7.make_func
 obtain⟨W0,b,hW,hb,hx0,b0,b1,b2⟩:=box_tok w t 59
 replace h:=hid <| h.on hx0
 have c1:=(h.out.cell 1 (.slice (some ⟨c,0,none⟩) 15 15) (fun _=>rfl)).1
 have hcl:=hid <| Cll.of h.out.cls
 replace hf:=hid hf
 clear hx0
 unfold tokV
 go_enter Tryz.func92,Tryz.ntmps92
 go_wp2_with fail
 refine (idxC_c c b s.had t.text _ hcl.out b2).mono ?_
 rintro e w1 ⟨he,hx⟩
 rw [hi] at he
 replace h:=hid <| h.out.on hx
 replace b0:=hx.cell_of b0
 replace b1:=hx.cell_of b1
 replace b2:=hx.cell_of b2
 clear hx c1 hcl hW hb
 obtain rfl:e=.returned (.int .i64 10):=he
 go_wp2_with fail
 refine (need_ok t _).mono ?_
 rintro e w2 ⟨rfl,hx⟩
 replace h:=hid <| h.out.on hx
 replace b0:=hx.cell_of b0
 replace b1:=hx.cell_of b1
 replace b2:=hx.cell_of b2
 clear hx
 have c1:=(h.out.cell 1 (.slice (some ⟨c,0,none⟩) 15 15) (fun _=>rfl)).1
 have d2:=(cell_of_row _ c 52 _ _ _ h.out.cls).trans (show _=some (.bool false) from rfl)
 have d4:=(cell_of_row _ c 54 _ _ _ h.out.cls).trans (show _=some (.bool (s.had 10)) from rfl)
 rw [hh] at d4
 clear hi hmf hh
 go_upto_region 4 with fail
 refine wp_region_tail 12 (by kernel_rfl) (by kernel_rfl) ?_
 intro w3 hx
 replace h:=hid <| h.out.on hx
 replace b0:=hx.cell_of b0
 replace b1:=hx.cell_of b1
 replace b2:=hx.cell_of b2
 replace d2:=hx.cell_of d2
 replace d4:=hx.cell_of d4
 replace c1:=hx.cell_of c1
 clear hx
 simp only [List.take_succ_cons,List.take_zero,List.drop_succ_cons,List.drop_zero]
 repeat still_step
 refine wpStill_nil ?_
 go_wp2_with fail
 refine (need_no t _).mono ?_
 rintro e w4 ⟨rfl,hx⟩
 replace h:=hid <| h.out.on hx
 clear hx b0 b1 b2 c1 d2 d4
 unfold thrown
 go_wp2
 exact⟨rfl,Rdc.no h.out.ext⟩
theorem clause_10f (wf w0 w:World)(r c:Nat)(vr vl vh:Value)(s:St)(t:Tok)(hf:Fine s)(he0:Hid (Env w0))(h:Inn wf w0 w r c vr vl vh s)(hi:which t.text=10)(hh:s.had 10=false) :
  Calls Tryz.prog 92 #[.pointer (some ⟨r,0,none⟩),tokV t] w fun e w'=>Rdc wf w0 r c (clR t s) e w':=by
 have hX:clR t s=(clauseR 10 s.p s.ts).bind fun a=>(xp [59] a.2).bind fun ts=>.ok ⟨ts,a.1,seen s.had 10⟩:=by unfold clR;rw [hi,hh];rfl
 rw [hX]
 clear hX
 have hmf:=L7.make_func
 obtain⟨W0,b,hW,hb,hx0,b0,b1,b2⟩:=box_tok w t 59
 replace h:=hid <| h.on hx0
 have c1:=(h.out.cell 1 (.slice (some ⟨c,0,none⟩) 15 15) (fun _=>rfl)).1
 have hcl:=hid <| Cll.of h.out.cls
 replace hf:=hid hf
 clear hx0
 unfold tokV
 go_enter Tryz.func92,Tryz.ntmps92
 go_wp2_with fail
 refine (idxC_c c b s.had t.text _ hcl.out b2).mono ?_
 rintro e w1 ⟨he,hx⟩
 rw [hi] at he
 replace h:=hid <| h.out.on hx
 replace b0:=hx.cell_of b0
 replace b1:=hx.cell_of b1
 replace b2:=hx.cell_of b2
 clear hx c1 hcl hW hb
 obtain rfl:e=.returned (.int .i64 10):=he
 go_wp2_with fail
 refine (need_ok t _).mono ?_
 rintro e w2 ⟨rfl,hx⟩
 replace h:=hid <| h.out.on hx
 replace b0:=hx.cell_of b0
 replace b1:=hx.cell_of b1
 replace b2:=hx.cell_of b2
 clear hx
 have c1:=(h.out.cell 1 (.slice (some ⟨c,0,none⟩) 15 15) (fun _=>rfl)).1
 have d2:=(cell_of_row _ c 52 _ _ _ h.out.cls).trans (show _=some (.bool false) from rfl)
 have d4:=(cell_of_row _ c 54 _ _ _ h.out.cls).trans (show _=some (.bool (s.had 10)) from rfl)
 rw [hh] at d4
 clear hi hmf hh
 go_upto_region 4 with fail
 refine wp_region_tail 12 (by kernel_rfl) (by kernel_rfl) ?_
 intro w3 hx
 replace h:=hid <| h.out.on hx
 replace b0:=hx.cell_of b0
 replace b1:=hx.cell_of b1
 replace b2:=hx.cell_of b2
 replace d2:=hx.cell_of d2
 replace d4:=hx.cell_of d4
 replace c1:=hx.cell_of c1
 clear hx
 simp only [List.take_succ_cons,List.take_zero,List.drop_succ_cons,List.drop_zero]
 repeat still_step
 refine wpStill_nil ?_
 go_wp2_with fail
 refine (need_ok t _).mono ?_
 rintro e w4 ⟨rfl,hx⟩
 replace h:=hid <| h.out.on hx
 clear hx b0 b1 b2 c1 d2 d4
 have d3:=(cell_of_row _ c 53 _ _ _ h.out.cls).trans (show _=some (.func (.func 84) #[.pointer (some ⟨r,0,none⟩)] #[]) from rfl)
 have d4:=(cell_of_row _ c 54 _ _ _ h.out.cls).trans (show _=some (.bool (s.had 10)) from rfl)
 have z4:=frozen_of_row _ c 54 _ _ h.out.cls
 replace h:=show Hid (Inn wf w0 (w4.setCell ⟨c,54,none⟩ (.bool true)) r c vr vl vh { s with had:=seen s.had 10 }) from h.out.tell 10 (by omega)
 have hf2:Hid (Fine { s with had:=seen s.had 10 }):=⟨hf.out.fin,hf.out.len,hf.out.few⟩
 go_wp2_with fail
 obtain⟨t1,ts1,hs1,ht1,hl1⟩:=(show Fine { s with had:=seen s.had 10 } from hf2.out).cons
 refine (cap_r wf w0 _ r c vr vl vh { s with had:=seen s.had 10 } t1 ts1 hs1 (by omega) ht1 he0 h.out).mono ?_
 rintro e w5 hR
 clear h d3 d4 z4
 cases hr:clauseR 10 s.p s.ts with
 | no x y =>
  have hR2:Ext w0 w5∧e=thrown x y:=by have:=hR;unfold Rds at this;rw [show clauseR 10 ({ s with had:=seen s.had 10 }:St).p ({ s with had:=seen s.had 10 }:St).ts=.no x y from hr] at this;exact this
  obtain⟨hx,rfl⟩:=hR2
  replace hr:=hid hr
  replace hx:=hid hx
  clear hR
  unfold thrown
  go_wp2
  rw [hr.out]
  exact⟨rfl,Rdc.no hx.out⟩
 | ok a =>
  have hR2:Ext w0 w5∧e=.returned (.tuple #[])∧∃ vr vl vh,Inn wf w0 w5 r c vr vl vh ⟨a.2,a.1,seen s.had 10⟩:=by have:=hR;unfold Rds at this;rw [show clauseR 10 ({ s with had:=seen s.had 10 }:St).p ({ s with had:=seen s.had 10 }:St).ts=.ok a from hr] at this;exact this
  obtain⟨_,rfl,vr',vl',vh',h⟩:=hR2
  obtain⟨t6,ts6,hs6,ht6,hl6⟩:=(reads_fine hf.out hr (seen s.had 10)).1.cons
  have hs6':a.2=t6::ts6:=hs6
  replace hr:=hid hr
  replace h:=hid h
  replace hs6:=hid hs6
  clear hR
  by_cases hq:t6.text = [59]
  ·replace hq:=hid hq
   go_wp2_with fail
   refine (expect_c wf w0 _ r c vr' vl' vh' ⟨a.2,a.1,seen s.had 10⟩ t6 ts6 [59] hs6.out (by omega) h.out).mono ?_
   rintro e w7 ⟨he,h7,hx⟩
   rw [if_pos hq.out] at he
   subst he
   replace h7:=hid h7
   clear hx
   go_wp2
   go_end0
   have hY:((clauseR 10 s.p s.ts).bind fun a=>(xp [59] a.2).bind fun ts=>.ok ⟨ts,a.1,seen s.had 10⟩)=Res.ok (⟨ts6,a.1,seen s.had 10⟩:St):=by
    rw [hr.out];show (xp [59] a.2).bind _=_;rw [hs6'];show (if t6.text = [59] then Res.ok ts6 else Res.no 7 t6.at_).bind _=_;rw [if_pos hq.out];rfl
   rw [hY]
   exact Rdc.ok h7.out
  ·replace hq:=hid hq
   go_wp2_with fail
   refine (expect_c wf w0 _ r c vr' vl' vh' ⟨a.2,a.1,seen s.had 10⟩ t6 ts6 [59] hs6.out (by omega) h.out).mono ?_
   rintro e w7 ⟨he,h7,hx⟩
   rw [if_neg hq.out] at he
   subst he
   replace h7:=hid h7
   clear hx
   unfold thrown
   go_wp2
   have hY:((clauseR 10 s.p s.ts).bind fun a=>(xp [59] a.2).bind fun ts=>.ok ⟨ts,a.1,seen s.had 10⟩)=(Res.no 7 t6.at_:Res St):=by
    rw [hr.out];show (xp [59] a.2).bind _=_;rw [hs6'];show (if t6.text = [59] then Res.ok ts6 else Res.no 7 t6.at_).bind _=_;rw [if_neg hq.out];rfl
   rw [hY]
   exact⟨rfl,Rdc.no h7.out.ext⟩
theorem clause_11f (wf w0 w:World)(r c:Nat)(vr vl vh:Value)(s:St)(t:Tok)(hf:Fine s)(he0:Hid (Env w0))(h:Inn wf w0 w r c vr vl vh s)(hi:which t.text=11) :
  Calls Tryz.prog 92 #[.pointer (some ⟨r,0,none⟩),tokV t] w fun e w'=>Rdc wf w0 r c (clR t s) e w':=by
 have hX:clR t s=(clauseR 11 s.p s.ts).bind fun a=>(xp [59] a.2).bind fun ts=>.ok ⟨ts,a.1,seen s.had 11⟩:=by unfold clR;rw [hi];rfl
 rw [hX]
 clear hX
 have hmf:=L7.make_func
 obtain⟨W0,b,hW,hb,hx0,b0,b1,b2⟩:=box_tok w t 59
 replace h:=hid <| h.on hx0
 have c1:=(h.out.cell 1 (.slice (some ⟨c,0,none⟩) 15 15) (fun _=>rfl)).1
 have hcl:=hid <| Cll.of h.out.cls
 replace hf:=hid hf
 clear hx0
 unfold tokV
 go_enter Tryz.func92,Tryz.ntmps92
 go_wp2_with fail
 refine (idxC_c c b s.had t.text _ hcl.out b2).mono ?_
 rintro e w1 ⟨he,hx⟩
 rw [hi] at he
 replace h:=hid <| h.out.on hx
 replace b0:=hx.cell_of b0
 replace b1:=hx.cell_of b1
 replace b2:=hx.cell_of b2
 clear hx c1 hcl hW hb
 obtain rfl:e=.returned (.int .i64 11):=he
 go_wp2_with fail
 refine (need_ok t _).mono ?_
 rintro e w2 ⟨rfl,hx⟩
 replace h:=hid <| h.out.on hx
 replace b0:=hx.cell_of b0
 replace b1:=hx.cell_of b1
 replace b2:=hx.cell_of b2
 clear hx
 have c1:=(h.out.cell 1 (.slice (some ⟨c,0,none⟩) 15 15) (fun _=>rfl)).1
 have d2:=(cell_of_row _ c 57 _ _ _ h.out.cls).trans (show _=some (.bool true) from rfl)
 have d4:=(cell_of_row _ c 59 _ _ _ h.out.cls).trans (show _=some (.bool (s.had 11)) from rfl)
 skip
 clear hi hmf
 go_upto_region 4 with fail
 refine wp_region_tail 12 (by kernel_rfl) (by kernel_rfl) ?_
 intro w3 hx
 replace h:=hid <| h.out.on hx
 replace b0:=hx.cell_of b0
 replace b1:=hx.cell_of b1
 replace b2:=hx.cell_of b2
 replace d2:=hx.cell_of d2
 replace d4:=hx.cell_of d4
 replace c1:=hx.cell_of c1
 clear hx
 simp only [List.take_succ_cons,List.take_zero,List.drop_succ_cons,List.drop_zero]
 repeat still_step
 refine wpStill_nil ?_
 go_wp2_with fail
 refine (need_ok t _).mono ?_
 rintro e w4 ⟨rfl,hx⟩
 replace h:=hid <| h.out.on hx
 clear hx b0 b1 b2 c1 d2 d4
 have d3:=(cell_of_row _ c 58 _ _ _ h.out.cls).trans (show _=some (.func (.func 85) #[.pointer (some ⟨r,0,none⟩)] #[]) from rfl)
 have d4:=(cell_of_row _ c 59 _ _ _ h.out.cls).trans (show _=some (.bool (s.had 11)) from rfl)
 have z4:=frozen_of_row _ c 59 _ _ h.out.cls
 replace h:=show Hid (Inn wf w0 (w4.setCell ⟨c,59,none⟩ (.bool true)) r c vr vl vh { s with had:=seen s.had 11 }) from h.out.tell 11 (by omega)
 have hf2:Hid (Fine { s with had:=seen s.had 11 }):=⟨hf.out.fin,hf.out.len,hf.out.few⟩
 go_wp2_with fail
 obtain⟨t1,ts1,hs1,ht1,hl1⟩:=(show Fine { s with had:=seen s.had 11 } from hf2.out).cons
 have hfew:=(show Fine { s with had:=seen s.had 11 } from hf2.out).few
 refine (holiday_c wf w0 _ r c vr vl vh { s with had:=seen s.had 11 } t1 ts1 hs1 (by omega) ht1 (by omega) he0 h.out).mono ?_
 rintro e w5 hR
 clear h d3 d4 z4
 cases hr:clauseR 11 s.p s.ts with
 | no x y =>
  have hR2:Ext w0 w5∧e=thrown x y:=by have:=hR;unfold Rds at this;rw [show clauseR 11 ({ s with had:=seen s.had 11 }:St).p ({ s with had:=seen s.had 11 }:St).ts=.no x y from hr] at this;exact this
  obtain⟨hx,rfl⟩:=hR2
  replace hr:=hid hr
  replace hx:=hid hx
  clear hR
  unfold thrown
  go_wp2
  rw [hr.out]
  exact⟨rfl,Rdc.no hx.out⟩
 | ok a =>
  have hR2:Ext w0 w5∧e=.returned (.tuple #[])∧∃ vr vl vh,Inn wf w0 w5 r c vr vl vh ⟨a.2,a.1,seen s.had 11⟩:=by have:=hR;unfold Rds at this;rw [show clauseR 11 ({ s with had:=seen s.had 11 }:St).p ({ s with had:=seen s.had 11 }:St).ts=.ok a from hr] at this;exact this
  obtain⟨_,rfl,vr',vl',vh',h⟩:=hR2
  obtain⟨t6,ts6,hs6,ht6,hl6⟩:=(reads_fine hf.out hr (seen s.had 11)).1.cons
  have hs6':a.2=t6::ts6:=hs6
  replace hr:=hid hr
  replace h:=hid h
  replace hs6:=hid hs6
  clear hR
  by_cases hq:t6.text = [59]
  ·replace hq:=hid hq
   go_wp2_with fail
   refine (expect_c wf w0 _ r c vr' vl' vh' ⟨a.2,a.1,seen s.had 11⟩ t6 ts6 [59] hs6.out (by omega) h.out).mono ?_
   rintro e w7 ⟨he,h7,hx⟩
   rw [if_pos hq.out] at he
   subst he
   replace h7:=hid h7
   clear hx
   go_wp2
   go_end0
   have hY:((clauseR 11 s.p s.ts).bind fun a=>(xp [59] a.2).bind fun ts=>.ok ⟨ts,a.1,seen s.had 11⟩)=Res.ok (⟨ts6,a.1,seen s.had 11⟩:St):=by
    rw [hr.out];show (xp [59] a.2).bind _=_;rw [hs6'];show (if t6.text = [59] then Res.ok ts6 else Res.no 7 t6.at_).bind _=_;rw [if_pos hq.out];rfl
   rw [hY]
   exact Rdc.ok h7.out
  ·replace hq:=hid hq
   go_wp2_with fail
   refine (expect_c wf w0 _ r c vr' vl' vh' ⟨a.2,a.1,seen s.had 11⟩ t6 ts6 [59] hs6.out (by omega) h.out).mono ?_
   rintro e w7 ⟨he,h7,hx⟩
   rw [if_neg hq.out] at he
   subst he
   replace h7:=hid h7
   clear hx
   unfold thrown
   go_wp2
   have hY:((clauseR 11 s.p s.ts).bind fun a=>(xp [59] a.2).bind fun ts=>.ok ⟨ts,a.1,seen s.had 11⟩)=(Res.no 7 t6.at_:Res St):=by
    rw [hr.out];show (xp [59] a.2).bind _=_;rw [hs6'];show (if t6.text = [59] then Res.ok ts6 else Res.no 7 t6.at_).bind _=_;rw [if_neg hq.out];rfl
   rw [hY]
   exact⟨rfl,Rdc.no h7.out.ext⟩
theorem clause_12t (wf w0 w:World)(r c:Nat)(vr vl vh:Value)(s:St)(t:Tok)(hf:Fine s)(he0:Hid (Env w0))(h:Inn wf w0 w r c vr vl vh s)(hi:which t.text=12)(hh:s.had 12=true) :
  Calls Tryz.prog 92 #[.pointer (some ⟨r,0,none⟩),tokV t] w fun e w'=>Rdc wf w0 r c (clR t s) e w':=by
 have hX:clR t s=.no 7 t.at_:=by unfold clR;rw [hi,hh];rfl
 rw [hX]
 clear hX
 have hmf:=L7.make_func
 obtain⟨W0,b,hW,hb,hx0,b0,b1,b2⟩:=box_tok w t 59
 replace h:=hid <| h.on hx0
 have c1:=(h.out.cell 1 (.slice (some ⟨c,0,none⟩) 15 15) (fun _=>rfl)).1
 have hcl:=hid <| Cll.of h.out.cls
 replace hf:=hid hf
 clear hx0
 unfold tokV
 go_enter Tryz.func92,Tryz.ntmps92
 go_wp2_with fail
 refine (idxC_c c b s.had t.text _ hcl.out b2).mono ?_
 rintro e w1 ⟨he,hx⟩
 rw [hi] at he
 replace h:=hid <| h.out.on hx
 replace b0:=hx.cell_of b0
 replace b1:=hx.cell_of b1
 replace b2:=hx.cell_of b2
 clear hx c1 hcl hW hb
 obtain rfl:e=.returned (.int .i64 12):=he
 go_wp2_with fail
 refine (need_ok t _).mono ?_
 rintro e w2 ⟨rfl,hx⟩
 replace h:=hid <| h.out.on hx
 replace b0:=hx.cell_of b0
 replace b1:=hx.cell_of b1
 replace b2:=hx.cell_of b2
 clear hx
 have c1:=(h.out.cell 1 (.slice (some ⟨c,0,none⟩) 15 15) (fun _=>rfl)).1
 have d2:=(cell_of_row _ c 62 _ _ _ h.out.cls).trans (show _=some (.bool false) from rfl)
 have d4:=(cell_of_row _ c 64 _ _ _ h.out.cls).trans (show _=some (.bool (s.had 12)) from rfl)
 rw [hh] at d4
 clear hi hmf hh
 go_upto_region 4 with fail
 refine wp_region_tail 12 (by kernel_rfl) (by kernel_rfl) ?_
 intro w3 hx
 replace h:=hid <| h.out.on hx
 replace b0:=hx.cell_of b0
 replace b1:=hx.cell_of b1
 replace b2:=hx.cell_of b2
 replace d2:=hx.cell_of d2
 replace d4:=hx.cell_of d4
 replace c1:=hx.cell_of c1
 clear hx
 simp only [List.take_succ_cons,List.take_zero,List.drop_succ_cons,List.drop_zero]
 repeat still_step
 refine wpStill_nil ?_
 go_wp2_with fail
 refine (need_no t _).mono ?_
 rintro e w4 ⟨rfl,hx⟩
 replace h:=hid <| h.out.on hx
 clear hx b0 b1 b2 c1 d2 d4
 unfold thrown
 go_wp2
 exact⟨rfl,Rdc.no h.out.ext⟩
theorem clause_12f (wf w0 w:World)(r c:Nat)(vr vl vh:Value)(s:St)(t:Tok)(hf:Fine s)(he0:Hid (Env w0))(h:Inn wf w0 w r c vr vl vh s)(hi:which t.text=12)(hh:s.had 12=false) :
  Calls Tryz.prog 92 #[.pointer (some ⟨r,0,none⟩),tokV t] w fun e w'=>Rdc wf w0 r c (clR t s) e w':=by
 have hX:clR t s=(clauseR 12 s.p s.ts).bind fun a=>(xp [59] a.2).bind fun ts=>.ok ⟨ts,a.1,seen s.had 12⟩:=by unfold clR;rw [hi,hh];rfl
 rw [hX]
 clear hX
 have hmf:=L7.make_func
 obtain⟨W0,b,hW,hb,hx0,b0,b1,b2⟩:=box_tok w t 59
 replace h:=hid <| h.on hx0
 have c1:=(h.out.cell 1 (.slice (some ⟨c,0,none⟩) 15 15) (fun _=>rfl)).1
 have hcl:=hid <| Cll.of h.out.cls
 replace hf:=hid hf
 clear hx0
 unfold tokV
 go_enter Tryz.func92,Tryz.ntmps92
 go_wp2_with fail
 refine (idxC_c c b s.had t.text _ hcl.out b2).mono ?_
 rintro e w1 ⟨he,hx⟩
 rw [hi] at he
 replace h:=hid <| h.out.on hx
 replace b0:=hx.cell_of b0
 replace b1:=hx.cell_of b1
 replace b2:=hx.cell_of b2
 clear hx c1 hcl hW hb
 obtain rfl:e=.returned (.int .i64 12):=he
 go_wp2_with fail
 refine (need_ok t _).mono ?_
 rintro e w2 ⟨rfl,hx⟩
 replace h:=hid <| h.out.on hx
 replace b0:=hx.cell_of b0
 replace b1:=hx.cell_of b1
 replace b2:=hx.cell_of b2
 clear hx
 have c1:=(h.out.cell 1 (.slice (some ⟨c,0,none⟩) 15 15) (fun _=>rfl)).1
 have d2:=(cell_of_row _ c 62 _ _ _ h.out.cls).trans (show _=some (.bool false) from rfl)
 have d4:=(cell_of_row _ c 64 _ _ _ h.out.cls).trans (show _=some (.bool (s.had 12)) from rfl)
 rw [hh] at d4
 clear hi hmf hh
 go_upto_region 4 with fail
 refine wp_region_tail 12 (by kernel_rfl) (by kernel_rfl) ?_
 intro w3 hx
 replace h:=hid <| h.out.on hx
 replace b0:=hx.cell_of b0
 replace b1:=hx.cell_of b1
 replace b2:=hx.cell_of b2
 replace d2:=hx.cell_of d2
 replace d4:=hx.cell_of d4
 replace c1:=hx.cell_of c1
 clear hx
 simp only [List.take_succ_cons,List.take_zero,List.drop_succ_cons,List.drop_zero]
 repeat still_step
 refine wpStill_nil ?_
 go_wp2_with fail
 refine (need_ok t _).mono ?_
 rintro e w4 ⟨rfl,hx⟩
 replace h:=hid <| h.out.on hx
 clear hx b0 b1 b2 c1 d2 d4
 have d3:=(cell_of_row _ c 63 _ _ _ h.out.cls).trans (show _=some (.func (.func 86) #[.pointer (some ⟨r,0,none⟩)] #[]) from rfl)
 have d4:=(cell_of_row _ c 64 _ _ _ h.out.cls).trans (show _=some (.bool (s.had 12)) from rfl)
 have z4:=frozen_of_row _ c 64 _ _ h.out.cls
 replace h:=show Hid (Inn wf w0 (w4.setCell ⟨c,64,none⟩ (.bool true)) r c vr vl vh { s with had:=seen s.had 12 }) from h.out.tell 12 (by omega)
 have hf2:Hid (Fine { s with had:=seen s.had 12 }):=⟨hf.out.fin,hf.out.len,hf.out.few⟩
 go_wp2_with fail
 refine (order_c wf w0 _ r c vr vl vh { s with had:=seen s.had 12 } hf2.out h.out).mono ?_
 rintro e w5 hR
 clear h d3 d4 z4
 cases hr:clauseR 12 s.p s.ts with
 | no x y =>
  have hR2:Ext w0 w5∧e=thrown x y:=by have:=hR;unfold Rds at this;rw [show clauseR 12 ({ s with had:=seen s.had 12 }:St).p ({ s with had:=seen s.had 12 }:St).ts=.no x y from hr] at this;exact this
  obtain⟨hx,rfl⟩:=hR2
  replace hr:=hid hr
  replace hx:=hid hx
  clear hR
  unfold thrown
  go_wp2
  rw [hr.out]
  exact⟨rfl,Rdc.no hx.out⟩
 | ok a =>
  have hR2:Ext w0 w5∧e=.returned (.tuple #[])∧∃ vr vl vh,Inn wf w0 w5 r c vr vl vh ⟨a.2,a.1,seen s.had 12⟩:=by have:=hR;unfold Rds at this;rw [show clauseR 12 ({ s with had:=seen s.had 12 }:St).p ({ s with had:=seen s.had 12 }:St).ts=.ok a from hr] at this;exact this
  obtain⟨_,rfl,vr',vl',vh',h⟩:=hR2
  obtain⟨t6,ts6,hs6,ht6,hl6⟩:=(reads_fine hf.out hr (seen s.had 12)).1.cons
  have hs6':a.2=t6::ts6:=hs6
  replace hr:=hid hr
  replace h:=hid h
  replace hs6:=hid hs6
  clear hR
  by_cases hq:t6.text = [59]
  ·replace hq:=hid hq
   go_wp2_with fail
   refine (expect_c wf w0 _ r c vr' vl' vh' ⟨a.2,a.1,seen s.had 12⟩ t6 ts6 [59] hs6.out (by omega) h.out).mono ?_
   rintro e w7 ⟨he,h7,hx⟩
   rw [if_pos hq.out] at he
   subst he
   replace h7:=hid h7
   clear hx
   go_wp2
   go_end0
   have hY:((clauseR 12 s.p s.ts).bind fun a=>(xp [59] a.2).bind fun ts=>.ok ⟨ts,a.1,seen s.had 12⟩)=Res.ok (⟨ts6,a.1,seen s.had 12⟩:St):=by
    rw [hr.out];show (xp [59] a.2).bind _=_;rw [hs6'];show (if t6.text = [59] then Res.ok ts6 else Res.no 7 t6.at_).bind _=_;rw [if_pos hq.out];rfl
   rw [hY]
   exact Rdc.ok h7.out
  ·replace hq:=hid hq
   go_wp2_with fail
   refine (expect_c wf w0 _ r c vr' vl' vh' ⟨a.2,a.1,seen s.had 12⟩ t6 ts6 [59] hs6.out (by omega) h.out).mono ?_
   rintro e w7 ⟨he,h7,hx⟩
   rw [if_neg hq.out] at he
   subst he
   replace h7:=hid h7
   clear hx
   unfold thrown
   go_wp2
   have hY:((clauseR 12 s.p s.ts).bind fun a=>(xp [59] a.2).bind fun ts=>.ok ⟨ts,a.1,seen s.had 12⟩)=(Res.no 7 t6.at_:Res St):=by
    rw [hr.out];show (xp [59] a.2).bind _=_;rw [hs6'];show (if t6.text = [59] then Res.ok ts6 else Res.no 7 t6.at_).bind _=_;rw [if_neg hq.out];rfl
   rw [hY]
   exact⟨rfl,Rdc.no h7.out.ext⟩
theorem clause_13t (wf w0 w:World)(r c:Nat)(vr vl vh:Value)(s:St)(t:Tok)(hf:Fine s)(he0:Hid (Env w0))(h:Inn wf w0 w r c vr vl vh s)(hi:which t.text=13)(hh:s.had 13=true) :
  Calls Tryz.prog 92 #[.pointer (some ⟨r,0,none⟩),tokV t] w fun e w'=>Rdc wf w0 r c (clR t s) e w':=by
 have hX:clR t s=.no 7 t.at_:=by unfold clR;rw [hi,hh];rfl
 rw [hX]
 clear hX
 have hmf:=L7.make_func
 obtain⟨W0,b,hW,hb,hx0,b0,b1,b2⟩:=box_tok w t 59
 replace h:=hid <| h.on hx0
 have c1:=(h.out.cell 1 (.slice (some ⟨c,0,none⟩) 15 15) (fun _=>rfl)).1
 have hcl:=hid <| Cll.of h.out.cls
 replace hf:=hid hf
 clear hx0
 unfold tokV
 go_enter Tryz.func92,Tryz.ntmps92
 go_wp2_with fail
 refine (idxC_c c b s.had t.text _ hcl.out b2).mono ?_
 rintro e w1 ⟨he,hx⟩
 rw [hi] at he
 replace h:=hid <| h.out.on hx
 replace b0:=hx.cell_of b0
 replace b1:=hx.cell_of b1
 replace b2:=hx.cell_of b2
 clear hx c1 hcl hW hb
 obtain rfl:e=.returned (.int .i64 13):=he
 go_wp2_with fail
 refine (need_ok t _).mono ?_
 rintro e w2 ⟨rfl,hx⟩
 replace h:=hid <| h.out.on hx
 replace b0:=hx.cell_of b0
 replace b1:=hx.cell_of b1
 replace b2:=hx.cell_of b2
 clear hx
 have c1:=(h.out.cell 1 (.slice (some ⟨c,0,none⟩) 15 15) (fun _=>rfl)).1
 have d2:=(cell_of_row _ c 67 _ _ _ h.out.cls).trans (show _=some (.bool false) from rfl)
 have d4:=(cell_of_row _ c 69 _ _ _ h.out.cls).trans (show _=some (.bool (s.had 13)) from rfl)
 rw [hh] at d4
 clear hi hmf hh
 go_upto_region 4 with fail
 refine wp_region_tail 12 (by kernel_rfl) (by kernel_rfl) ?_
 intro w3 hx
 replace h:=hid <| h.out.on hx
 replace b0:=hx.cell_of b0
 replace b1:=hx.cell_of b1
 replace b2:=hx.cell_of b2
 replace d2:=hx.cell_of d2
 replace d4:=hx.cell_of d4
 replace c1:=hx.cell_of c1
 clear hx
 simp only [List.take_succ_cons,List.take_zero,List.drop_succ_cons,List.drop_zero]
 repeat still_step
 refine wpStill_nil ?_
 go_wp2_with fail
 refine (need_no t _).mono ?_
 rintro e w4 ⟨rfl,hx⟩
 replace h:=hid <| h.out.on hx
 clear hx b0 b1 b2 c1 d2 d4
 unfold thrown
 go_wp2
 exact⟨rfl,Rdc.no h.out.ext⟩
theorem clause_13f (wf w0 w:World)(r c:Nat)(vr vl vh:Value)(s:St)(t:Tok)(hf:Fine s)(he0:Hid (Env w0))(h:Inn wf w0 w r c vr vl vh s)(hi:which t.text=13)(hh:s.had 13=false) :
  Calls Tryz.prog 92 #[.pointer (some ⟨r,0,none⟩),tokV t] w fun e w'=>Rdc wf w0 r c (clR t s) e w':=by
 have hX:clR t s=(clauseR 13 s.p s.ts).bind fun a=>(xp [59] a.2).bind fun ts=>.ok ⟨ts,a.1,seen s.had 13⟩:=by unfold clR;rw [hi,hh];rfl
 rw [hX]
 clear hX
 have hmf:=L7.make_func
 obtain⟨W0,b,hW,hb,hx0,b0,b1,b2⟩:=box_tok w t 59
 replace h:=hid <| h.on hx0
 have c1:=(h.out.cell 1 (.slice (some ⟨c,0,none⟩) 15 15) (fun _=>rfl)).1
 have hcl:=hid <| Cll.of h.out.cls
 replace hf:=hid hf
 clear hx0
 unfold tokV
 go_enter Tryz.func92,Tryz.ntmps92
 go_wp2_with fail
 refine (idxC_c c b s.had t.text _ hcl.out b2).mono ?_
 rintro e w1 ⟨he,hx⟩
 rw [hi] at he
 replace h:=hid <| h.out.on hx
 replace b0:=hx.cell_of b0
 replace b1:=hx.cell_of b1
 replace b2:=hx.cell_of b2
 clear hx c1 hcl hW hb
 obtain rfl:e=.returned (.int .i64 13):=he
 go_wp2_with fail
 refine (need_ok t _).mono ?_
 rintro e w2 ⟨rfl,hx⟩
 replace h:=hid <| h.out.on hx
 replace b0:=hx.cell_of b0
 replace b1:=hx.cell_of b1
 replace b2:=hx.cell_of b2
 clear hx
 have c1:=(h.out.cell 1 (.slice (some ⟨c,0,none⟩) 15 15) (fun _=>rfl)).1
 have d2:=(cell_of_row _ c 67 _ _ _ h.out.cls).trans (show _=some (.bool false) from rfl)
 have d4:=(cell_of_row _ c 69 _ _ _ h.out.cls).trans (show _=some (.bool (s.had 13)) from rfl)
 rw [hh] at d4
 clear hi hmf hh
 go_upto_region 4 with fail
 refine wp_region_tail 12 (by kernel_rfl) (by kernel_rfl) ?_
 intro w3 hx
 replace h:=hid <| h.out.on hx
 replace b0:=hx.cell_of b0
 replace b1:=hx.cell_of b1
 replace b2:=hx.cell_of b2
 replace d2:=hx.cell_of d2
 replace d4:=hx.cell_of d4
 replace c1:=hx.cell_of c1
 clear hx
 simp only [List.take_succ_cons,List.take_zero,List.drop_succ_cons,List.drop_zero]
 repeat still_step
 refine wpStill_nil ?_
 go_wp2_with fail
 refine (need_ok t _).mono ?_
 rintro e w4 ⟨rfl,hx⟩
 replace h:=hid <| h.out.on hx
 clear hx b0 b1 b2 c1 d2 d4
 have d3:=(cell_of_row _ c 68 _ _ _ h.out.cls).trans (show _=some (.func (.func 87) #[.pointer (some ⟨r,0,none⟩)] #[]) from rfl)
 have d4:=(cell_of_row _ c 69 _ _ _ h.out.cls).trans (show _=some (.bool (s.had 13)) from rfl)
 have z4:=frozen_of_row _ c 69 _ _ h.out.cls
 replace h:=show Hid (Inn wf w0 (w4.setCell ⟨c,69,none⟩ (.bool true)) r c vr vl vh { s with had:=seen s.had 13 }) from h.out.tell 13 (by omega)
 have hf2:Hid (Fine { s with had:=seen s.had 13 }):=⟨hf.out.fin,hf.out.len,hf.out.few⟩
 go_wp2_with fail
 obtain⟨t1,ts1,hs1,ht1,hl1⟩:=(show Fine { s with had:=seen s.had 13 } from hf2.out).cons
 refine (over_c wf w0 _ r c vr vl vh { s with had:=seen s.had 13 } t1 ts1 hs1 (by omega) h.out).mono ?_
 rintro e w5 hR
 clear h d3 d4 z4
 cases hr:clauseR 13 s.p s.ts with
 | no x y =>
  have hR2:Ext w0 w5∧e=thrown x y:=by have:=hR;unfold Rds at this;rw [show clauseR 13 ({ s with had:=seen s.had 13 }:St).p ({ s with had:=seen s.had 13 }:St).ts=.no x y from hr] at this;exact this
  obtain⟨hx,rfl⟩:=hR2
  replace hr:=hid hr
  replace hx:=hid hx
  clear hR
  unfold thrown
  go_wp2
  rw [hr.out]
  exact⟨rfl,Rdc.no hx.out⟩
 | ok a =>
  have hR2:Ext w0 w5∧e=.returned (.tuple #[])∧∃ vr vl vh,Inn wf w0 w5 r c vr vl vh ⟨a.2,a.1,seen s.had 13⟩:=by have:=hR;unfold Rds at this;rw [show clauseR 13 ({ s with had:=seen s.had 13 }:St).p ({ s with had:=seen s.had 13 }:St).ts=.ok a from hr] at this;exact this
  obtain⟨_,rfl,vr',vl',vh',h⟩:=hR2
  obtain⟨t6,ts6,hs6,ht6,hl6⟩:=(reads_fine hf.out hr (seen s.had 13)).1.cons
  have hs6':a.2=t6::ts6:=hs6
  replace hr:=hid hr
  replace h:=hid h
  replace hs6:=hid hs6
  clear hR
  by_cases hq:t6.text = [59]
  ·replace hq:=hid hq
   go_wp2_with fail
   refine (expect_c wf w0 _ r c vr' vl' vh' ⟨a.2,a.1,seen s.had 13⟩ t6 ts6 [59] hs6.out (by omega) h.out).mono ?_
   rintro e w7 ⟨he,h7,hx⟩
   rw [if_pos hq.out] at he
   subst he
   replace h7:=hid h7
   clear hx
   go_wp2
   go_end0
   have hY:((clauseR 13 s.p s.ts).bind fun a=>(xp [59] a.2).bind fun ts=>.ok ⟨ts,a.1,seen s.had 13⟩)=Res.ok (⟨ts6,a.1,seen s.had 13⟩:St):=by
    rw [hr.out];show (xp [59] a.2).bind _=_;rw [hs6'];show (if t6.text = [59] then Res.ok ts6 else Res.no 7 t6.at_).bind _=_;rw [if_pos hq.out];rfl
   rw [hY]
   exact Rdc.ok h7.out
  ·replace hq:=hid hq
   go_wp2_with fail
   refine (expect_c wf w0 _ r c vr' vl' vh' ⟨a.2,a.1,seen s.had 13⟩ t6 ts6 [59] hs6.out (by omega) h.out).mono ?_
   rintro e w7 ⟨he,h7,hx⟩
   rw [if_neg hq.out] at he
   subst he
   replace h7:=hid h7
   clear hx
   unfold thrown
   go_wp2
   have hY:((clauseR 13 s.p s.ts).bind fun a=>(xp [59] a.2).bind fun ts=>.ok ⟨ts,a.1,seen s.had 13⟩)=(Res.no 7 t6.at_:Res St):=by
    rw [hr.out];show (xp [59] a.2).bind _=_;rw [hs6'];show (if t6.text = [59] then Res.ok ts6 else Res.no 7 t6.at_).bind _=_;rw [if_neg hq.out];rfl
   rw [hY]
   exact⟨rfl,Rdc.no h7.out.ext⟩
theorem clause_14t (wf w0 w:World)(r c:Nat)(vr vl vh:Value)(s:St)(t:Tok)(hf:Fine s)(he0:Hid (Env w0))(h:Inn wf w0 w r c vr vl vh s)(hi:which t.text=14)(hh:s.had 14=true) :
  Calls Tryz.prog 92 #[.pointer (some ⟨r,0,none⟩),tokV t] w fun e w'=>Rdc wf w0 r c (clR t s) e w':=by
 have hX:clR t s=.no 7 t.at_:=by unfold clR;rw [hi,hh];rfl
 rw [hX]
 clear hX
 have hmf:=L7.make_func
 obtain⟨W0,b,hW,hb,hx0,b0,b1,b2⟩:=box_tok w t 59
 replace h:=hid <| h.on hx0
 have c1:=(h.out.cell 1 (.slice (some ⟨c,0,none⟩) 15 15) (fun _=>rfl)).1
 have hcl:=hid <| Cll.of h.out.cls
 replace hf:=hid hf
 clear hx0
 unfold tokV
 go_enter Tryz.func92,Tryz.ntmps92
 go_wp2_with fail
 refine (idxC_c c b s.had t.text _ hcl.out b2).mono ?_
 rintro e w1 ⟨he,hx⟩
 rw [hi] at he
 replace h:=hid <| h.out.on hx
 replace b0:=hx.cell_of b0
 replace b1:=hx.cell_of b1
 replace b2:=hx.cell_of b2
 clear hx c1 hcl hW hb
 obtain rfl:e=.returned (.int .i64 14):=he
 go_wp2_with fail
 refine (need_ok t _).mono ?_
 rintro e w2 ⟨rfl,hx⟩
 replace h:=hid <| h.out.on hx
 replace b0:=hx.cell_of b0
 replace b1:=hx.cell_of b1
 replace b2:=hx.cell_of b2
 clear hx
 have c1:=(h.out.cell 1 (.slice (some ⟨c,0,none⟩) 15 15) (fun _=>rfl)).1
 have d2:=(cell_of_row _ c 72 _ _ _ h.out.cls).trans (show _=some (.bool false) from rfl)
 have d4:=(cell_of_row _ c 74 _ _ _ h.out.cls).trans (show _=some (.bool (s.had 14)) from rfl)
 rw [hh] at d4
 clear hi hmf hh
 go_upto_region 4 with fail
 refine wp_region_tail 12 (by kernel_rfl) (by kernel_rfl) ?_
 intro w3 hx
 replace h:=hid <| h.out.on hx
 replace b0:=hx.cell_of b0
 replace b1:=hx.cell_of b1
 replace b2:=hx.cell_of b2
 replace d2:=hx.cell_of d2
 replace d4:=hx.cell_of d4
 replace c1:=hx.cell_of c1
 clear hx
 simp only [List.take_succ_cons,List.take_zero,List.drop_succ_cons,List.drop_zero]
 repeat still_step
 refine wpStill_nil ?_
 go_wp2_with fail
 refine (need_no t _).mono ?_
 rintro e w4 ⟨rfl,hx⟩
 replace h:=hid <| h.out.on hx
 clear hx b0 b1 b2 c1 d2 d4
 unfold thrown
 go_wp2
 exact⟨rfl,Rdc.no h.out.ext⟩
theorem clause_14f (wf w0 w:World)(r c:Nat)(vr vl vh:Value)(s:St)(t:Tok)(hf:Fine s)(he0:Hid (Env w0))(h:Inn wf w0 w r c vr vl vh s)(hi:which t.text=14)(hh:s.had 14=false) :
  Calls Tryz.prog 92 #[.pointer (some ⟨r,0,none⟩),tokV t] w fun e w'=>Rdc wf w0 r c (clR t s) e w':=by
 have hX:clR t s=(clauseR 14 s.p s.ts).bind fun a=>(xp [59] a.2).bind fun ts=>.ok ⟨ts,a.1,seen s.had 14⟩:=by unfold clR;rw [hi,hh];rfl
 rw [hX]
 clear hX
 have hmf:=L7.make_func
 obtain⟨W0,b,hW,hb,hx0,b0,b1,b2⟩:=box_tok w t 59
 replace h:=hid <| h.on hx0
 have c1:=(h.out.cell 1 (.slice (some ⟨c,0,none⟩) 15 15) (fun _=>rfl)).1
 have hcl:=hid <| Cll.of h.out.cls
 replace hf:=hid hf
 clear hx0
 unfold tokV
 go_enter Tryz.func92,Tryz.ntmps92
 go_wp2_with fail
 refine (idxC_c c b s.had t.text _ hcl.out b2).mono ?_
 rintro e w1 ⟨he,hx⟩
 rw [hi] at he
 replace h:=hid <| h.out.on hx
 replace b0:=hx.cell_of b0
 replace b1:=hx.cell_of b1
 replace b2:=hx.cell_of b2
 clear hx c1 hcl hW hb
 obtain rfl:e=.returned (.int .i64 14):=he
 go_wp2_with fail
 refine (need_ok t _).mono ?_
 rintro e w2 ⟨rfl,hx⟩
 replace h:=hid <| h.out.on hx
 replace b0:=hx.cell_of b0
 replace b1:=hx.cell_of b1
 replace b2:=hx.cell_of b2
 clear hx
 have c1:=(h.out.cell 1 (.slice (some ⟨c,0,none⟩) 15 15) (fun _=>rfl)).1
 have d2:=(cell_of_row _ c 72 _ _ _ h.out.cls).trans (show _=some (.bool false) from rfl)
 have d4:=(cell_of_row _ c 74 _ _ _ h.out.cls).trans (show _=some (.bool (s.had 14)) from rfl)
 rw [hh] at d4
 clear hi hmf hh
 go_upto_region 4 with fail
 refine wp_region_tail 12 (by kernel_rfl) (by kernel_rfl) ?_
 intro w3 hx
 replace h:=hid <| h.out.on hx
 replace b0:=hx.cell_of b0
 replace b1:=hx.cell_of b1
 replace b2:=hx.cell_of b2
 replace d2:=hx.cell_of d2
 replace d4:=hx.cell_of d4
 replace c1:=hx.cell_of c1
 clear hx
 simp only [List.take_succ_cons,List.take_zero,List.drop_succ_cons,List.drop_zero]
 repeat still_step
 refine wpStill_nil ?_
 go_wp2_with fail
 refine (need_ok t _).mono ?_
 rintro e w4 ⟨rfl,hx⟩
 replace h:=hid <| h.out.on hx
 clear hx b0 b1 b2 c1 d2 d4
 have d3:=(cell_of_row _ c 73 _ _ _ h.out.cls).trans (show _=some (.func (.func 88) #[.pointer (some ⟨r,0,none⟩)] #[]) from rfl)
 have d4:=(cell_of_row _ c 74 _ _ _ h.out.cls).trans (show _=some (.bool (s.had 14)) from rfl)
 have z4:=frozen_of_row _ c 74 _ _ h.out.cls
 replace h:=show Hid (Inn wf w0 (w4.setCell ⟨c,74,none⟩ (.bool true)) r c vr vl vh { s with had:=seen s.had 14 }) from h.out.tell 14 (by omega)
 have hf2:Hid (Fine { s with had:=seen s.had 14 }):=⟨hf.out.fin,hf.out.len,hf.out.few⟩
 go_wp2_with fail
 obtain⟨t1,ts1,hs1,ht1,hl1⟩:=(show Fine { s with had:=seen s.had 14 } from hf2.out).cons
 refine (roll_c wf w0 _ r c vr vl vh { s with had:=seen s.had 14 } t1 ts1 hs1 (by omega) h.out).mono ?_
 rintro e w5 hR
 clear h d3 d4 z4
 cases hr:clauseR 14 s.p s.ts with
 | no x y =>
  have hR2:Ext w0 w5∧e=thrown x y:=by have:=hR;unfold Rds at this;rw [show clauseR 14 ({ s with had:=seen s.had 14 }:St).p ({ s with had:=seen s.had 14 }:St).ts=.no x y from hr] at this;exact this
  obtain⟨hx,rfl⟩:=hR2
  replace hr:=hid hr
  replace hx:=hid hx
  clear hR
  unfold thrown
  go_wp2
  rw [hr.out]
  exact⟨rfl,Rdc.no hx.out⟩
 | ok a =>
  have hR2:Ext w0 w5∧e=.returned (.tuple #[])∧∃ vr vl vh,Inn wf w0 w5 r c vr vl vh ⟨a.2,a.1,seen s.had 14⟩:=by have:=hR;unfold Rds at this;rw [show clauseR 14 ({ s with had:=seen s.had 14 }:St).p ({ s with had:=seen s.had 14 }:St).ts=.ok a from hr] at this;exact this
  obtain⟨_,rfl,vr',vl',vh',h⟩:=hR2
  obtain⟨t6,ts6,hs6,ht6,hl6⟩:=(reads_fine hf.out hr (seen s.had 14)).1.cons
  have hs6':a.2=t6::ts6:=hs6
  replace hr:=hid hr
  replace h:=hid h
  replace hs6:=hid hs6
  clear hR
  by_cases hq:t6.text = [59]
  ·replace hq:=hid hq
   go_wp2_with fail
   refine (expect_c wf w0 _ r c vr' vl' vh' ⟨a.2,a.1,seen s.had 14⟩ t6 ts6 [59] hs6.out (by omega) h.out).mono ?_
   rintro e w7 ⟨he,h7,hx⟩
   rw [if_pos hq.out] at he
   subst he
   replace h7:=hid h7
   clear hx
   go_wp2
   go_end0
   have hY:((clauseR 14 s.p s.ts).bind fun a=>(xp [59] a.2).bind fun ts=>.ok ⟨ts,a.1,seen s.had 14⟩)=Res.ok (⟨ts6,a.1,seen s.had 14⟩:St):=by
    rw [hr.out];show (xp [59] a.2).bind _=_;rw [hs6'];show (if t6.text = [59] then Res.ok ts6 else Res.no 7 t6.at_).bind _=_;rw [if_pos hq.out];rfl
   rw [hY]
   exact Rdc.ok h7.out
  ·replace hq:=hid hq
   go_wp2_with fail
   refine (expect_c wf w0 _ r c vr' vl' vh' ⟨a.2,a.1,seen s.had 14⟩ t6 ts6 [59] hs6.out (by omega) h.out).mono ?_
   rintro e w7 ⟨he,h7,hx⟩
   rw [if_neg hq.out] at he
   subst he
   replace h7:=hid h7
   clear hx
   unfold thrown
   go_wp2
   have hY:((clauseR 14 s.p s.ts).bind fun a=>(xp [59] a.2).bind fun ts=>.ok ⟨ts,a.1,seen s.had 14⟩)=(Res.no 7 t6.at_:Res St):=by
    rw [hr.out];show (xp [59] a.2).bind _=_;rw [hs6'];show (if t6.text = [59] then Res.ok ts6 else Res.no 7 t6.at_).bind _=_;rw [if_neg hq.out];rfl
   rw [hY]
   exact⟨rfl,Rdc.no h7.out.ext⟩
end Go.Proofs.YtlbodoggfbdnjaaGreatDoor
