/- Contracts that the proof of this law leans on: no statement of the seat is proved here. -/
import Derived.Test.YtcijdkbopiaicaaGreatDoorC14
set_option linter.unusedVariables false
set_option maxRecDepth 100000
set_option maxHeartbeats 8000000
namespace Go.Proofs.YtcijdkbopiaicaaGreatDoor
open Go.RowKit Go.Lib
theorem groupD_bad (T:List Tok)(w0:World)(r:Nat)(hT:T.length≤20001)(hE:Endt T)(D:Int)(w:World)(vr vl vh vd:Value)(s:Dst)(he:s.e≠0)(hs:Oks T s)(h:Dn T w0 w r vr vl vh vd s) :
  Calls Tryz.prog 28 #[.pointer (some ⟨r,0,none⟩),.int .i64 D] w fun e w'=>e=.returned (.tuple #[])∧Dn T w0 w' r vr vl vh vd s:=by
 have hT2:T.length≤20010:=by omega
 have hB:isB T s 3 [123]=false:=by unfold isB;simp [he]
 have heb:((s.e:Int)==0)=false:=by simpa using he
 have e1:=sg_bad (T:=T) (s:=s) he 3 [123]
 have e2:=sg_bad (T:=T) (s:=s) he 3 [125]
 replace h:=hid h
 replace he:=hid he
 replace hs:=hid hs
 go_enter Tryz.func28,Tryz.ntmps28
 go_wp2_with fail
 refine (is_c T w0 _ r 3 [123] vr vl vh vd s hT2 hs.out.has h.out).mono ?_
 rintro e w1 ⟨rfl,hx1⟩
 rw [hB]
 replace h:=hid <| h.out.on hx1
 clear hx1 hB
 go_wp2_with fail
 refine (sign_c T w0 _ r 3 [123] vr vl vh vd s hT2 hs.out.has h.out).mono ?_
 rintro e w2 ⟨rfl,h2,hX2⟩
 rw [e1] at h2
 obtain⟨c22,_⟩:=h2.cell 22 (.int .i64 s.e) (fun _=>rfl)
 replace h2:=hid h2
 clear hX2 e1
 go_wp2_with fail
 refine wp_loop_rounds 1 ?_
 rw [rounds_succ]
 go_wp2_with fail
 refine (sign_c T w0 _ r 3 [125] vr vl vh vd s hT2 hs.out.has h2.out).mono ?_
 rintro e w3 ⟨rfl,h3,hX3⟩
 rw [e2] at h3
 replace h3:=hid h3
 clear hX3 c22
 go_wp2
 go_end0
 exact⟨rfl,h3.out⟩
def endR (a0:Nat)(X:Res St):Res Prd:=X.bind (lastR a0)
def dz:Dst:=⟨0,prd0,[],0,0⟩
def dn (nm:List UInt8):Dst:=⟨2,{ prd0 with nm:=nm },[],0,0⟩
theorem textR_go {T:List Tok}{t0 t1:Tok}(hE:Endt T)(h0:T[0]?=some t0)(hq:t0.text=prodL)(h1:T[1]?=some t1)(hn:L8.nmb t1.text=true):textR T=endR t0.at_ (gopen T 1 (dn t1.text) had0):=by
 obtain⟨t2,h2⟩:=hE.next h1 (by rintro e;rw [e] at hn;revert hn;decide)
 have d0:=tok_drop h0
 have d1:=tok_drop h1
 have d2:=tok_drop h2
 have hT:T=t0::t1::t2::T.drop 3:=by
  have e0:T=t0::T.drop 1:=d0
  have e1:T.drop 1=t1::T.drop 2:=d1
  have e2:T.drop 2=t2::T.drop 3:=d2
  exact e0.trans (congrArg (t0::·) (e1.trans (congrArg (t1::·) e2)))
 clear d0 d1 d2
 have hg:gopen T 1 (dn t1.text) had0=if t2.text = [123] then grpR 1 (st0 t1.text (T.drop 3)) else .no 7 t2.at_:=by
  unfold gopen
  rw [show T[(dn t1.text).i]?=some t2 from h2]
  rfl
 rw [hg]
 generalize hR:T.drop 3=R at *
 subst hT
 by_cases hb:t2.text = [123]
 ·rw [if_pos hb,textR_d hq hn hb];rfl
 ·rw [if_neg hb,textR_c hq hn hb];rfl
theorem nmb_ne {l:List UInt8}(h:L8.nmb l=true):l≠[]:=by
 rintro rfl
 revert h;decide
theorem whole_had {had:List (List UInt8)}{h:Nat→Bool}(hH:Hd had h):whole h=(decide (wordAt 0∈had)&&(decide (wordAt 1∈had)&&(decide (wordAt 2∈had)&&(decide (wordAt 3∈had)&&(decide (wordAt 4∈had)&&(decide (wordAt 6∈had)&&decide (wordAt 12∈had))))))):=by
 unfold whole
 rw [hH 0 (by decide),hH 1 (by decide),hH 2 (by decide),hH 3 (by decide),hH 4 (by decide),hH 6 (by decide),hH 12 (by decide)]
theorem rCheck_p (p:Prd)(vr vl vh:Value)(B:Bool)(hB:okP p=B)(w:World)(hnm:p.nm.length≤30000)(hf:p.rs.length+p.lt.length+p.hd.length≤30000)(sr:L8.Slp w vr p.rs)(sl:L8.Slp w vl p.lt)(sh:L8.Slc w vh p.hd) :
  Calls Tryz.prog 10 #[.agg (pcells p vr vl vh)] w fun e w'=>e=.returned (.int .i64 (if B then 0 else 9))∧Ext w w' :=
 L8.rCheck_x p.nm p.cn p.rd p.kd p.ev p.tm p.gr p.rt vr p.rs p.pn p.o0 p.o1 p.o2 p.o3 p.ov vl p.lt p.cp p.rl vh p.hd (if B then 0 else 9) (by rw [←hB];rfl) w (by omega) (by omega) (by omega) (by omega) sr sl sh
theorem fine_T {T:List Tok}(h:Fine ⟨T,prd0,had0⟩):Endt T∧(∀ t∈T,t.text.length≤20000):=⟨h.fin,h.len⟩
theorem textR_few {T:List Tok}{p:Prd}(hf:Fine ⟨T,prd0,had0⟩)(h:textR T=.ok p):p.rs.length≤30000∧p.lt.length≤30000∧p.hd.length≤30000:=by
 obtain⟨t0,ts,hs,_,_⟩:=hf.cons
 have hs':T=t0::ts:=hs
 subst hs'
 by_cases hq:t0.text=prodL
 case neg=>rw [textR_a hq] at h;cases h
 have hf2:=hf.next rfl (show t0.text≠[] by rw [hq];decide)
 obtain⟨t1,ts1,hs1,_,_⟩:=hf2.cons
 have hs1':ts=t1::ts1:=hs1
 subst hs1'
 cases hn:L8.nmb t1.text
 case false=>rw [textR_b hq hn] at h;cases h
 have hf3:=hf2.next rfl (nmb_ne hn)
 obtain⟨t2,ts2,hs2,_,_⟩:=hf3.cons
 have hs2':ts1=t2::ts2:=hs2
 subst hs2'
 by_cases hb:t2.text = [123]
 case neg=>rw [textR_c hq hn hb] at h;cases h
 have hf4:=hf3.next rfl (show t2.text≠[] by rw [hb];decide)
 rw [textR_d hq hn hb] at h
 obtain⟨u,hu,hl⟩:=bind_ok h
 have hf5:Fine (st0 t1.text ts2):=⟨hf4.fin,hf4.len,hf4.few⟩
 obtain⟨hfu,_⟩:=grp_fine _ _ _ u hf5 hu
 have hp:p=u.p:=by
  unfold lastR at hl
  split at hl
  ·cases hl
  ·split at hl
   ·split at hl
    ·exact (Res.ok.inj hl).symm
    ·cases hl
   ·cases hl
 have:=hfu.few
 subst hp
 exact⟨by omega,by omega,by omega⟩
theorem prs_few {l:List UInt8}{p:Prd}(h:prs l=.ok p):p.rs.length≤30000∧p.lt.length≤30000∧p.hd.length≤30000:=by
 unfold prs at h
 split at h
 ·rename_i hE
  exact textR_few (fine_of hE prd0 rfl had0) h
 ·cases h
end Go.Proofs.YtcijdkbopiaicaaGreatDoor
