/- Contracts that the proof of this law leans on: no statement of the seat is proved here. -/
import Derived.Test.YtcijdkbopiaicaaGreatDoorC13
set_option linter.unusedVariables false
set_option maxRecDepth 100000
set_option maxHeartbeats 8000000
namespace Go.Proofs.YtcijdkbopiaicaaGreatDoor
def qc14x0:Oper:=⟨some 32,Op.move (.tmp 0),59,"grammar.go:167",#[],none⟩
def qc14x1:Oper:=⟨some 33,Op.nilCheck (.tmp 32),0,"grammar.go:167",#[⟨0,.data⟩],none⟩
def qc14x2:Oper:=⟨some 34,Op.fieldAddr 61 (.tmp 33) 0,0,"grammar.go:167",#[⟨1,.data⟩],none⟩
def qc14x3:Oper:=⟨some 35,Op.load 53 (.tmp 34),53,"grammar.go:167",#[⟨2,.data⟩],none⟩
def qc14x4:Oper:=⟨some 36,Op.move (.tmp 0),59,"grammar.go:167",#[],none⟩
def qc14x5:Oper:=⟨some 37,Op.nilCheck (.tmp 36),0,"grammar.go:167",#[⟨4,.data⟩],none⟩
def qc14x6:Oper:=⟨some 38,Op.fieldAddr 61 (.tmp 37) 1,0,"grammar.go:167",#[⟨5,.data⟩],none⟩
def qc14x7:Oper:=⟨some 39,Op.load 3 (.tmp 38),3,"grammar.go:167",#[⟨6,.data⟩],none⟩
def qc14x8:Oper:=⟨some 40,Op.indexAddr 53 (.tmp 35) (.tmp 39),0,"grammar.go:167",#[⟨3,.data⟩,⟨7,.data⟩],none⟩
def qc14x9:Oper:=⟨some 41,Op.load 64 (.tmp 40),64,"grammar.go:167",#[⟨8,.data⟩],none⟩
def qc14x10:Oper:=⟨some 4,Op.alloc 64,0,"grammar.go:167",#[],none⟩
def qc14x11:Oper:=⟨none,.store 64 (.tmp 4) (.tmp 41),0,"grammar.go:167",#[⟨10,.data⟩,⟨9,.data⟩,⟨0,.phase⟩,⟨1,.phase⟩,⟨2,.phase⟩,⟨3,.phase⟩,⟨4,.phase⟩,⟨5,.phase⟩,⟨6,.phase⟩,⟨7,.phase⟩,⟨8,.phase⟩,⟨9,.phase⟩,⟨10,.phase⟩],none⟩
def qc14x12:Oper:=⟨some 55,Op.fieldAddr 64 (.tmp 4) 0,0,"grammar.go:169",#[],none⟩
def qc14x13:Oper:=⟨some 56,Op.load 3 (.tmp 55),3,"grammar.go:169",#[⟨0,.data⟩],none⟩
def qc14x14:Oper:=⟨some 57,Op.binOp BinOp.neq 3 (.tmp 56) (.const (Value.int .i64 1)) 3,4,"grammar.go:169",#[⟨1,.data⟩],none⟩
def qc14x15:Oper:=⟨some 58,Op.move (.tmp 57),4,"grammar.go:169",#[⟨2,.data⟩],none⟩
def qc14x16:Oper:=⟨some 59,Op.call { callee:=Callee.value (.func 59),args:=#[],argTypes:=#[] },41,"grammar.go:169",#[⟨3,.chain⟩,⟨3,.guard⟩],some (3,false)⟩
def qc14x17:Oper:=⟨some 60,Op.fieldAddr 64 (.tmp 4) 2,0,"grammar.go:169",#[⟨3,.guard⟩],some (3,false)⟩
def qc14x18:Oper:=⟨some 61,Op.load 9 (.tmp 60),9,"grammar.go:169",#[⟨5,.data⟩,⟨3,.guard⟩],some (3,false)⟩
def qc14x19:Oper:=⟨some 62,Op.call { callee:=Callee.value (.func 30),args:=#[.tmp 59,.tmp 61],argTypes:=#[41,9] },4,"grammar.go:169",#[⟨4,.data⟩,⟨6,.data⟩,⟨4,.chain⟩,⟨3,.guard⟩],some (3,false)⟩
def qc14x20:Oper:=⟨some 63,Op.unOp UnOp.not 4 (.tmp 62),4,"grammar.go:169",#[⟨7,.data⟩,⟨3,.guard⟩],some (3,false)⟩
def qc14x21:Oper:=⟨some 64,Op.pick (.tmp 58) (.const (Value.bool true)) (.tmp 63),4,"grammar.go:169",#[⟨3,.data⟩,⟨8,.data⟩],none⟩
def qc14x22:Oper:=⟨some 65,Op.move (.tmp 64),4,"grammar.go:169",#[⟨9,.data⟩,⟨7,.chain⟩],none⟩
def qc14x23:Oper:=⟨some 66,Op.move (.tmp 5),4,"grammar.go:169",#[⟨10,.guard⟩],some (10,false)⟩
def qc14x24:Oper:=⟨some 67,Op.unOp UnOp.not 4 (.tmp 66),4,"grammar.go:169",#[⟨11,.data⟩,⟨10,.guard⟩],some (10,false)⟩
def qc14x25:Oper:=⟨some 68,Op.move (.tmp 67),4,"grammar.go:169",#[⟨12,.data⟩,⟨10,.chain⟩,⟨10,.guard⟩],some (10,false)⟩
def qc14x26:Oper:=⟨some 69,Op.move (.tmp 0),59,"grammar.go:169",#[⟨13,.guard⟩],some (13,true)⟩
def qc14x27:Oper:=⟨some 70,Op.nilCheck (.tmp 69),0,"grammar.go:169",#[⟨14,.data⟩,⟨13,.guard⟩],some (13,true)⟩
def qc14x28:Oper:=⟨some 71,Op.fieldAddr 61 (.tmp 70) 3,0,"grammar.go:169",#[⟨15,.data⟩,⟨13,.guard⟩],some (13,true)⟩
def qc14x29:Oper:=⟨some 72,Op.load 41 (.tmp 71),41,"grammar.go:169",#[⟨16,.data⟩,⟨13,.guard⟩],some (13,true)⟩
def qc14x30:Oper:=⟨some 73,Op.fieldAddr 64 (.tmp 4) 2,0,"grammar.go:169",#[⟨13,.guard⟩],some (13,true)⟩
def qc14x31:Oper:=⟨some 74,Op.load 9 (.tmp 73),9,"grammar.go:169",#[⟨18,.data⟩,⟨13,.guard⟩],some (13,true)⟩
def qc14x32:Oper:=⟨some 75,Op.call { callee:=Callee.value (.func 30),args:=#[.tmp 72,.tmp 74],argTypes:=#[41,9] },4,"grammar.go:169",#[⟨17,.data⟩,⟨19,.data⟩,⟨13,.chain⟩,⟨13,.guard⟩],some (13,true)⟩
def qc14x33:Oper:=⟨some 76,Op.pick (.tmp 68) (.tmp 75) (.const (Value.bool false)),4,"grammar.go:169",#[⟨13,.data⟩,⟨20,.data⟩,⟨10,.guard⟩],some (10,false)⟩
def qc14x34:Oper:=⟨some 77,Op.pick (.tmp 65) (.const (Value.bool true)) (.tmp 76),4,"grammar.go:169",#[⟨10,.data⟩,⟨21,.data⟩],none⟩
def qc14x35:Oper:=⟨some 80,Op.move (.tmp 0),59,"grammar.go:173",#[],none⟩
def qc14x36:Oper:=⟨some 81,Op.move (.tmp 0),59,"grammar.go:173",#[],none⟩
def qc14x37:Oper:=⟨some 82,Op.nilCheck (.tmp 81),0,"grammar.go:173",#[⟨1,.data⟩],none⟩
def qc14x38:Oper:=⟨some 83,Op.fieldAddr 61 (.tmp 82) 3,0,"grammar.go:173",#[⟨2,.data⟩],none⟩
def qc14x39:Oper:=⟨some 85,Op.fieldAddr 64 (.tmp 4) 2,0,"grammar.go:173",#[],none⟩
def qc14x40:Oper:=⟨some 86,Op.load 9 (.tmp 85),9,"grammar.go:173",#[⟨5,.data⟩],none⟩
def qc14x41:Oper:=⟨some 84,Op.load 41 (.tmp 83),41,"grammar.go:173",#[⟨3,.data⟩],none⟩
def qc14x42:Oper:=⟨some 87,Op.buildSlice 41 1 #[(0,.tmp 86)],41,"grammar.go:173",#[⟨6,.data⟩],none⟩
def qc14x43:Oper:=⟨some 88,Op.call { callee:=Callee.builtin Builtin.append,args:=#[.tmp 84,.tmp 87],argTypes:=#[41,41] },41,"grammar.go:173",#[⟨4,.data⟩,⟨7,.data⟩],none⟩
def qc14x44:Oper:=⟨some 89,Op.nilCheck (.tmp 80),0,"grammar.go:173",#[⟨0,.data⟩,⟨0,.phase⟩,⟨1,.phase⟩,⟨2,.phase⟩,⟨3,.phase⟩,⟨4,.phase⟩,⟨5,.phase⟩,⟨6,.phase⟩,⟨7,.phase⟩,⟨8,.phase⟩],none⟩
def qc14x45:Oper:=⟨some 90,Op.fieldAddr 61 (.tmp 89) 3,0,"grammar.go:173",#[⟨9,.data⟩,⟨0,.phase⟩,⟨1,.phase⟩,⟨2,.phase⟩,⟨3,.phase⟩,⟨4,.phase⟩,⟨5,.phase⟩,⟨6,.phase⟩,⟨7,.phase⟩,⟨8,.phase⟩],none⟩
def qc14x46:Oper:=⟨none,.store 41 (.tmp 90) (.tmp 88),0,"grammar.go:173",#[⟨10,.data⟩,⟨8,.data⟩,⟨8,.chain⟩,⟨0,.phase⟩,⟨1,.phase⟩,⟨2,.phase⟩,⟨3,.phase⟩,⟨4,.phase⟩,⟨5,.phase⟩,⟨6,.phase⟩,⟨7,.phase⟩,⟨8,.phase⟩],none⟩
end Go.Proofs.YtcijdkbopiaicaaGreatDoor
namespace Go.Proofs.YtcijdkbopiaicaaGreatDoor
open Go.RowKit Go.Lib
theorem stayD {w w':World}{b:Nat}{cs:Array Value}{m:TypeId}(h:w.heap[b]?=some (.cells cs m (0,0)))(hx:Ext w w'):w'.heap[b]?=some (.cells cs m (0,0)):=by
 rw [hx.below.block b (Array.getElem?_eq_some_iff.1 h).1];exact h
theorem info_st:(Tryz.prog.info? 9).map (fun i=>(i.zero,i.size,i.bytes))=some (some (.string ⟨#[]⟩),1,16):=by kernel_rfl
def Hd (had:List (List UInt8))(h:Nat→Bool):Prop:=∀ i,i<15→h i=decide (wordAt i∈had)
def Grl (T:List Tok)(X:Res St)(s':Dst):Prop:=match X with
 | .ok u=>s'.e=0∧T.drop s'.i=u.ts∧s'.p=u.p∧Hd s'.had u.had∧Fine u∧s'.had.length≤s'.i
 | .no x y=>s'.e=x∧s'.a=y∧x≠0
def gopen (T:List Tok)(d:Nat)(s:Dst)(h:Nat→Bool):Res St:=match T[s.i]? with
 | some t=>if t.text = [123] then (if 32<d then .no 8 t.at_ else grpR d ⟨T.drop (s.i+1),s.p,h⟩) else .no 7 t.at_
 | none=>.no 0 0
def Lin (T:List Tok)(d:Nat)(X:Res St)(s:Dst):Prop :=
 (s.e=0∧∃ h,Hd s.had h∧Fine ⟨T.drop s.i,s.p,h⟩∧s.had.length≤s.i∧X=grpR d ⟨T.drop s.i,s.p,h⟩)∨(s.e≠0∧X=.no s.e s.a)
def dlen (T:List Tok)(w:World)(r:Nat):Nat:=match w.cell? ⟨r,22,none⟩,w.cell? ⟨r,1,none⟩ with
 | some (.int _ e),some (.int _ i)=>if e=0 then T.length+1-i.toNat else 0
 | _,_=>0
theorem Dn.dlen {T:List Tok}{w0 w:World}{r:Nat}{vr vl vh vd:Value}{s:Dst}(h:Dn T w0 w r vr vl vh vd s):Go.Proofs.YtcijdkbopiaicaaGreatDoor.dlen T w r=if s.e=0 then T.length+1-s.i else 0:=by
 unfold Go.Proofs.YtcijdkbopiaicaaGreatDoor.dlen
 rw [(h.cell 22 (.int .i64 s.e) (fun _=>rfl)).1,(h.cell 1 (.int .i64 s.i) (fun _=>rfl)).1]
 simp
theorem isB_tok {T:List Tok}{s:Dst}{t:Tok}(he:s.e=0)(ht:T[s.i]?=some t)(hK:Kin t){l:List UInt8}{k:Nat}(hk:L7.kd l=k):isB T s k l=decide (t.text=l):=by
 unfold isB
 rw [he,ht]
 by_cases hq:t.text=l
 ·subst hq
  have:t.kind=k:=hK.trans hk
  simp [this]
 ·simp [hq]
theorem isB_bad {T:List Tok}{s:Dst}(he:s.e≠0)(k:Int)(l:List UInt8):isB T s k l=false:=by
 unfold isB
 rw [show (s.e==0)=false by simpa using he]
 rfl
theorem sg_bad {T:List Tok}{s:Dst}(he:s.e≠0)(k:Int)(l:List UInt8):s.sg T k l=s:=by
 unfold Dst.sg Dst.fl
 rw [isB_bad he,if_neg he]
 rfl
theorem sg_tok {T:List Tok}{s:Dst}{t:Tok}(he:s.e=0)(ht:T[s.i]?=some t)(hK:Kin t){l:List UInt8}{k:Nat}(hk:L7.kd l=k):s.sg T k l=if t.text=l then s.inc else { s with e:=7,a:=t.at_ }:=by
 unfold Dst.sg
 rw [isB_tok he ht hK hk,fl_at he ht]
 by_cases hq:t.text=l
 ·simp [hq]
 ·simp [hq]
theorem fine_kin {T:List Tok}{s:Dst}{h:Nat→Bool}(hf:Fine ⟨T.drop s.i,s.p,h⟩):∃ t,T[s.i]?=some t∧T.drop s.i=t::T.drop (s.i+1):=by
 obtain⟨t,ts,hs,_,_⟩:=hf.cons
 have hs':T.drop s.i=t::ts:=hs
 obtain⟨h1,h2⟩:=drop_tok hs'
 exact⟨t,h1,tok_drop h1⟩
theorem lin_end {T:List Tok}{d:Nat}{X:Res St}{s:Dst}(hK:∀ t∈T,Kin t)(hL:Lin T d X s)(hx:s.e≠0∨isB T s 3 [125]=true):Grl T X (s.sg T 3 [125]):=by
 rcases hL with ⟨he,h,h1,h2,h3,rfl⟩ | ⟨he,rfl⟩
 ·have hB:isB T s 3 [125]=true:=by
   rcases hx with hx | hx
   ·exact absurd he hx
   ·exact hx
  obtain⟨t,ht,hd⟩:=fine_kin h2
  have hk:=hK t (List.mem_of_getElem? ht)
  have hq:t.text = [125]:=by
   have:=isB_tok (k:=3) he ht hk (l:=[125]) (by decide)
   rw [show ((3:Nat):Int)=3 from rfl,hB] at this
   exact of_decide_eq_true this.symm
  have hs:=sg_tok (k:=3) he ht hk (l:=[125]) (by decide)
  rw [if_pos hq] at hs
  rw [show (3:Int)=((3:Nat):Int) from rfl,hs]
  rw [grpR_shut (s:=⟨T.drop s.i,s.p,h⟩) hd hq]
  refine⟨he,rfl,rfl,h1,h2.next hd (by rw [hq];decide),by show s.had.length≤s.i+1;omega⟩
 ·rw [sg_bad he]
  exact⟨rfl,rfl,he⟩
theorem lin_nest {T:List Tok}{d:Nat}{X:Res St}{S s':Dst}{h:Nat→Bool}{u:Tok}(hu:T[S.i]?=some u)(hq:u.text = [123])(hF:Fine ⟨T.drop S.i,S.p,h⟩)(hX:X=grpR d ⟨T.drop S.i,S.p,h⟩)(ho:Oks T s')(hg:Grl T (gopen T (d+1) S h) s'):Lin T d X s'∧(s'.e=0→S.i<s'.i):=by
 have hd:=tok_drop hu
 have hfn:=hF.next hd (by rw [hq];decide)
 have e0:gopen T (d+1) S h=if 32<d+1 then .no 8 u.at_ else grpR (d+1) ⟨T.drop (S.i+1),S.p,h⟩:=by
  unfold gopen
  rw [hu]
  simp only [if_pos hq]
 rw [e0] at hg
 by_cases hd32:d<32
 ·rw [if_neg (by omega)] at hg
  rw [grpR_open (s:=⟨T.drop S.i,S.p,h⟩) hF hd hq hd32] at hX
  cases hr:grpR (d+1) ⟨T.drop (S.i+1),S.p,h⟩ with
  | no x y =>
   rw [hr] at hg
   obtain⟨a,b,c⟩:=hg
   refine⟨Or.inr ⟨by rw [a];exact c,?_⟩,fun h0=>absurd (a ▸ h0) c⟩
   rw [hX,a,b]
   show (Res.bind (grpR (d+1) ⟨T.drop (S.i+1),S.p,h⟩) _)=_
   rw [hr];rfl
  | ok v =>
   rw [hr] at hg
   obtain⟨a,b,c,e,f,g⟩:=hg
   obtain⟨_,hlt⟩:=grp_fine _ _ _ v hfn hr
   have hlt2:v.ts.length<(T.drop (S.i+1)).length:=hlt
   rw [←b,List.length_drop,List.length_drop] at hlt2
   have hSi:=(List.getElem?_eq_some_iff.1 hu).1
   have hv:v=⟨T.drop s'.i,s'.p,v.had⟩:=by cases v;simp at b c;rw [b,c]
   refine⟨Or.inl ⟨a,v.had,e,by rw [←hv];exact f,g,?_⟩,fun _=>by omega⟩
   rw [hX]
   show (Res.bind (grpR (d+1) ⟨T.drop (S.i+1),S.p,h⟩) _)=_
   rw [hr,←hv];rfl
 ·rw [if_pos (by omega)] at hg
  rw [grpR_deep (s:=⟨T.drop S.i,S.p,h⟩) hd hq hd32] at hX
  obtain⟨a,b,c⟩:=hg
  exact⟨Or.inr ⟨by rw [a];exact c,by rw [hX,a,b]⟩,fun h0=>absurd (a ▸ h0) c⟩
theorem which_word (j:Nat)(hj:j<15):which (wordAt j)=j:=by
 match j,hj with
 | 0,_=>decide
 | 1,_=>decide
 | 2,_=>decide
 | 3,_=>decide
 | 4,_=>decide
 | 5,_=>decide
 | 6,_=>decide
 | 7,_=>decide
 | 8,_=>decide
 | 9,_=>decide
 | 10,_=>decide
 | 11,_=>decide
 | 12,_=>decide
 | 13,_=>decide
 | 14,_=>decide
theorem Hd.seen {had:List (List UInt8)}{h:Nat→Bool}(hH:Hd had h){l:List UInt8}{i:Nat}(hi:which l=i)(hi15:i<15):Hd (had++[l]) (seen h i):=by
 intro j hj
 have hw:wordAt i=l:=hi ▸ which_at (hi ▸ hi15)
 show (h j||j==i)=_
 rw [hH j hj]
 by_cases hji:j=i
 ·subst hji
  simp [hw]
 ·have hne:¬ wordAt j=l:=fun e=>hji (by rw [←which_word j hj,e,hi])
  simp [hji,hne]
theorem in_words (l:List UInt8):decide (l∈words)=decide (which l<15):=by
 by_cases h:which l<15
 ·have hw:=which_at h
  have:l∈words:=by
   rw [←hw]
   have hh:∀ j,j<15→wordAt j∈words:=by
    intro j hj
    unfold wordAt
    rw [List.getD_eq_getElem?_getD,List.getElem?_eq_getElem (show j<words.length from hj)]
    exact List.getElem_mem _
   exact hh _ h
  simp [h,this]
 ·have:l ∉ words:=by
   intro hm
   obtain⟨j,hj,rfl⟩:=List.getElem_of_mem hm
   have hj':j<15:=hj
   apply h
   have:wordAt j=words[j]:=by
    unfold wordAt
    rw [List.getD_eq_getElem?_getD,List.getElem?_eq_getElem hj];rfl
   have e:=which_word j hj'
   rw [this] at e
   exact Nat.lt_of_le_of_lt (Nat.le_of_eq e) hj'
  simp [h,this]
def manyB (l:List UInt8):Bool:=(l==[114,101,115,101,116])||((l==[108,97,116,101])||(l==[104,111,108,105,100,97,121]))
theorem many_often {l:List UInt8}(h:which l<15):manyB l=often (which l):=by
 have hw:=which_at h
 generalize which l=i at *
 subst hw
 match i,h with
 | 0,_=>decide
 | 1,_=>decide
 | 2,_=>decide
 | 3,_=>decide
 | 4,_=>decide
 | 5,_=>decide
 | 6,_=>decide
 | 7,_=>decide
 | 8,_=>decide
 | 9,_=>decide
 | 10,_=>decide
 | 11,_=>decide
 | 12,_=>decide
 | 13,_=>decide
 | 14,_=>decide
theorem kd_word {l:List UInt8}(h:which l<15):L7.kd l=1:=by
 have hw:=which_at h
 generalize which l=i at *
 subst hw
 match i,h with
 | 0,_=>decide
 | 1,_=>decide
 | 2,_=>decide
 | 3,_=>decide
 | 4,_=>decide
 | 5,_=>decide
 | 6,_=>decide
 | 7,_=>decide
 | 8,_=>decide
 | 9,_=>decide
 | 10,_=>decide
 | 11,_=>decide
 | 12,_=>decide
 | 13,_=>decide
 | 14,_=>decide
def badB (had:List (List UInt8))(u:Tok):Bool:=!(decide (u.kind=1))||(!(decide (u.text∈words))||(!(manyB u.text)&&decide (u.text∈had)))
theorem lin_bad {T:List Tok}{d:Nat}{X:Res St}{S:Dst}{h:Nat→Bool}{u:Tok}(he:S.e=0)(hu:T[S.i]?=some u)(hK:Kin u)(h1:¬ u.text = [125])(h2:¬ u.text = [123])(hH:Hd S.had h)(hF:Fine ⟨T.drop S.i,S.p,h⟩)(hX:X=grpR d ⟨T.drop S.i,S.p,h⟩)(hb:badB S.had u=true):Grl T X (S.fl T 7):=by
 have hc:clR u ⟨T.drop (S.i+1),S.p,h⟩=.no 7 u.at_:=by
  unfold clR
  by_cases hw:which u.text<15
  ·rw [if_pos hw]
   have hin:=in_words u.text
   rw [decide_eq_true hw] at hin
   have hk1:u.kind=1:=hK.trans (kd_word hw)
   unfold badB at hb
   rw [decide_eq_true hk1,hin] at hb
   simp only [Bool.not_true,Bool.false_or,Bool.and_eq_true,Bool.not_eq_true'] at hb
   have hm:=many_often hw
   rw [hb.1] at hm
   have hh:=hH _ hw
   rw [which_at hw,hb.2] at hh
   have:(often (which u.text)||!h (which u.text))=false:=by rw [←hm,hh];rfl
   show (if (often (which u.text)||!h (which u.text))=true then _ else _)=_
   rw [this];rfl
  ·rw [if_neg hw]
 rw [fl_at he hu,hX,grpR_else (s:=⟨T.drop S.i,S.p,h⟩) hF (tok_drop hu) h1 h2]
 show Grl T ((clR u ⟨T.drop (S.i+1),S.p,h⟩).bind _) _
 rw [hc]
 exact⟨rfl,rfl,show (7:Nat)≠0 by decide⟩
theorem lin_clause {T:List Tok}{d:Nat}{X:Res St}{S s2:Dst}{h:Nat→Bool}{u:Tok}(hKT:∀ t∈T,Kin t)(he:S.e=0)(hu:T[S.i]?=some u)(h1:¬ u.text = [125])(h2:¬ u.text = [123])(hH:Hd S.had h)(hF:Fine ⟨T.drop S.i,S.p,h⟩)(hl:S.had.length≤S.i)(hX:X=grpR d ⟨T.drop S.i,S.p,h⟩)(hb:badB S.had u=false)
  (hR:Rcl T { S with had:=S.had++[u.text],i:=S.i+1 } (which u.text) s2):Lin T d X (s2.sg T 3 [59])∧((s2.sg T 3 [59]).e=0→S.i<(s2.sg T 3 [59]).i):=by
 have hw:which u.text<15:=by
  unfold badB at hb
  rw [in_words] at hb
  simp only [Bool.or_eq_false_iff,Bool.not_eq_false'] at hb
  exact of_decide_eq_true hb.2.1
 have hin:=in_words u.text
 rw [decide_eq_true hw] at hin
 have hm:(often (which u.text)||!h (which u.text))=true:=by
  unfold badB at hb
  rw [hin] at hb
  simp only [Bool.not_true,Bool.false_or,Bool.or_eq_false_iff] at hb
  have hh:=hH _ hw
  rw [which_at hw] at hh
  rw [←many_often hw,hh]
  cases hm:manyB u.text
  ·rw [hm] at hb
   have:=hb.2
   simp only [Bool.not_false,Bool.true_and] at this
   rw [this];rfl
  ·rfl
 have hd:=tok_drop hu
 have hnil:u.text≠[]:=by
  intro hn
  rw [hn] at hw
  revert hw
  decide
 have hfn:=hF.next hd hnil
 have hc:clR u ⟨T.drop (S.i+1),S.p,h⟩=(clauseR (which u.text) S.p (T.drop (S.i+1))).bind fun a=>(xp [59] a.2).bind fun ts=>.ok ⟨ts,a.1,seen h (which u.text)⟩:=by
  unfold clR
  rw [if_pos hw]
  show (if (often (which u.text)||!h (which u.text))=true then _ else _)=_
  rw [if_pos hm]
 have hX2:X=(clR u ⟨T.drop (S.i+1),S.p,h⟩).bind fun v=>grpR d v:=by rw [hX,grpR_else (s:=⟨T.drop S.i,S.p,h⟩) hF hd h1 h2]
 obtain⟨o2,q2,r2⟩:=hR
 have r2':match clauseR (which u.text) S.p (T.drop (S.i+1)) with
  | .ok a=>s2.e=0∧s2.p=a.1∧T.drop s2.i=a.2
  | .no x y=>s2.e=x∧s2.a=y:=r2
 cases hr:clauseR (which u.text) S.p (T.drop (S.i+1)) with
 | no x y =>
  rw [hr] at r2'
  obtain⟨a,b⟩:=r2'
  have hx:x≠0:=by
   have:=clauseR_rd (p:=S.p) (ts:=T.drop (S.i+1)) hw hfn.fin
   rw [hr] at this
   obtain⟨h3,_⟩:=this
   omega
  have hne:s2.e≠0:=by rw [a];exact hx
  rw [sg_bad hne]
  refine⟨Or.inr ⟨hne,?_⟩,fun h0=>absurd h0 hne⟩
  rw [hX2,hc,hr,a,b];rfl
 | ok a =>
  rw [hr] at r2'
  obtain⟨b1,b2,b3⟩:=r2'
  obtain⟨v,hv⟩:=o2.has b1
  have hvd:=tok_drop hv
  have hs:=sg_tok (k:=3) b1 hv (hKT v (List.mem_of_getElem? hv)) (l:=[59]) (by decide)
  rw [show ((3:Nat):Int)=3 from rfl] at hs
  rw [hs]
  have hle:S.i+1≤s2.i:=by
   obtain⟨_,hlen⟩:=reads_fine (s:=⟨T.drop (S.i+1),S.p,h⟩) hfn hr (seen h (which u.text))
   have hlen2:a.2.length<(T.drop (S.i+1)).length:=hlen
   rw [←b3,List.length_drop,List.length_drop] at hlen2
   omega
  by_cases hq:v.text = [59]
  ·rw [if_pos hq]
   have hcl:clR u ⟨T.drop (S.i+1),S.p,h⟩=.ok ⟨T.drop (s2.i+1),s2.p,seen h (which u.text)⟩:=by
    rw [hc,hr]
    show (xp [59] a.2).bind _=_
    rw [←b3,hvd,xp_ok hq,←b2];rfl
   have hf2:=(clR_fine (s:=⟨T.drop (S.i+1),S.p,h⟩) hfn hcl).1
   have hhad:s2.had=S.had++[u.text]:=q2
   refine⟨Or.inl ⟨b1,seen h (which u.text),?_,hf2,?_,?_⟩,fun _=>by show S.i<s2.i+1;omega⟩
   ·show Hd s2.had _
    rw [hhad];exact hH.seen rfl hw
   ·show s2.had.length≤s2.i+1
    rw [hhad]
    simp only [List.length_append,List.length_cons,List.length_nil]
    omega
   ·rw [hX2,hcl];rfl
  ·rw [if_neg hq]
   refine⟨Or.inr ⟨show (7:Nat)≠0 by decide,?_⟩,fun h0=>absurd h0 (show (7:Nat)≠0 by decide)⟩
   rw [hX2,hc,hr]
   show ((xp [59] a.2).bind _).bind _=_
   rw [←b3,hvd,xp_no hq];rfl
theorem groupD_c (T:List Tok)(w0:World)(r:Nat)(hT:T.length≤20001)(hX:∀ t∈T,t.text.length≤20000)(hE:Endt T)(hK:∀ t∈T,Kin t)(he0:Hid (Env w0)):∀ (n d:Nat) (D:Int) (w:World) (vr vl vh vd:Value) (s:Dst) (hd:Nat→Bool),D=(d:Int)→T.length-s.i≤n→d≤33→s.e=0→Oks T s→Hd s.had hd→Fine ⟨T.drop s.i,s.p,hd⟩→s.had.length≤s.i→Dn T w0 w r vr vl vh vd s →
  Calls Tryz.prog 28 #[.pointer (some ⟨r,0,none⟩),.int .i64 D] w fun e w'=>e=.returned (.tuple #[])∧∃ s' vr' vl' vh' vd',Dn T w0 w' r vr' vl' vh' vd' s'∧Oks T s'∧Grl T (gopen T d s hd) s':=by
 intro n
 induction n with
 | zero =>
  intro d D w vr vl vh vd s hd _ hn _ he hs _ _ _ _
  obtain⟨t,ht⟩:=hs.has he
  have:=(List.getElem?_eq_some_iff.1 ht).1
  omega
 | succ n ih =>
  rintro d D w vr vl vh vd s hd rfl hn hd33 he hs hH hF hle h
  have hT2:T.length≤20010:=by omega
  obtain⟨t,ht,htd⟩:=fine_kin hF
  have hk:=hK t (List.mem_of_getElem? ht)
  obtain⟨X,hXX⟩:∃ X,gopen T d s hd=X:=⟨_,rfl⟩
  have hgo:X=if t.text = [123] then (if 32<d then .no 8 t.at_ else grpR d ⟨T.drop (s.i+1),s.p,hd⟩) else .no 7 t.at_:=by
   rw [←hXX];unfold gopen;rw [ht]
  rw [hXX]
  have hB:=isB_tok (k:=3) he ht hk (l:=[123]) (by decide)
  have hS:=sg_tok (k:=3) he ht hk (l:=[123]) (by decide)
  rw [show ((3:Nat):Int)=3 from rfl] at hB hS
  clear hXX
  -- the world behind the first sign
  have hbeg:∃ s1:Dst,(if t.text = [123]∧32<d then (s.fl T 8).sg T 3 [123] else s.sg T 3 [123])=s1∧Oks T s1∧Lin T d X s1:=by
   refine⟨_,rfl,?_,?_⟩
   ·split
    ·exact (hs.fl (by decide)).sg hE (by decide)
    ·exact hs.sg hE (by decide)
   ·by_cases hq:t.text = [123]
    ·by_cases hd32:32<d
     ·rw [if_pos ⟨hq,hd32⟩,fl_at he ht,sg_bad (show (8:Nat)≠0 by decide)]
      rw [if_pos hq,if_pos hd32] at hgo
      exact Or.inr ⟨show (8:Nat)≠0 by decide,hgo⟩
     ·rw [if_neg (fun h=>hd32 h.2),hS,if_pos hq]
      rw [if_pos hq,if_neg hd32] at hgo
      refine Or.inl ⟨he,hd,hH,?_,by show s.had.length≤s.i+1;omega,hgo⟩
      exact hF.next htd (by rw [hq];decide)
    ·rw [if_neg (fun h=>hq h.1),hS,if_neg hq]
     rw [if_neg hq] at hgo
     exact Or.inr ⟨show (7:Nat)≠0 by decide,hgo⟩
  obtain⟨s1,hs1,ho1,hL1⟩:=hbeg
  replace ih:=hid ih
  replace hgo:=hid hgo
  replace hF:=hid hF
  replace h:=hid h
  replace hL1:=hid hL1
  replace ho1:=hid ho1
  replace hs1:=hid hs1
  replace hH:=hid hH
  by_cases hq:t.text = [123]
  case neg =>
   rw [decide_eq_false hq] at hB
   have e1:s.sg T 3 [123]=s1:=by have:=hs1.out;rwa [if_neg (fun h=>hq h.1)] at this
   have hne:s1.e≠0:=by rw [←e1,hS,if_neg hq];show (7:Nat)≠0;decide
   have heb:((s1.e:Int)==0)=false:=by simpa using hne
   replace hne:=hid hne
   replace hq:=hid hq
   clear hS
   go_enter Tryz.func28,Tryz.ntmps28
   go_wp2_with fail
   refine (is_c T w0 _ r 3 [123] vr vl vh vd s hT2 hs.has h.out).mono ?_
   rintro e w1 ⟨rfl,hx1⟩
   rw [hB]
   replace h:=hid <| h.out.on hx1
   clear hx1 hB
   go_wp2_with fail
   refine (sign_c T w0 _ r 3 [123] vr vl vh vd s hT2 hs.has h.out).mono ?_
   rintro e w2 ⟨rfl,h2,hX2⟩
   rw [e1] at h2
   obtain⟨c22,_⟩:=h2.cell 22 (.int .i64 s1.e) (fun _=>rfl)
   replace h2:=hid h2
   clear hX2 e1
   go_wp2_with fail
   refine wp_loop_rounds 1 ?_
   rw [rounds_succ]
   go_wp2_with fail
   refine (sign_c T w0 _ r 3 [125] vr vl vh vd s1 hT2 ho1.out.has h2.out).mono ?_
   rintro e w3 ⟨rfl,h3,hX3⟩
   replace h3:=hid h3
   clear hX3 c22
   go_wp2
   go_end0
   exact⟨rfl,_,vr,vl,vh,vd,h3.out,ho1.out.sg hE (by decide),lin_end hK hL1.out (Or.inl hne.out)⟩
  rw [decide_eq_true hq] at hB
  by_cases hd32:32<d
  ·have hd32i:(32:Int)<(d:Int):=by omega
   have e1:(s.fl T 8).sg T 3 [123]=s1:=by have:=hs1.out;rwa [if_pos ⟨hq,hd32⟩] at this
   have e2:s1=s.fl T 8:=by rw [←e1,fl_at he ht];exact sg_bad (show (8:Nat)≠0 by decide) _ _
   have hne:s1.e≠0:=by rw [e2,fl_at he ht];show (8:Nat)≠0;decide
   have heb:((s1.e:Int)==0)=false:=by simpa using hne
   replace hne:=hid hne
   replace hq:=hid hq
   replace e2:=hid e2
   clear hS
   go_enter Tryz.func28,Tryz.ntmps28
   go_wp2_with fail
   refine (is_c T w0 _ r 3 [123] vr vl vh vd s hT2 hs.has h.out).mono ?_
   rintro e w1 ⟨rfl,hx1⟩
   rw [hB]
   replace h:=hid <| h.out.on hx1
   clear hx1 hB
   go_wp2_with fail
   refine (fail_c T w0 _ r 8 vr vl vh vd s hT2 hs.has h.out).mono ?_
   rintro e w2 ⟨rfl,h2,hX2⟩
   rw [←e2.out] at h2
   replace h2:=hid h2
   clear hX2
   go_wp2_with fail
   refine (sign_c T w0 _ r 3 [123] vr vl vh vd s1 hT2 ho1.out.has h2.out).mono ?_
   rintro e w3 ⟨rfl,h3,hX3⟩
   rw [sg_bad hne.out] at h3
   obtain⟨c22,_⟩:=h3.cell 22 (.int .i64 s1.e) (fun _=>rfl)
   replace h3:=hid h3
   clear hX3 e1 h2
   go_wp2_with fail
   refine wp_loop_rounds 1 ?_
   rw [rounds_succ]
   go_wp2_with fail
   refine (sign_c T w0 _ r 3 [125] vr vl vh vd s1 hT2 ho1.out.has h3.out).mono ?_
   rintro e w4 ⟨rfl,h4,hX4⟩
   replace h4:=hid h4
   clear hX4 c22
   go_wp2
   go_end0
   exact⟨rfl,_,vr,vl,vh,vd,h4.out,ho1.out.sg hE (by decide),lin_end hK hL1.out (Or.inl hne.out)⟩
  have hd32i:¬ (32:Int)<(d:Int):=by omega
  have e1:s.sg T 3 [123]=s1:=by have:=hs1.out;rwa [if_neg (fun h=>hd32 h.2)] at this
  have hgt1:Hid (s1.e=0→s.i<s1.i):=fun _=>by rw [←e1,hS,if_pos hq];exact Nat.lt_succ_self s.i
  replace hq:=hid hq
  clear hS
  go_enter Tryz.func28,Tryz.ntmps28
  go_wp2_with fail
  refine (is_c T w0 _ r 3 [123] vr vl vh vd s hT2 hs.has h.out).mono ?_
  rintro e w1 ⟨rfl,hx1⟩
  rw [hB]
  replace h:=hid <| h.out.on hx1
  clear hx1 hB
  go_wp2_with fail
  refine (sign_c T w0 _ r 3 [123] vr vl vh vd s hT2 hs.has h.out).mono ?_
  rintro e w2 ⟨rfl,h2,hX2⟩
  rw [e1] at h2
  have h2:=hid h2
  clear hX2 e1
  go_wp2_with fail
  go_loopw [5] (fun v wr=>∃ S vr vl vh vd,Hid (Dn T w0 wr r vr vl vh vd S)∧Hid (Oks T S)∧Hid (Lin T d X S)∧Hid (S.e=0→s.i<S.i)) (fun _ wr=>Go.Proofs.YtcijdkbopiaicaaGreatDoor.dlen T wr r)
  case atStart=>exact ⟨s1,vr,vl,vh,vd,h2,ho1,hL1,hgt1⟩
  case round =>
   clear h2 hL1 ho1 hs1 h hgt1
   obtain⟨S,vr,vl,vh,vd,h,ho,hL,hSgt⟩:=hrel
   obtain⟨c22,_⟩:=h.out.cell 22 (.int .i64 S.e) (fun _=>rfl)
   have hdl:=hid h.out.dlen
   by_cases hSe:S.e=0
   case neg =>
    have heb:((S.e:Int)==0)=false:=by simpa using hSe
    replace hSe:=hid hSe
    go_wp2_with fail
    refine (sign_c T w0 _ r 3 [125] vr vl vh vd S hT2 ho.out.has h.out).mono ?_
    rintro e w4 ⟨rfl,h4,hX4⟩
    replace h4:=hid h4
    clear hX4 c22
    go_wp2
    go_end0
    exact⟨rfl,_,vr,vl,vh,vd,h4.out,ho.out.sg hE (by decide),lin_end hK hL.out (Or.inl hSe.out)⟩
   have heb:((S.e:Int)==0)=true:=by rw [hSe];rfl
   have hL2:=hL.out
   rcases hL2 with ⟨_,hd',hH',hF',hl',hX'⟩ | ⟨hbad,_⟩
   case inr=>exact absurd hSe hbad
   obtain⟨u,hu,hud⟩:=fine_kin hF'
   have huk:=hK u (List.mem_of_getElem? hu)
   have hB1:=isB_tok (k:=3) hSe hu huk (l:=[125]) (by decide)
   have hB2:=isB_tok (k:=3) hSe hu huk (l:=[123]) (by decide)
   rw [show ((3:Nat):Int)=3 from rfl] at hB1 hB2
   have hSi:=(List.getElem?_eq_some_iff.1 hu).1
   replace hX':=hid hX'
   replace hF':=hid hF'
   replace hH':=hid hH'
   replace hu:=hid hu
   replace hud:=hid hud
   by_cases hq1:u.text = [125]
   ·rw [decide_eq_true hq1] at hB1
    replace hq1:=hid hq1
    replace hSe:=hid hSe
    have hBx:=hid hB1
    go_wp2_with fail
    refine (is_c T w0 _ r 3 [125] vr vl vh vd S hT2 ho.out.has h.out).mono ?_
    rintro e w4 ⟨rfl,hx4⟩
    rw [hB1]
    replace h:=hid <| h.out.on hx4
    clear hx4 hB1 c22 hB2
    go_wp2_with fail
    refine (sign_c T w0 _ r 3 [125] vr vl vh vd S hT2 ho.out.has h.out).mono ?_
    rintro e w5 ⟨rfl,h5,hX5⟩
    replace h5:=hid h5
    clear hX5
    go_wp2
    go_end0
    exact⟨rfl,_,vr,vl,vh,vd,h5.out,ho.out.sg hE (by decide),lin_end hK hL.out (Or.inr hBx.out)⟩
   rw [decide_eq_false hq1] at hB1
   by_cases hq2:u.text = [123]
   ·rw [decide_eq_true hq2] at hB2
    replace hq1:=hid hq1
    replace hq2:=hid hq2
    replace hSe:=hid hSe
    go_wp2_with fail
    refine (is_c T w0 _ r 3 [125] vr vl vh vd S hT2 ho.out.has h.out).mono ?_
    rintro e w4 ⟨rfl,hx4⟩
    rw [hB1]
    replace h:=hid <| h.out.on hx4
    clear hx4 hB1 c22
    go_wp2_with fail
    refine (is_c T w0 _ r 3 [123] vr vl vh vd S hT2 ho.out.has h.out).mono ?_
    rintro e w5 ⟨rfl,hx5⟩
    rw [hB2]
    replace h:=hid <| h.out.on hx5
    clear hx5 hB2
    go_wp2_with fail
    refine (ih.out (d+1) _ _ vr vl vh vd S hd' (by omega) (by have:=hSgt.out hSe.out;omega) (by omega) hSe.out ho.out hH'.out hF'.out hl' h.out).mono ?_
    rintro e w6 ⟨rfl,s',vr',vl',vh',vd',h6,ho6,hg6⟩
    obtain⟨hL6,hi6⟩:=lin_nest hu.out hq2.out hF'.out hX'.out ho6 hg6
    have hm:Hid (Go.Proofs.YtcijdkbopiaicaaGreatDoor.dlen T w6 r<Go.Proofs.YtcijdkbopiaicaaGreatDoor.dlen T wr r):=by
     show _<_
     rw [h6.dlen,hdl.out,if_pos hSe.out]
     split
     ·rename_i h0;have:=hi6 h0;have:=ho6.le;omega
     ·omega
    have hgt6:Hid (s'.e=0→s.i<s'.i):=fun h0=>by have:=hi6 h0;have:=hSgt.out hSe.out;omega
    replace h6:=hid h6
    replace ho6:=hid ho6
    replace hL6:=hid hL6
    clear hg6 hi6
    go_wp2
    go_roundw
    case rel=>exact ⟨s',vr',vl',vh',vd',h6,ho6,hL6,hgt6⟩
    case measure=>exact hm.out
   rw [decide_eq_false hq2] at hB2
   replace hq1:=hid hq1
   replace hq2:=hid hq2
   replace hSe:=hid hSe
   go_wp2_with fail
   refine (is_c T w0 _ r 3 [125] vr vl vh vd S hT2 ho.out.has h.out).mono ?_
   rintro e w4 ⟨rfl,hx4⟩
   rw [hB1]
   replace h:=hid <| h.out.on hx4
   clear hx4 hB1 c22
   go_wp2_with fail
   refine (is_c T w0 _ r 3 [123] vr vl vh vd S hT2 ho.out.has h.out).mono ?_
   rintro e w5 ⟨rfl,hx5⟩
   rw [hB2]
   replace h:=hid <| h.out.on hx5
   clear hx5 hB2
   go_upto_region 6 with fail
   obtain⟨g,off,c,c0,hc,hgr,k0,k1,k2⟩:=h.out.tok hu.out
   obtain⟨c1,_⟩:=h.out.cell 1 (.int .i64 S.i) (fun _=>rfl)
   have hi1:(S.i:Int)<(T.length:Int):=by omega
   have hi0:(0:Int)≤(S.i:Int):=by omega
   have hdr:Ext w5 w5.drew:=(Ext.refl w5).drew
   refine L8.wp_region_thrown (fun W=>W.cell? ⟨r,0,none⟩=some (.slice (some ⟨g,off,none⟩) T.length c)∧W.cell? ⟨r,1,none⟩=some (.int .i64 S.i)∧W.cell? ⟨g,off+S.i * 3,none⟩=some (.int .i64 u.kind)∧W.cell? ⟨g,off+S.i * 3+1,none⟩=some (.int .i64 u.at_)∧W.cell? ⟨g,off+S.i * 3+2,none⟩=some (.string ⟨u.text.toArray⟩)) (fun a=>False) [] (fun t=>none) (fun x W=>False) (by kernel_rfl) (fun _ _ _ h1 _ h3=>h3.elim) ⟨hdr.cell_of c0,hdr.cell_of c1,hdr.cell_of k0,hdr.cell_of k1,hdr.cell_of k2⟩ (fun hSt=>?_)
   replace h:=hid <| h.out.on hdr
   clear c0 c1 k0 k1 k2
   generalize w5.drew=w6 at *
   clear hdr
   refine L8.tk 0 qc14x0 (some 32) (.pointer (some ⟨r,0,none⟩)) hSt (fun W hW=>?_) ?_
   ·unfold qc14x0
    go_simp
   simp only [p4]
   refine L8.tk 1 qc14x1 (some 33) (.pointer (some ⟨r,0,none⟩)) hSt (fun W hW=>?_) ?_
   ·unfold qc14x1
    go_simp
   simp only [p4]
   refine L8.tk 2 qc14x2 (some 34) (.pointer (some ⟨r,0,none⟩)) hSt (fun W hW=>?_) ?_
   ·unfold qc14x2
    go_simp
   simp only [p4]
   refine L8.tk 3 qc14x3 (some 35) (.slice (some ⟨g,off,none⟩) T.length c) hSt (fun W hW=>?_) ?_
   ·unfold qc14x3
    have hW1:=hW.1
    go_simp
   simp only [p4]
   refine L8.tk 4 qc14x4 (some 36) (.pointer (some ⟨r,0,none⟩)) hSt (fun W hW=>?_) ?_
   ·unfold qc14x4
    go_simp
   simp only [p4]
   refine L8.tk 5 qc14x5 (some 37) (.pointer (some ⟨r,0,none⟩)) hSt (fun W hW=>?_) ?_
   ·unfold qc14x5
    go_simp
   simp only [p4]
   refine L8.tk 6 qc14x6 (some 38) (.pointer (some ⟨r,1,none⟩)) hSt (fun W hW=>?_) ?_
   ·unfold qc14x6
    go_simp
   simp only [p4]
   refine L8.tk 7 qc14x7 (some 39) (.int .i64 S.i) hSt (fun W hW=>?_) ?_
   ·unfold qc14x7
    have hW1:=hW.2.1
    go_simp
   simp only [p4]
   refine L8.tk 8 qc14x8 (some 40) (.pointer (some ⟨g,off+S.i * 3,none⟩)) hSt (fun W hW=>?_) ?_
   ·unfold qc14x8
    go_simp
   simp only [p4]
   refine L8.tk 9 qc14x9 (some 41) (.agg #[.int .i64 u.kind,.int .i64 u.at_,.string ⟨u.text.toArray⟩]) hSt (fun W hW=>?_) ?_
   ·unfold qc14x9
    have hW1:=hW.2.2.1
    have hW2:=hW.2.2.2.1
    have hW3:=hW.2.2.2.2
    go_simp
   simp only [p4]
   obtain⟨W7,b,hW7,hb7,hx7,hB7⟩:∃ W b,w6.alloc (.cells #[.int .i64 0,.int .i64 0,.string ⟨#[]⟩] 64)=W∧w6.heap.size=b∧Ext w6 W∧W.heap[b]?=some (.cells #[.int .i64 0,.int .i64 0,.string ⟨#[]⟩] 64 (0,0)):=⟨_,_,rfl,rfl,(Ext.refl w6).alloc _ _,heap_alloc_last w6 _⟩
   have hrb:r≠b:=by have:=h.out.lt;omega
   have hgb:g≠b:=by have:=lt_of_cell hSt.2.2.1;omega
   have z0:W7.frozen? ⟨b,0,none⟩=false:=frozen_of_row W7 b 0 _ _ hB7
   have z1:W7.frozen? ⟨b,1,none⟩=false:=frozen_of_row W7 b 1 _ _ hB7
   have z2:W7.frozen? ⟨b,2,none⟩=false:=frozen_of_row W7 b 2 _ _ hB7
   have y0:=(cell_of_row W7 b 0 _ _ _ hB7).trans (show _=some (.int .i64 0) from rfl)
   have y1:=(cell_of_row W7 b 1 _ _ _ hB7).trans (show _=some (.int .i64 0) from rfl)
   have y2:=(cell_of_row W7 b 2 _ _ _ hB7).trans (show _=some (.string ⟨#[]⟩) from rfl)
   refine L8.up 10 qc14x10 fun K hK=>?_
   unfold qc14x10
   go_simp
   refine hK.out _ _ ⟨hx7.cell_of hSt.1,hx7.cell_of hSt.2.1,hx7.cell_of hSt.2.2.1,hx7.cell_of hSt.2.2.2.1,hx7.cell_of hSt.2.2.2.2⟩ ?_
   clear hK K
   intro _
   try simp only [p4]
   have hX8:Exr b W7 (((W7.setCell ⟨b,0,none⟩ (.int .i64 u.kind)).setCell ⟨b,1,none⟩ (.int .i64 u.at_)).setCell ⟨b,2,none⟩ (.string ⟨u.text.toArray⟩)):=(((Exr.refl b W7).set 0 _).set 1 _).set 2 _
   have hB8:(((W7.setCell ⟨b,0,none⟩ (.int .i64 u.kind)).setCell ⟨b,1,none⟩ (.int .i64 u.at_)).setCell ⟨b,2,none⟩ (.string ⟨u.text.toArray⟩)).heap[b]?=some (.cells #[.int .i64 u.kind,.int .i64 u.at_,.string ⟨u.text.toArray⟩] 64 (0,0)):=by
    have q0:=heap_setCell_same W7 b 0 _ _ (.int .i64 u.kind) hB7
    have q1:=heap_setCell_same _ b 1 _ _ (.int .i64 u.at_) q0
    have q2:=heap_setCell_same _ b 2 _ _ (.string ⟨u.text.toArray⟩) q1
    exact q2.trans rfl
   refine L8.up 11 qc14x11 fun K hK=>?_
   unfold qc14x11
   go_simp
   refine hK.out _ _ ⟨hX8.cell_of hrb (hx7.cell_of hSt.1),hX8.cell_of hrb (hx7.cell_of hSt.2.1),hX8.cell_of hgb (hx7.cell_of hSt.2.2.1),hX8.cell_of hgb (hx7.cell_of hSt.2.2.2.1),hX8.cell_of hgb (hx7.cell_of hSt.2.2.2.2)⟩ ?_
   clear hK K
   intro _
   try simp only [p4]
   refine L8.dn ?_
   have hx8:Ext w6 (((W7.setCell ⟨b,0,none⟩ (.int .i64 u.kind)).setCell ⟨b,1,none⟩ (.int .i64 u.at_)).setCell ⟨b,2,none⟩ (.string ⟨u.text.toArray⟩)):=((hx7.setCell (by show w6.heap.size≤b;omega) _).setCell (by show w6.heap.size≤b;omega) _).setCell (by show w6.heap.size≤b;omega) _
   replace h:=hid <| h.out.on hx8
   clear hX8 hx8 hx7 hB7 z0 z1 z2 y0 y1 y2 hW7 hSt hgb hi0 hi1 hc hgr hb7
   generalize ((W7.setCell ⟨b,0,none⟩ (.int .i64 u.kind)).setCell ⟨b,1,none⟩ (.int .i64 u.at_)).setCell ⟨b,2,none⟩ (.string ⟨u.text.toArray⟩)=W8 at *
   obtain⟨M,hM⟩:∃ M,manyB u.text=M:=⟨_,rfl⟩
   have hMM:=hid hM
   go_upto_region 7 with fail
   go_cut [5] from 16 to 103 (fun t wx=>t=.bool M∧wx=W8)
   case first =>
    have cb2:=(cell_of_row W8 b 2 _ _ _ hB8).trans (show _=some (.string ⟨u.text.toArray⟩) from rfl)
    clear ih hgo hF h ho hL hX' hF' hH' hu hud hB8 hMM
    unfold manyB at hM
    by_cases m0:u.text = [114,101,115,101,116]
    ·have n0:(u.text==[114,101,115,101,116])=true:=by simp [m0]
     rw [n0] at hM
     simp at hM
     subst hM
     clear m0
     go_wp2
     all_goals (go_meet;exact ⟨rfl,rfl⟩)
    have n0:(u.text==[114,101,115,101,116])=false:=by simp [m0]
    rw [n0] at hM
    by_cases m1:u.text = [108,97,116,101]
    ·have n1:(u.text==[108,97,116,101])=true:=by simp [m1]
     rw [n1] at hM
     simp at hM
     subst hM
     clear m1
     go_wp2
     all_goals (go_meet;exact ⟨rfl,rfl⟩)
    have n1:(u.text==[108,97,116,101])=false:=by simp [m1]
    rw [n1] at hM
    by_cases m2:u.text = [104,111,108,105,100,97,121]
    ·have n2:(u.text==[104,111,108,105,100,97,121])=true:=by simp [m2]
     rw [n2] at hM
     simp at hM
     subst hM
     clear m2
     go_wp2
     all_goals (go_meet;exact ⟨rfl,rfl⟩)
    have n2:(u.text==[104,111,108,105,100,97,121])=false:=by simp [m2]
    rw [n2] at hM
    simp at hM
    subst hM
    go_wp2
    all_goals (go_meet;exact ⟨rfl,rfl⟩)
   case rest =>
    obtain⟨rfl,rfl⟩:=hcut
    go_upto_region 8 with fail
    by_cases hk1:u.kind=1
    case neg =>
     have hki:((u.kind:Int) != 1)=true:=by simpa using fun h:(u.kind:Int)=1=>hk1 (by omega)
     have hbad:Hid (badB S.had u=true):=by show _=_;unfold badB;rw [decide_eq_false hk1];rfl
     have hdr:Ext wc wc.drew:=(Ext.refl wc).drew
     have cb0:=(cell_of_row wc b 0 _ _ _ hB8).trans (show _=some (.int .i64 u.kind) from rfl)
     have cb2:=(cell_of_row wc b 2 _ _ _ hB8).trans (show _=some (.string ⟨u.text.toArray⟩) from rfl)
     have c21:=(h.out.cell 21 vd (fun _=>rfl)).1
     refine L8.wt (fun W=>Ext wc W) hdr fun hSt=>?_
     generalize wc.drew=w9 at *
     refine L8.tk 0 qc14x12 (some 55) (.pointer (some ⟨b,0,none⟩)) hSt (fun W hW=>?_) ?_
     ·unfold qc14x12
      go_simp
     simp only [p4]
     refine L8.tk 1 qc14x13 (some 56) (.int .i64 u.kind) hSt (fun W hW=>?_) ?_
     ·unfold qc14x13
      have hW1:=(show Ext wc W from hW).cell_of cb0
      go_simp
     simp only [p4]
     refine L8.tk 2 qc14x14 (some 57) (.bool true) hSt (fun W hW=>?_) ?_
     ·unfold qc14x14
      go_simp
     simp only [p4]
     refine L8.tk 3 qc14x15 (some 58) (.bool true) hSt (fun W hW=>?_) ?_
     ·unfold qc14x15
      go_simp
     simp only [p4]
     refine L8.tn 4 qc14x16 (some 59) hSt ?_
     simp only [p4]
     refine L8.tn 5 qc14x17 (some 60) hSt ?_
     simp only [p4]
     refine L8.tn 6 qc14x18 (some 61) hSt ?_
     simp only [p4]
     refine L8.tn 7 qc14x19 (some 62) hSt ?_
     simp only [p4]
     refine L8.tn 8 qc14x20 (some 63) hSt ?_
     simp only [p4]
     refine L8.tk 9 qc14x21 (some 64) (.bool true) hSt (fun W hW=>?_) ?_
     ·unfold qc14x21
      go_simp
     simp only [p4]
     refine L8.tk 10 qc14x22 (some 65) (.bool true) hSt (fun W hW=>?_) ?_
     ·unfold qc14x22
      go_simp
     simp only [p4]
     refine L8.tn 11 qc14x23 (some 66) hSt ?_
     simp only [p4]
     refine L8.tn 12 qc14x24 (some 67) hSt ?_
     simp only [p4]
     refine L8.tn 13 qc14x25 (some 68) hSt ?_
     simp only [p4]
     refine L8.tn 14 qc14x26 (some 69) hSt ?_
     simp only [p4]
     refine L8.tn 15 qc14x27 (some 70) hSt ?_
     simp only [p4]
     refine L8.tn 16 qc14x28 (some 71) hSt ?_
     simp only [p4]
     refine L8.tn 17 qc14x29 (some 72) hSt ?_
     simp only [p4]
     refine L8.tn 18 qc14x30 (some 73) hSt ?_
     simp only [p4]
     refine L8.tn 19 qc14x31 (some 74) hSt ?_
     simp only [p4]
     refine L8.tn 20 qc14x32 (some 75) hSt ?_
     simp only [p4]
     refine L8.tn 21 qc14x33 (some 76) hSt ?_
     simp only [p4]
     refine L8.tk 22 qc14x34 (some 77) (.bool true) hSt (fun W hW=>?_) ?_
     ·unfold qc14x34
      go_simp
     simp only [p4]
     refine L8.dn ?_
     clear hdr cb0 cb2 c21
     have hx9:=hid hSt
     clear hSt
     replace h:=hid <| h.out.on hx9.out
     go_wp2_with fail
     refine (fail_c T w0 _ r 7 vr vl vh vd S hT2 ho.out.has h.out).mono ?_
     rintro e we ⟨rfl,h10,hX10⟩
     replace h10:=hid h10
     clear hX10
     go_wp2
     refine bodyPost_ret (results_none rfl _ _ _) rfl ?_
     exact⟨rfl,_,vr,vl,vh,vd,h10.out,ho.out.fl (by decide),lin_bad hSe.out hu.out huk hq1.out hq2.out hH'.out hF'.out hX'.out hbad.out⟩
    have hki:((u.kind:Int) != 1)=false:=by simp [hk1]
    by_cases hwd:u.text∈words
    case neg =>
     have hwno:=decide_eq_false hwd
     have hbad:Hid (badB S.had u=true):=by show _=_;unfold badB;rw [hwno];simp
     have hdr:Ext wc wc.drew:=(Ext.refl wc).drew
     have cb0:=(cell_of_row wc b 0 _ _ _ hB8).trans (show _=some (.int .i64 u.kind) from rfl)
     have cb2:=(cell_of_row wc b 2 _ _ _ hB8).trans (show _=some (.string ⟨u.text.toArray⟩) from rfl)
     have c21:=(h.out.cell 21 vd (fun _=>rfl)).1
     refine L8.wt (fun W=>Ext wc W) hdr fun hSt=>?_
     generalize wc.drew=w9 at *
     refine L8.tk 0 qc14x12 (some 55) (.pointer (some ⟨b,0,none⟩)) hSt (fun W hW=>?_) ?_
     ·unfold qc14x12
      go_simp
     simp only [p4]
     refine L8.tk 1 qc14x13 (some 56) (.int .i64 u.kind) hSt (fun W hW=>?_) ?_
     ·unfold qc14x13
      have hW1:=(show Ext wc W from hW).cell_of cb0
      go_simp
     simp only [p4]
     refine L8.tk 2 qc14x14 (some 57) (.bool false) hSt (fun W hW=>?_) ?_
     ·unfold qc14x14
      go_simp
     simp only [p4]
     refine L8.tk 3 qc14x15 (some 58) (.bool false) hSt (fun W hW=>?_) ?_
     ·unfold qc14x15
      go_simp
     simp only [p4]
     refine L8.tk 5 qc14x17 (some 60) (.pointer (some ⟨b,2,none⟩)) hSt (fun W hW=>?_) ?_
     ·unfold qc14x17
      go_simp
     simp only [p4]
     refine L8.tk 6 qc14x18 (some 61) (.string ⟨u.text.toArray⟩) hSt (fun W hW=>?_) ?_
     ·unfold qc14x18
      have hW1:=(show Ext wc W from hW).cell_of cb2
      go_simp
     simp only [p4]
     refine L8.up 4 qc14x16 fun K hK=>?_
     unfold qc14x16
     go_simp
     refine (clauses_c _).mono ?_
     rintro e wd ⟨⟨q,rfl,hSq⟩,hxd⟩
     try dsimp only
     have hSd:=Ext.trans hSt hxd
     refine hK.out _ _ hSd ?_
     clear hK K
     intro _
     try simp only [p4]
     have hin:=L8.InS_c q 15 words u.text wd (by decide) hSq
     rw [hwno] at hin
     replace hin:Calls Tryz.prog 30 #[.slice (some ⟨q,0,none⟩) 15 15,.string ⟨u.text.toArray⟩] wd fun e w'=>e=.returned (.bool false)∧w'=wd:=hin
     refine L8.up 7 qc14x19 fun K hK=>?_
     unfold qc14x19
     go_simp
     refine Calls.mono hin ?_
     rintro e wd ⟨rfl,rfl⟩
     try dsimp only
     refine hK.out _ _ hSd ?_
     clear hK K
     intro _
     try simp only [p4]
     refine L8.tk 8 qc14x20 (some 63) (.bool true) hSd (fun W hW=>?_) ?_
     ·unfold qc14x20
      go_simp
     simp only [p4]
     refine L8.tk 9 qc14x21 (some 64) (.bool true) hSd (fun W hW=>?_) ?_
     ·unfold qc14x21
      go_simp
     simp only [p4]
     refine L8.tk 10 qc14x22 (some 65) (.bool true) hSd (fun W hW=>?_) ?_
     ·unfold qc14x22
      go_simp
     simp only [p4]
     refine L8.tn 11 qc14x23 (some 66) hSd ?_
     simp only [p4]
     refine L8.tn 12 qc14x24 (some 67) hSd ?_
     simp only [p4]
     refine L8.tn 13 qc14x25 (some 68) hSd ?_
     simp only [p4]
     refine L8.tn 14 qc14x26 (some 69) hSd ?_
     simp only [p4]
     refine L8.tn 15 qc14x27 (some 70) hSd ?_
     simp only [p4]
     refine L8.tn 16 qc14x28 (some 71) hSd ?_
     simp only [p4]
     refine L8.tn 17 qc14x29 (some 72) hSd ?_
     simp only [p4]
     refine L8.tn 18 qc14x30 (some 73) hSd ?_
     simp only [p4]
     refine L8.tn 19 qc14x31 (some 74) hSd ?_
     simp only [p4]
     refine L8.tn 20 qc14x32 (some 75) hSd ?_
     simp only [p4]
     refine L8.tn 21 qc14x33 (some 76) hSd ?_
     simp only [p4]
     refine L8.tk 22 qc14x34 (some 77) (.bool true) hSd (fun W hW=>?_) ?_
     ·unfold qc14x34
      go_simp
     simp only [p4]
     refine L8.dn ?_
     clear hdr cb0 cb2 c21 hSt hxd hSq hin
     have hx9:=hid hSd
     clear hSd
     replace h:=hid <| h.out.on hx9.out
     go_wp2_with fail
     refine (fail_c T w0 _ r 7 vr vl vh vd S hT2 ho.out.has h.out).mono ?_
     rintro e we ⟨rfl,h10,hX10⟩
     replace h10:=hid h10
     clear hX10
     go_wp2
     refine bodyPost_ret (results_none rfl _ _ _) rfl ?_
     exact⟨rfl,_,vr,vl,vh,vd,h10.out,ho.out.fl (by decide),lin_bad hSe.out hu.out huk hq1.out hq2.out hH'.out hF'.out hX'.out hbad.out⟩
    have hwin:=decide_eq_true hwd
    cases M
    case true =>
     have hgood:Hid (badB S.had u=false):=by show _=_;unfold badB;rw [hwin,hM,decide_eq_true hk1];rfl
     have hdr:Ext wc wc.drew:=(Ext.refl wc).drew
     have cb0:=(cell_of_row wc b 0 _ _ _ hB8).trans (show _=some (.int .i64 u.kind) from rfl)
     have cb2:=(cell_of_row wc b 2 _ _ _ hB8).trans (show _=some (.string ⟨u.text.toArray⟩) from rfl)
     have c21:=(h.out.cell 21 vd (fun _=>rfl)).1
     refine L8.wt (fun W=>Ext wc W) hdr fun hSt=>?_
     generalize wc.drew=w9 at *
     refine L8.tk 0 qc14x12 (some 55) (.pointer (some ⟨b,0,none⟩)) hSt (fun W hW=>?_) ?_
     ·unfold qc14x12
      go_simp
     simp only [p4]
     refine L8.tk 1 qc14x13 (some 56) (.int .i64 u.kind) hSt (fun W hW=>?_) ?_
     ·unfold qc14x13
      have hW1:=(show Ext wc W from hW).cell_of cb0
      go_simp
     simp only [p4]
     refine L8.tk 2 qc14x14 (some 57) (.bool false) hSt (fun W hW=>?_) ?_
     ·unfold qc14x14
      go_simp
     simp only [p4]
     refine L8.tk 3 qc14x15 (some 58) (.bool false) hSt (fun W hW=>?_) ?_
     ·unfold qc14x15
      go_simp
     simp only [p4]
     refine L8.tk 5 qc14x17 (some 60) (.pointer (some ⟨b,2,none⟩)) hSt (fun W hW=>?_) ?_
     ·unfold qc14x17
      go_simp
     simp only [p4]
     refine L8.tk 6 qc14x18 (some 61) (.string ⟨u.text.toArray⟩) hSt (fun W hW=>?_) ?_
     ·unfold qc14x18
      have hW1:=(show Ext wc W from hW).cell_of cb2
      go_simp
     simp only [p4]
     refine L8.up 4 qc14x16 fun K hK=>?_
     unfold qc14x16
     go_simp
     refine (clauses_c _).mono ?_
     rintro e wd ⟨⟨q,rfl,hSq⟩,hxd⟩
     try dsimp only
     have hSd:=Ext.trans hSt hxd
     refine hK.out _ _ hSd ?_
     clear hK K
     intro _
     try simp only [p4]
     have hin:=L8.InS_c q 15 words u.text wd (by decide) hSq
     rw [hwin] at hin
     replace hin:Calls Tryz.prog 30 #[.slice (some ⟨q,0,none⟩) 15 15,.string ⟨u.text.toArray⟩] wd fun e w'=>e=.returned (.bool true)∧w'=wd:=hin
     refine L8.up 7 qc14x19 fun K hK=>?_
     unfold qc14x19
     go_simp
     refine Calls.mono hin ?_
     rintro e wd ⟨rfl,rfl⟩
     try dsimp only
     refine hK.out _ _ hSd ?_
     clear hK K
     intro _
     try simp only [p4]
     refine L8.tk 8 qc14x20 (some 63) (.bool false) hSd (fun W hW=>?_) ?_
     ·unfold qc14x20
      go_simp
     simp only [p4]
     refine L8.tk 9 qc14x21 (some 64) (.bool false) hSd (fun W hW=>?_) ?_
     ·unfold qc14x21
      go_simp
     simp only [p4]
     refine L8.tk 10 qc14x22 (some 65) (.bool false) hSd (fun W hW=>?_) ?_
     ·unfold qc14x22
      go_simp
     simp only [p4]
     refine L8.tk 11 qc14x23 (some 66) (.bool true) hSd (fun W hW=>?_) ?_
     ·unfold qc14x23
      go_simp
     simp only [p4]
     refine L8.tk 12 qc14x24 (some 67) (.bool false) hSd (fun W hW=>?_) ?_
     ·unfold qc14x24
      go_simp
     simp only [p4]
     refine L8.tk 13 qc14x25 (some 68) (.bool false) hSd (fun W hW=>?_) ?_
     ·unfold qc14x25
      go_simp
     simp only [p4]
     refine L8.tn 14 qc14x26 (some 69) hSd ?_
     simp only [p4]
     refine L8.tn 15 qc14x27 (some 70) hSd ?_
     simp only [p4]
     refine L8.tn 16 qc14x28 (some 71) hSd ?_
     simp only [p4]
     refine L8.tn 17 qc14x29 (some 72) hSd ?_
     simp only [p4]
     refine L8.tn 18 qc14x30 (some 73) hSd ?_
     simp only [p4]
     refine L8.tn 19 qc14x31 (some 74) hSd ?_
     simp only [p4]
     refine L8.tn 20 qc14x32 (some 75) hSd ?_
     simp only [p4]
     refine L8.tk 21 qc14x33 (some 76) (.bool false) hSd (fun W hW=>?_) ?_
     ·unfold qc14x33
      go_simp
     simp only [p4]
     refine L8.tk 22 qc14x34 (some 77) (.bool false) hSd (fun W hW=>?_) ?_
     ·unfold qc14x34
      go_simp
     simp only [p4]
     refine L8.dn ?_
     clear hdr cb0 cb2 c21 hSt hxd hSq hin
     have hx9:=hid hSd
     clear hSd
     replace h:=hid <| h.out.on hx9.out
     have hBd:=stayD hB8 hx9.out
     clear hx9 hB8
     obtain⟨ao,cp,hvs⟩:=own_slice h.out.sd
     subst hvs
     obtain⟨i0,hi,hz0,hz1,hz2⟩:=info_parts info_st
     have hvd:=(h.out.cell 21 (.slice ao S.had.length cp) (fun _=>rfl)).1
     go_upto_region 10 with fail
     have hdr:Ext wd wd.drew:=(Ext.refl wd).drew
     refine L8.wt (fun W=>W.heap[b]?=some (.cells #[.int .i64 u.kind,.int .i64 u.at_,.string ⟨u.text.toArray⟩] 64 (0,0))) (stayD hBd hdr) fun hSt=>?_
     replace hvd:=hdr.cell_of hvd
     replace h:=hid <| h.out.on hdr
     clear hdr hBd
     generalize wd.drew=we at *
     refine L8.tk 0 qc14x35 (some 80) (.pointer (some ⟨r,0,none⟩)) hSt (fun W hW=>?_) ?_
     ·unfold qc14x35
      go_simp
     simp only [p4]
     refine L8.tk 1 qc14x36 (some 81) (.pointer (some ⟨r,0,none⟩)) hSt (fun W hW=>?_) ?_
     ·unfold qc14x36
      go_simp
     simp only [p4]
     refine L8.tk 2 qc14x37 (some 82) (.pointer (some ⟨r,0,none⟩)) hSt (fun W hW=>?_) ?_
     ·unfold qc14x37
      go_simp
     simp only [p4]
     refine L8.tk 3 qc14x38 (some 83) (.pointer (some ⟨r,21,none⟩)) hSt (fun W hW=>?_) ?_
     ·unfold qc14x38
      go_simp
     simp only [p4]
     refine L8.tk 5 qc14x39 (some 85) (.pointer (some ⟨b,2,none⟩)) hSt (fun W hW=>?_) ?_
     ·unfold qc14x39
      go_simp
     simp only [p4]
     refine L8.tk 6 qc14x40 (some 86) (.string ⟨u.text.toArray⟩) hSt (fun W hW=>?_) ?_
     ·unfold qc14x40
      have hW1:=(cell_of_row W b 2 _ _ _ hW).trans (show _=some (.string ⟨u.text.toArray⟩) from rfl)
      go_simp
     simp only [p4]
     refine wpAnyH_ready (rs:=[4,7]) (by kernel_rfl) (by simp) ?_
     refine AllReadyH.cons (o:=qc14x41) rfl (fun K hK=>?ra1) (AllReadyH.cons (o:=qc14x42) rfl (fun K hK=>?rb1) AllReadyH.nil)
     case' ra1 =>
      unfold qc14x41
      go_simp
      refine hK.out _ _ hSt ?_
      clear hK K
      intro _
      try simp only [p4]
      refine L8.up 7 qc14x42 fun K hK=>?_
      unfold qc14x42
      go_simp
      refine hK.out _ _ (stayD hSt ((Ext.refl we).alloc #[.string ⟨u.text.toArray⟩] 9)) ?_
      clear hK K
      intro _
      try simp only [p4]
     case' rb1 =>
      unfold qc14x42
      go_simp
      refine hK.out _ _ (stayD hSt ((Ext.refl we).alloc #[.string ⟨u.text.toArray⟩] 9)) ?_
      clear hK K
      intro _
      try simp only [p4]
      have hvd3:=((Ext.refl we).alloc #[.string ⟨u.text.toArray⟩] 9).cell_of hvd
      refine L8.up 4 qc14x41 fun K hK=>?_
      unfold qc14x41
      go_simp
      refine hK.out _ _ (stayD hSt ((Ext.refl we).alloc #[.string ⟨u.text.toArray⟩] 9)) ?_
      clear hK K
      intro _
      try simp only [p4]
     all_goals
      refine L8.up 8 qc14x43 fun K hK=>?_
      unfold qc14x43
      rw [if_pos (by rfl)]
      have h2:=h.out.on ((Ext.refl we).alloc #[.string ⟨u.text.toArray⟩] 9)
      have hsz:=h2.ext.size
      refine wp_append_own _ (.tmp 84) (.tmp 87) 41 rfl w0.heap.size 9 i0 (.string ⟨#[]⟩) 1 16 Tryz.underlying41 hi hz0 hz1 hz2 rfl (by decide) _ _ _ rfl h2.sd ⟨we.heap.size,0,none⟩ 1 1 [strV u.text] rfl rfl ?c1 ?c2 ?c3 ?c4 ?c5 ?_
      case c1 =>
       intro p u' hp
       match p,hp with
       | 0,hp=>simp at hp;subst hp;simp [Addr.add,go_sem,strV]
       | p+1,hp=>simp at hp
      case c2=>intro u' hu';simp at hu';subst hu';rfl
      case c3=>unfold maxLen;show S.had.length+1≤_;omega
      case c4=>show (S.had.length+1) * 16≤_;omega
      case c5=>exact hsz
      intro v' wf hown hgrow _
      obtain⟨ao2,cp2,hv2⟩:=own_slice hown
      subst hv2
      have hG:=h2.grow h2.sd hgrow (by decide)
      obtain⟨vt,hr3,_⟩:=hG.row
      have c3:=(cell_of_row wf r 21 _ _ _ hr3).trans (show _=some (.slice ao S.had.length cp) from rfl)
      have z3:=frozen_of_row wf r 21 _ _ hr3
      have hSf:=(hG.keep 64 b _ (by decide) (stayD hSt ((Ext.refl we).alloc #[.string ⟨u.text.toArray⟩] 9))).trans (stayD hSt ((Ext.refl we).alloc #[.string ⟨u.text.toArray⟩] 9))
      have hfin:=hid <| Dgr.fin_d h2 hG _ u.text hown
      have hSg:=fun v=>(heap_setCell_other wf ⟨r,21,none⟩ b v (Ne.symm hrb)).trans hSf
      clear hr3 hG hgrow hown hvd h2 hsz
      refine hK.out _ _ hSf ?_
      clear hK K
      intro _
      try simp only [p4]
      refine L8.tk 9 qc14x44 (some 89) (.pointer (some ⟨r,0,none⟩)) hSf (fun W hW=>?_) ?_
      ·unfold qc14x44
       go_simp
      simp only [p4]
      refine L8.tk 10 qc14x45 (some 90) (.pointer (some ⟨r,21,none⟩)) hSf (fun W hW=>?_) ?_
      ·unfold qc14x45
       go_simp
      simp only [p4]
      refine L8.up 11 qc14x46 fun K hK=>?_
      unfold qc14x46
      go_simp
      refine hK.out _ _ (hSg _) ?_
      clear hK K
      intro _
      try simp only [p4]
      refine L8.dn ?_
      have hBg:=hSg (.slice ao2 (S.had.length+1) cp2)
      clear hSg hSf h c3 z3
      generalize wf.setCell ⟨r,21,none⟩ (.slice ao2 (S.had.length+1) cp2)=wg at *
      obtain⟨e1,y1⟩:=hfin.out.cell 1 (.int .i64 S.i) (fun _=>rfl)
      have hinc:=hid <| hfin.out.inc (v:=(S.i:Int)+1) rfl
      have cq:(wg.setCell ⟨r,1,none⟩ (.int .i64 ((S.i:Int)+1))).cell? ⟨b,2,none⟩=some (.string ⟨u.text.toArray⟩):=by
       rw [L8.other _ (Or.inl hrb)]
       exact (cell_of_row wg b 2 _ _ _ hBg).trans rfl
      have hwh15:which u.text<15:=by have:=in_words u.text;rw [decide_eq_true hwd] at this;exact of_decide_eq_true this.symm
      have hA:Oks T { S with had:=S.had++[u.text],i:=S.i+1 }:=(Oks.inc hE hu.out (fun hn=>by rw [hn] at hwh15;revert hwh15;decide)).turn rfl rfl
      have hC:Hid (∀ W vd',Dn T w0 W r vr vl vh vd' { S with had:=S.had++[u.text],i:=S.i+1 }→Calls Tryz.prog 60 #[.pointer (some ⟨r,0,none⟩),.string ⟨u.text.toArray⟩] W fun e w'=>Cld T w0 r vd' { S with had:=S.had++[u.text],i:=S.i+1 } (which u.text) e w'):=fun W vd' hW=>by
       have:=clauseD_c T w0 W r vr vl vh vd' { S with had:=S.had++[u.text],i:=S.i+1 } (which u.text) hwh15 hT2 hX hE hK he0 hA hSe.out (by have:=hF'.out.few;simp only [] at this ⊢;omega) hW
       rwa [which_at hwh15] at this
      clear hfin hBg
      go_wp2_with fail
      refine Calls.mono (hC.out _ _ hinc.out) ?_
      rintro e wh ⟨rfl,s2,vr2,vl2,vh2,h12,hR⟩
      clear hC hinc cq e1 y1 hA
      replace h12:=hid h12
      replace hR:=hid hR
      go_wp2_with fail
      refine (sign_c T w0 _ r 3 [59] vr2 vl2 vh2 _ s2 hT2 hR.out.1.has h12.out).mono ?_
      rintro e wi ⟨rfl,h13,hX13⟩
      obtain⟨hL7,hi7⟩:=lin_clause hK hSe.out hu.out hq1.out hq2.out hH'.out hF'.out hl' hX'.out hgood.out hR.out
      have ho7:=hid <| hR.out.1.sg hE (k:=3) (l:=[59]) (by decide)
      have hm:Hid (Go.Proofs.YtcijdkbopiaicaaGreatDoor.dlen T wi r<Go.Proofs.YtcijdkbopiaicaaGreatDoor.dlen T wr r):=by
       show _<_
       rw [h13.dlen,hdl.out,if_pos hSe.out]
       split
       ·rename_i h0;have:=hi7 h0;have:=ho7.out.le;omega
       ·omega
      have hgt:Hid ((s2.sg T 3 [59]).e=0→s.i<(s2.sg T 3 [59]).i):=fun h0=>by have:=hi7 h0;have:=hSgt.out hSe.out;omega
      replace h13:=hid h13
      replace hL7:=hid hL7
      clear hX13 h12 hi7 hR
      go_wp2
      go_roundw
      case rel=>exact ⟨_,vr2,vl2,vh2,_,h13,ho7,hL7,hgt⟩
      case measure=>exact hm.out
    by_cases hwh:u.text∈S.had
    case pos =>
     have hhin:=decide_eq_true hwh
     have hbad:Hid (badB S.had u=true):=by show _=_;unfold badB;rw [hwin,hM,decide_eq_true hk1,hhin];rfl
     have hdr:Ext wc wc.drew:=(Ext.refl wc).drew
     have cb0:=(cell_of_row wc b 0 _ _ _ hB8).trans (show _=some (.int .i64 u.kind) from rfl)
     have cb2:=(cell_of_row wc b 2 _ _ _ hB8).trans (show _=some (.string ⟨u.text.toArray⟩) from rfl)
     have c21:=(h.out.cell 21 vd (fun _=>rfl)).1
     refine L8.wt (fun W=>Ext wc W) hdr fun hSt=>?_
     generalize wc.drew=w9 at *
     refine L8.tk 0 qc14x12 (some 55) (.pointer (some ⟨b,0,none⟩)) hSt (fun W hW=>?_) ?_
     ·unfold qc14x12
      go_simp
     simp only [p4]
     refine L8.tk 1 qc14x13 (some 56) (.int .i64 u.kind) hSt (fun W hW=>?_) ?_
     ·unfold qc14x13
      have hW1:=(show Ext wc W from hW).cell_of cb0
      go_simp
     simp only [p4]
     refine L8.tk 2 qc14x14 (some 57) (.bool false) hSt (fun W hW=>?_) ?_
     ·unfold qc14x14
      go_simp
     simp only [p4]
     refine L8.tk 3 qc14x15 (some 58) (.bool false) hSt (fun W hW=>?_) ?_
     ·unfold qc14x15
      go_simp
     simp only [p4]
     refine L8.tk 5 qc14x17 (some 60) (.pointer (some ⟨b,2,none⟩)) hSt (fun W hW=>?_) ?_
     ·unfold qc14x17
      go_simp
     simp only [p4]
     refine L8.tk 6 qc14x18 (some 61) (.string ⟨u.text.toArray⟩) hSt (fun W hW=>?_) ?_
     ·unfold qc14x18
      have hW1:=(show Ext wc W from hW).cell_of cb2
      go_simp
     simp only [p4]
     refine L8.up 4 qc14x16 fun K hK=>?_
     unfold qc14x16
     go_simp
     refine (clauses_c _).mono ?_
     rintro e wd ⟨⟨q,rfl,hSq⟩,hxd⟩
     try dsimp only
     have hSd:=Ext.trans hSt hxd
     refine hK.out _ _ hSd ?_
     clear hK K
     intro _
     try simp only [p4]
     have hin:=L8.InS_c q 15 words u.text wd (by decide) hSq
     rw [hwin] at hin
     replace hin:Calls Tryz.prog 30 #[.slice (some ⟨q,0,none⟩) 15 15,.string ⟨u.text.toArray⟩] wd fun e w'=>e=.returned (.bool true)∧w'=wd:=hin
     refine L8.up 7 qc14x19 fun K hK=>?_
     unfold qc14x19
     go_simp
     refine Calls.mono hin ?_
     rintro e wd ⟨rfl,rfl⟩
     try dsimp only
     refine hK.out _ _ hSd ?_
     clear hK K
     intro _
     try simp only [p4]
     refine L8.tk 8 qc14x20 (some 63) (.bool false) hSd (fun W hW=>?_) ?_
     ·unfold qc14x20
      go_simp
     simp only [p4]
     refine L8.tk 9 qc14x21 (some 64) (.bool false) hSd (fun W hW=>?_) ?_
     ·unfold qc14x21
      go_simp
     simp only [p4]
     refine L8.tk 10 qc14x22 (some 65) (.bool false) hSd (fun W hW=>?_) ?_
     ·unfold qc14x22
      go_simp
     simp only [p4]
     refine L8.tk 11 qc14x23 (some 66) (.bool false) hSd (fun W hW=>?_) ?_
     ·unfold qc14x23
      go_simp
     simp only [p4]
     refine L8.tk 12 qc14x24 (some 67) (.bool true) hSd (fun W hW=>?_) ?_
     ·unfold qc14x24
      go_simp
     simp only [p4]
     refine L8.tk 13 qc14x25 (some 68) (.bool true) hSd (fun W hW=>?_) ?_
     ·unfold qc14x25
      go_simp
     simp only [p4]
     refine L8.tk 14 qc14x26 (some 69) (.pointer (some ⟨r,0,none⟩)) hSd (fun W hW=>?_) ?_
     ·unfold qc14x26
      go_simp
     simp only [p4]
     refine L8.tk 15 qc14x27 (some 70) (.pointer (some ⟨r,0,none⟩)) hSd (fun W hW=>?_) ?_
     ·unfold qc14x27
      go_simp
     simp only [p4]
     refine L8.tk 16 qc14x28 (some 71) (.pointer (some ⟨r,21,none⟩)) hSd (fun W hW=>?_) ?_
     ·unfold qc14x28
      go_simp
     simp only [p4]
     refine L8.tk 17 qc14x29 (some 72) (vd) hSd (fun W hW=>?_) ?_
     ·unfold qc14x29
      have hW1:=(show Ext wc W from hW).cell_of c21
      go_simp
     simp only [p4]
     refine L8.tk 18 qc14x30 (some 73) (.pointer (some ⟨b,2,none⟩)) hSd (fun W hW=>?_) ?_
     ·unfold qc14x30
      go_simp
     simp only [p4]
     refine L8.tk 19 qc14x31 (some 74) (.string ⟨u.text.toArray⟩) hSd (fun W hW=>?_) ?_
     ·unfold qc14x31
      have hW1:=(show Ext wc W from hW).cell_of cb2
      go_simp
     simp only [p4]
     have hin2:=InS_own (h.out.on hSd).sd (by omega) u.text
     rw [hhin] at hin2
     refine L8.up 20 qc14x32 fun K hK=>?_
     unfold qc14x32
     go_simp
     refine Calls.mono hin2 ?_
     rintro e wd ⟨rfl,rfl⟩
     try dsimp only
     refine hK.out _ _ hSd ?_
     clear hK K
     intro _
     try simp only [p4]
     refine L8.tk 21 qc14x33 (some 76) (.bool true) hSd (fun W hW=>?_) ?_
     ·unfold qc14x33
      go_simp
     simp only [p4]
     refine L8.tk 22 qc14x34 (some 77) (.bool true) hSd (fun W hW=>?_) ?_
     ·unfold qc14x34
      go_simp
     simp only [p4]
     refine L8.dn ?_
     clear hdr cb0 cb2 c21 hSt hxd hSq hin
     have hx9:=hid hSd
     clear hSd
     replace h:=hid <| h.out.on hx9.out
     go_wp2_with fail
     refine (fail_c T w0 _ r 7 vr vl vh vd S hT2 ho.out.has h.out).mono ?_
     rintro e we ⟨rfl,h10,hX10⟩
     replace h10:=hid h10
     clear hX10
     go_wp2
     refine bodyPost_ret (results_none rfl _ _ _) rfl ?_
     exact⟨rfl,_,vr,vl,vh,vd,h10.out,ho.out.fl (by decide),lin_bad hSe.out hu.out huk hq1.out hq2.out hH'.out hF'.out hX'.out hbad.out⟩
    have hhno:=decide_eq_false hwh
    have hgood:Hid (badB S.had u=false):=by show _=_;unfold badB;rw [hwin,hM,decide_eq_true hk1,hhno];rfl
    have hdr:Ext wc wc.drew:=(Ext.refl wc).drew
    have cb0:=(cell_of_row wc b 0 _ _ _ hB8).trans (show _=some (.int .i64 u.kind) from rfl)
    have cb2:=(cell_of_row wc b 2 _ _ _ hB8).trans (show _=some (.string ⟨u.text.toArray⟩) from rfl)
    have c21:=(h.out.cell 21 vd (fun _=>rfl)).1
    refine L8.wt (fun W=>Ext wc W) hdr fun hSt=>?_
    generalize wc.drew=w9 at *
    refine L8.tk 0 qc14x12 (some 55) (.pointer (some ⟨b,0,none⟩)) hSt (fun W hW=>?_) ?_
    ·unfold qc14x12
     go_simp
    simp only [p4]
    refine L8.tk 1 qc14x13 (some 56) (.int .i64 u.kind) hSt (fun W hW=>?_) ?_
    ·unfold qc14x13
     have hW1:=(show Ext wc W from hW).cell_of cb0
     go_simp
    simp only [p4]
    refine L8.tk 2 qc14x14 (some 57) (.bool false) hSt (fun W hW=>?_) ?_
    ·unfold qc14x14
     go_simp
    simp only [p4]
    refine L8.tk 3 qc14x15 (some 58) (.bool false) hSt (fun W hW=>?_) ?_
    ·unfold qc14x15
     go_simp
    simp only [p4]
    refine L8.tk 5 qc14x17 (some 60) (.pointer (some ⟨b,2,none⟩)) hSt (fun W hW=>?_) ?_
    ·unfold qc14x17
     go_simp
    simp only [p4]
    refine L8.tk 6 qc14x18 (some 61) (.string ⟨u.text.toArray⟩) hSt (fun W hW=>?_) ?_
    ·unfold qc14x18
     have hW1:=(show Ext wc W from hW).cell_of cb2
     go_simp
    simp only [p4]
    refine L8.up 4 qc14x16 fun K hK=>?_
    unfold qc14x16
    go_simp
    refine (clauses_c _).mono ?_
    rintro e wd ⟨⟨q,rfl,hSq⟩,hxd⟩
    try dsimp only
    have hSd:=Ext.trans hSt hxd
    refine hK.out _ _ hSd ?_
    clear hK K
    intro _
    try simp only [p4]
    have hin:=L8.InS_c q 15 words u.text wd (by decide) hSq
    rw [hwin] at hin
    replace hin:Calls Tryz.prog 30 #[.slice (some ⟨q,0,none⟩) 15 15,.string ⟨u.text.toArray⟩] wd fun e w'=>e=.returned (.bool true)∧w'=wd:=hin
    refine L8.up 7 qc14x19 fun K hK=>?_
    unfold qc14x19
    go_simp
    refine Calls.mono hin ?_
    rintro e wd ⟨rfl,rfl⟩
    try dsimp only
    refine hK.out _ _ hSd ?_
    clear hK K
    intro _
    try simp only [p4]
    refine L8.tk 8 qc14x20 (some 63) (.bool false) hSd (fun W hW=>?_) ?_
    ·unfold qc14x20
     go_simp
    simp only [p4]
    refine L8.tk 9 qc14x21 (some 64) (.bool false) hSd (fun W hW=>?_) ?_
    ·unfold qc14x21
     go_simp
    simp only [p4]
    refine L8.tk 10 qc14x22 (some 65) (.bool false) hSd (fun W hW=>?_) ?_
    ·unfold qc14x22
     go_simp
    simp only [p4]
    refine L8.tk 11 qc14x23 (some 66) (.bool false) hSd (fun W hW=>?_) ?_
    ·unfold qc14x23
     go_simp
    simp only [p4]
    refine L8.tk 12 qc14x24 (some 67) (.bool true) hSd (fun W hW=>?_) ?_
    ·unfold qc14x24
     go_simp
    simp only [p4]
    refine L8.tk 13 qc14x25 (some 68) (.bool true) hSd (fun W hW=>?_) ?_
    ·unfold qc14x25
     go_simp
    simp only [p4]
    refine L8.tk 14 qc14x26 (some 69) (.pointer (some ⟨r,0,none⟩)) hSd (fun W hW=>?_) ?_
    ·unfold qc14x26
     go_simp
    simp only [p4]
    refine L8.tk 15 qc14x27 (some 70) (.pointer (some ⟨r,0,none⟩)) hSd (fun W hW=>?_) ?_
    ·unfold qc14x27
     go_simp
    simp only [p4]
    refine L8.tk 16 qc14x28 (some 71) (.pointer (some ⟨r,21,none⟩)) hSd (fun W hW=>?_) ?_
    ·unfold qc14x28
     go_simp
    simp only [p4]
    refine L8.tk 17 qc14x29 (some 72) (vd) hSd (fun W hW=>?_) ?_
    ·unfold qc14x29
     have hW1:=(show Ext wc W from hW).cell_of c21
     go_simp
    simp only [p4]
    refine L8.tk 18 qc14x30 (some 73) (.pointer (some ⟨b,2,none⟩)) hSd (fun W hW=>?_) ?_
    ·unfold qc14x30
     go_simp
    simp only [p4]
    refine L8.tk 19 qc14x31 (some 74) (.string ⟨u.text.toArray⟩) hSd (fun W hW=>?_) ?_
    ·unfold qc14x31
     have hW1:=(show Ext wc W from hW).cell_of cb2
     go_simp
    simp only [p4]
    have hin2:=InS_own (h.out.on hSd).sd (by omega) u.text
    rw [hhno] at hin2
    refine L8.up 20 qc14x32 fun K hK=>?_
    unfold qc14x32
    go_simp
    refine Calls.mono hin2 ?_
    rintro e wd ⟨rfl,rfl⟩
    try dsimp only
    refine hK.out _ _ hSd ?_
    clear hK K
    intro _
    try simp only [p4]
    refine L8.tk 21 qc14x33 (some 76) (.bool false) hSd (fun W hW=>?_) ?_
    ·unfold qc14x33
     go_simp
    simp only [p4]
    refine L8.tk 22 qc14x34 (some 77) (.bool false) hSd (fun W hW=>?_) ?_
    ·unfold qc14x34
     go_simp
    simp only [p4]
    refine L8.dn ?_
    clear hdr cb0 cb2 c21 hSt hxd hSq hin
    have hx9:=hid hSd
    clear hSd
    replace h:=hid <| h.out.on hx9.out
    have hBd:=stayD hB8 hx9.out
    clear hx9 hB8
    obtain⟨ao,cp,hvs⟩:=own_slice h.out.sd
    subst hvs
    obtain⟨i0,hi,hz0,hz1,hz2⟩:=info_parts info_st
    have hvd:=(h.out.cell 21 (.slice ao S.had.length cp) (fun _=>rfl)).1
    go_upto_region 10 with fail
    have hdr:Ext wd wd.drew:=(Ext.refl wd).drew
    refine L8.wt (fun W=>W.heap[b]?=some (.cells #[.int .i64 u.kind,.int .i64 u.at_,.string ⟨u.text.toArray⟩] 64 (0,0))) (stayD hBd hdr) fun hSt=>?_
    replace hvd:=hdr.cell_of hvd
    replace h:=hid <| h.out.on hdr
    clear hdr hBd
    generalize wd.drew=we at *
    refine L8.tk 0 qc14x35 (some 80) (.pointer (some ⟨r,0,none⟩)) hSt (fun W hW=>?_) ?_
    ·unfold qc14x35
     go_simp
    simp only [p4]
    refine L8.tk 1 qc14x36 (some 81) (.pointer (some ⟨r,0,none⟩)) hSt (fun W hW=>?_) ?_
    ·unfold qc14x36
     go_simp
    simp only [p4]
    refine L8.tk 2 qc14x37 (some 82) (.pointer (some ⟨r,0,none⟩)) hSt (fun W hW=>?_) ?_
    ·unfold qc14x37
     go_simp
    simp only [p4]
    refine L8.tk 3 qc14x38 (some 83) (.pointer (some ⟨r,21,none⟩)) hSt (fun W hW=>?_) ?_
    ·unfold qc14x38
     go_simp
    simp only [p4]
    refine L8.tk 5 qc14x39 (some 85) (.pointer (some ⟨b,2,none⟩)) hSt (fun W hW=>?_) ?_
    ·unfold qc14x39
     go_simp
    simp only [p4]
    refine L8.tk 6 qc14x40 (some 86) (.string ⟨u.text.toArray⟩) hSt (fun W hW=>?_) ?_
    ·unfold qc14x40
     have hW1:=(cell_of_row W b 2 _ _ _ hW).trans (show _=some (.string ⟨u.text.toArray⟩) from rfl)
     go_simp
    simp only [p4]
    refine wpAnyH_ready (rs:=[4,7]) (by kernel_rfl) (by simp) ?_
    refine AllReadyH.cons (o:=qc14x41) rfl (fun K hK=>?ra2) (AllReadyH.cons (o:=qc14x42) rfl (fun K hK=>?rb2) AllReadyH.nil)
    case' ra2 =>
     unfold qc14x41
     go_simp
     refine hK.out _ _ hSt ?_
     clear hK K
     intro _
     try simp only [p4]
     refine L8.up 7 qc14x42 fun K hK=>?_
     unfold qc14x42
     go_simp
     refine hK.out _ _ (stayD hSt ((Ext.refl we).alloc #[.string ⟨u.text.toArray⟩] 9)) ?_
     clear hK K
     intro _
     try simp only [p4]
    case' rb2 =>
     unfold qc14x42
     go_simp
     refine hK.out _ _ (stayD hSt ((Ext.refl we).alloc #[.string ⟨u.text.toArray⟩] 9)) ?_
     clear hK K
     intro _
     try simp only [p4]
     have hvd3:=((Ext.refl we).alloc #[.string ⟨u.text.toArray⟩] 9).cell_of hvd
     refine L8.up 4 qc14x41 fun K hK=>?_
     unfold qc14x41
     go_simp
     refine hK.out _ _ (stayD hSt ((Ext.refl we).alloc #[.string ⟨u.text.toArray⟩] 9)) ?_
     clear hK K
     intro _
     try simp only [p4]
    all_goals
     refine L8.up 8 qc14x43 fun K hK=>?_
     unfold qc14x43
     rw [if_pos (by rfl)]
     have h2:=h.out.on ((Ext.refl we).alloc #[.string ⟨u.text.toArray⟩] 9)
     have hsz:=h2.ext.size
     refine wp_append_own _ (.tmp 84) (.tmp 87) 41 rfl w0.heap.size 9 i0 (.string ⟨#[]⟩) 1 16 Tryz.underlying41 hi hz0 hz1 hz2 rfl (by decide) _ _ _ rfl h2.sd ⟨we.heap.size,0,none⟩ 1 1 [strV u.text] rfl rfl ?c1 ?c2 ?c3 ?c4 ?c5 ?_
     case c1 =>
      intro p u' hp
      match p,hp with
      | 0,hp=>simp at hp;subst hp;simp [Addr.add,go_sem,strV]
      | p+1,hp=>simp at hp
     case c2=>intro u' hu';simp at hu';subst hu';rfl
     case c3=>unfold maxLen;show S.had.length+1≤_;omega
     case c4=>show (S.had.length+1) * 16≤_;omega
     case c5=>exact hsz
     intro v' wf hown hgrow _
     obtain⟨ao2,cp2,hv2⟩:=own_slice hown
     subst hv2
     have hG:=h2.grow h2.sd hgrow (by decide)
     obtain⟨vt,hr3,_⟩:=hG.row
     have c3:=(cell_of_row wf r 21 _ _ _ hr3).trans (show _=some (.slice ao S.had.length cp) from rfl)
     have z3:=frozen_of_row wf r 21 _ _ hr3
     have hSf:=(hG.keep 64 b _ (by decide) (stayD hSt ((Ext.refl we).alloc #[.string ⟨u.text.toArray⟩] 9))).trans (stayD hSt ((Ext.refl we).alloc #[.string ⟨u.text.toArray⟩] 9))
     have hfin:=hid <| Dgr.fin_d h2 hG _ u.text hown
     have hSg:=fun v=>(heap_setCell_other wf ⟨r,21,none⟩ b v (Ne.symm hrb)).trans hSf
     clear hr3 hG hgrow hown hvd h2 hsz
     refine hK.out _ _ hSf ?_
     clear hK K
     intro _
     try simp only [p4]
     refine L8.tk 9 qc14x44 (some 89) (.pointer (some ⟨r,0,none⟩)) hSf (fun W hW=>?_) ?_
     ·unfold qc14x44
      go_simp
     simp only [p4]
     refine L8.tk 10 qc14x45 (some 90) (.pointer (some ⟨r,21,none⟩)) hSf (fun W hW=>?_) ?_
     ·unfold qc14x45
      go_simp
     simp only [p4]
     refine L8.up 11 qc14x46 fun K hK=>?_
     unfold qc14x46
     go_simp
     refine hK.out _ _ (hSg _) ?_
     clear hK K
     intro _
     try simp only [p4]
     refine L8.dn ?_
     have hBg:=hSg (.slice ao2 (S.had.length+1) cp2)
     clear hSg hSf h c3 z3
     generalize wf.setCell ⟨r,21,none⟩ (.slice ao2 (S.had.length+1) cp2)=wg at *
     obtain⟨e1,y1⟩:=hfin.out.cell 1 (.int .i64 S.i) (fun _=>rfl)
     have hinc:=hid <| hfin.out.inc (v:=(S.i:Int)+1) rfl
     have cq:(wg.setCell ⟨r,1,none⟩ (.int .i64 ((S.i:Int)+1))).cell? ⟨b,2,none⟩=some (.string ⟨u.text.toArray⟩):=by
      rw [L8.other _ (Or.inl hrb)]
      exact (cell_of_row wg b 2 _ _ _ hBg).trans rfl
     have hwh15:which u.text<15:=by have:=in_words u.text;rw [decide_eq_true hwd] at this;exact of_decide_eq_true this.symm
     have hA:Oks T { S with had:=S.had++[u.text],i:=S.i+1 }:=(Oks.inc hE hu.out (fun hn=>by rw [hn] at hwh15;revert hwh15;decide)).turn rfl rfl
     have hC:Hid (∀ W vd',Dn T w0 W r vr vl vh vd' { S with had:=S.had++[u.text],i:=S.i+1 }→Calls Tryz.prog 60 #[.pointer (some ⟨r,0,none⟩),.string ⟨u.text.toArray⟩] W fun e w'=>Cld T w0 r vd' { S with had:=S.had++[u.text],i:=S.i+1 } (which u.text) e w'):=fun W vd' hW=>by
      have:=clauseD_c T w0 W r vr vl vh vd' { S with had:=S.had++[u.text],i:=S.i+1 } (which u.text) hwh15 hT2 hX hE hK he0 hA hSe.out (by have:=hF'.out.few;simp only [] at this ⊢;omega) hW
      rwa [which_at hwh15] at this
     clear hfin hBg
     go_wp2_with fail
     refine Calls.mono (hC.out _ _ hinc.out) ?_
     rintro e wh ⟨rfl,s2,vr2,vl2,vh2,h12,hR⟩
     clear hC hinc cq e1 y1 hA
     replace h12:=hid h12
     replace hR:=hid hR
     go_wp2_with fail
     refine (sign_c T w0 _ r 3 [59] vr2 vl2 vh2 _ s2 hT2 hR.out.1.has h12.out).mono ?_
     rintro e wi ⟨rfl,h13,hX13⟩
     obtain⟨hL7,hi7⟩:=lin_clause hK hSe.out hu.out hq1.out hq2.out hH'.out hF'.out hl' hX'.out hgood.out hR.out
     have ho7:=hid <| hR.out.1.sg hE (k:=3) (l:=[59]) (by decide)
     have hm:Hid (Go.Proofs.YtcijdkbopiaicaaGreatDoor.dlen T wi r<Go.Proofs.YtcijdkbopiaicaaGreatDoor.dlen T wr r):=by
      show _<_
      rw [h13.dlen,hdl.out,if_pos hSe.out]
      split
      ·rename_i h0;have:=hi7 h0;have:=ho7.out.le;omega
      ·omega
     have hgt:Hid ((s2.sg T 3 [59]).e=0→s.i<(s2.sg T 3 [59]).i):=fun h0=>by have:=hi7 h0;have:=hSgt.out hSe.out;omega
     replace h13:=hid h13
     replace hL7:=hid hL7
     clear hX13 h12 hi7 hR
     go_wp2
     go_roundw
     case rel=>exact ⟨_,vr2,vl2,vh2,_,h13,ho7,hL7,hgt⟩
     case measure=>exact hm.out
end Go.Proofs.YtcijdkbopiaicaaGreatDoor
