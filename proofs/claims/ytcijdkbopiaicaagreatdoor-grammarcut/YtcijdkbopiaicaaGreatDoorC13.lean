/- Contracts that the proof of this law leans on: no statement of the seat is proved here. -/
import Derived.Test.YtcijdkbopiaicaaGreatDoorC12
set_option linter.unusedVariables false
set_option maxRecDepth 100000
set_option maxHeartbeats 8000000
namespace Go.Proofs.YtcijdkbopiaicaaGreatDoor
open Go.RowKit Go.Lib
def Rcl (T:List Tok)(s:Dst)(i:Nat)(s':Dst):Prop:=Oks T s'∧s'.had=s.had∧match clauseR i s.p (T.drop s.i) with
 | .ok a=>s'.e=0∧s'.p=a.1∧T.drop s'.i=a.2
 | .no x y=>s'.e=x∧s'.a=y
theorem one_res {T:List Tok}{s s':Dst}{t:Tok}{ts:List Tok}{o:List UInt8→Option Int}{g:Int→Prd}{i:Nat}(ht:T.drop s.i=t::ts)(hcl:clauseR i s.p (t::ts)=(tk o (t::ts)).bind fun a=>Res.ok (g a.1,a.2))
  (h1:o t.text=none→s'.e=7∧s'.a=t.at_) (h2:∀ v,o t.text=some v→s'.e=0∧s'.p=g v∧s'.i=s.i+1):match clauseR i s.p (T.drop s.i) with
 | .ok a=>s'.e=0∧s'.p=a.1∧T.drop s'.i=a.2
 | .no x y=>s'.e=x∧s'.a=y:=by
 rw [ht,hcl]
 cases hq:o t.text with
 | none=>rw [tk_none hq];exact h1 hq
 | some v =>
  rw [tk_some hq]
  obtain⟨a,b,c⟩:=h2 v hq
  exact⟨a,b,by rw [c];exact (drop_tok ht).2⟩
theorem word_res {T:List Tok}{s:Dst}(hE:Endt T)(hK:∀ t∈T,Kin t)(hs:Oks T s)(he:s.e=0){L:List (List UInt8)}{O:Opts}{f:Nat→Int}{g:Int→Prd}{i:Nat}(hL:∀ u∈L,L7.kd u=1)(hne:∀ u∈L,u≠[])(hp:∀ l,pick O l=(ixF 0 L l).map f)
  (hcl:∀ t ts,clauseR i s.p (t::ts)=(tk (pick O) (t::ts)).bind fun a=>Res.ok (g a.1,a.2)):Rcl T s i { s.wd T L with p:=g (f (wdV T L s)) }:=by
 obtain⟨t,ht⟩:=hs.has he
 have hd:=tok_drop ht
 obtain⟨w1,w2⟩:=wd_at hL he ht (hK t (List.mem_of_getElem? ht))
 refine⟨(hs.wd hE hne).turn rfl rfl,(wd_p T L s).2,one_res hd (hcl t _) (fun h=>?_) (fun v h=>?_)⟩
 ·rw [hp] at h
  have h0:ixF 0 L t.text=none:=by cases hq:ixF 0 L t.text with
   | none=>rfl
   | some k=>rw [hq] at h;cases h
  rw [w1,h0]
  exact⟨rfl,rfl⟩
 ·rw [hp] at h
  cases hq:ixF 0 L t.text with
  | none=>rw [hq] at h;cases h
  | some k =>
   rw [hq] at h
   have hv:f k=v:=Option.some.inj h
   rw [w1,w2,hq]
   exact⟨he,by show g (f k)=g v;rw [hv],rfl⟩
theorem num_res {T:List Tok}{s:Dst}(hE:Endt T)(hK:∀ t∈T,Kin t)(hs:Oks T s)(he:s.e=0){o:List UInt8→Option Int}{g:Int→Prd}{i:Nat}{x:Int}(ho:o []=none)(hk:∀ {l v},o l=some v→L7.kd l=2)(hx:∀ v,o (txB T s)=some v→x=v)
  (hcl:∀ t ts,clauseR i s.p (t::ts)=(tk o (t::ts)).bind fun a=>Res.ok (g a.1,a.2)):Rcl T s i { s.nb T o with p:=g x }:=by
 obtain⟨t,ht⟩:=hs.has he
 have hd:=tok_drop ht
 obtain⟨w1,w2⟩:=nb_at ho hk he ht (hK t (List.mem_of_getElem? ht))
 refine⟨(hs.nb hE ho).turn rfl rfl,(nb_p T o s).2,one_res hd (hcl t _) (fun h=>?_) (fun v h=>?_)⟩
 ·rw [w2,h]
  exact⟨rfl,rfl⟩
 ·have hxv:=hx v (w1.trans h)
  subst hxv
  rw [w2,h]
  exact⟨he,rfl,rfl⟩
theorem ngO_some {l:List UInt8}{v:Int}(h:numO l=some v):ngO l=v:=by unfold ngO;rw [h];rfl
theorem two_res {T:List Tok}{s:Dst}(hE:Endt T)(hK:∀ t∈T,Kin t)(hs:Oks T s)(he:s.e=0){o:List UInt8→Option Int}{g:Int→Int→Prd}{i:Nat}{x:Int}(ho:o []=none)(hk:∀ {l v},o l=some v→L7.kd l=2)(hx:∀ v,o (txB T (s.nb T numO))=some v→x=v)
  (hcl:∀ t ts,clauseR i s.p (t::ts)=(tk numO (t::ts)).bind fun a=>(tk o a.2).bind fun b=>Res.ok (g a.1 b.1,b.2)):Rcl T s i { (s.nb T numO).nb T o with p:=g (ngO (txB T s)) x }:=by
 obtain⟨t,ht⟩:=hs.has he
 have hd:=tok_drop ht
 obtain⟨w1,w2⟩:=nb_at num_nil num_kd he ht (hK t (List.mem_of_getElem? ht))
 have hs1:=hs.nb hE num_nil
 refine⟨(hs1.nb hE ho).turn rfl rfl,(nb_p T o _).2.trans (nb_p T numO s).2,?_⟩
 rw [hd,hcl]
 cases hq:numO t.text with
 | none =>
  rw [tk_none hq]
  rw [w2,hq]
  show ((({ s with e:=7,a:=t.at_ }:Dst).nb T o).e=7∧(({ s with e:=7,a:=t.at_ }:Dst).nb T o).a=t.at_)
  have h0:({ s with e:=7,a:=t.at_ }:Dst).nb T o = { s with e:=7,a:=t.at_ }:=by
   unfold Dst.nb Dst.fl txB
   simp [ho]
  rw [h0]
  exact⟨rfl,rfl⟩
 | some v =>
  rw [tk_some hq]
  rw [hq] at w2
  have w2':s.nb T numO=s.inc:=w2
  have hv:ngO (txB T s)=v:=ngO_some (w1.trans hq)
  rw [w2'] at hs1 hx ⊢
  have he1:s.inc.e=0:=he
  obtain⟨u,hu⟩:=hs1.has he1
  have hu':T[s.i+1]?=some u:=hu
  have hd1:=tok_drop hu'
  obtain⟨y1,y2⟩:=nb_at ho hk he1 hu (hK u (List.mem_of_getElem? hu))
  rw [hd1]
  show (match (tk o (u::T.drop (s.i+1+1))).bind (fun b=>Res.ok (g v b.1,b.2)) with
   | .ok a=>_
   | .no x y=>_)
  cases hq2:o u.text with
  | none =>
   rw [tk_none hq2,y2,hq2]
   exact⟨rfl,rfl⟩
  | some z =>
   rw [tk_some hq2,y2,hq2]
   have:=hx z (y1.trans hq2)
   subst this
   exact⟨he,by show g (ngO (txB T s)) x=g v x;rw [hv],rfl⟩
theorem pk_count (l:List UInt8):pick oCount l=Option.map (fun k:Nat=>1+(k:Int)) (ixF 0 wCount l):=by
 simp only [pick,oCount,ixF,wCount]
 split;rfl;split;rfl;split;rfl;rfl
theorem pk_kind (l:List UInt8):pick oKind l=Option.map (fun k:Nat=>1+(k:Int)) (ixF 0 wKind l):=by
 simp only [pick,oKind,ixF,wKind]
 split;rfl;split;rfl;split;rfl;rfl
theorem pk_over (l:List UInt8):pick oOver l=Option.map (fun k:Nat=>1+(k:Int)) (ixF 0 wOver l):=by
 simp only [pick,oOver,ixF,wOver]
 split;rfl;split;rfl;split;rfl;rfl
theorem pk_roll (l:List UInt8):pick oRoll l=Option.map (fun k:Nat=>1+(k:Int)) (ixF 0 wRoll l):=by
 simp only [pick,oRoll,ixF,wRoll]
 split;rfl;split;rfl;split;rfl;split;rfl;rfl
theorem pk_order (l:List UInt8):pick oOrder l=Option.map (fun k:Nat=>1+(k:Int)) (ixF 0 wOrder l):=by
 simp only [pick,oOrder,ixF,wOrder]
 split;rfl;split;rfl;split;rfl;split;rfl;rfl
theorem pk_round (l:List UInt8):pick oRound l=Option.map rdV (ixF 0 wRound l):=by
 simp only [pick,oRound,ixF,wRound]
 split;rfl;split;rfl;rfl
def odK (T:List Tok):Nat→Nat→Dst→Dst
 | 0,_,S=>S
 | n+1,k,S=>odK T n (k+1) (S.od T k)
def setOs:Prd→Nat→List Int→Prd
 | p,_,[]=>p
 | p,k,v::vs=>setOs (setO p k v) (k+1) vs
theorem od_had (T:List Tok)(k:Nat)(S:Dst):(S.od T k).had=S.had:=by
 unfold Dst.od
 split
 ·exact (fl_p T 7 _).2.1.trans (wd_p T wOrder S).2
 ·exact (wd_p T wOrder S).2
theorem od_bad {T:List Tok}{k:Nat}{S:Dst}(he:S.e≠0):(S.od T k).e=S.e∧(S.od T k).a=S.a:=by
 have hf:∀ L,wdF T S 0 L=none:=by
  intro L
  have:∀ (L:List (List UInt8)) (j:Nat),wdF T S j L=none:=by
   intro L
   induction L with
   | nil=>intro j;rfl
   | cons u L ih =>
    intro j
    rw [wdF]
    have:isB T S 1 u=false:=by unfold isB;rw [show (S.e==0)=false by simpa using he];rfl
    rw [this]
    exact ih _
  exact this L 0
 have hw:S.wd T wOrder=S:=by
  unfold Dst.wd Dst.fl
  rw [hf,if_neg he]
  rfl
 unfold Dst.od
 rw [hw,if_neg (fun h=>he h.1)]
 exact⟨rfl,rfl⟩
theorem odK_bad {T:List Tok}:∀ (n k:Nat) (S:Dst),S.e≠0→(odK T n k S).e=S.e∧(odK T n k S).a=S.a
 | 0,_,S,_=>⟨rfl,rfl⟩
 | n+1,k,S,he=>by
  obtain⟨a,b⟩:=od_bad (T:=T) (k:=k) he
  obtain⟨c,d⟩:=odK_bad n (k+1) (S.od T k) (by rw [a];exact he)
  exact⟨c.trans a,d.trans b⟩
theorem odK_had {T:List Tok}:∀ (n k:Nat) (S:Dst),(odK T n k S).had=S.had
 | 0,_,S=>rfl
 | n+1,k,S=>(odK_had n (k+1) (S.od T k)).trans (od_had T k S)
theorem ord_kd:∀ u∈wOrder,L7.kd u=1:=by decide
theorem od_step {T:List Tok}{k:Nat}{S:Dst}{t:Tok}(he:S.e=0)(ht:T[S.i]?=some t)(hK:Kin t):match (pick oOrder t.text).bind (fun x=>if x∈(ordL S.p).take k then none else some x) with
 | none=>(S.od T k).e=7∧(S.od T k).a=t.at_
 | some v=>S.od T k = { S.inc with p:=setO S.p k v }:=by
 obtain⟨w1,w2⟩:=wd_at ord_kd he ht hK
 rw [pk_order]
 unfold Dst.od
 rw [w1,w2]
 cases hq:ixF 0 wOrder t.text with
 | none =>
  simp only [Option.map_none,Option.bind_none]
  rw [if_neg (fun h=>by simp at h)]
  simp
 | some j =>
  simp only [Option.map_some,Option.bind_some,Option.getD_some,Option.isSome_some,if_true]
  by_cases hm:(1+(j:Int))∈(ordL S.p).take k
  ·rw [if_pos hm,if_pos ⟨he,hm⟩]
   have hf:({ S.inc with i:=S.i }:Dst).fl T 7 = { S with e:=7,a:=t.at_ }:=by
    have:=fl_at (T:=T) (s:={ S.inc with i:=S.i }) (t:=t) (x:=7) he ht
    rw [this];rfl
   simp [hf]
  ·rw [if_neg hm,if_neg (fun h=>hm h.2)]
theorem setO_take (p:Prd)(k:Nat)(v:Int)(hk:k<4):(ordL (setO p k v)).take (k+1)=(ordL p).take k++[v]:=by
 match k,hk with
 | 0,_=>rfl
 | 1,_=>rfl
 | 2,_=>rfl
 | 3,_=>rfl
theorem ord_res {T:List Tok}(hE:Endt T)(hK:∀ t∈T,Kin t):∀ (n k:Nat) (S:Dst) (o:Opts),n+k=4→S.e=0→Oks T S→(o.map (·.2)).Nodup→(o.map (·.1)).Nodup→(∀ l,pick o l=(pick oOrder l).bind fun x=>if x∈(ordL S.p).take k then none else some x)→Oks T (odK T n k S)∧(match ordF n o (T.drop S.i) with
 | .ok b=>(odK T n k S).e=0∧(odK T n k S).p=setOs S.p k b.1∧T.drop (odK T n k S).i=b.2∧b.1.length=n
 | .no x y=>(odK T n k S).e=x∧(odK T n k S).a=y)
 | 0,k,S,o,_,he,hs,_,_,_=>⟨hs,he,rfl,rfl,rfl⟩
 | n+1,k,S,o,hnk,he,hs,h1,h2,hp=>by
  obtain⟨t,ht⟩:=hs.has he
  have hd:=tok_drop ht
  have hst:=od_step (k:=k) he ht (hK t (List.mem_of_getElem? ht))
  rw [←hp] at hst
  rw [hd]
  simp only [ordF]
  cases hq:pick o t.text with
  | none =>
   rw [hq] at hst
   rw [tk_none hq]
   obtain⟨a,b⟩:=hst
   have hne:(S.od T k).e≠0:=by rw [a];decide
   obtain⟨c,d⟩:=odK_bad (T:=T) n (k+1) (S.od T k) hne
   refine⟨?_,c.trans a,d.trans b⟩
   have hok:∀ (n k:Nat) (S:Dst),Oks T S→Oks T (odK T n k S):=by
    intro n
    induction n with
    | zero=>intro k S h;exact h
    | succ n ih=>intro k S h;exact ih (k+1) _ (h.od hE k)
   exact hok n (k+1) _ (hs.od hE k)
  | some v =>
   rw [hq] at hst
   have hst':S.od T k = { S.inc with p:=setO S.p k v }:=hst
   rw [tk_some hq]
   have ih:=ord_res hE hK n (k+1) (S.od T k) (lessO o v) (by omega) (by rw [hst'];exact he) (hs.od hE k) (two_less h1) (h2.sublist ((List.filter_sublist).map _)) (fun l=>by
    rw [pick_less l o v h1 h2,hp l,hst']
    show _=(pick oOrder l).bind fun x=>if x∈(ordL (setO S.p k v)).take (k+1) then none else some x
    rw [setO_take _ _ _ (by omega)]
    cases pick oOrder l with
    | none=>rfl
    | some x =>
     simp only [Option.bind_some,List.mem_append,List.mem_singleton]
     by_cases hx:x∈(ordL S.p).take k
     ·simp [hx]
     ·by_cases hv:x=v
      ·simp [hv]
      ·simp [hx,hv])
   obtain⟨i1,i2⟩:=ih
   refine⟨i1,?_⟩
   have hdrop:T.drop (S.od T k).i=T.drop (S.i+1):=by rw [hst'];rfl
   rw [hdrop] at i2
   show (match ((ordF n (lessO o v) (T.drop (S.i+1))).bind fun b=>Res.ok (v::b.1,b.2)) with
    | .ok b=>_
    | .no x y=>_)
   cases hr:ordF n (lessO o v) (T.drop (S.i+1)) with
   | no x y=>rw [hr] at i2;exact i2
   | ok b =>
    rw [hr] at i2
    obtain⟨a1,a2,a3,a4⟩:=i2
    refine⟨a1,?_,a3,by show b.1.length+1=n+1;rw [a4]⟩
    have hpp:(S.od T k).p=setO S.p k v:=by rw [hst']
    rw [hpp] at a2
    exact a2
theorem setOs_four (p:Prd):∀ (l:List Int),l.length=4→setOs p 0 l=ordP p l
 | [a,b,c,d],_=>rfl
theorem order_res {T:List Tok}(hE:Endt T)(hK:∀ t∈T,Kin t){s:Dst}(hs:Oks T s)(he:s.e=0):Rcl T s 12 (odN T 4 s):=by
 have h4:odN T 4 s=odK T 4 0 s:=rfl
 rw [h4]
 obtain⟨h1,h2⟩:=ord_res hE hK 4 0 s oOrder rfl he hs (by decide) (by decide) (fun l=>by cases pick oOrder l <;> simp)
 refine⟨h1,odK_had 4 0 s,?_⟩
 show (match orderR s.p (T.drop s.i) with
  | .ok a=>_
  | .no x y=>_)
 rw [order_ord]
 cases hr:ordF 4 oOrder (T.drop s.i) with
 | no x y=>rw [hr] at h2;exact h2
 | ok b =>
  rw [hr] at h2
  obtain⟨a1,a2,a3,a4⟩:=h2
  exact⟨a1,by rw [a2];exact setOs_four _ _ a4,a3⟩
def Cld (T:List Tok)(w0:World)(r:Nat)(vd:Value)(s:Dst)(i:Nat)(e:Ending)(w':World):Prop :=
 e=.returned (.tuple #[])∧∃ s' vr vl vh,Dn T w0 w' r vr vl vh vd s'∧Rcl T s i s'
theorem clauseD_c (T:List Tok)(w0 w:World)(r:Nat)(vr vl vh vd:Value)(s:Dst)(i:Nat)(hi:i<15)(hT:T.length≤20010)(hX:∀ t∈T,t.text.length≤20000)(hE:Endt T)(hK:∀ t∈T,Kin t)(he0:Hid (Env w0))(hs:Oks T s)(he:s.e=0)(hfew:s.p.rs.length+s.p.lt.length+s.p.hd.length≤30000)(h:Dn T w0 w r vr vl vh vd s) :
  Calls Tryz.prog 60 #[.pointer (some ⟨r,0,none⟩),.string ⟨(wordAt i).toArray⟩] w fun e w'=>Cld T w0 r vd s i e w':=by
 match i,hi with
 | 0,_ =>
  refine (clauseD_0 T w0 w r vr vl vh vd s hT hX hE he0 hs h).mono ?_
  rintro e w' ⟨rfl,hD⟩
  exact⟨rfl,_,_,_,_,hD,word_res hE hK hs he (O:=oCount) (f:=fun k:Nat=>1+(k:Int)) (g:=fun v=>{ s.p with cn:=v }) (by decide) (by decide) pk_count (fun t ts=>rfl)⟩
 | 1,_ =>
  refine (clauseD_1 T w0 w r vr vl vh vd s hT hX hE he0 hs h).mono ?_
  rintro e w' ⟨rfl,hD⟩
  exact⟨rfl,_,_,_,_,hD,word_res hE hK hs he (O:=oRound) (f:=rdV) (g:=fun v=>{ s.p with rd:=v }) (by decide) (by decide) pk_round (fun t ts=>rfl)⟩
 | 2,_ =>
  refine (clauseD_2 T w0 w r vr vl vh vd s hT hX hE he0 hs h).mono ?_
  rintro e w' ⟨rfl,hD⟩
  exact⟨rfl,_,_,_,_,hD,word_res hE hK hs he (O:=oKind) (f:=fun k:Nat=>1+(k:Int)) (g:=fun v=>{ s.p with kd:=v }) (by decide) (by decide) pk_kind (fun t ts=>rfl)⟩
 | 3,_ =>
  refine (clauseD_3 T w0 w r vr vl vh vd s hT hX hE he0 hs h).mono ?_
  rintro e w' ⟨rfl,hD⟩
  exact⟨rfl,_,_,_,_,hD,num_res hE hK hs he (g:=fun v=>{ s.p with ev:=v }) num_nil num_kd (fun v hv=>ngO_some hv) (fun t ts=>rfl)⟩
 | 4,_ =>
  refine (clauseD_4 T w0 w r vr vl vh vd s hT hX hE he0 hs h).mono ?_
  rintro e w' ⟨rfl,hD⟩
  exact⟨rfl,_,_,_,_,hD,num_res hE hK hs he (g:=fun v=>{ s.p with tm:=v }) num_nil num_kd (fun v hv=>ngO_some hv) (fun t ts=>rfl)⟩
 | 5,_ =>
  refine (clauseD_5 T w0 w r vr vl vh vd s hT hX hE he0 hs h).mono ?_
  rintro e w' ⟨rfl,hD⟩
  exact⟨rfl,_,_,_,_,hD,num_res hE hK hs he (g:=fun v=>{ s.p with gr:=v }) num_nil num_kd (fun v hv=>ngO_some hv) (fun t ts=>rfl)⟩
 | 6,_ =>
  refine (clauseD_6 T w0 w r vr vl vh vd s hT hX hE he0 hs h).mono ?_
  rintro e w' ⟨x,hx,rfl,hD⟩
  exact⟨rfl,_,_,_,_,hD,num_res hE hK hs he (g:=fun v=>{ s.p with rt:=v }) rate_nil rate_kd hx (fun t ts=>rfl)⟩
 | 7,_ =>
  refine (clauseD_7 T w0 w r vr vl vh vd s hT hX hE he0 hs h).mono ?_
  rintro e w' ⟨x,hx,rfl,hD⟩
  exact⟨rfl,_,_,_,_,hD,num_res hE hK hs he (g:=fun v=>{ s.p with pn:=v }) rate_nil rate_kd hx (fun t ts=>rfl)⟩
 | 8,_ =>
  refine (clauseD_8 T w0 w r vr vl vh vd s hT hX hE he0 hs hfew h).mono ?_
  rintro e w' ⟨x,v',hx,rfl,hD⟩
  have hp:=(nb_p T numO s).1
  rw [hp] at hD
  exact⟨rfl,_,_,_,_,hD,two_res hE hK hs he (g:=fun a b=>{ s.p with rs:=s.p.rs++[(a,b)] }) rate_nil rate_kd hx (fun t ts=>rfl)⟩
 | 9,_ =>
  refine (clauseD_9 T w0 w r vr vl vh vd s hT hX hE he0 hs hfew h).mono ?_
  rintro e w' ⟨x,v',hx,rfl,hD⟩
  have hp:=(nb_p T numO s).1
  rw [hp] at hD
  exact⟨rfl,_,_,_,_,hD,two_res hE hK hs he (g:=fun a b=>{ s.p with lt:=s.p.lt++[(a,b)] }) mon_nil mon_kd hx (fun t ts=>rfl)⟩
 | 10,_ =>
  refine (clauseD_10 T w0 w r vr vl vh vd s hT hX hE he0 hs h).mono ?_
  rintro e w' ⟨x,hx,rfl,hD⟩
  exact⟨rfl,_,_,_,_,hD,num_res hE hK hs he (g:=fun v=>{ s.p with cp:=v }) mon_nil mon_kd hx (fun t ts=>rfl)⟩
 | 11,_ =>
  refine (clauseD_11 T w0 w r vr vl vh vd s hT hX hE he0 hs hfew h).mono ?_
  rintro e w' ⟨x,v',hx,rfl,hD⟩
  exact⟨rfl,_,_,_,_,hD,num_res hE hK hs he (g:=fun v=>{ s.p with hd:=s.p.hd++[v] }) day_nil day_kd hx (fun t ts=>rfl)⟩
 | 12,_ =>
  refine (clauseD_12 T w0 w r vr vl vh vd s hT hX hE he0 hs h).mono ?_
  rintro e w' ⟨rfl,hD⟩
  exact⟨rfl,_,_,_,_,hD,order_res hE hK hs he⟩
 | 13,_ =>
  refine (clauseD_13 T w0 w r vr vl vh vd s hT hX hE he0 hs h).mono ?_
  rintro e w' ⟨rfl,hD⟩
  exact⟨rfl,_,_,_,_,hD,word_res hE hK hs he (O:=oOver) (f:=fun k:Nat=>1+(k:Int)) (g:=fun v=>{ s.p with ov:=v }) (by decide) (by decide) pk_over (fun t ts=>rfl)⟩
 | 14,_ =>
  refine (clauseD_14 T w0 w r vr vl vh vd s hT hX hE he0 hs h).mono ?_
  rintro e w' ⟨rfl,hD⟩
  exact⟨rfl,_,_,_,_,hD,word_res hE hK hs he (O:=oRoll) (f:=fun k:Nat=>1+(k:Int)) (g:=fun v=>{ s.p with rl:=v }) (by decide) (by decide) pk_roll (fun t ts=>rfl)⟩
theorem clauses_c (w:World):Calls Tryz.prog 59 #[] w fun e w'=>(∃ b,e=.returned (.slice (some ⟨b,0,none⟩) 15 15)∧L8.Strs w' b words)∧Ext w w':=by
 obtain⟨W,b,hW,hb,hx,hS⟩:∃ W b,w.alloc (.cells #[.string ⟨#[99,111,117,110,116]⟩,.string ⟨#[114,111,117,110,100]⟩,.string ⟨#[107,105,110,100]⟩,.string ⟨#[101,118,101,114,121]⟩,.string ⟨#[116,105,109,101,115]⟩,.string ⟨#[103,114,97,99,101]⟩,.string ⟨#[114,97,116,101]⟩,.string ⟨#[112,101,110,97,108,116,121]⟩,.string ⟨#[114,101,115,101,116]⟩,.string ⟨#[108,97,116,101]⟩,.string ⟨#[99,97,112]⟩,.string ⟨#[104,111,108,105,100,97,121]⟩,.string ⟨#[111,114,100,101,114]⟩,.string ⟨#[111,118,101,114]⟩,.string ⟨#[114,111,108,108]⟩] 9)=W∧w.heap.size=b∧Ext w W∧L8.Strs W b words:=by
  refine⟨_,_,rfl,rfl,(Ext.refl w).alloc _ _,?_⟩
  have hr:=heap_alloc_last w (.cells #[.string ⟨#[99,111,117,110,116]⟩,.string ⟨#[114,111,117,110,100]⟩,.string ⟨#[107,105,110,100]⟩,.string ⟨#[101,118,101,114,121]⟩,.string ⟨#[116,105,109,101,115]⟩,.string ⟨#[103,114,97,99,101]⟩,.string ⟨#[114,97,116,101]⟩,.string ⟨#[112,101,110,97,108,116,121]⟩,.string ⟨#[114,101,115,101,116]⟩,.string ⟨#[108,97,116,101]⟩,.string ⟨#[99,97,112]⟩,.string ⟨#[104,111,108,105,100,97,121]⟩,.string ⟨#[111,114,100,101,114]⟩,.string ⟨#[111,118,101,114]⟩,.string ⟨#[114,111,108,108]⟩] 9)
  intro k u hk
  refine (cell_of_row _ _ k _ _ _ hr).trans ?_
  unfold words at hk
  match k,hk with
  | 0,hk=>simp at hk;subst hk;rfl
  | 1,hk=>simp at hk;subst hk;rfl
  | 2,hk=>simp at hk;subst hk;rfl
  | 3,hk=>simp at hk;subst hk;rfl
  | 4,hk=>simp at hk;subst hk;rfl
  | 5,hk=>simp at hk;subst hk;rfl
  | 6,hk=>simp at hk;subst hk;rfl
  | 7,hk=>simp at hk;subst hk;rfl
  | 8,hk=>simp at hk;subst hk;rfl
  | 9,hk=>simp at hk;subst hk;rfl
  | 10,hk=>simp at hk;subst hk;rfl
  | 11,hk=>simp at hk;subst hk;rfl
  | 12,hk=>simp at hk;subst hk;rfl
  | 13,hk=>simp at hk;subst hk;rfl
  | 14,hk=>simp at hk;subst hk;rfl
  | k+15,hk=>simp at hk
 replace hx:=hid hx
 replace hS:=hid hS
 go_enter Tryz.func59,Tryz.ntmps59
 go_wp2
 go_ret
 exact⟨⟨_,rfl,hS.out⟩,hx.out⟩
theorem InS_nil (a:Option Addr)(c:Nat)(x:List UInt8)(w:World) :
  Calls Tryz.prog 30 #[.slice a 0 c,.string ⟨x.toArray⟩] w fun e w'=>e=.returned (.bool false)∧w'=w:=by
 go_enter Tryz.func30,Tryz.ntmps30
 go_wp2_with fail
 refine wp_loop_rounds 1 ?_
 rw [rounds_succ]
 go_wp2
 go_ret
 exact⟨rfl,rfl⟩
theorem InS_own {w:World}{B:Nat}{vd:Value}{had:List (List UInt8)}(h:w.ownsRow B 9 1 vd had.length (had.map strV))(hl:had.length≤20000)(x:List UInt8) :
  Calls Tryz.prog 30 #[vd,.string ⟨x.toArray⟩] w fun e w'=>e=.returned (.bool (decide (x∈had)))∧w'=w:=by
 have h':=h
 rcases h'.2 with ⟨rfl,h0⟩ | ⟨g,c,cur,rfl,_⟩
 ·obtain rfl:=List.eq_nil_of_length_eq_zero h0
  exact InS_nil _ _ _ _
 ·refine L8.InS_c g c had x w (by omega) ?_
  intro k u hk
  have hc:=h.cells (g:=g) rfl k (strV u) (by simp [hk])
  rw [Addr.add_mid,Nat.zero_add] at hc
  exact hc
def Endd (ts:List Tok):Prop:=∃ pre e,ts=pre++[e]∧e.text = []
theorem Endd.cons {ts:List Tok}(h:Endd ts):∃ t us,ts=t::us∧(t.text≠[]→Endd us):=by
 obtain⟨pre,e,rfl,he⟩:=h
 cases pre with
 | nil=>exact ⟨e,[],rfl,fun h=>absurd he h⟩
 | cons t pre=>exact ⟨t,pre++[e],rfl,fun _=>⟨pre,e,rfl,he⟩⟩
def Rd {α:Type}(π:α→List Tok)(ts:List Tok)(r:Res α):Prop :=
 match r with
 | .ok a=>Endd (π a)∧π a <:+ ts
 | .no e p=>(e=7∨e=8)∧∃ t∈ts,t.at_=p
theorem Rd.bind {α β:Type}{π:α→List Tok}{ρ:β→List Tok}{ts:List Tok}{r:Res α}{g:α→Res β}(h:Rd π ts r)(hg:∀ a,r=.ok a→Endd (π a)→Rd ρ (π a) (g a)):Rd ρ ts (r.bind g):=by
 cases r with
 | no e p=>exact h
 | ok a =>
  obtain⟨h1,h2⟩:=h
  have h3:=hg a rfl h1
  show Rd ρ ts (g a)
  cases hr:g a with
  | no e p =>
   rw [hr] at h3
   obtain⟨h4,t,h5,h6⟩:=h3
   exact⟨h4,t,h2.subset h5,h6⟩
  | ok b =>
   rw [hr] at h3
   exact⟨h3.1,h3.2.trans h2⟩
theorem Rd.mono {α:Type}{π:α→List Tok}{ts us:List Tok}{r:Res α}(h:Rd π ts r)(hs:ts <:+ us):Rd π us r:=by
 cases r with
 | no e p =>
  obtain⟨h4,t,h5,h6⟩:=h
  exact⟨h4,t,hs.subset h5,h6⟩
 | ok a=>exact ⟨h.1,h.2.trans hs⟩
theorem tk_rd {f:List UInt8→Option Int}{ts:List Tok}(hf:f []=none)(h:Endd ts):Rd Prod.snd ts (tk f ts):=by
 obtain⟨t,us,rfl,h1⟩:=h.cons
 cases hp:f t.text with
 | none=>rw [tk_none hp];exact ⟨Or.inl rfl,t,by simp,rfl⟩
 | some v=>rw [tk_some hp];exact ⟨h1 (some_ne hf hp),List.suffix_cons _ _⟩
theorem xp_rd {l:List UInt8}{ts:List Tok}(hl:l≠[])(h:Endd ts):Rd id ts (xp l ts):=by
 obtain⟨t,us,rfl,h1⟩:=h.cons
 by_cases hq:t.text=l
 ·rw [xp_ok hq];exact ⟨h1 (hq ▸ hl),List.suffix_cons _ _⟩
 ·rw [xp_no hq];exact ⟨Or.inl rfl,t,by simp,rfl⟩
theorem ok_rd {α:Type}{π:α→List Tok}{a:α}(h:Endd (π a)):Rd π (π a) (.ok a):=⟨h,List.suffix_refl _⟩
theorem one_rd {f:List UInt8→Option Int}{ts:List Tok}{g:Int→Prd}(hf:f []=none)(h:Endd ts):Rd (α:=Prd×List Tok) Prod.snd ts ((tk f ts).bind fun b=>Res.ok (g b.1,b.2)) :=
 (tk_rd hf h).bind fun a _ ha=>(ok_rd (π:=Prod.snd) (a:=(g a.1,a.2)) ha)
theorem two_rd {f k:List UInt8→Option Int}{ts:List Tok}{g:Int→Int→Prd}(hf:f []=none)(hk:k []=none)(h:Endd ts):Rd (α:=Prd×List Tok) Prod.snd ts ((tk f ts).bind fun b=>(tk k b.2).bind fun d=>Res.ok (g b.1 d.1,d.2)) :=
 (tk_rd hf h).bind fun a _ ha=>(tk_rd hk ha).bind fun d _ hd=>(ok_rd (π:=Prod.snd) (a:=(g a.1 d.1,d.2)) hd)
theorem order_rd {p:Prd}{ts:List Tok}(h:Endd ts):Rd Prod.snd ts (orderR p ts):=by
 unfold orderR
 have w0:∀ x∈oOrder,x.1≠[]:=by decide
 refine (tk_rd (pick_nil w0) h).bind fun a _ ha=>?_
 have w1:=wrd_less (v:=a.1) w0
 refine (tk_rd (pick_nil w1) ha).bind fun b _ hb=>?_
 have w2:=wrd_less (v:=b.1) w1
 refine (tk_rd (pick_nil w2) hb).bind fun c _ hc=>?_
 have w3:=wrd_less (v:=c.1) w2
 refine (tk_rd (pick_nil w3) hc).bind fun d _ hd=>?_
 exact ok_rd (π:=Prod.snd) (a:=(_,d.2)) hd
theorem clauseR_rd {i:Nat}{p:Prd}{ts:List Tok}(hi:i<15)(h:Endd ts):Rd Prod.snd ts (clauseR i p ts):=by
 match i,hi with
 | 0,_=>exact one_rd (g:=fun v=>{ p with cn:=v }) (by decide) h
 | 1,_=>exact one_rd (g:=fun v=>{ p with rd:=v }) (by decide) h
 | 2,_=>exact one_rd (g:=fun v=>{ p with kd:=v }) (by decide) h
 | 3,_=>exact one_rd (g:=fun v=>{ p with ev:=v }) num_nil h
 | 4,_=>exact one_rd (g:=fun v=>{ p with tm:=v }) num_nil h
 | 5,_=>exact one_rd (g:=fun v=>{ p with gr:=v }) num_nil h
 | 6,_=>exact one_rd (g:=fun v=>{ p with rt:=v }) rate_nil h
 | 7,_=>exact one_rd (g:=fun v=>{ p with pn:=v }) rate_nil h
 | 8,_=>exact two_rd (g:=fun u v=>{ p with rs:=p.rs++[(u,v)] }) num_nil rate_nil h
 | 9,_=>exact two_rd (g:=fun u v=>{ p with lt:=p.lt++[(u,v)] }) num_nil mon_nil h
 | 10,_=>exact one_rd (g:=fun v=>{ p with cp:=v }) mon_nil h
 | 11,_=>exact one_rd (g:=fun v=>{ p with hd:=p.hd++[v] }) day_nil h
 | 12,_=>exact order_rd h
 | 13,_=>exact one_rd (g:=fun v=>{ p with ov:=v }) (by decide) h
 | 14,_=>exact one_rd (g:=fun v=>{ p with rl:=v }) (by decide) h
theorem clR_rd {t:Tok}{s:St}(h:Endd s.ts):Rd St.ts (t::s.ts) (clR t s):=by
 unfold clR
 split
 ·rename_i hi
  split
  ·refine Rd.mono (ts:=s.ts) ?_ (List.suffix_cons _ _)
   refine (clauseR_rd hi h).bind fun a _ ha=>?_
   refine (xp_rd (by simp) ha).bind fun us _ hu=>?_
   exact ok_rd (π:=St.ts) (a:=⟨us,a.1,seen s.had (which t.text)⟩) hu
  ·exact ⟨Or.inl rfl,t,by simp,rfl⟩
 ·exact ⟨Or.inl rfl,t,by simp,rfl⟩
theorem grp_rd:∀ (f d:Nat) (s:St),Endd s.ts→s.ts.length<f→Rd St.ts s.ts (grp f d s)
 | 0,d,s,_,h=>by omega
 | f+1,d,s,he,hl=>by
  obtain⟨t,ts,hs,h1⟩:=he.cons
  rw [grp,hs]
  rw [hs] at hl
  simp only [List.length_cons] at hl
  simp only []
  split
  ·rename_i hq
   exact⟨h1 (by rw [hq];simp),List.suffix_cons _ _⟩
  ·split
   ·rename_i hq
    have h2:=h1 (by rw [hq];simp)
    split
    ·refine Rd.mono (ts:=ts) ?_ (List.suffix_cons _ _)
     have h3:=grp_rd f (d+1) { s with ts:=ts } h2 (by show ts.length<f;omega)
     refine h3.bind fun u hu hue=>?_
     refine grp_rd f d u hue ?_
     rw [hu] at h3
     have h4:u.ts.length≤ts.length:=h3.2.length_le
     omega
    ·exact ⟨Or.inr rfl,t,by simp,rfl⟩
   ·by_cases hn:t.text = []
    ·have:clR t { s with ts:=ts }=.no 7 t.at_:=by unfold clR;rw [hn];rfl
     rw [this]
     exact⟨Or.inl rfl,t,by simp,rfl⟩
    ·have h3:=clR_rd (t:=t) (s:={ s with ts:=ts }) (h1 hn)
     refine h3.bind fun u hu hue=>?_
     refine grp_rd f d u hue ?_
     have h5:u.ts.length≤ts.length:=by
      have hc:=hu
      unfold clR at hc
      split at hc
      ·rename_i hi
       split at hc
       ·have h6:Rd St.ts ts ((clauseR (which t.text) s.p ts).bind fun a=>(xp [59] a.2).bind fun us=>.ok ⟨us,a.1,seen s.had (which t.text)⟩):=by
         refine (clauseR_rd hi (h1 hn)).bind fun a _ ha=>?_
         refine (xp_rd (by simp) ha).bind fun us _ hu=>?_
         exact ok_rd (π:=St.ts) (a:=⟨us,a.1,seen s.had (which t.text)⟩) hu
        have hc':((clauseR (which t.text) s.p ts).bind fun a=>(xp [59] a.2).bind fun us=>.ok ⟨us,a.1,seen s.had (which t.text)⟩)=.ok u:=hc
        rw [hc'] at h6
        exact h6.2.length_le
       ·cases hc
      ·cases hc
     omega
theorem textR_no {ts:List Tok}{e p:Nat}(h:Endd ts)(hr:textR ts=.no e p):(e=7∨e=8∨e=9)∧∃ t∈ts,t.at_=p:=by
 obtain⟨t0,us,rfl,h1⟩:=h.cons
 by_cases h0:t0.text=prodL
 case neg=>rw [textR_a h0] at hr;cases hr;exact ⟨Or.inl rfl,t0,by simp,rfl⟩
 obtain⟨t1,vs,rfl,h2⟩:=(h1 (by rw [h0];decide)).cons
 cases hn:L8.nmb t1.text with
 | false=>rw [textR_b h0 hn] at hr;cases hr;exact ⟨Or.inl rfl,t1,by simp,rfl⟩
 | true =>
  have hne:t1.text≠[]:=by
   intro h
   rw [h] at hn
   revert hn
   decide
  obtain⟨t2,xs,rfl,h3⟩:=(h2 hne).cons
  by_cases hq:t2.text = [123]
  case neg=>rw [textR_c h0 hn hq] at hr;cases hr;exact ⟨Or.inl rfl,t2,by simp,rfl⟩
  rw [textR_d h0 hn hq] at hr
  have h4:=grp_rd (xs.length+1) 1 (st0 t1.text xs) (h3 (by rw [hq];simp)) (by show xs.length<_;omega)
  have hsub:xs <:+ t0::t1::t2::xs:=⟨[t0,t1,t2],rfl⟩
  cases hg:grpR 1 (st0 t1.text xs) with
  | no e' p' =>
   rw [hg] at hr
   have hr':Res.no e' p'=(Res.no e p:Res Prd):=hr
   cases hr'
   have hg':grp (xs.length+1) 1 (st0 t1.text xs)=.no e p:=hg
   rw [hg'] at h4
   obtain⟨h5,t,h6,h7⟩:=h4
   exact⟨by omega,t,hsub.subset h6,h7⟩
  | ok s =>
   rw [hg] at hr
   have hr':lastR t0.at_ s=.no e p:=hr
   have hg':grp (xs.length+1) 1 (st0 t1.text xs)=.ok s:=hg
   rw [hg'] at h4
   obtain⟨h5,h6⟩:=h4
   obtain⟨t,ys,hs,_⟩:=h5.cons
   have h7:t∈t0::t1::t2::xs:=hsub.subset (h6.subset (by show t∈s.ts;rw [hs];simp))
   unfold lastR at hr'
   rw [hs] at hr'
   simp only [] at hr'
   split at hr'
   ·split at hr'
    ·cases hr'
    ·cases hr';exact ⟨by omega,t0,by simp,rfl⟩
   ·cases hr';exact ⟨by omega,t,h7,rfl⟩
theorem lexF_at:∀ (f p:Nat) (l:List UInt8),(∀ t∈(L7.lexF f p l).1,t.at_≤p+l.length)∧∀ q,(L7.lexF f p l).2=some q→q≤p+l.length
 | 0,p,l=>by simp [L7.lexF]
 | f+1,p,l=>by
  rw [L7.lexF]
  have hw:=L7.wh_le false l
  have hd:(l.drop (L7.wh false l)).length=l.length-L7.wh false l:=by simp
  cases hm:l.drop (L7.wh false l) with
  | nil=>simp
  | cons c m =>
   simp only []
   rw [hm] at hd
   simp only [List.length_cons] at hd
   split
   ·refine ⟨by simp,fun q hq=>?_⟩
    obtain rfl:p+L7.wh false l=q:=by simpa using hq
    omega
   ·obtain ⟨h1,h2⟩:=lexF_at f (p+L7.wh false l+L7.sz (c::m)) ((c::m).drop (L7.sz (c::m)))
    have hz:=L7.sz_le (c::m)
    simp only [List.length_cons] at hz
    have hdz:((c::m).drop (L7.sz (c::m))).length=m.length+1-L7.sz (c::m):=by simp
    rw [hdz] at h1 h2
    refine⟨fun t ht=>?_,fun q hq=>?_⟩
    ·rcases List.mem_cons.1 ht with rfl | ht
     ·show p+L7.wh false l≤_;omega
     ·have:=h1 t ht;omega
    ·have:=h2 q hq;omega
theorem prs_no {l:List UInt8}{e p:Nat}(h:prs l=.no e p):(e=3∨e=6∨e=7∨e=8∨e=9)∧p≤l.length:=by
 unfold prs at h
 obtain⟨h1,h2⟩:=lexF_at (l.length+1) 0 l
 split at h
 ·rename_i hE
  obtain⟨⟨pre,en,h3,h4⟩,_,_⟩:=fine_of hE prd0 rfl had0
  obtain⟨h5,t,h6,rfl⟩:=textR_no ⟨pre,en,h3,h4⟩ h
  refine⟨by omega,?_⟩
  unfold L7.aT at h6
  split at h6
  ·cases h6
  ·split at h6
   ·cases h6
   ·rcases List.mem_append.1 h6 with h6 | h6
    ·have:=h1 t h6;omega
    ·obtain rfl:t=⟨0,l.length,[]⟩:=by simpa using h6
     exact Nat.le_refl _
 ·rename_i hE
  cases h
  refine⟨?_,?_⟩
  ·unfold L7.aE at hE ⊢
   split
   ·exact Or.inl rfl
   ·split
    ·exact Or.inr (Or.inl rfl)
    ·rename_i h3 h4
     rw [if_neg h3,if_neg h4] at hE
     exact absurd rfl hE
  ·unfold L7.aP
   split
   ·omega
   ·cases hq:(L7.lex 0 l).2 with
    | none=>simp
    | some q=>have:=h2 q hq;simpa using this
end Go.Proofs.YtcijdkbopiaicaaGreatDoor
