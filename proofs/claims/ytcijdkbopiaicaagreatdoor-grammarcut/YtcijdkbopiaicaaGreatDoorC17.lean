/- Contracts that the proof of this law leans on: no statement of the seat is proved here. -/
import Derived.Test.YtcijdkbopiaicaaGreatDoorC13
set_option linter.unusedVariables false
set_option maxRecDepth 100000
set_option maxHeartbeats 8000000
namespace Go.Proofs.YtcijdkbopiaicaaGreatDoor
open Go.RowKit Go.Lib
theorem hdigits_c (v:Nat)(w:World)(hv:v<100000)(h1:1≤v) :
  Calls Tryz.prog 40 #[.int .i64 (v:Int),.int .i64 1] w fun e w'=>(∃ j,L2.Ends v 1 j∧e=.returned (.string ⟨(L2.fix j v).toArray⟩))∧Ext w w':=by
 go_enter Tryz.func40,Tryz.ntmps40
 go_wp2
 go_loopw [0,5] (fun vv s wr=>∃ j:Nat,j≤20∧vv=.int .i64 ((v / 10 ^ j:Nat):Int)∧s=.string ⟨(L2.fix j v).toArray⟩∧(j≤1∨v / 10 ^ (j-1)≠0)∧Hid (Ext w wr)) (fun vv s _=>(RowKit.intOf vv).toNat+(20-strSize s))
 case atStart=>exact ⟨0,by omega,by simp,rfl,Or.inl (Nat.zero_le _),Ext.refl _⟩
 case round =>
  obtain⟨j,hj,rfl,rfl,hor,hx⟩:=hrel
  have hvj:v / 10 ^ j<100000:=Nat.lt_of_le_of_lt (Nat.div_le_self _ _) hv
  have hj19:0<v / 10 ^ j→j≤19:=fun h0=>by
   rcases Nat.lt_or_ge j 20 with k | k
   ·omega
   ·have:v / 10 ^ j=0:=Nat.div_eq_of_lt (Nat.lt_of_lt_of_le hv (Nat.le_trans (by decide) (Nat.pow_le_pow_right (n:=10) (by omega) k)))
    omega
  generalize hq:v / 10 ^ j=q at *
  by_cases hz:0<q
  ·have hj1:=hj19 hz
   clear hj19
   have hq10:v / 10 ^ (j+1)=q / 10:=by rw [Nat.pow_succ,←Nat.div_div_eq_div_mul,hq]
   obtain⟨c,hc⟩:∃ c:UInt8,c=L2.dgt q:=⟨_,rfl⟩
   have hcb:=fun (W:World) (b:Nat) (h:W.cell? ⟨b,0,none⟩=some (.int .u8 (c.toNat:Int)))=>L2.one_byte W b c h
   have hfc:L2.fix (j+1) v=c::L2.fix j v:=by rw [L2.fix_cons,hq,hc]
   have hfl:=L2.fix_length j v
   have hbig:¬ 9223372036854775807<1+j:=by omega
   replace hfc:=hid hfc
   replace hq10:=hid hq10
   replace hq:=hid hq
   have hqI:(0:Int)<(q:Int):=by omega
   have e2:48+(q:Int) % 10=(c.toNat:Int):=by rw [hc,L2.dgt_toNat];omega
   replace hc:=hid hc
   go_wp2
   go_roundw
   case rel=>exact ⟨j+1,by omega,by rw [hq10.out];go_num,by rw [hfc.out],Or.inr (by rw [Nat.add_sub_cancel,hq.out];omega),(hx.out.alloc _ _)⟩
   case measure=>simp [RowKit.intOf,strSize_string,Lib.size_mk,hfl];omega
  ·have hq0:q=0:=by omega
   subst hq0
   clear hj19 hz
   have hj0:¬ j=0:=by
    rintro rfl
    simp at hq
    omega
   have hle:¬ (j:Int)<1:=by omega
   have hfl:=L2.fix_length j v
   replace hq:=hid hq
   go_wp2
   go_ret
   exact⟨⟨j,⟨by omega,hq.out,by rcases hor with h | h;exact Or.inl (by omega);exact Or.inr h⟩,rfl⟩,hx.out⟩
def tcnt (c:UInt8)(ts:List Tok):Nat:=ts.countP (fun t=>t.text==[c])
theorem take_count {c:UInt8}(l:List UInt8)(n:Nat):l.count c=(l.take n).count c+(l.drop n).count c:=by
 conv=>lhs;rw [←List.take_append_drop n l]
 rw [List.count_append]
theorem lexF_count (c:UInt8):∀ (f p:Nat) (l:List UInt8),tcnt c (L7.lexF f p l).1≤l.count c
 | 0,p,l=>by simp [L7.lexF,tcnt]
 | f+1,p,l=>by
  rw [L7.lexF]
  have hd:=take_count (c:=c) l (L7.wh false l)
  cases hm:l.drop (L7.wh false l) with
  | nil=>simp [tcnt]
  | cons x m =>
   simp only []
   rw [hm] at hd
   split
   ·simp [tcnt]
   ·rename_i hs
    have ih:=lexF_count c f (p+L7.wh false l+L7.sz (x::m)) ((x::m).drop (L7.sz (x::m)))
    have h2:=take_count (c:=c) (x::m) (L7.sz (x::m))
    unfold tcnt at ih ⊢
    rw [List.countP_cons]
    split
    ·rename_i he
     have he':(x::m).take (L7.sz (x::m)) = [c]:=by simpa using he
     rw [he'] at h2
     simp only [List.count_cons_self,List.count_nil] at h2
     omega
    ·omega
theorem aT_count (c:UInt8)(l:List UInt8):tcnt c (L7.aT l)≤l.count c:=by
 unfold L7.aT
 split
 ·simp [tcnt]
 ·split
  ·simp [tcnt]
  ·have h:=lexF_count c (l.length+1) 0 l
   have h':tcnt c (L7.lex 0 l).1≤l.count c:=h
   unfold tcnt at h' ⊢
   rw [List.countP_append]
   simpa using h'
theorem tk_sub {f:List UInt8→Option Int}{ts:List Tok}{a:Int×List Tok}(h:tk f ts=.ok a):∃ t,ts=t::a.2:=by
 cases ts with
 | nil=>cases h
 | cons t ts =>
  simp only [tk] at h
  split at h
  ·obtain rfl:=Res.ok.inj h;exact ⟨t,rfl⟩
  ·cases h
theorem clauseR_sub {i:Nat}{p:Prd}{ts:List Tok}{a:Prd×List Tok}(h:clauseR i p ts=.ok a):∃ pre,ts=pre++a.2:=by
 have one:∀ {f:List UInt8→Option Int} {g:Int→Prd},((tk f ts).bind fun b=>Res.ok (g b.1,b.2))=.ok a→∃ pre,ts=pre++a.2:=by
  intro f g hb
  obtain⟨b,h1,hb2⟩:=bind_ok hb
  obtain rfl:=Res.ok.inj hb2
  obtain⟨t,e⟩:=tk_sub h1
  exact⟨[t],e⟩
 have two:∀ {f g:List UInt8→Option Int} {q:Int→Int→Prd},((tk f ts).bind fun b=>(tk g b.2).bind fun d=>Res.ok (q b.1 d.1,d.2))=.ok a→∃ pre,ts=pre++a.2:=by
  intro f g q hb
  obtain⟨b,h1,hb2⟩:=bind_ok hb
  obtain⟨d,h2,hb3⟩:=bind_ok hb2
  obtain rfl:=Res.ok.inj hb3
  obtain⟨t,e⟩:=tk_sub h1
  obtain⟨u,e2⟩:=tk_sub h2
  exact⟨[t,u],by rw [e,e2];rfl⟩
 match i,h with
 | 0,h=>exact one (g:=fun v=>{ p with cn:=v }) h
 | 1,h=>exact one (g:=fun v=>{ p with rd:=v }) h
 | 2,h=>exact one (g:=fun v=>{ p with kd:=v }) h
 | 3,h=>exact one (g:=fun v=>{ p with ev:=v }) h
 | 4,h=>exact one (g:=fun v=>{ p with tm:=v }) h
 | 5,h=>exact one (g:=fun v=>{ p with gr:=v }) h
 | 6,h=>exact one (g:=fun v=>{ p with rt:=v }) h
 | 7,h=>exact one (g:=fun v=>{ p with pn:=v }) h
 | 8,h=>exact two (q:=fun v x=>{ p with rs:=p.rs++[(v,x)] }) h
 | 9,h=>exact two (q:=fun v x=>{ p with lt:=p.lt++[(v,x)] }) h
 | 10,h=>exact one (g:=fun v=>{ p with cp:=v }) h
 | 11,h=>exact one (g:=fun v=>{ p with hd:=p.hd++[v] }) h
 | 12,h =>
  obtain⟨b0,h0,k0⟩:=bind_ok (show ((tk _ ts).bind _)=_ from h)
  obtain⟨b1,h1,k1⟩:=bind_ok k0
  obtain⟨b2,h2,k2⟩:=bind_ok k1
  obtain⟨b3,h3,k3⟩:=bind_ok k2
  obtain rfl:=Res.ok.inj k3
  obtain⟨t0,e0⟩:=tk_sub h0
  obtain⟨t1,e1⟩:=tk_sub h1
  obtain⟨t2,e2⟩:=tk_sub h2
  obtain⟨t3,e3⟩:=tk_sub h3
  exact⟨[t0,t1,t2,t3],by rw [e0,e1,e2,e3];rfl⟩
 | 13,h=>exact one (g:=fun v=>{ p with ov:=v }) h
 | 14,h=>exact one (g:=fun v=>{ p with rl:=v }) h
 | i+15,h=>cases h
theorem xp_sub {l:List UInt8}{ts us:List Tok}(h:xp l ts=.ok us):∃ t,ts=t::us:=by
 cases ts with
 | nil=>cases h
 | cons t ts =>
  simp only [xp] at h
  split at h
  ·obtain rfl:=Res.ok.inj h;exact ⟨t,rfl⟩
  ·cases h
theorem clR_sub {t:Tok}{s u:St}(h:clR t s=.ok u):∃ pre,s.ts=pre++u.ts:=by
 unfold clR at h
 split at h
 ·split at h
  ·obtain ⟨a,h1,h2⟩:=bind_ok h
   obtain⟨us,h3,h4⟩:=bind_ok h2
   obtain rfl:=Res.ok.inj h4
   obtain⟨pre,e⟩:=clauseR_sub h1
   obtain⟨x,e2⟩:=xp_sub h3
   exact⟨pre++[x],by rw [e,e2];simp⟩
  ·cases h
 ·cases h
theorem tcnt_sub {c:UInt8}{ts pre us:List Tok}(h:ts=pre++us):tcnt c us≤tcnt c ts:=by
 rw [h]
 unfold tcnt
 rw [List.countP_append]
 omega
theorem tcnt_cons {c:UInt8}{t:Tok}{ts:List Tok}:tcnt c ts≤tcnt c (t::ts):=tcnt_sub (pre:=[t]) rfl
theorem grp_open:∀ (f d:Nat) (s u:St),tcnt 125 s.ts=0→grp f d s≠.ok u
 | 0,d,s,u,_,h=>by cases h
 | f+1,d,s,u,hc,h=>by
  rw [grp] at h
  cases hs:s.ts with
  | nil=>rw [hs] at h;cases h
  | cons t ts =>
   rw [hs] at h hc
   have hc2:tcnt 125 ts=0:=Nat.le_zero.1 (hc ▸ tcnt_cons)
   simp only [] at h
   split at h
   ·rename_i he
    unfold tcnt at hc
    rw [List.countP_cons,he] at hc
    simp at hc
   ·split at h
    ·split at h
     ·obtain ⟨v,h1,_⟩:=bind_ok h
      exact grp_open f (d+1) { s with ts:=ts } v hc2 h1
     ·cases h
    ·obtain ⟨v,h1,h2⟩:=bind_ok h
     obtain⟨pre,e⟩:=clR_sub h1
     exact grp_open f d v u (Nat.le_zero.1 (hc2 ▸ tcnt_sub e)) h2
theorem bind_no {α β:Type}{r:Res α}{f:α→Res β}{e p:Nat}(h:r.bind f=.no e p):r=.no e p∨∃ a,r=.ok a∧f a=.no e p:=by
 cases r with
 | ok a=>exact Or.inr ⟨a,rfl,h⟩
 | no x y=>cases h;exact Or.inl rfl
theorem tk_err {f:List UInt8→Option Int}{ts:List Tok}{e p:Nat}(h:tk f ts=.no e p):e=0∨e=7:=by
 cases ts with
 | nil=>cases h;exact Or.inl rfl
 | cons t ts =>
  simp only [tk] at h
  split at h
  ·cases h
  ·cases h;exact Or.inr rfl
theorem xp_err {l:List UInt8}{ts:List Tok}{e p:Nat}(h:xp l ts=.no e p):e=0∨e=7:=by
 cases ts with
 | nil=>cases h;exact Or.inl rfl
 | cons t ts =>
  simp only [xp] at h
  split at h
  ·cases h
  ·cases h;exact Or.inr rfl
theorem clauseR_err {i:Nat}{p:Prd}{ts:List Tok}{e q:Nat}(h:clauseR i p ts=.no e q):e=0∨e=7:=by
 have one:∀ {f:List UInt8→Option Int} {g:Int→Prd},((tk f ts).bind fun b=>Res.ok (g b.1,b.2))=.no e q→e=0∨e=7:=by
  intro f g hb
  rcases bind_no hb with h1 | ⟨b,_,h2⟩
  ·exact tk_err h1
  ·cases h2
 have two:∀ {f g:List UInt8→Option Int} {r:Int→Int→Prd},((tk f ts).bind fun b=>(tk g b.2).bind fun d=>Res.ok (r b.1 d.1,d.2))=.no e q→e=0∨e=7:=by
  intro f g r hb
  rcases bind_no hb with h1 | ⟨b,_,h2⟩
  ·exact tk_err h1
  ·rcases bind_no h2 with h3 | ⟨d,_,h4⟩
   ·exact tk_err h3
   ·cases h4
 match i,h with
 | 0,h=>exact one (g:=fun v=>{ p with cn:=v }) h
 | 1,h=>exact one (g:=fun v=>{ p with rd:=v }) h
 | 2,h=>exact one (g:=fun v=>{ p with kd:=v }) h
 | 3,h=>exact one (g:=fun v=>{ p with ev:=v }) h
 | 4,h=>exact one (g:=fun v=>{ p with tm:=v }) h
 | 5,h=>exact one (g:=fun v=>{ p with gr:=v }) h
 | 6,h=>exact one (g:=fun v=>{ p with rt:=v }) h
 | 7,h=>exact one (g:=fun v=>{ p with pn:=v }) h
 | 8,h=>exact two (r:=fun v x=>{ p with rs:=p.rs++[(v,x)] }) h
 | 9,h=>exact two (r:=fun v x=>{ p with lt:=p.lt++[(v,x)] }) h
 | 10,h=>exact one (g:=fun v=>{ p with cp:=v }) h
 | 11,h=>exact one (g:=fun v=>{ p with hd:=p.hd++[v] }) h
 | 12,h =>
  rcases bind_no (show ((tk _ ts).bind _)=_ from h) with k | ⟨_,_,k⟩
  ·exact tk_err k
  rcases bind_no k with k | ⟨_,_,k⟩
  ·exact tk_err k
  rcases bind_no k with k | ⟨_,_,k⟩
  ·exact tk_err k
  rcases bind_no k with k | ⟨_,_,k⟩
  ·exact tk_err k
  ·cases k
 | 13,h=>exact one (g:=fun v=>{ p with ov:=v }) h
 | 14,h=>exact one (g:=fun v=>{ p with rl:=v }) h
 | i+15,h=>cases h;exact Or.inl rfl
theorem clR_err {t:Tok}{s:St}{e q:Nat}(h:clR t s=.no e q):e=0∨e=7:=by
 unfold clR at h
 split at h
 ·split at h
  ·rcases bind_no h with k | ⟨_,_,k⟩
   ·exact clauseR_err k
   rcases bind_no k with k | ⟨_,_,k⟩
   ·exact xp_err k
   ·cases k
  ·cases h;exact Or.inr rfl
 ·cases h;exact Or.inr rfl
theorem grp_flat:∀ (f d:Nat) (s:St) (e q:Nat),tcnt 123 s.ts=0→grp f d s=.no e q→e=0∨e=7
 | 0,d,s,e,q,_,h=>by cases h;exact Or.inl rfl
 | f+1,d,s,e,q,hc,h=>by
  rw [grp] at h
  cases hs:s.ts with
  | nil=>rw [hs] at h;cases h;exact Or.inl rfl
  | cons t ts =>
   rw [hs] at h hc
   have hc2:tcnt 123 ts=0:=Nat.le_zero.1 (hc ▸ tcnt_cons)
   simp only [] at h
   split at h
   ·cases h
   ·split at h
    ·rename_i he
     unfold tcnt at hc
     rw [List.countP_cons,he] at hc
     simp at hc
    ·rcases bind_no h with k | ⟨v,h1,k⟩
     ·exact clR_err k
     ·obtain ⟨pre,e2⟩:=clR_sub h1
      exact grp_flat f d v e q (Nat.le_zero.1 (hc2 ▸ tcnt_sub e2)) k
theorem prs_cut {l:List UInt8}(hE:L7.aE l=0)(h1:l.count 125=0)(h2:l.count 123≤1):∃ q,prs l=.no 7 q∧q≤l.length:=by
 have c1:tcnt 125 (L7.aT l)=0:=Nat.le_zero.1 (h1 ▸ aT_count 125 l)
 have c2:tcnt 123 (L7.aT l)≤1:=Nat.le_trans (aT_count 123 l) h2
 have hp:prs l=textR (L7.aT l):=by unfold prs;rw [if_pos hE]
 have key:∀ X,textR (L7.aT l)=X→(∃ e q,X=.no e q∧(e=0∨e=7)):=by
  intro X hX
  unfold textR at hX
  generalize L7.aT l=T at *
  cases T with
  | nil=>exact ⟨0,0,hX.symm,Or.inl rfl⟩
  | cons t0 ts0 =>
   simp only [] at hX
   cases hu:xp [112,114,111,100,117,99,116] (t0::ts0) with
   | no e q=>rw [hu] at hX;exact ⟨e,q,hX.symm,xp_err hu⟩
   | ok u =>
    rw [hu] at hX
    obtain⟨_,eu⟩:=xp_sub hu
    have d1:tcnt 125 u=0:=Nat.le_zero.1 (c1 ▸ tcnt_sub (pre:=[_]) eu)
    have d2:tcnt 123 u≤1:=Nat.le_trans (tcnt_sub (pre:=[_]) eu) c2
    cases u with
    | nil=>exact ⟨0,0,hX.symm,Or.inl rfl⟩
    | cons t v =>
     simp only [Res.bind] at hX
     split at hX
     ·have d3:tcnt 125 v=0:=Nat.le_zero.1 (d1 ▸ tcnt_cons)
      have d4:tcnt 123 v≤1:=Nat.le_trans tcnt_cons d2
      cases hx:xp [123] v with
      | no e q=>rw [hx] at hX;exact ⟨e,q,hX.symm,xp_err hx⟩
      | ok x =>
       rw [hx] at hX
       simp only [] at hX
       obtain⟨b,eb⟩:=xp_sub hx
       have hb:b.text = [123]:=by
        rw [eb] at hx
        simp only [xp] at hx
        split at hx
        ·assumption
        ·cases hx
       have d5:tcnt 125 x=0:=Nat.le_zero.1 (d3 ▸ tcnt_sub (pre:=[b]) eb)
       have d6:tcnt 123 x=0:=by
        rw [eb] at d4
        unfold tcnt at d4 ⊢
        rw [List.countP_cons,hb,if_pos (show ((([123]:List UInt8)==[123])=true) by decide)] at d4
        omega
       cases hg:grp (x.length+1) 1 ⟨x,{ prd0 with nm:=t.text },had0⟩ with
       | no e q=>rw [hg] at hX;exact ⟨e,q,hX.symm,grp_flat _ _ _ _ _ d6 hg⟩
       | ok s=>exact absurd hg (grp_open _ _ _ _ d5)
     ·exact ⟨7,t.at_,hX.symm,Or.inr rfl⟩
 obtain⟨e,q,hX,he⟩:=key _ rfl
 rw [←hp] at hX
 obtain⟨hk,hq⟩:=prs_no hX
 have he7:e=7:=by omega
 exact⟨q,he7 ▸ hX,hq⟩
def cl:Nat→List UInt8→Bool
 | _,[]=>true
 | st,c::l=>if st==1&&L7.inWL.contains c then cl 1 l else if st==2&&L7.inNL.contains c then cl 2 l else if L7.letL.contains c then cl 1 l else if L7.digL.contains c then cl 2 l else if L7.sgnL.contains c||L7.blankL.contains c then cl 0 l else false
theorem cl_zero {st:Nat}{c:UInt8}{l:List UInt8}(h1:¬ (st==1&&L7.inWL.contains c)=true)(h2:¬ (st==2&&L7.inNL.contains c)=true):cl st (c::l)=cl 0 (c::l):=by
 rw [cl,cl,if_neg h1,if_neg h2]
 simp
theorem cl_run1:∀ l:List UInt8,cl 1 l=true→cl 0 (l.drop (L7.rn l L7.inWL))=true
 | [],_=>rfl
 | c::l,h=>by
  cases hc:L7.inWL.contains c with
  | true =>
   rw [L7.rn_in hc,List.drop_succ_cons]
   rw [cl,hc] at h
   exact cl_run1 l (by simpa using h)
  | false =>
   rw [L7.rn_out hc,List.drop_zero,←cl_zero (st:=1) (by rw [hc];simp) (by simp)]
   exact h
theorem cl_run2:∀ l:List UInt8,cl 2 l=true→cl 0 (l.drop (L7.rn l L7.inNL))=true
 | [],_=>rfl
 | c::l,h=>by
  cases hc:L7.inNL.contains c with
  | true =>
   rw [L7.rn_in hc,List.drop_succ_cons]
   rw [cl,hc] at h
   exact cl_run2 l (by simpa using h)
  | false =>
   rw [L7.rn_out hc,List.drop_zero,←cl_zero (st:=2) (by simp) (by rw [hc];simp)]
   exact h
theorem blank_no (c:UInt8)(h:L7.blankL.contains c=true):L7.letL.contains c=false∧L7.digL.contains c=false:=by
 have:=L7.byte_all (fun c=>!L7.blankL.contains c||(!L7.letL.contains c&&!L7.digL.contains c)) (by decide +kernel) c
 rw [h] at this
 simpa using this
theorem cl_wh:∀ l:List UInt8,cl 0 l=true→cl 0 (l.drop (L7.wh false l))=true
 | [],_=>rfl
 | c::l,h=>by
  rw [L7.wh]
  split
  ·rename_i hb
   obtain⟨h1,h2⟩:=blank_no c hb
   rw [Nat.add_comm,List.drop_succ_cons]
   refine cl_wh l ?_
   rw [cl,h1,h2,hb] at h
   simpa using h
  ·split
   ·rename_i hc
    subst hc
    have e:cl 0 (35::l)=false:=by
     rw [cl]
     simp only [show ((0:Nat)==1)=false from rfl,show ((0:Nat)==2)=false from rfl,Bool.false_and,Bool.false_eq_true,if_false,show L7.letL.contains 35=false by decide,show L7.digL.contains 35=false by decide,show (L7.sgnL.contains 35||L7.blankL.contains 35)=false by decide]
    rw [e] at h
    cases h
   ·exact h
theorem cl_lex:∀ (n p:Nat) (l:List UInt8),l.length≤n→cl 0 l=true→(L7.lex p l).2=none
 | n,p,l,hn,h=>by
  rw [L7.lex_pass]
  have h0:=cl_wh l h
  have hw:=L7.wh_drop false l
  have hl:(l.drop (L7.wh false l)).length≤n:=by rw [List.length_drop];omega
  generalize p+L7.wh false l=q
  cases hm:l.drop (L7.wh false l) with
  | nil=>rw [L7.lex_end (l:=[]) rfl]
  | cons c m =>
   rw [hm] at h0 hw hl
   rw [cl] at h0
   simp only [show ((0:Nat)==1)=false from rfl,show ((0:Nat)==2)=false from rfl,Bool.false_and,Bool.false_eq_true,if_false] at h0
   obtain⟨n,rfl⟩:∃ k,n=k+1:=⟨n-1,by simp at hl;omega⟩
   have hlm:m.length≤n:=by simpa using hl
   have step:∀ z,L7.sz (c::m)=z+1→cl 0 (m.drop z)=true→(L7.lex q (c::m)).2=none:=fun z hz hc=>by
    rw [L7.lex_tok hw hz (by omega)]
    show (L7.lex (q+(z+1)) ((c::m).drop (z+1))).2=none
    rw [List.drop_succ_cons]
    exact cl_lex n _ _ (by rw [List.length_drop];omega) hc
   split at h0
   ·rename_i hc
    exact step (L7.rn m L7.inWL) (by rw [L7.sz_cons,if_pos hc]) (cl_run1 m h0)
   ·rename_i hc
    split at h0
    ·rename_i hd
     exact step (L7.rn m L7.inNL) (by rw [L7.sz_cons,if_neg hc,hd];rfl) (cl_run2 m h0)
    ·rename_i hd
     split at h0
     ·rename_i hs
      cases hb:L7.blankL.contains c with
      | true =>
       rw [L7.wh,if_pos hb] at hw
       omega
      | false =>
       rw [hb,Bool.or_false] at hs
       obtain⟨_,_,h3⟩:=L7.sgn_let c hs
       have hd':L7.digL.contains c=false:=by simpa using hd
       refine step 0 ?_ (by simpa using h0)
       rw [L7.sz_cons,if_neg hc,hd',show (c==45)=false by simpa using h3,hs]
       rfl
     ·cases h0
theorem clo_no (c:UInt8)(h:L7.closer c=true):L7.inWL.contains c=false∧L7.inNL.contains c=false∧L7.letL.contains c=false∧L7.digL.contains c=false∧(L7.sgnL.contains c||L7.blankL.contains c)=true:=by
 have:=L7.byte_all (fun c=>!L7.closer c||(!L7.inWL.contains c&&(!L7.inNL.contains c&&(!L7.letL.contains c&&(!L7.digL.contains c&&(L7.sgnL.contains c||L7.blankL.contains c)))))) (by decide +kernel) c
 rw [h] at this
 simpa using this
theorem cl_clo {c:UInt8}(h:L7.closer c=true)(st:Nat)(b:List UInt8):cl st (c::b)=cl 0 b:=by
 obtain⟨h1,h2,h3,h4,h5⟩:=clo_no c h
 rw [cl,h1,h2,h3,h4,h5]
 simp
theorem cl_app {c:UInt8}(hc:L7.closer c=true){b:List UInt8}(hb:cl 0 b=true):∀ (a:List UInt8) (st:Nat),cl st a=true→cl st (a++c::b)=true
 | [],st,_=>by rw [List.nil_append,cl_clo hc];exact hb
 | x::a,st,h=>by
  rw [List.cons_append]
  rw [cl] at h ⊢
  split at h
  ·rename_i k;rw [if_pos k];exact cl_app hc hb a 1 h
  ·rename_i k;rw [if_neg k]
   split at h
   ·rename_i k;rw [if_pos k];exact cl_app hc hb a 2 h
   ·rename_i k;rw [if_neg k]
    split at h
    ·rename_i k;rw [if_pos k];exact cl_app hc hb a 1 h
    ·rename_i k;rw [if_neg k]
     split at h
     ·rename_i k;rw [if_pos k];exact cl_app hc hb a 2 h
     ·rename_i k;rw [if_neg k]
      split at h
      ·rename_i k;rw [if_pos k];exact cl_app hc hb a 0 h
      ·cases h
theorem cl_aE {l:List UInt8}(h:cl 0 l=true)(hl:l.length≤20000):L7.aE l=0:=by
 unfold L7.aE
 have h2:=cl_lex l.length 0 l (Nat.le_refl _) h
 rw [if_neg (by omega),h2]
 rfl
theorem cl_take:∀ (l:List UInt8) (st n:Nat),cl st l=true→cl st (l.take n)=true
 | [],st,n,_=>by simp [cl]
 | c::l,st,0,_=>rfl
 | c::l,st,n+1,h=>by
  rw [List.take_succ_cons]
  rw [cl] at h ⊢
  split at h
  ·rename_i k;rw [if_pos k];exact cl_take l 1 n h
  ·rename_i k;rw [if_neg k]
   split at h
   ·rename_i k;rw [if_pos k];exact cl_take l 2 n h
   ·rename_i k;rw [if_neg k]
    split at h
    ·rename_i k;rw [if_pos k];exact cl_take l 1 n h
    ·rename_i k;rw [if_neg k]
     split at h
     ·rename_i k;rw [if_pos k];exact cl_take l 2 n h
     ·rename_i k;rw [if_neg k]
      split at h
      ·rename_i k;rw [if_pos k];exact cl_take l 0 n h
      ·cases h
structure Body (l:List UInt8):Prop where
 shut:l.count 125=0
 one:l.count 123≤1
 cl:cl 0 l=true
theorem count_take {c:UInt8}(l:List UInt8)(n:Nat):(l.take n).count c≤l.count c:=by
 have:=take_count (c:=c) l n
 omega
theorem body_cut {l:List UInt8}(h:Body l)(k:Nat)(hl:l.length≤20000):∃ q,prs (l.take k)=.no 7 q∧q≤k:=by
 have hlt:(l.take k).length≤20000:=by rw [List.length_take];omega
 obtain⟨q,h1,h2⟩:=prs_cut (cl_aE (cl_take l 0 k h.cl) hlt) (Nat.le_zero.1 (h.shut ▸ count_take l k)) (Nat.le_trans (count_take l k) h.one)
 exact⟨q,h1,by rw [List.length_take] at h2;omega⟩
structure Pce (l:List UInt8):Prop where
 b1:l.count 125=0
 b2:l.count 123=0
 cl:cl 0 l=true
theorem cl_in1:∀ l:List UInt8,l.all (L7.inWL.contains ·)=true→cl 1 l=true
 | [],_=>rfl
 | c::l,h=>by
  simp only [List.all_cons,Bool.and_eq_true] at h
  rw [cl,h.1]
  simpa using cl_in1 l h.2
theorem cl_in2:∀ l:List UInt8,l.all (L7.inNL.contains ·)=true→cl 2 l=true
 | [],_=>rfl
 | c::l,h=>by
  simp only [List.all_cons,Bool.and_eq_true] at h
  rw [cl,h.1]
  simpa using cl_in2 l h.2
theorem no_count {l t:List UInt8}{c:UInt8}(ht:t.contains c=false)(h:l.all (t.contains ·)=true):l.count c=0:=by
 rw [List.count_eq_zero]
 intro hc
 have:=List.all_eq_true.1 h c hc
 rw [ht] at this
 cases this
theorem pce_num {c:UInt8}{m:List UInt8}(hc:L7.digL.contains c=true)(hm:m.all (L7.inNL.contains ·)=true):Pce (c::m):=by
 have ha:(c::m).all (L7.inNL.contains ·)=true:=by simp only [List.all_cons,Bool.and_eq_true];exact ⟨L7.dig_inN c hc,hm⟩
 have hl:L7.letL.contains c=false:=by
  have:=L7.byte_all (fun c=>!L7.digL.contains c||!L7.letL.contains c) (by decide +kernel) c
  rw [hc] at this
  simpa using this
 refine⟨no_count (by decide) ha,no_count (by decide) ha,?_⟩
 rw [cl,hl,hc]
 simpa using cl_in2 m hm
theorem pce_word {c:UInt8}{m:List UInt8}(hc:L7.letL.contains c=true)(hm:m.all (L7.inWL.contains ·)=true):Pce (c::m):=by
 have ha:(c::m).all (L7.inWL.contains ·)=true:=by simp only [List.all_cons,Bool.and_eq_true];exact ⟨L7.let_inW c hc,hm⟩
 refine⟨no_count (by decide) ha,no_count (by decide) ha,?_⟩
 rw [cl,hc]
 simpa using cl_in1 m hm
theorem isD_inN {c:UInt8}(h:L2.isD c=true):L7.inNL.contains c=true:=L7.dig_inN c (dig_isD h)
theorem all_inN {l:List UInt8}(h:l.all L2.isD=true):l.all (L7.inNL.contains ·)=true:=by
 rw [List.all_eq_true] at h ⊢
 exact fun c hc=>isD_inN (h c hc)
theorem pce_digits {d r:List UInt8}(hn:d≠[])(hd:d.all L2.isD=true)(hr:r.all (L7.inNL.contains ·)=true):Pce (d++r):=by
 cases d with
 | nil=>exact absurd rfl hn
 | cons c m =>
  simp only [List.all_cons,Bool.and_eq_true] at hd
  refine pce_num (dig_isD hd.1) ?_
  show (m++r).all _=true
  rw [List.all_append,Bool.and_eq_true]
  exact⟨all_inN hd.2,hr⟩
theorem pce_dec (n:Nat):Pce (decDigits n):=by
 have:=pce_digits (L2.decDigits_ne n) (L2.decDigits_all n) (r:=[]) rfl
 simpa using this
theorem pce_money (v:Int)(h:0≤v):Pce (L2.moneyL v):=by
 unfold L2.moneyL L2.signL
 rw [if_neg (by omega),List.nil_append]
 refine pce_digits (L2.decDigits_ne _) (L2.decDigits_all _) ?_
 simp only [List.all_cons,Bool.and_eq_true]
 exact⟨by decide,all_inN (L2.fix_all _ _)⟩
theorem trim_all {q:UInt8→Bool}{l:List UInt8}(c:UInt8)(h:l.all q=true):(trimRightB l c).all q=true:=by
 unfold trimRightB
 rw [List.all_eq_true] at h ⊢
 intro x hx
 rw [List.mem_reverse] at hx
 exact h x (List.mem_reverse.1 ((List.dropWhile_suffix _).subset hx))
theorem pce_rate (v:Int)(h:0≤v):Pce (L2.rateL v):=by
 unfold L2.rateL L2.signL
 rw [if_neg (by omega),List.nil_append]
 refine pce_digits (L2.decDigits_ne _) (L2.decDigits_all _) ?_
 have ht:(L2.tailL v.natAbs).all (L7.inNL.contains ·)=true:=by
  unfold L2.tailL
  exact trim_all 48 (all_inN (L2.fix_all _ _))
 rw [List.all_append,Bool.and_eq_true]
 refine⟨?_,by decide⟩
 unfold L2.dotL
 split
 ·rfl
 ·simp only [List.all_cons,Bool.and_eq_true]
  exact⟨by decide,ht⟩
theorem pce_text (y m d:Int):Pce (L3.textL y m d):=by
 unfold L3.textL
 have e:∀ k n,L3.fix k n=L2.fix k n:=by
  intro k
  induction k with
  | zero=>intro n;rfl
  | succ k ih=>intro n;rw [L3.fix,L2.fix,ih];rfl
 rw [e,e,e]
 refine pce_digits (by rw [L2.fix_cons];simp) (L2.fix_all _ _) ?_
 simp only [List.all_cons,List.all_append,Bool.and_eq_true]
 exact⟨by decide,all_inN (L2.fix_all _ _),by decide,all_inN (L2.fix_all _ _)⟩
theorem low_let (c:UInt8)(h:L8.lowB c=true):L7.letL.contains c=true:=by
 have:=L7.byte_all (fun c=>!L8.lowB c||L7.letL.contains c) (by decide +kernel) c
 rw [h] at this
 simpa using this
theorem in_inW (c:UInt8)(h:L8.inB c=true):L7.inWL.contains c=true:=by
 have:=L7.byte_all (fun c=>!L8.inB c||L7.inWL.contains c) (by decide +kernel) c
 rw [h] at this
 simpa using this
theorem pce_name {l:List UInt8}(h:L8.nmb l=true):Pce l:=by
 unfold L8.nmb at h
 simp only [Bool.and_eq_true] at h
 cases l with
 | nil=>simp [L8.headB] at h
 | cons c m =>
  obtain⟨_,h1,h2,_⟩:=h
  simp only [List.all_cons,Bool.and_eq_true] at h2
  refine pce_word (low_let c h1) ?_
  rw [List.all_eq_true]
  exact fun x hx=>in_inW x (List.all_eq_true.1 h2.2 x hx)
theorem Pce.join {a b:List UInt8}{c:UInt8}(ha:Pce a)(hb:Pce b)(hc:L7.closer c=true)(h1:c≠125)(h2:c≠123):Pce (a++c::b):=by
 refine⟨?_,?_,cl_app hc hb.cl a 0 ha.cl⟩
 ·rw [List.count_append,List.count_cons_of_ne h1,ha.b1,hb.b1]
 ·rw [List.count_append,List.count_cons_of_ne h2,ha.b2,hb.b2]
theorem Pce.sp {a b:List UInt8}(ha:Pce a)(hb:Pce b):Pce (a++32::b):=ha.join hb (by decide) (by decide) (by decide)
structure Sof (S:List UInt8):Prop where
 b1:S.count 125=0
 b2:S.count 123=1
 fin:∃ a,S=a++[10]
 cl:cl 0 S=true
theorem Sof.body {S:List UInt8}(h:Sof S):Body S:=⟨h.b1,by rw [h.b2];exact Nat.le_refl _,h.cl⟩
def lineL (q:List UInt8):List UInt8:=[32,32]++(q++[59,10])
theorem Sof.line {S q:List UInt8}(h:Sof S)(hq:Pce q):Sof (S++lineL q):=by
 obtain⟨a,e⟩:=h.fin
 have hc:Go.Proofs.YtcijdkbopiaicaaGreatDoor.cl 0 (lineL q)=true:=by
  unfold lineL
  show Go.Proofs.YtcijdkbopiaicaaGreatDoor.cl 0 (32::32::(q++59::[10]))=true
  rw [cl_clo (by decide),cl_clo (by decide)]
  exact cl_app (by decide) (by decide) q 0 hq.cl
 have ca:Go.Proofs.YtcijdkbopiaicaaGreatDoor.cl 0 a=true:=by
  have:=cl_take S 0 a.length h.cl
  rw [e,List.take_left'  rfl] at this
  exact this
 refine⟨?_,?_,⟨a++[10]++([32,32]++(q++[59])),by rw [e];unfold lineL;simp⟩,?_⟩
 ·rw [List.count_append,h.b1]
  unfold lineL
  rw [List.count_append,List.count_append,hq.b1]
  decide
 ·rw [List.count_append,h.b2]
  unfold lineL
  rw [List.count_append,List.count_append,hq.b2]
  decide
 ·rw [e,List.append_assoc,List.singleton_append]
  exact cl_app (by decide) hc a 0 ca
def topL (nm:List UInt8):List UInt8:=[112,114,111,100,117,99,116,32]++(nm++[32,123,10])
theorem sof_top {nm:List UInt8}(h:L8.nmb nm=true):Sof (topL nm):=by
 have hn:=pce_name h
 refine⟨?_,?_,⟨[112,114,111,100,117,99,116,32]++(nm++[32,123]),by unfold topL;simp⟩,?_⟩
 ·unfold topL
  rw [List.count_append,List.count_append,hn.b1]
  decide
 ·unfold topL
  rw [List.count_append,List.count_append,hn.b2]
  decide
 ·show cl 0 ([112,114,111,100,117,99,116]++32::(nm++32::[123,10]))=true
  exact cl_app (by decide) (cl_app (by decide) (by decide) nm 0 hn.cl) _ 0 (by decide)
theorem hdigits_0 (w:World) :
  Calls Tryz.prog 40 #[.int .i64 0,.int .i64 1] w fun e w'=>e=.returned (.string ⟨#[48]⟩)∧Ext w w':=by
 have hcb:=fun (W:World) (b:Nat) (h:W.cell? ⟨b,0,none⟩=some (.int .u8 ((48:UInt8).toNat:Int)))=>L2.one_byte W b 48 h
 go_enter Tryz.func40,Tryz.ntmps40
 go_wp2
 refine wp_loop_rounds 2 ?_
 rw [rounds_succ]
 go_wp2
 rw [rounds_succ]
 go_wp2
 go_ret
 exact⟨rfl,(Ext.refl w).alloc _ _⟩
theorem numP_c (n:Nat)(w:World)(hn:n<100000) :
  Calls Tryz.prog 12 #[.int .i64 n] w fun e w'=>e=.returned (.string ⟨(decDigits n).toArray⟩)∧Ext w w':=by
 have hd:Hid (Calls Tryz.prog 40 #[.int .i64 n,.int .i64 1] w fun e w'=>e=.returned (.string ⟨(decDigits n).toArray⟩)∧Ext w w'):=by
  by_cases h0:n=0
  ·subst h0
   have e0:decDigits 0 = [48]:=by rw [L2.decDigits_small (by decide)];rfl
   show Calls _ _ _ _ _
   rw [e0]
   exact hdigits_0 w
  ·refine Calls.mono (hdigits_c n w hn (by omega)) ?_
   rintro e w' ⟨⟨j,hj,he⟩,hx⟩
   rw [L2.ends_dec n j hj] at he
   exact⟨he,hx⟩
 go_enter Tryz.func12,Tryz.ntmps12
 go_wp2_with fail
 refine Calls.mono hd.out ?_
 rintro e w1 ⟨rfl,hx⟩
 replace hx:=hid hx
 go_wp2
 go_ret
 exact⟨rfl,hx.out⟩
theorem line_c (q:List UInt8)(w:World)(hq:q.length≤1000000) :
  Calls Tryz.prog 11 #[.string ⟨q.toArray⟩] w fun e w'=>e=.returned (.string ⟨(lineL q).toArray⟩)∧w'=w:=by
 have g1:¬ 9223372036854775807<2+q.length:=by omega
 have g2:¬ 9223372036854775807<2+q.length+2:=by omega
 have g3:¬ 9223372036854775807<2+(q.length+2):=by omega
 have g4:¬ 9223372036854775807<q.length+1+1:=by omega
 have g5:¬ 9223372036854775807<q.length+1+1+2:=by omega
 have hl:lineL q=32::32::(q++[59,10]):=rfl
 rw [hl]
 clear hl
 go_enter Tryz.func11,Tryz.ntmps11
 go_wp2
 go_ret
 exact⟨rfl,rfl⟩
structure Okf (p:Prd):Prop where
 nm:L8.nmb p.nm=true
 nl:p.nm.length≤20
 cn:1≤p.cn∧p.cn≤3
 rd:p.rd=1∨p.rd=3
 kd:1≤p.kd∧p.kd≤3
 ov:1≤p.ov∧p.ov≤3
 rl:1≤p.rl∧p.rl≤4
 ev:1≤p.ev∧p.ev≤12
 tm:1≤p.tm∧p.tm≤600
 gr:0≤p.gr∧p.gr≤600
 rt:0≤p.rt∧p.rt≤1000000000
 pn:0≤p.pn∧p.pn≤1000000000
 rl_:p.rs.length≤20
 rs:∀ x∈p.rs,0≤x.1∧x.1≤600∧0≤x.2∧x.2≤1000000000
 o0:1≤p.o0∧p.o0≤4
 o1:1≤p.o1∧p.o1≤4
 o2:1≤p.o2∧p.o2≤4
 o3:1≤p.o3∧p.o3≤4
 ll:p.lt.length≤8
 lt:∀ x∈p.lt,0≤x.1∧x.1≤365∧0≤x.2∧x.2≤10000000000000
 cp:0≤p.cp∧p.cp≤10000000000000
 hl:p.hd.length≤200
 hd:∀ x∈p.hd,-25567≤x∧x≤84370
theorem rsB_all {t:Int}(ht:t≤600):∀ (l:List (Int×Int)) (a:Int),0≤a→L8.rsB t a l=true→∀ x∈l,0≤x.1∧x.1≤600∧0≤x.2∧x.2≤1000000000
 | [],_,_,_,x,hx=>by cases hx
 | (u,v)::l,a,ha,h,x,hx=>by
  simp only [L8.rsB,Bool.and_eq_true,decide_eq_true_eq,L8.lz_iff] at h
  obtain⟨h1,h2,h3,h4⟩:=h
  rcases List.mem_cons.1 hx with rfl | hx
  ·exact ⟨by show 0≤u;omega,by show u≤600;omega,h3.1,h3.2⟩
  ·exact rsB_all ht l u (by omega) h4 x hx
theorem ltB_all:∀ (l:List (Int×Int)) (a f:Int),0≤a→0≤f→L8.ltB a f l=true→∀ x∈l,0≤x.1∧x.1≤365∧0≤x.2∧x.2≤10000000000000
 | [],_,_,_,_,_,x,hx=>by cases hx
 | (u,v)::l,a,f,ha,hf,h,x,hx=>by
  simp only [L8.ltB,Bool.and_eq_true,decide_eq_true_eq,L8.lz_iff] at h
  obtain⟨h1,h2,h3,h4⟩:=h
  rcases List.mem_cons.1 hx with rfl | hx
  ·exact ⟨by show 0≤u;omega,h2,by show 0≤v;omega,h3.2⟩
  ·exact ltB_all l u v (by omega) (by omega) h4 x hx
theorem rsg_all:∀ (l:List Int) (a:Int),-25568≤a→L8.rsg a l=true→∀ x∈l,-25567≤x∧x≤84370
 | [],_,_,_,x,hx=>by cases hx
 | u::l,a,ha,h,x,hx=>by
  simp only [L8.rsg,Bool.and_eq_true,decide_eq_true_eq] at h
  obtain⟨⟨h1,h2⟩,h3⟩:=h
  rcases List.mem_cons.1 hx with rfl | hx
  ·exact ⟨by omega,h2⟩
  ·exact rsg_all l u (by omega) h3 x hx
theorem four_in {a b c d:Int}(h:L8.r7B a b c d=true):(1≤a∧a≤4)∧(1≤b∧b≤4)∧(1≤c∧c≤4)∧(1≤d∧d≤4):=by
 simp only [L8.r7B,Bool.and_eq_true,decide_eq_true_eq,List.mem_cons,List.not_mem_nil,or_false] at h
 omega
theorem okf {p:Prd}(h:okP p=true):Okf p:=by
 unfold okP at h
 simp only [Bool.and_eq_true] at h
 obtain⟨hn,h1,h2,h3,h4,h5,h6,h7,h8,h9,h10⟩:=h
 have hnn:=hn
 unfold L8.nmb at hnn
 simp only [Bool.and_eq_true,L8.lz_iff] at hnn
 unfold L8.r1B at h1
 simp only [Bool.and_eq_true,Bool.or_eq_true,beq_iff_eq,L8.lz_iff] at h1
 unfold L8.r2B at h2
 simp only [Bool.or_eq_true,beq_iff_eq] at h2
 rw [L8.lz_iff] at h3
 unfold L8.r4B at h4
 simp only [Bool.and_eq_true,Bool.or_eq_true,beq_iff_eq,bne_iff_ne,decide_eq_true_eq] at h4
 unfold L8.r5B at h5
 simp only [Bool.and_eq_true,L8.lz_iff] at h5
 unfold L8.r6B at h6
 simp only [Bool.and_eq_true,decide_eq_true_eq] at h6
 unfold L8.r8B at h8
 simp only [Bool.and_eq_true,decide_eq_true_eq] at h8
 unfold L8.r9B at h9
 simp only [Bool.and_eq_true,Bool.or_eq_true,beq_iff_eq,decide_eq_true_eq,L8.lz_iff] at h9
 obtain⟨q0,q1,q2,q3⟩:=four_in h7
 have hh:p.hd.length≤200∧∀ x∈p.hd,-25567≤x∧x≤84370:=by
  unfold L8.r10B at h10
  split at h10
  ·have h0:p.hd.length=0:=of_decide_eq_true h10
   have h0':=List.eq_nil_of_length_eq_zero h0
   exact⟨by omega,fun x hx=>by rw [h0'] at hx;cases hx⟩
  ·refine ⟨L8.rgt_len h10,?_⟩
   unfold L8.rgt at h10
   simp only [Bool.and_eq_true] at h10
   exact rsg_all _ _ (by omega) h10.1
 exact { nm:=hn,nl:=by omega,cn:=h1.1,rd:=h1.2.1,kd:=h1.2.2.1,ov:=h1.2.2.2.1,rl:=h1.2.2.2.2,ev:=by omega,tm:=h3,gr:=by omega,rt:=h5.1,pn:=h5.2,rl_:=h6.1,rs:=rsB_all h3.2 _ 0 (by omega) h6.2,o0:=q0,o1:=q1,o2:=q2,o3:=q3,ll:=h8.1,lt:=ltB_all _ 0 0 (by omega) (by omega) h8.2,cp:=by omega,hl:=hh.1,hd:=hh.2 }
end Go.Proofs.YtcijdkbopiaicaaGreatDoor
