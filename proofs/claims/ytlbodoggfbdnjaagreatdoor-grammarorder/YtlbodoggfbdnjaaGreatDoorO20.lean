/- Contracts that the proof of this law leans on: no statement of the seat is proved here. -/
import Derived.Deep.Grids
import Derived.Test.YtlbodoggfbdnjaaGreatDoorO13
set_option linter.unusedVariables false
set_option maxRecDepth 100000
set_option maxHeartbeats 8000000
namespace Go.Proofs.YtlbodoggfbdnjaaGreatDoor
open Go.RowKit Go.Lib
def oTxt:Nat→List UInt8
 | 0=>[99,111,117,110,116,32,102,105,120,101,100,59]
 | 1=>[114,111,117,110,100,32,100,111,119,110,59]
 | 2=>[107,105,110,100,32,101,113,117,97,108,59]
 | 3=>[101,118,101,114,121,32,51,59]
 | 4=>[116,105,109,101,115,32,56,59]
 | 5=>[103,114,97,99,101,32,50,59]
 | 6=>[114,97,116,101,32,54,46,53,37,59]
 | 7=>[112,101,110,97,108,116,121,32,57,37,59]
 | 8=>[111,118,101,114,32,112,114,101,112,97,121,59]
 | 9=>[111,114,100,101,114,32,105,110,116,101,114,101,115,116,32,102,101,101,115,32,112,114,105,110,99,105,112,97,108,32,112,101,110,97,108,116,121,59]
 | 10=>[114,111,108,108,32,119,105,116,104,105,110,59]
 | 11=>[99,97,112,32,53,46,48,48,59]
 | 12=>[108,97,116,101,32,53,32,49,46,48,48,59]
 | _=>[]
def oIdx:Nat→Nat
 | 0=>0
 | 1=>1
 | 2=>2
 | 3=>3
 | 4=>4
 | 5=>5
 | 6=>6
 | 7=>7
 | 8=>13
 | 9=>12
 | 10=>14
 | 11=>10
 | 12=>9
 | _=>0
def oEff:Nat→Prd→Prd
 | 0,p=>{ p with cn:=2 }
 | 1,p=>{ p with rd:=3 }
 | 2,p=>{ p with kd:=2 }
 | 3,p=>{ p with ev:=3 }
 | 4,p=>{ p with tm:=8 }
 | 5,p=>{ p with gr:=2 }
 | 6,p=>{ p with rt:=65000000 }
 | 7,p=>{ p with pn:=90000000 }
 | 8,p=>{ p with ov:=2 }
 | 9,p=>{ p with o0:=3,o1:=1,o2:=4,o3:=2 }
 | 10,p=>{ p with rl:=3 }
 | 11,p=>{ p with cp:=500 }
 | 12,p=>{ p with lt:=p.lt++[(5,100)] }
 | _,p=>p
structure Pc (l:List UInt8)(i:Nat)(f:Prd→Prd):Prop where
 ex:∃ t us e,L7.lex 0 l=(t::(us++[e]),none)∧which t.text=i∧e.text = [59]∧∀ (p:Prd) (ts:List Tok) (q:Nat),clauseR i p (us.map (L7.shT q)++ts)=.ok (f p,ts)
 lt:i<15
 close:(match l.getLast? with | some c=>L7.closer c | none=>true)=true
 no35:l.all (· != 35)=true
 len:l.length≤40
theorem pc_0:Pc (oTxt 0) (oIdx 0) (oEff 0) :=
 ⟨⟨⟨1,0,[99,111,117,110,116]⟩,[⟨1,6,[102,105,120,101,100]⟩],⟨3,11,[59]⟩,by kernel_rfl,by decide,rfl,fun p ts q=>cl0 (show pick oCount [102,105,120,101,100]=some 2 by decide)⟩,by decide,by decide,by decide,by decide⟩
theorem pc_1:Pc (oTxt 1) (oIdx 1) (oEff 1) :=
 ⟨⟨⟨1,0,[114,111,117,110,100]⟩,[⟨1,6,[100,111,119,110]⟩],⟨3,10,[59]⟩,by kernel_rfl,by decide,rfl,fun p ts q=>cl1 (show pick oRound [100,111,119,110]=some 3 by decide)⟩,by decide,by decide,by decide,by decide⟩
theorem pc_2:Pc (oTxt 2) (oIdx 2) (oEff 2) :=
 ⟨⟨⟨1,0,[107,105,110,100]⟩,[⟨1,5,[101,113,117,97,108]⟩],⟨3,10,[59]⟩,by kernel_rfl,by decide,rfl,fun p ts q=>cl2 (show pick oKind [101,113,117,97,108]=some 2 by decide)⟩,by decide,by decide,by decide,by decide⟩
theorem pc_3:Pc (oTxt 3) (oIdx 3) (oEff 3) :=
 ⟨⟨⟨1,0,[101,118,101,114,121]⟩,[⟨2,6,[51]⟩],⟨3,7,[59]⟩,by kernel_rfl,by decide,rfl,fun p ts q=>cl3 (show numO [51]=some 3 by kernel_rfl)⟩,by decide,by decide,by decide,by decide⟩
theorem pc_4:Pc (oTxt 4) (oIdx 4) (oEff 4) :=
 ⟨⟨⟨1,0,[116,105,109,101,115]⟩,[⟨2,6,[56]⟩],⟨3,7,[59]⟩,by kernel_rfl,by decide,rfl,fun p ts q=>cl4 (show numO [56]=some 8 by kernel_rfl)⟩,by decide,by decide,by decide,by decide⟩
theorem pc_5:Pc (oTxt 5) (oIdx 5) (oEff 5) :=
 ⟨⟨⟨1,0,[103,114,97,99,101]⟩,[⟨2,6,[50]⟩],⟨3,7,[59]⟩,by kernel_rfl,by decide,rfl,fun p ts q=>cl5 (show numO [50]=some 2 by kernel_rfl)⟩,by decide,by decide,by decide,by decide⟩
theorem pc_6:Pc (oTxt 6) (oIdx 6) (oEff 6) :=
 ⟨⟨⟨1,0,[114,97,116,101]⟩,[⟨2,5,[54,46,53,37]⟩],⟨3,9,[59]⟩,by kernel_rfl,by decide,rfl,fun p ts q=>cl6 (show rateO [54,46,53,37]=some 65000000 by kernel_rfl)⟩,by decide,by decide,by decide,by decide⟩
theorem pc_7:Pc (oTxt 7) (oIdx 7) (oEff 7) :=
 ⟨⟨⟨1,0,[112,101,110,97,108,116,121]⟩,[⟨2,8,[57,37]⟩],⟨3,10,[59]⟩,by kernel_rfl,by decide,rfl,fun p ts q=>cl7 (show rateO [57,37]=some 90000000 by kernel_rfl)⟩,by decide,by decide,by decide,by decide⟩
theorem pc_8:Pc (oTxt 8) (oIdx 8) (oEff 8) :=
 ⟨⟨⟨1,0,[111,118,101,114]⟩,[⟨1,5,[112,114,101,112,97,121]⟩],⟨3,11,[59]⟩,by kernel_rfl,by decide,rfl,fun p ts q=>cl13 (show pick oOver [112,114,101,112,97,121]=some 2 by decide)⟩,by decide,by decide,by decide,by decide⟩
theorem pc_9:Pc (oTxt 9) (oIdx 9) (oEff 9) :=
 ⟨⟨⟨1,0,[111,114,100,101,114]⟩,[⟨1,6,[105,110,116,101,114,101,115,116]⟩,⟨1,15,[102,101,101,115]⟩,⟨1,20,[112,114,105,110,99,105,112,97,108]⟩,⟨1,30,[112,101,110,97,108,116,121]⟩],⟨3,37,[59]⟩,by kernel_rfl,by decide,rfl,fun p ts q=>cl12 (a:=3) (b:=1) (c:=4) (d:=2) (by show pick _ [105,110,116,101,114,101,115,116]=_;decide) (by show pick _ [102,101,101,115]=_;decide) (by show pick _ [112,114,105,110,99,105,112,97,108]=_;decide) (by show pick _ [112,101,110,97,108,116,121]=_;decide)⟩,by decide,by decide,by decide,by decide⟩
theorem pc_10:Pc (oTxt 10) (oIdx 10) (oEff 10) :=
 ⟨⟨⟨1,0,[114,111,108,108]⟩,[⟨1,5,[119,105,116,104,105,110]⟩],⟨3,11,[59]⟩,by kernel_rfl,by decide,rfl,fun p ts q=>cl14 (show pick oRoll [119,105,116,104,105,110]=some 3 by decide)⟩,by decide,by decide,by decide,by decide⟩
theorem pc_11:Pc (oTxt 11) (oIdx 11) (oEff 11) :=
 ⟨⟨⟨1,0,[99,97,112]⟩,[⟨2,4,[53,46,48,48]⟩],⟨3,8,[59]⟩,by kernel_rfl,by decide,rfl,fun p ts q=>cl10 (show monO [53,46,48,48]=some 500 by kernel_rfl)⟩,by decide,by decide,by decide,by decide⟩
theorem pc_12:Pc (oTxt 12) (oIdx 12) (oEff 12) :=
 ⟨⟨⟨1,0,[108,97,116,101]⟩,[⟨2,5,[53]⟩,⟨2,7,[49,46,48,48]⟩],⟨3,11,[59]⟩,by kernel_rfl,by decide,rfl,fun p ts q=>cl9 (show numO [53]=some 5 by kernel_rfl) (show monO [49,46,48,48]=some 100 by kernel_rfl)⟩,by decide,by decide,by decide,by decide⟩
theorem pc_all:∀ k,k<13→Pc (oTxt k) (oIdx k) (oEff k)
 | 0,_=>pc_0
 | 1,_=>pc_1
 | 2,_=>pc_2
 | 3,_=>pc_3
 | 4,_=>pc_4
 | 5,_=>pc_5
 | 6,_=>pc_6
 | 7,_=>pc_7
 | 8,_=>pc_8
 | 9,_=>pc_9
 | 10,_=>pc_10
 | 11,_=>pc_11
 | 12,_=>pc_12
 | k+13,h=>absurd h (by omega)
def pcB (b:Bool)(l:List UInt8):List UInt8:=if b then [123]++(l++[125]) else l
theorem lex_ob (p:Nat)(r:List UInt8):L7.lex p ([123]++r)=(⟨3,p,[123]⟩::(L7.lex (p+1) r).1,(L7.lex (p+1) r).2):=by
 rw [L7.lex_piece (T:=[⟨3,0,[123]⟩]) (by kernel_rfl) (by decide) (by decide)]
 simp [L7.shT]
theorem lex_cb (p:Nat)(r:List UInt8):L7.lex p ([125]++r)=(⟨3,p,[125]⟩::(L7.lex (p+1) r).1,(L7.lex (p+1) r).2):=by
 rw [L7.lex_piece (T:=[⟨3,0,[125]⟩]) (by kernel_rfl) (by decide) (by decide)]
 simp [L7.shT]
theorem pcB_len (b:Bool)(l:List UInt8):(pcB b l).length=l.length+if b then 2 else 0:=by
 cases b <;> simp [pcB]
theorem pc_lex {l:List UInt8}{i:Nat}{f:Prd→Prd}(hp:Pc l i f)(b:Bool)(p:Nat)(r:List UInt8):(L7.lex p (pcB b l++r)).2=(L7.lex (p+(pcB b l).length) r).2:=by
 obtain⟨t,us,e,hl,_⟩:=hp.ex
 cases b
 ·show (L7.lex p (l++r)).2=(L7.lex (p+l.length) r).2
  rw [L7.lex_piece hl hp.close hp.no35]
 ·have e1:pcB true l++r = [123]++(l++([125]++r)):=by simp [pcB]
  have e2:p+1+l.length+1=p+(pcB true l).length:=by rw [pcB_len];simp;omega
  rw [e1,lex_ob,L7.lex_piece hl hp.close hp.no35,lex_cb,e2]
theorem pc_step {l:List UInt8}{i:Nat}{f:Prd→Prd}(hp:Pc l i f)(b:Bool)(p:Nat)(r:List UInt8)(E:List Tok)(q:Prd)(h:Nat→Bool)(hh:h i=false)(hf:Fine ⟨(L7.lex p (pcB b l++r)).1++E,q,h⟩) :
  grpR 1 ⟨(L7.lex p (pcB b l++r)).1++E,q,h⟩=grpR 1 ⟨(L7.lex (p+(pcB b l).length) r).1++E,f q,seen h i⟩∧Fine ⟨(L7.lex (p+(pcB b l).length) r).1++E,f q,seen h i⟩:=by
 obtain⟨t,us,e,hl,hw,he,hr⟩:=hp.ex
 have ho:(often i||!h i)=true:=by rw [hh];simp
 cases b
 ·have e0:pcB false l=l:=rfl
  rw [e0] at hf ⊢
  rw [L7.lex_piece hl hp.close hp.no35] at hf ⊢
  simp only [List.map_cons,List.map_append,List.map_nil,List.cons_append,List.append_assoc,List.nil_append] at hf ⊢
  exact grp_clause (t:=L7.shT p t) (us:=us.map (L7.shT p)) (e:=L7.shT p e) hw hp.lt ho (hr q _ p) he hf
 ·have e1:pcB true l++r = [123]++(l++([125]++r)):=by simp [pcB]
  have e2:p+1+l.length+1=p+(pcB true l).length:=by rw [pcB_len];simp;omega
  rw [e1,lex_ob,L7.lex_piece hl hp.close hp.no35,lex_cb,e2] at hf ⊢
  simp only [List.map_cons,List.map_append,List.map_nil,List.cons_append,List.append_assoc,List.nil_append] at hf ⊢
  have hf1:=hf.next rfl (show ([123]:List UInt8)≠[] by decide)
  obtain⟨g1,f1⟩:=grp_clause (d:=2) (t:=L7.shT (p+1) t) (us:=us.map (L7.shT (p+1))) (e:=L7.shT (p+1) e) hw hp.lt ho (hr q _ (p+1)) he hf1
  have f2:=f1.next rfl (show ([125]:List UInt8)≠[] by decide)
  refine⟨?_,f2⟩
  rw [grpR_open hf rfl rfl (by decide)]
  show (grpR 2 _).bind _=_
  rw [g1,grpR_shut rfl rfl]
  rfl
def gB (gs:List Bool)(i:Nat):Bool:=(gs[i]?).getD false
def comb (gs:List Bool):Nat→List Nat→List UInt8
 | _,[]=>[]
 | i,k::σ=>pcB (gB gs i) (oTxt k)++comb gs (i+1) σ
theorem comb_snoc (gs:List Bool)(k:Nat):∀ (σ:List Nat) (i:Nat),comb gs i (σ++[k])=comb gs i σ++pcB (gB gs (i+σ.length)) (oTxt k)
 | [],i=>by simp [comb]
 | a::σ,i=>by
  rw [List.cons_append,comb,comb_snoc gs k σ (i+1),comb]
  simp only [List.length_cons,List.append_assoc]
  rw [show i+1+σ.length=i+(σ.length+1) by omega]
theorem comb_len (gs:List Bool):∀ (σ:List Nat) (i:Nat),(∀ k∈σ,k<13)→(comb gs i σ).length≤42 * σ.length
 | [],i,_=>by simp [comb]
 | a::σ,i,h=>by
  have h1:=comb_len gs σ (i+1) (fun k hk=>h k (List.mem_cons_of_mem _ hk))
  have h2:=(pc_all a (h a (List.mem_cons_self ..))).len
  rw [comb,List.length_append,pcB_len,List.length_cons]
  split <;> omega
theorem comb_lex (gs:List Bool)(r:List UInt8):∀ (σ:List Nat) (i p:Nat),(∀ k∈σ,k<13)→(L7.lex p (comb gs i σ++r)).2=(L7.lex (p+(comb gs i σ).length) r).2
 | [],i,p,_=>by simp [comb]
 | a::σ,i,p,h=>by
  rw [comb,List.append_assoc,pc_lex (pc_all a (h a (List.mem_cons_self ..))),comb_lex gs r σ (i+1) _ (fun k hk=>h k (List.mem_cons_of_mem _ hk)),List.length_append,Nat.add_assoc]
theorem oIdx_inj:∀ a,a<13→∀ b,b<13→oIdx a=oIdx b→a=b:=by decide
theorem comb_step (gs:List Bool)(r:List UInt8)(E:List Tok):∀ (σ:List Nat) (i p:Nat) (q:Prd) (h:Nat→Bool),(∀ k∈σ,k<13)→σ.Nodup→(∀ k∈σ,h (oIdx k)=false)→Fine ⟨(L7.lex p (comb gs i σ++r)).1++E,q,h⟩ →
  grpR 1 ⟨(L7.lex p (comb gs i σ++r)).1++E,q,h⟩=grpR 1 ⟨(L7.lex (p+(comb gs i σ).length) r).1++E,σ.foldl (fun p k=>oEff k p) q,σ.foldl (fun h k=>seen h (oIdx k)) h⟩
 | [],i,p,q,h,_,_,_,_=>by simp [comb]
 | a::σ,i,p,q,h,h13,hn,hh,hf=>by
  have ha:=h13 a (List.mem_cons_self ..)
  rw [comb,List.append_assoc] at hf ⊢
  obtain⟨g1,f1⟩:=pc_step (pc_all a ha) (gB gs i) p _ E q h (hh a (List.mem_cons_self ..)) hf
  rw [g1]
  rw [List.nodup_cons] at hn
  rw [comb_step gs r E σ (i+1) _ _ _ (fun k hk=>h13 k (List.mem_cons_of_mem _ hk)) hn.2 (fun k hk=>by
   show (h (oIdx k)||oIdx k==oIdx a)=false
   rw [hh k (List.mem_cons_of_mem _ hk)]
   have:oIdx k≠oIdx a:=fun e=>hn.1 (oIdx_inj k (h13 k (List.mem_cons_of_mem _ hk)) a ha e ▸ hk)
   simpa using this) f1,List.length_append,Nat.add_assoc]
  rfl
theorem oEff_comm:∀ a,a<13→∀ b,b<13→∀ p,oEff b (oEff a p)=oEff a (oEff b p):=by
 intro a ha b hb p
 match a,ha with
 | 0,_ =>
  match b,hb with
  | 0,_=>rfl
  | 1,_=>rfl
  | 2,_=>rfl
  | 3,_=>rfl
  | 4,_=>rfl
  | 5,_=>rfl
  | 6,_=>rfl
  | 7,_=>rfl
  | 8,_=>rfl
  | 9,_=>rfl
  | 10,_=>rfl
  | 11,_=>rfl
  | 12,_=>rfl
  | j+13,h=>exact absurd h (by omega)
 | 1,_ =>
  match b,hb with
  | 0,_=>rfl
  | 1,_=>rfl
  | 2,_=>rfl
  | 3,_=>rfl
  | 4,_=>rfl
  | 5,_=>rfl
  | 6,_=>rfl
  | 7,_=>rfl
  | 8,_=>rfl
  | 9,_=>rfl
  | 10,_=>rfl
  | 11,_=>rfl
  | 12,_=>rfl
  | j+13,h=>exact absurd h (by omega)
 | 2,_ =>
  match b,hb with
  | 0,_=>rfl
  | 1,_=>rfl
  | 2,_=>rfl
  | 3,_=>rfl
  | 4,_=>rfl
  | 5,_=>rfl
  | 6,_=>rfl
  | 7,_=>rfl
  | 8,_=>rfl
  | 9,_=>rfl
  | 10,_=>rfl
  | 11,_=>rfl
  | 12,_=>rfl
  | j+13,h=>exact absurd h (by omega)
 | 3,_ =>
  match b,hb with
  | 0,_=>rfl
  | 1,_=>rfl
  | 2,_=>rfl
  | 3,_=>rfl
  | 4,_=>rfl
  | 5,_=>rfl
  | 6,_=>rfl
  | 7,_=>rfl
  | 8,_=>rfl
  | 9,_=>rfl
  | 10,_=>rfl
  | 11,_=>rfl
  | 12,_=>rfl
  | j+13,h=>exact absurd h (by omega)
 | 4,_ =>
  match b,hb with
  | 0,_=>rfl
  | 1,_=>rfl
  | 2,_=>rfl
  | 3,_=>rfl
  | 4,_=>rfl
  | 5,_=>rfl
  | 6,_=>rfl
  | 7,_=>rfl
  | 8,_=>rfl
  | 9,_=>rfl
  | 10,_=>rfl
  | 11,_=>rfl
  | 12,_=>rfl
  | j+13,h=>exact absurd h (by omega)
 | 5,_ =>
  match b,hb with
  | 0,_=>rfl
  | 1,_=>rfl
  | 2,_=>rfl
  | 3,_=>rfl
  | 4,_=>rfl
  | 5,_=>rfl
  | 6,_=>rfl
  | 7,_=>rfl
  | 8,_=>rfl
  | 9,_=>rfl
  | 10,_=>rfl
  | 11,_=>rfl
  | 12,_=>rfl
  | j+13,h=>exact absurd h (by omega)
 | 6,_ =>
  match b,hb with
  | 0,_=>rfl
  | 1,_=>rfl
  | 2,_=>rfl
  | 3,_=>rfl
  | 4,_=>rfl
  | 5,_=>rfl
  | 6,_=>rfl
  | 7,_=>rfl
  | 8,_=>rfl
  | 9,_=>rfl
  | 10,_=>rfl
  | 11,_=>rfl
  | 12,_=>rfl
  | j+13,h=>exact absurd h (by omega)
 | 7,_ =>
  match b,hb with
  | 0,_=>rfl
  | 1,_=>rfl
  | 2,_=>rfl
  | 3,_=>rfl
  | 4,_=>rfl
  | 5,_=>rfl
  | 6,_=>rfl
  | 7,_=>rfl
  | 8,_=>rfl
  | 9,_=>rfl
  | 10,_=>rfl
  | 11,_=>rfl
  | 12,_=>rfl
  | j+13,h=>exact absurd h (by omega)
 | 8,_ =>
  match b,hb with
  | 0,_=>rfl
  | 1,_=>rfl
  | 2,_=>rfl
  | 3,_=>rfl
  | 4,_=>rfl
  | 5,_=>rfl
  | 6,_=>rfl
  | 7,_=>rfl
  | 8,_=>rfl
  | 9,_=>rfl
  | 10,_=>rfl
  | 11,_=>rfl
  | 12,_=>rfl
  | j+13,h=>exact absurd h (by omega)
 | 9,_ =>
  match b,hb with
  | 0,_=>rfl
  | 1,_=>rfl
  | 2,_=>rfl
  | 3,_=>rfl
  | 4,_=>rfl
  | 5,_=>rfl
  | 6,_=>rfl
  | 7,_=>rfl
  | 8,_=>rfl
  | 9,_=>rfl
  | 10,_=>rfl
  | 11,_=>rfl
  | 12,_=>rfl
  | j+13,h=>exact absurd h (by omega)
 | 10,_ =>
  match b,hb with
  | 0,_=>rfl
  | 1,_=>rfl
  | 2,_=>rfl
  | 3,_=>rfl
  | 4,_=>rfl
  | 5,_=>rfl
  | 6,_=>rfl
  | 7,_=>rfl
  | 8,_=>rfl
  | 9,_=>rfl
  | 10,_=>rfl
  | 11,_=>rfl
  | 12,_=>rfl
  | j+13,h=>exact absurd h (by omega)
 | 11,_ =>
  match b,hb with
  | 0,_=>rfl
  | 1,_=>rfl
  | 2,_=>rfl
  | 3,_=>rfl
  | 4,_=>rfl
  | 5,_=>rfl
  | 6,_=>rfl
  | 7,_=>rfl
  | 8,_=>rfl
  | 9,_=>rfl
  | 10,_=>rfl
  | 11,_=>rfl
  | 12,_=>rfl
  | j+13,h=>exact absurd h (by omega)
 | 12,_ =>
  match b,hb with
  | 0,_=>rfl
  | 1,_=>rfl
  | 2,_=>rfl
  | 3,_=>rfl
  | 4,_=>rfl
  | 5,_=>rfl
  | 6,_=>rfl
  | 7,_=>rfl
  | 8,_=>rfl
  | 9,_=>rfl
  | 10,_=>rfl
  | 11,_=>rfl
  | 12,_=>rfl
  | j+13,h=>exact absurd h (by omega)
 | j+13,h=>exact absurd h (by omega)
theorem seen_comm (h:Nat→Bool)(a b:Nat):seen (seen h a) b=seen (seen h b) a:=by
 funext j
 unfold seen
 cases h j <;> cases (j==a) <;> cases (j==b) <;> rfl
def oPrd:Prd:=⟨[120],2,3,2,3,8,2,65000000,[],90000000,3,1,4,2,2,[(5,100)],500,3,[]⟩
def ordW:List UInt8:=[112,114,111,100,117,99,116,32,120,32,123,32,99,111,117,110,116,32,102,105,120,101,100,59,32,114,111,117,110,100,32,100,111,119,110,59,32,107,105,110,100,32,101,113,117,97,108,59,32,101,118,101,114,121,32,51,59,32,116,105,109,101,115,32,56,59,32,103,114,97,99,101,32,50,59,32,114,97,116,101,32,54,46,53,37,59,32,112,101,110,97,108,116,121,32,57,37,59,32,111,118,101,114,32,112,114,101,112,97,121,59,32,111,114,100,101,114,32,105,110,116,101,114,101,115,116,32,102,101,101,115,32,112,114,105,110,99,105,112,97,108,32,112,101,110,97,108,116,121,59,32,114,111,108,108,32,119,105,116,104,105,110,59,32,99,97,112,32,53,46,48,48,59,32,108,97,116,101,32,53,32,49,46,48,48,59,32,125]
theorem ordW_prs:prs ordW=.ok oPrd:=by kernel_rfl
def ordH:List UInt8:=[112,114,111,100,117,99,116,32,120,32,123]
theorem ord_fold {σ:List Nat}(hσ:σ.Perm (List.range 13)):σ.foldl (fun p k=>oEff k p) { prd0 with nm:=[120] }=oPrd:=by
 have h13:∀ k∈σ,k<13:=fun k hk=>List.mem_range.1 (hσ.mem_iff.1 hk)
 rw [hσ.foldl_eq' (fun x hx y hy z=>oEff_comm x (h13 x hx) y (h13 y hy) z)]
 rfl
theorem ord_whole {σ:List Nat}(hσ:σ.Perm (List.range 13)):whole (σ.foldl (fun h k=>seen h (oIdx k)) had0)=true:=by
 rw [hσ.foldl_eq' (fun x hx y hy z=>seen_comm z (oIdx x) (oIdx y))]
 decide
theorem ord_ok:okP oPrd=true:=by decide +kernel
theorem ord_prs (gs:List Bool){σ:List Nat}(hσ:σ.Perm (List.range 13)):prs (ordH++(comb gs 0 σ++[125]))=.ok oPrd:=by
 have h13:∀ k∈σ,k<13:=fun k hk=>List.mem_range.1 (hσ.mem_iff.1 hk)
 have hn:σ.Nodup:=hσ.nodup_iff.2 List.nodup_range
 have hc:=comb_len gs σ 0 h13
 have hl13:σ.length=13:=by rw [hσ.length_eq];simp
 have hlen:(ordH++(comb gs 0 σ++[125])).length≤20000:=by
  simp only [List.length_append,List.length_cons,List.length_nil]
  have:ordH.length=11:=rfl
  omega
 have hH:L7.lex 0 ordH=([⟨1,0,[112,114,111,100,117,99,116]⟩,⟨1,8,[120]⟩,⟨3,10,[123]⟩],none):=by kernel_rfl
 have hx:L7.lex 0 (ordH++(comb gs 0 σ++[125]))=([⟨1,0,[112,114,111,100,117,99,116]⟩,⟨1,8,[120]⟩,⟨3,10,[123]⟩]++(L7.lex 11 (comb gs 0 σ++[125])).1,none):=by
  rw [L7.lex_piece hH (by decide) (by decide)]
  refine Prod.ext rfl ?_
  show (L7.lex 11 (comb gs 0 σ++[125])).2=none
  rw [comb_lex gs [125] σ 0 11 h13]
  have:=lex_cb (11+(comb gs 0 σ).length) []
  rw [List.append_nil] at this
  rw [this,L7.lex_end (l:=[]) rfl]
 have hf:=fine_text hx hlen { prd0 with nm:=[120] } rfl had0
 rw [prs_of hx hlen]
 obtain⟨E,hE,hk⟩:∃ E:Tok,(⟨0,(ordH++(comb gs 0 σ++[125])).length,[]⟩:Tok)=E∧E.kind=0:=⟨_,rfl,rfl⟩
 rw [hE] at hf ⊢
 have hf3:=((hf.next (t:=⟨1,0,[112,114,111,100,117,99,116]⟩) rfl (by decide)).next (t:=⟨1,8,[120]⟩) rfl (by decide)).next (t:=⟨3,10,[123]⟩) rfl (by decide)
 have hg:=comb_step gs [125] [E] σ 0 11 { prd0 with nm:=[120] } had0 h13 hn (fun _ _=>rfl) hf3
 have hz:(L7.lex (11+(comb gs 0 σ).length) [125]).1 = [⟨3,11+(comb gs 0 σ).length,[125]⟩]:=by
  have:=lex_cb (11+(comb gs 0 σ).length) []
  rw [List.append_nil] at this
  rw [this,L7.lex_end (l:=[]) rfl]
 rw [hz,ord_fold hσ] at hg
 have hs:grpR 1 ⟨[(⟨3,11+(comb gs 0 σ).length,[125]⟩:Tok)]++[E],oPrd,σ.foldl (fun h k=>seen h (oIdx k)) had0⟩=.ok ⟨[E],oPrd,σ.foldl (fun h k=>seen h (oIdx k)) had0⟩:=grpR_shut rfl rfl
 exact text_end (t0:=⟨1,0,[112,114,111,100,117,99,116]⟩) (t1:=⟨1,8,[120]⟩) (t2:=⟨3,10,[123]⟩) (u:=⟨[E],oPrd,σ.foldl (fun h k=>seen h (oIdx k)) had0⟩) (e:=E) (us:=[]) rfl (by decide +kernel) rfl (hg.trans hs) rfl hk (ord_whole hσ) ord_ok
end Go.Proofs.YtlbodoggfbdnjaaGreatDoor
namespace Go.Proofs.YtlbodoggfbdnjaaGreatDoor
open Go.RowKit Go.ChangeShapes Go.WideShapes Go.ChangeAt
def Slb (w:World)(v:Value)(l:List Bool):Prop :=
 (∃ a c,v=.slice a 0 c∧l = [])∨∃ b off c,v=.slice (some ⟨b,off,none⟩) l.length c∧∀ (k:Nat) (x:Bool),l[k]?=some x→w.cell? ⟨b,off+k,none⟩=some (.bool x)
theorem cells_bool:Tryz.prog.cellsOf 4=1:=by kernel_rfl
theorem open_slb {H:Type}{enc:TypeId×Value→H}{W:World}{b0:Nat}{v:Value}{d:DataW H}{ps:List MemPlace}
  (hval:Value.okWide Tryz.prog W .any b0 36 v) (h:DataW.Trod enc Tryz.prog W 0 (fun _=>true) true 36 v d ps) :
  ∃ l:List Bool,Slb W v l∧l.length≤maxLen∧∀ W':World,Ext W W'→DataW.Trod enc Tryz.prog W' 0 (fun b=>decide (b<W.heap.size)) true 36 v d ps:=by
 have hshut:∀ W':World,Ext W W'→DataW.Trod enc Tryz.prog W' 0 (fun b=>decide (b<W.heap.size)) true 36 v d ps:=fun W' hX =>
  Below.trod L8.laidOut (by kernel_rfl) (of_decide_eq_true (by kernel_rfl)) h hX.below (by
   obtain⟨fuel,hf⟩:=h
   exact DataW.trod_lt fuel _ _ _ hf)
 obtain⟨a0,len,cap,rfl⟩:=okWide_slice Tryz.underlying36 hval
 obtain⟨fuel,hf⟩:=h
 rcases Go.Deep.open_bools Tryz.underlying36 Tryz.underlying4 cells_bool hf with ⟨hcs,hx⟩ | ⟨a,len',cap',B,hcs,_,hl,hm,hx,hcell⟩
 ·simp [Value.cells] at hcs
  obtain⟨rfl,rfl,rfl⟩:=hcs
  exact⟨[],Or.inl ⟨none,0,rfl,rfl⟩,Nat.zero_le _,hshut⟩
 ·simp [Value.cells] at hcs
  obtain⟨rfl,rfl,rfl⟩:=hcs
  refine⟨(List.range len).map B,?_,by simp;omega,hshut⟩
  by_cases hl0:len=0
  ·subst hl0
   exact Or.inl ⟨some a,cap,rfl,rfl⟩
  ·obtain ⟨b,off,spot⟩:=a
   have hspot:spot=none:=by simpa [Addr.add] using World.cell?_spot (hcell 0 (by omega))
   subst hspot
   refine Or.inr ⟨b,off,cap,by simp,fun k x hk=>?_⟩
   have hk':k<len:=by
    have:=(List.getElem?_eq_some_iff.1 hk).1
    simpa using this
   have hB:B k=x:=by simpa [hk'] using hk
   have:=hcell k (by omega)
   rw [add_plain,hB] at this
   exact this
end Go.Proofs.YtlbodoggfbdnjaaGreatDoor
