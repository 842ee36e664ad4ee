/- Contracts that the proof of this law leans on: no statement of the seat is proved here. -/
import Derived.Test.YtcijdkbopiaicaaGreatDoorC9
set_option linter.unusedVariables false
set_option maxRecDepth 100000
set_option maxHeartbeats 8000000
namespace Go.Proofs.YtcijdkbopiaicaaGreatDoor
def qc10x0:Oper:=⟨some 20,Op.move (.tmp 0),57,"reader.go:33",#[],none⟩
def qc10x1:Oper:=⟨some 30,Op.fieldAddr 64 (.tmp 3) 1,0,"reader.go:33",#[],none⟩
def qc10x2:Oper:=⟨some 31,Op.load 3 (.tmp 30),3,"reader.go:33",#[⟨10,.data⟩],none⟩
def qc10x3:Oper:=⟨some 21,Op.call { callee:=Callee.value (.func 53),args:=#[.tmp 20],argTypes:=#[57] },4,"reader.go:33",#[⟨0,.data⟩],none⟩
def qc10x4:Oper:=⟨some 22,Op.move (.tmp 21),4,"reader.go:33",#[⟨1,.data⟩,⟨1,.chain⟩],none⟩
def qc10x5:Oper:=⟨some 23,Op.move (.tmp 0),57,"reader.go:33",#[⟨2,.guard⟩],some (2,true)⟩
def qc10x6:Oper:=⟨some 24,Op.nilCheck (.tmp 23),0,"reader.go:33",#[⟨3,.data⟩,⟨2,.guard⟩],some (2,true)⟩
def qc10x7:Oper:=⟨some 25,Op.fieldAddr 93 (.tmp 24) 2,0,"reader.go:33",#[⟨4,.data⟩,⟨2,.guard⟩],some (2,true)⟩
def qc10x8:Oper:=⟨some 26,Op.load 27 (.tmp 25),27,"reader.go:33",#[⟨5,.data⟩,⟨2,.guard⟩],some (2,true)⟩
def qc10x9:Oper:=⟨some 27,Op.call { callee:=Callee.value (.func 54),args:=#[.tmp 26],argTypes:=#[27] },28,"reader.go:33",#[⟨6,.data⟩,⟨2,.chain⟩,⟨2,.guard⟩],some (2,true)⟩
def qc10x10:Oper:=⟨some 28,Op.binOp BinOp.eql 28 (.tmp 27) (.const (Value.int .i64 0)) 28,4,"reader.go:33",#[⟨7,.data⟩,⟨2,.guard⟩],some (2,true)⟩
def qc10x11:Oper:=⟨some 29,Op.pick (.tmp 22) (.tmp 28) (.const (Value.bool false)),4,"reader.go:33",#[⟨2,.data⟩,⟨8,.data⟩],none⟩
def qc10x12:Oper:=⟨some 32,Op.call { callee:=Callee.value (.func 21),args:=#[.tmp 29,.const (Value.int .i64 9),.tmp 31],argTypes:=#[4,28,3] },0,"reader.go:33",#[⟨9,.data⟩,⟨11,.data⟩,⟨7,.chain⟩],none⟩
def qc10x13:Oper:=⟨some 5,Op.load 27 (.tmp 0),27,"grammar.go:13",#[],none⟩
def qc10x14:Oper:=⟨none,.store 27 (.tmp 0) (.tmp 7),0,"grammar.go:13",#[⟨4,.data⟩,⟨2,.chain⟩,⟨0,.phase⟩,⟨1,.phase⟩,⟨2,.phase⟩,⟨3,.phase⟩,⟨4,.phase⟩,⟨5,.textOnly .lateStores⟩,⟨6,.textOnly .lateStores⟩],none⟩
end Go.Proofs.YtcijdkbopiaicaaGreatDoor
namespace Go.Proofs.YtcijdkbopiaicaaGreatDoor
open Go.RowKit Go.Lib
def pcells (p:Prd)(vr vl vh:Value):Array Value:=#[.string ⟨p.nm.toArray⟩,.int .i64 p.cn,.int .i64 p.rd,.int .i64 p.kd,.int .i64 p.ev,.int .i64 p.tm,.int .i64 p.gr,.int .i64 p.rt,vr,.int .i64 p.pn,.int .i64 p.o0,.int .i64 p.o1,.int .i64 p.o2,.int .i64 p.o3,.int .i64 p.ov,vl,.int .i64 p.cp,.int .i64 p.rl,vh]
structure Lsts (w0 w:World)(p:Prd)(vr vl vh:Value):Prop where
 sr:w.ownsRow w0.heap.size 45 2 vr p.rs.length (cellsP p.rs)
 sl:w.ownsRow w0.heap.size 47 2 vl p.lt.length (cellsP p.lt)
 sh:w.ownsRow w0.heap.size 3 1 vh p.hd.length (p.hd.map (.int .i64))
theorem Lsts.ext {w0 w w':World}{p:Prd}{vr vl vh:Value}(h:Lsts w0 w p vr vl vh)(hx:Ext w w'):Lsts w0 w' p vr vl vh:=⟨L7.own_ext h.sr hx,L7.own_ext h.sl hx,L7.own_ext h.sh hx⟩
def Txt (w0:World)(X:Res Prd)(e:Ending)(w':World):Prop :=
 Ext w0 w'∧match X with
  | .ok p=>∃ vr vl vh,e=.returned (.agg (pcells p vr vl vh))∧Lsts w0 w' p vr vl vh
  | .no x y=>e=thrown x y
theorem Txt.no {w0 w:World}{x y:Nat}(hx:Ext w0 w):Txt w0 (.no x y) (thrown x y) w:=⟨hx,rfl⟩
theorem Inn.range {wf w0 w:World}{r c:Nat}{vr vl vh:Value}{s:St}(h:Inn wf w0 w r c vr vl vh s):w.rangeAt r 2 (pcells s.p vr vl vh).toList:=fun j v hv=>by
 obtain⟨vt,hr,_⟩:=h.row
 refine (cell_of_row w r (2+j) _ _ _ hr).trans ?_
 match j,hv with
 | 0,hv=>exact hv
 | 1,hv=>exact hv
 | 2,hv=>exact hv
 | 3,hv=>exact hv
 | 4,hv=>exact hv
 | 5,hv=>exact hv
 | 6,hv=>exact hv
 | 7,hv=>exact hv
 | 8,hv=>exact hv
 | 9,hv=>exact hv
 | 10,hv=>exact hv
 | 11,hv=>exact hv
 | 12,hv=>exact hv
 | 13,hv=>exact hv
 | 14,hv=>exact hv
 | 15,hv=>exact hv
 | 16,hv=>exact hv
 | 17,hv=>exact hv
 | 18,hv=>exact hv
 | j+19,hv=>simp [pcells] at hv
theorem cellsP_at:∀ (l:List (Int×Int)) (k:Nat) (x y:Int),l[k]?=some (x,y)→(cellsP l)[k * 2]?=some (.int .i64 x)∧(cellsP l)[k * 2+1]?=some (.int .i64 y)
 | [],k,x,y,h=>by simp at h
 | p::l,0,x,y,h=>by
  obtain rfl:p=(x,y):=by simpa using h
  exact⟨rfl,rfl⟩
 | p::l,k+1,x,y,h=>by
  have ih:=cellsP_at l k x y (by simpa using h)
  have e:(k+1) * 2=k * 2+2:=by omega
  rw [e]
  exact ih
theorem slp_own {w:World}{B:Nat}{e:TypeId}{v:Value}{l:List (Int×Int)}(h:w.ownsRow B e 2 v l.length (cellsP l)):L8.Slp w v l:=by
 have h':=h
 rcases h'.2 with ⟨rfl,h0⟩ | ⟨g,c,cur,rfl,_⟩
 ·obtain rfl:=List.eq_nil_of_length_eq_zero h0
  exact Or.inl ⟨none,0,rfl,fun _=>rfl,rfl⟩
 ·refine Or.inr ⟨g,0,c,rfl,fun k x y hk=>?_⟩
  have hc:=h.cells (g:=g) rfl
  have hadd:∀ j,(⟨g,0,none⟩:Addr).add j=⟨g,0+j,none⟩:=fun j=>Addr.add_mid g 0 j
  exact⟨hadd _ ▸ hc _ _ (cellsP_at l k x y hk).1,by have:=hc _ _ (cellsP_at l k x y hk).2;rw [hadd] at this;simpa [Nat.add_assoc] using this⟩
theorem slc_own {w:World}{B:Nat}{e:TypeId}{v:Value}{l:List Int}(h:w.ownsRow B e 1 v l.length (l.map (.int .i64))):L8.Slc w v l:=by
 have h':=h
 rcases h'.2 with ⟨rfl,h0⟩ | ⟨g,c,cur,rfl,_⟩
 ·obtain rfl:=List.eq_nil_of_length_eq_zero h0
  exact Or.inl ⟨none,0,rfl,fun _=>rfl,rfl⟩
 ·refine Or.inr ⟨g,0,c,rfl,fun k x hk=>?_⟩
  have hc:=h.cells (g:=g) rfl k (.int .i64 x) (by simp [hk])
  rw [Addr.add_mid] at hc
  exact hc
theorem Check_p (p:Prd)(vr vl vh:Value)(w:World)(hnm:p.nm.length≤30000)(hf:p.rs.length+p.lt.length+p.hd.length≤30000)(sr:L8.Slp w vr p.rs)(sl:L8.Slp w vl p.lt)(sh:L8.Slc w vh p.hd) :
  Calls Tryz.prog 54 #[.agg (pcells p vr vl vh)] w fun e w'=>e=.returned (.int .i64 (if okP p then 0 else 9))∧Ext w w' :=
 L8.Check_x p.nm p.cn p.rd p.kd p.ev p.tm p.gr p.rt vr p.rs p.pn p.o0 p.o1 p.o2 p.o3 p.ov vl p.lt p.cp p.rl vh p.hd (if okP p then 0 else 9) rfl w (by omega) (by omega) (by omega) (by omega) sr sl sh
theorem bind_ok {α β:Type}{r:Res α}{f:α→Res β}{b:β}(h:r.bind f=.ok b):∃ a,r=.ok a∧f a=.ok b:=by
 cases r with
 | ok a=>exact ⟨a,rfl,h⟩
 | no x y=>cases h
theorem clauseR_nm {i:Nat}{p:Prd}{ts:List Tok}{a:Prd×List Tok}(h:clauseR i p ts=.ok a):a.1.nm=p.nm:=by
 have one:∀ {f:List UInt8→Option Int} {g:Int→Prd},(∀ v,(g v).nm=p.nm)→((tk f ts).bind fun b=>Res.ok (g b.1,b.2))=.ok a→a.1.nm=p.nm:=by
  intro f g hg hb
  obtain⟨b,_,hb2⟩:=bind_ok hb
  obtain rfl:=Res.ok.inj hb2
  exact hg b.1
 have two:∀ {f g:List UInt8→Option Int} {q:Int→Int→Prd},(∀ u v,(q u v).nm=p.nm)→((tk f ts).bind fun b=>(tk g b.2).bind fun d=>Res.ok (q b.1 d.1,d.2))=.ok a→a.1.nm=p.nm:=by
  intro f g q hq hb
  obtain⟨b,_,hb2⟩:=bind_ok hb
  obtain⟨d,_,hb3⟩:=bind_ok hb2
  obtain rfl:=Res.ok.inj hb3
  exact hq b.1 d.1
 match i,h with
 | 0,h=>exact one (g:=fun v=>{ p with cn:=v }) (fun _=>rfl) h
 | 1,h=>exact one (g:=fun v=>{ p with rd:=v }) (fun _=>rfl) h
 | 2,h=>exact one (g:=fun v=>{ p with kd:=v }) (fun _=>rfl) h
 | 3,h=>exact one (g:=fun v=>{ p with ev:=v }) (fun _=>rfl) h
 | 4,h=>exact one (g:=fun v=>{ p with tm:=v }) (fun _=>rfl) h
 | 5,h=>exact one (g:=fun v=>{ p with gr:=v }) (fun _=>rfl) h
 | 6,h=>exact one (g:=fun v=>{ p with rt:=v }) (fun _=>rfl) h
 | 7,h=>exact one (g:=fun v=>{ p with pn:=v }) (fun _=>rfl) h
 | 8,h=>exact two (q:=fun u v=>{ p with rs:=p.rs++[(u,v)] }) (fun _ _=>rfl) h
 | 9,h=>exact two (q:=fun u v=>{ p with lt:=p.lt++[(u,v)] }) (fun _ _=>rfl) h
 | 10,h=>exact one (g:=fun v=>{ p with cp:=v }) (fun _=>rfl) h
 | 11,h=>exact one (g:=fun v=>{ p with hd:=p.hd++[v] }) (fun _=>rfl) h
 | 12,h =>
  obtain⟨a0,_,h⟩:=bind_ok (show orderR p ts=.ok a from h)
  obtain⟨a1,_,h⟩:=bind_ok h
  obtain⟨a2,_,h⟩:=bind_ok h
  obtain⟨a3,_,h⟩:=bind_ok h
  obtain rfl:=Res.ok.inj h
  rfl
 | 13,h=>exact one (g:=fun v=>{ p with ov:=v }) (fun _=>rfl) h
 | 14,h=>exact one (g:=fun v=>{ p with rl:=v }) (fun _=>rfl) h
 | i+15,h=>cases h
theorem clR_nm {t:Tok}{s u:St}(h:clR t s=.ok u):u.p.nm=s.p.nm:=by
 unfold clR at h
 split at h
 ·split at h
  ·obtain ⟨a,ha,h⟩:=bind_ok h
   obtain⟨b,_,h⟩:=bind_ok h
   obtain rfl:=Res.ok.inj h
   exact clauseR_nm ha
  ·cases h
 ·cases h
theorem grp_nm:∀ (f d:Nat) (s u:St),grp f d s=.ok u→u.p.nm=s.p.nm
 | 0,d,s,u,h=>by cases h
 | f+1,d,s,u,h=>by
  rw [grp] at h
  cases hs:s.ts with
  | nil=>rw [hs] at h;cases h
  | cons t ts =>
   rw [hs] at h
   simp only [] at h
   split at h
   ·obtain rfl:=Res.ok.inj h;rfl
   ·split at h
    ·split at h
     ·obtain ⟨v,hv,h⟩:=bind_ok h
      exact (grp_nm f d v u h).trans (grp_nm f (d+1) { s with ts:=ts } v hv)
     ·cases h
    ·obtain ⟨v,hv,h⟩:=bind_ok h
     exact (grp_nm f d v u h).trans (clR_nm (s:={ s with ts:=ts }) hv)
theorem pcells_one {w:World}{B:Nat}{p:Prd}{vr vl vh:Value}{e f g:TypeId}{x y z a b c:Nat}{xs ys zs:List Value}(h1:w.ownsRow B e x vr a xs)(h2:w.ownsRow B f y vl b ys)(h3:w.ownsRow B g z vh c zs):(pcells p vr vl vh).all (·.oneCell')=true:=by
 obtain⟨ar,cr,rfl⟩:=own_slice h1
 obtain⟨al,cl,rfl⟩:=own_slice h2
 obtain⟨ah,ch,rfl⟩:=own_slice h3
 simp [pcells,Value.oneCell']
theorem keep_tag {w w':World}{a:Nat}{cells:Array Value}(ha:w.heap[a]?=some (Obj.cells cells 27 (0,0)))(hx:Exr a w w'):∀ (f:TypeId),f≠27→∀ (k:Nat) (cur:Array Value),w.heap[k]?=some (Obj.cells cur f (0,0))→w'.heap[k]?=w.heap[k]?:=fun f hf k cur hk=>hx.block k (Array.getElem?_eq_some_iff.1 hk).1 (by
 rintro rfl
 have:=hk.symm.trans ha
 simp at this
 exact hf this.2)
theorem xp_ok {l:List UInt8}{t:Tok}{ts:List Tok}(h:t.text=l):xp l (t::ts)=.ok ts:=by simp only [xp,if_pos h]
theorem xp_no {l:List UInt8}{t:Tok}{ts:List Tok}(h:¬ t.text=l):xp l (t::ts)=.no 7 t.at_:=by simp only [xp,if_neg h]
def prodL:List UInt8:=[112,114,111,100,117,99,116]
theorem textR_a {t0:Tok}{ts:List Tok}(h:¬ t0.text=prodL):textR (t0::ts)=.no 7 t0.at_:=by
 unfold textR
 simp only []
 rw [show xp [112,114,111,100,117,99,116] (t0::ts)=.no 7 t0.at_ from xp_no h]
 rfl
theorem textR_b {t0 t1:Tok}{ts:List Tok}(h:t0.text=prodL)(hn:L8.nmb t1.text=false):textR (t0::t1::ts)=.no 7 t1.at_:=by
 unfold textR
 simp only []
 rw [show xp [112,114,111,100,117,99,116] (t0::t1::ts)=.ok (t1::ts) from xp_ok h]
 simp only [Res.bind,hn]
 rfl
theorem textR_c {t0 t1 t2:Tok}{ts:List Tok}(h:t0.text=prodL)(hn:L8.nmb t1.text=true)(h2:¬ t2.text = [123]):textR (t0::t1::t2::ts)=.no 7 t2.at_:=by
 unfold textR
 simp only []
 rw [show xp [112,114,111,100,117,99,116] (t0::t1::t2::ts)=.ok (t1::t2::ts) from xp_ok h]
 simp only [Res.bind,hn,if_true]
 rw [xp_no h2]
def st0 (nm:List UInt8)(ts:List Tok):St:=⟨ts,{ prd0 with nm:=nm },had0⟩
def lastR (at_:Nat)(s:St):Res Prd :=
 match s.ts with
 | []=>.no 0 0
 | e::_=>if e.kind=0 then (if whole s.had&&okP s.p then .ok s.p else .no 9 at_) else .no 7 e.at_
theorem textR_d {t0 t1 t2:Tok}{ts:List Tok}(h:t0.text=prodL)(hn:L8.nmb t1.text=true)(h2:t2.text = [123]):textR (t0::t1::t2::ts)=(grpR 1 (st0 t1.text ts)).bind (lastR t0.at_):=by
 unfold textR
 simp only []
 rw [show xp [112,114,111,100,117,99,116] (t0::t1::t2::ts)=.ok (t1::t2::ts) from xp_ok h]
 simp only [Res.bind,hn,if_true]
 rw [xp_ok h2]
 rfl
theorem text_c (wf w0 w:World)(r c:Nat)(t0:Tok)(ts:List Tok)(he0:Hid (Env w0))(hf:Fine ⟨t0::ts,prd0,had0⟩)(h:Inn wf w0 w r c (.slice none 0 0) (.slice none 0 0) (.slice none 0 0) ⟨t0::ts,prd0,had0⟩) :
  Calls Tryz.prog 23 #[.pointer (some ⟨r,0,none⟩)] w fun e w'=>Txt w0 (textR (t0::ts)) e w':=by
 obtain⟨W0,a,hW0,ha,hx0,hA⟩:∃ W a,w.alloc (.cells #[.string ⟨#[]⟩,.int .i64 0,.int .i64 0,.int .i64 0,.int .i64 0,.int .i64 0,.int .i64 0,.int .i64 0,.slice none 0 0,.int .i64 0,.int .i64 0,.int .i64 0,.int .i64 0,.int .i64 0,.int .i64 0,.slice none 0 0,.int .i64 0,.int .i64 0,.slice none 0 0] 27)=W∧w.heap.size=a∧Ext w W∧W.heap[a]?=some (Obj.cells #[.string ⟨#[]⟩,.int .i64 0,.int .i64 0,.int .i64 0,.int .i64 0,.int .i64 0,.int .i64 0,.int .i64 0,.slice none 0 0,.int .i64 0,.int .i64 0,.int .i64 0,.int .i64 0,.int .i64 0,.int .i64 0,.slice none 0 0,.int .i64 0,.int .i64 0,.slice none 0 0] 27 (0,0)):=⟨_,_,rfl,rfl,(Ext.refl w).alloc _ _,heap_alloc_last w _⟩
 have h0:=h.on hx0
 obtain⟨vt,hr,htk⟩:=h0.row
 obtain⟨g,off,cp,rfl,hcp,k0,k1,k2,_⟩:=htk.head
 replace k0:=h0.ext.cell_of k0
 replace k1:=h0.ext.cell_of k1
 replace k2:=h0.ext.cell_of k2
 have c0:=(cell_of_row W0 r 0 _ _ _ hr).trans (show _=some (.slice (some ⟨g,off,none⟩) (ts.length+1) cp) from rfl)
 obtain⟨W1,b,hW1,hb,hx1,hB⟩:∃ W b,W0.alloc (.cells #[.int .i64 t0.kind,.int .i64 t0.at_,.string ⟨t0.text.toArray⟩] 64)=W∧W0.heap.size=b∧Ext W0 W∧W.heap[b]?=some (Obj.cells #[.int .i64 t0.kind,.int .i64 t0.at_,.string ⟨t0.text.toArray⟩] 64 (0,0)):=⟨_,_,rfl,rfl,(Ext.refl W0).alloc _ _,heap_alloc_last W0 _⟩
 have hlo:Hid (w0.heap.size≤a):=by have:=h.ext.size;show _≤_;omega
 have h1:Hid (Inn W1 w0 W1 r c (.slice none 0 0) (.slice none 0 0) (.slice none 0 0) ⟨t0::ts,prd0,had0⟩):=(h0.on hx1).frame
 have hA1:Hid (W1.heap[a]?=some (Obj.cells #[.string ⟨#[]⟩,.int .i64 0,.int .i64 0,.int .i64 0,.int .i64 0,.int .i64 0,.int .i64 0,.int .i64 0,.slice none 0 0,.int .i64 0,.int .i64 0,.int .i64 0,.int .i64 0,.int .i64 0,.int .i64 0,.slice none 0 0,.int .i64 0,.int .i64 0,.slice none 0 0] 27 (0,0))):=(hx1.below.block a (Array.getElem?_eq_some_iff.1 hA).1).trans hA
 replace hB:=hid hB
 obtain⟨t0',ts',hs0,_,hl0⟩:=hf.cons
 obtain⟨rfl,rfl⟩:t0=t0'∧ts=ts':=by simpa using hs0
 replace hf:=hid hf
 clear h h0 hr htk hx0 hx1 hA hs0
 go_enter Tryz.func23,Tryz.ntmps23
 go_wp2_with fail
 clear k0 k1 k2 c0 hW0 hW1 ha hb
 refine (expect_c W1 w0 _ r c _ _ _ ⟨t0::ts,prd0,had0⟩ t0 ts prodL rfl (by omega) h1.out).mono ?_
 rintro e w2 ⟨he,h2,hx⟩
 clear hx h1
 by_cases hq:t0.text=prodL
 case neg =>
  rw [if_neg hq] at he
  subst he
  replace h2:=hid h2
  replace hq:=hid hq
  unfold thrown
  go_wp2
  rw [textR_a hq.out]
  exact⟨rfl,Txt.no h2.out.ext⟩
 rw [if_pos hq] at he
 subst he
 have hf2:=hf.out.next rfl (show t0.text≠[] by rw [hq];decide)
 obtain⟨t1,ts1,hs1,ht1,hl1⟩:=hf2.cons
 have hs1':ts=t1::ts1:=hs1
 subst hs1'
 replace h2:=hid h2
 replace hf2:=hid hf2
 replace hq:=hid hq
 clear hf hs1
 go_wp2_with fail
 refine (name_c W1 w0 _ r c _ _ _ ⟨t1::ts1,prd0,had0⟩ t1 ts1 rfl (by omega) ht1 h2.out).mono ?_
 rintro e w3 hR
 clear h2
 cases hn:L8.nmb t1.text
 case false =>
  rw [hn] at hR
  obtain⟨hx,rfl⟩:Ext w0 w3∧e=thrown 7 t1.at_:=hR
  replace hx:=hid hx
  replace hn:=hid hn
  unfold thrown
  go_wp2
  rw [textR_b hq.out hn.out]
  exact⟨rfl,Txt.no hx.out⟩
 rw [hn] at hR
 obtain⟨_,rfl,vr1,vl1,vh1,h3⟩:Ext w0 w3∧e=.returned (.tuple #[])∧∃ vr vl vh,Inn W1 w0 w3 r c vr vl vh (st0 t1.text ts1):=hR
 have hf3:Fine (st0 t1.text ts1):=by
  have:=hf2.out.next rfl (show t1.text≠[] by rintro e;rw [e] at hn;cases hn)
  exact⟨this.fin,this.len,this.few⟩
 obtain⟨t2,ts2,hs2,ht2,hl2⟩:=hf3.cons
 have hs2':ts1=t2::ts2:=hs2
 subst hs2'
 replace h3:=hid h3
 replace hf3:=hid hf3
 replace hn:=hid hn
 clear hf2 hs2
 go_wp2_with fail
 refine (expect_c W1 w0 _ r c _ _ _ (st0 t1.text (t2::ts2)) t2 ts2 [123] rfl (by omega) h3.out).mono ?_
 rintro e w4 ⟨he,h4,hx⟩
 clear hx h3
 by_cases hq2:t2.text = [123]
 case neg =>
  rw [if_neg hq2] at he
  subst he
  replace h4:=hid h4
  replace hq2:=hid hq2
  unfold thrown
  go_wp2
  rw [textR_c hq.out hn.out hq2.out]
  exact⟨rfl,Txt.no h4.out.ext⟩
 rw [if_pos hq2] at he
 subst he
 have hf4:Fine (st0 t1.text ts2):=hf3.out.next rfl (show t2.text≠[] by rw [hq2];decide)
 replace h4:=show Hid (Inn W1 w0 w4 r c vr1 vl1 vh1 (st0 t1.text ts2)) from h4
 replace hf4:=hid hf4
 replace hq2:=hid hq2
 clear hf3
 go_wp2_with fail
 refine (group_c W1 w0 r c he0 (st0 t1.text ts2).ts.length 1 1 _ vr1 vl1 vh1 (st0 t1.text ts2) rfl (Nat.le_refl _) (by omega) hf4.out h4.out).mono ?_
 rintro e w5 hR
 clear h4
 cases hg5:grpR 1 (st0 t1.text ts2) with
 | no x y =>
  have hR2:Ext w0 w5∧e=thrown x y:=by have:=hR;unfold Rdc at this;rw [hg5] at this;exact this
  obtain⟨hx,rfl⟩:=hR2
  replace hx:=hid hx
  replace hg5:=hid hg5
  clear hR
  unfold thrown
  go_wp2
  rw [textR_d hq.out hn.out hq2.out,hg5.out]
  exact⟨rfl,Txt.no hx.out⟩
 | ok u =>
  have hR2:Ext w0 w5∧e=.returned (.tuple #[])∧∃ vr vl vh,Inn W1 w0 w5 r c vr vl vh u:=by have:=hR;unfold Rdc at this;rw [hg5] at this;exact this
  obtain⟨_,rfl,vr,vl,vh,h5⟩:=hR2
  have hf5:=(grp_fine _ _ _ u hf4.out hg5).1
  obtain⟨t6,ts6,hs6,ht6,hl6⟩:=hf5.cons
  have hX:textR (t0::t1::t2::ts2)=lastR t0.at_ u:=by rw [textR_d hq.out hn.out hq2.out,hg5];rfl
  replace hX:=hid hX
  replace h5:=hid h5
  replace hs6:=hid hs6
  have hfew:=hid hf5.few
  have hnm:Hid (u.p.nm.length≤30000):=by show _≤_;have:=grp_nm _ _ _ u hg5;rw [this];show t1.text.length≤30000;omega
  clear hR hg5 hf4 hq hq2 hn hf5
  go_wp2_with fail
  refine (end_c W1 w0 _ r c _ _ _ u t6 ts6 hs6.out (by omega) h5.out).mono ?_
  rintro e w6 ⟨he,h6,hx⟩
  clear hx h5
  by_cases hk6:t6.kind=0
  case neg =>
   rw [if_neg hk6] at he
   subst he
   replace h6:=hid h6
   have hX2:lastR t0.at_ u=.no 7 t6.at_:=by unfold lastR;rw [hs6.out];simp only [if_neg hk6]
   replace hk6:=hid hk6
   replace hX2:=hid hX2
   unfold thrown
   go_wp2
   rw [hX.out,hX2.out]
   exact⟨rfl,Txt.no h6.out.ext⟩
  rw [if_pos hk6] at he
  subst he
  have hX2:textR (t0::t1::t2::ts2)=if whole u.had&&okP u.p then .ok u.p else .no 9 t0.at_:=by rw [hX.out];unfold lastR;rw [hs6.out];simp only [if_pos hk6]
  replace hX2:=hid hX2
  replace h6:=hid h6
  clear hX hk6 hs6
  go_upto_region 7 with fail
  have hcell:w6.cell? ⟨b,1,none⟩=some (.int .i64 t0.at_):=(cell_of_row w6 b 1 _ _ _ (h6.out.kp.at_ b _ _ (Or.inr rfl) hB.out)).trans rfl
  have hrng:=h6.out.range
  refine L8.wp_region_thrown (fun W=>W.cell? ⟨b,1,none⟩=some (.int .i64 t0.at_)∧W.rangeAt r 2 (pcells u.p vr vl vh).toList) (fun a=>a.defers = []) [] (fun t=>none) (fun x W=>Txt w0 (textR (t0::t1::t2::ts2)) (.panicked x) W) (by kernel_rfl) (fun _ _ _ h1 _ h3=>⟨h1,h3⟩) ⟨(Ext.refl _).drew.cell_of hcell,fun j v hv=>(Ext.refl _).drew.cell_of (hrng j v hv)⟩ (fun hHeld=>?_)
  clear hcell hrng
  replace h6:=hid <| h6.out.on (Ext.refl _).drew
  generalize w6.drew=w7 at *
  refine L8.tk 0 qc10x0 (some 20) (.pointer (some ⟨r,0,none⟩)) hHeld (fun W hW=>?_) ?_
  ·unfold qc10x0
   go_simp
  simp only [p4]
  refine L8.tk 10 qc10x1 (some 30) (.pointer (some ⟨b,1,none⟩)) hHeld (fun W hW=>?_) ?_
  ·unfold qc10x1
   go_simp
  simp only [p4]
  refine L8.tk 11 qc10x2 (some 31) (.int .i64 t0.at_) hHeld (fun W hW=>?_) ?_
  ·unfold qc10x2
   have hW1:=hW.1
   go_simp
  simp only [p4]
  refine L8.up 1 qc10x3 fun K hK=>?_
  unfold qc10x3
  go_simp
  refine (complete_c W1 w0 _ r c vr vl vh _ h6.out).mono ?_
  rintro e w8 ⟨rfl,hx⟩
  try dsimp only
  have hS8:w8.cell? ⟨b,1,none⟩=some (.int .i64 t0.at_)∧w8.rangeAt r 2 (pcells u.p vr vl vh).toList:=⟨hx.cell_of hHeld.1,fun j v hv=>hx.cell_of (hHeld.2 j v hv)⟩
  refine hK.out _ _ hS8 ?_
  clear hK K hHeld
  intro hHeld
  replace h6:=hid <| h6.out.on hx
  clear hx hS8
  try simp only [p4]
  cases hwh:whole u.had
  ·rw [hwh] at hX2
   replace hX2:=hid hX2
   refine L8.tk 2 qc10x4 (some 22) (.bool false) hHeld (fun W hW=>?_) ?_
   ·unfold qc10x4
    go_simp
   simp only [p4]
   refine L8.tn 3 qc10x5 (some 23) hHeld ?_
   simp only [p4]
   refine L8.tn 4 qc10x6 (some 24) hHeld ?_
   simp only [p4]
   refine L8.tn 5 qc10x7 (some 25) hHeld ?_
   simp only [p4]
   refine L8.tn 6 qc10x8 (some 26) hHeld ?_
   simp only [p4]
   refine L8.tn 7 qc10x9 (some 27) hHeld ?_
   simp only [p4]
   refine L8.tn 8 qc10x10 (some 28) hHeld ?_
   simp only [p4]
   refine L8.tk 9 qc10x11 (some 29) (.bool false) hHeld (fun W hW=>?_) ?_
   ·unfold qc10x11
    go_simp
   simp only [p4]
   refine L8.up 12 qc10x12 fun K hK=>?_
   unfold qc10x12
   go_simp
   refine (L7.needAt_no _ _ _).mono ?_
   rintro e w9 ⟨rfl,rfl⟩
   refine⟨rfl,(fun _ h=>by cases h),?_⟩
   rw [hX2.out]
   exact Txt.no h6.out.ext
  ·rw [hwh] at hX2
   refine L8.tk 2 qc10x4 (some 22) (.bool true) hHeld (fun W hW=>?_) ?_
   ·unfold qc10x4
    go_simp
   simp only [p4]
   refine L8.tk 3 qc10x5 (some 23) (.pointer (some ⟨r,0,none⟩)) hHeld (fun W hW=>?_) ?_
   ·unfold qc10x5
    go_simp
   simp only [p4]
   refine L8.tk 4 qc10x6 (some 24) (.pointer (some ⟨r,0,none⟩)) hHeld (fun W hW=>?_) ?_
   ·unfold qc10x6
    go_simp
   simp only [p4]
   refine L8.tk 5 qc10x7 (some 25) (.pointer (some ⟨r,2,none⟩)) hHeld (fun W hW=>?_) ?_
   ·unfold qc10x7
    go_simp
   simp only [p4]
   refine L8.takeT 6 (oi:={ dst:=some 26,op:=Op.load 27 (Operand.tmp 25),type:=27,pos := "reader.go:33",after:=#[{ on:=5,ground:=Ground.data },{ on:=2,ground:=Ground.guard }],guard:=some (2,true) }) (v:=.agg (pcells u.p vr vl vh).toList.toArray) rfl (by kernel_rfl) (by kernel_rfl) (by kernel_rfl) (by decide) (yieldsIf_load_mid (by rfl) _ (.tmp 25) rfl r 2 rfl _ _ (fun W hW=>hW.2) Tryz.underlying27 rfl (by kernel_rfl)) hHeld ?_
   simp only [p4]
   refine L8.up 7 qc10x9 fun K hK=>?_
   unfold qc10x9
   go_simp
   refine (Check_p u.p vr vl vh _ hnm.out (by have:=hfew.out;omega) (slp_own h6.out.sr) (slp_own h6.out.sl) (slc_own h6.out.sh)).mono ?_
   rintro e w9 ⟨rfl,hx⟩
   try dsimp only
   have hS9:w9.cell? ⟨b,1,none⟩=some (.int .i64 t0.at_)∧w9.rangeAt r 2 (pcells u.p vr vl vh).toList:=⟨hx.cell_of hHeld.1,fun j v hv=>hx.cell_of (hHeld.2 j v hv)⟩
   refine hK.out _ _ hS9 ?_
   clear hK K hHeld
   intro hHeld
   replace h6:=hid <| h6.out.on hx
   clear hx hS9
   try simp only [p4]
   cases hok:okP u.p
   ·rw [hok] at hX2
    replace hX2:=hid hX2
    simp only [Bool.false_eq_true,if_false]
    refine L8.tk 8 qc10x10 (some 28) (.bool false) hHeld (fun W hW=>?_) ?_
    ·unfold qc10x10
     go_simp
    simp only [p4]
    refine L8.tk 9 qc10x11 (some 29) (.bool false) hHeld (fun W hW=>?_) ?_
    ·unfold qc10x11
     go_simp
    simp only [p4]
    refine L8.up 12 qc10x12 fun K hK=>?_
    unfold qc10x12
    go_simp
    refine (L7.needAt_no _ _ _).mono ?_
    rintro e w9 ⟨rfl,rfl⟩
    refine⟨rfl,(fun _ h=>by cases h),?_⟩
    rw [hX2.out]
    exact Txt.no h6.out.ext
   ·rw [hok] at hX2
    replace hX2:=hid hX2
    simp only [if_true]
    refine L8.tk 8 qc10x10 (some 28) (.bool true) hHeld (fun W hW=>?_) ?_
    ·unfold qc10x10
     go_simp
    simp only [p4]
    refine L8.tk 9 qc10x11 (some 29) (.bool true) hHeld (fun W hW=>?_) ?_
    ·unfold qc10x11
     go_simp
    simp only [p4]
    refine L8.up 12 qc10x12 fun K hK=>?_
    unfold qc10x12
    go_simp
    refine (L7.needAt_ok _ _ _).mono ?_
    rintro e w10 ⟨rfl,rfl⟩
    try dsimp only
    refine hK.out _ _ hHeld ?_
    clear hK K
    intro _
    try simp only [p4]
    refine L8.dn ?_
    have hA9:=h6.out.kp.at_ a _ _ (Or.inl rfl) hA1.out
    have hrng:=h6.out.range
    have hsz:(pcells u.p vr vl vh).size=19:=rfl
    have hone:=pcells_one (p:=u.p) h6.out.sr h6.out.sl h6.out.sh
    go_upto_region 8 with fail
    refine wp_region_lit ?_
    go_wp2_with (first | (refine wpList_load_mid rfl _ (.tmp 35) rfl r 2 rfl _ _ hrng Tryz.underlying27 rfl (by kernel_rfl) ?_) | (refine store27 hA9 rfl hsz hone rfl rfl rfl rfl ?_))
    intro W11 hB11 hx11
    have hK:=hid <| keep_tag hA9 hx11
    replace hB11:=hid hB11
    replace hx11:=hid hx11
    clear hA9 hrng hone
    go_wp2
    refine bodyPost_ret (v:=.agg (pcells u.p vr vl vh)) (results_cell_row (p:=2) Tryz.results23 _ _ a _ _ (0,0) _ rfl hB11.out Tryz.underlying27 rfl (by kernel_rfl)) rfl ?_
    rw [hX2.out]
    exact⟨hx11.out.ext h6.out.ext hlo.out,vr,vl,vh,rfl,own_keep h6.out.sr (hK.out _ (by decide)),own_keep h6.out.sl (hK.out _ (by decide)),own_keep h6.out.sh (hK.out _ (by decide))⟩
theorem parse_idle (b:Nat)(cs:Array Value)(hc:Flat cs)(y z:Int)(w:World)(hB:Blk w b cs)(hq:w.cell? ⟨b+1,0,none⟩=some (.int .i64 y))(hr:w.cell? ⟨b+2,0,none⟩=some (.int .i64 z))(hqz:w.frozen? ⟨b+1,0,none⟩=false)(hrz:w.frozen? ⟨b+2,0,none⟩=false) :
  CallsD Tryz.prog 18 #[.pointer (some ⟨b,0,none⟩),.pointer (some ⟨b+1,0,none⟩),.pointer (some ⟨b+2,0,none⟩)] .returning w fun e u' w'=>e=.returned (.tuple #[])∧u'=.returning∧∃ w1,Ext w w1∧w'=(((w1.setRow b cs).setCell ⟨b+1,0,none⟩ (.int .i64 0)).setCell ⟨b+2,0,none⟩ (.int .i64 0)):=by
 have hm:=hc.size
 have hn:(cs:Array Value).size=19:=hc.size
 have h1:(cs:Array Value).all (·.oneCell')=true:=hc.one
 have hb1:=lt_of_cell hq
 have hb2:=lt_of_cell hr
 have hd:Blk w.drew b cs:=hB.ext (Ext.refl w).drew
 refine callsD_of_wpS Tryz.func18 rfl fun c₀ cs' hu=>?_
 rw [show (#[Value.pointer (some ⟨b,0,none⟩),.pointer (some ⟨b+1,0,none⟩),.pointer (some ⟨b+2,0,none⟩)]++Array.replicate (Tryz.f18.ntmps-(#[Value.pointer (some ⟨b,0,none⟩),.pointer (some ⟨b+1,0,none⟩),.pointer (some ⟨b+2,0,none⟩)]:Array Value).size) undef:Array Value) = #[.pointer (some ⟨b,0,none⟩),.pointer (some ⟨b+1,0,none⟩),.pointer (some ⟨b+2,0,none⟩),undef,undef,undef,undef,undef,undef,undef] from rfl]
 refine wpS_region_any 10 rfl (by kernel_rfl) ?_
 refine s2 0 1 ?a ?b
 case' a =>
  simp [wpOpS,go_sem,recoverD,hu]
  refine s1 1 ?_
  refine wpOpS_run (o:=qc10x13) (v:=.agg cs) rfl rfl (exec_loadP hd hm rfl rfl) (Or.inl rfl) ?_
  simp only [qc10x13,p4]
  refine s1 2 ?_
  simp [wpOpS,go_sem]
 case' b =>
  refine wpOpS_run (o:=qc10x13) (v:=.agg cs) rfl rfl (exec_loadP hd hm rfl rfl) (Or.inl rfl) ?_
  simp only [qc10x13,p4]
  refine s1 0 ?_
  simp [wpOpS,go_sem,recoverD,hu]
  refine s1 2 ?_
  simp [wpOpS,go_sem]
 all_goals
  refine (settleP_nil cs hc _).mono ?_
  rintro e w1 ⟨rfl,hx⟩
  have gB:Blk w1 b cs:=hd.ext hx
  have gx:=Exr.setRow w1 b cs
  have gq0:w1.cell? ⟨b+1,0,none⟩=some (.int .i64 y):=by rw [hx.cell (b+1) 0 (by simpa using hb1)];simpa using hq
  have gr0:w1.cell? ⟨b+2,0,none⟩=some (.int .i64 z):=by rw [hx.cell (b+2) 0 (by simpa using hb2)];simpa using hr
  have gqz0:w1.frozen? ⟨b+1,0,none⟩=false:=by rw [hx.froz (b+1) 0 (by simpa using hb1)];simpa using hqz
  have grz0:w1.frozen? ⟨b+2,0,none⟩=false:=by rw [hx.froz (b+2) 0 (by simpa using hb2)];simpa using hrz
  have gq:=gx.cell_of (by omega) gq0
  have gr:=gx.cell_of (by omega) gr0
  have gqz:=(World.frozen?_of_block (a:=⟨b+1,0,none⟩) (gx.block (b+1) (lt_of_cell gq0) (by omega))).trans gqz0
  have grz:=(World.frozen?_of_block (a:=⟨b+2,0,none⟩) (gx.block (b+2) (lt_of_cell gr0) (by omega))).trans grz0
  clear gq0 gr0 gqz0 grz0
  refine s1 3 ?_
  simp [wpOpS,go_sem]
  refine s3 4 5 6 ?_ ?_ ?_
  ·simp [wpOpS,go_sem]
   refine s3 5 6 7 ?_ ?_ ?_
   ·simp [wpOpS,go_sem]
    refine s2 6 7 ?_ ?_
    ·simp [wpOpS,go_sem]
     refine s1 7 ?_
     refine wpOpS_run (o:=qc10x14) (v:=undef) rfl rfl (exec_storeP gB hm hn h1 rfl rfl rfl) (Or.inr ⟨rfl,rfl⟩) ?_
     simp only [qc10x14,Act.put]
     refine s1 8 ?_
     simp [wpOpS,go_sem,gq,gqz]
     refine s1 9 ?_
     simp [wpOpS,go_sem,gr,grz]
     refine s0 ?_
     exact⟨rfl,.returning,by rw [←hu],.tuple #[],results_none (by rfl) _ _ _,rfl,rfl,w1,(Ext.refl w).drew.trans hx,rfl⟩
    ·refine wpOpS_run (o:=qc10x14) (v:=undef) rfl rfl (exec_storeP gB hm hn h1 rfl rfl rfl) (Or.inr ⟨rfl,rfl⟩) ?_
     simp only [qc10x14,Act.put]
     refine s2 6 8 ?_ ?_
     ·simp [wpOpS,go_sem]
      refine s1 8 ?_
      simp [wpOpS,go_sem,gq,gqz]
      refine s1 9 ?_
      simp [wpOpS,go_sem,gr,grz]
      refine s0 ?_
      exact⟨rfl,.returning,by rw [←hu],.tuple #[],results_none (by rfl) _ _ _,rfl,rfl,w1,(Ext.refl w).drew.trans hx,rfl⟩
     ·simp [wpOpS,go_sem,gq,gqz]
      refine s1 6 ?_
      simp [wpOpS,go_sem]
      refine s1 9 ?_
      simp [wpOpS,go_sem,gr,grz]
      refine s0 ?_
      exact⟨rfl,.returning,by rw [←hu],.tuple #[],results_none (by rfl) _ _ _,rfl,rfl,w1,(Ext.refl w).drew.trans hx,rfl⟩
   ·simp [wpOpS,go_sem]
    refine s2 5 7 ?_ ?_
    ·simp [wpOpS,go_sem]
     refine s1 7 ?_
     refine wpOpS_run (o:=qc10x14) (v:=undef) rfl rfl (exec_storeP gB hm hn h1 rfl rfl rfl) (Or.inr ⟨rfl,rfl⟩) ?_
     simp only [qc10x14,Act.put]
     refine s1 8 ?_
     simp [wpOpS,go_sem,gq,gqz]
     refine s1 9 ?_
     simp [wpOpS,go_sem,gr,grz]
     refine s0 ?_
     exact⟨rfl,.returning,by rw [←hu],.tuple #[],results_none (by rfl) _ _ _,rfl,rfl,w1,(Ext.refl w).drew.trans hx,rfl⟩
    ·refine wpOpS_run (o:=qc10x14) (v:=undef) rfl rfl (exec_storeP gB hm hn h1 rfl rfl rfl) (Or.inr ⟨rfl,rfl⟩) ?_
     simp only [qc10x14,Act.put]
     refine s1 5 ?_
     simp [wpOpS,go_sem]
     refine s1 8 ?_
     simp [wpOpS,go_sem,gq,gqz]
     refine s1 9 ?_
     simp [wpOpS,go_sem,gr,grz]
     refine s0 ?_
     exact⟨rfl,.returning,by rw [←hu],.tuple #[],results_none (by rfl) _ _ _,rfl,rfl,w1,(Ext.refl w).drew.trans hx,rfl⟩
   ·refine wpOpS_run (o:=qc10x14) (v:=undef) rfl rfl (exec_storeP gB hm hn h1 rfl rfl rfl) (Or.inr ⟨rfl,rfl⟩) ?_
    simp only [qc10x14,Act.put]
    refine s2 5 6 ?_ ?_
    ·simp [wpOpS,go_sem]
     refine s2 6 8 ?_ ?_
     ·simp [wpOpS,go_sem]
      refine s1 8 ?_
      simp [wpOpS,go_sem,gq,gqz]
      refine s1 9 ?_
      simp [wpOpS,go_sem,gr,grz]
      refine s0 ?_
      exact⟨rfl,.returning,by rw [←hu],.tuple #[],results_none (by rfl) _ _ _,rfl,rfl,w1,(Ext.refl w).drew.trans hx,rfl⟩
     ·simp [wpOpS,go_sem,gq,gqz]
      refine s1 6 ?_
      simp [wpOpS,go_sem]
      refine s1 9 ?_
      simp [wpOpS,go_sem,gr,grz]
      refine s0 ?_
      exact⟨rfl,.returning,by rw [←hu],.tuple #[],results_none (by rfl) _ _ _,rfl,rfl,w1,(Ext.refl w).drew.trans hx,rfl⟩
    ·simp [wpOpS,go_sem]
     refine s1 5 ?_
     simp [wpOpS,go_sem]
     refine s1 8 ?_
     simp [wpOpS,go_sem,gq,gqz]
     refine s1 9 ?_
     simp [wpOpS,go_sem,gr,grz]
     refine s0 ?_
     exact⟨rfl,.returning,by rw [←hu],.tuple #[],results_none (by rfl) _ _ _,rfl,rfl,w1,(Ext.refl w).drew.trans hx,rfl⟩
  ·simp [wpOpS,go_sem]
   refine s2 4 6 ?_ ?_
   ·simp [wpOpS,go_sem]
    refine s2 6 7 ?_ ?_
    ·simp [wpOpS,go_sem]
     refine s1 7 ?_
     refine wpOpS_run (o:=qc10x14) (v:=undef) rfl rfl (exec_storeP gB hm hn h1 rfl rfl rfl) (Or.inr ⟨rfl,rfl⟩) ?_
     simp only [qc10x14,Act.put]
     refine s1 8 ?_
     simp [wpOpS,go_sem,gq,gqz]
     refine s1 9 ?_
     simp [wpOpS,go_sem,gr,grz]
     refine s0 ?_
     exact⟨rfl,.returning,by rw [←hu],.tuple #[],results_none (by rfl) _ _ _,rfl,rfl,w1,(Ext.refl w).drew.trans hx,rfl⟩
    ·refine wpOpS_run (o:=qc10x14) (v:=undef) rfl rfl (exec_storeP gB hm hn h1 rfl rfl rfl) (Or.inr ⟨rfl,rfl⟩) ?_
     simp only [qc10x14,Act.put]
     refine s2 6 8 ?_ ?_
     ·simp [wpOpS,go_sem]
      refine s1 8 ?_
      simp [wpOpS,go_sem,gq,gqz]
      refine s1 9 ?_
      simp [wpOpS,go_sem,gr,grz]
      refine s0 ?_
      exact⟨rfl,.returning,by rw [←hu],.tuple #[],results_none (by rfl) _ _ _,rfl,rfl,w1,(Ext.refl w).drew.trans hx,rfl⟩
     ·simp [wpOpS,go_sem,gq,gqz]
      refine s1 6 ?_
      simp [wpOpS,go_sem]
      refine s1 9 ?_
      simp [wpOpS,go_sem,gr,grz]
      refine s0 ?_
      exact⟨rfl,.returning,by rw [←hu],.tuple #[],results_none (by rfl) _ _ _,rfl,rfl,w1,(Ext.refl w).drew.trans hx,rfl⟩
   ·simp [wpOpS,go_sem]
    refine s1 4 ?_
    simp [wpOpS,go_sem]
    refine s1 7 ?_
    refine wpOpS_run (o:=qc10x14) (v:=undef) rfl rfl (exec_storeP gB hm hn h1 rfl rfl rfl) (Or.inr ⟨rfl,rfl⟩) ?_
    simp only [qc10x14,Act.put]
    refine s1 8 ?_
    simp [wpOpS,go_sem,gq,gqz]
    refine s1 9 ?_
    simp [wpOpS,go_sem,gr,grz]
    refine s0 ?_
    exact⟨rfl,.returning,by rw [←hu],.tuple #[],results_none (by rfl) _ _ _,rfl,rfl,w1,(Ext.refl w).drew.trans hx,rfl⟩
  ·simp [wpOpS,go_sem]
   refine s2 4 5 ?_ ?_
   ·simp [wpOpS,go_sem]
    refine s2 5 7 ?_ ?_
    ·simp [wpOpS,go_sem]
     refine s1 7 ?_
     refine wpOpS_run (o:=qc10x14) (v:=undef) rfl rfl (exec_storeP gB hm hn h1 rfl rfl rfl) (Or.inr ⟨rfl,rfl⟩) ?_
     simp only [qc10x14,Act.put]
     refine s1 8 ?_
     simp [wpOpS,go_sem,gq,gqz]
     refine s1 9 ?_
     simp [wpOpS,go_sem,gr,grz]
     refine s0 ?_
     exact⟨rfl,.returning,by rw [←hu],.tuple #[],results_none (by rfl) _ _ _,rfl,rfl,w1,(Ext.refl w).drew.trans hx,rfl⟩
    ·refine wpOpS_run (o:=qc10x14) (v:=undef) rfl rfl (exec_storeP gB hm hn h1 rfl rfl rfl) (Or.inr ⟨rfl,rfl⟩) ?_
     simp only [qc10x14,Act.put]
     refine s1 5 ?_
     simp [wpOpS,go_sem]
     refine s1 8 ?_
     simp [wpOpS,go_sem,gq,gqz]
     refine s1 9 ?_
     simp [wpOpS,go_sem,gr,grz]
     refine s0 ?_
     exact⟨rfl,.returning,by rw [←hu],.tuple #[],results_none (by rfl) _ _ _,rfl,rfl,w1,(Ext.refl w).drew.trans hx,rfl⟩
   ·simp [wpOpS,go_sem]
    refine s1 4 ?_
    simp [wpOpS,go_sem]
    refine s1 7 ?_
    refine wpOpS_run (o:=qc10x14) (v:=undef) rfl rfl (exec_storeP gB hm hn h1 rfl rfl rfl) (Or.inr ⟨rfl,rfl⟩) ?_
    simp only [qc10x14,Act.put]
    refine s1 8 ?_
    simp [wpOpS,go_sem,gq,gqz]
    refine s1 9 ?_
    simp [wpOpS,go_sem,gr,grz]
    refine s0 ?_
    exact⟨rfl,.returning,by rw [←hu],.tuple #[],results_none (by rfl) _ _ _,rfl,rfl,w1,(Ext.refl w).drew.trans hx,rfl⟩
theorem parse_placed (b:Nat)(cs:Array Value)(hc:Flat cs)(c k:Int)(older:List PanicEntry)(y z:Int)(w:World)(hB:Blk w b cs)(hq:w.cell? ⟨b+1,0,none⟩=some (.int .i64 y))(hr:w.cell? ⟨b+2,0,none⟩=some (.int .i64 z))(hqz:w.frozen? ⟨b+1,0,none⟩=false)(hrz:w.frozen? ⟨b+2,0,none⟩=false) :
  CallsD Tryz.prog 18 #[.pointer (some ⟨b,0,none⟩),.pointer (some ⟨b+1,0,none⟩),.pointer (some ⟨b+2,0,none⟩)] (.panicking ({ v:=.iface 87 (.agg #[.int .i64 c,.int .i64 k]),recovered:=false }::older)) w fun e u' w'=>e=.returned (.tuple #[])∧u'=.panicking ({ v:=.iface 87 (.agg #[.int .i64 c,.int .i64 k]),recovered:=true }::older)∧∃ w1,Ext w w1∧w'=(((w1.setRow b zP).setCell ⟨b+1,0,none⟩ (.int .i64 k)).setCell ⟨b+2,0,none⟩ (.int .i64 c)):=by
 have hm:=hc.size
 have hn:(zP:Array Value).size=19:=zP_ok.1
 have h1:(zP:Array Value).all (·.oneCell')=true:=zP_ok.2
 have hb1:=lt_of_cell hq
 have hb2:=lt_of_cell hr
 have hd:Blk w.drew b cs:=hB.ext (Ext.refl w).drew
 refine callsD_of_wpS Tryz.func18 rfl fun c₀ cs' hu=>?_
 rw [show (#[Value.pointer (some ⟨b,0,none⟩),.pointer (some ⟨b+1,0,none⟩),.pointer (some ⟨b+2,0,none⟩)]++Array.replicate (Tryz.f18.ntmps-(#[Value.pointer (some ⟨b,0,none⟩),.pointer (some ⟨b+1,0,none⟩),.pointer (some ⟨b+2,0,none⟩)]:Array Value).size) undef:Array Value) = #[.pointer (some ⟨b,0,none⟩),.pointer (some ⟨b+1,0,none⟩),.pointer (some ⟨b+2,0,none⟩),undef,undef,undef,undef,undef,undef,undef] from rfl]
 refine wpS_region_any 10 rfl (by kernel_rfl) ?_
 refine s2 0 1 ?a ?b
 case' a =>
  simp [wpOpS,go_sem,recoverD,hu]
  refine s1 1 ?_
  refine wpOpS_run (o:=qc10x13) (v:=.agg cs) rfl rfl (exec_loadP hd hm rfl rfl) (Or.inl rfl) ?_
  simp only [qc10x13,p4]
  refine s1 2 ?_
  simp [wpOpS,go_sem]
 case' b =>
  refine wpOpS_run (o:=qc10x13) (v:=.agg cs) rfl rfl (exec_loadP hd hm rfl rfl) (Or.inl rfl) ?_
  simp only [qc10x13,p4]
  refine s1 0 ?_
  simp [wpOpS,go_sem,recoverD,hu]
  refine s1 2 ?_
  simp [wpOpS,go_sem]
 all_goals
  refine (settleP_placed c k cs hc _).mono ?_
  rintro e w1 ⟨rfl,hx⟩
  have gB:Blk w1 b cs:=hd.ext hx
  have gx:=Exr.setRow w1 b zP
  have gq0:w1.cell? ⟨b+1,0,none⟩=some (.int .i64 y):=by rw [hx.cell (b+1) 0 (by simpa using hb1)];simpa using hq
  have gr0:w1.cell? ⟨b+2,0,none⟩=some (.int .i64 z):=by rw [hx.cell (b+2) 0 (by simpa using hb2)];simpa using hr
  have gqz0:w1.frozen? ⟨b+1,0,none⟩=false:=by rw [hx.froz (b+1) 0 (by simpa using hb1)];simpa using hqz
  have grz0:w1.frozen? ⟨b+2,0,none⟩=false:=by rw [hx.froz (b+2) 0 (by simpa using hb2)];simpa using hrz
  have gq:=gx.cell_of (by omega) gq0
  have gr:=gx.cell_of (by omega) gr0
  have gqz:=(World.frozen?_of_block (a:=⟨b+1,0,none⟩) (gx.block (b+1) (lt_of_cell gq0) (by omega))).trans gqz0
  have grz:=(World.frozen?_of_block (a:=⟨b+2,0,none⟩) (gx.block (b+2) (lt_of_cell gr0) (by omega))).trans grz0
  clear gq0 gr0 gqz0 grz0
  refine s1 3 ?_
  simp [wpOpS,go_sem]
  refine s3 4 5 6 ?_ ?_ ?_
  ·simp [wpOpS,go_sem]
   refine s3 5 6 7 ?_ ?_ ?_
   ·simp [wpOpS,go_sem]
    refine s2 6 7 ?_ ?_
    ·simp [wpOpS,go_sem]
     refine s1 7 ?_
     refine wpOpS_run (o:=qc10x14) (v:=undef) rfl rfl (exec_storeP gB hm hn h1 rfl rfl rfl) (Or.inr ⟨rfl,rfl⟩) ?_
     simp only [qc10x14,Act.put]
     refine s1 8 ?_
     simp [wpOpS,go_sem,gq,gqz]
     refine s1 9 ?_
     simp [wpOpS,go_sem,gr,grz]
     refine s0 ?_
     exact⟨rfl,_,rfl,.tuple #[],results_none (by rfl) _ _ _,rfl,rfl,w1,(Ext.refl w).drew.trans hx,rfl⟩
    ·refine wpOpS_run (o:=qc10x14) (v:=undef) rfl rfl (exec_storeP gB hm hn h1 rfl rfl rfl) (Or.inr ⟨rfl,rfl⟩) ?_
     simp only [qc10x14,Act.put]
     refine s2 6 8 ?_ ?_
     ·simp [wpOpS,go_sem]
      refine s1 8 ?_
      simp [wpOpS,go_sem,gq,gqz]
      refine s1 9 ?_
      simp [wpOpS,go_sem,gr,grz]
      refine s0 ?_
      exact⟨rfl,_,rfl,.tuple #[],results_none (by rfl) _ _ _,rfl,rfl,w1,(Ext.refl w).drew.trans hx,rfl⟩
     ·simp [wpOpS,go_sem,gq,gqz]
      refine s1 6 ?_
      simp [wpOpS,go_sem]
      refine s1 9 ?_
      simp [wpOpS,go_sem,gr,grz]
      refine s0 ?_
      exact⟨rfl,_,rfl,.tuple #[],results_none (by rfl) _ _ _,rfl,rfl,w1,(Ext.refl w).drew.trans hx,rfl⟩
   ·simp [wpOpS,go_sem]
    refine s2 5 7 ?_ ?_
    ·simp [wpOpS,go_sem]
     refine s1 7 ?_
     refine wpOpS_run (o:=qc10x14) (v:=undef) rfl rfl (exec_storeP gB hm hn h1 rfl rfl rfl) (Or.inr ⟨rfl,rfl⟩) ?_
     simp only [qc10x14,Act.put]
     refine s1 8 ?_
     simp [wpOpS,go_sem,gq,gqz]
     refine s1 9 ?_
     simp [wpOpS,go_sem,gr,grz]
     refine s0 ?_
     exact⟨rfl,_,rfl,.tuple #[],results_none (by rfl) _ _ _,rfl,rfl,w1,(Ext.refl w).drew.trans hx,rfl⟩
    ·refine wpOpS_run (o:=qc10x14) (v:=undef) rfl rfl (exec_storeP gB hm hn h1 rfl rfl rfl) (Or.inr ⟨rfl,rfl⟩) ?_
     simp only [qc10x14,Act.put]
     refine s1 5 ?_
     simp [wpOpS,go_sem]
     refine s1 8 ?_
     simp [wpOpS,go_sem,gq,gqz]
     refine s1 9 ?_
     simp [wpOpS,go_sem,gr,grz]
     refine s0 ?_
     exact⟨rfl,_,rfl,.tuple #[],results_none (by rfl) _ _ _,rfl,rfl,w1,(Ext.refl w).drew.trans hx,rfl⟩
   ·refine wpOpS_run (o:=qc10x14) (v:=undef) rfl rfl (exec_storeP gB hm hn h1 rfl rfl rfl) (Or.inr ⟨rfl,rfl⟩) ?_
    simp only [qc10x14,Act.put]
    refine s2 5 6 ?_ ?_
    ·simp [wpOpS,go_sem]
     refine s2 6 8 ?_ ?_
     ·simp [wpOpS,go_sem]
      refine s1 8 ?_
      simp [wpOpS,go_sem,gq,gqz]
      refine s1 9 ?_
      simp [wpOpS,go_sem,gr,grz]
      refine s0 ?_
      exact⟨rfl,_,rfl,.tuple #[],results_none (by rfl) _ _ _,rfl,rfl,w1,(Ext.refl w).drew.trans hx,rfl⟩
     ·simp [wpOpS,go_sem,gq,gqz]
      refine s1 6 ?_
      simp [wpOpS,go_sem]
      refine s1 9 ?_
      simp [wpOpS,go_sem,gr,grz]
      refine s0 ?_
      exact⟨rfl,_,rfl,.tuple #[],results_none (by rfl) _ _ _,rfl,rfl,w1,(Ext.refl w).drew.trans hx,rfl⟩
    ·simp [wpOpS,go_sem]
     refine s1 5 ?_
     simp [wpOpS,go_sem]
     refine s1 8 ?_
     simp [wpOpS,go_sem,gq,gqz]
     refine s1 9 ?_
     simp [wpOpS,go_sem,gr,grz]
     refine s0 ?_
     exact⟨rfl,_,rfl,.tuple #[],results_none (by rfl) _ _ _,rfl,rfl,w1,(Ext.refl w).drew.trans hx,rfl⟩
  ·simp [wpOpS,go_sem]
   refine s2 4 6 ?_ ?_
   ·simp [wpOpS,go_sem]
    refine s2 6 7 ?_ ?_
    ·simp [wpOpS,go_sem]
     refine s1 7 ?_
     refine wpOpS_run (o:=qc10x14) (v:=undef) rfl rfl (exec_storeP gB hm hn h1 rfl rfl rfl) (Or.inr ⟨rfl,rfl⟩) ?_
     simp only [qc10x14,Act.put]
     refine s1 8 ?_
     simp [wpOpS,go_sem,gq,gqz]
     refine s1 9 ?_
     simp [wpOpS,go_sem,gr,grz]
     refine s0 ?_
     exact⟨rfl,_,rfl,.tuple #[],results_none (by rfl) _ _ _,rfl,rfl,w1,(Ext.refl w).drew.trans hx,rfl⟩
    ·refine wpOpS_run (o:=qc10x14) (v:=undef) rfl rfl (exec_storeP gB hm hn h1 rfl rfl rfl) (Or.inr ⟨rfl,rfl⟩) ?_
     simp only [qc10x14,Act.put]
     refine s2 6 8 ?_ ?_
     ·simp [wpOpS,go_sem]
      refine s1 8 ?_
      simp [wpOpS,go_sem,gq,gqz]
      refine s1 9 ?_
      simp [wpOpS,go_sem,gr,grz]
      refine s0 ?_
      exact⟨rfl,_,rfl,.tuple #[],results_none (by rfl) _ _ _,rfl,rfl,w1,(Ext.refl w).drew.trans hx,rfl⟩
     ·simp [wpOpS,go_sem,gq,gqz]
      refine s1 6 ?_
      simp [wpOpS,go_sem]
      refine s1 9 ?_
      simp [wpOpS,go_sem,gr,grz]
      refine s0 ?_
      exact⟨rfl,_,rfl,.tuple #[],results_none (by rfl) _ _ _,rfl,rfl,w1,(Ext.refl w).drew.trans hx,rfl⟩
   ·simp [wpOpS,go_sem]
    refine s1 4 ?_
    simp [wpOpS,go_sem]
    refine s1 7 ?_
    refine wpOpS_run (o:=qc10x14) (v:=undef) rfl rfl (exec_storeP gB hm hn h1 rfl rfl rfl) (Or.inr ⟨rfl,rfl⟩) ?_
    simp only [qc10x14,Act.put]
    refine s1 8 ?_
    simp [wpOpS,go_sem,gq,gqz]
    refine s1 9 ?_
    simp [wpOpS,go_sem,gr,grz]
    refine s0 ?_
    exact⟨rfl,_,rfl,.tuple #[],results_none (by rfl) _ _ _,rfl,rfl,w1,(Ext.refl w).drew.trans hx,rfl⟩
  ·simp [wpOpS,go_sem]
   refine s2 4 5 ?_ ?_
   ·simp [wpOpS,go_sem]
    refine s2 5 7 ?_ ?_
    ·simp [wpOpS,go_sem]
     refine s1 7 ?_
     refine wpOpS_run (o:=qc10x14) (v:=undef) rfl rfl (exec_storeP gB hm hn h1 rfl rfl rfl) (Or.inr ⟨rfl,rfl⟩) ?_
     simp only [qc10x14,Act.put]
     refine s1 8 ?_
     simp [wpOpS,go_sem,gq,gqz]
     refine s1 9 ?_
     simp [wpOpS,go_sem,gr,grz]
     refine s0 ?_
     exact⟨rfl,_,rfl,.tuple #[],results_none (by rfl) _ _ _,rfl,rfl,w1,(Ext.refl w).drew.trans hx,rfl⟩
    ·refine wpOpS_run (o:=qc10x14) (v:=undef) rfl rfl (exec_storeP gB hm hn h1 rfl rfl rfl) (Or.inr ⟨rfl,rfl⟩) ?_
     simp only [qc10x14,Act.put]
     refine s1 5 ?_
     simp [wpOpS,go_sem]
     refine s1 8 ?_
     simp [wpOpS,go_sem,gq,gqz]
     refine s1 9 ?_
     simp [wpOpS,go_sem,gr,grz]
     refine s0 ?_
     exact⟨rfl,_,rfl,.tuple #[],results_none (by rfl) _ _ _,rfl,rfl,w1,(Ext.refl w).drew.trans hx,rfl⟩
   ·simp [wpOpS,go_sem]
    refine s1 4 ?_
    simp [wpOpS,go_sem]
    refine s1 7 ?_
    refine wpOpS_run (o:=qc10x14) (v:=undef) rfl rfl (exec_storeP gB hm hn h1 rfl rfl rfl) (Or.inr ⟨rfl,rfl⟩) ?_
    simp only [qc10x14,Act.put]
    refine s1 8 ?_
    simp [wpOpS,go_sem,gq,gqz]
    refine s1 9 ?_
    simp [wpOpS,go_sem,gr,grz]
    refine s0 ?_
    exact⟨rfl,_,rfl,.tuple #[],results_none (by rfl) _ _ _,rfl,rfl,w1,(Ext.refl w).drew.trans hx,rfl⟩
def dfr (Z:Nat):List Deferred:=[{ target:=.fn (.func 18) #[.pointer (some ⟨Z,0,none⟩),.pointer (some ⟨Z+1,0,none⟩),.pointer (some ⟨Z+2,0,none⟩)],args:=#[] }]
structure Fac (w W:World)(cs:Array Value)(y z:Int):Prop where
 p:Blk W w.heap.size cs
 q:W.cell? ⟨w.heap.size+1,0,none⟩=some (.int .i64 y)
 r:W.cell? ⟨w.heap.size+2,0,none⟩=some (.int .i64 z)
 qz:W.frozen? ⟨w.heap.size+1,0,none⟩=false
 rz:W.frozen? ⟨w.heap.size+2,0,none⟩=false
 ext:Ext w W
theorem froz_exr {g:Nat}{w w':World}{b o:Nat}{v:Value}(hx:Exr g w w')(hb:b≠g)(h:w.cell? ⟨b,o,none⟩=some v)(hz:w.frozen? ⟨b,o,none⟩=false):w'.frozen? ⟨b,o,none⟩=false :=
 (World.frozen?_of_block (a:=⟨b,o,none⟩) (hx.block b (lt_of_cell h) hb)).trans hz
theorem Fac.begin (w:World)(s r:TypeId):Fac w (((w.alloc (.cells zP 27)).alloc (.cells #[.int .i64 0] s)).alloc (.cells #[.int .i64 0] r)) zP 0 0:=by
 have h:Blk (w.alloc (.cells zP 27)) w.heap.size zP:=heap_alloc_last w _
 exact⟨h.ext (((Ext.refl _).alloc _ _).alloc _ _),by simp [go_sem],by simp [go_sem],by simp [go_sem],by simp [go_sem],(((Ext.refl w).alloc _ _).alloc _ _).alloc _ _⟩
theorem Fac.on {w W W':World}{cs:Array Value}{y z:Int}(h:Fac w W cs y z)(hx:Ext W W'):Fac w W' cs y z :=
 ⟨h.p.ext hx,hx.cell_of h.q,hx.cell_of h.r,by rw [hx.froz _ _ (lt_of_cell h.q)];exact h.qz,by rw [hx.froz _ _ (lt_of_cell h.r)];exact h.rz,h.ext.trans hx⟩
theorem Fac.row {w W W':World}{cs cs':Array Value}{y z:Int}(h:Fac w W cs y z)(hp:Blk W' w.heap.size cs')(hx:Exr w.heap.size W W'):Fac w W' cs' y z :=
 ⟨hp,hx.cell_of (by omega) h.q,hx.cell_of (by omega) h.r,froz_exr hx (by omega) h.q h.qz,froz_exr hx (by omega) h.r h.rz,hx.ext h.ext (Nat.le_refl _)⟩
theorem Fac.set2 {w W:World}{cs:Array Value}{y z:Int}(h:Fac w W cs y z)(x:Int):Fac w (W.setCell ⟨w.heap.size+1,0,none⟩ (.int .i64 x)) cs x z :=
 ⟨(heap_setCell_other _ _ _ _ (by show w.heap.size≠w.heap.size+1;omega)).trans h.p,L8.same h.q,by rw [L8.other _ (Or.inl (by omega))];exact h.r,by simp [go_sem,h.qz],by simp [go_sem,h.rz],h.ext.setCell (by show w.heap.size≤w.heap.size+1;omega) _⟩
theorem Fac.set3 {w W:World}{cs:Array Value}{y z:Int}(h:Fac w W cs y z)(x:Int):Fac w (W.setCell ⟨w.heap.size+2,0,none⟩ (.int .i64 x)) cs y x :=
 ⟨(heap_setCell_other _ _ _ _ (by show w.heap.size≠w.heap.size+2;omega)).trans h.p,by rw [L8.other _ (Or.inl (by omega))];exact h.q,L8.same h.r,by simp [go_sem,h.qz],by simp [go_sem,h.rz],h.ext.setCell (by show w.heap.size≤w.heap.size+2;omega) _⟩
theorem resultsF {tmps:Array Value}{w W:World}{cs:Array Value}{y z:Int}(hf:Fac w W cs y z)(hn:cs.size=19)(h1:tmps[2]?=some (.pointer (some ⟨w.heap.size,0,none⟩)))(h2:tmps[3]?=some (.pointer (some ⟨w.heap.size+1,0,none⟩)))(h3:tmps[4]?=some (.pointer (some ⟨w.heap.size+2,0,none⟩))) :
  (results Tryz.f7 tmps).run Tryz.prog W=.ok (.tuple #[.agg cs,.int .i64 y,.int .i64 z]) W:=by
 have hl:=run_loadVar_row (P:=Tryz.prog) W w.heap.size 27 27 cs (0,0) _ hf.p Tryz.underlying27 rfl (by rw [hn];kernel_rfl)
 simp [results,Tryz.results7,h1,h2,h3,asAddr,hl]
 simp [go_sem,hf.q,hf.r]
def Ans (w:World)(X:Res Prd)(e:Ending)(w':World):Prop :=
 Ext w w'∧match X with
  | .ok p=>∃ vr vl vh,e=.returned (.tuple #[.agg (pcells p vr vl vh),.int .i64 0,.int .i64 0])∧Lsts w w' p vr vl vh
  | .no x y=>e=.returned (.tuple #[.agg zP,.int .i64 y,.int .i64 x])
theorem own_mono {w:World}{A B:Nat}{e:TypeId}{z:Nat}{v:Value}{T:Nat}{xs:List Value}(h:w.ownsRow B e z v T xs)(hb:A≤B):w.ownsRow A e z v T xs:=by
 refine⟨h.1,?_⟩
 rcases h.2 with h0 | ⟨g,c,cur,h1,h2,h3⟩
 ·exact Or.inl h0
 ·exact Or.inr ⟨g,c,cur,h1,Nat.le_trans hb h2,h3⟩
theorem cells_at:∀ (ts:List Tok) (i:Nat) (t:Tok),ts[i]?=some t→(L7.cellsT ts)[i * 3]?=some (.int .i64 t.kind)∧(L7.cellsT ts)[i * 3+1]?=some (.int .i64 t.at_)∧(L7.cellsT ts)[i * 3+2]?=some (.string ⟨t.text.toArray⟩)
 | [],i,t,h=>by simp at h
 | u::ts,0,t,h=>by
  obtain rfl:u=t:=by simpa using h
  exact⟨rfl,rfl,rfl⟩
 | u::ts,i+1,t,h=>by
  have ih:=cells_at ts i t (by simpa using h)
  have e:(i+1) * 3=i * 3+3:=by omega
  rw [e]
  exact ih
theorem flat_of {cs:Array Value}(hn:cs.size=19)(h1:cs.all (·.oneCell')=true):Flat cs:=⟨hn,h1,fun w=>by
 simp [Instr.box,newVar,go_sem]⟩
theorem leave_idle (w W:World)(tm:Array Value)(p:Prd)(vr vl vh:Value)(B:Nat)(y z:Int)(h1:tm[2]?=some (.pointer (some ⟨w.heap.size,0,none⟩)))(h2:tm[3]?=some (.pointer (some ⟨w.heap.size+1,0,none⟩)))(h3:tm[4]?=some (.pointer (some ⟨w.heap.size+2,0,none⟩)))(hf:Fac w W (pcells p vr vl vh) y z)(w0:World)(hB:w.heap.size+2<w0.heap.size)(hL:Lsts w0 W p vr vl vh) :
  Leaves Tryz.prog Tryz.f7 tm (fun e w'=>Ans w (.ok p) e w') (dfr w.heap.size) .returning W:=by
 refine leaves_cons (f:=18) (args:=#[.pointer (some ⟨w.heap.size,0,none⟩),.pointer (some ⟨w.heap.size+1,0,none⟩),.pointer (some ⟨w.heap.size+2,0,none⟩)]) (by simp) (by simp [go_sem]) ?_
 have hfl:Flat (pcells p vr vl vh):=flat_of rfl (pcells_one hL.sr hL.sl hL.sh)
 refine (parse_idle w.heap.size _ hfl y z _ hf.p hf.q hf.r hf.qz hf.rz).mono ?_
 rintro e u' w'' ⟨rfl,rfl,w2,hy,rfl⟩
 have hf2:=hf.on hy
 have hx:=Exr.setRow w2 w.heap.size (pcells p vr vl vh)
 have hg:=((hf2.row (setRow_heap w2 _ _ _ _ _ hf2.p) hx).set2 0).set3 0
 have hL2:=hL.ext hy
 have hk:∀ (g:Nat),w0.heap.size≤g→(((w2.setRow w.heap.size (pcells p vr vl vh)).setCell ⟨w.heap.size+1,0,none⟩ (.int .i64 0)).setCell ⟨w.heap.size+2,0,none⟩ (.int .i64 0)).heap[g]?=w2.heap[g]?:=fun g hg=>by
  rw [heap_setCell_other _ _ _ _ (by show g≠w.heap.size+2;omega),heap_setCell_other _ _ _ _ (by show g≠w.heap.size+1;omega)]
  unfold World.setRow
  simp only []
  rw [Array.getElem?_modify,if_neg (by omega)]
 have own:∀ {e:TypeId} {z n:Nat} {v:Value} {xs:List Value},w2.ownsRow w0.heap.size e z v n xs→(((w2.setRow w.heap.size (pcells p vr vl vh)).setCell ⟨w.heap.size+1,0,none⟩ (.int .i64 0)).setCell ⟨w.heap.size+2,0,none⟩ (.int .i64 0)).ownsRow w.heap.size e z v n xs:=by
  intro e z n v xs h
  refine⟨h.1,?_⟩
  rcases h.2 with h0 | ⟨g,c,cur,a1,a2,a3,a4⟩
  ·exact Or.inl h0
  ·exact Or.inr ⟨g,c,cur,a1,by omega,(hk g a2).trans a3,a4⟩
 have hl3:Lsts w (((w2.setRow w.heap.size (pcells p vr vl vh)).setCell ⟨w.heap.size+1,0,none⟩ (.int .i64 0)).setCell ⟨w.heap.size+2,0,none⟩ (.int .i64 0)) p vr vl vh:=⟨own hL2.sr,own hL2.sl,own hL2.sh⟩
 generalize ((w2.setRow w.heap.size (pcells p vr vl vh)).setCell ⟨w.heap.size+1,0,none⟩ (.int .i64 0)).setCell ⟨w.heap.size+2,0,none⟩ (.int .i64 0)=Wf at *
 have hres:=resultsF hg rfl h1 h2 h3
 simp [Leaves,settle,hres]
 exact⟨hg.ext,vr,vl,vh,rfl,hl3⟩
theorem leave_placed (w W:World)(tm:Array Value)(x k:Nat)(y z:Int)(h1:tm[2]?=some (.pointer (some ⟨w.heap.size,0,none⟩)))(h2:tm[3]?=some (.pointer (some ⟨w.heap.size+1,0,none⟩)))(h3:tm[4]?=some (.pointer (some ⟨w.heap.size+2,0,none⟩)))(hf:Fac w W zP y z) :
  Leaves Tryz.prog Tryz.f7 tm (fun e w'=>Ans w (.no x k) e w') (dfr w.heap.size) (.panicking [{ v:=.iface 87 (.agg #[.int .i64 x,.int .i64 k]),recovered:=false }]) W:=by
 refine leaves_cons (f:=18) (args:=#[.pointer (some ⟨w.heap.size,0,none⟩),.pointer (some ⟨w.heap.size+1,0,none⟩),.pointer (some ⟨w.heap.size+2,0,none⟩)]) (by simp) (by simp [go_sem]) ?_
 refine (parse_placed w.heap.size zP (flat_of zP_ok.1 zP_ok.2) x k [] y z _ hf.p hf.q hf.r hf.qz hf.rz).mono ?_
 rintro e u' w'' ⟨rfl,rfl,w2,hy,rfl⟩
 have hf2:=hf.on hy
 have hx:=Exr.setRow w2 w.heap.size zP
 have hg:=((hf2.row (setRow_heap w2 _ _ _ _ _ hf2.p) hx).set2 k).set3 x
 generalize ((w2.setRow w.heap.size zP).setCell ⟨w.heap.size+1,0,none⟩ (.int .i64 k)).setCell ⟨w.heap.size+2,0,none⟩ (.int .i64 x)=Wf at *
 have hres:=resultsF hg zP_ok.1 h1 h2 h3
 simp [Leaves,settle,hres]
 exact⟨hg.ext,rfl⟩
theorem lexF_len:∀ (f p:Nat) (l:List UInt8),(L7.lexF f p l).1.length≤l.length∧∀ t∈(L7.lexF f p l).1,t.text.length≤l.length
 | 0,p,l=>by simp [L7.lexF]
 | f+1,p,l=>by
  rw [L7.lexF]
  have hd:(l.drop (L7.wh false l)).length≤l.length:=by simp
  cases hm:l.drop (L7.wh false l) with
  | nil=>simp
  | cons c m =>
   simp only []
   rw [hm] at hd
   split
   ·simp
   ·rename_i hs
    obtain⟨h1,h2⟩:=lexF_len f (p+L7.wh false l+L7.sz (c::m)) ((c::m).drop (L7.sz (c::m)))
    have hz:=L7.sz_le (c::m)
    rw [List.length_drop] at h1 h2
    refine⟨?_,fun t ht=>?_⟩
    ·simp only [List.length_cons] at h1 hd hz ⊢
     omega
    ·rcases List.mem_cons.1 ht with rfl | ht
     ·show ((c::m).take _).length≤_
      rw [List.length_take];omega
     ·have:=h2 t ht
      omega
theorem fine_of {l:List UInt8}(h:L7.aE l=0)(p:Prd)(hp:p.rs.length+p.lt.length+p.hd.length=0)(hd:Nat→Bool):Fine ⟨L7.aT l,p,hd⟩:=by
 have hl:l.length≤20000:=by
  by_cases hl:20000<l.length
  ·unfold L7.aE at h;rw [if_pos hl] at h;cases h
  ·omega
 have ho:(L7.lex 0 l).2=none:=by
  unfold L7.aE at h
  rw [if_neg (by omega)] at h
  cases hq:(L7.lex 0 l).2 with
  | none=>rfl
  | some q=>rw [hq] at h;cases h
 have e:L7.aT l=(L7.lex 0 l).1++[⟨0,l.length,[]⟩]:=by unfold L7.aT;rw [if_neg (by omega),ho]
 obtain⟨h1,h2⟩:=lexF_len (l.length+1) 0 l
 refine⟨⟨_,_,e,rfl⟩,fun t ht=>?_,?_⟩
 ·have ht':t∈(L7.lex 0 l).1++[⟨0,l.length,[]⟩]:=e ▸ ht
  rcases List.mem_append.1 ht' with ht' | ht'
  ·have:=h2 t ht';omega
  ·obtain rfl:t=⟨0,l.length,[]⟩:=by simpa using ht'
   simp
 ·show (L7.aT l).length+p.rs.length+p.lt.length+p.hd.length≤20010
  rw [e,List.length_append]
  have h1':(L7.lex 0 l).1.length≤l.length:=h1
  simp only [List.length_cons,List.length_nil]
  omega
theorem tks_own {w:World}{B:Nat}{v:Value}{ts:List Tok}(h:L7.Own B w v ts):Tks w v ts:=by
 have h':=h
 rcases h'.row.2 with ⟨rfl,h0⟩ | ⟨g,c,cur,rfl,_,_,hle,_⟩
 ·obtain rfl:=List.eq_nil_of_length_eq_zero h0
  exact⟨none,0,rfl,Nat.le_refl _,fun h=>absurd rfl h⟩
 ·refine ⟨some ⟨g,0,none⟩,c,rfl,hle,fun _=>⟨g,0,rfl,fun k t hk=>?_⟩⟩
  have hc:=h.row.cells (g:=g) rfl
  obtain⟨a1,a2,a3⟩:=cells_at ts k t hk
  have b1:=hc _ _ a1
  have b2:=hc _ _ a2
  have b3:=hc _ _ a3
  rw [Addr.add_mid] at b1 b2 b3
  exact⟨b1,by simpa [Nat.add_assoc] using b2,by simpa [Nat.add_assoc] using b3⟩
theorem Lsts.low {w0 w w':World}{p:Prd}{vr vl vh:Value}(h:Lsts w0 w p vr vl vh)(hk:∀ g,w0.heap.size≤g→g<w.heap.size→w'.heap[g]?=w.heap[g]?):Lsts w0 w' p vr vl vh:=by
 have own:∀ {e:TypeId} {z n:Nat} {v:Value} {xs:List Value},w.ownsRow w0.heap.size e z v n xs→w'.ownsRow w0.heap.size e z v n xs:=by
  intro e z n v xs h
  refine⟨h.1,?_⟩
  rcases h.2 with h0 | ⟨g,c,cur,a1,a2,a3,a4⟩
  ·exact Or.inl h0
  ·exact Or.inr ⟨g,c,cur,a1,a2,(hk g a2 (Array.getElem?_eq_some_iff.1 a3).1).trans a3,a4⟩
 exact⟨own h.sr,own h.sl,own h.sh⟩
theorem layF (w:World):∃ W1 W2 W3,w.alloc (.cells #[.string ⟨#[]⟩,.int .i64 0,.int .i64 0,.int .i64 0,.int .i64 0,.int .i64 0,.int .i64 0,.int .i64 0,.slice none 0 0,.int .i64 0,.int .i64 0,.int .i64 0,.int .i64 0,.int .i64 0,.int .i64 0,.slice none 0 0,.int .i64 0,.int .i64 0,.slice none 0 0] 27)=W1∧W1.heap.size=w.heap.size+1∧W1.alloc (.cells #[.int .i64 0] 3)=W2∧W2.heap.size=w.heap.size+2∧W2.alloc (.cells #[.int .i64 0] 28)=W3∧Fac w W3 zP 0 0 :=
 ⟨_,_,_,rfl,by simp,rfl,by simp,rfl,Fac.begin w _ _⟩
theorem Parse_c (l:List UInt8)(w:World)(hm:l.length≤9223372036854775807)(he:Hid (Env w)) :
  Calls Tryz.prog 7 #[.string ⟨l.toArray⟩] w fun e w'=>Ans w (prs l) e w':=by
 have hmf:=L7.make_func
 obtain⟨W1,W2,W3,hW1,hs1,hW2,hs2,hW3,hF⟩:=layF w
 have he3:Hid (L7.Env W3):=(he.out.ext hF.ext).seven
 replace hF:=hid hF
 go_enter_defers Tryz.func7,Tryz.ntmps7
 go_wp2_with fail
 refine (L7.All_c l _ hm he3).mono ?_
 rintro e w4 ⟨⟨v,rfl,hown⟩,hx⟩
 replace hF:=hid <| hF.out.on hx
 have hlt:Hid (w.heap.size+2<w4.heap.size):=lt_of_cell hF.out.r
 clear hW1 hs1 hW2 hs2 hW3 he3
 by_cases hE:L7.aE l=0
 case neg =>
  have hp:prs l=.no (L7.aE l) (L7.aP l):=by unfold prs;rw [if_neg hE]
  have hd:((L7.aE l:Int)==0)=false:=by simp [hE]
  replace hp:=hid hp
  obtain⟨ao,n,cc,rfl⟩:=hown.slc
  clear hown hx
  go_wp2_with fail
  refine (L7.needAt_no _ _ _).mono ?_
  rintro e w5 ⟨rfl,rfl⟩
  go_wp2
  rw [hp.out]
  refine leave_placed w _ _ _ _ 0 0 ?_ ?_ ?_ hF.out
  ·rfl
  ·rfl
  ·rfl
 have hp:prs l=textR (L7.aT l):=by unfold prs;rw [if_pos hE]
 have hd:((L7.aE l:Int)==0)=true:=by simp [hE]
 have hfi:=fine_of hE prd0 rfl had0
 have htk:=tks_own hown
 have he4:Hid (Env w4):=he.out.ext hF.out.ext
 obtain⟨t0,ts,hts,_,_⟩:=hfi.cons
 have hts':L7.aT l=t0::ts:=hts
 obtain⟨ao,n,cc,rfl⟩:=hown.slc
 rw [hts'] at hp hfi htk
 replace hp:=hid hp
 replace hfi:=hid hfi
 replace htk:=show Hid (Tks _ _ _) from htk
 replace hE:=hid hE
 clear hown hx hts hts'
 go_wp2_with fail
 refine (L7.needAt_ok _ _ _).mono ?_
 rintro e w5 ⟨rfl,rfl⟩
 go_wp2_with fail
 refine (newReader_c _ (t0::ts) _ htk.out).mono ?_
 rintro e w6 ⟨r,c,rfl,hI⟩
 replace hI:=hid hI
 go_wp2_with fail
 refine (text_c _ _ _ r c t0 ts he4 hfi.out hI.out).mono ?_
 rintro e w7 hT
 cases hR:textR (t0::ts) with
 | no x y =>
  have hT2:Ext w5 w7∧e=thrown x y:=by have:=hT;unfold Txt at this;rw [hR] at this;exact this
  obtain⟨hx7,rfl⟩:=hT2
  replace hF:=hid <| hF.out.on hx7
  replace hR:=hid hR
  clear hT hx7
  unfold thrown
  go_wp2
  rw [hp.out,hR.out]
  refine leave_placed w _ _ _ _ 0 0 ?_ ?_ ?_ hF.out
  ·rfl
  ·rfl
  ·rfl
 | ok p =>
  have hT2:Ext w5 w7∧∃ vr vl vh,e=.returned (.agg (pcells p vr vl vh))∧Lsts w5 w7 p vr vl vh:=by have:=hT;unfold Txt at this;rw [hR] at this;exact this
  obtain⟨hx7,vr,vl,vh,rfl,hL⟩:=hT2
  replace hF:=hid <| hF.out.on hx7
  replace hR:=hid hR
  have hFp:=hF.out.p
  have hsz:(pcells p vr vl vh).size=19:=rfl
  have hone:=pcells_one (p:=p) hL.sr hL.sl hL.sh
  replace hL:=hid hL
  clear hT hx7 hI
  go_wp2_with (refine store27 hFp rfl hsz hone rfl rfl rfl rfl ?_)
  intro W8 hB8 hx8
  have hF8:=hF.out.row hB8 hx8
  have gq:=hF8.q;have gr:=hF8.r;have gqz:=hF8.qz;have grz:=hF8.rz
  have hL8:Hid (Lsts w5 W8 p vr vl vh):=hL.out.low fun g hg hgl=>hx8.block g hgl (by have:=hlt.out;omega)
  replace hF8:=hid hF8
  clear hFp hone hB8 hx8
  go_wp2
  rw [hp.out,hR.out]
  refine leave_idle w _ _ p vr vl vh 0 0 0 ?_ ?_ ?_ ((hF8.out.set2 0).set3 0) w5 hlt.out (hL8.out.low fun g hg _=>?_)
  ·rfl
  ·rfl
  ·rfl
  ·rw [heap_setCell_other _ _ _ _ (by show g≠w.heap.size+2;have:=hlt.out;omega),heap_setCell_other _ _ _ _ (by show g≠w.heap.size+1;have:=hlt.out;omega)]
end Go.Proofs.YtcijdkbopiaicaaGreatDoor
namespace Go.Proofs.YtcijdkbopiaicaaGreatDoor
open Go.RowKit Go.Lib
open L8 (Slc Slp)
theorem SameI_y (g o b off c d:Nat)(l:List Int)(w:World)(hl:l.length≤30000)(hg:∀ (k:Nat) (x:Int),l[k]?=some x→w.cell? ⟨g,o+k,none⟩=some (.int .i64 x))(hc:∀ (k:Nat) (x:Int),l[k]?=some x→w.cell? ⟨b,off+k,none⟩=some (.int .i64 x)) :
  Calls Tryz.prog 65 #[.slice (some ⟨g,o,none⟩) l.length d,.slice (some ⟨b,off,none⟩) l.length c,.func (.func 66) #[] #[]] w fun e w'=>e=.returned (.bool true)∧Ext w w':=by
 replace hg:=hid hg
 replace hc:=hid hc
 obtain⟨T,hT⟩:∃ n,l.length=n:=⟨_,rfl⟩
 rw [hT] at hl ⊢
 replace hT:=hid hT
 go_enter Tryz.func65,Tryz.ntmps65
 go_wp2_with fail
 go_loopw [7] (fun i wr=>∃ k:Nat,k≤T∧i=.int .i64 k∧Hid (Ext w wr)) (fun i _=>T-(RowKit.intOf i).toNat)
 case atStart=>exact ⟨0,Nat.zero_le _,rfl,Ext.refl w⟩
 case round =>
  obtain⟨k,hk,rfl,hx⟩:=hrel
  by_cases hlt:k<T
  ·obtain ⟨V,hV⟩:∃ V,l[k]?=some V:=⟨_,List.getElem?_eq_getElem (by have:=hT.out;omega)⟩
   have k0:=hx.out.cell_of (hg.out k V hV)
   have k1:=hx.out.cell_of (hc.out k V hV)
   clear hV
   have hlt':(k:Int)<(T:Int):=by omega
   have j0:=Late.cell k0;have j1:=Late.cell k1
   have hNe1:Nonempty (Late wr):=⟨⟨_,Ext.refl _⟩⟩
   go_wp2_with fail
   refine wp_region_late (by kernel_rfl) (by kernel_rfl) ?_
   repeat (go_big_quiet_step ((first
    | (go_at_call 66;exact late_same (L8.oneI_t _ _)))))
   refine wpQuiet_nil ?_
   intro W1 hw'
   replace hx:Hid (Ext w W1):=hx.out.trans (late_ext hw')
   clear hw' j0 j1 k0 k1
   go_wp2
   go_roundw
   case rel=>exact ⟨k+1,by omega,by go_num,hx⟩
   case measure=>simp [RowKit.intOf];omega
  ·obtain rfl:k=T:=by omega
   go_wp2
   go_ret
   exact⟨rfl,hx.out⟩
theorem PlainI_y (u v:Value)(l:List Int)(w:World)(hl:l.length≤30000)(hu:Slc w u l)(hv:Slc w v l) :
  Calls Tryz.prog 33 #[u,v] w fun e w'=>e=.returned (.bool true)∧Ext w w':=by
 have hS:Hid (Calls Tryz.prog 65 #[u,v,.func (.func 66) #[] #[]] w fun e w'=>e=.returned (.bool true)∧Ext w w'):=by
  rcases hu with ⟨a,c,rfl,_,rfl⟩ | ⟨b,off,c,rfl,hc⟩
  ·rcases hv with ⟨a2,c2,rfl,_,_⟩ | ⟨b2,off2,c2,rfl,_⟩
   ·exact (L8.SameI_nil _ _ _ _ w).mono fun e w' h=>⟨h.1,by rw [h.2];exact Ext.refl _⟩
   ·exact (L8.SameI_nil _ _ _ _ w).mono fun e w' h=>⟨h.1,by rw [h.2];exact Ext.refl _⟩
  ·rcases hv with ⟨a2,c2,rfl,_,rfl⟩ | ⟨b2,off2,c2,rfl,hc2⟩
   ·exact (L8.SameI_nil _ _ _ _ w).mono fun e w' h=>⟨h.1,by rw [h.2];exact Ext.refl _⟩
   ·exact SameI_y b off b2 off2 c2 c l w hl hc hc2
 obtain⟨a1,c1,rfl⟩:=hu.len
 obtain⟨a2,c2,rfl⟩:=hv.len
 clear hu hv hl
 generalize l.length=n at *
 go_enter Tryz.func33,Tryz.ntmps33
 go_wp2_with fail
 refine Calls.mono hS.out ?_
 rintro e w1 ⟨rfl,hx⟩
 replace hx:=hid hx
 go_wp2
 go_ret
 exact⟨rfl,hx.out⟩
theorem SameR_y (g o b off c d:Nat)(l:List (Int×Int))(w:World)(hl:l.length≤30000)(hg:∀ (k:Nat) (x y:Int),l[k]?=some (x,y)→w.cell? ⟨g,o+k * 2,none⟩=some (.int .i64 x)∧w.cell? ⟨g,o+k * 2+1,none⟩=some (.int .i64 y))(hc:∀ (k:Nat) (x y:Int),l[k]?=some (x,y)→w.cell? ⟨b,off+k * 2,none⟩=some (.int .i64 x)∧w.cell? ⟨b,off+k * 2+1,none⟩=some (.int .i64 y)) :
  Calls Tryz.prog 61 #[.slice (some ⟨g,o,none⟩) l.length d,.slice (some ⟨b,off,none⟩) l.length c,.func (.func 62) #[] #[]] w fun e w'=>e=.returned (.bool true)∧Ext w w':=by
 replace hg:=hid hg
 replace hc:=hid hc
 obtain⟨T,hT⟩:∃ n,l.length=n:=⟨_,rfl⟩
 rw [hT] at hl ⊢
 replace hT:=hid hT
 go_enter Tryz.func61,Tryz.ntmps61
 go_wp2_with fail
 go_loopw [7] (fun i wr=>∃ k:Nat,k≤T∧i=.int .i64 k∧Hid (Ext w wr)) (fun i _=>T-(RowKit.intOf i).toNat)
 case atStart=>exact ⟨0,Nat.zero_le _,rfl,Ext.refl w⟩
 case round =>
  obtain⟨k,hk,rfl,hx⟩:=hrel
  by_cases hlt:k<T
  ·obtain ⟨⟨x,y⟩,hV⟩:∃ V,l[k]?=some V:=⟨_,List.getElem?_eq_getElem (by have:=hT.out;omega)⟩
   have k0:=hx.out.cell_of (hg.out k x y hV).1
   have k1:=hx.out.cell_of (hg.out k x y hV).2
   have k2:=hx.out.cell_of (hc.out k x y hV).1
   have k3:=hx.out.cell_of (hc.out k x y hV).2
   clear hV
   have hlt':(k:Int)<(T:Int):=by omega
   have j0:=Late.cell k0;have j1:=Late.cell k1;have j2:=Late.cell k2;have j3:=Late.cell k3
   have hNe1:Nonempty (Late wr):=⟨⟨_,Ext.refl _⟩⟩
   go_wp2_with fail
   refine wp_region_late (by kernel_rfl) (by kernel_rfl) ?_
   repeat (go_big_quiet_step ((first
    | (go_at_call 62;exact late_of (L8.oneR_t _ _ _)))))
   refine wpQuiet_nil ?_
   intro W1 hw'
   replace hx:Hid (Ext w W1):=hx.out.trans (late_ext hw')
   clear hw' j0 j1 j2 j3 k0 k1 k2 k3
   go_wp2
   go_roundw
   case rel=>exact ⟨k+1,by omega,by go_num,hx⟩
   case measure=>simp [RowKit.intOf];omega
  ·obtain rfl:k=T:=by omega
   go_wp2
   go_ret
   exact⟨rfl,hx.out⟩
theorem PlainR_y (u v:Value)(l:List (Int×Int))(w:World)(hl:l.length≤30000)(hu:Slp w u l)(hv:Slp w v l) :
  Calls Tryz.prog 31 #[u,v] w fun e w'=>e=.returned (.bool true)∧Ext w w':=by
 have hS:Hid (Calls Tryz.prog 61 #[u,v,.func (.func 62) #[] #[]] w fun e w'=>e=.returned (.bool true)∧Ext w w'):=by
  rcases hu with ⟨a,c,rfl,_,rfl⟩ | ⟨b,off,c,rfl,hc⟩
  ·rcases hv with ⟨a2,c2,rfl,_,_⟩ | ⟨b2,off2,c2,rfl,_⟩
   ·exact (L8.SameR_nil _ _ _ _ w).mono fun e w' h=>⟨h.1,by rw [h.2];exact Ext.refl _⟩
   ·exact (L8.SameR_nil _ _ _ _ w).mono fun e w' h=>⟨h.1,by rw [h.2];exact Ext.refl _⟩
  ·rcases hv with ⟨a2,c2,rfl,_,rfl⟩ | ⟨b2,off2,c2,rfl,hc2⟩
   ·exact (L8.SameR_nil _ _ _ _ w).mono fun e w' h=>⟨h.1,by rw [h.2];exact Ext.refl _⟩
   ·exact SameR_y b off b2 off2 c2 c l w hl hc hc2
 obtain⟨a1,c1,rfl⟩:=hu.len
 obtain⟨a2,c2,rfl⟩:=hv.len
 clear hu hv hl
 generalize l.length=n at *
 go_enter Tryz.func31,Tryz.ntmps31
 go_wp2_with fail
 refine Calls.mono hS.out ?_
 rintro e w1 ⟨rfl,hx⟩
 replace hx:=hid hx
 go_wp2
 go_ret
 exact⟨rfl,hx.out⟩
theorem SameT_y (g o b off c d:Nat)(l:List (Int×Int))(w:World)(hl:l.length≤30000)(hg:∀ (k:Nat) (x y:Int),l[k]?=some (x,y)→w.cell? ⟨g,o+k * 2,none⟩=some (.int .i64 x)∧w.cell? ⟨g,o+k * 2+1,none⟩=some (.int .i64 y))(hc:∀ (k:Nat) (x y:Int),l[k]?=some (x,y)→w.cell? ⟨b,off+k * 2,none⟩=some (.int .i64 x)∧w.cell? ⟨b,off+k * 2+1,none⟩=some (.int .i64 y)) :
  Calls Tryz.prog 63 #[.slice (some ⟨g,o,none⟩) l.length d,.slice (some ⟨b,off,none⟩) l.length c,.func (.func 64) #[] #[]] w fun e w'=>e=.returned (.bool true)∧Ext w w':=by
 replace hg:=hid hg
 replace hc:=hid hc
 obtain⟨T,hT⟩:∃ n,l.length=n:=⟨_,rfl⟩
 rw [hT] at hl ⊢
 replace hT:=hid hT
 go_enter Tryz.func63,Tryz.ntmps63
 go_wp2_with fail
 go_loopw [7] (fun i wr=>∃ k:Nat,k≤T∧i=.int .i64 k∧Hid (Ext w wr)) (fun i _=>T-(RowKit.intOf i).toNat)
 case atStart=>exact ⟨0,Nat.zero_le _,rfl,Ext.refl w⟩
 case round =>
  obtain⟨k,hk,rfl,hx⟩:=hrel
  by_cases hlt:k<T
  ·obtain ⟨⟨x,y⟩,hV⟩:∃ V,l[k]?=some V:=⟨_,List.getElem?_eq_getElem (by have:=hT.out;omega)⟩
   have k0:=hx.out.cell_of (hg.out k x y hV).1
   have k1:=hx.out.cell_of (hg.out k x y hV).2
   have k2:=hx.out.cell_of (hc.out k x y hV).1
   have k3:=hx.out.cell_of (hc.out k x y hV).2
   clear hV
   have hlt':(k:Int)<(T:Int):=by omega
   have j0:=Late.cell k0;have j1:=Late.cell k1;have j2:=Late.cell k2;have j3:=Late.cell k3
   have hNe1:Nonempty (Late wr):=⟨⟨_,Ext.refl _⟩⟩
   go_wp2_with fail
   refine wp_region_late (by kernel_rfl) (by kernel_rfl) ?_
   repeat (go_big_quiet_step ((first
    | (go_at_call 64;exact late_of (L8.oneT_t _ _ _)))))
   refine wpQuiet_nil ?_
   intro W1 hw'
   replace hx:Hid (Ext w W1):=hx.out.trans (late_ext hw')
   clear hw' j0 j1 j2 j3 k0 k1 k2 k3
   go_wp2
   go_roundw
   case rel=>exact ⟨k+1,by omega,by go_num,hx⟩
   case measure=>simp [RowKit.intOf];omega
  ·obtain rfl:k=T:=by omega
   go_wp2
   go_ret
   exact⟨rfl,hx.out⟩
theorem PlainT_y (u v:Value)(l:List (Int×Int))(w:World)(hl:l.length≤30000)(hu:Slp w u l)(hv:Slp w v l) :
  Calls Tryz.prog 32 #[u,v] w fun e w'=>e=.returned (.bool true)∧Ext w w':=by
 have hS:Hid (Calls Tryz.prog 63 #[u,v,.func (.func 64) #[] #[]] w fun e w'=>e=.returned (.bool true)∧Ext w w'):=by
  rcases hu with ⟨a,c,rfl,_,rfl⟩ | ⟨b,off,c,rfl,hc⟩
  ·rcases hv with ⟨a2,c2,rfl,_,_⟩ | ⟨b2,off2,c2,rfl,_⟩
   ·exact (L8.SameT_nil _ _ _ _ w).mono fun e w' h=>⟨h.1,by rw [h.2];exact Ext.refl _⟩
   ·exact (L8.SameT_nil _ _ _ _ w).mono fun e w' h=>⟨h.1,by rw [h.2];exact Ext.refl _⟩
  ·rcases hv with ⟨a2,c2,rfl,_,rfl⟩ | ⟨b2,off2,c2,rfl,hc2⟩
   ·exact (L8.SameT_nil _ _ _ _ w).mono fun e w' h=>⟨h.1,by rw [h.2];exact Ext.refl _⟩
   ·exact SameT_y b off b2 off2 c2 c l w hl hc hc2
 obtain⟨a1,c1,rfl⟩:=hu.len
 obtain⟨a2,c2,rfl⟩:=hv.len
 clear hu hv hl
 generalize l.length=n at *
 go_enter Tryz.func32,Tryz.ntmps32
 go_wp2_with fail
 refine Calls.mono hS.out ?_
 rintro e w1 ⟨rfl,hx⟩
 replace hx:=hid hx
 go_wp2
 go_ret
 exact⟨rfl,hx.out⟩
end Go.Proofs.YtcijdkbopiaicaaGreatDoor
namespace Go.Proofs.YtcijdkbopiaicaaGreatDoor.L7
open Go.RowKit
def closer (c:UInt8):Bool:=blankL.contains c||sgnL.contains c
end Go.Proofs.YtcijdkbopiaicaaGreatDoor.L7
namespace Go.Proofs.YtcijdkbopiaicaaGreatDoor
open Go.RowKit Go.Lib
theorem dig_isD {c:UInt8}(h:L2.isD c=true):L7.digL.contains c=true:=(L2.digs_contains c).trans h
theorem kd_digit {c:UInt8}{m:List UInt8}(h:L2.isD c=true):L7.kd (c::m)=2:=by
 have hd:=dig_isD h
 have hl:L7.letL.contains c=false:=by
  have:=L7.byte_all (fun c=>!L7.digL.contains c||!L7.letL.contains c) (by decide +kernel) c
  rw [hd] at this
  simpa using this
 rw [L7.kd_cons,hl,hd]
 rfl
theorem kd_hy {c:UInt8}{m:List UInt8}(h:L2.isD c=true):L7.kd (45::c::m)=2:=by
 rw [L7.kd_cons,L7.hy_let,L7.hy_dig,L7.beg_cons,dig_isD h]
 rfl
theorem kd_signed (v:Int)(d rest:List UInt8)(hne:d≠[])(hd:d.all L2.isD=true):L7.kd (L2.signL v++(d++rest))=2:=by
 cases d with
 | nil=>exact absurd rfl hne
 | cons c m =>
  have hc:L2.isD c=true:=by
   have:=List.all_eq_true.1 hd c (by simp)
   exact this
  unfold L2.signL
  split
  ·exact kd_hy hc
  ·exact kd_digit hc
theorem num_kd {l:List UInt8}{v:Int}(h:numO l=some v):L7.kd l=2:=by
 unfold numO at h
 split at h
 ·rename_i hw
  obtain⟨_,h2,h3,_⟩:=L2.okWhole_spec l 9 hw
  cases l with
  | nil=>exact absurd rfl h2
  | cons c m=>exact kd_digit (List.all_eq_true.1 h3 c (by simp))
 ·cases h
theorem rate_kd {l:List UInt8}{v:Int}(h:rateO l=some v):L7.kd l=2:=by
 unfold rateO at h
 split at h
 ·rename_i h2
  have:=(L2.rate_take l (L2.takeR l).1 (Prod.ext rfl h2)).1
  rw [←this]
  exact kd_signed _ _ _ (L2.decDigits_ne _) (L2.decDigits_all _)
 ·cases h
theorem mon_kd {l:List UInt8}{v:Int}(h:monO l=some v):L7.kd l=2:=by
 unfold monO at h
 split at h
 ·rename_i h2
  have:=L2.money_take l (L2.takeM l).1 (Prod.ext rfl h2)
  rw [←this]
  exact kd_signed _ _ _ (L2.decDigits_ne _) (L2.decDigits_all _)
 ·cases h
theorem day_kd {l:List UInt8}{v:Int}(h:dayO l=some v):L7.kd l=2:=by
 unfold dayO at h
 split at h
 ·rename_i h2
  unfold L3.takE at h2
  split at h2
  ·rename_i hf
   unfold L3.formL at hf
   simp only [Bool.and_eq_true,decide_eq_true_eq] at hf
   have h0:=List.all_eq_true.1 hf.2 0 (by decide)
   cases l with
   | nil=>simp at hf
   | cons c m =>
    have hc:L3.isD c=true:=by simpa [L3.okAt] using h0
    exact kd_digit (c:=c) hc
  ·cases h2
 ·cases h
def Kin (t:Tok):Prop:=t.kind=L7.kd t.text
theorem lexF_kin:∀ (f p:Nat) (l:List UInt8),∀ t∈(L7.lexF f p l).1,Kin t∧t.text≠[]
 | 0,p,l=>by simp [L7.lexF]
 | f+1,p,l=>by
  rw [L7.lexF]
  cases hm:l.drop (L7.wh false l) with
  | nil=>simp
  | cons c m =>
   simp only []
   split
   ·simp
   ·rename_i hs
    intro t ht
    rcases List.mem_cons.1 ht with rfl | ht
    ·refine ⟨?_,?_⟩
     ·show L7.kd (c::m)=L7.kd ((c::m).take (L7.sz (c::m)))
      obtain⟨k,hk⟩:∃ k,L7.sz (c::m)=k+1:=⟨L7.sz (c::m)-1,by omega⟩
      rw [hk,List.take_succ_cons]
      have:=(L7.cut_cons (c:=c) (m:=m) (r:=[]) (k:=k) (by omega) L7.stops_nil).2
      rw [List.append_nil] at this
      exact this.symm
     ·show (c::m).take (L7.sz (c::m))≠[]
      obtain⟨k,hk⟩:∃ k,L7.sz (c::m)=k+1:=⟨L7.sz (c::m)-1,by omega⟩
      rw [hk,List.take_succ_cons]
      simp
    ·exact lexF_kin f _ _ t ht
theorem aT_kin {l:List UInt8}:∀ t∈L7.aT l,Kin t:=by
 intro t ht
 unfold L7.aT at ht
 split at ht
 ·cases ht
 ·split at ht
  ·cases ht
  ·rcases List.mem_append.1 ht with ht | ht
   ·exact (lexF_kin _ _ _ t ht).1
   ·obtain rfl:t=⟨0,l.length,[]⟩:=by simpa using ht
    rfl
theorem kin_none {f:List UInt8→Option Int}(hf:∀ {l v},f l=some v→L7.kd l=2){t:Tok}(hk:Kin t)(h2:t.kind≠2):f t.text=none:=by
 cases h:f t.text with
 | none=>rfl
 | some v=>exact absurd (hk.trans (hf h)) h2
theorem nmb_kd {l:List UInt8}(h:L8.nmb l=true):L7.kd l=1:=by
 unfold L8.nmb at h
 cases l with
 | nil=>simp [L8.lz] at h
 | cons c m =>
  have hc:L8.headB (c::m)=true:=by
   simp only [Bool.and_eq_true] at h
   exact h.2.1
  have hl:L7.letL.contains c=true:=by
   have:=L7.byte_all (fun c=>!L8.headB [c]||L7.letL.contains c) (by decide +kernel) c
   have e:L8.headB [c]=L8.headB (c::m):=rfl
   rw [e,hc] at this
   simpa using this
  rw [L7.kd_cons,hl]
  rfl
def homeL:List UInt8:=[104,111,109,101]
def awkL:List UInt8:=[112,114,111,100,117,99,116,32,104,111,109,101,32,123,32,99,111,117,110,116,32,102,105,120,101,100,59,32,114,111,117,110,100,32,104,97,108,102,45,117,112,59,32,107,105,110,100,32,97,110,110,117,105,116,121,59,32,101,118,101,114,121,32,49,59,32,116,105,109,101,115,32,49,50,59,32,114,97,116,101,32,54,37,59,32,111,114,100,101,114,32,102,101,101,115,32,112,101,110,97,108,116,121,32,105,110,116,101,114,101,115,116,32,112,114,105,110,99,105,112,97,108,59,32,125]
def awkP:Prd:=⟨homeL,2,1,1,1,12,0,60000000,[],0,1,2,3,4,1,[],0,1,[]⟩
theorem awk_prs:prs awkL=.ok awkP:=by kernel_rfl
theorem nil_prs:prs []=.no 7 0:=by kernel_rfl
theorem lay2 (w:World)(cs ds:Array Value)(m n:TypeId):∃ W1 W2 b,w.alloc (.cells cs m)=W1∧w.heap.size=b∧W1.alloc (.cells ds n)=W2∧W1.heap.size=b+1∧Ext w W2∧W2.heap[b]?=some (.cells cs m (0,0))∧W2.heap[b+1]?=some (.cells ds n (0,0)):=by
 have hs:(w.alloc (.cells cs m)).heap.size=w.heap.size+1:=by simp
 refine⟨_,_,_,rfl,rfl,rfl,hs,((Ext.refl w).alloc _ _).alloc _ _,?_,?_⟩
 ·have hx:Ext (w.alloc (.cells cs m)) ((w.alloc (.cells cs m)).alloc (.cells ds n)):=(Ext.refl _).alloc _ _
  rw [hx.below.block _ (by rw [hs];omega)]
  exact heap_alloc_last w _
 ·rw [←hs]
  exact heap_alloc_last _ _
theorem eql4 (a b c d:Int)(w:World):(binOp .eql 23 (.agg #[.int .i64 a,.int .i64 b,.int .i64 c,.int .i64 d]) (.agg #[.int .i64 a,.int .i64 b,.int .i64 c,.int .i64 d])).run Tryz.prog w=.ok (.bool true) w:=by
 have h0:∀ (e:Nat) (x:Int),(Op.equalIn (e+1) 3 (.int .i64 x) (.int .i64 x)).run Tryz.prog w=.ok true w:=fun e x=>by simp [Op.equalIn,run_underlying Tryz.underlying3]
 have h1:∀ (x:Int),(Op.equalIn 9999 3 (.int .i64 x) (.int .i64 x)).run Tryz.prog w=.ok true w:=fun x=>h0 9998 x
 have h2:Tryz.prog.underlying 23=some (.array 4 3):=Tryz.underlying23
 have h3:(sizeOf 3).run Tryz.prog w=.ok 1 w:=by kernel_rfl
 have p0:(part 3 #[.int .i64 a,.int .i64 b,.int .i64 c,.int .i64 d] 0).run Tryz.prog w=.ok (.int .i64 a) w:=by kernel_rfl
 have p1:(part 3 #[.int .i64 a,.int .i64 b,.int .i64 c,.int .i64 d] 1).run Tryz.prog w=.ok (.int .i64 b) w:=by kernel_rfl
 have p2:(part 3 #[.int .i64 a,.int .i64 b,.int .i64 c,.int .i64 d] 2).run Tryz.prog w=.ok (.int .i64 c) w:=by kernel_rfl
 have p3:(part 3 #[.int .i64 a,.int .i64 b,.int .i64 c,.int .i64 d] 3).run Tryz.prog w=.ok (.int .i64 d) w:=by kernel_rfl
 simp only [binOp]
 have h4:(Op.equalIn (9999+1) 23 (.agg #[.int .i64 a,.int .i64 b,.int .i64 c,.int .i64 d]) (.agg #[.int .i64 a,.int .i64 b,.int .i64 c,.int .i64 d])).run Tryz.prog w=.ok true w:=by
  rw [Op.equalIn]
  simp [run_underlying h2,h3,List.range',p0,p1,p2,p3,h1]
 simp [Op.equal,Op.maxDepth,h4]
theorem keep19 {w w':World}{b:Nat}{cs:Array Value}{m:TypeId}(h:w.heap[b]?=some (.cells cs m (0,0)))(hx:Ext w w'):w'.heap[b]?=some (.cells cs m (0,0)):=by
 rw [hx.below.block b (Array.getElem?_eq_some_iff.1 h).1];exact h
theorem Prod_v (nm:List UInt8)(cn rd kd ev tm gr rt pn o0 o1 o2 o3 ov cp rl:Int)(rs lt:List (Int×Int))(hd:List Int)(vr vl vh ur ul uh:Value)(w:World)(hn:rs.length≤30000∧lt.length≤30000∧hd.length≤30000)(s1:L8.Slp w vr rs)(s2:L8.Slp w vl lt)(s3:L8.Slc w vh hd)(s4:L8.Slp w ur rs)(s5:L8.Slp w ul lt)(s6:L8.Slc w uh hd)
  (hb1:∀ W:World,(Instr.box 27 (.agg #[.string ⟨nm.toArray⟩,.int .i64 cn,.int .i64 rd,.int .i64 kd,.int .i64 ev,.int .i64 tm,.int .i64 gr,.int .i64 rt,vr,.int .i64 pn,.int .i64 o0,.int .i64 o1,.int .i64 o2,.int .i64 o3,.int .i64 ov,vl,.int .i64 cp,.int .i64 rl,vh])).run Tryz.prog W=.ok (.pointer (some ⟨W.heap.size,0,none⟩)) (W.alloc (.cells #[.string ⟨nm.toArray⟩,.int .i64 cn,.int .i64 rd,.int .i64 kd,.int .i64 ev,.int .i64 tm,.int .i64 gr,.int .i64 rt,vr,.int .i64 pn,.int .i64 o0,.int .i64 o1,.int .i64 o2,.int .i64 o3,.int .i64 ov,vl,.int .i64 cp,.int .i64 rl,vh] 27)))
  (hb2:∀ W:World,(Instr.box 27 (.agg #[.string ⟨nm.toArray⟩,.int .i64 cn,.int .i64 rd,.int .i64 kd,.int .i64 ev,.int .i64 tm,.int .i64 gr,.int .i64 rt,ur,.int .i64 pn,.int .i64 o0,.int .i64 o1,.int .i64 o2,.int .i64 o3,.int .i64 ov,ul,.int .i64 cp,.int .i64 rl,uh])).run Tryz.prog W=.ok (.pointer (some ⟨W.heap.size,0,none⟩)) (W.alloc (.cells #[.string ⟨nm.toArray⟩,.int .i64 cn,.int .i64 rd,.int .i64 kd,.int .i64 ev,.int .i64 tm,.int .i64 gr,.int .i64 rt,ur,.int .i64 pn,.int .i64 o0,.int .i64 o1,.int .i64 o2,.int .i64 o3,.int .i64 ov,ul,.int .i64 cp,.int .i64 rl,uh] 27))) :
  Calls Tryz.prog 9 #[.agg #[.string ⟨nm.toArray⟩,.int .i64 cn,.int .i64 rd,.int .i64 kd,.int .i64 ev,.int .i64 tm,.int .i64 gr,.int .i64 rt,vr,.int .i64 pn,.int .i64 o0,.int .i64 o1,.int .i64 o2,.int .i64 o3,.int .i64 ov,vl,.int .i64 cp,.int .i64 rl,vh],.agg #[.string ⟨nm.toArray⟩,.int .i64 cn,.int .i64 rd,.int .i64 kd,.int .i64 ev,.int .i64 tm,.int .i64 gr,.int .i64 rt,ur,.int .i64 pn,.int .i64 o0,.int .i64 o1,.int .i64 o2,.int .i64 o3,.int .i64 ov,ul,.int .i64 cp,.int .i64 rl,uh]] w fun e w'=>e=.returned (.bool true)∧Ext w w':=by
 obtain⟨W1,W2,b,hW1,hb,hW2,hsz,hx,B1,B2⟩:=lay2 w #[.string ⟨nm.toArray⟩,.int .i64 cn,.int .i64 rd,.int .i64 kd,.int .i64 ev,.int .i64 tm,.int .i64 gr,.int .i64 rt,vr,.int .i64 pn,.int .i64 o0,.int .i64 o1,.int .i64 o2,.int .i64 o3,.int .i64 ov,vl,.int .i64 cp,.int .i64 rl,vh] #[.string ⟨nm.toArray⟩,.int .i64 cn,.int .i64 rd,.int .i64 kd,.int .i64 ev,.int .i64 tm,.int .i64 gr,.int .i64 rt,ur,.int .i64 pn,.int .i64 o0,.int .i64 o1,.int .i64 o2,.int .i64 o3,.int .i64 ov,ul,.int .i64 cp,.int .i64 rl,uh] 27 27
 have hR:Hid (∀ W,Ext W2 W→Calls Tryz.prog 31 #[vr,ur] W fun e w'=>e=.returned (.bool true)∧Ext W w'):=fun W hW=>PlainR_y vr ur rs W hn.1 (s1.ext (hx.trans hW)) (s4.ext (hx.trans hW))
 have hT:Hid (∀ W,Ext W2 W→Calls Tryz.prog 32 #[vl,ul] W fun e w'=>e=.returned (.bool true)∧Ext W w'):=fun W hW=>PlainT_y vl ul lt W hn.2.1 (s2.ext (hx.trans hW)) (s5.ext (hx.trans hW))
 have hI:Hid (∀ W,Ext W2 W→Calls Tryz.prog 33 #[vh,uh] W fun e w'=>e=.returned (.bool true)∧Ext W w'):=fun W hW=>PlainI_y vh uh hd W hn.2.2 (s3.ext (hx.trans hW)) (s6.ext (hx.trans hW))
 clear s1 s2 s3 s4 s5 s6 hn
 replace hx:=hid hx
 have hL:=show Hid (Ext W2 W2) from Ext.refl W2
 replace B1:=hid B1
 replace B2:=hid B2
 have j0:=(cell_of_row W2 b 0 _ _ _ B1.out).trans (show _=some (.string ⟨nm.toArray⟩) from rfl)
 have i0:=(cell_of_row W2 (b+1) 0 _ _ _ B2.out).trans (show _=some (.string ⟨nm.toArray⟩) from rfl)
 have j1:=(cell_of_row W2 b 1 _ _ _ B1.out).trans (show _=some (.int .i64 cn) from rfl)
 have i1:=(cell_of_row W2 (b+1) 1 _ _ _ B2.out).trans (show _=some (.int .i64 cn) from rfl)
 have j2:=(cell_of_row W2 b 2 _ _ _ B1.out).trans (show _=some (.int .i64 rd) from rfl)
 have i2:=(cell_of_row W2 (b+1) 2 _ _ _ B2.out).trans (show _=some (.int .i64 rd) from rfl)
 have j3:=(cell_of_row W2 b 3 _ _ _ B1.out).trans (show _=some (.int .i64 kd) from rfl)
 have i3:=(cell_of_row W2 (b+1) 3 _ _ _ B2.out).trans (show _=some (.int .i64 kd) from rfl)
 have j4:=(cell_of_row W2 b 4 _ _ _ B1.out).trans (show _=some (.int .i64 ev) from rfl)
 have i4:=(cell_of_row W2 (b+1) 4 _ _ _ B2.out).trans (show _=some (.int .i64 ev) from rfl)
 have j5:=(cell_of_row W2 b 5 _ _ _ B1.out).trans (show _=some (.int .i64 tm) from rfl)
 have i5:=(cell_of_row W2 (b+1) 5 _ _ _ B2.out).trans (show _=some (.int .i64 tm) from rfl)
 have j6:=(cell_of_row W2 b 6 _ _ _ B1.out).trans (show _=some (.int .i64 gr) from rfl)
 have i6:=(cell_of_row W2 (b+1) 6 _ _ _ B2.out).trans (show _=some (.int .i64 gr) from rfl)
 have j7:=(cell_of_row W2 b 7 _ _ _ B1.out).trans (show _=some (.int .i64 rt) from rfl)
 have i7:=(cell_of_row W2 (b+1) 7 _ _ _ B2.out).trans (show _=some (.int .i64 rt) from rfl)
 have j8:=(cell_of_row W2 b 8 _ _ _ B1.out).trans (show _=some (vr) from rfl)
 have i8:=(cell_of_row W2 (b+1) 8 _ _ _ B2.out).trans (show _=some (ur) from rfl)
 go_enter Tryz.func9,Tryz.ntmps9
 go_upto_region 1 with fail
 clear hW1 hW2 hsz hb1 hb2
 have hq4:=eql4 o0 o1 o2 o3
 go_wp2_with fail
 refine Calls.mono (hR.out _ hL.out) ?_
 rintro e w3 ⟨rfl,hx1⟩
 replace hL:=show Hid (Ext W2 w3) from hL.out.trans hx1
 replace hx:=hid <| hx.out.trans hx1
 replace B1:=hid <| keep19 B1.out hx1
 replace B2:=hid <| keep19 B2.out hx1
 clear hx1
 clear j0 i0 j1 i1 j2 i2 j3 i3 j4 i4 j5 i5 j6 i6 j7 i7 j8 i8
 have j9:=(cell_of_row w3 b 9 _ _ _ B1.out).trans (show _=some (.int .i64 pn) from rfl)
 have i9:=(cell_of_row w3 (b+1) 9 _ _ _ B2.out).trans (show _=some (.int .i64 pn) from rfl)
 have j10:=(cell_of_row w3 b 10 _ _ _ B1.out).trans (show _=some (.int .i64 o0) from rfl)
 have i10:=(cell_of_row w3 (b+1) 10 _ _ _ B2.out).trans (show _=some (.int .i64 o0) from rfl)
 have j11:=(cell_of_row w3 b 11 _ _ _ B1.out).trans (show _=some (.int .i64 o1) from rfl)
 have i11:=(cell_of_row w3 (b+1) 11 _ _ _ B2.out).trans (show _=some (.int .i64 o1) from rfl)
 have j12:=(cell_of_row w3 b 12 _ _ _ B1.out).trans (show _=some (.int .i64 o2) from rfl)
 have i12:=(cell_of_row w3 (b+1) 12 _ _ _ B2.out).trans (show _=some (.int .i64 o2) from rfl)
 have j13:=(cell_of_row w3 b 13 _ _ _ B1.out).trans (show _=some (.int .i64 o3) from rfl)
 have i13:=(cell_of_row w3 (b+1) 13 _ _ _ B2.out).trans (show _=some (.int .i64 o3) from rfl)
 have j14:=(cell_of_row w3 b 14 _ _ _ B1.out).trans (show _=some (.int .i64 ov) from rfl)
 have i14:=(cell_of_row w3 (b+1) 14 _ _ _ B2.out).trans (show _=some (.int .i64 ov) from rfl)
 have j15:=(cell_of_row w3 b 15 _ _ _ B1.out).trans (show _=some (vl) from rfl)
 have i15:=(cell_of_row w3 (b+1) 15 _ _ _ B2.out).trans (show _=some (ul) from rfl)
 go_wp2_with fail
 refine Calls.mono (hT.out _ hL.out) ?_
 rintro e w4 ⟨rfl,hx1⟩
 replace hL:=show Hid (Ext W2 w4) from hL.out.trans hx1
 replace hx:=hid <| hx.out.trans hx1
 replace B1:=hid <| keep19 B1.out hx1
 replace B2:=hid <| keep19 B2.out hx1
 clear hx1
 clear j9 i9 j10 i10 j11 i11 j12 i12 j13 i13 j14 i14 j15 i15
 have j16:=(cell_of_row w4 b 16 _ _ _ B1.out).trans (show _=some (.int .i64 cp) from rfl)
 have i16:=(cell_of_row w4 (b+1) 16 _ _ _ B2.out).trans (show _=some (.int .i64 cp) from rfl)
 have j17:=(cell_of_row w4 b 17 _ _ _ B1.out).trans (show _=some (.int .i64 rl) from rfl)
 have i17:=(cell_of_row w4 (b+1) 17 _ _ _ B2.out).trans (show _=some (.int .i64 rl) from rfl)
 have j18:=(cell_of_row w4 b 18 _ _ _ B1.out).trans (show _=some (vh) from rfl)
 have i18:=(cell_of_row w4 (b+1) 18 _ _ _ B2.out).trans (show _=some (uh) from rfl)
 go_wp2_with fail
 refine Calls.mono (hI.out _ hL.out) ?_
 rintro e w5 ⟨rfl,hx1⟩
 replace hL:=show Hid (Ext W2 w5) from hL.out.trans hx1
 replace hx:=hid <| hx.out.trans hx1
 replace B1:=hid <| keep19 B1.out hx1
 replace B2:=hid <| keep19 B2.out hx1
 clear hx1
 clear j16 i16 j17 i17 j18 i18
 go_wp2
 go_ret
 exact⟨rfl,hx.out⟩
theorem box_prod (p:Prd)(vr vl vh:Value)(h1:(pcells p vr vl vh).all (·.oneCell')=true):∀ W:World,(Instr.box 27 (.agg (pcells p vr vl vh))).run Tryz.prog W=.ok (.pointer (some ⟨W.heap.size,0,none⟩)) (W.alloc (.cells (pcells p vr vl vh) 27)):=(flat_of (cs:=pcells p vr vl vh) rfl h1).box
theorem pcells_slp {w:World}{p:Prd}{vr vl vh:Value}(s1:L8.Slp w vr p.rs)(s2:L8.Slp w vl p.lt)(s3:L8.Slc w vh p.hd):(pcells p vr vl vh).all (·.oneCell')=true:=by
 obtain⟨a1,c1,rfl⟩:=s1.len
 obtain⟨a2,c2,rfl⟩:=s2.len
 obtain⟨a3,c3,rfl⟩:=s3.len
 simp [pcells,Value.oneCell']
theorem Prod_c (p:Prd)(vr vl vh ur ul uh:Value)(w:World)(hn:p.rs.length≤30000∧p.lt.length≤30000∧p.hd.length≤30000)(s1:L8.Slp w vr p.rs)(s2:L8.Slp w vl p.lt)(s3:L8.Slc w vh p.hd)(s4:L8.Slp w ur p.rs)(s5:L8.Slp w ul p.lt)(s6:L8.Slc w uh p.hd) :
  Calls Tryz.prog 9 #[.agg (pcells p vr vl vh),.agg (pcells p ur ul uh)] w fun e w'=>e=.returned (.bool true)∧Ext w w' :=
 Prod_v p.nm p.cn p.rd p.kd p.ev p.tm p.gr p.rt p.pn p.o0 p.o1 p.o2 p.o3 p.ov p.cp p.rl p.rs p.lt p.hd vr vl vh ur ul uh w hn s1 s2 s3 s4 s5 s6 (box_prod p vr vl vh (pcells_slp s1 s2 s3)) (box_prod p ur ul uh (pcells_slp s4 s5 s6))
theorem Prod_z (w:World):Calls Tryz.prog 9 #[.agg zP,.agg zP] w fun e w'=>e=.returned (.bool true)∧Ext w w':=by
 have hr:∀ {W:World},L8.Slp W (.slice none 0 0) []:=fun {W}=>Or.inl ⟨none,0,rfl,fun _=>rfl,rfl⟩
 have hh:L8.Slc w (.slice none 0 0) []:=Or.inl ⟨none,0,rfl,fun _=>rfl,rfl⟩
 exact Prod_c prdZ (.slice none 0 0) (.slice none 0 0) (.slice none 0 0) (.slice none 0 0) (.slice none 0 0) (.slice none 0 0) w ⟨Nat.zero_le _,Nat.zero_le _,Nat.zero_le _⟩ hr hr hh hr hr hh
theorem layZ (w:World):∃ W b,w.alloc (.cells #[.string ⟨#[]⟩,.int .i64 0,.int .i64 0,.int .i64 0,.int .i64 0,.int .i64 0,.int .i64 0,.int .i64 0,.slice none 0 0,.int .i64 0,.int .i64 0,.int .i64 0,.int .i64 0,.int .i64 0,.int .i64 0,.slice none 0 0,.int .i64 0,.int .i64 0,.slice none 0 0] 27)=W∧w.heap.size=b∧Ext w W∧Blk W b zP:=⟨_,_,rfl,rfl,(Ext.refl w).alloc _ _,heap_alloc_last w _⟩
theorem text_w (w:World):Calls Tryz.prog 17 #[] w fun e w'=>e=.returned (.string ⟨awkL.toArray⟩)∧w'=w:=by
 unfold awkL
 go_enter Tryz.func17,Tryz.ntmps17
 go_wp2
 go_ret
 exact⟨rfl,rfl⟩
theorem awake_c (w:World)(he:Hid (Env w)):Calls Tryz.prog 6 #[] w fun e w'=>e=.returned (.bool true)∧Ext w w':=by
 go_enter Tryz.func6,Tryz.ntmps6
 go_wp2_with fail
 refine (text_w _).mono ?_
 rintro e w ⟨rfl,rfl⟩
 go_wp2_with fail
 refine (Parse_c awkL _ (by decide) he).mono ?_
 rintro e w1 ⟨hx,hA⟩
 rw [awk_prs] at hA
 obtain⟨vr,vl,vh,rfl,hL⟩:=hA
 obtain⟨W2,b,hW2,hb,hx2,hB2⟩:=layZ w1
 have hsz:(pcells awkP vr vl vh).size=19:=rfl
 have hone:=pcells_one (p:=awkP) hL.sr hL.sl hL.sh
 have hlo:w.heap.size≤b:=by rw [←hb];exact hx.size
 clear hL
 replace hx:=hid <| hx.trans hx2
 go_wp2_with (refine store27 hB2 rfl hsz hone rfl rfl rfl rfl ?_)
 intro W3 hB3 hx3
 replace hx:Hid (Ext w W3):=hx3.ext hx.out hlo
 replace he:Hid (Env W3):=he.out.ext hx.out
 have c0:=(cell_of_row W3 b 0 _ _ _ hB3).trans (show _=some (.string ⟨#[104,111,109,101]⟩) from rfl)
 have c5:=(cell_of_row W3 b 5 _ _ _ hB3).trans (show _=some (.int .i64 12) from rfl)
 have c14:=(cell_of_row W3 b 14 _ _ _ hB3).trans (show _=some (.int .i64 1) from rfl)
 clear hW2 hb hx2 hB2 hx3 hB3 hsz hone hlo
 go_wp2_with fail
 refine (Parse_c [] _ (by decide) he).mono ?_
 rintro e w4 ⟨hx4,hA⟩
 rw [nil_prs] at hA
 obtain rfl:e=.returned (.tuple #[.agg zP,.int .i64 0,.int .i64 7]):=hA
 obtain⟨W5,d,hW5,hd,hx5,hB5⟩:=layZ w4
 have hlo:w.heap.size≤d:=by rw [←hd];exact (hx.out.trans hx4).size
 have hsz:=zP_ok.1
 have hone:=zP_ok.2
 replace c0:=hx4.cell_of c0
 replace c5:=hx4.cell_of c5
 replace c14:=hx4.cell_of c14
 have hbd:b≠d:=by have:=lt_of_cell c0;omega
 replace c0:=hx5.cell_of c0
 replace c5:=hx5.cell_of c5
 replace c14:=hx5.cell_of c14
 replace hx:=hid <| (hx.out.trans hx4).trans hx5
 clear hx4
 go_wp2_with (refine store27 hB5 rfl hsz hone rfl rfl rfl rfl ?_)
 intro W6 hB6 hx6
 replace hx:Hid (Ext w W6):=hx6.ext hx.out hlo
 replace c0:=hx6.cell_of hbd c0
 replace c5:=hx6.cell_of hbd c5
 replace c14:=hx6.cell_of hbd c14
 clear hW5 hd hx5 hB5 hB6 hx6 hsz hone hlo he
 go_wp2
 go_ret
 exact⟨rfl,hx.out⟩
structure Dst where
 i:Nat
 p:Prd
 had:List (List UInt8)
 e:Nat
 a:Nat
def strV (l:List UInt8):Value:=.string ⟨l.toArray⟩
def dcells (vt:Value)(s:Dst)(vr vl vh vd:Value):Array Value:=#[vt,.int .i64 s.i,.string ⟨s.p.nm.toArray⟩,.int .i64 s.p.cn,.int .i64 s.p.rd,.int .i64 s.p.kd,.int .i64 s.p.ev,.int .i64 s.p.tm,.int .i64 s.p.gr,.int .i64 s.p.rt,vr,.int .i64 s.p.pn,.int .i64 s.p.o0,.int .i64 s.p.o1,.int .i64 s.p.o2,.int .i64 s.p.o3,.int .i64 s.p.ov,vl,.int .i64 s.p.cp,.int .i64 s.p.rl,vh,vd,.int .i64 s.e,.int .i64 s.a]
structure Dn (T:List Tok)(w0 w:World)(r:Nat)(vr vl vh vd:Value)(s:Dst):Prop where
 ext:Ext w0 w
 lo:w0.heap.size≤r
 row:∃ vt,w.heap[r]?=some (.cells (dcells vt s vr vl vh vd) 61 (0,0))∧Tks w0 vt T
 sr:w.ownsRow w0.heap.size 45 2 vr s.p.rs.length (cellsP s.p.rs)
 sl:w.ownsRow w0.heap.size 47 2 vl s.p.lt.length (cellsP s.p.lt)
 sh:w.ownsRow w0.heap.size 3 1 vh s.p.hd.length (s.p.hd.map (.int .i64))
 sd:w.ownsRow w0.heap.size 9 1 vd s.had.length (s.had.map strV)
theorem Dn.lt {T:List Tok}{w0 w:World}{r:Nat}{vr vl vh vd:Value}{s:Dst}(h:Dn T w0 w r vr vl vh vd s):r<w.heap.size:=by
 obtain⟨vt,hr,_⟩:=h.row
 exact (Array.getElem?_eq_some_iff.1 hr).1
theorem Dn.move {T:List Tok}{w0 w w':World}{r:Nat}{vr vl vh vd:Value}{s s':Dst}(h:Dn T w0 w r vr vl vh vd s)(hx:Exr r w w')(h1:s'.p.rs=s.p.rs)(h2:s'.p.lt=s.p.lt)(h3:s'.p.hd=s.p.hd)(h4:s'.had=s.had)
  (hr:∃ vt,w'.heap[r]?=some (.cells (dcells vt s' vr vl vh vd) 61 (0,0))∧Tks w0 vt T):Dn T w0 w' r vr vl vh vd s':=by
 obtain⟨vt,hr0,_⟩:=h.row
 have hkeep:∀ (e:TypeId),e≠61→∀ (k:Nat) (cur:Array Value),w.heap[k]?=some (Obj.cells cur e (0,0))→w'.heap[k]?=w.heap[k]?:=fun e he k cur hk=>hx.block k (Array.getElem?_eq_some_iff.1 hk).1 (by
  rintro rfl
  have:=hk.symm.trans hr0
  simp at this
  exact he this.2)
 refine⟨hx.ext h.ext h.lo,h.lo,hr,?_,?_,?_,?_⟩
 ·rw [h1];exact own_keep h.sr (hkeep _ (by decide))
 ·rw [h2];exact own_keep h.sl (hkeep _ (by decide))
 ·rw [h3];exact own_keep h.sh (hkeep _ (by decide))
 ·rw [h4];exact own_keep h.sd (hkeep _ (by decide))
theorem Dn.on {T:List Tok}{w0 w w':World}{r:Nat}{vr vl vh vd:Value}{s:Dst}(h:Dn T w0 w r vr vl vh vd s)(hx:Ext w w'):Dn T w0 w' r vr vl vh vd s:=by
 obtain⟨vt,hr,ht⟩:=h.row
 exact h.move (.of hx) rfl rfl rfl rfl ⟨vt,by rw [hx.below.block r h.lt];exact hr,ht⟩
theorem Dn.cell {T:List Tok}{w0 w:World}{r:Nat}{vr vl vh vd:Value}{s:Dst}(h:Dn T w0 w r vr vl vh vd s)(k:Nat)(v:Value)(hv:∀ vt,(dcells vt s vr vl vh vd)[k]?=some v):w.cell? ⟨r,k,none⟩=some v∧w.frozen? ⟨r,k,none⟩=false:=by
 obtain⟨vt,hr,_⟩:=h.row
 exact⟨(cell_of_row w r k _ _ _ hr).trans (hv vt),frozen_of_row w r k _ _ hr⟩
theorem Dn.turn {T:List Tok}{w0 w:World}{r:Nat}{vr vl vh vd:Value}{s:Dst}(h:Dn T w0 w r vr vl vh vd s)(k:Nat)(v:Value)(s':Dst)(hp:∀ vt,(dcells vt s vr vl vh vd).setIfInBounds k v=dcells vt s' vr vl vh vd)(h1:s'.p.rs=s.p.rs)(h2:s'.p.lt=s.p.lt)(h3:s'.p.hd=s.p.hd)(h4:s'.had=s.had):Dn T w0 (w.setCell ⟨r,k,none⟩ v) r vr vl vh vd s':=by
 obtain⟨vt,hr,ht⟩:=h.row
 exact h.move ((Exr.refl r w).set k v) h1 h2 h3 h4 ⟨vt,(heap_setCell_same w r k _ _ v hr).trans (by rw [hp]),ht⟩
theorem Dn.tok {T:List Tok}{w0 w:World}{r:Nat}{vr vl vh vd:Value}{s:Dst}{t:Tok}(h:Dn T w0 w r vr vl vh vd s)(ht:T[s.i]?=some t):∃ g off c,w.cell? ⟨r,0,none⟩=some (.slice (some ⟨g,off,none⟩) T.length c)∧T.length≤c∧g≠r∧w.cell? ⟨g,off+s.i * 3,none⟩=some (.int .i64 t.kind)∧w.cell? ⟨g,off+s.i * 3+1,none⟩=some (.int .i64 t.at_)∧w.cell? ⟨g,off+s.i * 3+2,none⟩=some (.string ⟨t.text.toArray⟩):=by
 obtain⟨vt,hr,ao,c,rfl,hc,hk⟩:=h.row
 have hne:T≠[]:=by
  rintro rfl
  simp at ht
 obtain⟨g,off,rfl,hk2⟩:=hk hne
 obtain⟨k0,k1,k2⟩:=hk2 s.i t ht
 have hg:=lt_of_cell k0
 exact⟨g,off,c,(cell_of_row w r 0 _ _ _ hr).trans rfl,hc,by have:=h.lo;omega,h.ext.cell_of k0,h.ext.cell_of k1,h.ext.cell_of k2⟩
def Dst.fl (T:List Tok)(x:Nat)(s:Dst):Dst:=if s.e=0 then { s with e:=x,a:=((T[s.i]?).map (·.at_)).getD 0 } else s
def isB (T:List Tok)(s:Dst)(k:Int)(l:List UInt8):Bool:=(s.e==0)&&match T[s.i]? with
 | some t=>((t.kind:Int)==k)&&decide (t.text=l)
 | none=>false
def Has (T:List Tok)(s:Dst):Prop:=s.e=0→∃ t,T[s.i]?=some t
theorem fail_c (T:List Tok)(w0 w:World)(r x:Nat)(vr vl vh vd:Value)(s:Dst)(hT:T.length≤20010)(hh:Has T s)(h:Dn T w0 w r vr vl vh vd s) :
  Calls Tryz.prog 29 #[.pointer (some ⟨r,0,none⟩),.int .i64 x] w fun e w'=>e=.returned (.tuple #[])∧Dn T w0 w' r vr vl vh vd (s.fl T x)∧Exr r w w':=by
 obtain⟨c22,z22⟩:=h.cell 22 (.int .i64 s.e) (fun _=>rfl)
 obtain⟨c23,z23⟩:=h.cell 23 (.int .i64 s.a) (fun _=>rfl)
 obtain⟨c1,_⟩:=h.cell 1 (.int .i64 s.i) (fun _=>rfl)
 unfold Dst.fl
 by_cases he:s.e=0
 ·obtain ⟨t,ht⟩:=hh he
  have hlt:s.i<T.length:=(List.getElem?_eq_some_iff.1 ht).1
  obtain⟨g,off,c,c0,hc,hg,k0,k1,k2⟩:=h.tok ht
  rw [if_pos he,ht]
  have hb:((s.e:Int)==0)=true:=by rw [he];rfl
  have hi1:(s.i:Int)<(T.length:Int):=by omega
  have hi0:(0:Int)≤(s.i:Int):=by omega
  clear k0 k2 hh
  replace h:=hid h
  replace he:=hid he
  replace ht:=hid ht
  go_enter Tryz.func29,Tryz.ntmps29
  go_upto_region 1 with fail
  go_region_held3 (fun W=>W.cell? ⟨r,0,none⟩=some (.slice (some ⟨g,off,none⟩) T.length c)∧W.cell? ⟨r,1,none⟩=some (.int .i64 s.i)∧W.cell? ⟨g,off+s.i * 3+1,none⟩=some (.int .i64 t.at_)∧W.frozen? ⟨r,22,none⟩=false∧W.frozen? ⟨r,23,none⟩=false) (refine ⟨?_,?_,?_,?_,?_⟩ <;> first | (show (World.setCell _ _ _).cell? _=_;rw [L8.other _ (Or.inr (by decide))];assumption) | (show (World.setCell _ _ _).cell? _=_;rw [L8.other _ (Or.inl hg)];assumption) | (simp [go_sem, *])) (fail)
  go_wp2
  go_end0
  exact⟨rfl,((h.out.turn 22 (.int .i64 x) { s with e:=x } (fun _=>rfl) rfl rfl rfl rfl).turn 23 (.int .i64 t.at_) { s with e:=x,a:=t.at_ } (fun _=>rfl) rfl rfl rfl rfl).on ((Ext.refl _).drew),(((Exr.refl r w).set 22 _).set 23 _).on ((Ext.refl _).drew)⟩
 ·rw [if_neg he]
  have hb:((s.e:Int)==0)=false:=by simp [he]
  replace h:=hid h
  replace he:=hid he
  clear hh
  go_enter Tryz.func29,Tryz.ntmps29
  go_wp2
  go_end0
  exact⟨rfl,h.out,Exr.refl r w⟩
theorem is_c (T:List Tok)(w0 w:World)(r:Nat)(k:Int)(l:List UInt8)(vr vl vh vd:Value)(s:Dst)(hT:T.length≤20010)(hh:Has T s)(h:Dn T w0 w r vr vl vh vd s) :
  Calls Tryz.prog 57 #[.pointer (some ⟨r,0,none⟩),.int .i64 k,.string ⟨l.toArray⟩] w fun e w'=>e=.returned (.bool (isB T s k l))∧Ext w w':=by
 obtain⟨c22,_⟩:=h.cell 22 (.int .i64 s.e) (fun _=>rfl)
 obtain⟨c1,_⟩:=h.cell 1 (.int .i64 s.i) (fun _=>rfl)
 have hNe:Nonempty (Late w):=⟨⟨_,Ext.refl _⟩⟩
 by_cases he:s.e=0
 ·obtain ⟨t,ht⟩:=hh he
  have hlt:s.i<T.length:=(List.getElem?_eq_some_iff.1 ht).1
  obtain⟨g,off,c,c0,hc,hg,k0,k1,k2⟩:=h.tok ht
  have hb:((s.e:Int)==0)=true:=by rw [he];rfl
  have hi1:(s.i:Int)<(T.length:Int):=by omega
  have hi0:(0:Int)≤(s.i:Int):=by omega
  have hB:isB T s k l=(((t.kind:Int)==k)&&decide (t.text=l)):=by
   unfold isB
   rw [ht,he]
   simp
  rw [hB]
  have j22:=Late.cell c22;have j1:=Late.cell c1;have j0:=Late.cell c0;have m0:=Late.cell k0;have m2:=Late.cell k2
  clear c22 c1 c0 k0 k1 k2 hB h hh he ht
  cases hk:((t.kind:Int)==k)
  ·go_enter Tryz.func57,Tryz.ntmps57
   go_upto_region 1 with fail
   refine wp_region_late (by kernel_rfl) (by kernel_rfl) ?_
   repeat (go_big_quiet_step (fail))
   refine wpQuiet_nil ?_
   intro W1 hw'
   have hx:Hid (Ext w W1):=late_ext hw'
   clear hw' j22 j1 j0 m0 m2
   go_wp2
   go_ret
   exact⟨rfl,hx.out⟩
  ·by_cases hq:t.text=l
   ·subst hq
    rw [decide_eq_true rfl]
    go_enter Tryz.func57,Tryz.ntmps57
    go_upto_region 1 with fail
    refine wp_region_late (by kernel_rfl) (by kernel_rfl) ?_
    repeat (go_big_quiet_step (fail))
    refine wpQuiet_nil ?_
    intro W1 hw'
    have hx:Hid (Ext w W1):=late_ext hw'
    clear hw' j22 j1 j0 m0 m2
    go_wp2
    go_ret
    exact⟨rfl,hx.out⟩
   ·have hq2:(t.text==l)=false:=by simp [hq]
    rw [decide_eq_false hq]
    go_enter Tryz.func57,Tryz.ntmps57
    go_upto_region 1 with fail
    refine wp_region_late (by kernel_rfl) (by kernel_rfl) ?_
    repeat (go_big_quiet_step (fail))
    refine wpQuiet_nil ?_
    intro W1 hw'
    have hx:Hid (Ext w W1):=late_ext hw'
    clear hw' j22 j1 j0 m0 m2
    go_wp2
    go_ret
    exact⟨rfl,hx.out⟩
 ·have hb:((s.e:Int)==0)=false:=by simp [he]
  have hB:isB T s k l=false:=by
   unfold isB
   rw [show (s.e==0)=false by simp [he]]
   rfl
  rw [hB]
  have j22:=Late.cell c22;have j1:=Late.cell c1
  clear c22 c1 hB h hh he
  go_enter Tryz.func57,Tryz.ntmps57
  go_upto_region 1 with fail
  refine wp_region_late (by kernel_rfl) (by kernel_rfl) ?_
  repeat (go_big_quiet_step (fail))
  refine wpQuiet_nil ?_
  intro W1 hw'
  have hx:Hid (Ext w W1):=late_ext hw'
  clear hw' j22 j1
  go_wp2
  go_ret
  exact⟨rfl,hx.out⟩
def Dst.inc (s:Dst):Dst:={ s with i:=s.i+1 }
theorem Dn.inc {T:List Tok}{w0 w:World}{r:Nat}{vr vl vh vd:Value}{s:Dst}(h:Dn T w0 w r vr vl vh vd s){v:Int}(hv:v=((s.i+1:Nat):Int)):Dn T w0 (w.setCell ⟨r,1,none⟩ (.int .i64 v)) r vr vl vh vd s.inc:=by
 subst hv
 exact h.turn 1 _ s.inc (fun _=>rfl) rfl rfl rfl rfl
theorem isB_has {T:List Tok}{s:Dst}{k:Int}{l:List UInt8}(h:isB T s k l=true):s.e=0∧∃ t,T[s.i]?=some t∧(t.kind:Int)=k∧t.text=l:=by
 unfold isB at h
 simp only [Bool.and_eq_true,beq_iff_eq] at h
 refine⟨h.1,?_⟩
 cases ht:T[s.i]? with
 | none=>rw [ht] at h;simp at h
 | some t=>rw [ht] at h;simp at h;exact ⟨t,rfl,h.2.1,h.2.2⟩
def Dst.sg (T:List Tok)(k:Int)(l:List UInt8)(s:Dst):Dst:=if isB T s k l then s.inc else s.fl T 7
theorem sign_c (T:List Tok)(w0 w:World)(r:Nat)(k:Int)(l:List UInt8)(vr vl vh vd:Value)(s:Dst)(hT:T.length≤20010)(hh:Has T s)(h:Dn T w0 w r vr vl vh vd s) :
  Calls Tryz.prog 25 #[.pointer (some ⟨r,0,none⟩),.int .i64 k,.string ⟨l.toArray⟩] w fun e w'=>e=.returned (.tuple #[])∧Dn T w0 w' r vr vl vh vd (s.sg T k l)∧Exr r w w':=by
 unfold Dst.sg
 replace hh:=hid hh
 cases hB:isB T s k l
 ·simp only [Bool.false_eq_true,if_false]
  replace h:=hid h
  go_enter Tryz.func25,Tryz.ntmps25
  go_wp2_with fail
  refine (is_c T w0 _ r k l vr vl vh vd s hT hh.out h.out).mono ?_
  rintro e w1 ⟨rfl,hx⟩
  rw [hB]
  replace h:Hid (Dn T w0 w1 r vr vl vh vd s):=h.out.on hx
  replace hx:Hid (Exr r w w1):=.of hx
  go_wp2_with fail
  refine (fail_c T w0 _ r 7 vr vl vh vd s hT hh.out h.out).mono ?_
  rintro e w2 ⟨rfl,h2,hx2⟩
  replace h2:=hid h2
  replace hx:=hid <| hx.out.trans hx2
  clear hx2
  go_wp2
  refine bodyPost_ret (results_none rfl _ _ _) rfl ?_
  exact⟨rfl,h2.out,hx.out⟩
 ·simp only [if_true]
  obtain⟨he,t,ht,_,_⟩:=isB_has hB
  have hlt:s.i<T.length:=(List.getElem?_eq_some_iff.1 ht).1
  replace h:=hid h
  go_enter Tryz.func25,Tryz.ntmps25
  go_wp2_with fail
  refine (is_c T w0 _ r k l vr vl vh vd s hT hh.out h.out).mono ?_
  rintro e w1 ⟨rfl,hx⟩
  rw [hB]
  replace h:Hid (Dn T w0 w1 r vr vl vh vd s):=h.out.on hx
  replace hx:Hid (Exr r w w1):=.of hx
  obtain⟨c1,z1⟩:=h.out.cell 1 (.int .i64 s.i) (fun _=>rfl)
  clear hB ht
  go_wp2_with fail
  exact⟨rfl,_,results_none rfl _ _ _,rfl,h.out.inc (by omega),hx.out.set 1 _⟩
theorem done_c (T:List Tok)(w0 w:World)(r:Nat)(B:Bool)(vr vl vh vd:Value)(s:Dst)(hT:T.length≤20010)(hi:s.i≤20010)(hh:Has T s)(h:Dn T w0 w r vr vl vh vd s) :
  Calls Tryz.prog 26 #[.pointer (some ⟨r,0,none⟩),.bool B] w fun e w'=>e=.returned (.tuple #[])∧Dn T w0 w' r vr vl vh vd (if B then s.inc else s.fl T 7)∧Exr r w w':=by
 replace hh:=hid hh
 cases B
 ·simp only [Bool.false_eq_true,if_false]
  replace h:=hid h
  go_enter Tryz.func26,Tryz.ntmps26
  go_wp2_with fail
  refine (fail_c T w0 _ r 7 vr vl vh vd s hT hh.out h.out).mono ?_
  rintro e w2 ⟨rfl,h2,hx2⟩
  replace h2:=hid h2
  replace hx2:=hid hx2
  go_wp2
  refine bodyPost_ret (results_none rfl _ _ _) rfl ?_
  exact⟨rfl,h2.out,hx2.out⟩
 ·simp only [if_true]
  obtain⟨c1,z1⟩:=h.cell 1 (.int .i64 s.i) (fun _=>rfl)
  replace h:=hid h
  go_enter Tryz.func26,Tryz.ntmps26
  go_wp2_with fail
  exact⟨rfl,_,results_none rfl _ _ _,rfl,h.out.inc (by omega),(Exr.refl r w).set 1 _⟩
def txB (T:List Tok)(s:Dst):List UInt8:=if s.e=0 then match T[s.i]? with
 | some t=>if t.kind=2 then t.text else []
 | none=>[] else []
theorem textD_c (T:List Tok)(w0 w:World)(r:Nat)(vr vl vh vd:Value)(s:Dst)(hT:T.length≤20010)(hh:Has T s)(h:Dn T w0 w r vr vl vh vd s) :
  Calls Tryz.prog 138 #[.pointer (some ⟨r,0,none⟩)] w fun e w'=>e=.returned (.string ⟨(txB T s).toArray⟩)∧Ext w w':=by
 obtain⟨c22,_⟩:=h.cell 22 (.int .i64 s.e) (fun _=>rfl)
 obtain⟨c1,_⟩:=h.cell 1 (.int .i64 s.i) (fun _=>rfl)
 have hNe:Nonempty (Late w):=⟨⟨_,Ext.refl _⟩⟩
 unfold txB
 by_cases he:s.e=0
 ·obtain ⟨t,ht⟩:=hh he
  have hlt:s.i<T.length:=(List.getElem?_eq_some_iff.1 ht).1
  obtain⟨g,off,c,c0,hc,hg,k0,k1,k2⟩:=h.tok ht
  have hb:((s.e:Int)==0)=true:=by rw [he];rfl
  have hi1:(s.i:Int)<(T.length:Int):=by omega
  have hi0:(0:Int)≤(s.i:Int):=by omega
  rw [if_pos he,ht]
  simp only []
  have j22:=Late.cell c22;have j1:=Late.cell c1;have j0:=Late.cell c0;have m0:=Late.cell k0
  replace c22:=hid <| c22;replace c1:=show Hid _ from c1;replace c0:=show Hid _ from c0;replace k2:=show Hid _ from k2
  clear k0 k1 h hh he ht
  by_cases hk:t.kind=2
  ·rw [if_pos hk]
   have hk2:((t.kind:Int)==2)=true:=by simp [hk]
   replace hk:=hid hk
   go_enter Tryz.func138,Tryz.ntmps138
   go_upto_region 1 with fail
   refine wp_region_late (by kernel_rfl) (by kernel_rfl) ?_
   repeat (go_big_quiet_step (fail))
   refine wpQuiet_nil ?_
   intro W1 hw'
   have hx:=late_ext hw'
   have hNe1:Nonempty (Late W1):=⟨⟨_,Ext.refl _⟩⟩
   replace c1:=hx.cell_of c1.out
   replace c0:=hx.cell_of c0.out
   replace k2:=hx.cell_of k2.out
   replace hx:=hid hx
   clear hw' j22 j1 j0 m0 c22
   have j1:=Late.cell c1;have j0:=Late.cell c0;have m2:=Late.cell k2
   clear c1 c0 k2
   go_upto_region 2 with fail
   refine wp_region_late (by kernel_rfl) (by kernel_rfl) ?_
   repeat (go_big_quiet_step (fail))
   refine wpQuiet_nil ?_
   intro W2 hw'
   replace hx:=hid <| hx.out.trans (late_ext hw')
   clear hw' j1 j0 m2
   go_wp2
   go_ret
   exact⟨rfl,hx.out⟩
  ·rw [if_neg hk]
   have hk2:((t.kind:Int)==2)=false:=by simpa using fun h:(t.kind:Int)=2=>hk (by omega)
   replace hk:=hid hk
   go_enter Tryz.func138,Tryz.ntmps138
   go_upto_region 1 with fail
   refine wp_region_late (by kernel_rfl) (by kernel_rfl) ?_
   repeat (go_big_quiet_step (fail))
   refine wpQuiet_nil ?_
   intro W1 hw'
   have hx:=hid <| late_ext hw'
   clear hw' j22 j1 j0 m0 c22 c1 c0 k2
   go_wp2
   go_ret
   exact⟨rfl,hx.out⟩
 ·have hb:((s.e:Int)==0)=false:=by simp [he]
  rw [if_neg he]
  have j22:=Late.cell c22;have j1:=Late.cell c1
  clear c22 c1 h hh he
  go_enter Tryz.func138,Tryz.ntmps138
  go_upto_region 1 with fail
  refine wp_region_late (by kernel_rfl) (by kernel_rfl) ?_
  repeat (go_big_quiet_step (fail))
  refine wpQuiet_nil ?_
  intro W1 hw'
  have hx:=hid <| late_ext hw'
  clear hw' j22 j1
  go_wp2
  go_ret
  exact⟨rfl,hx.out⟩
def wdF (T:List Tok)(s:Dst):Nat→List (List UInt8)→Option Nat
 | _,[]=>none
 | k,u::L=>if isB T s 1 u then some k else wdF T s (k+1) L
def Dst.wd (T:List Tok)(L:List (List UInt8))(s:Dst):Dst:=if (wdF T s 0 L).isSome then s.inc else s.fl T 7
def wdV (T:List Tok)(L:List (List UInt8))(s:Dst):Nat:=(wdF T s 0 L).getD 0
theorem wdF_at {T:List Tok}{s:Dst}{L:List (List UInt8)}{k:Nat}{u:List UInt8}(h:L[k]?=some u):wdF T s k (L.drop k)=if isB T s 1 u then some k else wdF T s (k+1) (L.drop (k+1)):=by
 rw [L8.drop_at h];rfl
theorem word_c (T:List Tok)(w0 w:World)(r g n c:Nat)(L:List (List UInt8))(vr vl vh vd:Value)(s:Dst)(hT:T.length≤20010)(hi:s.i≤20010)(hh:Has T s)(hn:L.length=n)(hn2:n≤100)(hg:g≠r)(hw:∀ (k:Nat) u,L[k]?=some u→w.cell? ⟨g,k,none⟩=some (.string ⟨u.toArray⟩))(h:Dn T w0 w r vr vl vh vd s) :
  Calls Tryz.prog 98 #[.pointer (some ⟨r,0,none⟩),.slice (some ⟨g,0,none⟩) n c] w fun e w'=>e=.returned (.int .i64 (wdV T L s))∧Dn T w0 w' r vr vl vh vd (s.wd T L)∧Exr r w w':=by
 replace h:=hid h
 replace hw:=hid hw
 replace hh:=hid hh
 replace hn:=hid hn
 go_enter Tryz.func98,Tryz.ntmps98
 go_wp2_with fail
 go_loopw [5] (fun i wr=>∃ k:Nat,k≤n∧i=.int .i64 k∧Hid (Ext w wr)∧Hid (wdF T s k (L.drop k)=wdF T s 0 L)) (fun i _=>n-(RowKit.intOf i).toNat)
 case atStart=>exact ⟨0,Nat.zero_le _,rfl,Ext.refl w,rfl⟩
 case round =>
  obtain⟨k,hk,rfl,hx,hp⟩:=hrel
  have hr:Hid (Dn T w0 wr r vr vl vh vd s):=h.out.on hx.out
  by_cases hlt:k<n
  ·obtain ⟨u,hu⟩:∃ u,L[k]?=some u:=⟨_,List.getElem?_eq_getElem (by have:=hn.out;omega)⟩
   have cu:=hx.out.cell_of (hw.out k u hu)
   have hp2:=hp.out
   rw [wdF_at hu] at hp2
   have hC:=fun W (hW:Ext wr W)=>is_c T w0 W r 1 u vr vl vh vd s hT hh.out (hr.out.on hW)
   clear hp
   cases hB:isB T s 1 u
   ·rw [hB] at hp2 hC
    simp only [Bool.false_eq_true,if_false] at hp2
    replace hp2:=hid hp2
    replace hC:=hid hC
    clear hB hu
    go_wp2_with (go_at_call 57;refine (hC.out _ (Ext.refl _)).mono ?_;rintro e w1 ⟨rfl,hx1⟩;replace hx1:=hid hx1)
    go_roundw
    case rel=>exact ⟨k+1,by omega,by go_num,hx.out.trans hx1.out,hp2⟩
    case measure=>simp [RowKit.intOf];omega
   ·rw [hB] at hp2 hC
    simp only [if_true] at hp2
    replace hp2:=hid hp2
    replace hC:=hid hC
    clear hB hu
    go_wp2_with (go_at_call 57;refine (hC.out _ (Ext.refl _)).mono ?_;rintro e w1 ⟨rfl,hx1⟩;have hr1:=hr.out.on hx1;obtain ⟨c1,z1⟩:=hr1.cell 1 (.int .i64 s.i) (fun _=>rfl);replace hr1:=hid <| hr1;replace hx1:=show Hid _ from hx1)
    refine bodyPost_ret (results_tmp rfl _ _ _) rfl ?_
    have e1:s.wd T L=s.inc:=by unfold Dst.wd;rw [←hp2.out];rfl
    have e2:wdV T L s=k:=by unfold wdV;rw [←hp2.out];rfl
    rw [e1,e2]
    exact⟨rfl,hr1.out.inc (by omega),(Exr.of (hx.out.trans hx1.out)).set 1 _⟩
  ·obtain rfl:k=n:=by omega
   have hp2:=hp.out
   rw [L8.drop_end (by have:=hn.out;omega)] at hp2
   replace hp2:=hid hp2
   clear hp
   go_wp2_with fail
   refine (fail_c T w0 _ r 7 vr vl vh vd s hT hh.out hr.out).mono ?_
   rintro e w2 ⟨rfl,h2,hx2⟩
   replace h2:=hid h2
   replace hx2:=hid hx2
   go_wp2
   refine bodyPost_ret (results_tmp rfl _ _ _) rfl ?_
   have e1:s.wd T L=s.fl T 7:=by unfold Dst.wd;rw [←hp2.out];rfl
   have e2:wdV T L s=0:=by unfold wdV;rw [←hp2.out];rfl
   rw [e1,e2]
   exact⟨rfl,h2.out,(Exr.of hx.out).trans hx2.out⟩
def ngO (l:List UInt8):Int:=(numO l).getD (-1)
theorem all_take {l:List UInt8}{k:Nat}{c:UInt8}(h:(l.take k).all L2.isD=true)(hc:l[k]?=some c)(hd:L2.isD c=true):(l.take (k+1)).all L2.isD=true:=by
 rw [List.take_add_one,hc]
 simp [h,hd]
theorem val_take {l:List UInt8}{k:Nat}{c:UInt8}(hc:l[k]?=some c):L2.valL (l.take (k+1))=10 * L2.valL (l.take k)+(c.toNat-48):=by
 rw [List.take_add_one,hc]
 exact L2.valL_snoc _ _
theorem num_no {l:List UInt8}{k:Nat}{c:UInt8}(hc:l[k]?=some c)(hd:L2.isD c=false):numO l=none:=by
 unfold numO
 rw [if_neg]
 intro h
 obtain⟨_,_,h3,_⟩:=L2.okWhole_spec l 9 h
 have:=List.all_eq_true.1 h3 c (List.mem_of_getElem? hc)
 rw [hd] at this
 cases this
theorem num_at {l:List UInt8}(h0:l≠[])(h1:l.length≤9)(h2:l.all L2.isD=true)(h3:l = [48]∨l.head?≠some 48):numO l=some ((L2.valL l:Nat):Int):=by
 unfold numO
 rw [if_pos]
 unfold L2.okWhole L2.digOnly L2.headOk
 simp only [Bool.and_eq_true,decide_eq_true_eq,Bool.or_eq_true,beq_iff_eq,bne_iff_ne,Bool.not_eq_true']
 exact⟨⟨h1,by simpa using h0,h2⟩,h3⟩
theorem Number_c (l:List UInt8)(w:World)(hl:l.length≤20000) :
  Calls Tryz.prog 137 #[.string ⟨l.toArray⟩] w fun e w'=>e=.returned (.int .i64 (ngO l))∧Ext w w':=by
 obtain⟨n,hn⟩:∃ n,l.length=n:=⟨_,rfl⟩
 have bad:∀ (h:numO l=none),ngO l = -1:=fun h=>by unfold ngO;rw [h];rfl
 by_cases h1:n<1
 ·have e:ngO l = -1:=bad (by
   obtain rfl:l = []:=List.eq_nil_of_length_eq_zero (by omega)
   decide +kernel)
  rw [e]
  have hn':Hid (l.length=n):=hn
  have hi:(l.length:Int)<1:=by omega
  have hq:l.length<1:=by omega
  go_enter Tryz.func137,Tryz.ntmps137
  go_wp2
  go_ret
  exact⟨rfl,Ext.refl _⟩
 by_cases h9:9<n
 ·have e:ngO l = -1:=bad (by
   unfold numO
   rw [if_neg]
   intro h
   have:=(L2.okWhole_spec l 9 h).1
   omega)
  rw [e]
  have hi:¬ (l.length:Int)<1:=by omega
  have hi2:(9:Int)<(l.length:Int):=by omega
  have hq:¬ l.length<1:=by omega
  have hq2:9<l.length:=by omega
  clear hn h1 h9
  go_enter Tryz.func137,Tryz.ntmps137
  go_wp2
  go_ret
  exact⟨rfl,Ext.refl _⟩
 obtain⟨c0,hc0⟩:∃ c,l[0]?=some c:=⟨_,List.getElem?_eq_getElem (by omega)⟩
 have b0:=L8.byte_at hc0
 by_cases hz:1<n∧c0=48
 ·obtain ⟨hz1,rfl⟩:=hz
  have e:ngO l = -1:=bad (by
   unfold numO
   rw [if_neg]
   intro h
   obtain⟨_,_,_,h4⟩:=L2.okWhole_spec l 9 h
   rcases h4 with rfl | h4
   ·simp at hn;omega
   ·rw [List.head?_eq_getElem?,hc0] at h4;exact h4 rfl)
  rw [e]
  have hi:¬ (l.length:Int)<1:=by omega
  have hi2:¬ (9:Int)<(l.length:Int):=by omega
  have hi3:(1:Int)<(l.length:Int):=by omega
  have hq:¬ l.length<1:=by omega
  have hq2:¬ 9<l.length:=by omega
  have hq3:1<l.length:=by omega
  have hq0:0<l.length:=by omega
  clear hn h1 h9 hc0
  go_enter Tryz.func137,Tryz.ntmps137
  go_wp2
  go_ret
  exact⟨rfl,Ext.refl _⟩
 have hh:l = [48]∨l.head?≠some 48:=by
  by_cases hc:c0=48
  ·subst hc
   left
   have:n=1:=by
    rcases Nat.lt_or_ge 1 n with h | h
    ·exact absurd ⟨h,rfl⟩ hz
    ·omega
   match l,hn,hc0 with
   | [x],_,hc0=>simp at hc0;rw [hc0]
   | [],hn,_=>simp at hn;omega
   | _::_::_,hn,_=>simp at hn;omega
  ·right
   rw [List.head?_eq_getElem?,hc0]
   intro h
   exact hc (Option.some.inj h)
 have hne:l≠[]:=by
  rintro rfl
  simp at hc0
 have hn9:n≤9:=by omega
 have hz2:n≤1∨1<n∧((c0.toNat:Int)==48)=false:=by
  rcases Nat.lt_or_ge 1 n with h | h
  ·right
   have hc:c0≠48:=fun e=>hz ⟨h,e⟩
   refine⟨h,?_⟩
   simp only [beq_eq_false_iff_ne,ne_eq]
   intro e
   exact hc (UInt8.toNat_inj.1 (by show c0.toNat=48;omega))
  ·exact Or.inl h
 obtain⟨X,hX⟩:∃ X,ngO l=X:=⟨_,rfl⟩
 rw [hX]
 replace hX:=hid hX
 replace hn:=hid hn
 have hgt:Hid (∀ (k:Nat) c,l[k]?=some c→∀ g,(⟨l.toArray⟩:ByteArray)[k]'g=c):=fun k c hc=>L8.byte_at hc
 have hsz:((⟨l.toArray⟩:ByteArray)).size=n:=by rw [Lib.size_mk];exact hn.out
 clear hl hz bad
 rcases hz2 with hz2 | ⟨hz1,hz2⟩
 ·have hi3:¬ (1:Int)<(l.length:Int):=by have:=hn.out;omega
  have hq3:¬ 1<l.length:=by have:=hn.out;omega
  have hi:¬ (l.length:Int)<1:=by have:=hn.out;omega
  have hi2:¬ (9:Int)<(l.length:Int):=by have:=hn.out;omega
  have hq:¬ l.length<1:=by have:=hn.out;omega
  have hq2:¬ 9<l.length:=by have:=hn.out;omega
  clear b0
  go_enter Tryz.func137,Tryz.ntmps137
  go_wp2_with fail
  go_loopw [3,4] (fun v i wr=>∃ k:Nat,k≤n∧i=.int .i64 k∧v=.int .i64 ((L2.valL (l.take k):Nat):Int)∧Hid (Ext w wr)∧Hid ((l.take k).all L2.isD=true)) (fun _ i _=>n-(RowKit.intOf i).toNat)
  case atStart=>exact ⟨0,Nat.zero_le _,rfl,rfl,Ext.refl w,rfl⟩
  case round =>
   obtain⟨k,hk,rfl,rfl,hx,ha⟩:=hrel
   by_cases hlt:k<n
   ·obtain ⟨c,hc⟩:∃ c,l[k]?=some c:=⟨_,List.getElem?_eq_getElem (by have:=hn.out;omega)⟩
    have bk:=hgt.out k c hc
    have hcl:c.toNat≤255:=by have:=c.toNat_lt;omega
    cases hd:L2.isD c
    ·have e:ngO l = -1:=by unfold ngO;rw [num_no hc hd];rfl
     replace e:=hid e
     replace hd:=hid hd
     clear hc
     go_wp2_with (go_at_call 172;refine (L2.rdigit_x c false hd.out _).mono ?_;rintro e w1 ⟨rfl,rfl⟩)
     go_ret
     exact⟨L7.ret_int (by rw [←hX.out,e.out]),hx.out⟩
    ·obtain ⟨d0,d1⟩:=L2.isD_range hd
     have hv:=val_take hc
     have ht:=all_take ha.out hc hd
     have hb:=L2.valL_lt (l.take k) ha.out
     have hb2:10 ^ (l.take k).length≤10 ^ 9:=Nat.pow_le_pow_right (by omega) (by rw [List.length_take];omega)
     replace hd:=hid hd
     replace ht:=hid ht
     replace hv:=hid hv
     clear hc
     generalize L2.valL (l.take k)=V at *
     have hV:V<1000000000:=by omega
     clear hb hb2
     have d2:(48:Int)≤(c.toNat:Int):=by omega
     have d3:(c.toNat:Int)≤57:=by omega
     go_wp2_with (go_at_call 172;refine (L2.rdigit_x c true hd.out _).mono ?_;rintro e w1 ⟨rfl,rfl⟩)
     go_roundw
     case rel=>exact ⟨k+1,by omega,by go_num,by rw [hv.out];congr 1;omega,hx,ht⟩
     case measure=>simp [RowKit.intOf];omega
   ·obtain rfl:k=n:=by omega
    have e:ngO l=((L2.valL l:Nat):Int):=by
     unfold ngO
     have ha2:=ha.out
     rw [List.take_of_length_le (by have:=hn.out;omega)] at ha2
     rw [num_at hne (by have:=hn.out;omega) ha2 hh]
     rfl
    have et:l.take k=l:=List.take_of_length_le (by have:=hn.out;omega)
    rw [et]
    replace e:=hid e
    go_wp2
    go_ret
    exact⟨L7.ret_int (by rw [←hX.out,e.out]),hx.out⟩
 ·have hq0:0<l.length:=by have:=hn.out;omega
  have hi3:(1:Int)<(l.length:Int):=by have:=hn.out;omega
  have hq3:1<l.length:=by have:=hn.out;omega
  have hi:¬ (l.length:Int)<1:=by have:=hn.out;omega
  have hi2:¬ (9:Int)<(l.length:Int):=by have:=hn.out;omega
  have hq:¬ l.length<1:=by have:=hn.out;omega
  have hq2:¬ 9<l.length:=by have:=hn.out;omega
  go_enter Tryz.func137,Tryz.ntmps137
  go_wp2_with fail
  go_loopw [3,4] (fun v i wr=>∃ k:Nat,k≤n∧i=.int .i64 k∧v=.int .i64 ((L2.valL (l.take k):Nat):Int)∧Hid (Ext w wr)∧Hid ((l.take k).all L2.isD=true)) (fun _ i _=>n-(RowKit.intOf i).toNat)
  case atStart=>exact ⟨0,Nat.zero_le _,rfl,rfl,Ext.refl w,rfl⟩
  case round =>
   obtain⟨k,hk,rfl,rfl,hx,ha⟩:=hrel
   by_cases hlt:k<n
   ·obtain ⟨c,hc⟩:∃ c,l[k]?=some c:=⟨_,List.getElem?_eq_getElem (by have:=hn.out;omega)⟩
    have bk:=hgt.out k c hc
    have hcl:c.toNat≤255:=by have:=c.toNat_lt;omega
    cases hd:L2.isD c
    ·have e:ngO l = -1:=by unfold ngO;rw [num_no hc hd];rfl
     replace e:=hid e
     replace hd:=hid hd
     clear hc
     go_wp2_with (go_at_call 172;refine (L2.rdigit_x c false hd.out _).mono ?_;rintro e w1 ⟨rfl,rfl⟩)
     go_ret
     exact⟨L7.ret_int (by rw [←hX.out,e.out]),hx.out⟩
    ·obtain ⟨d0,d1⟩:=L2.isD_range hd
     have hv:=val_take hc
     have ht:=all_take ha.out hc hd
     have hb:=L2.valL_lt (l.take k) ha.out
     have hb2:10 ^ (l.take k).length≤10 ^ 9:=Nat.pow_le_pow_right (by omega) (by rw [List.length_take];omega)
     replace hd:=hid hd
     replace ht:=hid ht
     replace hv:=hid hv
     clear hc
     generalize L2.valL (l.take k)=V at *
     have hV:V<1000000000:=by omega
     clear hb hb2
     have d2:(48:Int)≤(c.toNat:Int):=by omega
     have d3:(c.toNat:Int)≤57:=by omega
     go_wp2_with (go_at_call 172;refine (L2.rdigit_x c true hd.out _).mono ?_;rintro e w1 ⟨rfl,rfl⟩)
     go_roundw
     case rel=>exact ⟨k+1,by omega,by go_num,by rw [hv.out];congr 1;omega,hx,ht⟩
     case measure=>simp [RowKit.intOf];omega
   ·obtain rfl:k=n:=by omega
    have e:ngO l=((L2.valL l:Nat):Int):=by
     unfold ngO
     have ha2:=ha.out
     rw [List.take_of_length_le (by have:=hn.out;omega)] at ha2
     rw [num_at hne (by have:=hn.out;omega) ha2 hh]
     rfl
    have et:l.take k=l:=List.take_of_length_le (by have:=hn.out;omega)
    rw [et]
    replace e:=hid e
    go_wp2
    go_ret
    exact⟨L7.ret_int (by rw [←hX.out,e.out]),hx.out⟩
def Dst.nb (T:List Tok)(o:List UInt8→Option Int)(s:Dst):Dst:=if (o (txB T s)).isSome then s.inc else s.fl T 7
theorem txB_len {T:List Tok}{s:Dst}(h:∀ t∈T,t.text.length≤20000):(txB T s).length≤20000:=by
 unfold txB
 split
 ·cases ht:T[s.i]? with
  | none=>simp
  | some t =>
   simp only []
   split
   ·exact h t (List.mem_of_getElem? ht)
   ·simp
 ·simp
theorem numberD_c (T:List Tok)(w0 w:World)(r:Nat)(vr vl vh vd:Value)(s:Dst)(hT:T.length≤20010)(hX:∀ t∈T,t.text.length≤20000)(hi:s.i≤20010)(hh:Has T s)(h:Dn T w0 w r vr vl vh vd s) :
  Calls Tryz.prog 99 #[.pointer (some ⟨r,0,none⟩)] w fun e w'=>e=.returned (.int .i64 (ngO (txB T s)))∧Dn T w0 w' r vr vl vh vd (s.nb T numO)∧Exr r w w':=by
 have hl:=txB_len (s:=s) hX
 replace h:=hid h
 replace hh:=hid hh
 obtain⟨B,hB⟩:∃ B,decide ((0:Int)≤ngO (txB T s))=B:=⟨_,rfl⟩
 have hs:s.nb T numO=if B then s.inc else s.fl T 7:=by
  unfold Dst.nb
  rw [←hB]
  unfold ngO
  cases hq:numO (txB T s) with
  | none=>rfl
  | some v =>
   have:=(num_to hq).2.1
   simp [Int.not_lt.1 this]
 obtain⟨S',hS⟩:∃ S',s.nb T numO=S':=⟨_,rfl⟩
 rw [hS] at hs ⊢
 obtain⟨V,hV⟩:∃ V,ngO (txB T s)=V:=⟨_,rfl⟩
 rw [hV] at hB ⊢
 replace hs:=hid hs
 clear hS
 replace hV:=hid hV
 go_enter Tryz.func99,Tryz.ntmps99
 go_wp2_with fail
 refine (textD_c T w0 _ r vr vl vh vd s hT hh.out h.out).mono ?_
 rintro e w1 ⟨rfl,hx⟩
 replace h:=hid <| h.out.on hx
 replace hx:=show Hid (Exr r w w1) from .of hx
 go_wp2_with fail
 refine (Number_c _ _ hl).mono ?_
 rintro e w2 ⟨rfl,hx2⟩
 rw [hV.out]
 replace h:=hid <| h.out.on hx2
 replace hx:=hid <| hx.out.on hx2
 clear hx2
 go_wp2_with fail
 refine (done_c T w0 _ r B vr vl vh vd s hT hi hh.out h.out).mono ?_
 rintro e w3 ⟨rfl,h3,hx3⟩
 rw [←hs.out] at h3
 replace h3:=hid h3
 replace hx:=hid <| hx.out.trans hx3
 clear hx3
 go_wp2
 go_ret
 exact⟨rfl,h3.out,hx.out⟩
theorem rateD_c (T:List Tok)(w0 w:World)(r:Nat)(vr vl vh vd:Value)(s:Dst)(hT:T.length≤20010)(hX:∀ t∈T,t.text.length≤20000)(hi:s.i≤20010)(hh:Has T s)(he0:Hid (Env w0))(h:Dn T w0 w r vr vl vh vd s) :
  Calls Tryz.prog 100 #[.pointer (some ⟨r,0,none⟩)] w fun e w'=>(∃ x:Int,e=.returned (.int .i64 x)∧∀ v,rateO (txB T s)=some v→x=v)∧Dn T w0 w' r vr vl vh vd (s.nb T rateO)∧Exr r w w':=by
 have hl:=txB_len (s:=s) hX
 have he:Hid (Env w):=he0.out.ext h.ext
 replace h:=hid h
 replace hh:=hid hh
 obtain⟨E,hE⟩:∃ E,(L2.takeR (txB T s)).2=E:=⟨_,rfl⟩
 obtain⟨B,hB⟩:∃ B,(E==0)=B:=⟨_,rfl⟩
 have hs:s.nb T rateO=if B then s.inc else s.fl T 7:=by
  unfold Dst.nb rateO
  rw [←hB,←hE]
  by_cases h:(L2.takeR (txB T s)).2=0
  ·rw [if_pos h,h];rfl
  ·rw [if_neg h,show ((L2.takeR (txB T s)).2==0)=false by simpa using h];rfl
 have hq:∀ v,rateO (txB T s)=some v→(L2.takeR (txB T s)).1=v:=fun v hv=>by
  unfold rateO at hv
  split at hv
  ·exact Option.some.inj hv
  ·cases hv
 obtain⟨V,hV⟩:∃ V,(L2.takeR (txB T s)).1=V:=⟨_,rfl⟩
 rw [hV] at hq
 obtain⟨S',hS⟩:∃ S',s.nb T rateO=S':=⟨_,rfl⟩
 rw [hS] at hs ⊢
 replace hs:=hid hs
 clear hS
 replace hV:=hid hV
 replace hE:=hid hE
 replace hq:=hid hq
 go_enter Tryz.func100,Tryz.ntmps100
 go_wp2_with fail
 refine (textD_c T w0 _ r vr vl vh vd s hT hh.out h.out).mono ?_
 rintro e w1 ⟨rfl,hx⟩
 have he1:Hid (Env w1):=he.out.ext hx
 replace h:=hid <| h.out.on hx
 replace hx:=show Hid (Exr r w w1) from .of hx
 go_wp2_with fail
 refine (L2.rtakeRate_c _ _ hl).mono ?_
 rintro e w2 ⟨rfl,hx2⟩
 rw [hV.out,hE.out]
 replace h:=hid <| h.out.on hx2
 replace hx:=hid <| hx.out.on hx2
 clear hx2
 go_wp2_with fail
 refine (done_c T w0 _ r B vr vl vh vd s hT hi hh.out h.out).mono ?_
 rintro e w3 ⟨rfl,h3,hx3⟩
 rw [←hs.out] at h3
 replace h3:=hid h3
 replace hx:=hid <| hx.out.trans hx3
 clear hx3
 go_wp2
 go_ret
 exact⟨⟨_,rfl,hq.out⟩,h3.out,hx.out⟩
theorem moneyD_c (T:List Tok)(w0 w:World)(r:Nat)(vr vl vh vd:Value)(s:Dst)(hT:T.length≤20010)(hX:∀ t∈T,t.text.length≤20000)(hi:s.i≤20010)(hh:Has T s)(he0:Hid (Env w0))(h:Dn T w0 w r vr vl vh vd s) :
  Calls Tryz.prog 101 #[.pointer (some ⟨r,0,none⟩)] w fun e w'=>(∃ x:Int,e=.returned (.int .i64 x)∧∀ v,monO (txB T s)=some v→x=v)∧Dn T w0 w' r vr vl vh vd (s.nb T monO)∧Exr r w w':=by
 have hl:=txB_len (s:=s) hX
 have he:Hid (Env w):=he0.out.ext h.ext
 replace h:=hid h
 replace hh:=hid hh
 obtain⟨E,hE⟩:∃ E,(L2.takeM (txB T s)).2=E:=⟨_,rfl⟩
 obtain⟨B,hB⟩:∃ B,(E==0)=B:=⟨_,rfl⟩
 have hs:s.nb T monO=if B then s.inc else s.fl T 7:=by
  unfold Dst.nb monO
  rw [←hB,←hE]
  by_cases h:(L2.takeM (txB T s)).2=0
  ·rw [if_pos h,h];rfl
  ·rw [if_neg h,show ((L2.takeM (txB T s)).2==0)=false by simpa using h];rfl
 have hq:∀ v,monO (txB T s)=some v→(L2.takeM (txB T s)).1=v:=fun v hv=>by
  unfold monO at hv
  split at hv
  ·exact Option.some.inj hv
  ·cases hv
 obtain⟨V,hV⟩:∃ V,(L2.takeM (txB T s)).1=V:=⟨_,rfl⟩
 rw [hV] at hq
 obtain⟨S',hS⟩:∃ S',s.nb T monO=S':=⟨_,rfl⟩
 rw [hS] at hs ⊢
 replace hs:=hid hs
 clear hS
 replace hV:=hid hV
 replace hE:=hid hE
 replace hq:=hid hq
 go_enter Tryz.func101,Tryz.ntmps101
 go_wp2_with fail
 refine (textD_c T w0 _ r vr vl vh vd s hT hh.out h.out).mono ?_
 rintro e w1 ⟨rfl,hx⟩
 have he1:Hid (Env w1):=he.out.ext hx
 replace h:=hid <| h.out.on hx
 replace hx:=show Hid (Exr r w w1) from .of hx
 go_wp2_with fail
 refine (L2.rtakeMoney_c _ _ hl).mono ?_
 rintro e w2 ⟨rfl,rfl⟩
 have hx2:=Ext.refl w2
 rw [hV.out,hE.out]
 replace h:=hid <| h.out.on hx2
 replace hx:=hid <| hx.out.on hx2
 clear hx2
 go_wp2_with fail
 refine (done_c T w0 _ r B vr vl vh vd s hT hi hh.out h.out).mono ?_
 rintro e w3 ⟨rfl,h3,hx3⟩
 rw [←hs.out] at h3
 replace h3:=hid h3
 replace hx:=hid <| hx.out.trans hx3
 clear hx3
 go_wp2
 go_ret
 exact⟨⟨_,rfl,hq.out⟩,h3.out,hx.out⟩
theorem dateD_c (T:List Tok)(w0 w:World)(r:Nat)(vr vl vh vd:Value)(s:Dst)(hT:T.length≤20010)(hX:∀ t∈T,t.text.length≤20000)(hi:s.i≤20010)(hh:Has T s)(he0:Hid (Env w0))(h:Dn T w0 w r vr vl vh vd s) :
  Calls Tryz.prog 102 #[.pointer (some ⟨r,0,none⟩)] w fun e w'=>(∃ x:Int,e=.returned (.int .i64 x)∧∀ v,dayO (txB T s)=some v→x=v)∧Dn T w0 w' r vr vl vh vd (s.nb T dayO)∧Exr r w w':=by
 have hl:=txB_len (s:=s) hX
 have he:Hid (Env w):=he0.out.ext h.ext
 replace h:=hid h
 replace hh:=hid hh
 obtain⟨E,hE⟩:∃ E,L3.takE (txB T s)=E:=⟨_,rfl⟩
 obtain⟨B,hB⟩:∃ B,(E==0)=B:=⟨_,rfl⟩
 have hs:s.nb T dayO=if B then s.inc else s.fl T 7:=by
  unfold Dst.nb dayO
  rw [←hB,←hE]
  by_cases h:L3.takE (txB T s)=0
  ·rw [if_pos h,h];rfl
  ·rw [if_neg h,show (L3.takE (txB T s)==0)=false by simpa using h];rfl
 have hq:∀ v,dayO (txB T s)=some v→L3.takA (txB T s)=v:=fun v hv=>by
  unfold dayO at hv
  split at hv
  ·exact Option.some.inj hv
  ·cases hv
 obtain⟨V,hV⟩:∃ V,L3.takA (txB T s)=V:=⟨_,rfl⟩
 rw [hV] at hq
 obtain⟨S',hS⟩:∃ S',s.nb T dayO=S':=⟨_,rfl⟩
 rw [hS] at hs ⊢
 replace hs:=hid hs
 clear hS
 replace hV:=hid hV
 replace hE:=hid hE
 replace hq:=hid hq
 go_enter Tryz.func102,Tryz.ntmps102
 go_wp2_with fail
 refine (textD_c T w0 _ r vr vl vh vd s hT hh.out h.out).mono ?_
 rintro e w1 ⟨rfl,hx⟩
 have he1:Hid (Env w1):=he.out.ext hx
 replace h:=hid <| h.out.on hx
 replace hx:=show Hid (Exr r w w1) from .of hx
 go_wp2_with fail
 refine (L3.rTake_c _ _ (by omega) he1.out.three).mono ?_
 rintro e w2 ⟨rfl,hx2⟩
 rw [hV.out,hE.out]
 replace h:=hid <| h.out.on hx2
 replace hx:=hid <| hx.out.on hx2
 clear hx2
 go_wp2_with fail
 refine (done_c T w0 _ r B vr vl vh vd s hT hi hh.out h.out).mono ?_
 rintro e w3 ⟨rfl,h3,hx3⟩
 rw [←hs.out] at h3
 replace h3:=hid h3
 replace hx:=hid <| hx.out.trans hx3
 clear hx3
 go_wp2
 go_ret
 exact⟨⟨_,rfl,hq.out⟩,h3.out,hx.out⟩
def Endt (T:List Tok):Prop:=∃ pre e,T=pre++[e]∧e.text = []
theorem Endt.next {T:List Tok}{i:Nat}{t:Tok}(h:Endt T)(ht:T[i]?=some t)(hn:t.text≠[]):∃ u,T[i+1]?=some u:=by
 obtain⟨pre,e,rfl,he⟩:=h
 have hlt:=(List.getElem?_eq_some_iff.1 ht).1
 simp only [List.length_append,List.length_cons,List.length_nil] at hlt
 by_cases hi:i<pre.length
 ·exact ⟨_,List.getElem?_eq_getElem (by simp;omega)⟩
 ·obtain rfl:i=pre.length:=by omega
  simp at ht
  exact absurd (ht ▸ he) hn
structure Oks (T:List Tok)(s:Dst):Prop where
 le:s.i≤T.length
 has:Has T s
theorem Oks.fl {T:List Tok}{s:Dst}(h:Oks T s){x:Nat}(hx:x≠0):Oks T (s.fl T x):=by
 unfold Dst.fl
 split
 ·exact ⟨h.le,fun he=>absurd he hx⟩
 ·exact h
theorem Oks.inc {T:List Tok}{s:Dst}{t:Tok}(hE:Endt T)(ht:T[s.i]?=some t)(hn:t.text≠[]):Oks T s.inc:=by
 have hlt:=(List.getElem?_eq_some_iff.1 ht).1
 exact⟨hlt,fun _=>hE.next ht hn⟩
theorem wdF_has {T:List Tok}{s:Dst}:∀ (L:List (List UInt8)) (k j:Nat),wdF T s k L=some j→∃ u∈L,isB T s 1 u=true
 | [],k,j,h=>by cases h
 | u::L,k,j,h=>by
  rw [wdF] at h
  split at h
  ·rename_i hB;exact ⟨u,by simp,hB⟩
  ·obtain ⟨v,hv,hB⟩:=wdF_has L _ _ h
   exact⟨v,by simp [hv],hB⟩
theorem Oks.wd {T:List Tok}{s:Dst}(h:Oks T s)(hE:Endt T){L:List (List UInt8)}(hL:∀ u∈L,u≠[]):Oks T (s.wd T L):=by
 unfold Dst.wd
 cases hq:wdF T s 0 L with
 | none=>exact h.fl (by decide)
 | some j =>
  obtain⟨u,hu,hB⟩:=wdF_has L 0 j hq
  obtain⟨_,t,ht,_,rfl⟩:=isB_has hB
  exact Oks.inc hE ht (hL _ hu)
theorem Oks.sg {T:List Tok}{s:Dst}(h:Oks T s)(hE:Endt T){k:Int}{l:List UInt8}(hl:l≠[]):Oks T (s.sg T k l):=by
 unfold Dst.sg
 split
 ·rename_i hB
  obtain⟨_,t,ht,_,rfl⟩:=isB_has hB
  exact Oks.inc hE ht hl
 ·exact h.fl (by decide)
theorem Oks.nb {T:List Tok}{s:Dst}(h:Oks T s)(hE:Endt T){o:List UInt8→Option Int}(ho:o []=none):Oks T (s.nb T o):=by
 unfold Dst.nb
 cases hq:o (txB T s) with
 | none=>exact h.fl (by decide)
 | some v =>
  have hne:txB T s≠[]:=fun e=>by rw [e,ho] at hq;cases hq
  unfold txB at hne
  split at hne
  ·cases ht:T[s.i]? with
   | none=>rw [ht] at hne;exact absurd rfl hne
   | some t =>
    rw [ht] at hne
    simp only [] at hne
    split at hne
    ·exact Oks.inc hE ht hne
    ·exact absurd rfl hne
  ·exact absurd rfl hne
theorem drop_tok {T:List Tok}{i:Nat}{t:Tok}{ts:List Tok}(h:T.drop i=t::ts):T[i]?=some t∧T.drop (i+1)=ts:=by
 refine⟨?_,?_⟩
 ·have:(T.drop i)[0]?=some t:=by rw [h];rfl
  simpa using this
 ·rw [←List.drop_drop,h];rfl
theorem tok_drop {T:List Tok}{i:Nat}{t:Tok}(h:T[i]?=some t):T.drop i=t::T.drop (i+1):=by
 obtain⟨hk,e⟩:=List.getElem?_eq_some_iff.1 h
 rw [List.drop_eq_getElem_cons hk,e]
theorem fl_at {T:List Tok}{s:Dst}{t:Tok}{x:Nat}(he:s.e=0)(ht:T[s.i]?=some t):s.fl T x = { s with e:=x,a:=t.at_ }:=by
 unfold Dst.fl
 rw [if_pos he,ht]
 rfl
theorem txB_at {T:List Tok}{s:Dst}{t:Tok}(he:s.e=0)(ht:T[s.i]?=some t):txB T s=if t.kind=2 then t.text else []:=by
 unfold txB
 rw [if_pos he,ht]
theorem nb_at {T:List Tok}{s:Dst}{t:Tok}{o:List UInt8→Option Int}(ho:o []=none)(hk:∀ {l v},o l=some v→L7.kd l=2)(he:s.e=0)(ht:T[s.i]?=some t)(hK:Kin t) :
  o (txB T s)=o t.text∧s.nb T o=if (o t.text).isSome then s.inc else { s with e:=7,a:=t.at_ }:=by
 have h1:o (txB T s)=o t.text:=by
  rw [txB_at he ht]
  split
  ·rfl
  ·rename_i h2
   rw [ho,kin_none hk hK h2]
 refine⟨h1,?_⟩
 unfold Dst.nb
 rw [h1,fl_at he ht]
def ixF:Nat→List (List UInt8)→List UInt8→Option Nat
 | _,[],_=>none
 | k,u::L,l=>if u=l then some k else ixF (k+1) L l
theorem wdF_at2 {T:List Tok}{s:Dst}{t:Tok}(he:s.e=0)(ht:T[s.i]?=some t)(hK:Kin t):∀ (L:List (List UInt8)) (k:Nat),(∀ u∈L,L7.kd u=1)→wdF T s k L=ixF k L t.text
 | [],k,_=>rfl
 | u::L,k,hL=>by
  rw [wdF,ixF,wdF_at2 he ht hK L (k+1) (fun v hv=>hL v (by simp [hv]))]
  have hB:isB T s 1 u=decide (u=t.text):=by
   unfold isB
   rw [he,ht]
   by_cases hq:u=t.text
   ·subst hq
    have:t.kind=1:=hK.trans (hL _ (by simp))
    simp [this]
   ·have hq':¬ t.text=u:=fun e=>hq e.symm
    simp [hq,hq']
  rw [hB]
  by_cases hq:u=t.text
  ·simp [hq]
  ·simp [hq]
def wCount:List (List UInt8):=[[116,104,105,114,116,121],[102,105,120,101,100],[97,99,116,117,97,108]]
def wRound:List (List UInt8):=[[104,97,108,102,45,117,112],[100,111,119,110]]
def wKind:List (List UInt8):=[[97,110,110,117,105,116,121],[101,113,117,97,108],[98,117,108,108,101,116]]
def wOver:List (List UInt8):=[[104,111,108,100],[112,114,101,112,97,121],[114,101,102,117,110,100]]
def wRoll:List (List UInt8):=[[115,116,97,121],[110,101,120,116],[119,105,116,104,105,110],[112,114,101,118,105,111,117,115]]
def wOrder:List (List UInt8):=[[102,101,101,115],[112,101,110,97,108,116,121],[105,110,116,101,114,101,115,116],[112,114,105,110,99,105,112,97,108]]
def rdV (k:Nat):Int:=if k=0 then 1 else 3
theorem wd_at {T:List Tok}{s:Dst}{t:Tok}{L:List (List UInt8)}(hL:∀ u∈L,L7.kd u=1)(he:s.e=0)(ht:T[s.i]?=some t)(hK:Kin t) :
  s.wd T L=(if (ixF 0 L t.text).isSome then s.inc else { s with e:=7,a:=t.at_ })∧wdV T L s=(ixF 0 L t.text).getD 0:=by
 unfold Dst.wd wdV
 rw [wdF_at2 he ht hK L 0 hL,fl_at he ht]
 exact⟨rfl,rfl⟩
theorem pick_less (l:List UInt8):∀ (o:Opts) (v:Int),(o.map (·.2)).Nodup→(o.map (·.1)).Nodup→pick (lessO o v) l=(pick o l).bind fun x=>if x=v then none else some x
 | [],v,_,_=>rfl
 | (s,x)::o,v,h1,h2=>by
  simp only [List.map_cons,List.nodup_cons] at h1 h2
  have ih:=pick_less l o v h1.2 h2.2
  unfold lessO at ih ⊢
  rw [List.filter_cons]
  by_cases hx:x=v
  ·subst hx
   simp only [decide_true,Bool.not_true,Bool.false_eq_true,if_false]
   rw [ih]
   by_cases hs:s=l
   ·subst hs
    have hno:pick o s=none:=by
     cases hp:pick o s with
     | none=>rfl
     | some y =>
      obtain⟨i,hi⟩:=pick_mem' hp
      exact absurd (List.mem_map.2 ⟨_,List.mem_of_getElem? hi,rfl⟩) h2.1
    rw [hno]
    simp [pick]
   ·simp [pick,hs]
  ·have hd:(!decide (x=v))=true:=by simp [hx]
   simp only [hd,if_true]
   by_cases hs:s=l
   ·simp [pick,hs,hx]
   ·simp only [pick,if_neg hs]
    exact ih
where
 pick_mem' {o:Opts} {l:List UInt8} {v:Int} (h:pick o l=some v):∃ i:Nat,o[i]?=some (l,v):=by
  induction o with
  | nil=>cases h
  | cons x o ih =>
   obtain⟨s,y⟩:=x
   rw [pick] at h
   split at h
   ·rename_i hs;subst hs
    obtain rfl:=Option.some.inj h
    exact⟨0,rfl⟩
   ·obtain ⟨i,hi⟩:=ih h
    exact⟨i+1,by simpa using hi⟩
end Go.Proofs.YtcijdkbopiaicaaGreatDoor
