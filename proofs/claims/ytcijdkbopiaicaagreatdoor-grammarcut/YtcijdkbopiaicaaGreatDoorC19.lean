/- Contracts that the proof of this law leans on: no statement of the seat is proved here. -/
import Derived.Test.YtcijdkbopiaicaaGreatDoorC15
import Derived.Test.YtcijdkbopiaicaaGreatDoorC17
set_option linter.unusedVariables false
set_option maxRecDepth 100000
set_option maxHeartbeats 8000000
namespace Go.Proofs.YtcijdkbopiaicaaGreatDoor
def qc19x0:Oper:=⟨some 11,Op.fieldAddr 27 (.tmp 2) 1,0,"play.go:21",#[],none⟩
def qc19x1:Oper:=⟨some 12,Op.load 3 (.tmp 11),3,"play.go:21",#[⟨0,.data⟩],none⟩
def qc19x2:Oper:=⟨some 13,Op.convert 3 33 (.tmp 12),33,"play.go:21",#[⟨1,.data⟩],none⟩
def qc19x3:Oper:=⟨some 14,Op.binOp BinOp.rem 33 (.tmp 13) (.const (Value.int .u64 3)) 33,33,"play.go:21",#[⟨2,.data⟩],none⟩
def qc19x4:Oper:=⟨some 15,Op.convert 33 3 (.tmp 14),3,"play.go:21",#[⟨3,.data⟩],none⟩
def qc19x5:Oper:=⟨some 16,Op.binOp BinOp.add 3 (.const (Value.int .i64 1)) (.tmp 15) 3,3,"play.go:21",#[⟨4,.data⟩],none⟩
def qc19x6:Oper:=⟨some 17,Op.fieldAddr 27 (.tmp 2) 3,0,"play.go:21",#[⟨13,.gcOnly .lateStores⟩],none⟩
def qc19x7:Oper:=⟨some 18,Op.load 3 (.tmp 17),3,"play.go:21",#[⟨6,.data⟩,⟨13,.gcOnly .lateStores⟩],none⟩
def qc19x8:Oper:=⟨some 19,Op.convert 3 33 (.tmp 18),33,"play.go:21",#[⟨7,.data⟩,⟨13,.gcOnly .lateStores⟩],none⟩
def qc19x9:Oper:=⟨some 20,Op.binOp BinOp.rem 33 (.tmp 19) (.const (Value.int .u64 3)) 33,33,"play.go:21",#[⟨8,.data⟩,⟨13,.gcOnly .lateStores⟩],none⟩
def qc19x10:Oper:=⟨some 21,Op.convert 33 3 (.tmp 20),3,"play.go:21",#[⟨9,.data⟩,⟨13,.gcOnly .lateStores⟩],none⟩
def qc19x11:Oper:=⟨some 22,Op.binOp BinOp.add 3 (.const (Value.int .i64 1)) (.tmp 21) 3,3,"play.go:21",#[⟨10,.data⟩,⟨13,.gcOnly .lateStores⟩],none⟩
def qc19x12:Oper:=⟨some 23,Op.fieldAddr 27 (.tmp 5) 1,0,"play.go:21",#[⟨0,.phase⟩,⟨1,.phase⟩,⟨2,.phase⟩,⟨3,.phase⟩,⟨4,.phase⟩,⟨5,.phase⟩,⟨6,.textOnly .lateStores⟩,⟨7,.textOnly .lateStores⟩,⟨8,.textOnly .lateStores⟩,⟨9,.textOnly .lateStores⟩,⟨10,.textOnly .lateStores⟩,⟨11,.textOnly .lateStores⟩],none⟩
def qc19x13:Oper:=⟨none,.store 3 (.tmp 23) (.tmp 16),0,"play.go:21",#[⟨12,.data⟩,⟨5,.data⟩,⟨0,.phase⟩,⟨1,.phase⟩,⟨2,.phase⟩,⟨3,.phase⟩,⟨4,.phase⟩,⟨5,.phase⟩,⟨6,.textOnly .lateStores⟩,⟨7,.textOnly .lateStores⟩,⟨8,.textOnly .lateStores⟩,⟨9,.textOnly .lateStores⟩,⟨10,.textOnly .lateStores⟩,⟨11,.textOnly .lateStores⟩],none⟩
def qc19x14:Oper:=⟨some 24,Op.fieldAddr 27 (.tmp 5) 3,0,"play.go:21",#[⟨0,.phase⟩,⟨1,.phase⟩,⟨2,.phase⟩,⟨3,.phase⟩,⟨4,.phase⟩,⟨5,.phase⟩,⟨6,.phase⟩,⟨7,.phase⟩,⟨8,.phase⟩,⟨9,.phase⟩,⟨10,.phase⟩,⟨11,.phase⟩,⟨12,.phase⟩,⟨13,.phase⟩],none⟩
def qc19x15:Oper:=⟨none,.store 3 (.tmp 24) (.tmp 22),0,"play.go:21",#[⟨14,.data⟩,⟨11,.data⟩,⟨13,.chain⟩,⟨0,.phase⟩,⟨1,.phase⟩,⟨2,.phase⟩,⟨3,.phase⟩,⟨4,.phase⟩,⟨5,.phase⟩,⟨6,.phase⟩,⟨7,.phase⟩,⟨8,.phase⟩,⟨9,.phase⟩,⟨10,.phase⟩,⟨11,.phase⟩,⟨12,.phase⟩,⟨13,.phase⟩],none⟩
def qc19x16:Oper:=⟨some 52,Op.fieldAddr 27 (.tmp 2) 7,0,"play.go:25",#[],none⟩
def qc19x17:Oper:=⟨some 53,Op.load 2 (.tmp 52),2,"play.go:25",#[⟨0,.data⟩],none⟩
def qc19x18:Oper:=⟨some 54,Op.convert 2 50 (.tmp 53),50,"play.go:25",#[⟨1,.data⟩],none⟩
def qc19x19:Oper:=⟨some 55,Op.binOp BinOp.rem 50 (.tmp 54) (.const (Value.int .u64 300000000)) 50,50,"play.go:25",#[⟨2,.data⟩],none⟩
def qc19x20:Oper:=⟨some 56,Op.convert 50 2 (.tmp 55),2,"play.go:25",#[⟨3,.data⟩],none⟩
def qc19x21:Oper:=⟨some 57,Op.fieldAddr 27 (.tmp 2) 9,0,"play.go:25",#[⟨11,.gcOnly .lateStores⟩],none⟩
def qc19x22:Oper:=⟨some 58,Op.load 2 (.tmp 57),2,"play.go:25",#[⟨5,.data⟩,⟨11,.gcOnly .lateStores⟩],none⟩
def qc19x23:Oper:=⟨some 59,Op.convert 2 50 (.tmp 58),50,"play.go:25",#[⟨6,.data⟩,⟨11,.gcOnly .lateStores⟩],none⟩
def qc19x24:Oper:=⟨some 60,Op.binOp BinOp.rem 50 (.tmp 59) (.const (Value.int .u64 500000000)) 50,50,"play.go:25",#[⟨7,.data⟩,⟨11,.gcOnly .lateStores⟩],none⟩
def qc19x25:Oper:=⟨some 61,Op.convert 50 2 (.tmp 60),2,"play.go:25",#[⟨8,.data⟩,⟨11,.gcOnly .lateStores⟩],none⟩
def qc19x26:Oper:=⟨some 62,Op.fieldAddr 27 (.tmp 5) 7,0,"play.go:25",#[⟨0,.phase⟩,⟨1,.phase⟩,⟨2,.phase⟩,⟨3,.phase⟩,⟨4,.phase⟩,⟨5,.textOnly .lateStores⟩,⟨6,.textOnly .lateStores⟩,⟨7,.textOnly .lateStores⟩,⟨8,.textOnly .lateStores⟩,⟨9,.textOnly .lateStores⟩],none⟩
def qc19x27:Oper:=⟨none,.store 2 (.tmp 62) (.tmp 56),0,"play.go:25",#[⟨10,.data⟩,⟨4,.data⟩,⟨0,.phase⟩,⟨1,.phase⟩,⟨2,.phase⟩,⟨3,.phase⟩,⟨4,.phase⟩,⟨5,.textOnly .lateStores⟩,⟨6,.textOnly .lateStores⟩,⟨7,.textOnly .lateStores⟩,⟨8,.textOnly .lateStores⟩,⟨9,.textOnly .lateStores⟩],none⟩
def qc19x28:Oper:=⟨some 63,Op.fieldAddr 27 (.tmp 5) 9,0,"play.go:25",#[⟨0,.phase⟩,⟨1,.phase⟩,⟨2,.phase⟩,⟨3,.phase⟩,⟨4,.phase⟩,⟨5,.phase⟩,⟨6,.phase⟩,⟨7,.phase⟩,⟨8,.phase⟩,⟨9,.phase⟩,⟨10,.phase⟩,⟨11,.phase⟩],none⟩
def qc19x29:Oper:=⟨none,.store 2 (.tmp 63) (.tmp 61),0,"play.go:25",#[⟨12,.data⟩,⟨9,.data⟩,⟨11,.chain⟩,⟨0,.phase⟩,⟨1,.phase⟩,⟨2,.phase⟩,⟨3,.phase⟩,⟨4,.phase⟩,⟨5,.phase⟩,⟨6,.phase⟩,⟨7,.phase⟩,⟨8,.phase⟩,⟨9,.phase⟩,⟨10,.phase⟩,⟨11,.phase⟩],none⟩
end Go.Proofs.YtcijdkbopiaicaaGreatDoor
namespace Go.Proofs.YtcijdkbopiaicaaGreatDoor
open Go.RowKit Go.Lib
theorem rCheck_q (p:Prd)(vr vl vh:Value)(B:Bool)(hB:okP p=B)(w:World)(h0:p.nm.length≤9223372036854775807)(h1:p.rs.length≤9223372036854775807)(h2:p.lt.length≤9223372036854775807)(h3:p.hd.length≤9223372036854775807)(sr:L8.Slp w vr p.rs)(sl:L8.Slp w vl p.lt)(sh:L8.Slc w vh p.hd) :
  Calls Tryz.prog 10 #[.agg (pcells p vr vl vh)] w fun e w'=>e=.returned (.int .i64 (if B then 0 else 9))∧Ext w w' :=
 L8.rCheck_x p.nm p.cn p.rd p.kd p.ev p.tm p.gr p.rt vr p.rs p.pn p.o0 p.o1 p.o2 p.o3 p.ov vl p.lt p.cp p.rl vh p.hd (if B then 0 else 9) (by rw [←hB];rfl) w h0 h1 h2 h3 sr sl sh
def pl0:Prd:=⟨[104,111,109,101],2,1,1,1,12,0,60000000,[],100000000,1,2,3,4,1,[],0,1,[]⟩
structure Ply (p:Prd)(vr vl vh:Value)(w wx:World)(b r o:Nat)(q:Prd)(ur ul uh:Value):Prop where
 ext:Ext w wx
 lo:w.heap.size≤o
 lr:w.heap.size≤r
 nb:b≠o
 nr:r≠o
 box:Blk wx b (pcells p vr vl vh)
 res:Blk wx r zP
 out:Blk wx o (pcells q ur ul uh)
 sr:L8.Slp w ur q.rs
 sl:L8.Slp w ul q.lt
 sh:L8.Slc w uh q.hd
 nm:q.nm.length≤30000
 few:q.rs.length+q.lt.length+q.hd.length≤30000
theorem Ply.on {p:Prd}{vr vl vh:Value}{w wx wy:World}{b r o:Nat}{q:Prd}{ur ul uh:Value}(h:Ply p vr vl vh w wx b r o q ur ul uh)(hx:Ext wx wy):Ply p vr vl vh w wy b r o q ur ul uh :=
 ⟨h.ext.trans hx,h.lo,h.lr,h.nb,h.nr,h.box.ext hx,h.res.ext hx,h.out.ext hx,h.sr,h.sl,h.sh,h.nm,h.few⟩
theorem Ply.put {p:Prd}{vr vl vh:Value}{w wx:World}{b r o:Nat}{q:Prd}{ur ul uh:Value}(h:Ply p vr vl vh w wx b r o q ur ul uh)(k:Nat)(v:Value)(q':Prd)(hq:(pcells q ur ul uh).setIfInBounds k v=pcells q' ur ul uh)(h0:q'.nm=q.nm)(h1:q'.rs=q.rs)(h2:q'.lt=q.lt)(h3:q'.hd=q.hd):Ply p vr vl vh w (wx.setCell ⟨o,k,none⟩ v) b r o q' ur ul uh:=by
 refine⟨h.ext.setCell h.lo v,h.lo,h.lr,h.nb,h.nr,L8.Blk.other h.box k v h.nb,L8.Blk.other h.res k v h.nr,?_,h1 ▸ h.sr,h2 ▸ h.sl,h3 ▸ h.sh,h0 ▸ h.nm,by rw [h1,h2,h3];exact h.few⟩
 rw [←hq]
 exact L8.Blk.set h.out k v
theorem Ply.bare {p:Prd}{vr vl vh:Value}{w wx:World}{b r o:Nat}{q:Prd}{ur ul uh:Value}(h:Ply p vr vl vh w wx b r o q ur ul uh):Ply p vr vl vh w (wx.setCell ⟨o,8,none⟩ (.slice none 0 0)) b r o { q with rs:=[] } (.slice none 0 0) ul uh:=by
 refine⟨h.ext.setCell h.lo _,h.lo,h.lr,h.nb,h.nr,L8.Blk.other h.box 8 _ h.nb,L8.Blk.other h.res 8 _ h.nr,?_,L8.nilr w,h.sl,h.sh,h.nm,by have:=h.few;show 0+q.lt.length+q.hd.length≤30000;omega⟩
 exact L8.Blk.set h.out 8 _
theorem one_of {w:World}{q:Prd}{ur ul uh:Value}(h1:L8.Slp w ur q.rs)(h2:L8.Slp w ul q.lt)(h3:L8.Slc w uh q.hd):(pcells q ur ul uh).all (·.oneCell')=true:=pcells_slp h1 h2 h3
theorem rem_is (x m:Int)(hm:0<m)(hM:m≤1000000000):∃ R:Int,(IntKind.u64.wrap x).tmod m=R∧0≤R∧R<m∧IntKind.i64.wrap R=R∧IntKind.i64.wrap (1+R)=1+R:=by
 have h0:0≤IntKind.u64.wrap x:=by rw [IntKind.wrap_u64];exact Int.emod_nonneg _ (by decide)
 have h1:=Int.tmod_nonneg m h0
 have h2:=Int.tmod_lt_of_pos (IntKind.u64.wrap x) hm
 exact⟨_,rfl,h1,h2,by rw [IntKind.wrap_i64];omega,by rw [IntKind.wrap_i64];omega⟩
theorem lay_n (w:World)(l:List Int):∃ W d,w.alloc (.cells (l.map (Value.int .i64)).toArray 3)=W∧w.heap.size=d∧Ext w W∧∀ k x,l[k]?=some x→W.cell? ⟨d,k,none⟩=some (.int .i64 x):=by
 refine⟨_,_,rfl,rfl,(Ext.refl w).alloc _ _,fun k x hk=>?_⟩
 refine (cell_of_row _ _ k _ _ _ (heap_alloc_last w _)).trans ?_
 simp [hk]
theorem Play_c (p:Prd)(vr vl vh:Value)(w:World)(h0:p.nm.length≤9223372036854775807)(h1:p.rs.length≤9223372036854775807)(h2:p.lt.length≤9223372036854775807)(h3:p.hd.length≤9223372036854775807)(sr:L8.Slp w vr p.rs)(sl:L8.Slp w vl p.lt)(sh:L8.Slc w vh p.hd) :
  Calls Tryz.prog 5 #[.agg (pcells p vr vl vh),.int .i64 40] w fun e w'=>Ext w w'∧∃ (q:Prd) (ur ul uh:Value),e=.returned (.agg (pcells q ur ul uh))∧L8.Slp w ur q.rs∧L8.Slp w ul q.lt∧L8.Slc w uh q.hd∧q.nm.length≤30000∧q.rs.length+q.lt.length+q.hd.length≤30000:=by
 have hone:=pcells_slp sr sl sh
 have hbox:=box_prod p vr vl vh hone
 obtain⟨W1,b,hW1,hb,hx1,hB1⟩:∃ W b,w.alloc (.cells (pcells p vr vl vh) 27)=W∧w.heap.size=b∧Ext w W∧Blk W b (pcells p vr vl vh):=⟨_,_,rfl,rfl,(Ext.refl w).alloc _ _,heap_alloc_last w _⟩
 obtain⟨W2,r,hW2,hr,hx2,hB2⟩:=layZ W1
 have hsz:(pcells p vr vl vh).size=19:=rfl
 obtain⟨B,hB⟩:∃ B,okP p=B:=⟨_,rfl⟩
 have hlr:Hid (b<r):=by show _<_;have:=(Array.getElem?_eq_some_iff.1 hB1).1;omega
 replace sr:Hid (L8.Slp w vr p.rs):=sr
 replace sl:Hid (L8.Slp w vl p.lt):=sl
 replace sh:Hid (L8.Slc w vh p.hd):=sh
 have hB1':Hid (Blk W2 b (pcells p vr vl vh)):=hB1.ext hx2
 replace hB2:Hid (Blk W2 r zP):=hB2
 replace hx2:=hid <| hx1.trans hx2
 clear hB1 hx1
 go_enter Tryz.func5,Tryz.ntmps5
 go_wp2_with fail
 refine (L8.Plain_c _).mono ?_
 rintro e w3 ⟨rfl,hx3⟩
 replace hb:=hid hb
 obtain⟨W4,o,hW4,ho,hx4,hB4⟩:=layZ w3
 have hro:Hid (r<o):=by show _<_;have:=(Array.getElem?_eq_some_iff.1 (hB2.out.ext hx3)).1;omega
 have hBb:Hid (Blk W4 b (pcells p vr vl vh)):=hB1'.out.ext (hx3.trans hx4)
 have hBr:Hid (Blk W4 r zP):=hB2.out.ext (hx3.trans hx4)
 replace hx4:=hid <| (hx2.out.trans hx3).trans hx4
 clear hx3 hB1' hB2 hx2 hW1 hW2 hr hbox
 have hpo:(pcells pl0 (.slice none 0 0) (.slice none 0 0) (.slice none 0 0)).all (·.oneCell')=true:=one_of (w:=w) (L8.nilr w) (L8.nilr w) (L8.nilh w)
 have hlR:Hid (w.heap.size≤r):=by show _≤_;have:=hb.out;have:=hlr.out;omega
 have hlo:Hid (w.heap.size≤o):=by show _≤_;have:=hx4.out.size;have:=hb.out;have:=hlr.out;have:=hro.out;omega
 go_wp2_with (refine store27 (cs:=pcells pl0 (.slice none 0 0) (.slice none 0 0) (.slice none 0 0)) hB4 rfl rfl hpo rfl rfl rfl rfl ?_)
 intro W5 hB5 hx5
 have hP:Hid (Ply p vr vl vh w W5 b r o pl0 (.slice none 0 0) (.slice none 0 0) (.slice none 0 0)):=⟨hx5.ext hx4.out hlo.out,hlo.out,hlR.out,by have:=hlr.out;have:=hro.out;omega,by have:=hro.out;omega,hBb.out.exr hx5 (by have:=hlr.out;have:=hro.out;omega),hBr.out.exr hx5 (by have:=hro.out;omega),hB5,L8.nilr w,L8.nilr w,L8.nilh w,by decide,by decide⟩
 clear hW4 ho hB4 hB5 hx5 hpo hBb hBr hx4 hlo hlR hro hlr hb
 have hBb:=hP.out.box
 go_wp2_with (refine load27 hBb hsz rfl rfl rfl ?_)
 refine (rCheck_q p vr vl vh B hB _ h0 h1 h2 h3 (sr.out.ext hP.out.ext) (sl.out.ext hP.out.ext) (sh.out.ext hP.out.ext)).mono ?_
 rintro e w6 ⟨rfl,hx6⟩
 replace hP:Hid (Ply p vr vl vh w w6 b r o pl0 (.slice none 0 0) (.slice none 0 0) (.slice none 0 0)):=hP.out.on hx6
 clear hx6 hBb
 go_upto_if 9 with fail
 go_cut [5,8,9] from 10 to 70 (fun x _ _ wx=>x=.pointer (some ⟨o,0,none⟩)∧∃ (q:Prd) (ur ul uh:Value),Hid (Ply p vr vl vh w wx b r o q ur ul uh))
 case first =>
  cases B
  case true =>
   have hK:=okf hB
   have hQ:Ply p vr vl vh w w6 b r o pl0 (.slice none 0 0) (.slice none 0 0) (.slice none 0 0):=hP.out
   have hBb:=hQ.box
   have hBo:=hQ.out
   simp only [if_true]
   go_wp2_with (first | refine load27 hBb hsz rfl rfl rfl ?_ | refine store27 (cs:=pcells p vr vl vh) hBo rfl rfl hone rfl rfl rfl rfl ?_)
   intro W7 hB7 hx7
   go_wp2
   go_meet
   exact⟨rfl,p,vr,vl,vh,⟨hx7.ext hQ.ext hQ.lo,hQ.lo,hQ.lr,hQ.nb,hQ.nr,hQ.box.exr hx7 hQ.nb,hQ.res.exr hx7 hQ.nr,hB7,sr.out,sl.out,sh.out,by have:=hK.nl;omega,by have:=hK.rl_;have:=hK.ll;have:=hK.hl;omega⟩⟩
  case false =>
  clear hB hone hsz
  obtain⟨q,ur,ul,uh,hP⟩:∃ (q:Prd) (ur ul uh:Value),Hid (Ply p vr vl vh w w6 b r o q ur ul uh):=⟨_,_,_,_,hP⟩
  simp only [Bool.false_eq_true,if_false]
  go_upto_region 4 with fail
  go_cut [5] from 11 to 24 (fun x wx=>x=.pointer (some ⟨o,0,none⟩)∧∃ (q:Prd) (ur ul uh:Value),Hid (Ply p vr vl vh w wx b r o q ur ul uh))
  case first =>
   obtain⟨R1,e1,l1,m1,f1,g1⟩:=rem_is p.cn 3 (by decide) (by decide)
   obtain⟨R2,e2,l2,m2,f2,g2⟩:=rem_is p.kd 3 (by decide) (by decide)
   have hbx:=hP.out.box
   have hnb:=hP.out.nb
   refine L8.wt (fun W=>Blk W b (pcells p vr vl vh)) (hbx.ext (Ext.refl w6).drew) fun hSt=>?_
   obtain⟨wz,hwz⟩:∃ W,W=w6.drew:=⟨_,rfl⟩
   replace hP:Hid (Ply p vr vl vh w wz b r o q ur ul uh):=by rw [hwz];exact hP.out.on (Ext.refl w6).drew
   rw [←hwz] at hSt ⊢
   clear hwz hbx
   refine L8.tk 0 qc19x0 (some 11) (.pointer (some ⟨b,1,none⟩)) hSt (fun W hW=>?_) ?_
   ·unfold qc19x0
    go_simp
   simp only [p4]
   refine L8.tk 1 qc19x1 (some 12) (.int .i64 p.cn) hSt (fun W hW=>?_) ?_
   ·unfold qc19x1
    have hW1:=(cell_of_row W b 1 _ _ _ (show Blk W b (pcells p vr vl vh) from hW)).trans (show _=some (.int .i64 p.cn) from rfl)
    go_simp
   simp only [p4]
   refine L8.tk 2 qc19x2 (some 13) (.int .u64 (IntKind.u64.wrap p.cn)) hSt (fun W hW=>?_) ?_
   ·unfold qc19x2
    go_simp
   simp only [p4]
   refine L8.tk 3 qc19x3 (some 14) (.int .u64 R1) hSt (fun W hW=>?_) ?_
   ·unfold qc19x3
    go_simp
   simp only [p4]
   refine L8.tk 4 qc19x4 (some 15) (.int .i64 R1) hSt (fun W hW=>?_) ?_
   ·unfold qc19x4
    go_simp
   simp only [p4]
   refine L8.tk 5 qc19x5 (some 16) (.int .i64 (1+R1)) hSt (fun W hW=>?_) ?_
   ·unfold qc19x5
    go_simp
   simp only [p4]
   refine L8.tk 6 qc19x6 (some 17) (.pointer (some ⟨b,3,none⟩)) hSt (fun W hW=>?_) ?_
   ·unfold qc19x6
    go_simp
   simp only [p4]
   refine L8.tk 7 qc19x7 (some 18) (.int .i64 p.kd) hSt (fun W hW=>?_) ?_
   ·unfold qc19x7
    have hW1:=(cell_of_row W b 3 _ _ _ (show Blk W b (pcells p vr vl vh) from hW)).trans (show _=some (.int .i64 p.kd) from rfl)
    go_simp
   simp only [p4]
   refine L8.tk 8 qc19x8 (some 19) (.int .u64 (IntKind.u64.wrap p.kd)) hSt (fun W hW=>?_) ?_
   ·unfold qc19x8
    go_simp
   simp only [p4]
   refine L8.tk 9 qc19x9 (some 20) (.int .u64 R2) hSt (fun W hW=>?_) ?_
   ·unfold qc19x9
    go_simp
   simp only [p4]
   refine L8.tk 10 qc19x10 (some 21) (.int .i64 R2) hSt (fun W hW=>?_) ?_
   ·unfold qc19x10
    go_simp
   simp only [p4]
   refine L8.tk 11 qc19x11 (some 22) (.int .i64 (1+R2)) hSt (fun W hW=>?_) ?_
   ·unfold qc19x11
    go_simp
   simp only [p4]
   refine L8.tk 12 qc19x12 (some 23) (.pointer (some ⟨o,1,none⟩)) hSt (fun W hW=>?_) ?_
   ·unfold qc19x12
    go_simp
   simp only [p4]
   refine L8.up 13 qc19x13 fun K hK=>?_
   unfold qc19x13
   have co:=(cell_of_row wz o 1 _ _ _ hP.out.out).trans (show _=some (.int .i64 q.cn) from rfl)
   have zo:=frozen_of_row wz o 1 _ _ hP.out.out
   go_simp
   refine hK.out _ _ (L8.Blk.other hSt 1 _ hnb) ?_
   clear hK K hSt co zo
   intro hSt
   try simp only [p4]
   obtain⟨wy,hwy⟩:∃ W,W=wz.setCell ⟨o,1,none⟩ (.int .i64 (1+R1)):=⟨_,rfl⟩
   obtain⟨q,hP⟩:∃ q,Hid (Ply p vr vl vh w wy b r o q ur ul uh):=by rw [hwy];exact ⟨{ q with cn:=(1+R1) },hP.out.put 1 _ _ rfl rfl rfl rfl rfl⟩
   rw [←hwy] at hSt ⊢
   clear hwy
   refine L8.tk 14 qc19x14 (some 24) (.pointer (some ⟨o,3,none⟩)) hSt (fun W hW=>?_) ?_
   ·unfold qc19x14
    go_simp
   simp only [p4]
   refine L8.up 15 qc19x15 fun K hK=>?_
   unfold qc19x15
   have co:=(cell_of_row wy o 3 _ _ _ hP.out.out).trans (show _=some (.int .i64 q.kd) from rfl)
   have zo:=frozen_of_row wy o 3 _ _ hP.out.out
   go_simp
   refine hK.out _ _ (L8.Blk.other hSt 3 _ hnb) ?_
   clear hK K hSt co zo
   intro hSt
   try simp only [p4]
   refine L8.dn ?_
   go_wp2
   go_meet
   exact⟨rfl,{ q with kd:=(1+R2) },ur,ul,uh,hP.out.put 3 _ _ rfl rfl rfl rfl rfl⟩
  case rest =>
  clear hP
  obtain⟨rfl,q,ur,ul,uh,hP⟩:=hcut
  go_upto_region 5 with fail
  go_cut [5] from 25 to 33 (fun x wx=>x=.pointer (some ⟨o,0,none⟩)∧∃ (q:Prd) (ur ul uh:Value),Hid (Ply p vr vl vh w wx b r o q ur ul uh))
  case first =>
   obtain⟨R1,e1,l1,m1,f1,g1⟩:=rem_is p.rd 2 (by decide) (by decide)
   have ck1:=(cell_of_row wc b 2 _ _ _ hP.out.box).trans (show _=some (.int .i64 p.rd) from rfl)
   have co1:=(cell_of_row wc o 2 _ _ _ hP.out.out).trans (show _=some (.int .i64 q.rd) from rfl)
   have zo1:=frozen_of_row wc o 2 _ _ hP.out.out
   obtain⟨W8,d,hW8,hd,hx8,hc8⟩:=lay_n wc [1,3]
   obtain⟨i,rfl⟩:∃ i:Nat,R1=(i:Int):=⟨R1.toNat,by omega⟩
   obtain⟨x,hx⟩:∃ x,([1,3]:List Int)[i]?=some x:=⟨_,List.getElem?_eq_getElem (by show i<2;omega)⟩
   have cx:=hc8 i x hx
   replace ck1:=hx8.cell_of ck1
   replace co1:=hx8.cell_of co1
   replace zo1:=frozen_of_row W8 o 2 _ _ (hP.out.out.ext hx8)
   simp only [List.map_cons,List.map_nil] at hW8
   clear hc8 hx
   go_wp2
   go_meet
   exact⟨rfl,{ q with rd:=x },ur,ul,uh,(hP.out.on hx8).put 2 _ _ rfl rfl rfl rfl rfl⟩
  case rest =>
  clear hP
  obtain⟨rfl,q,ur,ul,uh,hP⟩:=hcut
  go_upto_region 6 with fail
  go_cut [5] from 34 to 42 (fun x wx=>x=.pointer (some ⟨o,0,none⟩)∧∃ (q:Prd) (ur ul uh:Value),Hid (Ply p vr vl vh w wx b r o q ur ul uh))
  case first =>
   obtain⟨R1,e1,l1,m1,f1,g1⟩:=rem_is p.ev 6 (by decide) (by decide)
   have ck1:=(cell_of_row wc b 4 _ _ _ hP.out.box).trans (show _=some (.int .i64 p.ev) from rfl)
   have co1:=(cell_of_row wc o 4 _ _ _ hP.out.out).trans (show _=some (.int .i64 q.ev) from rfl)
   have zo1:=frozen_of_row wc o 4 _ _ hP.out.out
   obtain⟨W8,d,hW8,hd,hx8,hc8⟩:=lay_n wc [1,2,3,4,6,12]
   obtain⟨i,rfl⟩:∃ i:Nat,R1=(i:Int):=⟨R1.toNat,by omega⟩
   obtain⟨x,hx⟩:∃ x,([1,2,3,4,6,12]:List Int)[i]?=some x:=⟨_,List.getElem?_eq_getElem (by show i<6;omega)⟩
   have cx:=hc8 i x hx
   replace ck1:=hx8.cell_of ck1
   replace co1:=hx8.cell_of co1
   replace zo1:=frozen_of_row W8 o 4 _ _ (hP.out.out.ext hx8)
   simp only [List.map_cons,List.map_nil] at hW8
   clear hc8 hx
   go_wp2
   go_meet
   exact⟨rfl,{ q with ev:=x },ur,ul,uh,(hP.out.on hx8).put 4 _ _ rfl rfl rfl rfl rfl⟩
  case rest =>
  clear hP
  obtain⟨rfl,q,ur,ul,uh,hP⟩:=hcut
  go_upto_region 7 with fail
  go_cut [5] from 43 to 51 (fun x wx=>x=.pointer (some ⟨o,0,none⟩)∧∃ (q:Prd) (ur ul uh:Value),Hid (Ply p vr vl vh w wx b r o q ur ul uh))
  case first =>
   obtain⟨R1,e1,l1,m1,f1,g1⟩:=rem_is p.tm 40 (by decide) (by decide)
   have ck1:=(cell_of_row wc b 5 _ _ _ hP.out.box).trans (show _=some (.int .i64 p.tm) from rfl)
   have co1:=(cell_of_row wc o 5 _ _ _ hP.out.out).trans (show _=some (.int .i64 q.tm) from rfl)
   have zo1:=frozen_of_row wc o 5 _ _ hP.out.out
   go_wp2
   go_meet
   exact⟨rfl,{ q with tm:=(1+R1) },ur,ul,uh,(hP.out).put 5 _ _ rfl rfl rfl rfl rfl⟩
  case rest =>
  clear hP
  obtain⟨rfl,q,ur,ul,uh,hP⟩:=hcut
  go_upto_region 8 with fail
  go_cut [5] from 52 to 63 (fun x wx=>x=.pointer (some ⟨o,0,none⟩)∧∃ (q:Prd) (ur ul uh:Value),Hid (Ply p vr vl vh w wx b r o q ur ul uh))
  case first =>
   obtain⟨R1,e1,l1,m1,f1,g1⟩:=rem_is p.rt 300000000 (by decide) (by decide)
   obtain⟨R2,e2,l2,m2,f2,g2⟩:=rem_is p.pn 500000000 (by decide) (by decide)
   have hbx:=hP.out.box
   have hnb:=hP.out.nb
   refine L8.wt (fun W=>Blk W b (pcells p vr vl vh)) (hbx.ext (Ext.refl wc).drew) fun hSt=>?_
   obtain⟨wz,hwz⟩:∃ W,W=wc.drew:=⟨_,rfl⟩
   replace hP:Hid (Ply p vr vl vh w wz b r o q ur ul uh):=by rw [hwz];exact hP.out.on (Ext.refl wc).drew
   rw [←hwz] at hSt ⊢
   clear hwz hbx
   refine L8.tk 0 qc19x16 (some 52) (.pointer (some ⟨b,7,none⟩)) hSt (fun W hW=>?_) ?_
   ·unfold qc19x16
    go_simp
   simp only [p4]
   refine L8.tk 1 qc19x17 (some 53) (.int .i64 p.rt) hSt (fun W hW=>?_) ?_
   ·unfold qc19x17
    have hW1:=(cell_of_row W b 7 _ _ _ (show Blk W b (pcells p vr vl vh) from hW)).trans (show _=some (.int .i64 p.rt) from rfl)
    go_simp
   simp only [p4]
   refine L8.tk 2 qc19x18 (some 54) (.int .u64 (IntKind.u64.wrap p.rt)) hSt (fun W hW=>?_) ?_
   ·unfold qc19x18
    go_simp
   simp only [p4]
   refine L8.tk 3 qc19x19 (some 55) (.int .u64 R1) hSt (fun W hW=>?_) ?_
   ·unfold qc19x19
    go_simp
   simp only [p4]
   refine L8.tk 4 qc19x20 (some 56) (.int .i64 R1) hSt (fun W hW=>?_) ?_
   ·unfold qc19x20
    go_simp
   simp only [p4]
   refine L8.tk 5 qc19x21 (some 57) (.pointer (some ⟨b,9,none⟩)) hSt (fun W hW=>?_) ?_
   ·unfold qc19x21
    go_simp
   simp only [p4]
   refine L8.tk 6 qc19x22 (some 58) (.int .i64 p.pn) hSt (fun W hW=>?_) ?_
   ·unfold qc19x22
    have hW1:=(cell_of_row W b 9 _ _ _ (show Blk W b (pcells p vr vl vh) from hW)).trans (show _=some (.int .i64 p.pn) from rfl)
    go_simp
   simp only [p4]
   refine L8.tk 7 qc19x23 (some 59) (.int .u64 (IntKind.u64.wrap p.pn)) hSt (fun W hW=>?_) ?_
   ·unfold qc19x23
    go_simp
   simp only [p4]
   refine L8.tk 8 qc19x24 (some 60) (.int .u64 R2) hSt (fun W hW=>?_) ?_
   ·unfold qc19x24
    go_simp
   simp only [p4]
   refine L8.tk 9 qc19x25 (some 61) (.int .i64 R2) hSt (fun W hW=>?_) ?_
   ·unfold qc19x25
    go_simp
   simp only [p4]
   refine L8.tk 10 qc19x26 (some 62) (.pointer (some ⟨o,7,none⟩)) hSt (fun W hW=>?_) ?_
   ·unfold qc19x26
    go_simp
   simp only [p4]
   refine L8.up 11 qc19x27 fun K hK=>?_
   unfold qc19x27
   have co:=(cell_of_row wz o 7 _ _ _ hP.out.out).trans (show _=some (.int .i64 q.rt) from rfl)
   have zo:=frozen_of_row wz o 7 _ _ hP.out.out
   go_simp
   refine hK.out _ _ (L8.Blk.other hSt 7 _ hnb) ?_
   clear hK K hSt co zo
   intro hSt
   try simp only [p4]
   obtain⟨wy,hwy⟩:∃ W,W=wz.setCell ⟨o,7,none⟩ (.int .i64 R1):=⟨_,rfl⟩
   obtain⟨q,hP⟩:∃ q,Hid (Ply p vr vl vh w wy b r o q ur ul uh):=by rw [hwy];exact ⟨{ q with rt:=R1 },hP.out.put 7 _ _ rfl rfl rfl rfl rfl⟩
   rw [←hwy] at hSt ⊢
   clear hwy
   refine L8.tk 12 qc19x28 (some 63) (.pointer (some ⟨o,9,none⟩)) hSt (fun W hW=>?_) ?_
   ·unfold qc19x28
    go_simp
   simp only [p4]
   refine L8.up 13 qc19x29 fun K hK=>?_
   unfold qc19x29
   have co:=(cell_of_row wy o 9 _ _ _ hP.out.out).trans (show _=some (.int .i64 q.pn) from rfl)
   have zo:=frozen_of_row wy o 9 _ _ hP.out.out
   go_simp
   refine hK.out _ _ (L8.Blk.other hSt 9 _ hnb) ?_
   clear hK K hSt co zo
   intro hSt
   try simp only [p4]
   refine L8.dn ?_
   go_wp2
   go_meet
   exact⟨rfl,{ q with pn:=R2 },ur,ul,uh,hP.out.put 9 _ _ rfl rfl rfl rfl rfl⟩
  case rest =>
  clear hP
  obtain⟨rfl,q,ur,ul,uh,hP⟩:=hcut
  go_upto_region 9 with fail
  go_cut [5] from 64 to 70 (fun x wx=>x=.pointer (some ⟨o,0,none⟩)∧∃ (q:Prd) (ur ul uh:Value),Hid (Ply p vr vl vh w wx b r o q ur ul uh))
  case first =>
   obtain⟨R1,e1,l1,m1,f1,g1⟩:=rem_is p.ov 3 (by decide) (by decide)
   have ck1:=(cell_of_row wc b 14 _ _ _ hP.out.box).trans (show _=some (.int .i64 p.ov) from rfl)
   have co1:=(cell_of_row wc o 14 _ _ _ hP.out.out).trans (show _=some (.int .i64 q.ov) from rfl)
   have zo1:=frozen_of_row wc o 14 _ _ hP.out.out
   go_wp2
   go_meet
   exact⟨rfl,{ q with ov:=(1+R1) },ur,ul,uh,(hP.out).put 14 _ _ rfl rfl rfl rfl rfl⟩
  case rest =>
  clear hP
  obtain⟨rfl,q,ur,ul,uh,hP⟩:=hcut
  go_wp2
  go_meet
  exact⟨rfl,q,ur,ul,uh,hP⟩
 case rest =>
 clear hP
 obtain⟨rfl,q,ur,ul,uh,hP⟩:=hcut
 go_upto_region 10 with fail
 have c5:=(cell_of_row wc o 5 _ _ _ hP.out.out).trans (show _=some (.int .i64 q.tm) from rfl)
 have z5:=frozen_of_row wc o 5 _ _ hP.out.out
 have z8:=frozen_of_row wc o 8 _ _ hP.out.out
 have c8:=(cell_of_row wc o 8 _ _ _ hP.out.out).trans (show _=some ur from rfl)
 go_upto_if 74 with fail
 go_cut [5] from 75 to 77 (fun x wx=>x=.pointer (some ⟨o,0,none⟩)∧∃ (q:Prd) (ur ul uh:Value),Hid (Ply p vr vl vh w wx b r o q ur ul uh))
 case first =>
  by_cases hq:40<q.tm
  ·go_wp2
   go_meet
   exact⟨rfl,_,_,ul,uh,(hP.out.put 5 (.int .i64 40) { q with tm:=40 } rfl rfl rfl rfl rfl).bare⟩
  ·go_wp2
   go_meet
   exact⟨rfl,q,ur,ul,uh,hP⟩
 case rest =>
 clear hP c5 z5 z8 c8
 obtain⟨rfl,q,ur,ul,uh,hP⟩:=hcut
 have c5:=(cell_of_row wc o 5 _ _ _ hP.out.out).trans (show _=some (.int .i64 q.tm) from rfl)
 have c6:=(cell_of_row wc o 6 _ _ _ hP.out.out).trans (show _=some (.int .i64 q.gr) from rfl)
 have c3:=(cell_of_row wc o 3 _ _ _ hP.out.out).trans (show _=some (.int .i64 q.kd) from rfl)
 have z6:=frozen_of_row wc o 6 _ _ hP.out.out
 go_upto_region 13 with fail
 go_cut [87] from 78 to 86 (fun x wx=>(∃ v:Bool,x=.bool v)∧wx=wc)
 case first =>
  by_cases hg:q.tm≤q.gr
  ·go_wp2
   go_meet
   exact⟨⟨_,rfl⟩,rfl⟩
  ·go_wp2
   go_meet
   exact⟨⟨_,rfl⟩,rfl⟩
 case rest =>
 obtain⟨⟨v,rfl⟩,rfl⟩:=hcut
 go_upto_if 87 with fail
 go_cut [5,87] from 88 to 88 (fun x _ wx=>x=.pointer (some ⟨o,0,none⟩)∧∃ (q:Prd) (ur ul uh:Value),Hid (Ply p vr vl vh w wx b r o q ur ul uh))
 case first =>
  cases v
  ·go_wp2
   go_meet
   exact⟨rfl,q,ur,ul,uh,hP⟩
  ·go_wp2
   go_meet
   exact⟨rfl,_,ur,ul,uh,hP.out.put 6 (.int .i64 0) { q with gr:=0 } rfl rfl rfl rfl rfl⟩
 case rest =>
 clear hP c5 c6 c3 z6
 obtain⟨rfl,q,ur,ul,uh,hP⟩:=hcut
 have hBo:=hP.out.out
 have hBr:=hP.out.res
 have hqo:=one_of hP.out.sr hP.out.sl hP.out.sh
 go_wp2_with (first | refine load27 hBo rfl rfl rfl rfl ?_ | refine store27 (cs:=pcells q ur ul uh) hBr rfl rfl hqo rfl rfl rfl rfl ?_)
 intro W9 hB9 hx9
 go_wp2
 exact bodyPost_ret (v:=.agg (pcells q ur ul uh)) (results_cell_row (p:=4) rfl _ _ r _ (pcells q ur ul uh) (0,0) _ rfl hB9 Tryz.underlying27 rfl (by kernel_rfl)) rfl ⟨hx9.ext hP.out.ext hP.out.lr,q,ur,ul,uh,rfl,hP.out.sr,hP.out.sl,hP.out.sh,hP.out.nm,hP.out.few⟩
end Go.Proofs.YtcijdkbopiaicaaGreatDoor
