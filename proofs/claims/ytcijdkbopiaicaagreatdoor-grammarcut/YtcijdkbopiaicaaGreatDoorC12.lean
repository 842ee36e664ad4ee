/- Contracts that the proof of this law leans on: no statement of the seat is proved here. -/
import Derived.Test.YtcijdkbopiaicaaGreatDoorC11
set_option linter.unusedVariables false
set_option maxRecDepth 100000
set_option maxHeartbeats 8000000
namespace Go.Proofs.YtcijdkbopiaicaaGreatDoor
def qc12x0:Oper:=⟨some 127,Op.move (.tmp 0),59,"grammar.go:141",#[],none⟩
def qc12x1:Oper:=⟨some 128,Op.move (.tmp 0),59,"grammar.go:141",#[],none⟩
def qc12x2:Oper:=⟨some 129,Op.nilCheck (.tmp 128),0,"grammar.go:141",#[⟨1,.data⟩],none⟩
def qc12x3:Oper:=⟨some 130,Op.fieldAddr 61 (.tmp 129) 2,0,"grammar.go:141",#[⟨2,.data⟩],none⟩
def qc12x4:Oper:=⟨some 131,Op.fieldAddr 27 (.tmp 130) 15,0,"grammar.go:141",#[⟨3,.data⟩],none⟩
def qc12x5:Oper:=⟨some 133,Op.move (.tmp 0),59,"grammar.go:141",#[],none⟩
def qc12x6:Oper:=⟨some 132,Op.load 25 (.tmp 131),25,"grammar.go:141",#[⟨4,.data⟩],none⟩
def qc12x7:Oper:=⟨some 134,Op.call { callee:=Callee.value (.func 102),args:=#[.tmp 133],argTypes:=#[59] },3,"grammar.go:141",#[⟨6,.data⟩],none⟩
def qc12x8:Oper:=⟨some 135,Op.buildSlice 25 1 #[(0,.tmp 134)],25,"grammar.go:141",#[⟨7,.data⟩],none⟩
def qc12x9:Oper:=⟨some 136,Op.call { callee:=Callee.builtin Builtin.append,args:=#[.tmp 132,.tmp 135],argTypes:=#[25,25] },25,"grammar.go:141",#[⟨5,.data⟩,⟨8,.data⟩,⟨7,.chain⟩],none⟩
def qc12x10:Oper:=⟨some 137,Op.nilCheck (.tmp 127),0,"grammar.go:141",#[⟨0,.data⟩,⟨0,.phase⟩,⟨1,.phase⟩,⟨2,.phase⟩,⟨3,.phase⟩,⟨4,.phase⟩,⟨5,.phase⟩,⟨6,.phase⟩,⟨7,.phase⟩,⟨8,.phase⟩,⟨9,.phase⟩],none⟩
def qc12x11:Oper:=⟨some 138,Op.fieldAddr 61 (.tmp 137) 2,0,"grammar.go:141",#[⟨10,.data⟩,⟨0,.phase⟩,⟨1,.phase⟩,⟨2,.phase⟩,⟨3,.phase⟩,⟨4,.phase⟩,⟨5,.phase⟩,⟨6,.phase⟩,⟨7,.phase⟩,⟨8,.phase⟩,⟨9,.phase⟩],none⟩
def qc12x12:Oper:=⟨some 139,Op.fieldAddr 27 (.tmp 138) 15,0,"grammar.go:141",#[⟨11,.data⟩,⟨0,.phase⟩,⟨1,.phase⟩,⟨2,.phase⟩,⟨3,.phase⟩,⟨4,.phase⟩,⟨5,.phase⟩,⟨6,.phase⟩,⟨7,.phase⟩,⟨8,.phase⟩,⟨9,.phase⟩],none⟩
def qc12x13:Oper:=⟨none,.store 25 (.tmp 139) (.tmp 136),0,"grammar.go:141",#[⟨12,.data⟩,⟨9,.data⟩,⟨9,.chain⟩,⟨0,.phase⟩,⟨1,.phase⟩,⟨2,.phase⟩,⟨3,.phase⟩,⟨4,.phase⟩,⟨5,.phase⟩,⟨6,.phase⟩,⟨7,.phase⟩,⟨8,.phase⟩,⟨9,.phase⟩],none⟩
def qc12x14:Oper:=⟨some 83,Op.move (.tmp 0),59,"grammar.go:134",#[],none⟩
def qc12x15:Oper:=⟨some 84,Op.move (.tmp 0),59,"grammar.go:134",#[],none⟩
def qc12x16:Oper:=⟨some 85,Op.nilCheck (.tmp 84),0,"grammar.go:134",#[⟨1,.data⟩],none⟩
def qc12x17:Oper:=⟨some 86,Op.fieldAddr 61 (.tmp 85) 2,0,"grammar.go:134",#[⟨2,.data⟩],none⟩
def qc12x18:Oper:=⟨some 87,Op.fieldAddr 27 (.tmp 86) 8,0,"grammar.go:134",#[⟨3,.data⟩],none⟩
def qc12x19:Oper:=⟨some 89,Op.move (.tmp 4),3,"grammar.go:134",#[],none⟩
def qc12x20:Oper:=⟨some 90,Op.move (.tmp 0),59,"grammar.go:134",#[],none⟩
def qc12x21:Oper:=⟨some 88,Op.load 22 (.tmp 87),22,"grammar.go:134",#[⟨4,.data⟩],none⟩
def qc12x22:Oper:=⟨some 91,Op.call { callee:=Callee.value (.func 100),args:=#[.tmp 90],argTypes:=#[59] },2,"grammar.go:134",#[⟨7,.data⟩],none⟩
def qc12x23:Oper:=⟨some 92,Op.build 45 #[(0,.tmp 89),(1,.tmp 91)],45,"grammar.go:134",#[⟨6,.data⟩,⟨8,.data⟩],none⟩
def qc12x24:Oper:=⟨some 93,Op.buildSlice 22 1 #[(0,.tmp 92)],22,"grammar.go:134",#[⟨9,.data⟩],none⟩
def qc12x25:Oper:=⟨some 94,Op.call { callee:=Callee.builtin Builtin.append,args:=#[.tmp 88,.tmp 93],argTypes:=#[22,22] },22,"grammar.go:134",#[⟨5,.data⟩,⟨10,.data⟩,⟨8,.chain⟩],none⟩
def qc12x26:Oper:=⟨some 95,Op.nilCheck (.tmp 83),0,"grammar.go:134",#[⟨0,.data⟩,⟨0,.phase⟩,⟨1,.phase⟩,⟨2,.phase⟩,⟨3,.phase⟩,⟨4,.phase⟩,⟨5,.phase⟩,⟨6,.phase⟩,⟨7,.phase⟩,⟨8,.phase⟩,⟨9,.phase⟩,⟨10,.phase⟩,⟨11,.phase⟩],none⟩
def qc12x27:Oper:=⟨some 96,Op.fieldAddr 61 (.tmp 95) 2,0,"grammar.go:134",#[⟨12,.data⟩,⟨0,.phase⟩,⟨1,.phase⟩,⟨2,.phase⟩,⟨3,.phase⟩,⟨4,.phase⟩,⟨5,.phase⟩,⟨6,.phase⟩,⟨7,.phase⟩,⟨8,.phase⟩,⟨9,.phase⟩,⟨10,.phase⟩,⟨11,.phase⟩],none⟩
def qc12x28:Oper:=⟨some 97,Op.fieldAddr 27 (.tmp 96) 8,0,"grammar.go:134",#[⟨13,.data⟩,⟨0,.phase⟩,⟨1,.phase⟩,⟨2,.phase⟩,⟨3,.phase⟩,⟨4,.phase⟩,⟨5,.phase⟩,⟨6,.phase⟩,⟨7,.phase⟩,⟨8,.phase⟩,⟨9,.phase⟩,⟨10,.phase⟩,⟨11,.phase⟩],none⟩
def qc12x29:Oper:=⟨none,.store 22 (.tmp 97) (.tmp 94),0,"grammar.go:134",#[⟨14,.data⟩,⟨11,.data⟩,⟨11,.chain⟩,⟨0,.phase⟩,⟨1,.phase⟩,⟨2,.phase⟩,⟨3,.phase⟩,⟨4,.phase⟩,⟨5,.phase⟩,⟨6,.phase⟩,⟨7,.phase⟩,⟨8,.phase⟩,⟨9,.phase⟩,⟨10,.phase⟩,⟨11,.phase⟩],none⟩
def qc12x30:Oper:=⟨some 102,Op.move (.tmp 0),59,"grammar.go:137",#[],none⟩
def qc12x31:Oper:=⟨some 103,Op.move (.tmp 0),59,"grammar.go:137",#[],none⟩
def qc12x32:Oper:=⟨some 104,Op.nilCheck (.tmp 103),0,"grammar.go:137",#[⟨1,.data⟩],none⟩
def qc12x33:Oper:=⟨some 105,Op.fieldAddr 61 (.tmp 104) 2,0,"grammar.go:137",#[⟨2,.data⟩],none⟩
def qc12x34:Oper:=⟨some 106,Op.fieldAddr 27 (.tmp 105) 12,0,"grammar.go:137",#[⟨3,.data⟩],none⟩
def qc12x35:Oper:=⟨some 108,Op.move (.tmp 5),3,"grammar.go:137",#[],none⟩
def qc12x36:Oper:=⟨some 109,Op.move (.tmp 0),59,"grammar.go:137",#[],none⟩
def qc12x37:Oper:=⟨some 107,Op.load 24 (.tmp 106),24,"grammar.go:137",#[⟨4,.data⟩],none⟩
def qc12x38:Oper:=⟨some 110,Op.call { callee:=Callee.value (.func 101),args:=#[.tmp 109],argTypes:=#[59] },2,"grammar.go:137",#[⟨7,.data⟩],none⟩
def qc12x39:Oper:=⟨some 111,Op.build 47 #[(0,.tmp 108),(1,.tmp 110)],47,"grammar.go:137",#[⟨6,.data⟩,⟨8,.data⟩],none⟩
def qc12x40:Oper:=⟨some 112,Op.buildSlice 24 1 #[(0,.tmp 111)],24,"grammar.go:137",#[⟨9,.data⟩],none⟩
def qc12x41:Oper:=⟨some 113,Op.call { callee:=Callee.builtin Builtin.append,args:=#[.tmp 107,.tmp 112],argTypes:=#[24,24] },24,"grammar.go:137",#[⟨5,.data⟩,⟨10,.data⟩,⟨8,.chain⟩],none⟩
def qc12x42:Oper:=⟨some 114,Op.nilCheck (.tmp 102),0,"grammar.go:137",#[⟨0,.data⟩,⟨0,.phase⟩,⟨1,.phase⟩,⟨2,.phase⟩,⟨3,.phase⟩,⟨4,.phase⟩,⟨5,.phase⟩,⟨6,.phase⟩,⟨7,.phase⟩,⟨8,.phase⟩,⟨9,.phase⟩,⟨10,.phase⟩,⟨11,.phase⟩],none⟩
def qc12x43:Oper:=⟨some 115,Op.fieldAddr 61 (.tmp 114) 2,0,"grammar.go:137",#[⟨12,.data⟩,⟨0,.phase⟩,⟨1,.phase⟩,⟨2,.phase⟩,⟨3,.phase⟩,⟨4,.phase⟩,⟨5,.phase⟩,⟨6,.phase⟩,⟨7,.phase⟩,⟨8,.phase⟩,⟨9,.phase⟩,⟨10,.phase⟩,⟨11,.phase⟩],none⟩
def qc12x44:Oper:=⟨some 116,Op.fieldAddr 27 (.tmp 115) 12,0,"grammar.go:137",#[⟨13,.data⟩,⟨0,.phase⟩,⟨1,.phase⟩,⟨2,.phase⟩,⟨3,.phase⟩,⟨4,.phase⟩,⟨5,.phase⟩,⟨6,.phase⟩,⟨7,.phase⟩,⟨8,.phase⟩,⟨9,.phase⟩,⟨10,.phase⟩,⟨11,.phase⟩],none⟩
def qc12x45:Oper:=⟨none,.store 24 (.tmp 116) (.tmp 113),0,"grammar.go:137",#[⟨14,.data⟩,⟨11,.data⟩,⟨11,.chain⟩,⟨0,.phase⟩,⟨1,.phase⟩,⟨2,.phase⟩,⟨3,.phase⟩,⟨4,.phase⟩,⟨5,.phase⟩,⟨6,.phase⟩,⟨7,.phase⟩,⟨8,.phase⟩,⟨9,.phase⟩,⟨10,.phase⟩,⟨11,.phase⟩],none⟩
end Go.Proofs.YtcijdkbopiaicaaGreatDoor
namespace Go.Proofs.YtcijdkbopiaicaaGreatDoor
open Go.RowKit Go.Lib
structure Dgr (T:List Tok)(w0 w:World)(r:Nat)(vr vl vh vd:Value)(s:Dst)(e:TypeId)(w':World):Prop where
 ext:Ext w0 w'
 row:∃ vt,w'.heap[r]?=some (.cells (dcells vt s vr vl vh vd) 61 (0,0))∧Tks w0 vt T
 keep:∀ (f:TypeId) (k:Nat) (cur:Array Value),f≠e→w.heap[k]?=some (Obj.cells cur f (0,0))→w'.heap[k]?=w.heap[k]?
theorem Dn.grow {T:List Tok}{w0 w w':World}{r:Nat}{vr vl vh vd:Value}{s:Dst}{e:TypeId}{z n:Nat}{v:Value}{xs:List Value}(h:Dn T w0 w r vr vl vh vd s)(ho:w.ownsRow w0.heap.size e z v n xs)(hg:w.grownBy w' v.ownBlock)(h1:e≠61):Dgr T w0 w r vr vl vh vd s e w':=by
 have hk:∀ (f:TypeId) (k:Nat) (cur:Array Value),f≠e→w.heap[k]?=some (Obj.cells cur f (0,0))→w'.heap[k]?=w.heap[k]?:=fun f k cur hf hk=>hg.block k (Array.getElem?_eq_some_iff.1 hk).1 (fun e1=>by
  obtain⟨cur2,h3⟩:=own_tag ho k e1.symm
  have:=hk.symm.trans h3
  simp at this
  exact hf this.2)
 obtain⟨vt,hr,ht⟩:=h.row
 exact⟨⟨h.ext.below.grown hg h.ext.size (L7.own_lo ho)⟩,⟨vt,(hk _ _ _ (Ne.symm h1) hr).trans hr,ht⟩,hk⟩
theorem Dgr.fin_r {T:List Tok}{w0 w w':World}{r:Nat}{vr vl vh vd:Value}{s:Dst}(h:Dn T w0 w r vr vl vh vd s)(g:Dgr T w0 w r vr vl vh vd s 45 w')(v':Value)(a x:Int)(ho:w'.ownsRow w0.heap.size 45 2 v' (s.p.rs.length+1) (cellsP s.p.rs++[.int .i64 a,.int .i64 x])):Dn T w0 (w'.setCell ⟨r,10,none⟩ v') r v' vl vh vd { s with p:={ s.p with rs:=s.p.rs++[(a,x)] } }:=by
 obtain⟨vt,hr,ht⟩:=g.row
 refine⟨g.ext.setCell h.lo _,h.lo,⟨vt,(heap_setCell_same w' r 10 _ _ v' hr).trans rfl,ht⟩,?_,?_,?_,?_⟩
 ·have e1:(cellsP (s.p.rs++[(a,x)]))=cellsP s.p.rs++[.int .i64 a,.int .i64 x]:=by simp [cellsP]
  have e2:(s.p.rs++[(a,x)]).length=s.p.rs.length+1:=by simp
  show World.ownsRow _ _ _ _ _ (s.p.rs++[(a,x)]).length _
  rw [e2]
  show World.ownsRow _ _ _ _ _ _ (cellsP (s.p.rs++[(a,x)]))
  rw [e1]
  exact own_keep ho (keep_set hr _ (by decide))
 ·exact own_keep (own_keep h.sl (fun k cur=>g.keep _ k cur (by decide))) (keep_set hr _ (by decide))
 ·exact own_keep (own_keep h.sh (fun k cur=>g.keep _ k cur (by decide))) (keep_set hr _ (by decide))
 ·exact own_keep (own_keep h.sd (fun k cur=>g.keep _ k cur (by decide))) (keep_set hr _ (by decide))
theorem Dgr.fin_l {T:List Tok}{w0 w w':World}{r:Nat}{vr vl vh vd:Value}{s:Dst}(h:Dn T w0 w r vr vl vh vd s)(g:Dgr T w0 w r vr vl vh vd s 47 w')(v':Value)(a x:Int)(ho:w'.ownsRow w0.heap.size 47 2 v' (s.p.lt.length+1) (cellsP s.p.lt++[.int .i64 a,.int .i64 x])):Dn T w0 (w'.setCell ⟨r,17,none⟩ v') r vr v' vh vd { s with p:={ s.p with lt:=s.p.lt++[(a,x)] } }:=by
 obtain⟨vt,hr,ht⟩:=g.row
 refine⟨g.ext.setCell h.lo _,h.lo,⟨vt,(heap_setCell_same w' r 17 _ _ v' hr).trans rfl,ht⟩,?_,?_,?_,?_⟩
 ·exact own_keep (own_keep h.sr (fun k cur=>g.keep _ k cur (by decide))) (keep_set hr _ (by decide))
 ·have e1:(cellsP (s.p.lt++[(a,x)]))=cellsP s.p.lt++[.int .i64 a,.int .i64 x]:=by simp [cellsP]
  have e2:(s.p.lt++[(a,x)]).length=s.p.lt.length+1:=by simp
  show World.ownsRow _ _ _ _ _ (s.p.lt++[(a,x)]).length _
  rw [e2]
  show World.ownsRow _ _ _ _ _ _ (cellsP (s.p.lt++[(a,x)]))
  rw [e1]
  exact own_keep ho (keep_set hr _ (by decide))
 ·exact own_keep (own_keep h.sh (fun k cur=>g.keep _ k cur (by decide))) (keep_set hr _ (by decide))
 ·exact own_keep (own_keep h.sd (fun k cur=>g.keep _ k cur (by decide))) (keep_set hr _ (by decide))
theorem Dgr.fin_h {T:List Tok}{w0 w w':World}{r:Nat}{vr vl vh vd:Value}{s:Dst}(h:Dn T w0 w r vr vl vh vd s)(g:Dgr T w0 w r vr vl vh vd s 3 w')(v':Value)(x:Int)(ho:w'.ownsRow w0.heap.size 3 1 v' (s.p.hd.length+1) (s.p.hd.map (.int .i64)++[.int .i64 x])):Dn T w0 (w'.setCell ⟨r,20,none⟩ v') r vr vl v' vd { s with p:={ s.p with hd:=s.p.hd++[x] } }:=by
 obtain⟨vt,hr,ht⟩:=g.row
 refine⟨g.ext.setCell h.lo _,h.lo,⟨vt,(heap_setCell_same w' r 20 _ _ v' hr).trans rfl,ht⟩,?_,?_,?_,?_⟩
 ·exact own_keep (own_keep h.sr (fun k cur=>g.keep _ k cur (by decide))) (keep_set hr _ (by decide))
 ·exact own_keep (own_keep h.sl (fun k cur=>g.keep _ k cur (by decide))) (keep_set hr _ (by decide))
 ·have e1:((s.p.hd++[x]).map (Value.int .i64))=s.p.hd.map (.int .i64)++[.int .i64 x]:=by simp
  have e2:(s.p.hd++[x]).length=s.p.hd.length+1:=by simp
  show World.ownsRow _ _ _ _ _ (s.p.hd++[x]).length _
  rw [e2]
  show World.ownsRow _ _ _ _ _ _ ((s.p.hd++[x]).map (Value.int .i64))
  rw [e1]
  exact own_keep ho (keep_set hr _ (by decide))
 ·exact own_keep (own_keep h.sd (fun k cur=>g.keep _ k cur (by decide))) (keep_set hr _ (by decide))
theorem Dgr.fin_d {T:List Tok}{w0 w w':World}{r:Nat}{vr vl vh vd:Value}{s:Dst}(h:Dn T w0 w r vr vl vh vd s)(g:Dgr T w0 w r vr vl vh vd s 9 w')(v':Value)(x:List UInt8)(ho:w'.ownsRow w0.heap.size 9 1 v' (s.had.length+1) (s.had.map strV++[strV x])):Dn T w0 (w'.setCell ⟨r,21,none⟩ v') r vr vl vh v' { s with had:=s.had++[x] }:=by
 obtain⟨vt,hr,ht⟩:=g.row
 refine⟨g.ext.setCell h.lo _,h.lo,⟨vt,(heap_setCell_same w' r 21 _ _ v' hr).trans rfl,ht⟩,?_,?_,?_,?_⟩
 ·exact own_keep (own_keep h.sr (fun k cur=>g.keep _ k cur (by decide))) (keep_set hr _ (by decide))
 ·exact own_keep (own_keep h.sl (fun k cur=>g.keep _ k cur (by decide))) (keep_set hr _ (by decide))
 ·exact own_keep (own_keep h.sh (fun k cur=>g.keep _ k cur (by decide))) (keep_set hr _ (by decide))
 ·have e1:((s.had++[x]).map strV)=s.had.map strV++[strV x]:=by simp
  have e2:(s.had++[x]).length=s.had.length+1:=by simp
  show World.ownsRow _ _ _ _ _ (s.had++[x]).length _
  rw [e2]
  show World.ownsRow _ _ _ _ _ _ ((s.had++[x]).map strV)
  rw [e1]
  exact own_keep ho (keep_set hr _ (by decide))
theorem clauseD_11 (T:List Tok)(w0 w:World)(r:Nat)(vr vl vh vd:Value)(s:Dst)(hT:T.length≤20010)(hX:∀ t∈T,t.text.length≤20000)(hE:Endt T)(he0:Hid (Env w0))(hs:Oks T s)(hfew:s.p.rs.length+s.p.lt.length+s.p.hd.length≤30000)(h:Dn T w0 w r vr vl vh vd s) :
  Calls Tryz.prog 60 #[.pointer (some ⟨r,0,none⟩),.string ⟨#[104,111,108,105,100,97,121]⟩] w fun e w'=>∃ (x:Int) (v':Value),(∀ v,dayO (txB T s)=some v→x=v)∧e=.returned (.tuple #[])∧Dn T w0 w' r vr vl v' vd { s.nb T dayO with p:={ s.p with hd:=s.p.hd++[x] } }:=by
 obtain⟨i0,hi,hz0,hz1,hz2⟩:=info_parts info_int
 have hle:=hs.le
 obtain⟨w1,hw1⟩:∃ w1,w=w1:=⟨_,rfl⟩
 subst hw1
 have h0:=h
 clear h
 have h:=show Hid (Dn T w0 w r vr vl vh vd s) from h0
 clear h0
 go_enter Tryz.func60,Tryz.ntmps60
 go_upto_region 26 with fail
 have hvh:=(h.out.cell 20 vh (fun _=>rfl)).1
 obtain⟨ao,cp,hvs⟩:=own_slice h.out.sh
 subst hvs
 refine L8.wt (fun W=>True) trivial fun hHeld=>?_
 clear hHeld
 have hd:Ext w w.drew:=(Ext.refl w).drew
 replace hvh:=hd.cell_of hvh
 replace h:=hid <| h.out.on hd
 generalize w.drew=w2 at *
 clear hd
 refine L8.tk 0 qc12x0 (some 127) (.pointer (some ⟨r,0,none⟩)) trivial (fun W hW=>?_) ?_
 ·unfold qc12x0
  go_simp
 simp only [p4]
 refine L8.tk 1 qc12x1 (some 128) (.pointer (some ⟨r,0,none⟩)) trivial (fun W hW=>?_) ?_
 ·unfold qc12x1
  go_simp
 simp only [p4]
 refine L8.tk 2 qc12x2 (some 129) (.pointer (some ⟨r,0,none⟩)) trivial (fun W hW=>?_) ?_
 ·unfold qc12x2
  go_simp
 simp only [p4]
 refine L8.tk 3 qc12x3 (some 130) (.pointer (some ⟨r,2,none⟩)) trivial (fun W hW=>?_) ?_
 ·unfold qc12x3
  go_simp
 simp only [p4]
 refine L8.tk 4 qc12x4 (some 131) (.pointer (some ⟨r,20,none⟩)) trivial (fun W hW=>?_) ?_
 ·unfold qc12x4
  go_simp
 simp only [p4]
 refine L8.tk 6 qc12x5 (some 133) (.pointer (some ⟨r,0,none⟩)) trivial (fun W hW=>?_) ?_
 ·unfold qc12x5
  go_simp
 simp only [p4]
 refine wpAnyH_ready (rs:=[5,7]) (by kernel_rfl) (by simp) ?_
 refine AllReadyH.cons (o:=qc12x6) rfl (fun K hK=>?ra) (AllReadyH.cons (o:=qc12x7) rfl (fun K hK=>?rb) AllReadyH.nil)
 case' ra =>
  unfold qc12x6
  go_simp
  refine L8.bk hK ?_
  clear hK K
  try simp only [p4]
  refine L8.up 7 qc12x7 fun K hK=>?_
  unfold qc12x7
  go_simp
  refine (dateD_c T w0 _ r vr vl (.slice ao s.p.hd.length cp) vd s hT hX (by omega) hs.has he0 h.out).mono ?_
  rintro e w3 ⟨⟨x,rfl,hx⟩,h1,hX1⟩
  have hp:=(nb_p T dayO s).1
  obtain⟨S,hS⟩:∃ S,s.nb T dayO=S:=⟨_,rfl⟩
  rw [hS] at h1 hp
  have hvh2:=(h1.cell 20 (.slice ao s.p.hd.length cp) (fun _=>rfl)).1
  replace h1:=hid h1
  replace hx:=hid hx
  replace hp:=hid hp
  replace hS:=hid hS
  clear hX1
  try dsimp only
  refine L8.bk hK ?_
  clear hK K
  try simp only [p4]
  refine L8.up 8 qc12x8 fun K hK=>?_
  unfold qc12x8
  go_simp
  refine L8.bk hK ?_
  clear hK K
  try simp only [p4]
 case' rb =>
  unfold qc12x7
  go_simp
  refine (dateD_c T w0 _ r vr vl (.slice ao s.p.hd.length cp) vd s hT hX (by omega) hs.has he0 h.out).mono ?_
  rintro e w3 ⟨⟨x,rfl,hx⟩,h1,hX1⟩
  have hp:=(nb_p T dayO s).1
  obtain⟨S,hS⟩:∃ S,s.nb T dayO=S:=⟨_,rfl⟩
  rw [hS] at h1 hp
  have hvh2:=(h1.cell 20 (.slice ao s.p.hd.length cp) (fun _=>rfl)).1
  replace h1:=hid h1
  replace hx:=hid hx
  replace hp:=hid hp
  replace hS:=hid hS
  clear hX1
  try dsimp only
  refine L8.bk hK ?_
  clear hK K
  try simp only [p4]
  refine wpAnyH_ready (rs:=[5,8]) (by kernel_rfl) (by simp) ?_
  refine AllReadyH.cons (o:=qc12x6) rfl (fun K hK=>?rc) (AllReadyH.cons (o:=qc12x8) rfl (fun K hK=>?rd) AllReadyH.nil)
  case' rc =>
   unfold qc12x6
   go_simp
   refine L8.bk hK ?_
   clear hK K
   try simp only [p4]
   refine L8.up 8 qc12x8 fun K hK=>?_
   unfold qc12x8
   go_simp
   refine L8.bk hK ?_
   clear hK K
   try simp only [p4]
  case' rd =>
   unfold qc12x8
   go_simp
   refine L8.bk hK ?_
   clear hK K
   try simp only [p4]
   have hvh3:=((Ext.refl w3).alloc #[.int .i64 x] 3).cell_of hvh2
   refine L8.up 5 qc12x6 fun K hK=>?_
   unfold qc12x6
   go_simp
   refine L8.bk hK ?_
   clear hK K
   try simp only [p4]
 all_goals
  refine L8.up 9 qc12x9 fun K hK=>?_
  unfold qc12x9
  rw [if_pos (by rfl)]
  have h2:=h1.out.on ((Ext.refl w3).alloc #[.int .i64 x] 3)
  have hsz:=h2.ext.size
  have hrow:=h2.sh
  rw [hp.out] at hrow
  refine wp_append_own _ (.tmp 132) (.tmp 135) 25 rfl w0.heap.size 3 i0 (.int .i64 0) 1 8 Tryz.underlying25 hi hz0 hz1 hz2 rfl (by decide) _ _ _ rfl hrow ⟨w3.heap.size,0,none⟩ 1 1 [.int .i64 x] rfl rfl ?c1 ?c2 ?c3 ?c4 ?c5 ?_
  case c1 =>
   intro p u hp
   match p,hp with
   | 0,hp=>simp at hp;subst hp;simp [Addr.add,go_sem]
   | p+1,hp=>simp at hp
  case c2=>intro u hu;simp at hu;subst hu;rfl
  case c3=>unfold maxLen;show s.p.hd.length+1≤_;omega
  case c4=>show (s.p.hd.length+1) * 8≤_;omega
  case c5=>exact hsz
  intro v' w4 hown hgrow _
  obtain⟨ao2,cp2,hv2⟩:=own_slice hown
  subst hv2
  have hG:=h2.grow hrow hgrow (by decide)
  obtain⟨vt,hr3,_⟩:=hG.row
  have c3:=(cell_of_row w4 r 20 _ _ _ hr3).trans (show _=some (.slice ao s.p.hd.length cp) from rfl)
  have z3:=frozen_of_row w4 r 20 _ _ hr3
  have hfin:=hid <| Dgr.fin_h h2 hG _ x (by rw [hp.out];exact hown)
  clear hr3 hG hgrow hown hvh2 hvh h1 h2 hsz hrow
  refine L8.bk hK ?_
  clear hK K
  try simp only [p4]
  refine L8.tk 10 qc12x10 (some 137) (.pointer (some ⟨r,0,none⟩)) trivial (fun W hW=>?_) ?_
  ·unfold qc12x10
   go_simp
  simp only [p4]
  refine L8.tk 11 qc12x11 (some 138) (.pointer (some ⟨r,2,none⟩)) trivial (fun W hW=>?_) ?_
  ·unfold qc12x11
   go_simp
  simp only [p4]
  refine L8.tk 12 qc12x12 (some 139) (.pointer (some ⟨r,20,none⟩)) trivial (fun W hW=>?_) ?_
  ·unfold qc12x12
   go_simp
  simp only [p4]
  refine L8.up 13 qc12x13 fun K hK=>?_
  unfold qc12x13
  go_simp
  refine L8.bk hK ?_
  clear hK K
  try simp only [p4]
  refine L8.dn ?_
  go_wp2
  go_end0
  exact⟨x,hx.out,rfl,_,by rw [hS.out];have h9:=hfin.out;rw [hp.out] at h9;exact h9⟩
theorem clauseD_8 (T:List Tok)(w0 w:World)(r:Nat)(vr vl vh vd:Value)(s:Dst)(hT:T.length≤20010)(hX:∀ t∈T,t.text.length≤20000)(hE:Endt T)(he0:Hid (Env w0))(hs:Oks T s)(hfew:s.p.rs.length+s.p.lt.length+s.p.hd.length≤30000)(h:Dn T w0 w r vr vl vh vd s) :
  Calls Tryz.prog 60 #[.pointer (some ⟨r,0,none⟩),.string ⟨#[114,101,115,101,116]⟩] w fun e w'=>∃ (x:Int) (v':Value),(∀ v,rateO (txB T (s.nb T numO))=some v→x=v)∧e=.returned (.tuple #[])∧Dn T w0 w' r v' vl vh vd { (s.nb T numO).nb T rateO with p:={ (s.nb T numO).p with rs:=(s.nb T numO).p.rs++[(ngO (txB T s),x)] } }:=by
 obtain⟨i0,hi,hz0,hz1,hz2⟩:=info_parts info_rs
 have hle:=hs.le
 replace h:=hid h
 obtain⟨a,ha⟩:∃ a,ngO (txB T s)=a:=⟨_,rfl⟩
 have hp1:=(nb_p T numO s).1
 have hs1:=hs.nb hE num_nil
 obtain⟨s1,hs1e⟩:∃ s1,s.nb T numO=s1:=⟨_,rfl⟩
 have hC:Hid (∀ W,Dn T w0 W r vr vl vh vd s→Calls Tryz.prog 99 #[.pointer (some ⟨r,0,none⟩)] W fun e w'=>e=.returned (.int .i64 a)∧Dn T w0 w' r vr vl vh vd s1∧Exr r W w'):=fun W hW=>by
  rw [←ha,←hs1e];exact numberD_c T w0 W r vr vl vh vd s hT hX (by omega) hs.has hW
 rw [ha,hs1e]
 rw [hs1e] at hp1 hs1
 have hle1:=hs1.le
 replace hp1:=hid hp1
 replace ha:=hid ha
 replace hs1e:=hid hs1e
 go_enter Tryz.func60,Tryz.ntmps60
 go_wp2_with (go_at_call 99;refine Calls.mono (hC.out _ h.out) ?_;rintro e w1 ⟨rfl,h1,hX1⟩)
 replace h:=hid h1
 clear h1 hX1 hC
 have hvh:=(h.out.cell 10 vr (fun _=>rfl)).1
 obtain⟨ao,cp,hvs⟩:=own_slice h.out.sr
 rw [hp1.out] at hvs
 subst hvs
 refine L8.wt (fun W=>True) trivial fun hHeld=>?_
 clear hHeld
 have hd:Ext w1 w1.drew:=(Ext.refl w1).drew
 replace hvh:=hd.cell_of hvh
 replace h:=hid <| h.out.on hd
 generalize w1.drew=w2 at *
 clear hd
 refine L8.tk 0 qc12x14 (some 83) (.pointer (some ⟨r,0,none⟩)) trivial (fun W hW=>?_) ?_
 ·unfold qc12x14
  go_simp
 simp only [p4]
 refine L8.tk 1 qc12x15 (some 84) (.pointer (some ⟨r,0,none⟩)) trivial (fun W hW=>?_) ?_
 ·unfold qc12x15
  go_simp
 simp only [p4]
 refine L8.tk 2 qc12x16 (some 85) (.pointer (some ⟨r,0,none⟩)) trivial (fun W hW=>?_) ?_
 ·unfold qc12x16
  go_simp
 simp only [p4]
 refine L8.tk 3 qc12x17 (some 86) (.pointer (some ⟨r,2,none⟩)) trivial (fun W hW=>?_) ?_
 ·unfold qc12x17
  go_simp
 simp only [p4]
 refine L8.tk 4 qc12x18 (some 87) (.pointer (some ⟨r,10,none⟩)) trivial (fun W hW=>?_) ?_
 ·unfold qc12x18
  go_simp
 simp only [p4]
 refine L8.tk 6 qc12x19 (some 89) (.int .i64 a) trivial (fun W hW=>?_) ?_
 ·unfold qc12x19
  go_simp
 simp only [p4]
 refine L8.tk 7 qc12x20 (some 90) (.pointer (some ⟨r,0,none⟩)) trivial (fun W hW=>?_) ?_
 ·unfold qc12x20
  go_simp
 simp only [p4]
 refine wpAnyH_ready (rs:=[5,8]) (by kernel_rfl) (by simp) ?_
 refine AllReadyH.cons (o:=qc12x21) rfl (fun K hK=>?ra) (AllReadyH.cons (o:=qc12x22) rfl (fun K hK=>?rb) AllReadyH.nil)
 case' ra =>
  unfold qc12x21
  go_simp
  refine L8.bk hK ?_
  clear hK K
  try simp only [p4]
  refine L8.up 8 qc12x22 fun K hK=>?_
  unfold qc12x22
  go_simp
  refine (rateD_c T w0 _ r (.slice ao s.p.rs.length cp) vl vh vd s1 hT hX (by omega) hs1.has he0 h.out).mono ?_
  rintro e w3 ⟨⟨x,rfl,hx⟩,h1,hX1⟩
  have hp:=(nb_p T rateO s1).1
  obtain⟨S,hS⟩:∃ S,s1.nb T rateO=S:=⟨_,rfl⟩
  rw [hS] at h1 hp
  have hvh2:=(h1.cell 10 (.slice ao s.p.rs.length cp) (fun _=>rfl)).1
  replace h1:=hid h1
  replace hx:=hid hx
  replace hp:=hid hp
  replace hS:=hid hS
  clear hX1
  try dsimp only
  refine L8.bk hK ?_
  clear hK K
  try simp only [p4]
  refine L8.tk 9 qc12x23 (some 92) (.agg #[.int .i64 a,.int .i64 x]) trivial (fun W hW=>?_) ?_
  ·unfold qc12x23
   go_simp
  simp only [p4]
  refine L8.up 10 qc12x24 fun K hK=>?_
  unfold qc12x24
  go_simp
  refine L8.bk hK ?_
  clear hK K
  try simp only [p4]
 case' rb =>
  unfold qc12x22
  go_simp
  refine (rateD_c T w0 _ r (.slice ao s.p.rs.length cp) vl vh vd s1 hT hX (by omega) hs1.has he0 h.out).mono ?_
  rintro e w3 ⟨⟨x,rfl,hx⟩,h1,hX1⟩
  have hp:=(nb_p T rateO s1).1
  obtain⟨S,hS⟩:∃ S,s1.nb T rateO=S:=⟨_,rfl⟩
  rw [hS] at h1 hp
  have hvh2:=(h1.cell 10 (.slice ao s.p.rs.length cp) (fun _=>rfl)).1
  replace h1:=hid h1
  replace hx:=hid hx
  replace hp:=hid hp
  replace hS:=hid hS
  clear hX1
  try dsimp only
  refine L8.bk hK ?_
  clear hK K
  try simp only [p4]
  refine L8.tk 9 qc12x23 (some 92) (.agg #[.int .i64 a,.int .i64 x]) trivial (fun W hW=>?_) ?_
  ·unfold qc12x23
   go_simp
  simp only [p4]
  refine wpAnyH_ready (rs:=[5,10]) (by kernel_rfl) (by simp) ?_
  refine AllReadyH.cons (o:=qc12x21) rfl (fun K hK=>?rc) (AllReadyH.cons (o:=qc12x24) rfl (fun K hK=>?rd) AllReadyH.nil)
  case' rc =>
   unfold qc12x21
   go_simp
   refine L8.bk hK ?_
   clear hK K
   try simp only [p4]
   refine L8.up 10 qc12x24 fun K hK=>?_
   unfold qc12x24
   go_simp
   refine L8.bk hK ?_
   clear hK K
   try simp only [p4]
  case' rd =>
   unfold qc12x24
   go_simp
   refine L8.bk hK ?_
   clear hK K
   try simp only [p4]
   have hvh3:=((Ext.refl w3).alloc #[.int .i64 a,.int .i64 x] 45).cell_of hvh2
   refine L8.up 5 qc12x21 fun K hK=>?_
   unfold qc12x21
   go_simp
   refine L8.bk hK ?_
   clear hK K
   try simp only [p4]
 all_goals
  refine L8.up 11 qc12x25 fun K hK=>?_
  unfold qc12x25
  rw [if_pos (by rfl)]
  have h2:=h1.out.on ((Ext.refl w3).alloc #[.int .i64 a,.int .i64 x] 45)
  have hsz:=h2.ext.size
  have hrow:=h2.sr
  rw [hp.out,hp1.out] at hrow
  refine wp_append_own _ (.tmp 88) (.tmp 93) 22 rfl w0.heap.size 45 i0 (.agg #[.int .i64 0,.int .i64 0]) 2 16 Tryz.underlying22 hi hz0 hz1 hz2 rfl (by decide) _ _ _ rfl hrow ⟨w3.heap.size,0,none⟩ 1 1 [.int .i64 a,.int .i64 x] rfl rfl ?c1 ?c2 ?c3 ?c4 ?c5 ?_
  case c1 =>
   intro p u hp
   match p,hp with
   | 0,hp=>simp at hp;subst hp;simp [Addr.add,go_sem]
   | 1,hp=>simp at hp;subst hp;simp [Addr.add,go_sem]
   | p+2,hp=>simp at hp
  case c2=>intro u hu;simp at hu;rcases hu with rfl | rfl <;> rfl
  case c3=>unfold maxLen;show s.p.rs.length+1≤_;omega
  case c4=>show (s.p.rs.length+1) * 16≤_;omega
  case c5=>exact hsz
  intro v' w4 hown hgrow _
  obtain⟨ao2,cp2,hv2⟩:=own_slice hown
  subst hv2
  have hG:=h2.grow hrow hgrow (by decide)
  obtain⟨vt,hr3,_⟩:=hG.row
  have c3:=(cell_of_row w4 r 10 _ _ _ hr3).trans (show _=some (.slice ao s.p.rs.length cp) from rfl)
  have z3:=frozen_of_row w4 r 10 _ _ hr3
  have hfin:=hid <| Dgr.fin_r h2 hG _ a x (by rw [hp.out,hp1.out];exact hown)
  clear hr3 hG hgrow hown hvh2 hvh h1 h2 hsz hrow
  refine L8.bk hK ?_
  clear hK K
  try simp only [p4]
  refine L8.tk 12 qc12x26 (some 95) (.pointer (some ⟨r,0,none⟩)) trivial (fun W hW=>?_) ?_
  ·unfold qc12x26
   go_simp
  simp only [p4]
  refine L8.tk 13 qc12x27 (some 96) (.pointer (some ⟨r,2,none⟩)) trivial (fun W hW=>?_) ?_
  ·unfold qc12x27
   go_simp
  simp only [p4]
  refine L8.tk 14 qc12x28 (some 97) (.pointer (some ⟨r,10,none⟩)) trivial (fun W hW=>?_) ?_
  ·unfold qc12x28
   go_simp
  simp only [p4]
  refine L8.up 15 qc12x29 fun K hK=>?_
  unfold qc12x29
  go_simp
  refine L8.bk hK ?_
  clear hK K
  try simp only [p4]
  refine L8.dn ?_
  go_wp2
  go_end0
  exact⟨x,hx.out,rfl,_,by rw [hS.out];have h9:=hfin.out;rw [hp.out] at h9;exact h9⟩
theorem clauseD_9 (T:List Tok)(w0 w:World)(r:Nat)(vr vl vh vd:Value)(s:Dst)(hT:T.length≤20010)(hX:∀ t∈T,t.text.length≤20000)(hE:Endt T)(he0:Hid (Env w0))(hs:Oks T s)(hfew:s.p.rs.length+s.p.lt.length+s.p.hd.length≤30000)(h:Dn T w0 w r vr vl vh vd s) :
  Calls Tryz.prog 60 #[.pointer (some ⟨r,0,none⟩),.string ⟨#[108,97,116,101]⟩] w fun e w'=>∃ (x:Int) (v':Value),(∀ v,monO (txB T (s.nb T numO))=some v→x=v)∧e=.returned (.tuple #[])∧Dn T w0 w' r vr v' vh vd { (s.nb T numO).nb T monO with p:={ (s.nb T numO).p with lt:=(s.nb T numO).p.lt++[(ngO (txB T s),x)] } }:=by
 obtain⟨i0,hi,hz0,hz1,hz2⟩:=info_parts info_lt
 have hle:=hs.le
 replace h:=hid h
 obtain⟨a,ha⟩:∃ a,ngO (txB T s)=a:=⟨_,rfl⟩
 have hp1:=(nb_p T numO s).1
 have hs1:=hs.nb hE num_nil
 obtain⟨s1,hs1e⟩:∃ s1,s.nb T numO=s1:=⟨_,rfl⟩
 have hC:Hid (∀ W,Dn T w0 W r vr vl vh vd s→Calls Tryz.prog 99 #[.pointer (some ⟨r,0,none⟩)] W fun e w'=>e=.returned (.int .i64 a)∧Dn T w0 w' r vr vl vh vd s1∧Exr r W w'):=fun W hW=>by
  rw [←ha,←hs1e];exact numberD_c T w0 W r vr vl vh vd s hT hX (by omega) hs.has hW
 rw [ha,hs1e]
 rw [hs1e] at hp1 hs1
 have hle1:=hs1.le
 replace hp1:=hid hp1
 replace ha:=hid ha
 replace hs1e:=hid hs1e
 go_enter Tryz.func60,Tryz.ntmps60
 go_wp2_with (go_at_call 99;refine Calls.mono (hC.out _ h.out) ?_;rintro e w1 ⟨rfl,h1,hX1⟩)
 replace h:=hid h1
 clear h1 hX1 hC
 have hvh:=(h.out.cell 17 vl (fun _=>rfl)).1
 obtain⟨ao,cp,hvs⟩:=own_slice h.out.sl
 rw [hp1.out] at hvs
 subst hvs
 refine L8.wt (fun W=>True) trivial fun hHeld=>?_
 clear hHeld
 have hd:Ext w1 w1.drew:=(Ext.refl w1).drew
 replace hvh:=hd.cell_of hvh
 replace h:=hid <| h.out.on hd
 generalize w1.drew=w2 at *
 clear hd
 refine L8.tk 0 qc12x30 (some 102) (.pointer (some ⟨r,0,none⟩)) trivial (fun W hW=>?_) ?_
 ·unfold qc12x30
  go_simp
 simp only [p4]
 refine L8.tk 1 qc12x31 (some 103) (.pointer (some ⟨r,0,none⟩)) trivial (fun W hW=>?_) ?_
 ·unfold qc12x31
  go_simp
 simp only [p4]
 refine L8.tk 2 qc12x32 (some 104) (.pointer (some ⟨r,0,none⟩)) trivial (fun W hW=>?_) ?_
 ·unfold qc12x32
  go_simp
 simp only [p4]
 refine L8.tk 3 qc12x33 (some 105) (.pointer (some ⟨r,2,none⟩)) trivial (fun W hW=>?_) ?_
 ·unfold qc12x33
  go_simp
 simp only [p4]
 refine L8.tk 4 qc12x34 (some 106) (.pointer (some ⟨r,17,none⟩)) trivial (fun W hW=>?_) ?_
 ·unfold qc12x34
  go_simp
 simp only [p4]
 refine L8.tk 6 qc12x35 (some 108) (.int .i64 a) trivial (fun W hW=>?_) ?_
 ·unfold qc12x35
  go_simp
 simp only [p4]
 refine L8.tk 7 qc12x36 (some 109) (.pointer (some ⟨r,0,none⟩)) trivial (fun W hW=>?_) ?_
 ·unfold qc12x36
  go_simp
 simp only [p4]
 refine wpAnyH_ready (rs:=[5,8]) (by kernel_rfl) (by simp) ?_
 refine AllReadyH.cons (o:=qc12x37) rfl (fun K hK=>?ra) (AllReadyH.cons (o:=qc12x38) rfl (fun K hK=>?rb) AllReadyH.nil)
 case' ra =>
  unfold qc12x37
  go_simp
  refine L8.bk hK ?_
  clear hK K
  try simp only [p4]
  refine L8.up 8 qc12x38 fun K hK=>?_
  unfold qc12x38
  go_simp
  refine (moneyD_c T w0 _ r vr (.slice ao s.p.lt.length cp) vh vd s1 hT hX (by omega) hs1.has he0 h.out).mono ?_
  rintro e w3 ⟨⟨x,rfl,hx⟩,h1,hX1⟩
  have hp:=(nb_p T monO s1).1
  obtain⟨S,hS⟩:∃ S,s1.nb T monO=S:=⟨_,rfl⟩
  rw [hS] at h1 hp
  have hvh2:=(h1.cell 17 (.slice ao s.p.lt.length cp) (fun _=>rfl)).1
  replace h1:=hid h1
  replace hx:=hid hx
  replace hp:=hid hp
  replace hS:=hid hS
  clear hX1
  try dsimp only
  refine L8.bk hK ?_
  clear hK K
  try simp only [p4]
  refine L8.tk 9 qc12x39 (some 111) (.agg #[.int .i64 a,.int .i64 x]) trivial (fun W hW=>?_) ?_
  ·unfold qc12x39
   go_simp
  simp only [p4]
  refine L8.up 10 qc12x40 fun K hK=>?_
  unfold qc12x40
  go_simp
  refine L8.bk hK ?_
  clear hK K
  try simp only [p4]
 case' rb =>
  unfold qc12x38
  go_simp
  refine (moneyD_c T w0 _ r vr (.slice ao s.p.lt.length cp) vh vd s1 hT hX (by omega) hs1.has he0 h.out).mono ?_
  rintro e w3 ⟨⟨x,rfl,hx⟩,h1,hX1⟩
  have hp:=(nb_p T monO s1).1
  obtain⟨S,hS⟩:∃ S,s1.nb T monO=S:=⟨_,rfl⟩
  rw [hS] at h1 hp
  have hvh2:=(h1.cell 17 (.slice ao s.p.lt.length cp) (fun _=>rfl)).1
  replace h1:=hid h1
  replace hx:=hid hx
  replace hp:=hid hp
  replace hS:=hid hS
  clear hX1
  try dsimp only
  refine L8.bk hK ?_
  clear hK K
  try simp only [p4]
  refine L8.tk 9 qc12x39 (some 111) (.agg #[.int .i64 a,.int .i64 x]) trivial (fun W hW=>?_) ?_
  ·unfold qc12x39
   go_simp
  simp only [p4]
  refine wpAnyH_ready (rs:=[5,10]) (by kernel_rfl) (by simp) ?_
  refine AllReadyH.cons (o:=qc12x37) rfl (fun K hK=>?rc) (AllReadyH.cons (o:=qc12x40) rfl (fun K hK=>?rd) AllReadyH.nil)
  case' rc =>
   unfold qc12x37
   go_simp
   refine L8.bk hK ?_
   clear hK K
   try simp only [p4]
   refine L8.up 10 qc12x40 fun K hK=>?_
   unfold qc12x40
   go_simp
   refine L8.bk hK ?_
   clear hK K
   try simp only [p4]
  case' rd =>
   unfold qc12x40
   go_simp
   refine L8.bk hK ?_
   clear hK K
   try simp only [p4]
   have hvh3:=((Ext.refl w3).alloc #[.int .i64 a,.int .i64 x] 47).cell_of hvh2
   refine L8.up 5 qc12x37 fun K hK=>?_
   unfold qc12x37
   go_simp
   refine L8.bk hK ?_
   clear hK K
   try simp only [p4]
 all_goals
  refine L8.up 11 qc12x41 fun K hK=>?_
  unfold qc12x41
  rw [if_pos (by rfl)]
  have h2:=h1.out.on ((Ext.refl w3).alloc #[.int .i64 a,.int .i64 x] 47)
  have hsz:=h2.ext.size
  have hrow:=h2.sl
  rw [hp.out,hp1.out] at hrow
  refine wp_append_own _ (.tmp 107) (.tmp 112) 24 rfl w0.heap.size 47 i0 (.agg #[.int .i64 0,.int .i64 0]) 2 16 Tryz.underlying24 hi hz0 hz1 hz2 rfl (by decide) _ _ _ rfl hrow ⟨w3.heap.size,0,none⟩ 1 1 [.int .i64 a,.int .i64 x] rfl rfl ?c1 ?c2 ?c3 ?c4 ?c5 ?_
  case c1 =>
   intro p u hp
   match p,hp with
   | 0,hp=>simp at hp;subst hp;simp [Addr.add,go_sem]
   | 1,hp=>simp at hp;subst hp;simp [Addr.add,go_sem]
   | p+2,hp=>simp at hp
  case c2=>intro u hu;simp at hu;rcases hu with rfl | rfl <;> rfl
  case c3=>unfold maxLen;show s.p.lt.length+1≤_;omega
  case c4=>show (s.p.lt.length+1) * 16≤_;omega
  case c5=>exact hsz
  intro v' w4 hown hgrow _
  obtain⟨ao2,cp2,hv2⟩:=own_slice hown
  subst hv2
  have hG:=h2.grow hrow hgrow (by decide)
  obtain⟨vt,hr3,_⟩:=hG.row
  have c3:=(cell_of_row w4 r 17 _ _ _ hr3).trans (show _=some (.slice ao s.p.lt.length cp) from rfl)
  have z3:=frozen_of_row w4 r 17 _ _ hr3
  have hfin:=hid <| Dgr.fin_l h2 hG _ a x (by rw [hp.out,hp1.out];exact hown)
  clear hr3 hG hgrow hown hvh2 hvh h1 h2 hsz hrow
  refine L8.bk hK ?_
  clear hK K
  try simp only [p4]
  refine L8.tk 12 qc12x42 (some 114) (.pointer (some ⟨r,0,none⟩)) trivial (fun W hW=>?_) ?_
  ·unfold qc12x42
   go_simp
  simp only [p4]
  refine L8.tk 13 qc12x43 (some 115) (.pointer (some ⟨r,2,none⟩)) trivial (fun W hW=>?_) ?_
  ·unfold qc12x43
   go_simp
  simp only [p4]
  refine L8.tk 14 qc12x44 (some 116) (.pointer (some ⟨r,17,none⟩)) trivial (fun W hW=>?_) ?_
  ·unfold qc12x44
   go_simp
  simp only [p4]
  refine L8.up 15 qc12x45 fun K hK=>?_
  unfold qc12x45
  go_simp
  refine L8.bk hK ?_
  clear hK K
  try simp only [p4]
  refine L8.dn ?_
  go_wp2
  go_end0
  exact⟨x,hx.out,rfl,_,by rw [hS.out];have h9:=hfin.out;rw [hp.out] at h9;exact h9⟩
end Go.Proofs.YtcijdkbopiaicaaGreatDoor
