/- Contracts that the proof of this law leans on: no statement of the seat is proved here. -/
import Derived.Test.YtcijdkbopiaicaaGreatDoorC15
set_option linter.unusedVariables false
set_option maxRecDepth 100000
set_option maxHeartbeats 8000000
namespace Go.Proofs.YtcijdkbopiaicaaGreatDoor
def qc16x0:Oper:=⟨some 99,Op.build 27 #[],27,"grammar.go:198",#[],none⟩
def qc16x1:Oper:=⟨some 100,Op.move (.tmp 8),59,"grammar.go:198",#[⟨9,.gcOnly .lateStores⟩],none⟩
def qc16x2:Oper:=⟨some 101,Op.nilCheck (.tmp 100),0,"grammar.go:198",#[⟨1,.data⟩,⟨9,.gcOnly .lateStores⟩],none⟩
def qc16x3:Oper:=⟨some 102,Op.fieldAddr 61 (.tmp 101) 5,0,"grammar.go:198",#[⟨2,.data⟩,⟨9,.gcOnly .lateStores⟩],none⟩
def qc16x4:Oper:=⟨some 103,Op.load 3 (.tmp 102),3,"grammar.go:198",#[⟨3,.data⟩,⟨9,.gcOnly .lateStores⟩],none⟩
def qc16x5:Oper:=⟨some 104,Op.move (.tmp 8),59,"grammar.go:198",#[⟨10,.gcOnly .lateStores⟩],none⟩
def qc16x6:Oper:=⟨some 105,Op.nilCheck (.tmp 104),0,"grammar.go:198",#[⟨5,.data⟩,⟨10,.gcOnly .lateStores⟩],none⟩
def qc16x7:Oper:=⟨some 106,Op.fieldAddr 61 (.tmp 105) 4,0,"grammar.go:198",#[⟨6,.data⟩,⟨10,.gcOnly .lateStores⟩],none⟩
def qc16x8:Oper:=⟨some 107,Op.load 28 (.tmp 106),28,"grammar.go:198",#[⟨7,.data⟩,⟨10,.gcOnly .lateStores⟩],none⟩
def qc16x9:Oper:=⟨none,.store 27 (.tmp 2) (.tmp 99),0,"grammar.go:198",#[⟨0,.data⟩,⟨0,.phase⟩,⟨1,.textOnly .lateStores⟩,⟨2,.textOnly .lateStores⟩,⟨3,.textOnly .lateStores⟩,⟨4,.textOnly .lateStores⟩,⟨5,.textOnly .lateStores⟩,⟨6,.textOnly .lateStores⟩,⟨7,.textOnly .lateStores⟩,⟨8,.textOnly .lateStores⟩],none⟩
def qc16x10:Oper:=⟨some 3,Op.assign (.tmp 103),3,"grammar.go:198",#[⟨4,.data⟩,⟨9,.chain⟩,⟨0,.phase⟩,⟨1,.phase⟩,⟨2,.phase⟩,⟨3,.phase⟩,⟨4,.phase⟩,⟨5,.textOnly .lateStores⟩,⟨6,.textOnly .lateStores⟩,⟨7,.textOnly .lateStores⟩,⟨8,.textOnly .lateStores⟩,⟨9,.phase⟩],none⟩
def qc16x11:Oper:=⟨some 4,Op.assign (.tmp 107),28,"grammar.go:198",#[⟨8,.data⟩,⟨10,.chain⟩,⟨0,.phase⟩,⟨1,.phase⟩,⟨2,.phase⟩,⟨3,.phase⟩,⟨4,.phase⟩,⟨5,.phase⟩,⟨6,.phase⟩,⟨7,.phase⟩,⟨8,.phase⟩,⟨9,.phase⟩,⟨10,.phase⟩],none⟩
def qc16x12:Oper:=⟨some 49,Op.move (.tmp 8),59,"grammar.go:191",#[],none⟩
def qc16x13:Oper:=⟨some 50,Op.move (.tmp 8),59,"grammar.go:191",#[],none⟩
def qc16x14:Oper:=⟨some 51,Op.nilCheck (.tmp 50),0,"grammar.go:191",#[⟨1,.data⟩],none⟩
def qc16x15:Oper:=⟨some 52,Op.fieldAddr 61 (.tmp 51) 0,0,"grammar.go:191",#[⟨2,.data⟩],none⟩
def qc16x16:Oper:=⟨some 54,Op.move (.tmp 8),59,"grammar.go:191",#[],none⟩
def qc16x17:Oper:=⟨some 55,Op.nilCheck (.tmp 54),0,"grammar.go:191",#[⟨5,.data⟩],none⟩
def qc16x18:Oper:=⟨some 56,Op.fieldAddr 61 (.tmp 55) 1,0,"grammar.go:191",#[⟨6,.data⟩],none⟩
def qc16x19:Oper:=⟨some 53,Op.load 53 (.tmp 52),53,"grammar.go:191",#[⟨3,.data⟩],none⟩
def qc16x20:Oper:=⟨some 57,Op.load 3 (.tmp 56),3,"grammar.go:191",#[⟨7,.data⟩],none⟩
def qc16x21:Oper:=⟨some 58,Op.indexAddr 53 (.tmp 53) (.tmp 57),0,"grammar.go:191",#[⟨4,.data⟩,⟨8,.data⟩],none⟩
def qc16x22:Oper:=⟨some 59,Op.fieldAddr 64 (.tmp 58) 0,0,"grammar.go:191",#[⟨9,.data⟩],none⟩
def qc16x23:Oper:=⟨some 60,Op.load 3 (.tmp 59),3,"grammar.go:191",#[⟨10,.data⟩],none⟩
def qc16x24:Oper:=⟨some 61,Op.binOp BinOp.eql 3 (.tmp 60) (.const (Value.int .i64 1)) 3,4,"grammar.go:191",#[⟨11,.data⟩],none⟩
def qc16x25:Oper:=⟨some 62,Op.move (.tmp 61),4,"grammar.go:191",#[⟨12,.data⟩],none⟩
def qc16x26:Oper:=⟨some 63,Op.move (.tmp 8),59,"grammar.go:191",#[⟨13,.guard⟩],some (13,true)⟩
def qc16x27:Oper:=⟨some 64,Op.nilCheck (.tmp 63),0,"grammar.go:191",#[⟨14,.data⟩,⟨13,.guard⟩],some (13,true)⟩
def qc16x28:Oper:=⟨some 65,Op.fieldAddr 61 (.tmp 64) 2,0,"grammar.go:191",#[⟨15,.data⟩,⟨13,.guard⟩],some (13,true)⟩
def qc16x29:Oper:=⟨some 66,Op.fieldAddr 27 (.tmp 65) 0,0,"grammar.go:191",#[⟨16,.data⟩,⟨13,.guard⟩],some (13,true)⟩
def qc16x30:Oper:=⟨some 67,Op.load 9 (.tmp 66),9,"grammar.go:191",#[⟨17,.data⟩,⟨13,.guard⟩],some (13,true)⟩
def qc16x31:Oper:=⟨some 68,Op.call { callee:=Callee.value (.func 27),args:=#[.tmp 67],argTypes:=#[9] },4,"grammar.go:191",#[⟨18,.data⟩,⟨13,.chain⟩,⟨13,.guard⟩],some (13,true)⟩
def qc16x32:Oper:=⟨some 69,Op.pick (.tmp 62) (.tmp 68) (.const (Value.bool false)),4,"grammar.go:191",#[⟨13,.data⟩,⟨19,.data⟩],none⟩
def qc16x33:Oper:=⟨some 70,Op.call { callee:=Callee.value (.func 26),args:=#[.tmp 49,.tmp 69],argTypes:=#[59,4] },0,"grammar.go:191",#[⟨0,.data⟩,⟨20,.data⟩,⟨19,.chain⟩],none⟩
def qc16x34:Oper:=⟨some 134,Op.build 27 #[],27,"grammar.go:205",#[],none⟩
def qc16x35:Oper:=⟨some 135,Op.move (.tmp 5),53,"grammar.go:205",#[⟨5,.gcOnly .lateStores⟩],none⟩
def qc16x36:Oper:=⟨some 136,Op.indexAddr 53 (.tmp 135) (.const (Value.int .i64 0)),0,"grammar.go:205",#[⟨1,.data⟩,⟨5,.gcOnly .lateStores⟩],none⟩
def qc16x37:Oper:=⟨some 137,Op.fieldAddr 64 (.tmp 136) 1,0,"grammar.go:205",#[⟨2,.data⟩,⟨5,.gcOnly .lateStores⟩],none⟩
def qc16x38:Oper:=⟨some 138,Op.load 3 (.tmp 137),3,"grammar.go:205",#[⟨3,.data⟩,⟨5,.gcOnly .lateStores⟩],none⟩
def qc16x39:Oper:=⟨none,.store 27 (.tmp 2) (.tmp 134),0,"grammar.go:205",#[⟨0,.data⟩,⟨0,.phase⟩,⟨1,.textOnly .lateStores⟩,⟨2,.textOnly .lateStores⟩,⟨3,.textOnly .lateStores⟩,⟨4,.textOnly .lateStores⟩],none⟩
def qc16x40:Oper:=⟨some 3,Op.assign (.tmp 138),3,"grammar.go:205",#[⟨4,.data⟩,⟨5,.chain⟩,⟨0,.phase⟩,⟨1,.phase⟩,⟨2,.phase⟩,⟨3,.phase⟩,⟨4,.phase⟩,⟨5,.phase⟩],none⟩
def qc16x41:Oper:=⟨some 4,Op.assign (.const (Value.int .i64 9)),28,"grammar.go:205",#[⟨6,.chain⟩,⟨0,.phase⟩,⟨1,.phase⟩,⟨2,.phase⟩,⟨3,.phase⟩,⟨4,.phase⟩,⟨5,.phase⟩,⟨6,.phase⟩],none⟩
end Go.Proofs.YtcijdkbopiaicaaGreatDoor
namespace Go.Proofs.YtcijdkbopiaicaaGreatDoor
open Go.RowKit Go.Lib
theorem layQ (w:World):∃ W b,w.alloc (.cells #[.string ⟨#[]⟩,.int .i64 0,.int .i64 0,.int .i64 0,.int .i64 0,.int .i64 0,.int .i64 0,.int .i64 0,.slice none 0 0,.int .i64 0,.int .i64 0,.int .i64 0,.int .i64 0,.int .i64 0,.int .i64 0,.slice none 0 0,.int .i64 0,.int .i64 0,.slice none 0 0] 27)=W∧w.heap.size=b∧Ext w W∧Blk W b zP:=⟨_,_,rfl,rfl,(Ext.refl w).alloc _ _,heap_alloc_last w _⟩
theorem gopen_nm {T:List Tok}{d:Nat}{s:Dst}{h:Nat→Bool}{u:St}(hg:gopen T d s h=.ok u):u.p.nm=s.p.nm:=by
 unfold gopen at hg
 split at hg
 ·split at hg
  ·split at hg
   ·cases hg
   ·exact grp_nm _ _ _ u hg
  ·cases hg
 ·cases hg
theorem fine_dn {T:List Tok}{t0 t1:Tok}(hf:Fine ⟨T,prd0,had0⟩)(h0:T[0]?=some t0)(h1:T[1]?=some t1)(n0:t0.text≠[])(n1:t1.text≠[]):Fine ⟨T.drop 2,{ prd0 with nm:=t1.text },had0⟩:=by
 have f2:=(hf.next (show T=t0::T.drop 1 from tok_drop h0) n0).next (show T.drop 1=t1::T.drop 2 from tok_drop h1) n1
 exact⟨f2.fin,f2.len,f2.few⟩
theorem two_T {T:List Tok}{t0 t1:Tok}(h0:T[0]?=some t0)(h1:T[1]?=some t1):T=t0::t1::T.drop 2:=by
 have d0:T=t0::T.drop 1:=tok_drop h0
 have d1:T.drop 1=t1::T.drop 2:=tok_drop h1
 rw [d1] at d0
 exact d0
theorem tok_blk {w:World}{Z o:Nat}{s:ByteArray}(hB:Blk w Z zP)(h2:w.cell? ⟨Z,o+0 * 3+2,none⟩=some (.string s)):False:=by
 have h:=(cell_of_row w Z (o+0 * 3+2) _ _ _ hB).symm.trans h2
 have hl:o+0 * 3+2<19:=(Array.getElem?_eq_some_iff.1 h).1
 match o,hl,h with
 | 0,_,h=>simp [zP] at h
 | 1,_,h=>simp [zP] at h
 | 2,_,h=>simp [zP] at h
 | 3,_,h=>simp [zP] at h
 | 4,_,h=>simp [zP] at h
 | 5,_,h=>simp [zP] at h
 | 6,_,h=>simp [zP] at h
 | 7,_,h=>simp [zP] at h
 | 8,_,h=>simp [zP] at h
 | 9,_,h=>simp [zP] at h
 | 10,_,h=>simp [zP] at h
 | 11,_,h=>simp [zP] at h
 | 12,_,h=>simp [zP] at h
 | 13,_,h=>simp [zP] at h
 | 14,_,h=>simp [zP] at h
 | 15,_,h=>simp [zP] at h
 | 16,_,h=>simp [zP] at h
 | n+17,hl,_=>omega
theorem layR (w:World)(T:List Tok)(ao:Option Addr)(cp:Nat)(ht:Tks w (.slice ao T.length cp) T):∃ W r,w.alloc (.cells #[.slice ao T.length cp,.int .i64 0,.string ⟨#[]⟩,.int .i64 0,.int .i64 0,.int .i64 0,.int .i64 0,.int .i64 0,.int .i64 0,.int .i64 0,.slice none 0 0,.int .i64 0,.int .i64 0,.int .i64 0,.int .i64 0,.int .i64 0,.int .i64 1,.slice none 0 0,.int .i64 0,.int .i64 1,.slice none 0 0,.slice none 0 0,.int .i64 0,.int .i64 0] 61)=W∧w.heap.size=r∧Dn T w W r (.slice none 0 0) (.slice none 0 0) (.slice none 0 0) (.slice none 0 0) dz :=
 ⟨_,_,rfl,rfl,(Ext.refl w).alloc _ _,Nat.le_refl _,⟨.slice ao T.length cp,heap_alloc_last w _,ht⟩,World.ownsRow_nil _ _ _ _,World.ownsRow_nil _ _ _ _,World.ownsRow_nil _ _ _ _,World.ownsRow_nil _ _ _ _⟩
theorem aT_len {l:List UInt8}(h:L7.aE l=0):(L7.aT l).length≤20001:=by
 have hl:l.length≤20000:=by
  by_cases hl:20000<l.length
  ·unfold L7.aE at h;rw [if_pos hl] at h;cases h
  ·omega
 have h1:=(lexF_len (l.length+1) 0 l).1
 have h1':(L7.lex 0 l).1.length≤l.length:=h1
 unfold L7.aT
 rw [if_neg (by omega)]
 split
 ·simp only [List.length_nil];omega
 ·simp only [List.length_append,List.length_cons,List.length_nil];omega
def seven:List (List UInt8):=[[99,111,117,110,116],[114,111,117,110,100],[107,105,110,100],[101,118,101,114,121],[116,105,109,101,115],[114,97,116,101],[111,114,100,101,114]]
def pre7 (had:List (List UInt8))(k:Nat):Bool:=(seven.take k).all (fun x=>decide (x∈had))
theorem pre7_succ {had:List (List UInt8)}{k:Nat}{x:List UInt8}(h:seven[k]?=some x):pre7 had (k+1)=(pre7 had k&&decide (x∈had)):=by
 unfold pre7
 rw [List.take_add_one,h]
 simp
theorem pre7_whole {had:List (List UInt8)}{h:Nat→Bool}(hH:Hd had h):pre7 had 7=whole h:=by
 rw [whole_had hH]
 show ((seven.take 7).all _)=_
 rw [show seven.take 7 = [wordAt 0,wordAt 1,wordAt 2,wordAt 3,wordAt 4,wordAt 6,wordAt 12] from rfl]
 simp only [List.all_cons,List.all_nil,Bool.and_true]
theorem lay7 (w:World):∃ W b,w.alloc (.cells #[.string ⟨#[99,111,117,110,116]⟩,.string ⟨#[114,111,117,110,100]⟩,.string ⟨#[107,105,110,100]⟩,.string ⟨#[101,118,101,114,121]⟩,.string ⟨#[116,105,109,101,115]⟩,.string ⟨#[114,97,116,101]⟩,.string ⟨#[111,114,100,101,114]⟩] 9)=W∧w.heap.size=b∧Ext w W∧L8.Strs W b seven:=by
 refine⟨_,_,rfl,rfl,(Ext.refl w).alloc _ _,?_⟩
 have hr:=heap_alloc_last w (.cells #[.string ⟨#[99,111,117,110,116]⟩,.string ⟨#[114,111,117,110,100]⟩,.string ⟨#[107,105,110,100]⟩,.string ⟨#[101,118,101,114,121]⟩,.string ⟨#[116,105,109,101,115]⟩,.string ⟨#[114,97,116,101]⟩,.string ⟨#[111,114,100,101,114]⟩] 9)
 intro k u hk
 refine (cell_of_row _ _ k _ _ _ hr).trans ?_
 unfold seven at hk
 match k,hk with
 | 0,hk=>simp at hk;subst hk;rfl
 | 1,hk=>simp at hk;subst hk;rfl
 | 2,hk=>simp at hk;subst hk;rfl
 | 3,hk=>simp at hk;subst hk;rfl
 | 4,hk=>simp at hk;subst hk;rfl
 | 5,hk=>simp at hk;subst hk;rfl
 | 6,hk=>simp at hk;subst hk;rfl
 | k+7,hk=>simp at hk
theorem Dn.range {T:List Tok}{w0 w:World}{r:Nat}{vr vl vh vd:Value}{s:Dst}(h:Dn T w0 w r vr vl vh vd s):w.rangeAt r 2 (pcells s.p vr vl vh).toList:=by
 obtain⟨vt,hr,_⟩:=h.row
 intro j v hv
 refine (cell_of_row w r (2+j) _ _ _ hr).trans ?_
 have hj:j<19:=by
  have:=(List.getElem?_eq_some_iff.1 hv).1
  simpa [pcells] using this
 match j,hj with
 | 0,_=>exact hv
 | 1,_=>exact hv
 | 2,_=>exact hv
 | 3,_=>exact hv
 | 4,_=>exact hv
 | 5,_=>exact hv
 | 6,_=>exact hv
 | 7,_=>exact hv
 | 8,_=>exact hv
 | 9,_=>exact hv
 | 10,_=>exact hv
 | 11,_=>exact hv
 | 12,_=>exact hv
 | 13,_=>exact hv
 | 14,_=>exact hv
 | 15,_=>exact hv
 | 16,_=>exact hv
 | 17,_=>exact hv
 | 18,_=>exact hv
theorem loadm {ops:Array Oper}{rest:List Oper}{o:Oper}{a:Act}{w:World}{Q:Exit→Act→World→Prop}{x:Operand}{b k:Nat}{cs:List Value}(hc:w.rangeAt b k cs)(hn:cs.length=19)(ho:o.op=.load 27 x)
  (hx:a.eval x=.pointer (some ⟨b,k,none⟩)) (hw:Region.wanted o (yielded ops a.tmps)=true)
  (h:wpList Tryz.prog ops Q rest (a.put o.dst (.agg cs.toArray)) w):wpList Tryz.prog ops Q (o::rest) a w :=
 wpList_step fun K hK=>by
  rw [if_pos hw]
  exact wp_load_mid _ x ho b k hx cs _ hc Tryz.underlying27 rfl (by rw [hn];kernel_rfl) (hK _ _ h)
theorem ParseD_c (l:List UInt8)(w:World)(hm:l.length≤9223372036854775807)(he:Hid (Env w)) :
  Calls Tryz.prog 8 #[.string ⟨l.toArray⟩] w fun e w'=>Ans w (prs l) e w':=by
 obtain⟨W1,Z,hW1,hZ,hx1,hB1⟩:=layQ w
 have hZlo:Hid (w.heap.size≤Z):=by show _≤_;omega
 obtain⟨Y,hY⟩:∃ Y,prs l=Y:=⟨_,rfl⟩
 rw [hY]
 replace hY:=hid hY
 go_enter Tryz.func8,Tryz.ntmps8
 go_wp2_with fail
 refine (L7.rAll_c l _ hm).mono ?_
 rintro e w2 ⟨⟨v,rfl,hown⟩,hx2⟩
 have hB2:Hid (Blk w2 Z zP):=hB1.ext hx2
 replace hx2:Hid (Ext w w2):=hx1.trans hx2
 clear hW1 hx1 hB1
 by_cases hE:L7.aE l=0
 case neg =>
  have hYe:Hid (Y=.no (L7.aE l) (L7.aP l)):=by show _=_;rw [←hY.out];unfold prs;rw [if_neg hE]
  have hne:((L7.aE l:Int) != 0)=true:=by simpa using hE
  have heb:((L7.aE l:Int)==0)=false:=by simpa using hE
  obtain⟨ao,n,cc,rfl⟩:=hown.slc
  have hBo:=hB2.out
  clear hown
  go_wp2_with (refine store27 hBo zP_ok.1 (cs:=zP) zP_ok.1 zP_ok.2 rfl rfl rfl rfl ?_)
  intro W3 hB3 hx3
  replace hB3:=hid hB3
  replace hx3:=hid hx3
  clear hBo
  go_wp2
  refine bodyPost_ret (v:=.tuple #[.agg zP,.int .i64 (L7.aP l),.int .i64 (L7.aE l)]) (results3 (p:=2) (q:=3) (r:=4) Tryz.results8 _ _ Z zP rfl hB3.out zP_ok.1) rfl ?_
  rw [hYe.out]
  exact⟨hx3.out.ext hx2.out hZlo.out,rfl⟩
 have heb0:((L7.aE l:Int)==0)=true:=by simp [hE]
 have hne0:((L7.aE l:Int) != 0)=false:=by simp [hE]
 have hfi:=fine_of hE prd0 rfl had0
 have hlen:=aT_len hE
 have hKa:∀ t∈L7.aT l,Kin t:=aT_kin
 have htk:=tks_own hown
 have hpY:textR (L7.aT l)=Y:=by rw [←hY.out];unfold prs;rw [if_pos hE]
 clear hown hY hE
 generalize L7.aT l=T at *
 obtain⟨ao,cp,rfl,hcp,hkt⟩:=id htk
 obtain⟨hEt,hX⟩:=fine_T hfi
 have hT2:T.length≤20010:=by omega
 obtain⟨t0,ts0,hs0,_,_⟩:=hfi.cons
 have h0:T[0]?=some t0:=by rw [show T=t0::ts0 from hs0];rfl
 have he2:Hid (Env w2):=he.out.ext hx2.out
 obtain⟨W3,r,hW3,hr3,hD⟩:=layR w2 T ao cp htk
 have hrZ:Hid (r≠Z):=by
  show r≠Z
  have:=(Array.getElem?_eq_some_iff.1 hB2.out).1
  omega
 replace hD:=hid hD
 replace htk:=show Hid (Tks w2 _ T) from htk
 replace hkt:=hid hkt
 replace hfi:=hid hfi
 replace hpY:=hid hpY
 replace hs0:=hid hs0
 go_wp2_with fail
 refine (sign_c T w2 _ r 1 [112,114,111,100,117,99,116] _ _ _ _ dz hT2 (fun _=>⟨t0,h0⟩) hD.out).mono ?_
 rintro e w4 ⟨rfl,h,hXr⟩
 clear hW3 hXr hD hr3
 have hk0:=hKa t0 (List.mem_of_getElem? h0)
 have hsg:=sg_tok (k:=1) (T:=T) (s:=dz) rfl h0 hk0 (l:=[112,114,111,100,117,99,116]) (by decide)
 rw [show ((1:Nat):Int)=1 from rfl] at hsg
 have hos:Oks T (dz.sg T 1 [112,114,111,100,117,99,116]):=(Oks.mk (Nat.zero_le _) (fun _=>⟨t0,h0⟩)).sg hEt (by decide)
 obtain⟨S1,hS1⟩:∃ S,dz.sg T 1 [112,114,111,100,117,99,116]=S:=⟨_,rfl⟩
 rw [hS1] at h hsg hos
 replace hsg:S1=if t0.text=prodL then dz.inc else { dz with e:=7,a:=t0.at_ }:=hsg
 clear hS1
 replace h:=hid h
 replace hos:=hid hos
 by_cases hq:t0.text=prodL
 case neg =>
  have hSe:S1 = { dz with e:=7,a:=t0.at_ }:=by rw [hsg,if_neg hq]
  have hee:S1.e≠0:=by rw [hSe];show (7:Nat)≠0;decide
  have hYe:Hid (Y=.no S1.e S1.a):=by
   show _=_
   rw [←hpY.out,show T=t0::ts0 from hs0.out,textR_a hq,hSe]
  clear hSe hsg
  have heb:((S1.e:Int)==0)=false:=by simpa using hee
  have hne:((S1.e:Int) != 0)=true:=by simpa using hee
  obtain⟨c22,_⟩:=h.out.cell 22 (.int .i64 S1.e) (fun _=>rfl)
  go_wp2_with fail
  clear c22
  refine (groupD_bad T w2 r hlen hEt 1 _ _ _ _ _ S1 hee hos.out h.out).mono ?_
  rintro e w5 ⟨rfl,h⟩
  replace h:=hid h
  obtain⟨c22,_⟩:=h.out.cell 22 (.int .i64 S1.e) (fun _=>rfl)
  have hNe:Nonempty (Late w5):=⟨⟨_,Ext.refl _⟩⟩
  have j22:=Late.cell c22
  clear c22
  go_upto_region 10 with fail
  refine rl ?_
  repeat (go_big_quiet_step (fail))
  refine wpQuiet_nil ?_
  intro wy hw'
  replace h:=hid <| h.out.on (late_ext hw')
  clear hw' j22 hNe
  obtain⟨c22,_⟩:=h.out.cell 22 (.int .i64 S1.e) (fun _=>rfl)
  go_upto_region 13 with fail
  obtain⟨c23,_⟩:=h.out.cell 23 (.int .i64 S1.a) (fun _=>rfl)
  have hdr:Ext wy wy.drew:=(Ext.refl wy).drew
  refine L8.wp_region_thrown (fun W=>W.cell? ⟨r,22,none⟩=some (.int .i64 S1.e)∧W.cell? ⟨r,23,none⟩=some (.int .i64 S1.a)) (fun a=>False) [] (fun t=>none) (fun x W=>False) (by kernel_rfl) (fun _ _ _ h1 _ h3=>h3.elim) ⟨hdr.cell_of c22,hdr.cell_of c23⟩ (fun hSt=>?_)
  replace h:=hid <| h.out.on hdr
  clear c22 c23
  generalize wy.drew=wz at *
  clear hdr
  refine L8.tk 0 qc16x0 (some 99) (.agg #[.string ⟨#[]⟩,.int .i64 0,.int .i64 0,.int .i64 0,.int .i64 0,.int .i64 0,.int .i64 0,.int .i64 0,.slice none 0 0,.int .i64 0,.int .i64 0,.int .i64 0,.int .i64 0,.int .i64 0,.int .i64 0,.slice none 0 0,.int .i64 0,.int .i64 0,.slice none 0 0]) hSt (fun W hW=>?_) ?_
  ·unfold qc16x0
   go_simp
  simp only [p4]
  refine L8.tk 1 qc16x1 (some 100) (.pointer (some ⟨r,0,none⟩)) hSt (fun W hW=>?_) ?_
  ·unfold qc16x1
   go_simp
  simp only [p4]
  refine L8.tk 2 qc16x2 (some 101) (.pointer (some ⟨r,0,none⟩)) hSt (fun W hW=>?_) ?_
  ·unfold qc16x2
   go_simp
  simp only [p4]
  refine L8.tk 3 qc16x3 (some 102) (.pointer (some ⟨r,23,none⟩)) hSt (fun W hW=>?_) ?_
  ·unfold qc16x3
   go_simp
  simp only [p4]
  refine L8.tk 4 qc16x4 (some 103) (.int .i64 S1.a) hSt (fun W hW=>?_) ?_
  ·unfold qc16x4
   have hW1:=hW.2
   go_simp
  simp only [p4]
  refine L8.tk 5 qc16x5 (some 104) (.pointer (some ⟨r,0,none⟩)) hSt (fun W hW=>?_) ?_
  ·unfold qc16x5
   go_simp
  simp only [p4]
  refine L8.tk 6 qc16x6 (some 105) (.pointer (some ⟨r,0,none⟩)) hSt (fun W hW=>?_) ?_
  ·unfold qc16x6
   go_simp
  simp only [p4]
  refine L8.tk 7 qc16x7 (some 106) (.pointer (some ⟨r,22,none⟩)) hSt (fun W hW=>?_) ?_
  ·unfold qc16x7
   go_simp
  simp only [p4]
  refine L8.tk 8 qc16x8 (some 107) (.int .i64 S1.e) hSt (fun W hW=>?_) ?_
  ·unfold qc16x8
   have hW1:=hW.1
   go_simp
  simp only [p4]
  have hBz:Blk wz Z zP:=hB2.out.ext h.out.ext
  refine L8.up 9 qc16x9 fun K hK=>?_
  unfold qc16x9
  rw [if_pos (by rfl)]
  have hx6:=Exr.setRow wz Z zP
  refine wp_store_row _ (.tmp 2) (.tmp 99) rfl Z zP rfl rfl _ zP hBz (by kernel_rfl) rfl zP_ok.2 ?_
  refine hK.out _ _ ⟨hx6.cell_of hrZ.out hSt.1,hx6.cell_of hrZ.out hSt.2⟩ ?_
  clear hK K
  intro hSt
  have hB6:=show Hid (Blk (wz.setRow Z zP) Z zP) from setRow_heap wz Z _ zP _ _ hBz
  replace hx6:=hid hx6
  clear hBz
  simp only [Act.put]
  refine L8.tk 10 qc16x10 (some 3) (.int .i64 S1.a) hSt (fun W hW=>?_) ?_
  ·unfold qc16x10
   go_simp
  simp only [p4]
  refine L8.tk 11 qc16x11 (some 4) (.int .i64 S1.e) hSt (fun W hW=>?_) ?_
  ·unfold qc16x11
   go_simp
  simp only [p4]
  refine L8.dn ?_
  clear hSt
  go_wp2
  refine bodyPost_ret (v:=.tuple #[.agg zP,.int .i64 S1.a,.int .i64 S1.e]) (results3 (p:=2) (q:=3) (r:=4) Tryz.results8 _ _ Z zP rfl hB6.out zP_ok.1) rfl ?_
  rw [hYe.out]
  exact⟨hx6.out.ext (hx2.out.trans h.out.ext) hZlo.out,rfl⟩
 rw [if_pos hq] at hsg
 have hS1e:S1.e=0:=by rw [hsg];rfl
 have heb1:((S1.e:Int)==0)=true:=by rw [hS1e];rfl
 have hne1:((S1.e:Int) != 0)=false:=by rw [hS1e];rfl
 obtain⟨t1,h1⟩:=hEt.next h0 (show t0.text≠[] by rw [hq];decide)
 have h1':T[S1.i]?=some t1:=by rw [hsg];exact h1
 have hk1:=hKa t1 (List.mem_of_getElem? h1)
 have ht1:=hX t1 (List.mem_of_getElem? h1)
 have hi1n:=(List.getElem?_eq_some_iff.1 h1').1
 have hi1:(S1.i:Int)<(T.length:Int):=by omega
 have hi0:(0:Int)≤(S1.i:Int):=by omega
 obtain⟨g,off,c,c0,hc,hgr,k0,k1,k2⟩:=h.out.tok h1'
 obtain⟨c1,z1⟩:=h.out.cell 1 (.int .i64 S1.i) (fun _=>rfl)
 obtain⟨c2,z2⟩:=h.out.cell 2 (.string ⟨S1.p.nm.toArray⟩) (fun _=>rfl)
 obtain⟨c22,z22⟩:=h.out.cell 22 (.int .i64 S1.e) (fun _=>rfl)
 replace hsg:=hid hsg
 replace hq:=hid hq
 replace h1':=hid h1'
 clear z1 z22
 go_upto_region 7 with fail
 clear c22
 go_region_held3 (fun W=>W.cell? ⟨r,0,none⟩=some (.slice (some ⟨g,off,none⟩) T.length c)∧W.cell? ⟨r,1,none⟩=some (.int .i64 S1.i)∧W.cell? ⟨g,off+S1.i * 3+2,none⟩=some (.string ⟨t1.text.toArray⟩)∧W.frozen? ⟨r,2,none⟩=false) (refine ⟨?_,?_,?_,?_⟩ <;> first | (show (World.setCell _ _ _).cell? _=_;rw [L8.other _ (Or.inr (by decide))];assumption) | (show (World.setCell _ _ _).cell? _=_;rw [L8.other _ (Or.inl hgr)];assumption) | (simp [go_sem, *])) (fail)
 clear c0 c1 c2 z2 k0 k1 k2 hi0 hi1 hi1n hc hgr
 have h7:Dn T w2 (w4.setCell ⟨r,2,none⟩ (.string ⟨t1.text.toArray⟩)) r _ _ _ _ { S1 with p:={ S1.p with nm:=t1.text } }:=h.out.turn 2 _ _ (fun _=>rfl) rfl rfl rfl rfl
 obtain⟨S2,hS2⟩:∃ S:Dst,{ S1 with p:={ S1.p with nm:=t1.text } }=S:=⟨_,rfl⟩
 rw [hS2] at h7
 replace h:=hid <| h7.on ((Ext.refl _).drew)
 clear h7
 generalize (w4.setCell ⟨r,2,none⟩ (.string ⟨t1.text.toArray⟩)).drew=w5 at *
 have hS2d:Hid (S2 = { S1 with p:={ S1.p with nm:=t1.text } }):=hS2.symm
 have hS2n:Hid (S2.p.nm=t1.text):=by show _=_;rw [←hS2]
 have hS2e:Hid (S2.e=0):=by show _=_;rw [←hS2];exact hS1e
 have hos2:Hid (Oks T S2):=by show Oks T S2;rw [←hS2];exact hos.out.turn rfl rfl
 have h1s:T[S2.i]?=some t1:=by rw [←hS2];exact h1'.out
 have hS2l:Hid (S2.i≤20010):=by show _≤_;have:=(List.getElem?_eq_some_iff.1 h1s).1;omega
 replace h1':=hid h1s
 have hi1n:=(List.getElem?_eq_some_iff.1 h1s).1
 have hi1:(S2.i:Int)<(T.length:Int):=by omega
 have hi0:(0:Int)≤(S2.i:Int):=by omega
 clear hS2 h1s hos hS1e heb1 hne1
 go_upto_region 8 with fail
 cases hn:L8.nmb t1.text
 case false =>
  have hnm:=hid hn
  clear hn
  go_cut [] from 49 to 70 (fun wx=>Dn T w2 wx r (.slice none 0 0) (.slice none 0 0) (.slice none 0 0) (.slice none 0 0) (S2.fl T 7))
  case first =>
   by_cases hk:t1.kind=1
   case neg =>
    have hki:((t1.kind:Int)==1)=false:=by simpa using fun h:(t1.kind:Int)=1=>hk (by omega)
    obtain⟨g,off,c,c0,hc,hgr,k0,k1,k2⟩:=h.out.tok h1'.out
    obtain⟨c1,_⟩:=h.out.cell 1 (.int .i64 S2.i) (fun _=>rfl)
    obtain⟨c2,_⟩:=h.out.cell 2 (.string ⟨t1.text.toArray⟩) (fun _=>by rw [←hS2n.out];rfl)
    have hdr:Ext w5 w5.drew:=(Ext.refl w5).drew
    replace c0:=hdr.cell_of c0
    replace c1:=hdr.cell_of c1
    replace c2:=hdr.cell_of c2
    replace k0:=hdr.cell_of k0
    refine L8.wt (fun W=>True) trivial fun hSt=>?_
    replace h:=hid <| h.out.on hdr
    clear k1 k2
    generalize w5.drew=wa at *
    clear hdr
    refine L8.tk 0 qc16x12 (some 49) (.pointer (some ⟨r,0,none⟩)) hSt (fun W hW=>?_) ?_
    ·unfold qc16x12
     go_simp
    simp only [p4]
    refine L8.tk 1 qc16x13 (some 50) (.pointer (some ⟨r,0,none⟩)) hSt (fun W hW=>?_) ?_
    ·unfold qc16x13
     go_simp
    simp only [p4]
    refine L8.tk 2 qc16x14 (some 51) (.pointer (some ⟨r,0,none⟩)) hSt (fun W hW=>?_) ?_
    ·unfold qc16x14
     go_simp
    simp only [p4]
    refine L8.tk 3 qc16x15 (some 52) (.pointer (some ⟨r,0,none⟩)) hSt (fun W hW=>?_) ?_
    ·unfold qc16x15
     go_simp
    simp only [p4]
    refine L8.tk 5 qc16x16 (some 54) (.pointer (some ⟨r,0,none⟩)) hSt (fun W hW=>?_) ?_
    ·unfold qc16x16
     go_simp
    simp only [p4]
    refine L8.tk 6 qc16x17 (some 55) (.pointer (some ⟨r,0,none⟩)) hSt (fun W hW=>?_) ?_
    ·unfold qc16x17
     go_simp
    simp only [p4]
    refine L8.tk 7 qc16x18 (some 56) (.pointer (some ⟨r,1,none⟩)) hSt (fun W hW=>?_) ?_
    ·unfold qc16x18
     go_simp
    simp only [p4]
    refine wpAnyH_ready (rs:=[4,8]) (by kernel_rfl) (by simp) ?_
    refine AllReadyH.cons (o:=qc16x19) rfl (fun K hK=>?ra1) (AllReadyH.cons (o:=qc16x20) rfl (fun K hK=>?rb1) AllReadyH.nil)
    case' ra1 =>
     unfold qc16x19
     go_simp
     refine L8.bk hK ?_
     clear hK K
     have hSt:=trivial
     try simp only [p4]
     refine L8.up 8 qc16x20 fun K hK=>?_
     unfold qc16x20
     go_simp
     refine L8.bk hK ?_
     clear hK K
     have hSt:=trivial
     try simp only [p4]
    case' rb1 =>
     unfold qc16x20
     go_simp
     refine L8.bk hK ?_
     clear hK K
     have hSt:=trivial
     try simp only [p4]
     refine L8.up 4 qc16x19 fun K hK=>?_
     unfold qc16x19
     go_simp
     refine L8.bk hK ?_
     clear hK K
     have hSt:=trivial
     try simp only [p4]
    all_goals
     refine L8.tk 9 qc16x21 (some 58) (.pointer (some ⟨g,off+S2.i * 3,none⟩)) hSt (fun W hW=>?_) ?_
     ·unfold qc16x21
      go_simp
     simp only [p4]
     refine L8.tk 10 qc16x22 (some 59) (.pointer (some ⟨g,off+S2.i * 3,none⟩)) hSt (fun W hW=>?_) ?_
     ·unfold qc16x22
      go_simp
     simp only [p4]
     refine L8.up 11 qc16x23 fun K hK=>?_
     unfold qc16x23
     go_simp
     refine L8.bk hK ?_
     clear hK K
     have hSt:=trivial
     try simp only [p4]
     refine L8.tk 12 qc16x24 (some 61) (.bool false) hSt (fun W hW=>?_) ?_
     ·unfold qc16x24
      go_simp
     simp only [p4]
     refine L8.tk 13 qc16x25 (some 62) (.bool false) hSt (fun W hW=>?_) ?_
     ·unfold qc16x25
      go_simp
     simp only [p4]
     refine L8.tn 14 qc16x26 (some 63) hSt ?_
     simp only [p4]
     refine L8.tn 15 qc16x27 (some 64) hSt ?_
     simp only [p4]
     refine L8.tn 16 qc16x28 (some 65) hSt ?_
     simp only [p4]
     refine L8.tn 17 qc16x29 (some 66) hSt ?_
     simp only [p4]
     refine L8.tn 18 qc16x30 (some 67) hSt ?_
     simp only [p4]
     refine L8.tn 19 qc16x31 (some 68) hSt ?_
     simp only [p4]
     refine L8.tk 20 qc16x32 (some 69) (.bool false) hSt (fun W hW=>?_) ?_
     ·unfold qc16x32
      go_simp
     simp only [p4]
     refine L8.up 21 qc16x33 fun K hK=>?_
     unfold qc16x33
     go_simp
     refine (done_c T w2 wa r false _ _ _ _ S2 hT2 hS2l.out hos2.out.has h.out).mono ?_
     rintro e we ⟨rfl,h3,hX3⟩
     try dsimp only
     refine L8.bk hK ?_
     clear hK K
     have hSt:=trivial
     try simp only [p4]
     refine L8.dn ?_
     replace h3:=hid h3
     clear hX3 h c0 c1 c2 k0 hgr hc hSt
     go_wp2
     go_meet
     exact h3.out
   have hki:((t1.kind:Int)==1)=true:=by simp [hk]
   obtain⟨g,off,c,c0,hc,hgr,k0,k1,k2⟩:=h.out.tok h1'.out
   obtain⟨c1,_⟩:=h.out.cell 1 (.int .i64 S2.i) (fun _=>rfl)
   obtain⟨c2,_⟩:=h.out.cell 2 (.string ⟨t1.text.toArray⟩) (fun _=>by rw [←hS2n.out];rfl)
   have hdr:Ext w5 w5.drew:=(Ext.refl w5).drew
   replace c0:=hdr.cell_of c0
   replace c1:=hdr.cell_of c1
   replace c2:=hdr.cell_of c2
   replace k0:=hdr.cell_of k0
   refine L8.wt (fun W=>True) trivial fun hSt=>?_
   replace h:=hid <| h.out.on hdr
   clear k1 k2
   generalize w5.drew=wa at *
   clear hdr
   refine L8.tk 0 qc16x12 (some 49) (.pointer (some ⟨r,0,none⟩)) hSt (fun W hW=>?_) ?_
   ·unfold qc16x12
    go_simp
   simp only [p4]
   refine L8.tk 1 qc16x13 (some 50) (.pointer (some ⟨r,0,none⟩)) hSt (fun W hW=>?_) ?_
   ·unfold qc16x13
    go_simp
   simp only [p4]
   refine L8.tk 2 qc16x14 (some 51) (.pointer (some ⟨r,0,none⟩)) hSt (fun W hW=>?_) ?_
   ·unfold qc16x14
    go_simp
   simp only [p4]
   refine L8.tk 3 qc16x15 (some 52) (.pointer (some ⟨r,0,none⟩)) hSt (fun W hW=>?_) ?_
   ·unfold qc16x15
    go_simp
   simp only [p4]
   refine L8.tk 5 qc16x16 (some 54) (.pointer (some ⟨r,0,none⟩)) hSt (fun W hW=>?_) ?_
   ·unfold qc16x16
    go_simp
   simp only [p4]
   refine L8.tk 6 qc16x17 (some 55) (.pointer (some ⟨r,0,none⟩)) hSt (fun W hW=>?_) ?_
   ·unfold qc16x17
    go_simp
   simp only [p4]
   refine L8.tk 7 qc16x18 (some 56) (.pointer (some ⟨r,1,none⟩)) hSt (fun W hW=>?_) ?_
   ·unfold qc16x18
    go_simp
   simp only [p4]
   refine wpAnyH_ready (rs:=[4,8]) (by kernel_rfl) (by simp) ?_
   refine AllReadyH.cons (o:=qc16x19) rfl (fun K hK=>?ra2) (AllReadyH.cons (o:=qc16x20) rfl (fun K hK=>?rb2) AllReadyH.nil)
   case' ra2 =>
    unfold qc16x19
    go_simp
    refine L8.bk hK ?_
    clear hK K
    have hSt:=trivial
    try simp only [p4]
    refine L8.up 8 qc16x20 fun K hK=>?_
    unfold qc16x20
    go_simp
    refine L8.bk hK ?_
    clear hK K
    have hSt:=trivial
    try simp only [p4]
   case' rb2 =>
    unfold qc16x20
    go_simp
    refine L8.bk hK ?_
    clear hK K
    have hSt:=trivial
    try simp only [p4]
    refine L8.up 4 qc16x19 fun K hK=>?_
    unfold qc16x19
    go_simp
    refine L8.bk hK ?_
    clear hK K
    have hSt:=trivial
    try simp only [p4]
   all_goals
    refine L8.tk 9 qc16x21 (some 58) (.pointer (some ⟨g,off+S2.i * 3,none⟩)) hSt (fun W hW=>?_) ?_
    ·unfold qc16x21
     go_simp
    simp only [p4]
    refine L8.tk 10 qc16x22 (some 59) (.pointer (some ⟨g,off+S2.i * 3,none⟩)) hSt (fun W hW=>?_) ?_
    ·unfold qc16x22
     go_simp
    simp only [p4]
    refine L8.up 11 qc16x23 fun K hK=>?_
    unfold qc16x23
    go_simp
    refine L8.bk hK ?_
    clear hK K
    have hSt:=trivial
    try simp only [p4]
    refine L8.tk 12 qc16x24 (some 61) (.bool true) hSt (fun W hW=>?_) ?_
    ·unfold qc16x24
     go_simp
    simp only [p4]
    refine L8.tk 13 qc16x25 (some 62) (.bool true) hSt (fun W hW=>?_) ?_
    ·unfold qc16x25
     go_simp
    simp only [p4]
    refine L8.tk 14 qc16x26 (some 63) (.pointer (some ⟨r,0,none⟩)) hSt (fun W hW=>?_) ?_
    ·unfold qc16x26
     go_simp
    simp only [p4]
    refine L8.tk 15 qc16x27 (some 64) (.pointer (some ⟨r,0,none⟩)) hSt (fun W hW=>?_) ?_
    ·unfold qc16x27
     go_simp
    simp only [p4]
    refine L8.tk 16 qc16x28 (some 65) (.pointer (some ⟨r,2,none⟩)) hSt (fun W hW=>?_) ?_
    ·unfold qc16x28
     go_simp
    simp only [p4]
    refine L8.tk 17 qc16x29 (some 66) (.pointer (some ⟨r,2,none⟩)) hSt (fun W hW=>?_) ?_
    ·unfold qc16x29
     go_simp
    simp only [p4]
    refine L8.up 18 qc16x30 fun K hK=>?_
    unfold qc16x30
    go_simp
    refine L8.bk hK ?_
    clear hK K
    have hSt:=trivial
    try simp only [p4]
    refine L8.up 19 qc16x31 fun K hK=>?_
    unfold qc16x31
    go_simp
    refine (L8.rName_x t1.text false hnm.out _ (by omega)).mono ?_
    rintro e wb ⟨rfl,hxb⟩
    replace h:=hid <| h.out.on hxb
    clear hxb
    try dsimp only
    refine L8.bk hK ?_
    clear hK K
    have hSt:=trivial
    try simp only [p4]
    refine L8.tk 20 qc16x32 (some 69) (.bool false) hSt (fun W hW=>?_) ?_
    ·unfold qc16x32
     go_simp
    simp only [p4]
    refine L8.up 21 qc16x33 fun K hK=>?_
    unfold qc16x33
    go_simp
    refine (done_c T w2 wb r false _ _ _ _ S2 hT2 hS2l.out hos2.out.has h.out).mono ?_
    rintro e we ⟨rfl,h3,hX3⟩
    try dsimp only
    refine L8.bk hK ?_
    clear hK K
    have hSt:=trivial
    try simp only [p4]
    refine L8.dn ?_
    replace h3:=hid h3
    clear hX3 h c0 c1 c2 k0 hgr hc hSt
    go_wp2
    go_meet
    exact h3.out
  case rest =>
   clear h
   have h:=hid hcut
   clear hcut hi0 hi1 hi1n
   obtain⟨S,hS⟩:∃ S,S2.fl T 7=S:=⟨_,rfl⟩
   have hSe:S = { S2 with e:=7,a:=t1.at_ }:=by rw [←hS];exact fl_at hS2e.out h1'.out
   have hosS:Hid (Oks T S):=hS ▸ hos2.out.fl (by decide)
   replace h:Hid (Dn T w2 wc r _ _ _ _ S):=hS ▸ h.out
   have hee:S.e≠0:=by rw [hSe];show (7:Nat)≠0;decide
   have hYe:Hid (Y=.no S.e S.a):=by
    show _=_
    rw [←hpY.out,two_T h0 h1,textR_b hq.out hnm.out,hSe]
   clear hSe hS
   have heb:((S.e:Int)==0)=false:=by simpa using hee
   have hne:((S.e:Int) != 0)=true:=by simpa using hee
   go_wp2_with fail
   refine (groupD_bad T w2 r hlen hEt 1 _ _ _ _ _ S hee hosS.out h.out).mono ?_
   rintro e w5 ⟨rfl,h⟩
   replace h:=hid h
   obtain⟨c22,_⟩:=h.out.cell 22 (.int .i64 S.e) (fun _=>rfl)
   have hNe:Nonempty (Late w5):=⟨⟨_,Ext.refl _⟩⟩
   have j22:=Late.cell c22
   clear c22
   go_upto_region 10 with fail
   refine rl ?_
   repeat (go_big_quiet_step (fail))
   refine wpQuiet_nil ?_
   intro wy hw'
   replace h:=hid <| h.out.on (late_ext hw')
   clear hw' j22 hNe
   obtain⟨c22,_⟩:=h.out.cell 22 (.int .i64 S.e) (fun _=>rfl)
   go_upto_region 13 with fail
   obtain⟨c23,_⟩:=h.out.cell 23 (.int .i64 S.a) (fun _=>rfl)
   have hdr:Ext wy wy.drew:=(Ext.refl wy).drew
   refine L8.wp_region_thrown (fun W=>W.cell? ⟨r,22,none⟩=some (.int .i64 S.e)∧W.cell? ⟨r,23,none⟩=some (.int .i64 S.a)) (fun a=>False) [] (fun t=>none) (fun x W=>False) (by kernel_rfl) (fun _ _ _ h1 _ h3=>h3.elim) ⟨hdr.cell_of c22,hdr.cell_of c23⟩ (fun hSt=>?_)
   replace h:=hid <| h.out.on hdr
   clear c22 c23
   generalize wy.drew=wz at *
   clear hdr
   refine L8.tk 0 qc16x0 (some 99) (.agg #[.string ⟨#[]⟩,.int .i64 0,.int .i64 0,.int .i64 0,.int .i64 0,.int .i64 0,.int .i64 0,.int .i64 0,.slice none 0 0,.int .i64 0,.int .i64 0,.int .i64 0,.int .i64 0,.int .i64 0,.int .i64 0,.slice none 0 0,.int .i64 0,.int .i64 0,.slice none 0 0]) hSt (fun W hW=>?_) ?_
   ·unfold qc16x0
    go_simp
   simp only [p4]
   refine L8.tk 1 qc16x1 (some 100) (.pointer (some ⟨r,0,none⟩)) hSt (fun W hW=>?_) ?_
   ·unfold qc16x1
    go_simp
   simp only [p4]
   refine L8.tk 2 qc16x2 (some 101) (.pointer (some ⟨r,0,none⟩)) hSt (fun W hW=>?_) ?_
   ·unfold qc16x2
    go_simp
   simp only [p4]
   refine L8.tk 3 qc16x3 (some 102) (.pointer (some ⟨r,23,none⟩)) hSt (fun W hW=>?_) ?_
   ·unfold qc16x3
    go_simp
   simp only [p4]
   refine L8.tk 4 qc16x4 (some 103) (.int .i64 S.a) hSt (fun W hW=>?_) ?_
   ·unfold qc16x4
    have hW1:=hW.2
    go_simp
   simp only [p4]
   refine L8.tk 5 qc16x5 (some 104) (.pointer (some ⟨r,0,none⟩)) hSt (fun W hW=>?_) ?_
   ·unfold qc16x5
    go_simp
   simp only [p4]
   refine L8.tk 6 qc16x6 (some 105) (.pointer (some ⟨r,0,none⟩)) hSt (fun W hW=>?_) ?_
   ·unfold qc16x6
    go_simp
   simp only [p4]
   refine L8.tk 7 qc16x7 (some 106) (.pointer (some ⟨r,22,none⟩)) hSt (fun W hW=>?_) ?_
   ·unfold qc16x7
    go_simp
   simp only [p4]
   refine L8.tk 8 qc16x8 (some 107) (.int .i64 S.e) hSt (fun W hW=>?_) ?_
   ·unfold qc16x8
    have hW1:=hW.1
    go_simp
   simp only [p4]
   have hBz:Blk wz Z zP:=hB2.out.ext h.out.ext
   refine L8.up 9 qc16x9 fun K hK=>?_
   unfold qc16x9
   rw [if_pos (by rfl)]
   have hx6:=Exr.setRow wz Z zP
   refine wp_store_row _ (.tmp 2) (.tmp 99) rfl Z zP rfl rfl _ zP hBz (by kernel_rfl) rfl zP_ok.2 ?_
   refine hK.out _ _ ⟨hx6.cell_of hrZ.out hSt.1,hx6.cell_of hrZ.out hSt.2⟩ ?_
   clear hK K
   intro hSt
   have hB6:=show Hid (Blk (wz.setRow Z zP) Z zP) from setRow_heap wz Z _ zP _ _ hBz
   replace hx6:=hid hx6
   clear hBz
   simp only [Act.put]
   refine L8.tk 10 qc16x10 (some 3) (.int .i64 S.a) hSt (fun W hW=>?_) ?_
   ·unfold qc16x10
    go_simp
   simp only [p4]
   refine L8.tk 11 qc16x11 (some 4) (.int .i64 S.e) hSt (fun W hW=>?_) ?_
   ·unfold qc16x11
    go_simp
   simp only [p4]
   refine L8.dn ?_
   clear hSt
   go_wp2
   refine bodyPost_ret (v:=.tuple #[.agg zP,.int .i64 S.a,.int .i64 S.e]) (results3 (p:=2) (q:=3) (r:=4) Tryz.results8 _ _ Z zP rfl hB6.out zP_ok.1) rfl ?_
   rw [hYe.out]
   exact⟨hx6.out.ext (hx2.out.trans h.out.ext) hZlo.out,rfl⟩
 have hnm:=hid hn
 clear hn
 have hk:t1.kind=1:=hk1.trans (nmb_kd hnm.out)
 have hki:((t1.kind:Int)==1)=true:=by simp [hk]
 go_cut [] from 49 to 70 (fun wx=>Dn T w2 wx r (.slice none 0 0) (.slice none 0 0) (.slice none 0 0) (.slice none 0 0) S2.inc)
 case first =>
  obtain⟨g,off,c,c0,hc,hgr,k0,k1,k2⟩:=h.out.tok h1'.out
  obtain⟨c1,_⟩:=h.out.cell 1 (.int .i64 S2.i) (fun _=>rfl)
  obtain⟨c2,_⟩:=h.out.cell 2 (.string ⟨t1.text.toArray⟩) (fun _=>by rw [←hS2n.out];rfl)
  have hdr:Ext w5 w5.drew:=(Ext.refl w5).drew
  replace c0:=hdr.cell_of c0
  replace c1:=hdr.cell_of c1
  replace c2:=hdr.cell_of c2
  replace k0:=hdr.cell_of k0
  refine L8.wt (fun W=>True) trivial fun hSt=>?_
  replace h:=hid <| h.out.on hdr
  clear k1 k2
  generalize w5.drew=wa at *
  clear hdr
  refine L8.tk 0 qc16x12 (some 49) (.pointer (some ⟨r,0,none⟩)) hSt (fun W hW=>?_) ?_
  ·unfold qc16x12
   go_simp
  simp only [p4]
  refine L8.tk 1 qc16x13 (some 50) (.pointer (some ⟨r,0,none⟩)) hSt (fun W hW=>?_) ?_
  ·unfold qc16x13
   go_simp
  simp only [p4]
  refine L8.tk 2 qc16x14 (some 51) (.pointer (some ⟨r,0,none⟩)) hSt (fun W hW=>?_) ?_
  ·unfold qc16x14
   go_simp
  simp only [p4]
  refine L8.tk 3 qc16x15 (some 52) (.pointer (some ⟨r,0,none⟩)) hSt (fun W hW=>?_) ?_
  ·unfold qc16x15
   go_simp
  simp only [p4]
  refine L8.tk 5 qc16x16 (some 54) (.pointer (some ⟨r,0,none⟩)) hSt (fun W hW=>?_) ?_
  ·unfold qc16x16
   go_simp
  simp only [p4]
  refine L8.tk 6 qc16x17 (some 55) (.pointer (some ⟨r,0,none⟩)) hSt (fun W hW=>?_) ?_
  ·unfold qc16x17
   go_simp
  simp only [p4]
  refine L8.tk 7 qc16x18 (some 56) (.pointer (some ⟨r,1,none⟩)) hSt (fun W hW=>?_) ?_
  ·unfold qc16x18
   go_simp
  simp only [p4]
  refine wpAnyH_ready (rs:=[4,8]) (by kernel_rfl) (by simp) ?_
  refine AllReadyH.cons (o:=qc16x19) rfl (fun K hK=>?ra3) (AllReadyH.cons (o:=qc16x20) rfl (fun K hK=>?rb3) AllReadyH.nil)
  case' ra3 =>
   unfold qc16x19
   go_simp
   refine L8.bk hK ?_
   clear hK K
   have hSt:=trivial
   try simp only [p4]
   refine L8.up 8 qc16x20 fun K hK=>?_
   unfold qc16x20
   go_simp
   refine L8.bk hK ?_
   clear hK K
   have hSt:=trivial
   try simp only [p4]
  case' rb3 =>
   unfold qc16x20
   go_simp
   refine L8.bk hK ?_
   clear hK K
   have hSt:=trivial
   try simp only [p4]
   refine L8.up 4 qc16x19 fun K hK=>?_
   unfold qc16x19
   go_simp
   refine L8.bk hK ?_
   clear hK K
   have hSt:=trivial
   try simp only [p4]
  all_goals
   refine L8.tk 9 qc16x21 (some 58) (.pointer (some ⟨g,off+S2.i * 3,none⟩)) hSt (fun W hW=>?_) ?_
   ·unfold qc16x21
    go_simp
   simp only [p4]
   refine L8.tk 10 qc16x22 (some 59) (.pointer (some ⟨g,off+S2.i * 3,none⟩)) hSt (fun W hW=>?_) ?_
   ·unfold qc16x22
    go_simp
   simp only [p4]
   refine L8.up 11 qc16x23 fun K hK=>?_
   unfold qc16x23
   go_simp
   refine L8.bk hK ?_
   clear hK K
   have hSt:=trivial
   try simp only [p4]
   refine L8.tk 12 qc16x24 (some 61) (.bool true) hSt (fun W hW=>?_) ?_
   ·unfold qc16x24
    go_simp
   simp only [p4]
   refine L8.tk 13 qc16x25 (some 62) (.bool true) hSt (fun W hW=>?_) ?_
   ·unfold qc16x25
    go_simp
   simp only [p4]
   refine L8.tk 14 qc16x26 (some 63) (.pointer (some ⟨r,0,none⟩)) hSt (fun W hW=>?_) ?_
   ·unfold qc16x26
    go_simp
   simp only [p4]
   refine L8.tk 15 qc16x27 (some 64) (.pointer (some ⟨r,0,none⟩)) hSt (fun W hW=>?_) ?_
   ·unfold qc16x27
    go_simp
   simp only [p4]
   refine L8.tk 16 qc16x28 (some 65) (.pointer (some ⟨r,2,none⟩)) hSt (fun W hW=>?_) ?_
   ·unfold qc16x28
    go_simp
   simp only [p4]
   refine L8.tk 17 qc16x29 (some 66) (.pointer (some ⟨r,2,none⟩)) hSt (fun W hW=>?_) ?_
   ·unfold qc16x29
    go_simp
   simp only [p4]
   refine L8.up 18 qc16x30 fun K hK=>?_
   unfold qc16x30
   go_simp
   refine L8.bk hK ?_
   clear hK K
   have hSt:=trivial
   try simp only [p4]
   refine L8.up 19 qc16x31 fun K hK=>?_
   unfold qc16x31
   go_simp
   refine (L8.rName_x t1.text true hnm.out _ (by omega)).mono ?_
   rintro e wb ⟨rfl,hxb⟩
   replace h:=hid <| h.out.on hxb
   clear hxb
   try dsimp only
   refine L8.bk hK ?_
   clear hK K
   have hSt:=trivial
   try simp only [p4]
   refine L8.tk 20 qc16x32 (some 69) (.bool true) hSt (fun W hW=>?_) ?_
   ·unfold qc16x32
    go_simp
   simp only [p4]
   refine L8.up 21 qc16x33 fun K hK=>?_
   unfold qc16x33
   go_simp
   refine (done_c T w2 wb r true _ _ _ _ S2 hT2 hS2l.out hos2.out.has h.out).mono ?_
   rintro e we ⟨rfl,h3,hX3⟩
   try dsimp only
   refine L8.bk hK ?_
   clear hK K
   have hSt:=trivial
   try simp only [p4]
   refine L8.dn ?_
   replace h3:=hid h3
   clear hX3 h c0 c1 c2 k0 hgr hc hSt
   go_wp2
   go_meet
   exact h3.out
 case rest =>
  clear h
  have h:=hid hcut
  clear hcut hi0 hi1 hi1n
  have hdn:S2.inc=dn t1.text:=by rw [hS2d.out,hsg.out];rfl
  replace h:Hid (Dn T w2 wc r _ _ _ _ (dn t1.text)):=hdn ▸ h.out
  have hos3:Hid (Oks T (dn t1.text)):=by
   show Oks T _
   rw [←hdn]
   exact Oks.inc hEt h1'.out (nmb_ne hnm.out)
  have hf3:Hid (Fine ⟨T.drop 2,{ prd0 with nm:=t1.text },had0⟩):=fine_dn hfi.out h0 h1 (by rw [hq.out];decide) (nmb_ne hnm.out)
  have hYg:Hid (Y=endR t0.at_ (gopen T 1 (dn t1.text) had0)):=by show _=_;rw [←hpY.out];exact textR_go hEt h0 hq.out h1 hnm.out
  clear hdn
  go_wp2_with fail
  refine (groupD_c T w2 r hlen hX hEt hKa he2 T.length 1 1 _ _ _ _ _ (dn t1.text) had0 rfl (by show T.length-2≤_;omega) (by omega) rfl hos3.out (fun i _=>by simp [dn,had0]) hf3.out (Nat.zero_le _) h.out).mono ?_
  rintro e w6 ⟨rfl,s',vr,vl,vh,vd,h,hos,hg⟩
  replace h:=hid h
  replace hos:=hid hos
  have hgn:Hid (∀ u,gopen T 1 (dn t1.text) had0=.ok u→u.p.nm=t1.text):=fun u hu=>(gopen_nm hu).trans rfl
  generalize gopen T 1 (dn t1.text) had0=X at hg hYg hgn
  cases X with
  | no x y =>
   obtain⟨ga,gb,gc⟩:=hg
   have hee:s'.e≠0:=by rw [ga];exact gc
   have hYe:Hid (Y=.no s'.e s'.a):=by show _=_;rw [hYg.out,ga,gb];rfl
   clear ga gb gc hgn
   have heb:((s'.e:Int)==0)=false:=by simpa using hee
   have hne:((s'.e:Int) != 0)=true:=by simpa using hee
   obtain⟨c22,_⟩:=h.out.cell 22 (.int .i64 s'.e) (fun _=>rfl)
   have hNe:Nonempty (Late w6):=⟨⟨_,Ext.refl _⟩⟩
   have j22:=Late.cell c22
   clear c22
   go_upto_region 10 with fail
   refine rl ?_
   repeat (go_big_quiet_step (fail))
   refine wpQuiet_nil ?_
   intro wy hw'
   replace h:=hid <| h.out.on (late_ext hw')
   clear hw' j22 hNe
   obtain⟨c22,_⟩:=h.out.cell 22 (.int .i64 s'.e) (fun _=>rfl)
   go_upto_region 13 with fail
   obtain⟨c23,_⟩:=h.out.cell 23 (.int .i64 s'.a) (fun _=>rfl)
   have hdr:Ext wy wy.drew:=(Ext.refl wy).drew
   refine L8.wp_region_thrown (fun W=>W.cell? ⟨r,22,none⟩=some (.int .i64 s'.e)∧W.cell? ⟨r,23,none⟩=some (.int .i64 s'.a)) (fun a=>False) [] (fun t=>none) (fun x W=>False) (by kernel_rfl) (fun _ _ _ h1 _ h3=>h3.elim) ⟨hdr.cell_of c22,hdr.cell_of c23⟩ (fun hSt=>?_)
   replace h:=hid <| h.out.on hdr
   clear c22 c23
   generalize wy.drew=wz at *
   clear hdr
   refine L8.tk 0 qc16x0 (some 99) (.agg #[.string ⟨#[]⟩,.int .i64 0,.int .i64 0,.int .i64 0,.int .i64 0,.int .i64 0,.int .i64 0,.int .i64 0,.slice none 0 0,.int .i64 0,.int .i64 0,.int .i64 0,.int .i64 0,.int .i64 0,.int .i64 0,.slice none 0 0,.int .i64 0,.int .i64 0,.slice none 0 0]) hSt (fun W hW=>?_) ?_
   ·unfold qc16x0
    go_simp
   simp only [p4]
   refine L8.tk 1 qc16x1 (some 100) (.pointer (some ⟨r,0,none⟩)) hSt (fun W hW=>?_) ?_
   ·unfold qc16x1
    go_simp
   simp only [p4]
   refine L8.tk 2 qc16x2 (some 101) (.pointer (some ⟨r,0,none⟩)) hSt (fun W hW=>?_) ?_
   ·unfold qc16x2
    go_simp
   simp only [p4]
   refine L8.tk 3 qc16x3 (some 102) (.pointer (some ⟨r,23,none⟩)) hSt (fun W hW=>?_) ?_
   ·unfold qc16x3
    go_simp
   simp only [p4]
   refine L8.tk 4 qc16x4 (some 103) (.int .i64 s'.a) hSt (fun W hW=>?_) ?_
   ·unfold qc16x4
    have hW1:=hW.2
    go_simp
   simp only [p4]
   refine L8.tk 5 qc16x5 (some 104) (.pointer (some ⟨r,0,none⟩)) hSt (fun W hW=>?_) ?_
   ·unfold qc16x5
    go_simp
   simp only [p4]
   refine L8.tk 6 qc16x6 (some 105) (.pointer (some ⟨r,0,none⟩)) hSt (fun W hW=>?_) ?_
   ·unfold qc16x6
    go_simp
   simp only [p4]
   refine L8.tk 7 qc16x7 (some 106) (.pointer (some ⟨r,22,none⟩)) hSt (fun W hW=>?_) ?_
   ·unfold qc16x7
    go_simp
   simp only [p4]
   refine L8.tk 8 qc16x8 (some 107) (.int .i64 s'.e) hSt (fun W hW=>?_) ?_
   ·unfold qc16x8
    have hW1:=hW.1
    go_simp
   simp only [p4]
   have hBz:Blk wz Z zP:=hB2.out.ext h.out.ext
   refine L8.up 9 qc16x9 fun K hK=>?_
   unfold qc16x9
   rw [if_pos (by rfl)]
   have hx6:=Exr.setRow wz Z zP
   refine wp_store_row _ (.tmp 2) (.tmp 99) rfl Z zP rfl rfl _ zP hBz (by kernel_rfl) rfl zP_ok.2 ?_
   refine hK.out _ _ ⟨hx6.cell_of hrZ.out hSt.1,hx6.cell_of hrZ.out hSt.2⟩ ?_
   clear hK K
   intro hSt
   have hB6:=show Hid (Blk (wz.setRow Z zP) Z zP) from setRow_heap wz Z _ zP _ _ hBz
   replace hx6:=hid hx6
   clear hBz
   simp only [Act.put]
   refine L8.tk 10 qc16x10 (some 3) (.int .i64 s'.a) hSt (fun W hW=>?_) ?_
   ·unfold qc16x10
    go_simp
   simp only [p4]
   refine L8.tk 11 qc16x11 (some 4) (.int .i64 s'.e) hSt (fun W hW=>?_) ?_
   ·unfold qc16x11
    go_simp
   simp only [p4]
   refine L8.dn ?_
   clear hSt
   go_wp2
   refine bodyPost_ret (v:=.tuple #[.agg zP,.int .i64 s'.a,.int .i64 s'.e]) (results3 (p:=2) (q:=3) (r:=4) Tryz.results8 _ _ Z zP rfl hB6.out zP_ok.1) rfl ?_
   rw [hYe.out]
   exact⟨hx6.out.ext (hx2.out.trans h.out.ext) hZlo.out,rfl⟩
  | ok u =>
   obtain⟨ge,gd,gp,gH,gF,gl⟩:=hg
   obtain⟨te,tes,hte,_,_⟩:=gF.cons
   have htE:T[s'.i]?=some te:=(drop_tok (gd.trans hte)).1
   have hin:=(List.getElem?_eq_some_iff.1 htE).1
   have hi1:(s'.i:Int)<(T.length:Int):=by omega
   have hi0:(0:Int)≤(s'.i:Int):=by omega
   have hend:Hid (Y=if te.kind=0 then (if whole u.had&&okP u.p then .ok u.p else .no 9 t0.at_) else .no 7 te.at_):=by
    show _=_
    rw [hYg.out]
    show lastR t0.at_ u=_
    unfold lastR
    rw [hte]
   have hnl:Hid (u.p.nm.length≤30000):=by show _≤_;rw [hgn.out u rfl];omega
   have hfw:Hid (u.p.rs.length+u.p.lt.length+u.p.hd.length≤30000):=by have:=gF.few;show _≤_;omega
   have hhl:Hid (s'.had.length≤20000):=by show _≤_;omega
   have hge:=hid ge
   have hgp:=hid gp
   have hgH:=hid gH
   have hgt:=hid htE
   clear hgn hYg gd gp gH gF gl
   have heb:((s'.e:Int)==0)=true:=by rw [ge];rfl
   have hne:((s'.e:Int) != 0)=false:=by rw [ge];rfl
   clear ge
   obtain⟨g,off,c,c0,hc,hgr,k0,k1,k2⟩:=h.out.tok htE
   obtain⟨c22,_⟩:=h.out.cell 22 (.int .i64 s'.e) (fun _=>rfl)
   obtain⟨c1,_⟩:=h.out.cell 1 (.int .i64 s'.i) (fun _=>rfl)
   have hNe:Nonempty (Late w6):=⟨⟨_,Ext.refl _⟩⟩
   have j22:=Late.cell c22;have j1:=Late.cell c1;have j0:=Late.cell c0;have m0:=Late.cell k0
   clear c22 c1 c0 k0 k1 k2 hte htE
   go_upto_region 10 with fail
   refine rl ?_
   by_cases hk0e:te.kind=0
   case neg =>
    have hkk:((te.kind:Int) != 0)=true:=by simpa using hk0e
    have hkk2:((te.kind:Int)==0)=false:=by simpa using hk0e
    repeat (go_big_quiet_step (fail))
    refine wpQuiet_nil ?_
    intro wy hw'
    replace h:=hid <| h.out.on (late_ext hw')
    clear hw' j22 j1 j0 m0 hNe hc hgr
    go_wp2_with fail
    refine (fail_c T w2 _ r 7 _ _ _ _ s' hT2 hos.out.has h.out).mono ?_
    rintro e wf ⟨rfl,h,hXf⟩
    clear hXf
    obtain⟨S,hS⟩:∃ S,s'.fl T 7=S:=⟨_,rfl⟩
    have hSe:S = { s' with e:=7,a:=te.at_ }:=by rw [←hS];exact fl_at hge.out hgt.out
    rw [hS] at h
    have hee:S.e≠0:=by rw [hSe];show (7:Nat)≠0;decide
    have hYe:Hid (Y=.no S.e S.a):=by show _=_;rw [hend.out,if_neg hk0e,hSe]
    replace h:=hid h
    clear hSe hS heb hne
    have heb:((S.e:Int)==0)=false:=by simpa using hee
    have hne:((S.e:Int) != 0)=true:=by simpa using hee
    obtain⟨c22,_⟩:=h.out.cell 22 (.int .i64 S.e) (fun _=>rfl)
    go_upto_region 13 with fail
    obtain⟨c23,_⟩:=h.out.cell 23 (.int .i64 S.a) (fun _=>rfl)
    have hdr:Ext wf wf.drew:=(Ext.refl wf).drew
    refine L8.wp_region_thrown (fun W=>W.cell? ⟨r,22,none⟩=some (.int .i64 S.e)∧W.cell? ⟨r,23,none⟩=some (.int .i64 S.a)) (fun a=>False) [] (fun t=>none) (fun x W=>False) (by kernel_rfl) (fun _ _ _ h1 _ h3=>h3.elim) ⟨hdr.cell_of c22,hdr.cell_of c23⟩ (fun hSt=>?_)
    replace h:=hid <| h.out.on hdr
    clear c22 c23
    generalize wf.drew=wz at *
    clear hdr
    refine L8.tk 0 qc16x0 (some 99) (.agg #[.string ⟨#[]⟩,.int .i64 0,.int .i64 0,.int .i64 0,.int .i64 0,.int .i64 0,.int .i64 0,.int .i64 0,.slice none 0 0,.int .i64 0,.int .i64 0,.int .i64 0,.int .i64 0,.int .i64 0,.int .i64 0,.slice none 0 0,.int .i64 0,.int .i64 0,.slice none 0 0]) hSt (fun W hW=>?_) ?_
    ·unfold qc16x0
     go_simp
    simp only [p4]
    refine L8.tk 1 qc16x1 (some 100) (.pointer (some ⟨r,0,none⟩)) hSt (fun W hW=>?_) ?_
    ·unfold qc16x1
     go_simp
    simp only [p4]
    refine L8.tk 2 qc16x2 (some 101) (.pointer (some ⟨r,0,none⟩)) hSt (fun W hW=>?_) ?_
    ·unfold qc16x2
     go_simp
    simp only [p4]
    refine L8.tk 3 qc16x3 (some 102) (.pointer (some ⟨r,23,none⟩)) hSt (fun W hW=>?_) ?_
    ·unfold qc16x3
     go_simp
    simp only [p4]
    refine L8.tk 4 qc16x4 (some 103) (.int .i64 S.a) hSt (fun W hW=>?_) ?_
    ·unfold qc16x4
     have hW1:=hW.2
     go_simp
    simp only [p4]
    refine L8.tk 5 qc16x5 (some 104) (.pointer (some ⟨r,0,none⟩)) hSt (fun W hW=>?_) ?_
    ·unfold qc16x5
     go_simp
    simp only [p4]
    refine L8.tk 6 qc16x6 (some 105) (.pointer (some ⟨r,0,none⟩)) hSt (fun W hW=>?_) ?_
    ·unfold qc16x6
     go_simp
    simp only [p4]
    refine L8.tk 7 qc16x7 (some 106) (.pointer (some ⟨r,22,none⟩)) hSt (fun W hW=>?_) ?_
    ·unfold qc16x7
     go_simp
    simp only [p4]
    refine L8.tk 8 qc16x8 (some 107) (.int .i64 S.e) hSt (fun W hW=>?_) ?_
    ·unfold qc16x8
     have hW1:=hW.1
     go_simp
    simp only [p4]
    have hBz:Blk wz Z zP:=hB2.out.ext h.out.ext
    refine L8.up 9 qc16x9 fun K hK=>?_
    unfold qc16x9
    rw [if_pos (by rfl)]
    have hx6:=Exr.setRow wz Z zP
    refine wp_store_row _ (.tmp 2) (.tmp 99) rfl Z zP rfl rfl _ zP hBz (by kernel_rfl) rfl zP_ok.2 ?_
    refine hK.out _ _ ⟨hx6.cell_of hrZ.out hSt.1,hx6.cell_of hrZ.out hSt.2⟩ ?_
    clear hK K
    intro hSt
    have hB6:=show Hid (Blk (wz.setRow Z zP) Z zP) from setRow_heap wz Z _ zP _ _ hBz
    replace hx6:=hid hx6
    clear hBz
    simp only [Act.put]
    refine L8.tk 10 qc16x10 (some 3) (.int .i64 S.a) hSt (fun W hW=>?_) ?_
    ·unfold qc16x10
     go_simp
    simp only [p4]
    refine L8.tk 11 qc16x11 (some 4) (.int .i64 S.e) hSt (fun W hW=>?_) ?_
    ·unfold qc16x11
     go_simp
    simp only [p4]
    refine L8.dn ?_
    clear hSt
    go_wp2
    refine bodyPost_ret (v:=.tuple #[.agg zP,.int .i64 S.a,.int .i64 S.e]) (results3 (p:=2) (q:=3) (r:=4) Tryz.results8 _ _ Z zP rfl hB6.out zP_ok.1) rfl ?_
    rw [hYe.out]
    exact⟨hx6.out.ext (hx2.out.trans h.out.ext) hZlo.out,rfl⟩
   have hkk:((te.kind:Int) != 0)=false:=by simp [hk0e]
   have hkk2:((te.kind:Int)==0)=true:=by simp [hk0e]
   replace hend:=hid <| hend.out.trans (if_pos hk0e)
   repeat (go_big_quiet_step (fail))
   refine wpQuiet_nil ?_
   intro wy hw'
   replace h:=hid <| h.out.on (late_ext hw')
   clear hw' j22 j1 j0 m0 hNe hc hgr
   clear hkk hkk2 hi1 hi0
   obtain⟨c22,_⟩:=h.out.cell 22 (.int .i64 s'.e) (fun _=>rfl)
   go_upto_region 15 with fail
   clear c22
   obtain⟨W7,b,hW7,hb,hx7,hS7⟩:=lay7 wy
   replace h:=hid <| h.out.on hx7
   replace hS7:=hid hS7
   go_wp2_with fail
   clear hW7 hx7
   go_loopw [9,110] (fun q i wr=>∃ k:Nat,k≤7∧i=.int .i64 k∧q=.bool (pre7 s'.had k)∧Hid (Ext W7 wr)) (fun _ i _=>7-(RowKit.intOf i).toNat)
   case atStart=>exact ⟨0,Nat.zero_le _,rfl,rfl,Ext.refl W7⟩
   case round =>
    obtain⟨k,hk,rfl,rfl,hx⟩:=hrel
    by_cases hlt:k<7
    ·have hlti:(k:Int)<7:=by omega
     obtain⟨x,hxk⟩:∃ x,seven[k]?=some x:=⟨_,List.getElem?_eq_getElem hlt⟩
     have cx:=hx.out.cell_of (hS7.out k x hxk)
     have hsx:=pre7_succ (had:=s'.had) hxk
     replace hxk:=hid hxk
     cases hp:pre7 s'.had k
     ·rw [hp] at hsx
      replace hsx:=hid hsx
      go_wp2
      go_roundw
      case rel=>exact ⟨k+1,by omega,by go_num,by rw [hsx.out];rfl,hx⟩
      case measure=>simp [RowKit.intOf];omega
     ·rw [hp] at hsx
      replace hsx:=hid hsx
      have hd:=h.out.on hx.out
      obtain⟨c21,_⟩:=hd.cell 21 vd (fun _=>rfl)
      replace hd:=hid hd
      go_wp2_with fail
      refine (InS_own hd.out.sd hhl.out x).mono ?_
      rintro e wk ⟨rfl,rfl⟩
      clear hd c21
      go_wp2
      go_roundw
      case rel=>exact ⟨k+1,by omega,by go_num,by rw [hsx.out];rfl,hx⟩
      case measure=>simp [RowKit.intOf];omega
    obtain rfl:k=7:=by omega
    rw [pre7_whole hgH.out]
    replace h:=hid <| h.out.on hx.out
    clear hx hlt hk
    cases hwh:whole u.had
    case false =>
     have hYe:Hid (Y=.no 9 t0.at_):=by show _=_;rw [hend.out,hwh];rfl
     obtain⟨g0,o0,rfl,hk2⟩:=hkt.out (by intro h;rw [h] at h0;simp at h0)
     have cat:Hid (wr.cell? ⟨g0,o0+1,none⟩=some (.int .i64 t0.at_)):=by
      show _=_
      have:=h.out.ext.cell_of (hk2 0 t0 h0).2.1
      simpa using this
     have hgZ:g0≠Z:=by
      rintro rfl
      exact tok_blk hB2.out (hk2 0 t0 h0).2.2
     have hTn:¬ T = []:=by intro h;rw [h] at h0;simp at h0
     have hT0:(0:Int)<(T.length:Int):=by have:=(List.getElem?_eq_some_iff.1 h0).1;omega
     clear hk2
     go_upto_region 21 with fail
     have hdr:Ext wr wr.drew:=(Ext.refl wr).drew
     refine L8.wt (fun W=>W.cell? ⟨g0,o0+1,none⟩=some (.int .i64 t0.at_)) (hdr.cell_of cat.out) fun hSt=>?_
     replace h:=hid <| h.out.on hdr
     clear cat
     generalize wr.drew=wz at *
     clear hdr
     refine L8.tk 0 qc16x34 (some 134) (.agg #[.string ⟨#[]⟩,.int .i64 0,.int .i64 0,.int .i64 0,.int .i64 0,.int .i64 0,.int .i64 0,.int .i64 0,.slice none 0 0,.int .i64 0,.int .i64 0,.int .i64 0,.int .i64 0,.int .i64 0,.int .i64 0,.slice none 0 0,.int .i64 0,.int .i64 0,.slice none 0 0]) hSt (fun W hW=>?_) ?_
     ·unfold qc16x34
      go_simp
     simp only [p4]
     refine L8.tk 1 qc16x35 (some 135) (.slice (some ⟨g0,o0,none⟩) T.length cp) hSt (fun W hW=>?_) ?_
     ·unfold qc16x35
      go_simp
     simp only [p4]
     refine L8.tk 2 qc16x36 (some 136) (.pointer (some ⟨g0,o0,none⟩)) hSt (fun W hW=>?_) ?_
     ·unfold qc16x36
      go_simp
     simp only [p4]
     refine L8.tk 3 qc16x37 (some 137) (.pointer (some ⟨g0,o0+1,none⟩)) hSt (fun W hW=>?_) ?_
     ·unfold qc16x37
      go_simp
     simp only [p4]
     refine L8.tk 4 qc16x38 (some 138) (.int .i64 t0.at_) hSt (fun W hW=>?_) ?_
     ·unfold qc16x38
      have hW1:=(show W.cell? ⟨g0,o0+1,none⟩=some (.int .i64 t0.at_) from hW)
      go_simp
     simp only [p4]
     have hBz:Blk wz Z zP:=hB2.out.ext h.out.ext
     refine L8.up 5 qc16x39 fun K hK=>?_
     unfold qc16x39
     rw [if_pos (by rfl)]
     have hx6:=Exr.setRow wz Z zP
     refine wp_store_row _ (.tmp 2) (.tmp 134) rfl Z zP rfl rfl _ zP hBz (by kernel_rfl) rfl zP_ok.2 ?_
     refine hK.out _ _ (hx6.cell_of hgZ hSt) ?_
     clear hK K
     intro hSt
     have hB6:=show Hid (Blk (wz.setRow Z zP) Z zP) from setRow_heap wz Z _ zP _ _ hBz
     replace hx6:=hid hx6
     clear hBz
     simp only [Act.put]
     refine L8.tk 6 qc16x40 (some 3) (.int .i64 t0.at_) hSt (fun W hW=>?_) ?_
     ·unfold qc16x40
      go_simp
     simp only [p4]
     refine L8.tk 7 qc16x41 (some 4) (.int .i64 9) hSt (fun W hW=>?_) ?_
     ·unfold qc16x41
      go_simp
     simp only [p4]
     refine L8.dn ?_
     clear hSt
     go_wp2
     refine bodyPost_ret (v:=.tuple #[.agg zP,.int .i64 t0.at_,.int .i64 9]) (results3 (p:=2) (q:=3) (r:=4) Tryz.results8 _ _ Z zP rfl hB6.out zP_ok.1) rfl ?_
     rw [hYe.out]
     exact⟨hx6.out.ext (hx2.out.trans h.out.ext) hZlo.out,rfl⟩
    have hrng:=h.out.range
    have hlen19:(pcells s'.p vr vl vh).toList.length=19:=rfl
    rw [hgp.out] at hrng hlen19
    go_wp2_with (refine loadm hrng hlen19 rfl rfl rfl ?_)
    clear hrng hlen19
    cases hok:okP u.p
    case false =>
     refine (rCheck_p u.p vr vl vh false hok _ hnl.out hfw.out (slp_own (hgp.out ▸ h.out.sr)) (slp_own (hgp.out ▸ h.out.sl)) (slc_own (hgp.out ▸ h.out.sh))).mono ?_
     rintro e wq ⟨rfl,hxc⟩
     replace h:=hid <| h.out.on hxc
     clear hxc
     have hYe:Hid (Y=.no 9 t0.at_):=by show _=_;rw [hend.out,hwh,hok];rfl
     obtain⟨g0,o0,rfl,hk2⟩:=hkt.out (by intro h;rw [h] at h0;simp at h0)
     have cat:Hid (wq.cell? ⟨g0,o0+1,none⟩=some (.int .i64 t0.at_)):=by
      show _=_
      have:=h.out.ext.cell_of (hk2 0 t0 h0).2.1
      simpa using this
     have hgZ:g0≠Z:=by
      rintro rfl
      exact tok_blk hB2.out (hk2 0 t0 h0).2.2
     have hTn:¬ T = []:=by intro h;rw [h] at h0;simp at h0
     have hT0:(0:Int)<(T.length:Int):=by have:=(List.getElem?_eq_some_iff.1 h0).1;omega
     clear hk2
     go_upto_region 21 with fail
     have hdr:Ext wq wq.drew:=(Ext.refl wq).drew
     refine L8.wt (fun W=>W.cell? ⟨g0,o0+1,none⟩=some (.int .i64 t0.at_)) (hdr.cell_of cat.out) fun hSt=>?_
     replace h:=hid <| h.out.on hdr
     clear cat
     generalize wq.drew=wz at *
     clear hdr
     refine L8.tk 0 qc16x34 (some 134) (.agg #[.string ⟨#[]⟩,.int .i64 0,.int .i64 0,.int .i64 0,.int .i64 0,.int .i64 0,.int .i64 0,.int .i64 0,.slice none 0 0,.int .i64 0,.int .i64 0,.int .i64 0,.int .i64 0,.int .i64 0,.int .i64 0,.slice none 0 0,.int .i64 0,.int .i64 0,.slice none 0 0]) hSt (fun W hW=>?_) ?_
     ·unfold qc16x34
      go_simp
     simp only [p4]
     refine L8.tk 1 qc16x35 (some 135) (.slice (some ⟨g0,o0,none⟩) T.length cp) hSt (fun W hW=>?_) ?_
     ·unfold qc16x35
      go_simp
     simp only [p4]
     refine L8.tk 2 qc16x36 (some 136) (.pointer (some ⟨g0,o0,none⟩)) hSt (fun W hW=>?_) ?_
     ·unfold qc16x36
      go_simp
     simp only [p4]
     refine L8.tk 3 qc16x37 (some 137) (.pointer (some ⟨g0,o0+1,none⟩)) hSt (fun W hW=>?_) ?_
     ·unfold qc16x37
      go_simp
     simp only [p4]
     refine L8.tk 4 qc16x38 (some 138) (.int .i64 t0.at_) hSt (fun W hW=>?_) ?_
     ·unfold qc16x38
      have hW1:=(show W.cell? ⟨g0,o0+1,none⟩=some (.int .i64 t0.at_) from hW)
      go_simp
     simp only [p4]
     have hBz:Blk wz Z zP:=hB2.out.ext h.out.ext
     refine L8.up 5 qc16x39 fun K hK=>?_
     unfold qc16x39
     rw [if_pos (by rfl)]
     have hx6:=Exr.setRow wz Z zP
     refine wp_store_row _ (.tmp 2) (.tmp 134) rfl Z zP rfl rfl _ zP hBz (by kernel_rfl) rfl zP_ok.2 ?_
     refine hK.out _ _ (hx6.cell_of hgZ hSt) ?_
     clear hK K
     intro hSt
     have hB6:=show Hid (Blk (wz.setRow Z zP) Z zP) from setRow_heap wz Z _ zP _ _ hBz
     replace hx6:=hid hx6
     clear hBz
     simp only [Act.put]
     refine L8.tk 6 qc16x40 (some 3) (.int .i64 t0.at_) hSt (fun W hW=>?_) ?_
     ·unfold qc16x40
      go_simp
     simp only [p4]
     refine L8.tk 7 qc16x41 (some 4) (.int .i64 9) hSt (fun W hW=>?_) ?_
     ·unfold qc16x41
      go_simp
     simp only [p4]
     refine L8.dn ?_
     clear hSt
     go_wp2
     refine bodyPost_ret (v:=.tuple #[.agg zP,.int .i64 t0.at_,.int .i64 9]) (results3 (p:=2) (q:=3) (r:=4) Tryz.results8 _ _ Z zP rfl hB6.out zP_ok.1) rfl ?_
     rw [hYe.out]
     exact⟨hx6.out.ext (hx2.out.trans h.out.ext) hZlo.out,rfl⟩
    refine (rCheck_p u.p vr vl vh true hok _ hnl.out hfw.out (slp_own (hgp.out ▸ h.out.sr)) (slp_own (hgp.out ▸ h.out.sl)) (slc_own (hgp.out ▸ h.out.sh))).mono ?_
    rintro e wq ⟨rfl,hxc⟩
    replace h:=hid <| h.out.on hxc
    clear hxc
    have hYe:Hid (Y=.ok u.p):=by show _=_;rw [hend.out,hwh,hok];rfl
    have hrng:=h.out.range
    have hlen19:(pcells s'.p vr vl vh).toList.length=19:=rfl
    have hsz:(pcells s'.p vr vl vh).size=19:=rfl
    have hone:=pcells_one (p:=s'.p) h.out.sr h.out.sl h.out.sh
    rw [hgp.out] at hrng hlen19 hsz hone
    have hBz:Blk wq Z zP:=hB2.out.ext h.out.ext
    go_wp2_with (first | (refine loadm hrng hlen19 rfl rfl rfl ?_) | (refine store27 hBz zP_ok.1 hsz hone rfl rfl rfl rfl ?_))
    intro W9 hB9 hx9
    have hkt9:=hid <| keep_tag hBz hx9
    replace hB9:=hid hB9
    replace hx9:=hid hx9
    clear hBz hrng hlen19 hone hsz
    go_wp2
    refine bodyPost_ret (v:=.tuple #[.agg (pcells u.p vr vl vh),.int .i64 0,.int .i64 0]) (results3 (p:=2) (q:=3) (r:=4) Tryz.results8 _ _ Z (pcells u.p vr vl vh) rfl hB9.out rfl) rfl ?_
    rw [hYe.out]
    refine⟨hx9.out.ext (hx2.out.trans h.out.ext) hZlo.out,vr,vl,vh,rfl,?_,?_,?_⟩
    ·exact own_mono (own_keep (hgp.out ▸ h.out.sr) (hkt9.out _ (by decide))) hx2.out.size
    ·exact own_mono (own_keep (hgp.out ▸ h.out.sl) (hkt9.out _ (by decide))) hx2.out.size
    ·exact own_mono (own_keep (hgp.out ▸ h.out.sh) (hkt9.out _ (by decide))) hx2.out.size
end Go.Proofs.YtcijdkbopiaicaaGreatDoor
