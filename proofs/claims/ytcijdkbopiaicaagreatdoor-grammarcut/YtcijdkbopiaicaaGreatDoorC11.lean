/- Contracts that the proof of this law leans on: no statement of the seat is proved here. -/
import Derived.Test.YtcijdkbopiaicaaGreatDoorC10
set_option linter.unusedVariables false
set_option maxRecDepth 100000
set_option maxHeartbeats 8000000
namespace Go.Proofs.YtcijdkbopiaicaaGreatDoor
open Go.RowKit Go.Lib
def setO (p:Prd)(k:Nat)(v:Int):Prd:=match k with
 | 0=>{ p with o0:=v }
 | 1=>{ p with o1:=v }
 | 2=>{ p with o2:=v }
 | _=>{ p with o3:=v }
def ordL (p:Prd):List Int:=[p.o0,p.o1,p.o2,p.o3]
def Dst.od (T:List Tok)(k:Nat)(s:Dst):Dst :=
 if (s.wd T wOrder).e=0∧(1+(wdV T wOrder s:Int))∈(ordL s.p).take k then { ({ (s.wd T wOrder) with i:=s.i }:Dst).fl T 7 with p:=setO s.p k (1+(wdV T wOrder s:Int)) }
 else { s.wd T wOrder with p:=setO s.p k (1+(wdV T wOrder s:Int)) }
def odN (T:List Tok):Nat→Dst→Dst
 | 0,s=>s
 | k+1,s=>(odN T k s).od T k
theorem wd_p (T:List Tok)(L:List (List UInt8))(s:Dst):(s.wd T L).p=s.p∧(s.wd T L).had=s.had:=by
 unfold Dst.wd Dst.fl Dst.inc
 split
 ·exact ⟨rfl,rfl⟩
 ·split <;> exact ⟨rfl,rfl⟩
theorem fl_p (T:List Tok)(x:Nat)(s:Dst):(s.fl T x).p=s.p∧(s.fl T x).had=s.had∧(s.fl T x).i=s.i:=by
 unfold Dst.fl
 split <;> exact ⟨rfl,rfl,rfl⟩
theorem Oks.turn {T:List Tok}{s s':Dst}(h:Oks T s)(hi:s'.i=s.i)(he:s'.e=s.e):Oks T s':=⟨by rw [hi];exact h.le,fun e=>by rw [hi];exact h.has (he ▸ e)⟩
theorem wd_back {T:List Tok}{s:Dst}{L:List (List UInt8)}(hs:Oks T s)(he:(s.wd T L).e=0):Has T { (s.wd T L) with i:=s.i }:=fun _=>by
 refine hs.has ?_
 unfold Dst.wd Dst.fl at he
 split at he
 ·exact he
 ·split at he
  ·cases he
  ·exact he
theorem wOrder_ne:∀ u∈wOrder,u≠[]:=by decide
theorem Oks.od {T:List Tok}{s:Dst}(h:Oks T s)(hE:Endt T)(k:Nat):Oks T (s.od T k):=by
 unfold Dst.od
 split
 ·rename_i hc
  have h1:Oks T { (s.wd T wOrder) with i:=s.i }:=⟨h.le,wd_back h hc.1⟩
  exact (h1.fl (x:=7) (by decide)).turn rfl rfl
 ·exact (h.wd hE wOrder_ne).turn rfl rfl
theorem odN_oks {T:List Tok}{s:Dst}(h:Oks T s)(hE:Endt T):∀ k,Oks T (odN T k s)
 | 0=>h
 | k+1=>(odN_oks h hE k).od hE k
theorem lay_ow (w:World):∃ W b,w.alloc (.cells #[.string ⟨#[102,101,101,115]⟩,.string ⟨#[112,101,110,97,108,116,121]⟩,.string ⟨#[105,110,116,101,114,101,115,116]⟩,.string ⟨#[112,114,105,110,99,105,112,97,108]⟩] 9)=W∧w.heap.size=b∧Ext w W∧∀ (k:Nat) u,wOrder[k]?=some u→W.cell? ⟨b,k,none⟩=some (.string ⟨u.toArray⟩):=by
 refine⟨_,_,rfl,rfl,(Ext.refl w).alloc _ _,fun k u hk=>?_⟩
 have hr:=heap_alloc_last w (.cells #[.string ⟨#[102,101,101,115]⟩,.string ⟨#[112,101,110,97,108,116,121]⟩,.string ⟨#[105,110,116,101,114,101,115,116]⟩,.string ⟨#[112,114,105,110,99,105,112,97,108]⟩] 9)
 refine (cell_of_row _ _ k _ _ _ hr).trans ?_
 unfold wOrder at hk
 match k,hk with
 | 0,hk=>simp at hk;subst hk;rfl
 | 1,hk=>simp at hk;subst hk;rfl
 | 2,hk=>simp at hk;subst hk;rfl
 | 3,hk=>simp at hk;subst hk;rfl
 | k+4,hk=>simp at hk
theorem inc_at {w:World}{r:Nat}{l:List Int}(h:∀ (k:Nat) v,l[k]?=some v→w.cell? ⟨r,12+k,none⟩=some (.int .i64 v))(n:Nat)(hn:n≤l.length)(hl:l.length≤100)(x:Int)(c:Nat)(B:Bool)(hB:decide (x∈l.take n)=B) :
  Calls Tryz.prog 35 #[.slice (some ⟨r,12,none⟩) n c,.int .i64 x] w fun e w'=>e=.returned (.bool B)∧w'=w:=by
 subst hB
 have e:(l.take n).length=n:=by rw [List.length_take];omega
 by_cases h0:n=0
 ·subst h0
  exact L8.In_nil _ _ _ _
 ·have:=L8.In_x r 12 c (l.take n) x w (by rw [e];omega) (fun k v hk=>h k v (by
   rw [List.getElem?_take] at hk
   split at hk
   ·exact hk
   ·cases hk))
  rw [e] at this
  exact this
theorem wdF_le (T:List Tok)(s:Dst):∀ (L:List (List UInt8)) (k j:Nat),wdF T s k L=some j→j≤k+L.length
 | [],k,j,h=>by cases h
 | u::L,k,j,h=>by
  rw [wdF] at h
  split at h
  ·obtain rfl:=Option.some.inj h;omega
  ·have:=wdF_le T s L _ _ h
   simp only [List.length_cons]
   omega
theorem wdV_le (T:List Tok)(L:List (List UInt8))(s:Dst):wdV T L s≤L.length:=by
 unfold wdV
 cases h:wdF T s 0 L with
 | none=>simp
 | some j=>have:=wdF_le T s L 0 j h;simpa using this
theorem orderD_c (T:List Tok)(w0 w:World)(r:Nat)(vr vl vh vd:Value)(s:Dst)(hT:T.length≤20010)(hE:Endt T)(hs:Oks T s)(h:Dn T w0 w r vr vl vh vd s) :
  Calls Tryz.prog 103 #[.pointer (some ⟨r,0,none⟩)] w fun e w'=>e=.returned (.tuple #[])∧Dn T w0 w' r vr vl vh vd (odN T 4 s)∧Exr r w w':=by
 obtain⟨W1,b,hW1,hb,hx1,hw⟩:=lay_ow w
 have hbr:b≠r:=by have:=h.lt;omega
 have hD0:=show Hid (Dn T w0 W1 r vr vl vh vd (odN T 0 s)) from h.on hx1
 have hX0:=show Hid (Exr r w W1) from .of hx1
 replace hw:=hid hw
 clear h hx1
 go_enter Tryz.func103,Tryz.ntmps103
 go_wp2_with fail
 clear hW1 hb
 go_loopw [3] (fun i wr=>∃ k:Nat,k≤4∧i=.int .i64 k∧Hid (Dn T w0 wr r vr vl vh vd (odN T k s))∧Hid (Exr r W1 wr)) (fun i _=>4-(RowKit.intOf i).toNat)
 case atStart=>exact ⟨0,Nat.zero_le _,rfl,hD0,Exr.refl r W1⟩
 case round =>
  clear hD0
  obtain⟨k,hk,rfl,hD,hX⟩:=hrel
  have h5:k=0∨k=1∨k=2∨k=3∨k=4:=by omega
  rcases h5 with rfl | rfl | rfl | rfl | rfl
  ·-- the round 0
   obtain⟨S,hS⟩:∃ S,odN T 0 s=S:=⟨_,rfl⟩
   have hok:Oks T S:=hS ▸ odN_oks hs hE 0
   have hnx:odN T 1 s=S.od T 0:=by rw [←hS];rfl
   rw [hS] at hD
   obtain⟨c1,z1⟩:=hD.out.cell 1 (.int .i64 S.i) (fun _=>rfl)
   have hle:=hok.le
   go_wp2_with fail
   refine (word_c T w0 _ r b 4 4 wOrder vr vl vh vd S hT (by omega) hok.has rfl (by omega) hbr (fun k u hk=>hX.out.cell_of hbr (hw.out k u hk)) hD.out).mono ?_
   rintro e w2 ⟨rfl,h2,hx2⟩
   have hX2:=hX.out.trans hx2
   obtain⟨V,hV⟩:∃ V:Nat,wdV T wOrder S=V:=⟨_,rfl⟩
   obtain⟨S1,hS1⟩:∃ S1,S.wd T wOrder=S1:=⟨_,rfl⟩
   have hV4:V≤4:=hV ▸ wdV_le T wOrder S
   have hpp:=(wd_p T wOrder S).1
   have hod:S.od T 0=if (S.wd T wOrder).e=0∧(1+(wdV T wOrder S:Int))∈(ordL S.p).take 0 then { ({ (S.wd T wOrder) with i:=S.i }:Dst).fl T 7 with p:=setO S.p 0 (1+(wdV T wOrder S:Int)) } else { S.wd T wOrder with p:=setO S.p 0 (1+(wdV T wOrder S:Int)) }:=rfl
   rw [hV,hS1] at hod
   rw [hS1] at hpp h2
   rw [hV]
   obtain⟨c22,_⟩:=h2.cell 22 (.int .i64 S1.e) (fun _=>rfl)
   obtain⟨d1,y1⟩:=h2.cell 1 (.int .i64 S1.i) (fun _=>rfl)
   have hcl:∀ (j:Nat) v,(ordL S.p)[j]?=some v→w2.cell? ⟨r,12+j,none⟩=some (.int .i64 v):=fun j v hj=>by
    rw [←hpp] at hj
    match j,hj with
    | 0,hj=>exact (h2.cell 12 (.int .i64 v) (fun _=>by simp [ordL] at hj;simp [dcells,hj])).1
    | 1,hj=>exact (h2.cell 13 (.int .i64 v) (fun _=>by simp [ordL] at hj;simp [dcells,hj])).1
    | 2,hj=>exact (h2.cell 14 (.int .i64 v) (fun _=>by simp [ordL] at hj;simp [dcells,hj])).1
    | 3,hj=>exact (h2.cell 15 (.int .i64 v) (fun _=>by simp [ordL] at hj;simp [dcells,hj])).1
    | j+4,hj=>simp [ordL] at hj
   obtain⟨B,hB⟩:∃ B,decide ((1+(V:Int))∈(ordL S.p).take 0)=B:=⟨_,rfl⟩
   have hIn:Hid (Calls Tryz.prog 35 #[.slice (some ⟨r,12,none⟩) 0 4,.int .i64 (1+(V:Int))] w2 fun e w'=>e=.returned (.bool B)∧w'=w2):=inc_at hcl 0 (by simp [ordL]) (by simp [ordL]) (1+(V:Int)) 4 B hB
   obtain⟨q0,z0⟩:=h2.cell 12 (.int .i64 S1.p.o0) (fun _=>rfl)
   clear hcl
   by_cases he:S1.e=0
   ·have heb:((S1.e:Int)==0)=true:=by rw [he];rfl
    cases B
    ·have hf:S.od T 0 = { S1 with p:=setO S.p 0 (1+(V:Int)) }:=by rw [hod,if_neg (fun h=>absurd h.2 (of_decide_eq_false hB))]
     clear hod hB hD
     replace h2:=hid h2
     replace hX2:=hid hX2
     replace hf:=hid hf
     replace hnx:=hid hnx
     replace hok:=hid hok
     replace hpp:=hid hpp
     replace hS:=hid hS
     replace hS1:=hid hS1
     replace hV:=hid hV
     replace he:=hid he
     go_wp2_with (go_at_call 35;refine Calls.mono hIn.out ?_;rintro e w3 ⟨rfl,rfl⟩)
     go_roundw
     case rel =>
      refine⟨1,by omega,by go_num,?_,hX2.out.set 12 _⟩
      rw [hnx.out,hf.out]
      exact h2.out.turn 12 (.int .i64 (1+(V:Int))) _ (fun _=>by rw [←hpp.out];rfl) (by rw [←hpp.out];rfl) (by rw [←hpp.out];rfl) (by rw [←hpp.out];rfl) rfl
     case measure=>simp [RowKit.intOf]
    ·have hf:S.od T 0 = { ({ S1 with i:=S.i }:Dst).fl T 7 with p:=setO S.p 0 (1+(V:Int)) }:=by rw [hod,if_pos ⟨he,of_decide_eq_true hB⟩]
     have hhas:Has T { S1 with i:=S.i }:=by rw [←hS1];exact wd_back hok (hS1 ▸ he)
     clear hod hB hD
     replace h2:=hid h2
     replace hX2:=hid hX2
     replace hf:=hid hf
     replace hnx:=hid hnx
     replace hok:=hid hok
     replace hpp:=hid hpp
     replace hS:=hid hS
     replace hS1:=hid hS1
     replace hV:=hid hV
     replace he:=hid he
     replace hhas:=hid hhas
     go_wp2_with (go_at_call 35;refine Calls.mono hIn.out ?_;rintro e w3 ⟨rfl,rfl⟩)
     refine (fail_c T w0 _ r 7 vr vl vh vd { S1 with i:=S.i } hT hhas.out (h2.out.turn 1 (.int .i64 S.i) { S1 with i:=S.i } (fun _=>rfl) rfl rfl rfl rfl)).mono ?_
     rintro e w4 ⟨rfl,h4,hx4⟩
     have hX4:=hid <| (hX2.out.set 1 (.int .i64 S.i)).trans hx4
     have fp:=fl_p T 7 { S1 with i:=S.i }
     obtain⟨S4,hS4⟩:∃ S4,({ S1 with i:=S.i }:Dst).fl T 7=S4:=⟨_,rfl⟩
     rw [hS4] at h4 fp
     have hf4:=hf.out
     rw [hS4] at hf4
     obtain⟨p0,x0⟩:=h4.cell 12 (.int .i64 S4.p.o0) (fun _=>rfl)
     replace h4:=hid h4
     replace fp:=hid fp
     replace hS4:=hid hS4
     replace hf4:=hid hf4
     clear hf hx4 h2 c22 d1 y1 q0 z0
     go_wp2
     go_roundw
     case rel =>
      refine⟨1,by omega,by go_num,?_,hX4.out.set 12 _⟩
      rw [hnx.out,hf4.out]
      have fq:S4.p=S.p:=fp.out.1.trans hpp.out
      exact h4.out.turn 12 (.int .i64 (1+(V:Int))) _ (fun _=>by rw [←fq];rfl) (by rw [←fq];rfl) (by rw [←fq];rfl) (by rw [←fq];rfl) rfl
     case measure=>simp [RowKit.intOf]
   ·have heb:((S1.e:Int)==0)=false:=by simp [he]
    have hf:S.od T 0 = { S1 with p:=setO S.p 0 (1+(V:Int)) }:=by rw [hod,if_neg (fun h=>he h.1)]
    clear hod hB hD hIn
    replace h2:=hid h2
    replace hX2:=hid hX2
    replace hf:=hid hf
    replace hnx:=hid hnx
    replace hok:=hid hok
    replace hpp:=hid hpp
    replace hS:=hid hS
    replace hS1:=hid hS1
    replace hV:=hid hV
    replace he:=hid he
    go_wp2
    go_roundw
    case rel =>
     refine⟨1,by omega,by go_num,?_,hX2.out.set 12 _⟩
     rw [hnx.out,hf.out]
     exact h2.out.turn 12 (.int .i64 (1+(V:Int))) _ (fun _=>by rw [←hpp.out];rfl) (by rw [←hpp.out];rfl) (by rw [←hpp.out];rfl) (by rw [←hpp.out];rfl) rfl
    case measure=>simp [RowKit.intOf]
  ·-- the round 1
   obtain⟨S,hS⟩:∃ S,odN T 1 s=S:=⟨_,rfl⟩
   have hok:Oks T S:=hS ▸ odN_oks hs hE 1
   have hnx:odN T 2 s=S.od T 1:=by rw [←hS];rfl
   rw [hS] at hD
   obtain⟨c1,z1⟩:=hD.out.cell 1 (.int .i64 S.i) (fun _=>rfl)
   have hle:=hok.le
   go_wp2_with fail
   refine (word_c T w0 _ r b 4 4 wOrder vr vl vh vd S hT (by omega) hok.has rfl (by omega) hbr (fun k u hk=>hX.out.cell_of hbr (hw.out k u hk)) hD.out).mono ?_
   rintro e w2 ⟨rfl,h2,hx2⟩
   have hX2:=hX.out.trans hx2
   obtain⟨V,hV⟩:∃ V:Nat,wdV T wOrder S=V:=⟨_,rfl⟩
   obtain⟨S1,hS1⟩:∃ S1,S.wd T wOrder=S1:=⟨_,rfl⟩
   have hV4:V≤4:=hV ▸ wdV_le T wOrder S
   have hpp:=(wd_p T wOrder S).1
   have hod:S.od T 1=if (S.wd T wOrder).e=0∧(1+(wdV T wOrder S:Int))∈(ordL S.p).take 1 then { ({ (S.wd T wOrder) with i:=S.i }:Dst).fl T 7 with p:=setO S.p 1 (1+(wdV T wOrder S:Int)) } else { S.wd T wOrder with p:=setO S.p 1 (1+(wdV T wOrder S:Int)) }:=rfl
   rw [hV,hS1] at hod
   rw [hS1] at hpp h2
   rw [hV]
   obtain⟨c22,_⟩:=h2.cell 22 (.int .i64 S1.e) (fun _=>rfl)
   obtain⟨d1,y1⟩:=h2.cell 1 (.int .i64 S1.i) (fun _=>rfl)
   have hcl:∀ (j:Nat) v,(ordL S.p)[j]?=some v→w2.cell? ⟨r,12+j,none⟩=some (.int .i64 v):=fun j v hj=>by
    rw [←hpp] at hj
    match j,hj with
    | 0,hj=>exact (h2.cell 12 (.int .i64 v) (fun _=>by simp [ordL] at hj;simp [dcells,hj])).1
    | 1,hj=>exact (h2.cell 13 (.int .i64 v) (fun _=>by simp [ordL] at hj;simp [dcells,hj])).1
    | 2,hj=>exact (h2.cell 14 (.int .i64 v) (fun _=>by simp [ordL] at hj;simp [dcells,hj])).1
    | 3,hj=>exact (h2.cell 15 (.int .i64 v) (fun _=>by simp [ordL] at hj;simp [dcells,hj])).1
    | j+4,hj=>simp [ordL] at hj
   obtain⟨B,hB⟩:∃ B,decide ((1+(V:Int))∈(ordL S.p).take 1)=B:=⟨_,rfl⟩
   have hIn:Hid (Calls Tryz.prog 35 #[.slice (some ⟨r,12,none⟩) 1 4,.int .i64 (1+(V:Int))] w2 fun e w'=>e=.returned (.bool B)∧w'=w2):=inc_at hcl 1 (by simp [ordL]) (by simp [ordL]) (1+(V:Int)) 4 B hB
   obtain⟨q1,z1⟩:=h2.cell 13 (.int .i64 S1.p.o1) (fun _=>rfl)
   clear hcl
   by_cases he:S1.e=0
   ·have heb:((S1.e:Int)==0)=true:=by rw [he];rfl
    cases B
    ·have hf:S.od T 1 = { S1 with p:=setO S.p 1 (1+(V:Int)) }:=by rw [hod,if_neg (fun h=>absurd h.2 (of_decide_eq_false hB))]
     clear hod hB hD
     replace h2:=hid h2
     replace hX2:=hid hX2
     replace hf:=hid hf
     replace hnx:=hid hnx
     replace hok:=hid hok
     replace hpp:=hid hpp
     replace hS:=hid hS
     replace hS1:=hid hS1
     replace hV:=hid hV
     replace he:=hid he
     go_wp2_with (go_at_call 35;refine Calls.mono hIn.out ?_;rintro e w3 ⟨rfl,rfl⟩)
     go_roundw
     case rel =>
      refine⟨2,by omega,by go_num,?_,hX2.out.set 13 _⟩
      rw [hnx.out,hf.out]
      exact h2.out.turn 13 (.int .i64 (1+(V:Int))) _ (fun _=>by rw [←hpp.out];rfl) (by rw [←hpp.out];rfl) (by rw [←hpp.out];rfl) (by rw [←hpp.out];rfl) rfl
     case measure=>simp [RowKit.intOf]
    ·have hf:S.od T 1 = { ({ S1 with i:=S.i }:Dst).fl T 7 with p:=setO S.p 1 (1+(V:Int)) }:=by rw [hod,if_pos ⟨he,of_decide_eq_true hB⟩]
     have hhas:Has T { S1 with i:=S.i }:=by rw [←hS1];exact wd_back hok (hS1 ▸ he)
     clear hod hB hD
     replace h2:=hid h2
     replace hX2:=hid hX2
     replace hf:=hid hf
     replace hnx:=hid hnx
     replace hok:=hid hok
     replace hpp:=hid hpp
     replace hS:=hid hS
     replace hS1:=hid hS1
     replace hV:=hid hV
     replace he:=hid he
     replace hhas:=hid hhas
     go_wp2_with (go_at_call 35;refine Calls.mono hIn.out ?_;rintro e w3 ⟨rfl,rfl⟩)
     refine (fail_c T w0 _ r 7 vr vl vh vd { S1 with i:=S.i } hT hhas.out (h2.out.turn 1 (.int .i64 S.i) { S1 with i:=S.i } (fun _=>rfl) rfl rfl rfl rfl)).mono ?_
     rintro e w4 ⟨rfl,h4,hx4⟩
     have hX4:=hid <| (hX2.out.set 1 (.int .i64 S.i)).trans hx4
     have fp:=fl_p T 7 { S1 with i:=S.i }
     obtain⟨S4,hS4⟩:∃ S4,({ S1 with i:=S.i }:Dst).fl T 7=S4:=⟨_,rfl⟩
     rw [hS4] at h4 fp
     have hf4:=hf.out
     rw [hS4] at hf4
     obtain⟨p1,x1⟩:=h4.cell 13 (.int .i64 S4.p.o1) (fun _=>rfl)
     replace h4:=hid h4
     replace fp:=hid fp
     replace hS4:=hid hS4
     replace hf4:=hid hf4
     clear hf hx4 h2 c22 d1 y1 q1 z1
     go_wp2
     go_roundw
     case rel =>
      refine⟨2,by omega,by go_num,?_,hX4.out.set 13 _⟩
      rw [hnx.out,hf4.out]
      have fq:S4.p=S.p:=fp.out.1.trans hpp.out
      exact h4.out.turn 13 (.int .i64 (1+(V:Int))) _ (fun _=>by rw [←fq];rfl) (by rw [←fq];rfl) (by rw [←fq];rfl) (by rw [←fq];rfl) rfl
     case measure=>simp [RowKit.intOf]
   ·have heb:((S1.e:Int)==0)=false:=by simp [he]
    have hf:S.od T 1 = { S1 with p:=setO S.p 1 (1+(V:Int)) }:=by rw [hod,if_neg (fun h=>he h.1)]
    clear hod hB hD hIn
    replace h2:=hid h2
    replace hX2:=hid hX2
    replace hf:=hid hf
    replace hnx:=hid hnx
    replace hok:=hid hok
    replace hpp:=hid hpp
    replace hS:=hid hS
    replace hS1:=hid hS1
    replace hV:=hid hV
    replace he:=hid he
    go_wp2
    go_roundw
    case rel =>
     refine⟨2,by omega,by go_num,?_,hX2.out.set 13 _⟩
     rw [hnx.out,hf.out]
     exact h2.out.turn 13 (.int .i64 (1+(V:Int))) _ (fun _=>by rw [←hpp.out];rfl) (by rw [←hpp.out];rfl) (by rw [←hpp.out];rfl) (by rw [←hpp.out];rfl) rfl
    case measure=>simp [RowKit.intOf]
  ·-- the round 2
   obtain⟨S,hS⟩:∃ S,odN T 2 s=S:=⟨_,rfl⟩
   have hok:Oks T S:=hS ▸ odN_oks hs hE 2
   have hnx:odN T 3 s=S.od T 2:=by rw [←hS];rfl
   rw [hS] at hD
   obtain⟨c1,z1⟩:=hD.out.cell 1 (.int .i64 S.i) (fun _=>rfl)
   have hle:=hok.le
   go_wp2_with fail
   refine (word_c T w0 _ r b 4 4 wOrder vr vl vh vd S hT (by omega) hok.has rfl (by omega) hbr (fun k u hk=>hX.out.cell_of hbr (hw.out k u hk)) hD.out).mono ?_
   rintro e w2 ⟨rfl,h2,hx2⟩
   have hX2:=hX.out.trans hx2
   obtain⟨V,hV⟩:∃ V:Nat,wdV T wOrder S=V:=⟨_,rfl⟩
   obtain⟨S1,hS1⟩:∃ S1,S.wd T wOrder=S1:=⟨_,rfl⟩
   have hV4:V≤4:=hV ▸ wdV_le T wOrder S
   have hpp:=(wd_p T wOrder S).1
   have hod:S.od T 2=if (S.wd T wOrder).e=0∧(1+(wdV T wOrder S:Int))∈(ordL S.p).take 2 then { ({ (S.wd T wOrder) with i:=S.i }:Dst).fl T 7 with p:=setO S.p 2 (1+(wdV T wOrder S:Int)) } else { S.wd T wOrder with p:=setO S.p 2 (1+(wdV T wOrder S:Int)) }:=rfl
   rw [hV,hS1] at hod
   rw [hS1] at hpp h2
   rw [hV]
   obtain⟨c22,_⟩:=h2.cell 22 (.int .i64 S1.e) (fun _=>rfl)
   obtain⟨d1,y1⟩:=h2.cell 1 (.int .i64 S1.i) (fun _=>rfl)
   have hcl:∀ (j:Nat) v,(ordL S.p)[j]?=some v→w2.cell? ⟨r,12+j,none⟩=some (.int .i64 v):=fun j v hj=>by
    rw [←hpp] at hj
    match j,hj with
    | 0,hj=>exact (h2.cell 12 (.int .i64 v) (fun _=>by simp [ordL] at hj;simp [dcells,hj])).1
    | 1,hj=>exact (h2.cell 13 (.int .i64 v) (fun _=>by simp [ordL] at hj;simp [dcells,hj])).1
    | 2,hj=>exact (h2.cell 14 (.int .i64 v) (fun _=>by simp [ordL] at hj;simp [dcells,hj])).1
    | 3,hj=>exact (h2.cell 15 (.int .i64 v) (fun _=>by simp [ordL] at hj;simp [dcells,hj])).1
    | j+4,hj=>simp [ordL] at hj
   obtain⟨B,hB⟩:∃ B,decide ((1+(V:Int))∈(ordL S.p).take 2)=B:=⟨_,rfl⟩
   have hIn:Hid (Calls Tryz.prog 35 #[.slice (some ⟨r,12,none⟩) 2 4,.int .i64 (1+(V:Int))] w2 fun e w'=>e=.returned (.bool B)∧w'=w2):=inc_at hcl 2 (by simp [ordL]) (by simp [ordL]) (1+(V:Int)) 4 B hB
   obtain⟨q2,z2⟩:=h2.cell 14 (.int .i64 S1.p.o2) (fun _=>rfl)
   clear hcl
   by_cases he:S1.e=0
   ·have heb:((S1.e:Int)==0)=true:=by rw [he];rfl
    cases B
    ·have hf:S.od T 2 = { S1 with p:=setO S.p 2 (1+(V:Int)) }:=by rw [hod,if_neg (fun h=>absurd h.2 (of_decide_eq_false hB))]
     clear hod hB hD
     replace h2:=hid h2
     replace hX2:=hid hX2
     replace hf:=hid hf
     replace hnx:=hid hnx
     replace hok:=hid hok
     replace hpp:=hid hpp
     replace hS:=hid hS
     replace hS1:=hid hS1
     replace hV:=hid hV
     replace he:=hid he
     go_wp2_with (go_at_call 35;refine Calls.mono hIn.out ?_;rintro e w3 ⟨rfl,rfl⟩)
     go_roundw
     case rel =>
      refine⟨3,by omega,by go_num,?_,hX2.out.set 14 _⟩
      rw [hnx.out,hf.out]
      exact h2.out.turn 14 (.int .i64 (1+(V:Int))) _ (fun _=>by rw [←hpp.out];rfl) (by rw [←hpp.out];rfl) (by rw [←hpp.out];rfl) (by rw [←hpp.out];rfl) rfl
     case measure=>simp [RowKit.intOf]
    ·have hf:S.od T 2 = { ({ S1 with i:=S.i }:Dst).fl T 7 with p:=setO S.p 2 (1+(V:Int)) }:=by rw [hod,if_pos ⟨he,of_decide_eq_true hB⟩]
     have hhas:Has T { S1 with i:=S.i }:=by rw [←hS1];exact wd_back hok (hS1 ▸ he)
     clear hod hB hD
     replace h2:=hid h2
     replace hX2:=hid hX2
     replace hf:=hid hf
     replace hnx:=hid hnx
     replace hok:=hid hok
     replace hpp:=hid hpp
     replace hS:=hid hS
     replace hS1:=hid hS1
     replace hV:=hid hV
     replace he:=hid he
     replace hhas:=hid hhas
     go_wp2_with (go_at_call 35;refine Calls.mono hIn.out ?_;rintro e w3 ⟨rfl,rfl⟩)
     refine (fail_c T w0 _ r 7 vr vl vh vd { S1 with i:=S.i } hT hhas.out (h2.out.turn 1 (.int .i64 S.i) { S1 with i:=S.i } (fun _=>rfl) rfl rfl rfl rfl)).mono ?_
     rintro e w4 ⟨rfl,h4,hx4⟩
     have hX4:=hid <| (hX2.out.set 1 (.int .i64 S.i)).trans hx4
     have fp:=fl_p T 7 { S1 with i:=S.i }
     obtain⟨S4,hS4⟩:∃ S4,({ S1 with i:=S.i }:Dst).fl T 7=S4:=⟨_,rfl⟩
     rw [hS4] at h4 fp
     have hf4:=hf.out
     rw [hS4] at hf4
     obtain⟨p2,x2⟩:=h4.cell 14 (.int .i64 S4.p.o2) (fun _=>rfl)
     replace h4:=hid h4
     replace fp:=hid fp
     replace hS4:=hid hS4
     replace hf4:=hid hf4
     clear hf hx4 h2 c22 d1 y1 q2 z2
     go_wp2
     go_roundw
     case rel =>
      refine⟨3,by omega,by go_num,?_,hX4.out.set 14 _⟩
      rw [hnx.out,hf4.out]
      have fq:S4.p=S.p:=fp.out.1.trans hpp.out
      exact h4.out.turn 14 (.int .i64 (1+(V:Int))) _ (fun _=>by rw [←fq];rfl) (by rw [←fq];rfl) (by rw [←fq];rfl) (by rw [←fq];rfl) rfl
     case measure=>simp [RowKit.intOf]
   ·have heb:((S1.e:Int)==0)=false:=by simp [he]
    have hf:S.od T 2 = { S1 with p:=setO S.p 2 (1+(V:Int)) }:=by rw [hod,if_neg (fun h=>he h.1)]
    clear hod hB hD hIn
    replace h2:=hid h2
    replace hX2:=hid hX2
    replace hf:=hid hf
    replace hnx:=hid hnx
    replace hok:=hid hok
    replace hpp:=hid hpp
    replace hS:=hid hS
    replace hS1:=hid hS1
    replace hV:=hid hV
    replace he:=hid he
    go_wp2
    go_roundw
    case rel =>
     refine⟨3,by omega,by go_num,?_,hX2.out.set 14 _⟩
     rw [hnx.out,hf.out]
     exact h2.out.turn 14 (.int .i64 (1+(V:Int))) _ (fun _=>by rw [←hpp.out];rfl) (by rw [←hpp.out];rfl) (by rw [←hpp.out];rfl) (by rw [←hpp.out];rfl) rfl
    case measure=>simp [RowKit.intOf]
  ·-- the round 3
   obtain⟨S,hS⟩:∃ S,odN T 3 s=S:=⟨_,rfl⟩
   have hok:Oks T S:=hS ▸ odN_oks hs hE 3
   have hnx:odN T 4 s=S.od T 3:=by rw [←hS];rfl
   rw [hS] at hD
   obtain⟨c1,z1⟩:=hD.out.cell 1 (.int .i64 S.i) (fun _=>rfl)
   have hle:=hok.le
   go_wp2_with fail
   refine (word_c T w0 _ r b 4 4 wOrder vr vl vh vd S hT (by omega) hok.has rfl (by omega) hbr (fun k u hk=>hX.out.cell_of hbr (hw.out k u hk)) hD.out).mono ?_
   rintro e w2 ⟨rfl,h2,hx2⟩
   have hX2:=hX.out.trans hx2
   obtain⟨V,hV⟩:∃ V:Nat,wdV T wOrder S=V:=⟨_,rfl⟩
   obtain⟨S1,hS1⟩:∃ S1,S.wd T wOrder=S1:=⟨_,rfl⟩
   have hV4:V≤4:=hV ▸ wdV_le T wOrder S
   have hpp:=(wd_p T wOrder S).1
   have hod:S.od T 3=if (S.wd T wOrder).e=0∧(1+(wdV T wOrder S:Int))∈(ordL S.p).take 3 then { ({ (S.wd T wOrder) with i:=S.i }:Dst).fl T 7 with p:=setO S.p 3 (1+(wdV T wOrder S:Int)) } else { S.wd T wOrder with p:=setO S.p 3 (1+(wdV T wOrder S:Int)) }:=rfl
   rw [hV,hS1] at hod
   rw [hS1] at hpp h2
   rw [hV]
   obtain⟨c22,_⟩:=h2.cell 22 (.int .i64 S1.e) (fun _=>rfl)
   obtain⟨d1,y1⟩:=h2.cell 1 (.int .i64 S1.i) (fun _=>rfl)
   have hcl:∀ (j:Nat) v,(ordL S.p)[j]?=some v→w2.cell? ⟨r,12+j,none⟩=some (.int .i64 v):=fun j v hj=>by
    rw [←hpp] at hj
    match j,hj with
    | 0,hj=>exact (h2.cell 12 (.int .i64 v) (fun _=>by simp [ordL] at hj;simp [dcells,hj])).1
    | 1,hj=>exact (h2.cell 13 (.int .i64 v) (fun _=>by simp [ordL] at hj;simp [dcells,hj])).1
    | 2,hj=>exact (h2.cell 14 (.int .i64 v) (fun _=>by simp [ordL] at hj;simp [dcells,hj])).1
    | 3,hj=>exact (h2.cell 15 (.int .i64 v) (fun _=>by simp [ordL] at hj;simp [dcells,hj])).1
    | j+4,hj=>simp [ordL] at hj
   obtain⟨B,hB⟩:∃ B,decide ((1+(V:Int))∈(ordL S.p).take 3)=B:=⟨_,rfl⟩
   have hIn:Hid (Calls Tryz.prog 35 #[.slice (some ⟨r,12,none⟩) 3 4,.int .i64 (1+(V:Int))] w2 fun e w'=>e=.returned (.bool B)∧w'=w2):=inc_at hcl 3 (by simp [ordL]) (by simp [ordL]) (1+(V:Int)) 4 B hB
   obtain⟨q3,z3⟩:=h2.cell 15 (.int .i64 S1.p.o3) (fun _=>rfl)
   clear hcl
   by_cases he:S1.e=0
   ·have heb:((S1.e:Int)==0)=true:=by rw [he];rfl
    cases B
    ·have hf:S.od T 3 = { S1 with p:=setO S.p 3 (1+(V:Int)) }:=by rw [hod,if_neg (fun h=>absurd h.2 (of_decide_eq_false hB))]
     clear hod hB hD
     replace h2:=hid h2
     replace hX2:=hid hX2
     replace hf:=hid hf
     replace hnx:=hid hnx
     replace hok:=hid hok
     replace hpp:=hid hpp
     replace hS:=hid hS
     replace hS1:=hid hS1
     replace hV:=hid hV
     replace he:=hid he
     go_wp2_with (go_at_call 35;refine Calls.mono hIn.out ?_;rintro e w3 ⟨rfl,rfl⟩)
     go_roundw
     case rel =>
      refine⟨4,by omega,by go_num,?_,hX2.out.set 15 _⟩
      rw [hnx.out,hf.out]
      exact h2.out.turn 15 (.int .i64 (1+(V:Int))) _ (fun _=>by rw [←hpp.out];rfl) (by rw [←hpp.out];rfl) (by rw [←hpp.out];rfl) (by rw [←hpp.out];rfl) rfl
     case measure=>simp [RowKit.intOf]
    ·have hf:S.od T 3 = { ({ S1 with i:=S.i }:Dst).fl T 7 with p:=setO S.p 3 (1+(V:Int)) }:=by rw [hod,if_pos ⟨he,of_decide_eq_true hB⟩]
     have hhas:Has T { S1 with i:=S.i }:=by rw [←hS1];exact wd_back hok (hS1 ▸ he)
     clear hod hB hD
     replace h2:=hid h2
     replace hX2:=hid hX2
     replace hf:=hid hf
     replace hnx:=hid hnx
     replace hok:=hid hok
     replace hpp:=hid hpp
     replace hS:=hid hS
     replace hS1:=hid hS1
     replace hV:=hid hV
     replace he:=hid he
     replace hhas:=hid hhas
     go_wp2_with (go_at_call 35;refine Calls.mono hIn.out ?_;rintro e w3 ⟨rfl,rfl⟩)
     refine (fail_c T w0 _ r 7 vr vl vh vd { S1 with i:=S.i } hT hhas.out (h2.out.turn 1 (.int .i64 S.i) { S1 with i:=S.i } (fun _=>rfl) rfl rfl rfl rfl)).mono ?_
     rintro e w4 ⟨rfl,h4,hx4⟩
     have hX4:=hid <| (hX2.out.set 1 (.int .i64 S.i)).trans hx4
     have fp:=fl_p T 7 { S1 with i:=S.i }
     obtain⟨S4,hS4⟩:∃ S4,({ S1 with i:=S.i }:Dst).fl T 7=S4:=⟨_,rfl⟩
     rw [hS4] at h4 fp
     have hf4:=hf.out
     rw [hS4] at hf4
     obtain⟨p3,x3⟩:=h4.cell 15 (.int .i64 S4.p.o3) (fun _=>rfl)
     replace h4:=hid h4
     replace fp:=hid fp
     replace hS4:=hid hS4
     replace hf4:=hid hf4
     clear hf hx4 h2 c22 d1 y1 q3 z3
     go_wp2
     go_roundw
     case rel =>
      refine⟨4,by omega,by go_num,?_,hX4.out.set 15 _⟩
      rw [hnx.out,hf4.out]
      have fq:S4.p=S.p:=fp.out.1.trans hpp.out
      exact h4.out.turn 15 (.int .i64 (1+(V:Int))) _ (fun _=>by rw [←fq];rfl) (by rw [←fq];rfl) (by rw [←fq];rfl) (by rw [←fq];rfl) rfl
     case measure=>simp [RowKit.intOf]
   ·have heb:((S1.e:Int)==0)=false:=by simp [he]
    have hf:S.od T 3 = { S1 with p:=setO S.p 3 (1+(V:Int)) }:=by rw [hod,if_neg (fun h=>he h.1)]
    clear hod hB hD hIn
    replace h2:=hid h2
    replace hX2:=hid hX2
    replace hf:=hid hf
    replace hnx:=hid hnx
    replace hok:=hid hok
    replace hpp:=hid hpp
    replace hS:=hid hS
    replace hS1:=hid hS1
    replace hV:=hid hV
    replace he:=hid he
    go_wp2
    go_roundw
    case rel =>
     refine⟨4,by omega,by go_num,?_,hX2.out.set 15 _⟩
     rw [hnx.out,hf.out]
     exact h2.out.turn 15 (.int .i64 (1+(V:Int))) _ (fun _=>by rw [←hpp.out];rfl) (by rw [←hpp.out];rfl) (by rw [←hpp.out];rfl) (by rw [←hpp.out];rfl) rfl
    case measure=>simp [RowKit.intOf]
  ·go_wp2
   go_end0
   exact⟨rfl,hD.out,hX0.out.trans hX.out⟩
theorem wdF_lt (T:List Tok)(s:Dst):∀ (L:List (List UInt8)) (k j:Nat),wdF T s k L=some j→j<k+L.length
 | [],k,j,h=>by cases h
 | u::L,k,j,h=>by
  rw [wdF] at h
  simp only [List.length_cons]
  split at h
  ·obtain rfl:=Option.some.inj h;omega
  ·have:=wdF_lt T s L _ _ h
   omega
theorem wdV_two (T:List Tok)(s:Dst):((wdV T wRound s:Nat):Int)=0∧rdV (wdV T wRound s)=1∨((wdV T wRound s:Nat):Int)=1∧rdV (wdV T wRound s)=3:=by
 have h:wdV T wRound s=0∨wdV T wRound s=1:=by
  unfold wdV
  cases h:wdF T s 0 wRound with
  | none=>exact Or.inl rfl
  | some j =>
   have:=wdF_lt T s wRound 0 j h
   have e:wRound.length=2:=rfl
   simp only [Option.getD_some]
   omega
 rcases h with h | h <;> rw [h]
 ·exact Or.inl ⟨rfl,rfl⟩
 ·exact Or.inr ⟨rfl,rfl⟩
theorem nb_p (T:List Tok)(o:List UInt8→Option Int)(s:Dst):(s.nb T o).p=s.p∧(s.nb T o).had=s.had:=by
 unfold Dst.nb Dst.fl Dst.inc
 split
 ·exact ⟨rfl,rfl⟩
 ·split <;> exact ⟨rfl,rfl⟩
theorem lay_wCount (w:World):∃ W b,w.alloc (.cells #[.string ⟨#[116,104,105,114,116,121]⟩,.string ⟨#[102,105,120,101,100]⟩,.string ⟨#[97,99,116,117,97,108]⟩] 9)=W∧w.heap.size=b∧Ext w W∧∀ (k:Nat) u,wCount[k]?=some u→W.cell? ⟨b,k,none⟩=some (.string ⟨u.toArray⟩):=by
 refine⟨_,_,rfl,rfl,(Ext.refl w).alloc _ _,fun k u hk=>?_⟩
 have hr:=heap_alloc_last w (.cells #[.string ⟨#[116,104,105,114,116,121]⟩,.string ⟨#[102,105,120,101,100]⟩,.string ⟨#[97,99,116,117,97,108]⟩] 9)
 refine (cell_of_row _ _ k _ _ _ hr).trans ?_
 unfold wCount at hk
 match k,hk with
 | 0,hk=>simp at hk;subst hk;rfl
 | 1,hk=>simp at hk;subst hk;rfl
 | 2,hk=>simp at hk;subst hk;rfl
 | k+3,hk=>simp at hk
theorem lay_wRound (w:World):∃ W b,w.alloc (.cells #[.string ⟨#[104,97,108,102,45,117,112]⟩,.string ⟨#[100,111,119,110]⟩] 9)=W∧w.heap.size=b∧Ext w W∧∀ (k:Nat) u,wRound[k]?=some u→W.cell? ⟨b,k,none⟩=some (.string ⟨u.toArray⟩):=by
 refine⟨_,_,rfl,rfl,(Ext.refl w).alloc _ _,fun k u hk=>?_⟩
 have hr:=heap_alloc_last w (.cells #[.string ⟨#[104,97,108,102,45,117,112]⟩,.string ⟨#[100,111,119,110]⟩] 9)
 refine (cell_of_row _ _ k _ _ _ hr).trans ?_
 unfold wRound at hk
 match k,hk with
 | 0,hk=>simp at hk;subst hk;rfl
 | 1,hk=>simp at hk;subst hk;rfl
 | k+2,hk=>simp at hk
theorem lay_wKind (w:World):∃ W b,w.alloc (.cells #[.string ⟨#[97,110,110,117,105,116,121]⟩,.string ⟨#[101,113,117,97,108]⟩,.string ⟨#[98,117,108,108,101,116]⟩] 9)=W∧w.heap.size=b∧Ext w W∧∀ (k:Nat) u,wKind[k]?=some u→W.cell? ⟨b,k,none⟩=some (.string ⟨u.toArray⟩):=by
 refine⟨_,_,rfl,rfl,(Ext.refl w).alloc _ _,fun k u hk=>?_⟩
 have hr:=heap_alloc_last w (.cells #[.string ⟨#[97,110,110,117,105,116,121]⟩,.string ⟨#[101,113,117,97,108]⟩,.string ⟨#[98,117,108,108,101,116]⟩] 9)
 refine (cell_of_row _ _ k _ _ _ hr).trans ?_
 unfold wKind at hk
 match k,hk with
 | 0,hk=>simp at hk;subst hk;rfl
 | 1,hk=>simp at hk;subst hk;rfl
 | 2,hk=>simp at hk;subst hk;rfl
 | k+3,hk=>simp at hk
theorem lay_wOver (w:World):∃ W b,w.alloc (.cells #[.string ⟨#[104,111,108,100]⟩,.string ⟨#[112,114,101,112,97,121]⟩,.string ⟨#[114,101,102,117,110,100]⟩] 9)=W∧w.heap.size=b∧Ext w W∧∀ (k:Nat) u,wOver[k]?=some u→W.cell? ⟨b,k,none⟩=some (.string ⟨u.toArray⟩):=by
 refine⟨_,_,rfl,rfl,(Ext.refl w).alloc _ _,fun k u hk=>?_⟩
 have hr:=heap_alloc_last w (.cells #[.string ⟨#[104,111,108,100]⟩,.string ⟨#[112,114,101,112,97,121]⟩,.string ⟨#[114,101,102,117,110,100]⟩] 9)
 refine (cell_of_row _ _ k _ _ _ hr).trans ?_
 unfold wOver at hk
 match k,hk with
 | 0,hk=>simp at hk;subst hk;rfl
 | 1,hk=>simp at hk;subst hk;rfl
 | 2,hk=>simp at hk;subst hk;rfl
 | k+3,hk=>simp at hk
theorem lay_wRoll (w:World):∃ W b,w.alloc (.cells #[.string ⟨#[115,116,97,121]⟩,.string ⟨#[110,101,120,116]⟩,.string ⟨#[119,105,116,104,105,110]⟩,.string ⟨#[112,114,101,118,105,111,117,115]⟩] 9)=W∧w.heap.size=b∧Ext w W∧∀ (k:Nat) u,wRoll[k]?=some u→W.cell? ⟨b,k,none⟩=some (.string ⟨u.toArray⟩):=by
 refine⟨_,_,rfl,rfl,(Ext.refl w).alloc _ _,fun k u hk=>?_⟩
 have hr:=heap_alloc_last w (.cells #[.string ⟨#[115,116,97,121]⟩,.string ⟨#[110,101,120,116]⟩,.string ⟨#[119,105,116,104,105,110]⟩,.string ⟨#[112,114,101,118,105,111,117,115]⟩] 9)
 refine (cell_of_row _ _ k _ _ _ hr).trans ?_
 unfold wRoll at hk
 match k,hk with
 | 0,hk=>simp at hk;subst hk;rfl
 | 1,hk=>simp at hk;subst hk;rfl
 | 2,hk=>simp at hk;subst hk;rfl
 | 3,hk=>simp at hk;subst hk;rfl
 | k+4,hk=>simp at hk
theorem clauseD_0 (T:List Tok)(w0 w:World)(r:Nat)(vr vl vh vd:Value)(s:Dst)(hT:T.length≤20010)(hX:∀ t∈T,t.text.length≤20000)(hE:Endt T)(he0:Hid (Env w0))(hs:Oks T s)(h:Dn T w0 w r vr vl vh vd s) :
  Calls Tryz.prog 60 #[.pointer (some ⟨r,0,none⟩),.string ⟨#[99,111,117,110,116]⟩] w fun e w'=>e=.returned (.tuple #[])∧Dn T w0 w' r vr vl vh vd { s.wd T wCount with p:={ s.p with cn:=(1+(wdV T wCount s:Int)) } }:=by
 have hle:=hs.le
 obtain⟨W1,b,hW1,hb,hx1,hw⟩:=lay_wCount w
 have hbr:b≠r:=by have:=h.lt;omega
 replace h:=hid <| h.on hx1
 replace hw:=hid hw
 clear hx1
 go_enter Tryz.func60,Tryz.ntmps60
 go_wp2_with fail
 clear hW1 hb
 refine (word_c T w0 _ r b 3 3 wCount vr vl vh vd s hT (by omega) hs.has rfl (by omega) hbr (fun k u hk=>hw.out k u hk) h.out).mono ?_
 rintro e w1 ⟨rfl,h1,hX1⟩
 have hp:=(wd_p T wCount s).1
 obtain⟨S,hS⟩:∃ S,s.wd T wCount=S:=⟨_,rfl⟩
 rw [hS] at h1 hp
 obtain⟨c1,z1⟩:=h1.cell 3 (.int .i64 S.p.cn) (fun _=>rfl)
 have hle2:=wdV_le T wCount s
 have hll:wCount.length=3:=rfl
 obtain⟨V,hV⟩:∃ V,wdV T wCount s=V:=⟨_,rfl⟩
 rw [hV] at hle2
 rw [hV]
 replace hV:=hid hV
 replace h1:=hid h1
 replace hp:=hid hp
 replace hS:=hid hS
 clear hX1
 go_wp2
 go_end0
 exact⟨rfl,by rw [hS.out,hV.out];exact h1.out.turn 3 _ _ (fun _=>by rw [←hp.out];rfl) (by rw [←hp.out]) (by rw [←hp.out]) (by rw [←hp.out]) rfl⟩
theorem clauseD_1 (T:List Tok)(w0 w:World)(r:Nat)(vr vl vh vd:Value)(s:Dst)(hT:T.length≤20010)(hX:∀ t∈T,t.text.length≤20000)(hE:Endt T)(he0:Hid (Env w0))(hs:Oks T s)(h:Dn T w0 w r vr vl vh vd s) :
  Calls Tryz.prog 60 #[.pointer (some ⟨r,0,none⟩),.string ⟨#[114,111,117,110,100]⟩] w fun e w'=>e=.returned (.tuple #[])∧Dn T w0 w' r vr vl vh vd { s.wd T wRound with p:={ s.p with rd:=(rdV (wdV T wRound s)) } }:=by
 have hle:=hs.le
 obtain⟨W0,d,hW0,hd,hx0,d0,d1⟩:∃ W d,w.alloc (.cells #[.int .i64 1,.int .i64 3] 3)=W∧w.heap.size=d∧Ext w W∧W.cell? ⟨d,0,none⟩=some (.int .i64 1)∧W.cell? ⟨d,1,none⟩=some (.int .i64 3):=⟨_,_,rfl,rfl,(Ext.refl w).alloc _ _,by simp [go_sem],by simp [go_sem]⟩
 have hdr:d≠r:=by have:=h.lt;omega
 replace h:=h.on hx0
 obtain⟨W1,b,hW1,hb,hx1,hw⟩:=lay_wRound W0
 have hbr:b≠r:=by have:=h.lt;omega
 replace h:=hid <| h.on hx1
 replace d0:=hx1.cell_of d0
 replace d1:=hx1.cell_of d1
 replace hw:=hid hw
 clear hx1
 go_enter Tryz.func60,Tryz.ntmps60
 go_wp2_with fail
 clear hW1 hb hW0 hd hx0
 refine (word_c T w0 _ r b 2 2 wRound vr vl vh vd s hT (by omega) hs.has rfl (by omega) hbr (fun k u hk=>hw.out k u hk) h.out).mono ?_
 rintro e w1 ⟨rfl,h1,hX1⟩
 have hp:=(wd_p T wRound s).1
 obtain⟨S,hS⟩:∃ S,s.wd T wRound=S:=⟨_,rfl⟩
 rw [hS] at h1 hp
 obtain⟨c1,z1⟩:=h1.cell 4 (.int .i64 S.p.rd) (fun _=>rfl)
 replace d0:=hX1.cell_of hdr d0
 replace d1:=hX1.cell_of hdr d1
 replace h1:=hid h1
 replace hp:=hid hp
 replace hS:=hid hS
 clear hX1
 rcases wdV_two T s with ⟨hv,hr⟩ | ⟨hv,hr⟩
 all_goals
  rw [hv]
  replace hr:=hid hr
  clear hv
  go_wp2
  go_end0
  exact⟨rfl,by rw [hS.out,hr.out];exact h1.out.turn 4 _ _ (fun _=>by rw [←hp.out];rfl) (by rw [←hp.out]) (by rw [←hp.out]) (by rw [←hp.out]) rfl⟩
theorem clauseD_2 (T:List Tok)(w0 w:World)(r:Nat)(vr vl vh vd:Value)(s:Dst)(hT:T.length≤20010)(hX:∀ t∈T,t.text.length≤20000)(hE:Endt T)(he0:Hid (Env w0))(hs:Oks T s)(h:Dn T w0 w r vr vl vh vd s) :
  Calls Tryz.prog 60 #[.pointer (some ⟨r,0,none⟩),.string ⟨#[107,105,110,100]⟩] w fun e w'=>e=.returned (.tuple #[])∧Dn T w0 w' r vr vl vh vd { s.wd T wKind with p:={ s.p with kd:=(1+(wdV T wKind s:Int)) } }:=by
 have hle:=hs.le
 obtain⟨W1,b,hW1,hb,hx1,hw⟩:=lay_wKind w
 have hbr:b≠r:=by have:=h.lt;omega
 replace h:=hid <| h.on hx1
 replace hw:=hid hw
 clear hx1
 go_enter Tryz.func60,Tryz.ntmps60
 go_wp2_with fail
 clear hW1 hb
 refine (word_c T w0 _ r b 3 3 wKind vr vl vh vd s hT (by omega) hs.has rfl (by omega) hbr (fun k u hk=>hw.out k u hk) h.out).mono ?_
 rintro e w1 ⟨rfl,h1,hX1⟩
 have hp:=(wd_p T wKind s).1
 obtain⟨S,hS⟩:∃ S,s.wd T wKind=S:=⟨_,rfl⟩
 rw [hS] at h1 hp
 obtain⟨c1,z1⟩:=h1.cell 5 (.int .i64 S.p.kd) (fun _=>rfl)
 have hle2:=wdV_le T wKind s
 have hll:wKind.length=3:=rfl
 obtain⟨V,hV⟩:∃ V,wdV T wKind s=V:=⟨_,rfl⟩
 rw [hV] at hle2
 rw [hV]
 replace hV:=hid hV
 replace h1:=hid h1
 replace hp:=hid hp
 replace hS:=hid hS
 clear hX1
 go_wp2
 go_end0
 exact⟨rfl,by rw [hS.out,hV.out];exact h1.out.turn 5 _ _ (fun _=>by rw [←hp.out];rfl) (by rw [←hp.out]) (by rw [←hp.out]) (by rw [←hp.out]) rfl⟩
theorem clauseD_3 (T:List Tok)(w0 w:World)(r:Nat)(vr vl vh vd:Value)(s:Dst)(hT:T.length≤20010)(hX:∀ t∈T,t.text.length≤20000)(hE:Endt T)(he0:Hid (Env w0))(hs:Oks T s)(h:Dn T w0 w r vr vl vh vd s) :
  Calls Tryz.prog 60 #[.pointer (some ⟨r,0,none⟩),.string ⟨#[101,118,101,114,121]⟩] w fun e w'=>e=.returned (.tuple #[])∧Dn T w0 w' r vr vl vh vd { s.nb T numO with p:={ s.p with ev:=ngO (txB T s) } }:=by
 have hle:=hs.le
 replace h:=hid h
 go_enter Tryz.func60,Tryz.ntmps60
 go_wp2_with fail
 refine (numberD_c T w0 _ r vr vl vh vd s hT hX (by omega) hs.has h.out).mono ?_
 rintro e w1 ⟨rfl,h1,hX1⟩
 obtain⟨x,hx⟩:∃ x,ngO (txB T s)=x:=⟨_,rfl⟩
 rw [hx]
 have hp:=(nb_p T numO s).1
 obtain⟨S,hS⟩:∃ S,s.nb T numO=S:=⟨_,rfl⟩
 rw [hS] at h1 hp
 obtain⟨c1,z1⟩:=h1.cell 6 (.int .i64 S.p.ev) (fun _=>rfl)
 replace h1:=hid h1
 replace hp:=hid hp
 replace hS:=hid hS
 replace hx:=hid hx
 clear hX1
 go_wp2
 go_end0
 exact⟨rfl,by rw [hx.out,hS.out];exact h1.out.turn 6 (.int .i64 x) _ (fun _=>by rw [←hp.out];rfl) (by rw [←hp.out]) (by rw [←hp.out]) (by rw [←hp.out]) rfl⟩
theorem clauseD_4 (T:List Tok)(w0 w:World)(r:Nat)(vr vl vh vd:Value)(s:Dst)(hT:T.length≤20010)(hX:∀ t∈T,t.text.length≤20000)(hE:Endt T)(he0:Hid (Env w0))(hs:Oks T s)(h:Dn T w0 w r vr vl vh vd s) :
  Calls Tryz.prog 60 #[.pointer (some ⟨r,0,none⟩),.string ⟨#[116,105,109,101,115]⟩] w fun e w'=>e=.returned (.tuple #[])∧Dn T w0 w' r vr vl vh vd { s.nb T numO with p:={ s.p with tm:=ngO (txB T s) } }:=by
 have hle:=hs.le
 replace h:=hid h
 go_enter Tryz.func60,Tryz.ntmps60
 go_wp2_with fail
 refine (numberD_c T w0 _ r vr vl vh vd s hT hX (by omega) hs.has h.out).mono ?_
 rintro e w1 ⟨rfl,h1,hX1⟩
 obtain⟨x,hx⟩:∃ x,ngO (txB T s)=x:=⟨_,rfl⟩
 rw [hx]
 have hp:=(nb_p T numO s).1
 obtain⟨S,hS⟩:∃ S,s.nb T numO=S:=⟨_,rfl⟩
 rw [hS] at h1 hp
 obtain⟨c1,z1⟩:=h1.cell 7 (.int .i64 S.p.tm) (fun _=>rfl)
 replace h1:=hid h1
 replace hp:=hid hp
 replace hS:=hid hS
 replace hx:=hid hx
 clear hX1
 go_wp2
 go_end0
 exact⟨rfl,by rw [hx.out,hS.out];exact h1.out.turn 7 (.int .i64 x) _ (fun _=>by rw [←hp.out];rfl) (by rw [←hp.out]) (by rw [←hp.out]) (by rw [←hp.out]) rfl⟩
theorem clauseD_5 (T:List Tok)(w0 w:World)(r:Nat)(vr vl vh vd:Value)(s:Dst)(hT:T.length≤20010)(hX:∀ t∈T,t.text.length≤20000)(hE:Endt T)(he0:Hid (Env w0))(hs:Oks T s)(h:Dn T w0 w r vr vl vh vd s) :
  Calls Tryz.prog 60 #[.pointer (some ⟨r,0,none⟩),.string ⟨#[103,114,97,99,101]⟩] w fun e w'=>e=.returned (.tuple #[])∧Dn T w0 w' r vr vl vh vd { s.nb T numO with p:={ s.p with gr:=ngO (txB T s) } }:=by
 have hle:=hs.le
 replace h:=hid h
 go_enter Tryz.func60,Tryz.ntmps60
 go_wp2_with fail
 refine (numberD_c T w0 _ r vr vl vh vd s hT hX (by omega) hs.has h.out).mono ?_
 rintro e w1 ⟨rfl,h1,hX1⟩
 obtain⟨x,hx⟩:∃ x,ngO (txB T s)=x:=⟨_,rfl⟩
 rw [hx]
 have hp:=(nb_p T numO s).1
 obtain⟨S,hS⟩:∃ S,s.nb T numO=S:=⟨_,rfl⟩
 rw [hS] at h1 hp
 obtain⟨c1,z1⟩:=h1.cell 8 (.int .i64 S.p.gr) (fun _=>rfl)
 replace h1:=hid h1
 replace hp:=hid hp
 replace hS:=hid hS
 replace hx:=hid hx
 clear hX1
 go_wp2
 go_end0
 exact⟨rfl,by rw [hx.out,hS.out];exact h1.out.turn 8 (.int .i64 x) _ (fun _=>by rw [←hp.out];rfl) (by rw [←hp.out]) (by rw [←hp.out]) (by rw [←hp.out]) rfl⟩
theorem clauseD_6 (T:List Tok)(w0 w:World)(r:Nat)(vr vl vh vd:Value)(s:Dst)(hT:T.length≤20010)(hX:∀ t∈T,t.text.length≤20000)(hE:Endt T)(he0:Hid (Env w0))(hs:Oks T s)(h:Dn T w0 w r vr vl vh vd s) :
  Calls Tryz.prog 60 #[.pointer (some ⟨r,0,none⟩),.string ⟨#[114,97,116,101]⟩] w fun e w'=>∃ x:Int,(∀ v,rateO (txB T s)=some v→x=v)∧e=.returned (.tuple #[])∧Dn T w0 w' r vr vl vh vd { s.nb T rateO with p:={ s.p with rt:=x } }:=by
 have hle:=hs.le
 replace h:=hid h
 go_enter Tryz.func60,Tryz.ntmps60
 go_wp2_with fail
 refine (rateD_c T w0 _ r vr vl vh vd s hT hX (by omega) hs.has he0 h.out).mono ?_
 rintro e w1 ⟨⟨x,rfl,hx⟩,h1,hX1⟩
 have hp:=(nb_p T rateO s).1
 obtain⟨S,hS⟩:∃ S,s.nb T rateO=S:=⟨_,rfl⟩
 rw [hS] at h1 hp
 obtain⟨c1,z1⟩:=h1.cell 9 (.int .i64 S.p.rt) (fun _=>rfl)
 replace h1:=hid h1
 replace hp:=hid hp
 replace hS:=hid hS
 replace hx:=hid hx
 clear hX1
 go_wp2
 go_end0
 exact⟨x,hx.out,rfl,by rw [hS.out];exact h1.out.turn 9 (.int .i64 x) _ (fun _=>by rw [←hp.out];rfl) (by rw [←hp.out]) (by rw [←hp.out]) (by rw [←hp.out]) rfl⟩
theorem clauseD_7 (T:List Tok)(w0 w:World)(r:Nat)(vr vl vh vd:Value)(s:Dst)(hT:T.length≤20010)(hX:∀ t∈T,t.text.length≤20000)(hE:Endt T)(he0:Hid (Env w0))(hs:Oks T s)(h:Dn T w0 w r vr vl vh vd s) :
  Calls Tryz.prog 60 #[.pointer (some ⟨r,0,none⟩),.string ⟨#[112,101,110,97,108,116,121]⟩] w fun e w'=>∃ x:Int,(∀ v,rateO (txB T s)=some v→x=v)∧e=.returned (.tuple #[])∧Dn T w0 w' r vr vl vh vd { s.nb T rateO with p:={ s.p with pn:=x } }:=by
 have hle:=hs.le
 replace h:=hid h
 go_enter Tryz.func60,Tryz.ntmps60
 go_wp2_with fail
 refine (rateD_c T w0 _ r vr vl vh vd s hT hX (by omega) hs.has he0 h.out).mono ?_
 rintro e w1 ⟨⟨x,rfl,hx⟩,h1,hX1⟩
 have hp:=(nb_p T rateO s).1
 obtain⟨S,hS⟩:∃ S,s.nb T rateO=S:=⟨_,rfl⟩
 rw [hS] at h1 hp
 obtain⟨c1,z1⟩:=h1.cell 11 (.int .i64 S.p.pn) (fun _=>rfl)
 replace h1:=hid h1
 replace hp:=hid hp
 replace hS:=hid hS
 replace hx:=hid hx
 clear hX1
 go_wp2
 go_end0
 exact⟨x,hx.out,rfl,by rw [hS.out];exact h1.out.turn 11 (.int .i64 x) _ (fun _=>by rw [←hp.out];rfl) (by rw [←hp.out]) (by rw [←hp.out]) (by rw [←hp.out]) rfl⟩
theorem clauseD_10 (T:List Tok)(w0 w:World)(r:Nat)(vr vl vh vd:Value)(s:Dst)(hT:T.length≤20010)(hX:∀ t∈T,t.text.length≤20000)(hE:Endt T)(he0:Hid (Env w0))(hs:Oks T s)(h:Dn T w0 w r vr vl vh vd s) :
  Calls Tryz.prog 60 #[.pointer (some ⟨r,0,none⟩),.string ⟨#[99,97,112]⟩] w fun e w'=>∃ x:Int,(∀ v,monO (txB T s)=some v→x=v)∧e=.returned (.tuple #[])∧Dn T w0 w' r vr vl vh vd { s.nb T monO with p:={ s.p with cp:=x } }:=by
 have hle:=hs.le
 replace h:=hid h
 go_enter Tryz.func60,Tryz.ntmps60
 go_wp2_with fail
 refine (moneyD_c T w0 _ r vr vl vh vd s hT hX (by omega) hs.has he0 h.out).mono ?_
 rintro e w1 ⟨⟨x,rfl,hx⟩,h1,hX1⟩
 have hp:=(nb_p T monO s).1
 obtain⟨S,hS⟩:∃ S,s.nb T monO=S:=⟨_,rfl⟩
 rw [hS] at h1 hp
 obtain⟨c1,z1⟩:=h1.cell 18 (.int .i64 S.p.cp) (fun _=>rfl)
 replace h1:=hid h1
 replace hp:=hid hp
 replace hS:=hid hS
 replace hx:=hid hx
 clear hX1
 go_wp2
 go_end0
 exact⟨x,hx.out,rfl,by rw [hS.out];exact h1.out.turn 18 (.int .i64 x) _ (fun _=>by rw [←hp.out];rfl) (by rw [←hp.out]) (by rw [←hp.out]) (by rw [←hp.out]) rfl⟩
theorem clauseD_13 (T:List Tok)(w0 w:World)(r:Nat)(vr vl vh vd:Value)(s:Dst)(hT:T.length≤20010)(hX:∀ t∈T,t.text.length≤20000)(hE:Endt T)(he0:Hid (Env w0))(hs:Oks T s)(h:Dn T w0 w r vr vl vh vd s) :
  Calls Tryz.prog 60 #[.pointer (some ⟨r,0,none⟩),.string ⟨#[111,118,101,114]⟩] w fun e w'=>e=.returned (.tuple #[])∧Dn T w0 w' r vr vl vh vd { s.wd T wOver with p:={ s.p with ov:=(1+(wdV T wOver s:Int)) } }:=by
 have hle:=hs.le
 obtain⟨W1,b,hW1,hb,hx1,hw⟩:=lay_wOver w
 have hbr:b≠r:=by have:=h.lt;omega
 replace h:=hid <| h.on hx1
 replace hw:=hid hw
 clear hx1
 go_enter Tryz.func60,Tryz.ntmps60
 go_wp2_with fail
 clear hW1 hb
 refine (word_c T w0 _ r b 3 3 wOver vr vl vh vd s hT (by omega) hs.has rfl (by omega) hbr (fun k u hk=>hw.out k u hk) h.out).mono ?_
 rintro e w1 ⟨rfl,h1,hX1⟩
 have hp:=(wd_p T wOver s).1
 obtain⟨S,hS⟩:∃ S,s.wd T wOver=S:=⟨_,rfl⟩
 rw [hS] at h1 hp
 obtain⟨c1,z1⟩:=h1.cell 16 (.int .i64 S.p.ov) (fun _=>rfl)
 have hle2:=wdV_le T wOver s
 have hll:wOver.length=3:=rfl
 obtain⟨V,hV⟩:∃ V,wdV T wOver s=V:=⟨_,rfl⟩
 rw [hV] at hle2
 rw [hV]
 replace hV:=hid hV
 replace h1:=hid h1
 replace hp:=hid hp
 replace hS:=hid hS
 clear hX1
 go_wp2
 go_end0
 exact⟨rfl,by rw [hS.out,hV.out];exact h1.out.turn 16 _ _ (fun _=>by rw [←hp.out];rfl) (by rw [←hp.out]) (by rw [←hp.out]) (by rw [←hp.out]) rfl⟩
theorem clauseD_14 (T:List Tok)(w0 w:World)(r:Nat)(vr vl vh vd:Value)(s:Dst)(hT:T.length≤20010)(hX:∀ t∈T,t.text.length≤20000)(hE:Endt T)(he0:Hid (Env w0))(hs:Oks T s)(h:Dn T w0 w r vr vl vh vd s) :
  Calls Tryz.prog 60 #[.pointer (some ⟨r,0,none⟩),.string ⟨#[114,111,108,108]⟩] w fun e w'=>e=.returned (.tuple #[])∧Dn T w0 w' r vr vl vh vd { s.wd T wRoll with p:={ s.p with rl:=(1+(wdV T wRoll s:Int)) } }:=by
 have hle:=hs.le
 obtain⟨W1,b,hW1,hb,hx1,hw⟩:=lay_wRoll w
 have hbr:b≠r:=by have:=h.lt;omega
 replace h:=hid <| h.on hx1
 replace hw:=hid hw
 clear hx1
 go_enter Tryz.func60,Tryz.ntmps60
 go_wp2_with fail
 clear hW1 hb
 refine (word_c T w0 _ r b 4 4 wRoll vr vl vh vd s hT (by omega) hs.has rfl (by omega) hbr (fun k u hk=>hw.out k u hk) h.out).mono ?_
 rintro e w1 ⟨rfl,h1,hX1⟩
 have hp:=(wd_p T wRoll s).1
 obtain⟨S,hS⟩:∃ S,s.wd T wRoll=S:=⟨_,rfl⟩
 rw [hS] at h1 hp
 obtain⟨c1,z1⟩:=h1.cell 19 (.int .i64 S.p.rl) (fun _=>rfl)
 have hle2:=wdV_le T wRoll s
 have hll:wRoll.length=4:=rfl
 obtain⟨V,hV⟩:∃ V,wdV T wRoll s=V:=⟨_,rfl⟩
 rw [hV] at hle2
 rw [hV]
 replace hV:=hid hV
 replace h1:=hid h1
 replace hp:=hid hp
 replace hS:=hid hS
 clear hX1
 go_wp2
 go_end0
 exact⟨rfl,by rw [hS.out,hV.out];exact h1.out.turn 19 _ _ (fun _=>by rw [←hp.out];rfl) (by rw [←hp.out]) (by rw [←hp.out]) (by rw [←hp.out]) rfl⟩
theorem clauseD_12 (T:List Tok)(w0 w:World)(r:Nat)(vr vl vh vd:Value)(s:Dst)(hT:T.length≤20010)(hX:∀ t∈T,t.text.length≤20000)(hE:Endt T)(he0:Hid (Env w0))(hs:Oks T s)(h:Dn T w0 w r vr vl vh vd s) :
  Calls Tryz.prog 60 #[.pointer (some ⟨r,0,none⟩),.string ⟨#[111,114,100,101,114]⟩] w fun e w'=>e=.returned (.tuple #[])∧Dn T w0 w' r vr vl vh vd (odN T 4 s):=by
 replace h:=hid h
 go_enter Tryz.func60,Tryz.ntmps60
 go_wp2_with fail
 refine (orderD_c T w0 _ r vr vl vh vd s hT hE hs h.out).mono ?_
 rintro e w1 ⟨rfl,h1,hX1⟩
 replace h1:=hid h1
 clear hX1
 go_wp2
 go_end0
 exact⟨rfl,h1.out⟩
end Go.Proofs.YtcijdkbopiaicaaGreatDoor
