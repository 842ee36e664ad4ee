/- For every product p, every int at and every byte by, of the project's tree at the commit that COMMIT names, GrammarCut returns true and leaves its arguments as they were, with the listed variables laid as the program's text lays them. -/
import Derived.Test.YtcijdkbopiaicaaGreatDoorC16
import Derived.Test.YtcijdkbopiaicaaGreatDoorC18
import Derived.Test.YtcijdkbopiaicaaGreatDoorC19
set_option linter.unusedVariables false
set_option maxRecDepth 100000
set_option maxHeartbeats 8000000
namespace Go.Proofs.YtcijdkbopiaicaaGreatDoor.grammarCut
open Go.ChangeShapes Go.WideShapes Go.ChangeAt Go.RowKit Go.Lib
theorem prod_no (w:World):Calls Tryz.prog 9 #[.agg zP,.agg #[.string ⟨#[]⟩,.int .i64 0,.int .i64 0,.int .i64 0,.int .i64 0,.int .i64 0,.int .i64 0,.int .i64 0,.slice none 0 0,.int .i64 0,.int .i64 0,.int .i64 0,.int .i64 0,.int .i64 0,.int .i64 0,.slice none 0 0,.int .i64 0,.int .i64 0,.slice none 0 0]] w fun e w'=>e=.returned (.bool true)∧Ext w w':=Prod_z w
theorem lsts_past {w0 w W W':World}{b:Nat}{p:Prd}{vr vl vh:Value}(h:Lsts w0 w p vr vl vh)(hx:Ext w W)(hb:w.heap.size≤b)(h3:Exr b W W'):Lsts w0 W' p vr vl vh :=
 h.low fun g _ hg=>(h3.block g (Nat.lt_of_lt_of_le hg hx.size) (by omega)).trans (hx.below.block g hg)
structure Byt (w0 w:World)(g:Nat)(l:List UInt8):Prop where
 ext:Ext w0 w
 lo:w0.heap.size≤g
 row:∃ c t a b,w.heap[g]?=some (.cells c t (a,b))∧l.length≤a∧∀ (k:Nat) (u:UInt8),l[k]?=some u→c[k]?=some (.int .u8 (u.toNat:Int))
theorem Byt.on {w0 w w':World}{g:Nat}{l:List UInt8}(h:Byt w0 w g l)(hx:Ext w w'):Byt w0 w' g l:=by
 obtain⟨c,t,a,b,h1,h2,h3⟩:=h.row
 exact⟨h.ext.trans hx,h.lo,c,t,a,b,(hx.below.block g (Array.getElem?_eq_some_iff.1 h1).1).trans h1,h2,h3⟩
theorem Byt.exr {w0 w w':World}{g b:Nat}{l:List UInt8}(h:Byt w0 w g l)(hx:Exr b w w')(hb:g≠b)(hl:w0.heap.size≤b):Byt w0 w' g l:=by
 obtain⟨c,t,x,y,h1,h2,h3⟩:=h.row
 exact⟨hx.ext h.ext hl,h.lo,c,t,x,y,(hx.block g (Array.getElem?_eq_some_iff.1 h1).1 hb).trans h1,h2,h3⟩
theorem Byt.cell {w0 w:World}{g:Nat}{l:List UInt8}(h:Byt w0 w g l){k:Nat}{u:UInt8}(hk:l[k]?=some u):w.cell? ⟨g,k,none⟩=some (.int .u8 (u.toNat:Int)):=by
 obtain⟨c,t,x,y,h1,h2,h3⟩:=h.row
 unfold World.cell?
 simp [h1,h3 k u hk]
theorem Byt.thaw {w0 w:World}{g:Nat}{l:List UInt8}(h:Byt w0 w g l){k:Nat}(hk:k<l.length):w.frozen? ⟨g,k,none⟩=false:=by
 obtain⟨c,t,x,y,h1,h2,h3⟩:=h.row
 unfold World.frozen?
 rw [h1]
 simp
 omega
theorem Byt.put {w0 w:World}{g:Nat}{l:List UInt8}(h:Byt w0 w g l)(k:Nat)(u:UInt8):Byt w0 (w.setCell ⟨g,k,none⟩ (.int .u8 (u.toNat:Int))) g (l.set k u):=by
 obtain⟨c,t,x,y,h1,h2,h3⟩:=h.row
 refine⟨h.ext.setCell h.lo _,h.lo,c.setIfInBounds k (.int .u8 (u.toNat:Int)),t,x,y,?_,by rw [List.length_set];exact h2,fun j v hj=>?_⟩
 ·unfold World.setCell
  simp [Array.getElem?_modify,h1]
 ·rw [List.getElem?_set] at hj
  rw [Array.getElem?_setIfInBounds]
  split at hj
  ·rename_i e
   subst e
   split at hj
   ·rename_i hkl
    obtain rfl:u=v:=by simpa using hj
    have:=(Array.getElem?_eq_some_iff.1 (h3 k _ (List.getElem?_eq_getElem hkl))).1
    simp [this]
   ·cases hj
  ·rename_i e
   simp [e,h3 j v hj]
theorem Byt.text {w0 w:World}{g:Nat}{l:List UInt8}(h:Byt w0 w g l)(c n:Nat)(hn:n=l.length):(convert 36 9 (.slice (some ⟨g,0,none⟩) n c)).run Tryz.prog w=.ok (.string ⟨l.toArray⟩) w:=by
 subst hn
 exact run_convert_bytes_back (P:=Tryz.prog) w 36 9 5 ⟨g,0,none⟩ c l Tryz.underlying36 Tryz.underlying5 Tryz.underlying9 (fun j hj=>by
  have e:(⟨g,0,none⟩:Addr).add j=⟨g,j,none⟩:=by unfold Addr.add;split <;> simp_all
  rw [e]
  exact h.cell (List.getElem?_eq_getElem hj))
theorem byt_of (w:World)(l:List UInt8):Byt w (Lib.bytesWorld w 5 ⟨l.toArray⟩) w.heap.size l:=by
 refine⟨⟨⟨rfl,rfl,rfl,by rw [Lib.bytesWorld_size];omega,fun k hk=>Lib.bytesWorld_at_old w _ _ k hk⟩⟩,Nat.le_refl _,_,_,_,_,Lib.bytesWorld_at_new w 5 ⟨l.toArray⟩,?_,fun k u hk=>?_⟩
 ·simp [Lib.bytesCells]
 ·have hlt:=(List.getElem?_eq_some_iff.1 hk).1
  unfold Lib.bytesCells
  rw [Array.getElem?_append_left (by simpa using hlt)]
  simp [hk]
theorem xor_is (c:UInt8)(y:Int):∃ d:UInt8,bits .xor .u8 (c.toNat:Int) y=(d.toNat:Int):=by
 have h:∃ n:Int,bits .xor .u8 (c.toNat:Int) y=IntKind.u8.wrap n:=⟨_,rfl⟩
 obtain⟨n,hn⟩:=h
 rw [IntKind.wrap_u8] at hn
 refine⟨UInt8.ofNat (n % 256).toNat,hn.trans ?_⟩
 rw [UInt8.toNat_ofNat']
 omega
theorem rem_nat (x:Int)(m:Nat)(hm:0<m)(hM:m≤20000):∃ k:Nat,(IntKind.u64.wrap x).tmod (m:Int)=(k:Int)∧k<m:=by
 obtain⟨R,e,h0,h1,_,_⟩:=rem_is x (m:Int) (by omega) (by omega)
 exact⟨R.toNat,by rw [e];omega,by omega⟩
def Ansd (X:Res Prd)(w0 w:World)(cs:Array Value)(x y:Nat):Prop :=
 match X with
 | .ok p=>x=0∧y=0∧∃ vr vl vh,cs=pcells p vr vl vh∧Lsts w0 w p vr vl vh
 | .no a b=>x=a∧y=b∧cs=zP
theorem ans_d {X:Res Prd}{e:Ending}{w w':World}(h:Ans w X e w'):∃ (cs:Array Value) (x y:Nat),e=.returned (.tuple #[.agg cs,.int .i64 (y:Int),.int .i64 (x:Int)])∧cs.size=19∧cs.all (·.oneCell')=true∧Ext w w'∧Ansd X w w' cs x y:=by
 obtain⟨hx,h⟩:=h
 cases X with
 | ok p =>
  obtain⟨vr,vl,vh,e,hL⟩:=h
  exact⟨_,0,0,e,rfl,pcells_one (p:=p) hL.sr hL.sl hL.sh,hx,rfl,rfl,vr,vl,vh,rfl,hL⟩
 | no a b=>exact ⟨zP,a,b,h,zP_ok.1,zP_ok.2,hx,rfl,rfl,rfl⟩
theorem Ansd.past {X:Res Prd}{w0 w W W':World}{cs:Array Value}{x y b:Nat}(h:Ansd X w0 w cs x y)(hx:Ext w W)(hb:w.heap.size≤b)(h3:Exr b W W'):Ansd X w0 W' cs x y:=by
 cases X with
 | ok p=>obtain ⟨h1,h2,vr,vl,vh,e,hL⟩:=h;exact ⟨h1,h2,vr,vl,vh,e,lsts_past hL hx hb h3⟩
 | no a b=>exact h
theorem Ansd.ext {X:Res Prd}{w0 w W:World}{cs:Array Value}{x y:Nat}(h:Ansd X w0 w cs x y)(hx:Ext w W):Ansd X w0 W cs x y:=by
 cases X with
 | ok p=>obtain ⟨h1,h2,vr,vl,vh,e,hL⟩:=h;exact ⟨h1,h2,vr,vl,vh,e,hL.ext hx⟩
 | no a b=>exact h
theorem prod_d {l:List UInt8}{w1 w2 W:World}{cs ds:Array Value}{x y z u:Nat}(h:Ansd (prs l) w1 W cs x y)(k:Ansd (prs l) w2 W ds z u):x=z∧y=u∧Calls Tryz.prog 9 #[.agg cs,.agg ds] W fun e w'=>e=.returned (.bool true)∧Ext W w':=by
 cases hp:prs l with
 | ok p =>
  rw [hp] at h k
  obtain⟨rfl,rfl,vr,vl,vh,rfl,hL⟩:=h
  obtain⟨rfl,rfl,ur,ul,uh,rfl,hM⟩:=k
  exact⟨rfl,rfl,Prod_c p vr vl vh ur ul uh _ (prs_few hp) (slp_own hL.sr) (slp_own hL.sl) (slc_own hL.sh) (slp_own hM.sr) (slp_own hM.sl) (slc_own hM.sh)⟩
 | no a b =>
  rw [hp] at h k
  obtain⟨rfl,rfl,rfl⟩:=h
  obtain⟨rfl,rfl,rfl⟩:=k
  exact⟨rfl,rfl,Prod_z W⟩
theorem cut_x (p:Prd)(vr vl vh:Value)(at_ by_:Int)(w:World)(he:Hid (Env w))(h0:p.nm.length≤9223372036854775807)(h1:p.rs.length≤9223372036854775807)(h2:p.lt.length≤9223372036854775807)(h3:p.hd.length≤9223372036854775807)(sr:L8.Slp w vr p.rs)(sl:L8.Slp w vl p.lt)(sh:L8.Slc w vh p.hd) :
  Calls Tryz.prog 3 #[.agg (pcells p vr vl vh),.int .i64 at_,.int .u8 by_] w fun e w'=>e=.returned (.bool true)∧Ext w w':=by
 have hone:=pcells_slp sr sl sh
 have hbox:=box_prod p vr vl vh hone
 obtain⟨W1,b,hW1,hb,hx1,hB1⟩:∃ W b,w.alloc (.cells (pcells p vr vl vh) 27)=W∧w.heap.size=b∧Ext w W∧Blk W b (pcells p vr vl vh):=⟨_,_,rfl,rfl,(Ext.refl w).alloc _ _,heap_alloc_last w _⟩
 have hsz:(pcells p vr vl vh).size=19:=rfl
 replace sr:L8.Slp W1 vr p.rs:=sr.ext hx1
 replace sl:L8.Slp W1 vl p.lt:=sl.ext hx1
 replace sh:L8.Slc W1 vh p.hd:=sh.ext hx1
 have hpl:=hid <| Play_c p vr vl vh W1 h0 h1 h2 h3 sr sl sh
 replace hx1:=hid hx1
 clear sr sl sh h0 h1 h2 h3 hone
 go_enter Tryz.func3,Tryz.ntmps3
 go_wp2_with (refine load27 hB1 hsz rfl rfl rfl ?_)
 refine Calls.mono hpl.out ?_
 rintro e w2 ⟨hx2,q,ur,ul,uh,rfl,sr,sl,sh,hn,hf⟩
 clear hpl hbox hB1 hW1 hb hsz
 have hpr:=hid <| Print_p q ur ul uh w2 (he.out.ext (hx1.out.trans hx2)) hn hf (sr.ext hx2) (sl.ext hx2) (sh.ext hx2)
 replace hx1:Hid (Ext w w2):=hx1.out.trans hx2
 clear sr sl sh hn hf hx2
 go_wp2_with fail
 refine Calls.mono hpr.out ?_
 rintro e w3 ⟨hx3,hA⟩
 replace hx1:Hid (Ext w w3):=hx1.out.trans hx3
 have he3:Hid (Env w3):=he.out.ext hx1.out
 clear hpr hx3
 rcases hA with ⟨_,rfl⟩ | ⟨_,S,hS,hSl,rfl⟩
 ·go_wp2_with fail
  refine (awake_c _ he3).mono ?_
  rintro e w4 ⟨rfl,hx4⟩
  replace hx1:Hid (Ext w w4):=hx1.out.trans hx4
  clear hx4 he3
  go_wp2
  go_ret
  exact⟨rfl,hx1.out⟩
 obtain⟨T,hT⟩:∃ T,S++[125,10]=T:=⟨_,rfl⟩
 rw [hT]
 have hTl:T.length=S.length+2:=by rw [←hT,List.length_append];rfl
 have hS0:0<S.length:=by
  obtain⟨a,e⟩:=hS.fin
  rw [e,List.length_append]
  simp
 obtain⟨k,hk,hkS⟩:=rem_nat at_ S.length hS0 (by omega)
 have htk:T.take k=S.take k:=by rw [←hT,List.take_append_of_le_length (by omega)]
 obtain⟨y,hy,hyk⟩:=body_cut hS.body k (by omega)
 rw [←htk] at hy
 obtain⟨c,hc⟩:∃ c,T[k]?=some c:=⟨_,List.getElem?_eq_getElem (by omega)⟩
 obtain⟨d,hd⟩:=xor_is c by_
 have hTm:(T.length:Int)-2=(S.length:Int):=by omega
 have hM0:¬ (S.length:Int)=0:=by omega
 have hM1:((S.length:Int)==0)=false:=by rw [beq_eq_false_iff_ne];omega
 have hkw:IntKind.i64.wrap (k:Int)=(k:Int):=by rw [IntKind.wrap_i64];omega
 have hk0:(0:Int)≤(k:Int):=by omega
 have hkT:k<T.length:=by omega
 have hkTI:(k:Int)<(T.length:Int):=by omega
 have hkI:¬ (k:Int)<0:=by omega
 have hkJ:¬ (T.length:Int)<(k:Int):=by omega
 have hTs:T.length≤20005:=by omega
 have hex:(⟨T.toArray⟩:ByteArray).extract 0 k=⟨(T.take k).toArray⟩:=by rw [Lib.extract_mk];simp
 have hyk2:(y:Int)≤(k:Int):=by omega
 have hMw:IntKind.u64.wrap (S.length:Int)=(S.length:Int):=by rw [IntKind.wrap_u64];omega
 replace hT:=hid hT
 replace hTl:=hid hTl
 replace hy:=hid hy
 replace hS:=hid hS
 replace hc:=hid hc
 replace htk:=hid htk
 go_wp2_with fail
 refine (Parse_c (T.take k) w3 (by rw [List.length_take];omega) he3).mono ?_
 rintro e w4 ⟨hx,hA⟩
 rw [hy.out] at hA
 obtain rfl:e=.returned (.tuple #[.agg zP,.int .i64 y,.int .i64 7]):=hA
 have hz1:=zP_ok.1
 have hz2:=zP_ok.2
 obtain⟨W5,a,hW5,ha,hx5,hB5⟩:=layZ w4
 have hla:w3.heap.size≤a:=by rw [←ha];exact hx.size
 replace hx:Ext w3 W5:=hx.trans hx5
 go_wp2_with (refine store27 hB5 rfl hz1 hz2 rfl rfl rfl rfl ?_)
 intro W6 hB6 hx6
 have hx7:Hid (Ext w3 W6):=hx6.ext hx hla
 replace hB6:Hid (Blk W6 a zP):=hB6
 replace hx1:Hid (Ext w W6):=hx1.out.trans hx7.out
 clear hW5 ha hx5 hB5 hla hx hx6 hx7 he3
 go_upto_region 6 with fail
 have hcv:=fun W=>Lib.run_convert_string_bytes (P:=Tryz.prog) W 9 36 5 ⟨T.toArray⟩ Tryz.underlying9 Tryz.underlying36 Tryz.underlying5
 have hbs:(⟨T.toArray⟩:ByteArray).size=T.length:=Lib.size_mk T
 go_cut [13] from 45 to 46 (fun x wx=>∃ g n,x=.slice (some ⟨g,0,none⟩) T.length n∧Hid (Byt W6 wx g T))
 case first =>
  go_wp2
  go_meet
  exact⟨_,_,rfl,byt_of W6 T⟩
 case rest =>
 obtain⟨g,n,rfl,hY⟩:=hcut
 clear hcv hbs
 have cg:=hY.out.cell hc.out
 have zg:=hY.out.thaw hkT
 go_upto_region 8 with fail
 replace hY:=hid <| hY.out.put k d
 obtain⟨wd,hwd⟩:∃ W,wc.setCell ⟨g,k,none⟩ (.int .u8 (d.toNat:Int))=W:=⟨_,rfl⟩
 rw [hwd] at hY ⊢
 clear cg zg hwd hd hc
 obtain⟨U,hU⟩:∃ U,T.set k d=U:=⟨_,rfl⟩
 rw [hU] at hY
 have hUl:T.length=U.length:=by rw [←hU,List.length_set]
 clear hU
 have hed:Hid (Env wd):=he.out.ext (hx1.out.trans hY.out.ext)
 have htx:=hY.out.text n T.length hUl
 replace hUl:=hid hUl
 go_wp2_with fail
 refine (Parse_c U wd (by have:=hUl.out;omega) hed).mono ?_
 rintro e w7 hA
 obtain⟨cs,x,v,rfl,hs1,hs2,hx7,hA⟩:=ans_d hA
 obtain⟨W8,m,hW8,hm,hx8,hB8⟩:=layZ w7
 have hmg:g≠m:=by
  obtain⟨_,_,_,_,h,_⟩:=hY.out.row
  have:=(Array.getElem?_eq_some_iff.1 h).1
  have:=hx7.size
  omega
 have hmw:wd.heap.size≤m:=by rw [←hm];exact hx7.size
 have hY8:=hY.out.on (hx7.trans hx8)
 have hm6:W6.heap.size≤m:=by have:=hY.out.ext.size;omega
 clear htx hed
 go_wp2_with (refine store27 hB8 rfl hs1 hs2 rfl rfl rfl rfl ?_)
 intro W9 hB9 hx9
 replace hY:Hid (Byt W6 W9 g U):=hY8.exr hx9 hmg hm6
 replace hA:Hid (Ansd (prs U) wd W9 cs x v):=hA.past hx8 (by omega) hx9
 replace hB9:Hid (Blk W9 m cs):=hB9
 replace hs1:=hid hs1
 clear hx7 hW8 hx8 hB8 hmg hmw hY8 hm6 hx9 hm hs2
 have he9:Hid (Env W9):=he.out.ext (hx1.out.trans hY.out.ext)
 have htx:=hY.out.text n T.length hUl.out
 go_wp2_with fail
 refine (ParseD_c U W9 (by have:=hUl.out;omega) he9).mono ?_
 rintro e w10 hD
 obtain⟨ds,z,u,rfl,ht1,ht2,hx10,hD⟩:=ans_d hD
 obtain⟨W11,r,hW11,hr,hx11,hB11⟩:=layZ w10
 have hr9:W9.heap.size≤r:=by rw [←hr];exact hx10.size
 have hmr:m≠r:=by have:=(Array.getElem?_eq_some_iff.1 hB9.out).1;omega
 have har:a≠r:=by have:=(Array.getElem?_eq_some_iff.1 (hB6.out.ext hY.out.ext)).1;omega
 clear htx he9
 go_wp2_with (refine store27 hB11 rfl ht1 ht2 rfl rfl rfl rfl ?_)
 intro W12 hB12 hx12
 have hxx:=hx12.ext (hx10.trans hx11) hr9
 replace hD:Ansd (prs U) W9 W12 ds z u:=hD.past hx11 (by omega) hx12
 replace hA:Ansd (prs U) wd W12 cs x v:=hA.out.past (hx10.trans hx11) hr9 hx12
 have hM12:Hid (Blk W12 m cs):=(hB9.out.ext (hx10.trans hx11)).exr hx12 hmr
 have hA12:Hid (Blk W12 a zP):=((hB6.out.ext hY.out.ext).ext (hx10.trans hx11)).exr hx12 har
 replace hB12:Hid (Blk W12 r ds):=hB12
 replace hx1:Hid (Ext w W12):=(hx1.out.trans hY.out.ext).trans hxx
 replace hA:Hid (Ansd (prs U) wd W12 cs x v):=hA
 replace hD:Hid (Ansd (prs U) W9 W12 ds z u):=hD
 replace ht1:=hid ht1
 have he12:Hid (Env W12):=he.out.ext hx1.out
 clear hx10 hW11 hr hx11 hB11 hr9 hmr har hx12 hxx ht2 hB6 hB9 hY
 go_wp2_with fail
 refine (awake_c _ he12).mono ?_
 rintro e w13 ⟨rfl,hx13⟩
 have hA13:=hA12.out.ext hx13
 replace hx1:Hid (Ext w w13):=hx1.out.trans hx13
 go_wp2_with (refine load27 hA13 hz1 rfl rfl rfl ?_)
 refine (prod_no _).mono ?_
 rintro e w14 ⟨rfl,hx14⟩
 have hxx:=hx13.trans hx14
 have hM14:=hM12.out.ext hxx
 have hR14:=hB12.out.ext hxx
 obtain⟨rfl,rfl,hpd⟩:=prod_d (hA.out.ext hxx) (hD.out.ext hxx)
 replace hx1:Hid (Ext w w14):=hx1.out.trans hx14
 replace hpd:=hid hpd
 have hs1':=hs1.out
 have ht1':=ht1.out
 clear hA13 hx13 hx14 hxx hA hD hA12 hM12 hB12 he12
 go_wp2_with (first | refine load27 hM14 hs1' rfl rfl rfl ?_ | refine load27 hR14 ht1' rfl rfl rfl ?_)
 refine Calls.mono hpd.out ?_
 rintro e w15 ⟨rfl,hx15⟩
 replace hx1:Hid (Ext w w15):=hx1.out.trans hx15
 clear hM14 hR14 hx15
 go_wp2
 go_ret
 exact⟨rfl,hx1.out⟩
theorem walk (nm:List UInt8)(cn rd kd ev tm gr rt:Int)(vr:Value)(rs:List (Int×Int))(pn o0 o1 o2 o3 ov:Int)(vl:Value)(lt:List (Int×Int))(cp rl:Int)(vh:Value)(hd:List Int)(hp:L8.Fits nm rs lt hd)(a1:Int)(w1:(Lit.int .i64 a1).wf=true)(a2:Int)(w2:(Lit.int .u8 a2).wf=true)(w:World)(he:Env w)(sr:L8.Slp w vr rs)(sl:L8.Slp w vl lt)(sh:L8.Slc w vh hd) :
  Calls Tryz.prog 3 #[.agg #[.string ⟨nm.toArray⟩,.int .i64 cn,.int .i64 rd,.int .i64 kd,.int .i64 ev,.int .i64 tm,.int .i64 gr,.int .i64 rt,vr,.int .i64 pn,.int .i64 o0,.int .i64 o1,.int .i64 o2,.int .i64 o3,.int .i64 ov,vl,.int .i64 cp,.int .i64 rl,vh],.int .i64 a1,.int .u8 a2] w fun e w'=>e=.returned (.bool true)∧Ext w w':=by
 replace he:Hid (Env w):=he
 have m0:=hp.nm;have m1:=hp.rs;have m2:=hp.lt;have m3:=hp.hd
 unfold maxLen at m0 m1 m2 m3
 exact cut_x ⟨nm,cn,rd,kd,ev,tm,gr,rt,rs,pn,o0,o1,o2,o3,ov,lt,cp,rl,hd⟩ vr vl vh a1 a2 w he m0 m1 m2 m3 sr sl sh
theorem lifted (os:Os)(started:os.Started)(H:Type)(enc:TypeId×Value→H) :
  ReturnsInHanded {} Tryz.checked os 3 .any (fun w args=>(Rows.grammarCutSpec.pre enc Tryz.prog Tryz.f3 [] false w args∧laidMetH Tryz.prog laid w)∧sizedMet enc Tryz.prog Tryz.f3 (OpenSpec.ofChange Rows.grammarCutSpec) false w args)
   (Rows.grammarCutSpec.post enc Tryz.prog Tryz.f3 false true false false):=by
 refine wrap started (by kernel_rfl) Tryz.func3
  (ChangeSpec.witness_shaped (enc:=enc) (C:=Tryz.checked) (os:=os) (X:=fun w _=>laidMetH Tryz.prog laid w) false (World.laidAll Tryz.prog os laid) #[.agg #[.string ⟨#[]⟩,.int .i64 0,.int .i64 0,.int .i64 0,.int .i64 0,.int .i64 0,.int .i64 0,.int .i64 0,.slice none 0 0,.int .i64 0,.int .i64 0,.int .i64 0,.int .i64 0,.int .i64 0,.int .i64 0,.slice none 0 0,.int .i64 0,.int .i64 0,.slice none 0 0],.int .i64 0,.int .u8 0] 8 (World.laidAll_os _ _ _)
   (World.shaped_of_ZipB (by kernel_rfl) (by kernel_rfl)) (by kernel_rfl) (by kernel_rfl) (by kernel_rfl)
   (by rw [MakeChecks.laidMetH_plain _ _ _ (by kernel_rfl)];exact laidMet_laidAll _ (by kernel_rfl) (by kernel_rfl))) ?_
 intro W base args ds gs before hval0 hW hE
 have hval:∀ (j:Nat) t v,Tryz.f3.params[j]?=some t→args[j]?=some v→Value.okWide Tryz.prog W .any base t v:=hval0
 have hW':=hW
 obtain⟨p,q,hA0,hV,rfl,_,_⟩:=hW
 have hA:DataW.TrodAll enc Tryz.prog W 0 (fun _=>true) true Tryz.f3.params.toList args.toList ds p:=hA0
 rw [Tryz.params3] at hA hval
 obtain⟨v0,vs0,d0,ds0,p0,q0,hargs,rfl,rfl,h0,r0⟩:=trodAll_cons hA
 obtain⟨v1,vs1,d1,ds1,p1,q1,rfl,rfl,rfl,h1,r1⟩:=trodAll_cons r0
 obtain⟨v2,vs2,d2,ds2,p2,q2,rfl,rfl,rfl,h2,r2⟩:=trodAll_cons r1
 obtain⟨rfl,rfl,rfl⟩:=trodAll_nil r2
 obtain rfl:args = #[v0,v1,v2]:=by cases args;simp_all
 obtain⟨rfl,rfl⟩:=trodVars_none hV
 obtain⟨nm,cn,rd,kd,ev,tm,gr,rt,vr,rs,pn,o0,o1,o2,o3,ov,vl,lt,cp,rl,vh,hd,rfl,hp,sr,sl,sh,t0⟩:=L8.open_prod (hval 0 27 v0 rfl rfl) h0
 obtain⟨a1,rfl,rfl,rfl,w1⟩:=open_int Tryz.underlying3 (hval 1 3 v1 rfl rfl) h1
 obtain⟨a2,rfl,rfl,rfl,w2⟩:=open_int Tryz.underlying5 (hval 2 5 v2 rfl rfl) h2
 clear hA0 hval0
 simp only [List.append_nil] at hW'
 refine (walk nm cn rd kd ev tm gr rt vr rs pn o0 o1 o2 o3 ov vl lt cp rl vh hd hp a1 w1 a2 w2 W hE sr sl sh).mono fun e W' ⟨he,hb⟩=>?_
 subst he
 exact⟨_,rfl,_,_,_,[],_,[],hW',(trodAll_cons_mk (shut_bool Tryz.underlying4 _) trodAll_mk0),(trodAll_cons_mk (t0 _ hb) (trodAll_cons_mk (shut_int Tryz.underlying3 w1) (trodAll_cons_mk (shut_int Tryz.underlying5 w2) trodAll_mk0))),rfl,hb.below.frame _,fun h=>by cases h⟩
theorem over:Rows.grammarCutRow.holds Tryz.pinned (OpenSpec.ofChange Rows.grammarCutSpec) :=
 OpenClaim.holds_of_wide 3 Tryz.f3 rfl rfl rfl rfl rfl rfl rfl ⟨rfl,rfl,rfl,rfl,rfl⟩ rfl rfl rfl rfl rfl (by kernel_rfl) Tryz.func3 (by kernel_rfl)
  (of_decide_eq_true (by kernel_rfl)) (by unfold Func.isWrapper;first | (rw [if_pos (by decide +kernel)];kernel_rfl) | (rw [if_neg (by decide +kernel)];exact ⟨rfl,rfl⟩))
  (fun os started H enc _=>lifted os started H enc)
end Go.Proofs.YtcijdkbopiaicaaGreatDoor.grammarCut
namespace Go.Proofs.YtcijdkbopiaicaaGreatDoor
theorem grammarCut_holds:Rows.GrammarCutCardSaid :=
 Claim7.holds_tied_plain_at .later [] [.data,.data,.data,.data,.sentinel,.sentinel,.data,.pinned] true (true, "fb2223f78f776d987474a3cd5c8c1abc89c1f9df869dbdbbcad5aac8c0a7d2a8") true grammarCut.over (fun _ h=>by cases h) (by kernel_rfl) (fun _ h=>by cases h) grammarCut_row_tie rfl ⟨rfl,rfl⟩ (by kernel_rfl) rfl
  (fun f fn hf hfn=>by
   obtain rfl:f=3:=Option.some.inj ((show Tryz.prog.funcNamed "quittance/quittancelaw09.GrammarCut"=some 3 by kernel_rfl).symm.trans hf) |>.symm
   obtain rfl:fn=Tryz.f3:=(Option.some.inj (Tryz.func3.symm.trans hfn)).symm
   exact⟨by kernel_rfl,fun j t ht=>by
    rw [Tryz.params3] at ht
    have hm:t∈[27,3,5]:=by simpa using Array.mem_of_getElem? ht
    have hall:([27,3,5].all fun u=>!Tryz.prog.wantsStandIn u)=true:=by kernel_rfl
    exact (show Tryz.prog.wantsStandIn t=false by simpa using List.all_eq_true.1 hall t hm)⟩)
  (by kernel_rfl)
#print axioms grammarCut_holds
end Go.Proofs.YtcijdkbopiaicaaGreatDoor
