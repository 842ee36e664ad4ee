/- Contracts that the proof of this law leans on: no statement of the seat is proved here. -/
import Derived.Laws.EntriesVeiled
import Derived.StillTailTactics
import Derived.Test.YtlbodoggfbdnjaaGreatDoorO8
set_option linter.unusedVariables false
set_option maxRecDepth 100000
set_option maxHeartbeats 8000000
namespace Go.Proofs.YtlbodoggfbdnjaaGreatDoor
open Go.RowKit Go.Lib
theorem zero_opt (w:World):(zeroValue 137).run Tryz.prog w=.ok (.agg #[.string ⟨#[]⟩,.int .i64 0]) w:=by kernel_rfl
theorem clear_one (w:World)(ty:TypeId)(b o c:Nat)(u v:Value)(c0:w.cell? ⟨b,o,none⟩=some u)(c1:w.cell? ⟨b,o+1,none⟩=some v)(z0:w.frozen? ⟨b,o,none⟩=false)(z1:w.frozen? ⟨b,o+1,none⟩=false) :
  (Builtin.clear_ #[142] ty #[.slice (some ⟨b,o,none⟩) 1 c]).run Tryz.prog w=.ok (.tuple #[]) ((w.setCell ⟨b,o,none⟩ (.string ⟨#[]⟩)).setCell ⟨b,o+1,none⟩ (.int .i64 0)):=by
 have hst:=run_storeCells_cells (P:=Tryz.prog) b o [.string ⟨#[]⟩,.int .i64 0] 0 w (fun j hj=>by
  match j,hj with
  | 0,_=>simp [c0]
  | 1,_=>simp [c1]) (fun j hj=>by
  match j,hj with
  | 0,_=>exact z0
  | 1,_=>exact z1) (by intro v hv;simp at hv;rcases hv with rfl | rfl <;> rfl)
 simp only [Nat.add_zero] at hst
 have hzc:(Builtin.zeroCells (Value.agg #[.string ⟨#[]⟩,.int .i64 0]).cells 1).toList = [.string ⟨#[]⟩,.int .i64 0]:=by kernel_rfl
 have hz:(zeroValue 137).run Tryz.prog w=.ok (.agg #[.string ⟨#[]⟩,.int .i64 0]) w:=zero_opt w
 simp [Builtin.clear_,run_underlying Tryz.underlying142,hz,hzc,hst]
 rfl
theorem order1_c (s:List UInt8)(x v:Int)(b:Nat)(w:World)(hb:w.cell? ⟨b,0,none⟩=some (.int .i64 v)) :
  Calls Tryz.prog 122 #[.agg #[.string ⟨s.toArray⟩,.int .i64 x],.pointer (some ⟨b,0,none⟩)] w fun e w'=>e=.returned (.bool (x==v))∧Ext w w':=by
 have hlt:=lt_of_cell hb
 obtain⟨B,hB⟩:∃ B,(x==v)=B:=⟨_,rfl⟩
 rw [hB]
 go_enter Tryz.func122,Tryz.ntmps122
 go_wp2
 go_ret
 exact⟨rfl,(Ext.refl _).alloc _ _⟩
theorem idxV_c (g c b i:Nat)(o:Opts)(s0:List UInt8)(v:Int)(w:World)(hn:o.length≤100)(hg:Opt w g o)(hb:w.cell? ⟨b,0,none⟩=some (.int .i64 v))(hi:o[i]?=some (s0,v))(hno:∀ j s x,j<i→o[j]?=some (s,x)→x≠v) :
  Calls Tryz.prog 152 #[.slice (some ⟨g,0,none⟩) o.length c,.func (.func 122) #[] #[.pointer (some ⟨b,0,none⟩)]] w fun e w'=>e=.returned (.int .i64 i)∧Ext w w':=by
 have hil:i<o.length:=(List.getElem?_eq_some_iff.1 hi).1
 replace hg:=hid hg
 replace hb:=hid hb
 replace hi:=hid hi
 replace hno:=hid hno
 go_enter Tryz.func152,Tryz.ntmps152
 go_wp2
 go_loopw [8] (fun q wr=>∃ k:Nat,k≤i∧q=.int .i64 k∧Hid (Ext w wr)) (fun q _=>i-(RowKit.intOf q).toNat)
 case atStart=>exact ⟨0,Nat.zero_le _,rfl,Ext.refl w⟩
 case round =>
  obtain⟨k,hk,rfl,hx⟩:=hrel
  have hlt:k<o.length:=by omega
  obtain⟨s,x,hsv⟩:∃ s v,o[k]?=some (s,v):=⟨o[k].1,o[k].2,by rw [List.getElem?_eq_getElem hlt]⟩
  have c0:=hx.out.cell_of (hg.out.on k s x hsv).1
  have c1:=hx.out.cell_of (hg.out.on k s x hsv).2
  have hb1:Hid (wr.cell? ⟨b,0,none⟩=some (.int .i64 v)):=hx.out.cell_of hb.out
  by_cases hq:k=i
  ·subst hq
   obtain⟨rfl,rfl⟩:s=s0∧x=v:=by have:=hsv.symm.trans hi.out;simpa using this
   replace hsv:=hid hsv
   go_wp2_with (go_at_call 122;refine (order1_c _ _ _ _ _ hb1.out).mono ?_;rintro e w1 ⟨rfl,hx1⟩;replace hx1:=hid hx1)
   go_ret
   exact⟨rfl,hx.out.trans hx1.out⟩
  ·have hq2:(x==v)=false:=by simpa using hno.out k s x (by omega) hsv
   replace hsv:=hid hsv
   go_wp2_with (go_at_call 122;refine (order1_c _ _ _ _ _ hb1.out).mono ?_;rintro e w1 ⟨rfl,hx1⟩;replace hx1:=hid hx1)
   go_roundw
   case rel=>exact ⟨k+1,by omega,by go_num,hx.out.trans hx1.out⟩
   case measure=>simp [RowKit.intOf];omega
theorem del40 (g b:Nat)(s0 s1 s2 s3:List UInt8)(v1 v2 v3 v:Int)(w:World)(hb:w.cell? ⟨b,0,none⟩=some (.int .i64 v))(hg:w.heap[g]?=some (.cells #[.string ⟨s0.toArray⟩,.int .i64 v,.string ⟨s1.toArray⟩,.int .i64 v1,.string ⟨s2.toArray⟩,.int .i64 v2,.string ⟨s3.toArray⟩,.int .i64 v3] 137 (0,0)))(n1:(v1==v)=false)(n2:(v2==v)=false)(n3:(v3==v)=false) :
  Calls Tryz.prog 121 #[.slice (some ⟨g,0,none⟩) 4 4,.func (.func 122) #[] #[.pointer (some ⟨b,0,none⟩)]] w fun e w'=>e=.returned (.slice (some ⟨g,0,none⟩) 3 4)∧w'.heap[g]?=some (.cells #[.string ⟨s1.toArray⟩,.int .i64 v1,.string ⟨s2.toArray⟩,.int .i64 v2,.string ⟨s3.toArray⟩,.int .i64 v3,.string ⟨#[]⟩,.int .i64 0] 137 (0,0))∧Exr g w w':=by
 have hbg:b≠g:=by
  rintro rfl
  have:=(cell_of_row w b 0 _ _ _ hg).symm.trans hb
  simp at this
 have hbl:=lt_of_cell hb
 have hgl:=(Array.getElem?_eq_some_iff.1 hg).1
 have ho:Hid (Opt w g [(s0,v),(s1,v1),(s2,v2),(s3,v3)]):=⟨fun k u x hk=>by
  match k,hk with
  | 0,e =>
   obtain⟨rfl,rfl⟩:s0=u∧v=x:=by simpa using e
   exact⟨(cell_of_row w g 0 _ _ _ hg).trans rfl,(cell_of_row w g 1 _ _ _ hg).trans rfl⟩
  | 1,e =>
   obtain⟨rfl,rfl⟩:s1=u∧v1=x:=by simpa using e
   exact⟨(cell_of_row w g 2 _ _ _ hg).trans rfl,(cell_of_row w g 3 _ _ _ hg).trans rfl⟩
  | 2,e =>
   obtain⟨rfl,rfl⟩:s2=u∧v2=x:=by simpa using e
   exact⟨(cell_of_row w g 4 _ _ _ hg).trans rfl,(cell_of_row w g 5 _ _ _ hg).trans rfl⟩
  | 3,e =>
   obtain⟨rfl,rfl⟩:s3=u∧v3=x:=by simpa using e
   exact⟨(cell_of_row w g 6 _ _ _ hg).trans rfl,(cell_of_row w g 7 _ _ _ hg).trans rfl⟩
  | k+4,e=>simp at e⟩
 replace hg:=hid hg
 replace hb:=hid hb
 go_enter Tryz.func121,Tryz.ntmps121
 go_wp2_with fail
 refine (idxV_c g 4 b 0 [(s0,v),(s1,v1),(s2,v2),(s3,v3)] s0 v _ (by simp) ho.out hb.out rfl ?_).mono ?_
 ·intro j u x hj hk
  omega
 rintro e w1 ⟨rfl,hx⟩
 clear ho
 replace hg:=hid <| (hx.below.block g hgl).trans hg.out
 replace hb:=hid <| hx.cell_of hb.out
 have hX:Hid (Exr g w w1):=.of hx
 clear hx hgl hbl
 go_wp2_with fail
 refine wp_loop_rounds 4 ?_
 have z0:=frozen_of_row w1 g 0 _ _ hg.out
 have c0:=(cell_of_row w1 g 0 _ _ _ hg.out).trans (show _=some (.string ⟨s0.toArray⟩) from rfl)
 have z1:=frozen_of_row w1 g 1 _ _ hg.out
 have c1:=(cell_of_row w1 g 1 _ _ _ hg.out).trans (show _=some (.int .i64 v) from rfl)
 have z2:=frozen_of_row w1 g 2 _ _ hg.out
 have c2:=(cell_of_row w1 g 2 _ _ _ hg.out).trans (show _=some (.string ⟨s1.toArray⟩) from rfl)
 have z3:=frozen_of_row w1 g 3 _ _ hg.out
 have c3:=(cell_of_row w1 g 3 _ _ _ hg.out).trans (show _=some (.int .i64 v1) from rfl)
 have z4:=frozen_of_row w1 g 4 _ _ hg.out
 have c4:=(cell_of_row w1 g 4 _ _ _ hg.out).trans (show _=some (.string ⟨s2.toArray⟩) from rfl)
 have z5:=frozen_of_row w1 g 5 _ _ hg.out
 have c5:=(cell_of_row w1 g 5 _ _ _ hg.out).trans (show _=some (.int .i64 v2) from rfl)
 have z6:=frozen_of_row w1 g 6 _ _ hg.out
 have c6:=(cell_of_row w1 g 6 _ _ _ hg.out).trans (show _=some (.string ⟨s3.toArray⟩) from rfl)
 have z7:=frozen_of_row w1 g 7 _ _ hg.out
 have c7:=(cell_of_row w1 g 7 _ _ _ hg.out).trans (show _=some (.int .i64 v3) from rfl)
 rw [rounds_succ]
 go_wp2_with fail
 refine (order1_c s1 v1 v b _ (((Ext.refl w1).alloc _ _).cell_of hb.out)).mono ?_
 rintro e w2 ⟨rfl,hx⟩
 have b0:w2.cell? ⟨w1.heap.size,0,none⟩=some (.string ⟨s1.toArray⟩):=hx.cell_of (by simp [go_sem])
 have b1:w2.cell? ⟨w1.heap.size,1,none⟩=some (.int .i64 v1):=hx.cell_of (by simp [go_sem])
 replace hx:=((Ext.refl w1).alloc _ _).trans hx
 have hgl:=(Array.getElem?_eq_some_iff.1 hg.out).1
 replace hg:=hid <| (hx.below.block g hgl).trans hg.out
 replace hb:=hid <| hx.cell_of hb.out
 replace hX:=show Hid (Exr g w w2) from hX.out.on hx
 clear hx hgl
 clear z0 c0 z1 c1 z2 c2 z3 c3 z4 c4 z5 c5 z6 c6 z7 c7
 have z0:=frozen_of_row w2 g 0 _ _ hg.out
 have c0:=(cell_of_row w2 g 0 _ _ _ hg.out).trans (show _=some (.string ⟨s0.toArray⟩) from rfl)
 have z1:=frozen_of_row w2 g 1 _ _ hg.out
 have c1:=(cell_of_row w2 g 1 _ _ _ hg.out).trans (show _=some (.int .i64 v) from rfl)
 have z2:=frozen_of_row w2 g 2 _ _ hg.out
 have c2:=(cell_of_row w2 g 2 _ _ _ hg.out).trans (show _=some (.string ⟨s1.toArray⟩) from rfl)
 have z3:=frozen_of_row w2 g 3 _ _ hg.out
 have c3:=(cell_of_row w2 g 3 _ _ _ hg.out).trans (show _=some (.int .i64 v1) from rfl)
 have z4:=frozen_of_row w2 g 4 _ _ hg.out
 have c4:=(cell_of_row w2 g 4 _ _ _ hg.out).trans (show _=some (.string ⟨s2.toArray⟩) from rfl)
 have z5:=frozen_of_row w2 g 5 _ _ hg.out
 have c5:=(cell_of_row w2 g 5 _ _ _ hg.out).trans (show _=some (.int .i64 v2) from rfl)
 have z6:=frozen_of_row w2 g 6 _ _ hg.out
 have c6:=(cell_of_row w2 g 6 _ _ _ hg.out).trans (show _=some (.string ⟨s3.toArray⟩) from rfl)
 have z7:=frozen_of_row w2 g 7 _ _ hg.out
 have c7:=(cell_of_row w2 g 7 _ _ _ hg.out).trans (show _=some (.int .i64 v3) from rfl)
 go_wp2
 replace hg:=show Hid (((w2.setCell ⟨g,0,none⟩ (.string ⟨s1.toArray⟩)).setCell ⟨g,1,none⟩ (.int .i64 v1)).heap[g]?=some (.cells #[.string ⟨s1.toArray⟩,.int .i64 v1,.string ⟨s1.toArray⟩,.int .i64 v1,.string ⟨s2.toArray⟩,.int .i64 v2,.string ⟨s3.toArray⟩,.int .i64 v3] 137 (0,0))) from (heap_setCell_same _ g 1 _ _ (.int .i64 v1) ((heap_setCell_same w2 g 0 _ _ (.string ⟨s1.toArray⟩) hg.out))).trans rfl
 replace hb:=show Hid (((w2.setCell ⟨g,0,none⟩ (.string ⟨s1.toArray⟩)).setCell ⟨g,1,none⟩ (.int .i64 v1)).cell? ⟨b,0,none⟩=some (.int .i64 v)) from by show _=_;rw [L8.other _ (Or.inl (Ne.symm hbg)),L8.other _ (Or.inl (Ne.symm hbg))];exact hb.out
 replace hX:=show Hid (Exr g w ((w2.setCell ⟨g,0,none⟩ (.string ⟨s1.toArray⟩)).setCell ⟨g,1,none⟩ (.int .i64 v1))) from (hX.out.set _ _).set _ _
 clear z0 c0 z1 c1 z2 c2 z3 c3 z4 c4 z5 c5 z6 c6 z7 c7
 clear b0 b1
 obtain⟨y2,hW⟩:∃ W,((w2.setCell ⟨g,0,none⟩ (.string ⟨s1.toArray⟩)).setCell ⟨g,1,none⟩ (.int .i64 v1))=W:=⟨_,rfl⟩
 rw [hW] at hg hb hX ⊢
 clear hW
 have z0:=frozen_of_row y2 g 0 _ _ hg.out
 have c0:=(cell_of_row y2 g 0 _ _ _ hg.out).trans (show _=some (.string ⟨s1.toArray⟩) from rfl)
 have z1:=frozen_of_row y2 g 1 _ _ hg.out
 have c1:=(cell_of_row y2 g 1 _ _ _ hg.out).trans (show _=some (.int .i64 v1) from rfl)
 have z2:=frozen_of_row y2 g 2 _ _ hg.out
 have c2:=(cell_of_row y2 g 2 _ _ _ hg.out).trans (show _=some (.string ⟨s1.toArray⟩) from rfl)
 have z3:=frozen_of_row y2 g 3 _ _ hg.out
 have c3:=(cell_of_row y2 g 3 _ _ _ hg.out).trans (show _=some (.int .i64 v1) from rfl)
 have z4:=frozen_of_row y2 g 4 _ _ hg.out
 have c4:=(cell_of_row y2 g 4 _ _ _ hg.out).trans (show _=some (.string ⟨s2.toArray⟩) from rfl)
 have z5:=frozen_of_row y2 g 5 _ _ hg.out
 have c5:=(cell_of_row y2 g 5 _ _ _ hg.out).trans (show _=some (.int .i64 v2) from rfl)
 have z6:=frozen_of_row y2 g 6 _ _ hg.out
 have c6:=(cell_of_row y2 g 6 _ _ _ hg.out).trans (show _=some (.string ⟨s3.toArray⟩) from rfl)
 have z7:=frozen_of_row y2 g 7 _ _ hg.out
 have c7:=(cell_of_row y2 g 7 _ _ _ hg.out).trans (show _=some (.int .i64 v3) from rfl)
 rw [rounds_succ]
 go_wp2_with fail
 refine (order1_c s2 v2 v b _ (((Ext.refl y2).alloc _ _).cell_of hb.out)).mono ?_
 rintro e w3 ⟨rfl,hx⟩
 have b0:w3.cell? ⟨y2.heap.size,0,none⟩=some (.string ⟨s2.toArray⟩):=hx.cell_of (by simp [go_sem])
 have b1:w3.cell? ⟨y2.heap.size,1,none⟩=some (.int .i64 v2):=hx.cell_of (by simp [go_sem])
 replace hx:=((Ext.refl y2).alloc _ _).trans hx
 have hgl:=(Array.getElem?_eq_some_iff.1 hg.out).1
 replace hg:=hid <| (hx.below.block g hgl).trans hg.out
 replace hb:=hid <| hx.cell_of hb.out
 replace hX:=show Hid (Exr g w w3) from hX.out.on hx
 clear hx hgl
 clear z0 c0 z1 c1 z2 c2 z3 c3 z4 c4 z5 c5 z6 c6 z7 c7
 have z0:=frozen_of_row w3 g 0 _ _ hg.out
 have c0:=(cell_of_row w3 g 0 _ _ _ hg.out).trans (show _=some (.string ⟨s1.toArray⟩) from rfl)
 have z1:=frozen_of_row w3 g 1 _ _ hg.out
 have c1:=(cell_of_row w3 g 1 _ _ _ hg.out).trans (show _=some (.int .i64 v1) from rfl)
 have z2:=frozen_of_row w3 g 2 _ _ hg.out
 have c2:=(cell_of_row w3 g 2 _ _ _ hg.out).trans (show _=some (.string ⟨s1.toArray⟩) from rfl)
 have z3:=frozen_of_row w3 g 3 _ _ hg.out
 have c3:=(cell_of_row w3 g 3 _ _ _ hg.out).trans (show _=some (.int .i64 v1) from rfl)
 have z4:=frozen_of_row w3 g 4 _ _ hg.out
 have c4:=(cell_of_row w3 g 4 _ _ _ hg.out).trans (show _=some (.string ⟨s2.toArray⟩) from rfl)
 have z5:=frozen_of_row w3 g 5 _ _ hg.out
 have c5:=(cell_of_row w3 g 5 _ _ _ hg.out).trans (show _=some (.int .i64 v2) from rfl)
 have z6:=frozen_of_row w3 g 6 _ _ hg.out
 have c6:=(cell_of_row w3 g 6 _ _ _ hg.out).trans (show _=some (.string ⟨s3.toArray⟩) from rfl)
 have z7:=frozen_of_row w3 g 7 _ _ hg.out
 have c7:=(cell_of_row w3 g 7 _ _ _ hg.out).trans (show _=some (.int .i64 v3) from rfl)
 go_wp2
 replace hg:=show Hid (((w3.setCell ⟨g,2,none⟩ (.string ⟨s2.toArray⟩)).setCell ⟨g,3,none⟩ (.int .i64 v2)).heap[g]?=some (.cells #[.string ⟨s1.toArray⟩,.int .i64 v1,.string ⟨s2.toArray⟩,.int .i64 v2,.string ⟨s2.toArray⟩,.int .i64 v2,.string ⟨s3.toArray⟩,.int .i64 v3] 137 (0,0))) from (heap_setCell_same _ g 3 _ _ (.int .i64 v2) ((heap_setCell_same w3 g 2 _ _ (.string ⟨s2.toArray⟩) hg.out))).trans rfl
 replace hb:=show Hid (((w3.setCell ⟨g,2,none⟩ (.string ⟨s2.toArray⟩)).setCell ⟨g,3,none⟩ (.int .i64 v2)).cell? ⟨b,0,none⟩=some (.int .i64 v)) from by show _=_;rw [L8.other _ (Or.inl (Ne.symm hbg)),L8.other _ (Or.inl (Ne.symm hbg))];exact hb.out
 replace hX:=show Hid (Exr g w ((w3.setCell ⟨g,2,none⟩ (.string ⟨s2.toArray⟩)).setCell ⟨g,3,none⟩ (.int .i64 v2))) from (hX.out.set _ _).set _ _
 clear z0 c0 z1 c1 z2 c2 z3 c3 z4 c4 z5 c5 z6 c6 z7 c7
 clear b0 b1
 obtain⟨y3,hW⟩:∃ W,((w3.setCell ⟨g,2,none⟩ (.string ⟨s2.toArray⟩)).setCell ⟨g,3,none⟩ (.int .i64 v2))=W:=⟨_,rfl⟩
 rw [hW] at hg hb hX ⊢
 clear hW
 have z0:=frozen_of_row y3 g 0 _ _ hg.out
 have c0:=(cell_of_row y3 g 0 _ _ _ hg.out).trans (show _=some (.string ⟨s1.toArray⟩) from rfl)
 have z1:=frozen_of_row y3 g 1 _ _ hg.out
 have c1:=(cell_of_row y3 g 1 _ _ _ hg.out).trans (show _=some (.int .i64 v1) from rfl)
 have z2:=frozen_of_row y3 g 2 _ _ hg.out
 have c2:=(cell_of_row y3 g 2 _ _ _ hg.out).trans (show _=some (.string ⟨s2.toArray⟩) from rfl)
 have z3:=frozen_of_row y3 g 3 _ _ hg.out
 have c3:=(cell_of_row y3 g 3 _ _ _ hg.out).trans (show _=some (.int .i64 v2) from rfl)
 have z4:=frozen_of_row y3 g 4 _ _ hg.out
 have c4:=(cell_of_row y3 g 4 _ _ _ hg.out).trans (show _=some (.string ⟨s2.toArray⟩) from rfl)
 have z5:=frozen_of_row y3 g 5 _ _ hg.out
 have c5:=(cell_of_row y3 g 5 _ _ _ hg.out).trans (show _=some (.int .i64 v2) from rfl)
 have z6:=frozen_of_row y3 g 6 _ _ hg.out
 have c6:=(cell_of_row y3 g 6 _ _ _ hg.out).trans (show _=some (.string ⟨s3.toArray⟩) from rfl)
 have z7:=frozen_of_row y3 g 7 _ _ hg.out
 have c7:=(cell_of_row y3 g 7 _ _ _ hg.out).trans (show _=some (.int .i64 v3) from rfl)
 rw [rounds_succ]
 go_wp2_with fail
 refine (order1_c s3 v3 v b _ (((Ext.refl y3).alloc _ _).cell_of hb.out)).mono ?_
 rintro e w4 ⟨rfl,hx⟩
 have b0:w4.cell? ⟨y3.heap.size,0,none⟩=some (.string ⟨s3.toArray⟩):=hx.cell_of (by simp [go_sem])
 have b1:w4.cell? ⟨y3.heap.size,1,none⟩=some (.int .i64 v3):=hx.cell_of (by simp [go_sem])
 replace hx:=((Ext.refl y3).alloc _ _).trans hx
 have hgl:=(Array.getElem?_eq_some_iff.1 hg.out).1
 replace hg:=hid <| (hx.below.block g hgl).trans hg.out
 replace hb:=hid <| hx.cell_of hb.out
 replace hX:=show Hid (Exr g w w4) from hX.out.on hx
 clear hx hgl
 clear z0 c0 z1 c1 z2 c2 z3 c3 z4 c4 z5 c5 z6 c6 z7 c7
 have z0:=frozen_of_row w4 g 0 _ _ hg.out
 have c0:=(cell_of_row w4 g 0 _ _ _ hg.out).trans (show _=some (.string ⟨s1.toArray⟩) from rfl)
 have z1:=frozen_of_row w4 g 1 _ _ hg.out
 have c1:=(cell_of_row w4 g 1 _ _ _ hg.out).trans (show _=some (.int .i64 v1) from rfl)
 have z2:=frozen_of_row w4 g 2 _ _ hg.out
 have c2:=(cell_of_row w4 g 2 _ _ _ hg.out).trans (show _=some (.string ⟨s2.toArray⟩) from rfl)
 have z3:=frozen_of_row w4 g 3 _ _ hg.out
 have c3:=(cell_of_row w4 g 3 _ _ _ hg.out).trans (show _=some (.int .i64 v2) from rfl)
 have z4:=frozen_of_row w4 g 4 _ _ hg.out
 have c4:=(cell_of_row w4 g 4 _ _ _ hg.out).trans (show _=some (.string ⟨s2.toArray⟩) from rfl)
 have z5:=frozen_of_row w4 g 5 _ _ hg.out
 have c5:=(cell_of_row w4 g 5 _ _ _ hg.out).trans (show _=some (.int .i64 v2) from rfl)
 have z6:=frozen_of_row w4 g 6 _ _ hg.out
 have c6:=(cell_of_row w4 g 6 _ _ _ hg.out).trans (show _=some (.string ⟨s3.toArray⟩) from rfl)
 have z7:=frozen_of_row w4 g 7 _ _ hg.out
 have c7:=(cell_of_row w4 g 7 _ _ _ hg.out).trans (show _=some (.int .i64 v3) from rfl)
 go_wp2
 replace hg:=show Hid (((w4.setCell ⟨g,4,none⟩ (.string ⟨s3.toArray⟩)).setCell ⟨g,5,none⟩ (.int .i64 v3)).heap[g]?=some (.cells #[.string ⟨s1.toArray⟩,.int .i64 v1,.string ⟨s2.toArray⟩,.int .i64 v2,.string ⟨s3.toArray⟩,.int .i64 v3,.string ⟨s3.toArray⟩,.int .i64 v3] 137 (0,0))) from (heap_setCell_same _ g 5 _ _ (.int .i64 v3) ((heap_setCell_same w4 g 4 _ _ (.string ⟨s3.toArray⟩) hg.out))).trans rfl
 replace hb:=show Hid (((w4.setCell ⟨g,4,none⟩ (.string ⟨s3.toArray⟩)).setCell ⟨g,5,none⟩ (.int .i64 v3)).cell? ⟨b,0,none⟩=some (.int .i64 v)) from by show _=_;rw [L8.other _ (Or.inl (Ne.symm hbg)),L8.other _ (Or.inl (Ne.symm hbg))];exact hb.out
 replace hX:=show Hid (Exr g w ((w4.setCell ⟨g,4,none⟩ (.string ⟨s3.toArray⟩)).setCell ⟨g,5,none⟩ (.int .i64 v3))) from (hX.out.set _ _).set _ _
 clear z0 c0 z1 c1 z2 c2 z3 c3 z4 c4 z5 c5 z6 c6 z7 c7
 clear b0 b1
 obtain⟨y4,hW⟩:∃ W,((w4.setCell ⟨g,4,none⟩ (.string ⟨s3.toArray⟩)).setCell ⟨g,5,none⟩ (.int .i64 v3))=W:=⟨_,rfl⟩
 rw [hW] at hg hb hX ⊢
 clear hW
 have z0:=frozen_of_row y4 g 0 _ _ hg.out
 have c0:=(cell_of_row y4 g 0 _ _ _ hg.out).trans (show _=some (.string ⟨s1.toArray⟩) from rfl)
 have z1:=frozen_of_row y4 g 1 _ _ hg.out
 have c1:=(cell_of_row y4 g 1 _ _ _ hg.out).trans (show _=some (.int .i64 v1) from rfl)
 have z2:=frozen_of_row y4 g 2 _ _ hg.out
 have c2:=(cell_of_row y4 g 2 _ _ _ hg.out).trans (show _=some (.string ⟨s2.toArray⟩) from rfl)
 have z3:=frozen_of_row y4 g 3 _ _ hg.out
 have c3:=(cell_of_row y4 g 3 _ _ _ hg.out).trans (show _=some (.int .i64 v2) from rfl)
 have z4:=frozen_of_row y4 g 4 _ _ hg.out
 have c4:=(cell_of_row y4 g 4 _ _ _ hg.out).trans (show _=some (.string ⟨s3.toArray⟩) from rfl)
 have z5:=frozen_of_row y4 g 5 _ _ hg.out
 have c5:=(cell_of_row y4 g 5 _ _ _ hg.out).trans (show _=some (.int .i64 v3) from rfl)
 have z6:=frozen_of_row y4 g 6 _ _ hg.out
 have c6:=(cell_of_row y4 g 6 _ _ _ hg.out).trans (show _=some (.string ⟨s3.toArray⟩) from rfl)
 have z7:=frozen_of_row y4 g 7 _ _ hg.out
 have c7:=(cell_of_row y4 g 7 _ _ _ hg.out).trans (show _=some (.int .i64 v3) from rfl)
 have hcl:=fun ty=>clear_one y4 ty g 6 1 _ _ c6 c7 z6 z7
 rw [rounds_succ]
 go_wp2_with (simp only [hcl])
 go_ret
 exact⟨rfl,(heap_setCell_same _ g 7 _ _ (.int .i64 0) (heap_setCell_same y4 g 6 _ _ (.string ⟨#[]⟩) hg.out)).trans rfl,(hX.out.set _ _).set _ _⟩
theorem del41 (g b:Nat)(s0 s1 s2 s3:List UInt8)(v0 v2 v3 v:Int)(w:World)(hb:w.cell? ⟨b,0,none⟩=some (.int .i64 v))(hg:w.heap[g]?=some (.cells #[.string ⟨s0.toArray⟩,.int .i64 v0,.string ⟨s1.toArray⟩,.int .i64 v,.string ⟨s2.toArray⟩,.int .i64 v2,.string ⟨s3.toArray⟩,.int .i64 v3] 137 (0,0)))(n0:(v0==v)=false)(n2:(v2==v)=false)(n3:(v3==v)=false) :
  Calls Tryz.prog 121 #[.slice (some ⟨g,0,none⟩) 4 4,.func (.func 122) #[] #[.pointer (some ⟨b,0,none⟩)]] w fun e w'=>e=.returned (.slice (some ⟨g,0,none⟩) 3 4)∧w'.heap[g]?=some (.cells #[.string ⟨s0.toArray⟩,.int .i64 v0,.string ⟨s2.toArray⟩,.int .i64 v2,.string ⟨s3.toArray⟩,.int .i64 v3,.string ⟨#[]⟩,.int .i64 0] 137 (0,0))∧Exr g w w':=by
 have hbg:b≠g:=by
  rintro rfl
  have:=(cell_of_row w b 0 _ _ _ hg).symm.trans hb
  simp at this
 have hbl:=lt_of_cell hb
 have hgl:=(Array.getElem?_eq_some_iff.1 hg).1
 have ho:Hid (Opt w g [(s0,v0),(s1,v),(s2,v2),(s3,v3)]):=⟨fun k u x hk=>by
  match k,hk with
  | 0,e =>
   obtain⟨rfl,rfl⟩:s0=u∧v0=x:=by simpa using e
   exact⟨(cell_of_row w g 0 _ _ _ hg).trans rfl,(cell_of_row w g 1 _ _ _ hg).trans rfl⟩
  | 1,e =>
   obtain⟨rfl,rfl⟩:s1=u∧v=x:=by simpa using e
   exact⟨(cell_of_row w g 2 _ _ _ hg).trans rfl,(cell_of_row w g 3 _ _ _ hg).trans rfl⟩
  | 2,e =>
   obtain⟨rfl,rfl⟩:s2=u∧v2=x:=by simpa using e
   exact⟨(cell_of_row w g 4 _ _ _ hg).trans rfl,(cell_of_row w g 5 _ _ _ hg).trans rfl⟩
  | 3,e =>
   obtain⟨rfl,rfl⟩:s3=u∧v3=x:=by simpa using e
   exact⟨(cell_of_row w g 6 _ _ _ hg).trans rfl,(cell_of_row w g 7 _ _ _ hg).trans rfl⟩
  | k+4,e=>simp at e⟩
 replace hg:=hid hg
 replace hb:=hid hb
 go_enter Tryz.func121,Tryz.ntmps121
 go_wp2_with fail
 refine (idxV_c g 4 b 1 [(s0,v0),(s1,v),(s2,v2),(s3,v3)] s1 v _ (by simp) ho.out hb.out rfl ?_).mono ?_
 ·intro j u x hj hk
  match j,hj,hk with
  | 0,_,e =>
   obtain⟨rfl,rfl⟩:s0=u∧v0=x:=by simpa using e
   simpa using n0
  | j+1,hj,_=>omega
 rintro e w1 ⟨rfl,hx⟩
 clear ho
 replace hg:=hid <| (hx.below.block g hgl).trans hg.out
 replace hb:=hid <| hx.cell_of hb.out
 have hX:Hid (Exr g w w1):=.of hx
 clear hx hgl hbl
 go_wp2_with fail
 refine wp_loop_rounds 3 ?_
 have z0:=frozen_of_row w1 g 0 _ _ hg.out
 have c0:=(cell_of_row w1 g 0 _ _ _ hg.out).trans (show _=some (.string ⟨s0.toArray⟩) from rfl)
 have z1:=frozen_of_row w1 g 1 _ _ hg.out
 have c1:=(cell_of_row w1 g 1 _ _ _ hg.out).trans (show _=some (.int .i64 v0) from rfl)
 have z2:=frozen_of_row w1 g 2 _ _ hg.out
 have c2:=(cell_of_row w1 g 2 _ _ _ hg.out).trans (show _=some (.string ⟨s1.toArray⟩) from rfl)
 have z3:=frozen_of_row w1 g 3 _ _ hg.out
 have c3:=(cell_of_row w1 g 3 _ _ _ hg.out).trans (show _=some (.int .i64 v) from rfl)
 have z4:=frozen_of_row w1 g 4 _ _ hg.out
 have c4:=(cell_of_row w1 g 4 _ _ _ hg.out).trans (show _=some (.string ⟨s2.toArray⟩) from rfl)
 have z5:=frozen_of_row w1 g 5 _ _ hg.out
 have c5:=(cell_of_row w1 g 5 _ _ _ hg.out).trans (show _=some (.int .i64 v2) from rfl)
 have z6:=frozen_of_row w1 g 6 _ _ hg.out
 have c6:=(cell_of_row w1 g 6 _ _ _ hg.out).trans (show _=some (.string ⟨s3.toArray⟩) from rfl)
 have z7:=frozen_of_row w1 g 7 _ _ hg.out
 have c7:=(cell_of_row w1 g 7 _ _ _ hg.out).trans (show _=some (.int .i64 v3) from rfl)
 rw [rounds_succ]
 go_wp2_with fail
 refine (order1_c s2 v2 v b _ (((Ext.refl w1).alloc _ _).cell_of hb.out)).mono ?_
 rintro e w2 ⟨rfl,hx⟩
 have b0:w2.cell? ⟨w1.heap.size,0,none⟩=some (.string ⟨s2.toArray⟩):=hx.cell_of (by simp [go_sem])
 have b1:w2.cell? ⟨w1.heap.size,1,none⟩=some (.int .i64 v2):=hx.cell_of (by simp [go_sem])
 replace hx:=((Ext.refl w1).alloc _ _).trans hx
 have hgl:=(Array.getElem?_eq_some_iff.1 hg.out).1
 replace hg:=hid <| (hx.below.block g hgl).trans hg.out
 replace hb:=hid <| hx.cell_of hb.out
 replace hX:=show Hid (Exr g w w2) from hX.out.on hx
 clear hx hgl
 clear z0 c0 z1 c1 z2 c2 z3 c3 z4 c4 z5 c5 z6 c6 z7 c7
 have z0:=frozen_of_row w2 g 0 _ _ hg.out
 have c0:=(cell_of_row w2 g 0 _ _ _ hg.out).trans (show _=some (.string ⟨s0.toArray⟩) from rfl)
 have z1:=frozen_of_row w2 g 1 _ _ hg.out
 have c1:=(cell_of_row w2 g 1 _ _ _ hg.out).trans (show _=some (.int .i64 v0) from rfl)
 have z2:=frozen_of_row w2 g 2 _ _ hg.out
 have c2:=(cell_of_row w2 g 2 _ _ _ hg.out).trans (show _=some (.string ⟨s1.toArray⟩) from rfl)
 have z3:=frozen_of_row w2 g 3 _ _ hg.out
 have c3:=(cell_of_row w2 g 3 _ _ _ hg.out).trans (show _=some (.int .i64 v) from rfl)
 have z4:=frozen_of_row w2 g 4 _ _ hg.out
 have c4:=(cell_of_row w2 g 4 _ _ _ hg.out).trans (show _=some (.string ⟨s2.toArray⟩) from rfl)
 have z5:=frozen_of_row w2 g 5 _ _ hg.out
 have c5:=(cell_of_row w2 g 5 _ _ _ hg.out).trans (show _=some (.int .i64 v2) from rfl)
 have z6:=frozen_of_row w2 g 6 _ _ hg.out
 have c6:=(cell_of_row w2 g 6 _ _ _ hg.out).trans (show _=some (.string ⟨s3.toArray⟩) from rfl)
 have z7:=frozen_of_row w2 g 7 _ _ hg.out
 have c7:=(cell_of_row w2 g 7 _ _ _ hg.out).trans (show _=some (.int .i64 v3) from rfl)
 go_wp2
 replace hg:=show Hid (((w2.setCell ⟨g,2,none⟩ (.string ⟨s2.toArray⟩)).setCell ⟨g,3,none⟩ (.int .i64 v2)).heap[g]?=some (.cells #[.string ⟨s0.toArray⟩,.int .i64 v0,.string ⟨s2.toArray⟩,.int .i64 v2,.string ⟨s2.toArray⟩,.int .i64 v2,.string ⟨s3.toArray⟩,.int .i64 v3] 137 (0,0))) from (heap_setCell_same _ g 3 _ _ (.int .i64 v2) ((heap_setCell_same w2 g 2 _ _ (.string ⟨s2.toArray⟩) hg.out))).trans rfl
 replace hb:=show Hid (((w2.setCell ⟨g,2,none⟩ (.string ⟨s2.toArray⟩)).setCell ⟨g,3,none⟩ (.int .i64 v2)).cell? ⟨b,0,none⟩=some (.int .i64 v)) from by show _=_;rw [L8.other _ (Or.inl (Ne.symm hbg)),L8.other _ (Or.inl (Ne.symm hbg))];exact hb.out
 replace hX:=show Hid (Exr g w ((w2.setCell ⟨g,2,none⟩ (.string ⟨s2.toArray⟩)).setCell ⟨g,3,none⟩ (.int .i64 v2))) from (hX.out.set _ _).set _ _
 clear z0 c0 z1 c1 z2 c2 z3 c3 z4 c4 z5 c5 z6 c6 z7 c7
 clear b0 b1
 obtain⟨y2,hW⟩:∃ W,((w2.setCell ⟨g,2,none⟩ (.string ⟨s2.toArray⟩)).setCell ⟨g,3,none⟩ (.int .i64 v2))=W:=⟨_,rfl⟩
 rw [hW] at hg hb hX ⊢
 clear hW
 have z0:=frozen_of_row y2 g 0 _ _ hg.out
 have c0:=(cell_of_row y2 g 0 _ _ _ hg.out).trans (show _=some (.string ⟨s0.toArray⟩) from rfl)
 have z1:=frozen_of_row y2 g 1 _ _ hg.out
 have c1:=(cell_of_row y2 g 1 _ _ _ hg.out).trans (show _=some (.int .i64 v0) from rfl)
 have z2:=frozen_of_row y2 g 2 _ _ hg.out
 have c2:=(cell_of_row y2 g 2 _ _ _ hg.out).trans (show _=some (.string ⟨s2.toArray⟩) from rfl)
 have z3:=frozen_of_row y2 g 3 _ _ hg.out
 have c3:=(cell_of_row y2 g 3 _ _ _ hg.out).trans (show _=some (.int .i64 v2) from rfl)
 have z4:=frozen_of_row y2 g 4 _ _ hg.out
 have c4:=(cell_of_row y2 g 4 _ _ _ hg.out).trans (show _=some (.string ⟨s2.toArray⟩) from rfl)
 have z5:=frozen_of_row y2 g 5 _ _ hg.out
 have c5:=(cell_of_row y2 g 5 _ _ _ hg.out).trans (show _=some (.int .i64 v2) from rfl)
 have z6:=frozen_of_row y2 g 6 _ _ hg.out
 have c6:=(cell_of_row y2 g 6 _ _ _ hg.out).trans (show _=some (.string ⟨s3.toArray⟩) from rfl)
 have z7:=frozen_of_row y2 g 7 _ _ hg.out
 have c7:=(cell_of_row y2 g 7 _ _ _ hg.out).trans (show _=some (.int .i64 v3) from rfl)
 rw [rounds_succ]
 go_wp2_with fail
 refine (order1_c s3 v3 v b _ (((Ext.refl y2).alloc _ _).cell_of hb.out)).mono ?_
 rintro e w3 ⟨rfl,hx⟩
 have b0:w3.cell? ⟨y2.heap.size,0,none⟩=some (.string ⟨s3.toArray⟩):=hx.cell_of (by simp [go_sem])
 have b1:w3.cell? ⟨y2.heap.size,1,none⟩=some (.int .i64 v3):=hx.cell_of (by simp [go_sem])
 replace hx:=((Ext.refl y2).alloc _ _).trans hx
 have hgl:=(Array.getElem?_eq_some_iff.1 hg.out).1
 replace hg:=hid <| (hx.below.block g hgl).trans hg.out
 replace hb:=hid <| hx.cell_of hb.out
 replace hX:=show Hid (Exr g w w3) from hX.out.on hx
 clear hx hgl
 clear z0 c0 z1 c1 z2 c2 z3 c3 z4 c4 z5 c5 z6 c6 z7 c7
 have z0:=frozen_of_row w3 g 0 _ _ hg.out
 have c0:=(cell_of_row w3 g 0 _ _ _ hg.out).trans (show _=some (.string ⟨s0.toArray⟩) from rfl)
 have z1:=frozen_of_row w3 g 1 _ _ hg.out
 have c1:=(cell_of_row w3 g 1 _ _ _ hg.out).trans (show _=some (.int .i64 v0) from rfl)
 have z2:=frozen_of_row w3 g 2 _ _ hg.out
 have c2:=(cell_of_row w3 g 2 _ _ _ hg.out).trans (show _=some (.string ⟨s2.toArray⟩) from rfl)
 have z3:=frozen_of_row w3 g 3 _ _ hg.out
 have c3:=(cell_of_row w3 g 3 _ _ _ hg.out).trans (show _=some (.int .i64 v2) from rfl)
 have z4:=frozen_of_row w3 g 4 _ _ hg.out
 have c4:=(cell_of_row w3 g 4 _ _ _ hg.out).trans (show _=some (.string ⟨s2.toArray⟩) from rfl)
 have z5:=frozen_of_row w3 g 5 _ _ hg.out
 have c5:=(cell_of_row w3 g 5 _ _ _ hg.out).trans (show _=some (.int .i64 v2) from rfl)
 have z6:=frozen_of_row w3 g 6 _ _ hg.out
 have c6:=(cell_of_row w3 g 6 _ _ _ hg.out).trans (show _=some (.string ⟨s3.toArray⟩) from rfl)
 have z7:=frozen_of_row w3 g 7 _ _ hg.out
 have c7:=(cell_of_row w3 g 7 _ _ _ hg.out).trans (show _=some (.int .i64 v3) from rfl)
 go_wp2
 replace hg:=show Hid (((w3.setCell ⟨g,4,none⟩ (.string ⟨s3.toArray⟩)).setCell ⟨g,5,none⟩ (.int .i64 v3)).heap[g]?=some (.cells #[.string ⟨s0.toArray⟩,.int .i64 v0,.string ⟨s2.toArray⟩,.int .i64 v2,.string ⟨s3.toArray⟩,.int .i64 v3,.string ⟨s3.toArray⟩,.int .i64 v3] 137 (0,0))) from (heap_setCell_same _ g 5 _ _ (.int .i64 v3) ((heap_setCell_same w3 g 4 _ _ (.string ⟨s3.toArray⟩) hg.out))).trans rfl
 replace hb:=show Hid (((w3.setCell ⟨g,4,none⟩ (.string ⟨s3.toArray⟩)).setCell ⟨g,5,none⟩ (.int .i64 v3)).cell? ⟨b,0,none⟩=some (.int .i64 v)) from by show _=_;rw [L8.other _ (Or.inl (Ne.symm hbg)),L8.other _ (Or.inl (Ne.symm hbg))];exact hb.out
 replace hX:=show Hid (Exr g w ((w3.setCell ⟨g,4,none⟩ (.string ⟨s3.toArray⟩)).setCell ⟨g,5,none⟩ (.int .i64 v3))) from (hX.out.set _ _).set _ _
 clear z0 c0 z1 c1 z2 c2 z3 c3 z4 c4 z5 c5 z6 c6 z7 c7
 clear b0 b1
 obtain⟨y3,hW⟩:∃ W,((w3.setCell ⟨g,4,none⟩ (.string ⟨s3.toArray⟩)).setCell ⟨g,5,none⟩ (.int .i64 v3))=W:=⟨_,rfl⟩
 rw [hW] at hg hb hX ⊢
 clear hW
 have z0:=frozen_of_row y3 g 0 _ _ hg.out
 have c0:=(cell_of_row y3 g 0 _ _ _ hg.out).trans (show _=some (.string ⟨s0.toArray⟩) from rfl)
 have z1:=frozen_of_row y3 g 1 _ _ hg.out
 have c1:=(cell_of_row y3 g 1 _ _ _ hg.out).trans (show _=some (.int .i64 v0) from rfl)
 have z2:=frozen_of_row y3 g 2 _ _ hg.out
 have c2:=(cell_of_row y3 g 2 _ _ _ hg.out).trans (show _=some (.string ⟨s2.toArray⟩) from rfl)
 have z3:=frozen_of_row y3 g 3 _ _ hg.out
 have c3:=(cell_of_row y3 g 3 _ _ _ hg.out).trans (show _=some (.int .i64 v2) from rfl)
 have z4:=frozen_of_row y3 g 4 _ _ hg.out
 have c4:=(cell_of_row y3 g 4 _ _ _ hg.out).trans (show _=some (.string ⟨s3.toArray⟩) from rfl)
 have z5:=frozen_of_row y3 g 5 _ _ hg.out
 have c5:=(cell_of_row y3 g 5 _ _ _ hg.out).trans (show _=some (.int .i64 v3) from rfl)
 have z6:=frozen_of_row y3 g 6 _ _ hg.out
 have c6:=(cell_of_row y3 g 6 _ _ _ hg.out).trans (show _=some (.string ⟨s3.toArray⟩) from rfl)
 have z7:=frozen_of_row y3 g 7 _ _ hg.out
 have c7:=(cell_of_row y3 g 7 _ _ _ hg.out).trans (show _=some (.int .i64 v3) from rfl)
 have hcl:=fun ty=>clear_one y3 ty g 6 1 _ _ c6 c7 z6 z7
 rw [rounds_succ]
 go_wp2_with (simp only [hcl])
 go_ret
 exact⟨rfl,(heap_setCell_same _ g 7 _ _ (.int .i64 0) (heap_setCell_same y3 g 6 _ _ (.string ⟨#[]⟩) hg.out)).trans rfl,(hX.out.set _ _).set _ _⟩
theorem del42 (g b:Nat)(s0 s1 s2 s3:List UInt8)(v0 v1 v3 v:Int)(w:World)(hb:w.cell? ⟨b,0,none⟩=some (.int .i64 v))(hg:w.heap[g]?=some (.cells #[.string ⟨s0.toArray⟩,.int .i64 v0,.string ⟨s1.toArray⟩,.int .i64 v1,.string ⟨s2.toArray⟩,.int .i64 v,.string ⟨s3.toArray⟩,.int .i64 v3] 137 (0,0)))(n0:(v0==v)=false)(n1:(v1==v)=false)(n3:(v3==v)=false) :
  Calls Tryz.prog 121 #[.slice (some ⟨g,0,none⟩) 4 4,.func (.func 122) #[] #[.pointer (some ⟨b,0,none⟩)]] w fun e w'=>e=.returned (.slice (some ⟨g,0,none⟩) 3 4)∧w'.heap[g]?=some (.cells #[.string ⟨s0.toArray⟩,.int .i64 v0,.string ⟨s1.toArray⟩,.int .i64 v1,.string ⟨s3.toArray⟩,.int .i64 v3,.string ⟨#[]⟩,.int .i64 0] 137 (0,0))∧Exr g w w':=by
 have hbg:b≠g:=by
  rintro rfl
  have:=(cell_of_row w b 0 _ _ _ hg).symm.trans hb
  simp at this
 have hbl:=lt_of_cell hb
 have hgl:=(Array.getElem?_eq_some_iff.1 hg).1
 have ho:Hid (Opt w g [(s0,v0),(s1,v1),(s2,v),(s3,v3)]):=⟨fun k u x hk=>by
  match k,hk with
  | 0,e =>
   obtain⟨rfl,rfl⟩:s0=u∧v0=x:=by simpa using e
   exact⟨(cell_of_row w g 0 _ _ _ hg).trans rfl,(cell_of_row w g 1 _ _ _ hg).trans rfl⟩
  | 1,e =>
   obtain⟨rfl,rfl⟩:s1=u∧v1=x:=by simpa using e
   exact⟨(cell_of_row w g 2 _ _ _ hg).trans rfl,(cell_of_row w g 3 _ _ _ hg).trans rfl⟩
  | 2,e =>
   obtain⟨rfl,rfl⟩:s2=u∧v=x:=by simpa using e
   exact⟨(cell_of_row w g 4 _ _ _ hg).trans rfl,(cell_of_row w g 5 _ _ _ hg).trans rfl⟩
  | 3,e =>
   obtain⟨rfl,rfl⟩:s3=u∧v3=x:=by simpa using e
   exact⟨(cell_of_row w g 6 _ _ _ hg).trans rfl,(cell_of_row w g 7 _ _ _ hg).trans rfl⟩
  | k+4,e=>simp at e⟩
 replace hg:=hid hg
 replace hb:=hid hb
 go_enter Tryz.func121,Tryz.ntmps121
 go_wp2_with fail
 refine (idxV_c g 4 b 2 [(s0,v0),(s1,v1),(s2,v),(s3,v3)] s2 v _ (by simp) ho.out hb.out rfl ?_).mono ?_
 ·intro j u x hj hk
  match j,hj,hk with
  | 0,_,e =>
   obtain⟨rfl,rfl⟩:s0=u∧v0=x:=by simpa using e
   simpa using n0
  | 1,_,e =>
   obtain⟨rfl,rfl⟩:s1=u∧v1=x:=by simpa using e
   simpa using n1
  | j+2,hj,_=>omega
 rintro e w1 ⟨rfl,hx⟩
 clear ho
 replace hg:=hid <| (hx.below.block g hgl).trans hg.out
 replace hb:=hid <| hx.cell_of hb.out
 have hX:Hid (Exr g w w1):=.of hx
 clear hx hgl hbl
 go_wp2_with fail
 refine wp_loop_rounds 2 ?_
 have z0:=frozen_of_row w1 g 0 _ _ hg.out
 have c0:=(cell_of_row w1 g 0 _ _ _ hg.out).trans (show _=some (.string ⟨s0.toArray⟩) from rfl)
 have z1:=frozen_of_row w1 g 1 _ _ hg.out
 have c1:=(cell_of_row w1 g 1 _ _ _ hg.out).trans (show _=some (.int .i64 v0) from rfl)
 have z2:=frozen_of_row w1 g 2 _ _ hg.out
 have c2:=(cell_of_row w1 g 2 _ _ _ hg.out).trans (show _=some (.string ⟨s1.toArray⟩) from rfl)
 have z3:=frozen_of_row w1 g 3 _ _ hg.out
 have c3:=(cell_of_row w1 g 3 _ _ _ hg.out).trans (show _=some (.int .i64 v1) from rfl)
 have z4:=frozen_of_row w1 g 4 _ _ hg.out
 have c4:=(cell_of_row w1 g 4 _ _ _ hg.out).trans (show _=some (.string ⟨s2.toArray⟩) from rfl)
 have z5:=frozen_of_row w1 g 5 _ _ hg.out
 have c5:=(cell_of_row w1 g 5 _ _ _ hg.out).trans (show _=some (.int .i64 v) from rfl)
 have z6:=frozen_of_row w1 g 6 _ _ hg.out
 have c6:=(cell_of_row w1 g 6 _ _ _ hg.out).trans (show _=some (.string ⟨s3.toArray⟩) from rfl)
 have z7:=frozen_of_row w1 g 7 _ _ hg.out
 have c7:=(cell_of_row w1 g 7 _ _ _ hg.out).trans (show _=some (.int .i64 v3) from rfl)
 rw [rounds_succ]
 go_wp2_with fail
 refine (order1_c s3 v3 v b _ (((Ext.refl w1).alloc _ _).cell_of hb.out)).mono ?_
 rintro e w2 ⟨rfl,hx⟩
 have b0:w2.cell? ⟨w1.heap.size,0,none⟩=some (.string ⟨s3.toArray⟩):=hx.cell_of (by simp [go_sem])
 have b1:w2.cell? ⟨w1.heap.size,1,none⟩=some (.int .i64 v3):=hx.cell_of (by simp [go_sem])
 replace hx:=((Ext.refl w1).alloc _ _).trans hx
 have hgl:=(Array.getElem?_eq_some_iff.1 hg.out).1
 replace hg:=hid <| (hx.below.block g hgl).trans hg.out
 replace hb:=hid <| hx.cell_of hb.out
 replace hX:=show Hid (Exr g w w2) from hX.out.on hx
 clear hx hgl
 clear z0 c0 z1 c1 z2 c2 z3 c3 z4 c4 z5 c5 z6 c6 z7 c7
 have z0:=frozen_of_row w2 g 0 _ _ hg.out
 have c0:=(cell_of_row w2 g 0 _ _ _ hg.out).trans (show _=some (.string ⟨s0.toArray⟩) from rfl)
 have z1:=frozen_of_row w2 g 1 _ _ hg.out
 have c1:=(cell_of_row w2 g 1 _ _ _ hg.out).trans (show _=some (.int .i64 v0) from rfl)
 have z2:=frozen_of_row w2 g 2 _ _ hg.out
 have c2:=(cell_of_row w2 g 2 _ _ _ hg.out).trans (show _=some (.string ⟨s1.toArray⟩) from rfl)
 have z3:=frozen_of_row w2 g 3 _ _ hg.out
 have c3:=(cell_of_row w2 g 3 _ _ _ hg.out).trans (show _=some (.int .i64 v1) from rfl)
 have z4:=frozen_of_row w2 g 4 _ _ hg.out
 have c4:=(cell_of_row w2 g 4 _ _ _ hg.out).trans (show _=some (.string ⟨s2.toArray⟩) from rfl)
 have z5:=frozen_of_row w2 g 5 _ _ hg.out
 have c5:=(cell_of_row w2 g 5 _ _ _ hg.out).trans (show _=some (.int .i64 v) from rfl)
 have z6:=frozen_of_row w2 g 6 _ _ hg.out
 have c6:=(cell_of_row w2 g 6 _ _ _ hg.out).trans (show _=some (.string ⟨s3.toArray⟩) from rfl)
 have z7:=frozen_of_row w2 g 7 _ _ hg.out
 have c7:=(cell_of_row w2 g 7 _ _ _ hg.out).trans (show _=some (.int .i64 v3) from rfl)
 go_wp2
 replace hg:=show Hid (((w2.setCell ⟨g,4,none⟩ (.string ⟨s3.toArray⟩)).setCell ⟨g,5,none⟩ (.int .i64 v3)).heap[g]?=some (.cells #[.string ⟨s0.toArray⟩,.int .i64 v0,.string ⟨s1.toArray⟩,.int .i64 v1,.string ⟨s3.toArray⟩,.int .i64 v3,.string ⟨s3.toArray⟩,.int .i64 v3] 137 (0,0))) from (heap_setCell_same _ g 5 _ _ (.int .i64 v3) ((heap_setCell_same w2 g 4 _ _ (.string ⟨s3.toArray⟩) hg.out))).trans rfl
 replace hb:=show Hid (((w2.setCell ⟨g,4,none⟩ (.string ⟨s3.toArray⟩)).setCell ⟨g,5,none⟩ (.int .i64 v3)).cell? ⟨b,0,none⟩=some (.int .i64 v)) from by show _=_;rw [L8.other _ (Or.inl (Ne.symm hbg)),L8.other _ (Or.inl (Ne.symm hbg))];exact hb.out
 replace hX:=show Hid (Exr g w ((w2.setCell ⟨g,4,none⟩ (.string ⟨s3.toArray⟩)).setCell ⟨g,5,none⟩ (.int .i64 v3))) from (hX.out.set _ _).set _ _
 clear z0 c0 z1 c1 z2 c2 z3 c3 z4 c4 z5 c5 z6 c6 z7 c7
 clear b0 b1
 obtain⟨y2,hW⟩:∃ W,((w2.setCell ⟨g,4,none⟩ (.string ⟨s3.toArray⟩)).setCell ⟨g,5,none⟩ (.int .i64 v3))=W:=⟨_,rfl⟩
 rw [hW] at hg hb hX ⊢
 clear hW
 have z0:=frozen_of_row y2 g 0 _ _ hg.out
 have c0:=(cell_of_row y2 g 0 _ _ _ hg.out).trans (show _=some (.string ⟨s0.toArray⟩) from rfl)
 have z1:=frozen_of_row y2 g 1 _ _ hg.out
 have c1:=(cell_of_row y2 g 1 _ _ _ hg.out).trans (show _=some (.int .i64 v0) from rfl)
 have z2:=frozen_of_row y2 g 2 _ _ hg.out
 have c2:=(cell_of_row y2 g 2 _ _ _ hg.out).trans (show _=some (.string ⟨s1.toArray⟩) from rfl)
 have z3:=frozen_of_row y2 g 3 _ _ hg.out
 have c3:=(cell_of_row y2 g 3 _ _ _ hg.out).trans (show _=some (.int .i64 v1) from rfl)
 have z4:=frozen_of_row y2 g 4 _ _ hg.out
 have c4:=(cell_of_row y2 g 4 _ _ _ hg.out).trans (show _=some (.string ⟨s3.toArray⟩) from rfl)
 have z5:=frozen_of_row y2 g 5 _ _ hg.out
 have c5:=(cell_of_row y2 g 5 _ _ _ hg.out).trans (show _=some (.int .i64 v3) from rfl)
 have z6:=frozen_of_row y2 g 6 _ _ hg.out
 have c6:=(cell_of_row y2 g 6 _ _ _ hg.out).trans (show _=some (.string ⟨s3.toArray⟩) from rfl)
 have z7:=frozen_of_row y2 g 7 _ _ hg.out
 have c7:=(cell_of_row y2 g 7 _ _ _ hg.out).trans (show _=some (.int .i64 v3) from rfl)
 have hcl:=fun ty=>clear_one y2 ty g 6 1 _ _ c6 c7 z6 z7
 rw [rounds_succ]
 go_wp2_with (simp only [hcl])
 go_ret
 exact⟨rfl,(heap_setCell_same _ g 7 _ _ (.int .i64 0) (heap_setCell_same y2 g 6 _ _ (.string ⟨#[]⟩) hg.out)).trans rfl,(hX.out.set _ _).set _ _⟩
theorem del43 (g b:Nat)(s0 s1 s2 s3:List UInt8)(v0 v1 v2 v:Int)(w:World)(hb:w.cell? ⟨b,0,none⟩=some (.int .i64 v))(hg:w.heap[g]?=some (.cells #[.string ⟨s0.toArray⟩,.int .i64 v0,.string ⟨s1.toArray⟩,.int .i64 v1,.string ⟨s2.toArray⟩,.int .i64 v2,.string ⟨s3.toArray⟩,.int .i64 v] 137 (0,0)))(n0:(v0==v)=false)(n1:(v1==v)=false)(n2:(v2==v)=false) :
  Calls Tryz.prog 121 #[.slice (some ⟨g,0,none⟩) 4 4,.func (.func 122) #[] #[.pointer (some ⟨b,0,none⟩)]] w fun e w'=>e=.returned (.slice (some ⟨g,0,none⟩) 3 4)∧w'.heap[g]?=some (.cells #[.string ⟨s0.toArray⟩,.int .i64 v0,.string ⟨s1.toArray⟩,.int .i64 v1,.string ⟨s2.toArray⟩,.int .i64 v2,.string ⟨#[]⟩,.int .i64 0] 137 (0,0))∧Exr g w w':=by
 have hbg:b≠g:=by
  rintro rfl
  have:=(cell_of_row w b 0 _ _ _ hg).symm.trans hb
  simp at this
 have hbl:=lt_of_cell hb
 have hgl:=(Array.getElem?_eq_some_iff.1 hg).1
 have ho:Hid (Opt w g [(s0,v0),(s1,v1),(s2,v2),(s3,v)]):=⟨fun k u x hk=>by
  match k,hk with
  | 0,e =>
   obtain⟨rfl,rfl⟩:s0=u∧v0=x:=by simpa using e
   exact⟨(cell_of_row w g 0 _ _ _ hg).trans rfl,(cell_of_row w g 1 _ _ _ hg).trans rfl⟩
  | 1,e =>
   obtain⟨rfl,rfl⟩:s1=u∧v1=x:=by simpa using e
   exact⟨(cell_of_row w g 2 _ _ _ hg).trans rfl,(cell_of_row w g 3 _ _ _ hg).trans rfl⟩
  | 2,e =>
   obtain⟨rfl,rfl⟩:s2=u∧v2=x:=by simpa using e
   exact⟨(cell_of_row w g 4 _ _ _ hg).trans rfl,(cell_of_row w g 5 _ _ _ hg).trans rfl⟩
  | 3,e =>
   obtain⟨rfl,rfl⟩:s3=u∧v=x:=by simpa using e
   exact⟨(cell_of_row w g 6 _ _ _ hg).trans rfl,(cell_of_row w g 7 _ _ _ hg).trans rfl⟩
  | k+4,e=>simp at e⟩
 replace hg:=hid hg
 replace hb:=hid hb
 go_enter Tryz.func121,Tryz.ntmps121
 go_wp2_with fail
 refine (idxV_c g 4 b 3 [(s0,v0),(s1,v1),(s2,v2),(s3,v)] s3 v _ (by simp) ho.out hb.out rfl ?_).mono ?_
 ·intro j u x hj hk
  match j,hj,hk with
  | 0,_,e =>
   obtain⟨rfl,rfl⟩:s0=u∧v0=x:=by simpa using e
   simpa using n0
  | 1,_,e =>
   obtain⟨rfl,rfl⟩:s1=u∧v1=x:=by simpa using e
   simpa using n1
  | 2,_,e =>
   obtain⟨rfl,rfl⟩:s2=u∧v2=x:=by simpa using e
   simpa using n2
  | j+3,hj,_=>omega
 rintro e w1 ⟨rfl,hx⟩
 clear ho
 replace hg:=hid <| (hx.below.block g hgl).trans hg.out
 replace hb:=hid <| hx.cell_of hb.out
 have hX:Hid (Exr g w w1):=.of hx
 clear hx hgl hbl
 go_wp2_with fail
 refine wp_loop_rounds 1 ?_
 have z0:=frozen_of_row w1 g 0 _ _ hg.out
 have c0:=(cell_of_row w1 g 0 _ _ _ hg.out).trans (show _=some (.string ⟨s0.toArray⟩) from rfl)
 have z1:=frozen_of_row w1 g 1 _ _ hg.out
 have c1:=(cell_of_row w1 g 1 _ _ _ hg.out).trans (show _=some (.int .i64 v0) from rfl)
 have z2:=frozen_of_row w1 g 2 _ _ hg.out
 have c2:=(cell_of_row w1 g 2 _ _ _ hg.out).trans (show _=some (.string ⟨s1.toArray⟩) from rfl)
 have z3:=frozen_of_row w1 g 3 _ _ hg.out
 have c3:=(cell_of_row w1 g 3 _ _ _ hg.out).trans (show _=some (.int .i64 v1) from rfl)
 have z4:=frozen_of_row w1 g 4 _ _ hg.out
 have c4:=(cell_of_row w1 g 4 _ _ _ hg.out).trans (show _=some (.string ⟨s2.toArray⟩) from rfl)
 have z5:=frozen_of_row w1 g 5 _ _ hg.out
 have c5:=(cell_of_row w1 g 5 _ _ _ hg.out).trans (show _=some (.int .i64 v2) from rfl)
 have z6:=frozen_of_row w1 g 6 _ _ hg.out
 have c6:=(cell_of_row w1 g 6 _ _ _ hg.out).trans (show _=some (.string ⟨s3.toArray⟩) from rfl)
 have z7:=frozen_of_row w1 g 7 _ _ hg.out
 have c7:=(cell_of_row w1 g 7 _ _ _ hg.out).trans (show _=some (.int .i64 v) from rfl)
 have hcl:=fun ty=>clear_one w1 ty g 6 1 _ _ c6 c7 z6 z7
 rw [rounds_succ]
 go_wp2_with (simp only [hcl])
 go_ret
 exact⟨rfl,(heap_setCell_same _ g 7 _ _ (.int .i64 0) (heap_setCell_same w1 g 6 _ _ (.string ⟨#[]⟩) hg.out)).trans rfl,(hX.out.set _ _).set _ _⟩
theorem del30 (g b:Nat)(s0 s1 s2:List UInt8)(v1 v2 v:Int)(w:World)(hb:w.cell? ⟨b,0,none⟩=some (.int .i64 v))(hg:w.heap[g]?=some (.cells #[.string ⟨s0.toArray⟩,.int .i64 v,.string ⟨s1.toArray⟩,.int .i64 v1,.string ⟨s2.toArray⟩,.int .i64 v2,.string ⟨#[]⟩,.int .i64 0] 137 (0,0)))(n1:(v1==v)=false)(n2:(v2==v)=false) :
  Calls Tryz.prog 121 #[.slice (some ⟨g,0,none⟩) 3 4,.func (.func 122) #[] #[.pointer (some ⟨b,0,none⟩)]] w fun e w'=>e=.returned (.slice (some ⟨g,0,none⟩) 2 4)∧w'.heap[g]?=some (.cells #[.string ⟨s1.toArray⟩,.int .i64 v1,.string ⟨s2.toArray⟩,.int .i64 v2,.string ⟨#[]⟩,.int .i64 0,.string ⟨#[]⟩,.int .i64 0] 137 (0,0))∧Exr g w w':=by
 have hbg:b≠g:=by
  rintro rfl
  have:=(cell_of_row w b 0 _ _ _ hg).symm.trans hb
  simp at this
 have hbl:=lt_of_cell hb
 have hgl:=(Array.getElem?_eq_some_iff.1 hg).1
 have ho:Hid (Opt w g [(s0,v),(s1,v1),(s2,v2)]):=⟨fun k u x hk=>by
  match k,hk with
  | 0,e =>
   obtain⟨rfl,rfl⟩:s0=u∧v=x:=by simpa using e
   exact⟨(cell_of_row w g 0 _ _ _ hg).trans rfl,(cell_of_row w g 1 _ _ _ hg).trans rfl⟩
  | 1,e =>
   obtain⟨rfl,rfl⟩:s1=u∧v1=x:=by simpa using e
   exact⟨(cell_of_row w g 2 _ _ _ hg).trans rfl,(cell_of_row w g 3 _ _ _ hg).trans rfl⟩
  | 2,e =>
   obtain⟨rfl,rfl⟩:s2=u∧v2=x:=by simpa using e
   exact⟨(cell_of_row w g 4 _ _ _ hg).trans rfl,(cell_of_row w g 5 _ _ _ hg).trans rfl⟩
  | k+3,e=>simp at e⟩
 replace hg:=hid hg
 replace hb:=hid hb
 go_enter Tryz.func121,Tryz.ntmps121
 go_wp2_with fail
 refine (idxV_c g 4 b 0 [(s0,v),(s1,v1),(s2,v2)] s0 v _ (by simp) ho.out hb.out rfl ?_).mono ?_
 ·intro j u x hj hk
  omega
 rintro e w1 ⟨rfl,hx⟩
 clear ho
 replace hg:=hid <| (hx.below.block g hgl).trans hg.out
 replace hb:=hid <| hx.cell_of hb.out
 have hX:Hid (Exr g w w1):=.of hx
 clear hx hgl hbl
 go_wp2_with fail
 refine wp_loop_rounds 3 ?_
 have z0:=frozen_of_row w1 g 0 _ _ hg.out
 have c0:=(cell_of_row w1 g 0 _ _ _ hg.out).trans (show _=some (.string ⟨s0.toArray⟩) from rfl)
 have z1:=frozen_of_row w1 g 1 _ _ hg.out
 have c1:=(cell_of_row w1 g 1 _ _ _ hg.out).trans (show _=some (.int .i64 v) from rfl)
 have z2:=frozen_of_row w1 g 2 _ _ hg.out
 have c2:=(cell_of_row w1 g 2 _ _ _ hg.out).trans (show _=some (.string ⟨s1.toArray⟩) from rfl)
 have z3:=frozen_of_row w1 g 3 _ _ hg.out
 have c3:=(cell_of_row w1 g 3 _ _ _ hg.out).trans (show _=some (.int .i64 v1) from rfl)
 have z4:=frozen_of_row w1 g 4 _ _ hg.out
 have c4:=(cell_of_row w1 g 4 _ _ _ hg.out).trans (show _=some (.string ⟨s2.toArray⟩) from rfl)
 have z5:=frozen_of_row w1 g 5 _ _ hg.out
 have c5:=(cell_of_row w1 g 5 _ _ _ hg.out).trans (show _=some (.int .i64 v2) from rfl)
 rw [rounds_succ]
 go_wp2_with fail
 refine (order1_c s1 v1 v b _ (((Ext.refl w1).alloc _ _).cell_of hb.out)).mono ?_
 rintro e w2 ⟨rfl,hx⟩
 have b0:w2.cell? ⟨w1.heap.size,0,none⟩=some (.string ⟨s1.toArray⟩):=hx.cell_of (by simp [go_sem])
 have b1:w2.cell? ⟨w1.heap.size,1,none⟩=some (.int .i64 v1):=hx.cell_of (by simp [go_sem])
 replace hx:=((Ext.refl w1).alloc _ _).trans hx
 have hgl:=(Array.getElem?_eq_some_iff.1 hg.out).1
 replace hg:=hid <| (hx.below.block g hgl).trans hg.out
 replace hb:=hid <| hx.cell_of hb.out
 replace hX:=show Hid (Exr g w w2) from hX.out.on hx
 clear hx hgl
 clear z0 c0 z1 c1 z2 c2 z3 c3 z4 c4 z5 c5
 have z0:=frozen_of_row w2 g 0 _ _ hg.out
 have c0:=(cell_of_row w2 g 0 _ _ _ hg.out).trans (show _=some (.string ⟨s0.toArray⟩) from rfl)
 have z1:=frozen_of_row w2 g 1 _ _ hg.out
 have c1:=(cell_of_row w2 g 1 _ _ _ hg.out).trans (show _=some (.int .i64 v) from rfl)
 have z2:=frozen_of_row w2 g 2 _ _ hg.out
 have c2:=(cell_of_row w2 g 2 _ _ _ hg.out).trans (show _=some (.string ⟨s1.toArray⟩) from rfl)
 have z3:=frozen_of_row w2 g 3 _ _ hg.out
 have c3:=(cell_of_row w2 g 3 _ _ _ hg.out).trans (show _=some (.int .i64 v1) from rfl)
 have z4:=frozen_of_row w2 g 4 _ _ hg.out
 have c4:=(cell_of_row w2 g 4 _ _ _ hg.out).trans (show _=some (.string ⟨s2.toArray⟩) from rfl)
 have z5:=frozen_of_row w2 g 5 _ _ hg.out
 have c5:=(cell_of_row w2 g 5 _ _ _ hg.out).trans (show _=some (.int .i64 v2) from rfl)
 go_wp2
 replace hg:=show Hid (((w2.setCell ⟨g,0,none⟩ (.string ⟨s1.toArray⟩)).setCell ⟨g,1,none⟩ (.int .i64 v1)).heap[g]?=some (.cells #[.string ⟨s1.toArray⟩,.int .i64 v1,.string ⟨s1.toArray⟩,.int .i64 v1,.string ⟨s2.toArray⟩,.int .i64 v2,.string ⟨#[]⟩,.int .i64 0] 137 (0,0))) from (heap_setCell_same _ g 1 _ _ (.int .i64 v1) ((heap_setCell_same w2 g 0 _ _ (.string ⟨s1.toArray⟩) hg.out))).trans rfl
 replace hb:=show Hid (((w2.setCell ⟨g,0,none⟩ (.string ⟨s1.toArray⟩)).setCell ⟨g,1,none⟩ (.int .i64 v1)).cell? ⟨b,0,none⟩=some (.int .i64 v)) from by show _=_;rw [L8.other _ (Or.inl (Ne.symm hbg)),L8.other _ (Or.inl (Ne.symm hbg))];exact hb.out
 replace hX:=show Hid (Exr g w ((w2.setCell ⟨g,0,none⟩ (.string ⟨s1.toArray⟩)).setCell ⟨g,1,none⟩ (.int .i64 v1))) from (hX.out.set _ _).set _ _
 clear z0 c0 z1 c1 z2 c2 z3 c3 z4 c4 z5 c5
 clear b0 b1
 obtain⟨y2,hW⟩:∃ W,((w2.setCell ⟨g,0,none⟩ (.string ⟨s1.toArray⟩)).setCell ⟨g,1,none⟩ (.int .i64 v1))=W:=⟨_,rfl⟩
 rw [hW] at hg hb hX ⊢
 clear hW
 have z0:=frozen_of_row y2 g 0 _ _ hg.out
 have c0:=(cell_of_row y2 g 0 _ _ _ hg.out).trans (show _=some (.string ⟨s1.toArray⟩) from rfl)
 have z1:=frozen_of_row y2 g 1 _ _ hg.out
 have c1:=(cell_of_row y2 g 1 _ _ _ hg.out).trans (show _=some (.int .i64 v1) from rfl)
 have z2:=frozen_of_row y2 g 2 _ _ hg.out
 have c2:=(cell_of_row y2 g 2 _ _ _ hg.out).trans (show _=some (.string ⟨s1.toArray⟩) from rfl)
 have z3:=frozen_of_row y2 g 3 _ _ hg.out
 have c3:=(cell_of_row y2 g 3 _ _ _ hg.out).trans (show _=some (.int .i64 v1) from rfl)
 have z4:=frozen_of_row y2 g 4 _ _ hg.out
 have c4:=(cell_of_row y2 g 4 _ _ _ hg.out).trans (show _=some (.string ⟨s2.toArray⟩) from rfl)
 have z5:=frozen_of_row y2 g 5 _ _ hg.out
 have c5:=(cell_of_row y2 g 5 _ _ _ hg.out).trans (show _=some (.int .i64 v2) from rfl)
 rw [rounds_succ]
 go_wp2_with fail
 refine (order1_c s2 v2 v b _ (((Ext.refl y2).alloc _ _).cell_of hb.out)).mono ?_
 rintro e w3 ⟨rfl,hx⟩
 have b0:w3.cell? ⟨y2.heap.size,0,none⟩=some (.string ⟨s2.toArray⟩):=hx.cell_of (by simp [go_sem])
 have b1:w3.cell? ⟨y2.heap.size,1,none⟩=some (.int .i64 v2):=hx.cell_of (by simp [go_sem])
 replace hx:=((Ext.refl y2).alloc _ _).trans hx
 have hgl:=(Array.getElem?_eq_some_iff.1 hg.out).1
 replace hg:=hid <| (hx.below.block g hgl).trans hg.out
 replace hb:=hid <| hx.cell_of hb.out
 replace hX:=show Hid (Exr g w w3) from hX.out.on hx
 clear hx hgl
 clear z0 c0 z1 c1 z2 c2 z3 c3 z4 c4 z5 c5
 have z0:=frozen_of_row w3 g 0 _ _ hg.out
 have c0:=(cell_of_row w3 g 0 _ _ _ hg.out).trans (show _=some (.string ⟨s1.toArray⟩) from rfl)
 have z1:=frozen_of_row w3 g 1 _ _ hg.out
 have c1:=(cell_of_row w3 g 1 _ _ _ hg.out).trans (show _=some (.int .i64 v1) from rfl)
 have z2:=frozen_of_row w3 g 2 _ _ hg.out
 have c2:=(cell_of_row w3 g 2 _ _ _ hg.out).trans (show _=some (.string ⟨s1.toArray⟩) from rfl)
 have z3:=frozen_of_row w3 g 3 _ _ hg.out
 have c3:=(cell_of_row w3 g 3 _ _ _ hg.out).trans (show _=some (.int .i64 v1) from rfl)
 have z4:=frozen_of_row w3 g 4 _ _ hg.out
 have c4:=(cell_of_row w3 g 4 _ _ _ hg.out).trans (show _=some (.string ⟨s2.toArray⟩) from rfl)
 have z5:=frozen_of_row w3 g 5 _ _ hg.out
 have c5:=(cell_of_row w3 g 5 _ _ _ hg.out).trans (show _=some (.int .i64 v2) from rfl)
 go_wp2
 replace hg:=show Hid (((w3.setCell ⟨g,2,none⟩ (.string ⟨s2.toArray⟩)).setCell ⟨g,3,none⟩ (.int .i64 v2)).heap[g]?=some (.cells #[.string ⟨s1.toArray⟩,.int .i64 v1,.string ⟨s2.toArray⟩,.int .i64 v2,.string ⟨s2.toArray⟩,.int .i64 v2,.string ⟨#[]⟩,.int .i64 0] 137 (0,0))) from (heap_setCell_same _ g 3 _ _ (.int .i64 v2) ((heap_setCell_same w3 g 2 _ _ (.string ⟨s2.toArray⟩) hg.out))).trans rfl
 replace hb:=show Hid (((w3.setCell ⟨g,2,none⟩ (.string ⟨s2.toArray⟩)).setCell ⟨g,3,none⟩ (.int .i64 v2)).cell? ⟨b,0,none⟩=some (.int .i64 v)) from by show _=_;rw [L8.other _ (Or.inl (Ne.symm hbg)),L8.other _ (Or.inl (Ne.symm hbg))];exact hb.out
 replace hX:=show Hid (Exr g w ((w3.setCell ⟨g,2,none⟩ (.string ⟨s2.toArray⟩)).setCell ⟨g,3,none⟩ (.int .i64 v2))) from (hX.out.set _ _).set _ _
 clear z0 c0 z1 c1 z2 c2 z3 c3 z4 c4 z5 c5
 clear b0 b1
 obtain⟨y3,hW⟩:∃ W,((w3.setCell ⟨g,2,none⟩ (.string ⟨s2.toArray⟩)).setCell ⟨g,3,none⟩ (.int .i64 v2))=W:=⟨_,rfl⟩
 rw [hW] at hg hb hX ⊢
 clear hW
 have z0:=frozen_of_row y3 g 0 _ _ hg.out
 have c0:=(cell_of_row y3 g 0 _ _ _ hg.out).trans (show _=some (.string ⟨s1.toArray⟩) from rfl)
 have z1:=frozen_of_row y3 g 1 _ _ hg.out
 have c1:=(cell_of_row y3 g 1 _ _ _ hg.out).trans (show _=some (.int .i64 v1) from rfl)
 have z2:=frozen_of_row y3 g 2 _ _ hg.out
 have c2:=(cell_of_row y3 g 2 _ _ _ hg.out).trans (show _=some (.string ⟨s2.toArray⟩) from rfl)
 have z3:=frozen_of_row y3 g 3 _ _ hg.out
 have c3:=(cell_of_row y3 g 3 _ _ _ hg.out).trans (show _=some (.int .i64 v2) from rfl)
 have z4:=frozen_of_row y3 g 4 _ _ hg.out
 have c4:=(cell_of_row y3 g 4 _ _ _ hg.out).trans (show _=some (.string ⟨s2.toArray⟩) from rfl)
 have z5:=frozen_of_row y3 g 5 _ _ hg.out
 have c5:=(cell_of_row y3 g 5 _ _ _ hg.out).trans (show _=some (.int .i64 v2) from rfl)
 have hcl:=fun ty=>clear_one y3 ty g 4 2 _ _ c4 c5 z4 z5
 rw [rounds_succ]
 go_wp2_with (simp only [hcl])
 go_ret
 exact⟨rfl,(heap_setCell_same _ g 5 _ _ (.int .i64 0) (heap_setCell_same y3 g 4 _ _ (.string ⟨#[]⟩) hg.out)).trans rfl,(hX.out.set _ _).set _ _⟩
theorem del31 (g b:Nat)(s0 s1 s2:List UInt8)(v0 v2 v:Int)(w:World)(hb:w.cell? ⟨b,0,none⟩=some (.int .i64 v))(hg:w.heap[g]?=some (.cells #[.string ⟨s0.toArray⟩,.int .i64 v0,.string ⟨s1.toArray⟩,.int .i64 v,.string ⟨s2.toArray⟩,.int .i64 v2,.string ⟨#[]⟩,.int .i64 0] 137 (0,0)))(n0:(v0==v)=false)(n2:(v2==v)=false) :
  Calls Tryz.prog 121 #[.slice (some ⟨g,0,none⟩) 3 4,.func (.func 122) #[] #[.pointer (some ⟨b,0,none⟩)]] w fun e w'=>e=.returned (.slice (some ⟨g,0,none⟩) 2 4)∧w'.heap[g]?=some (.cells #[.string ⟨s0.toArray⟩,.int .i64 v0,.string ⟨s2.toArray⟩,.int .i64 v2,.string ⟨#[]⟩,.int .i64 0,.string ⟨#[]⟩,.int .i64 0] 137 (0,0))∧Exr g w w':=by
 have hbg:b≠g:=by
  rintro rfl
  have:=(cell_of_row w b 0 _ _ _ hg).symm.trans hb
  simp at this
 have hbl:=lt_of_cell hb
 have hgl:=(Array.getElem?_eq_some_iff.1 hg).1
 have ho:Hid (Opt w g [(s0,v0),(s1,v),(s2,v2)]):=⟨fun k u x hk=>by
  match k,hk with
  | 0,e =>
   obtain⟨rfl,rfl⟩:s0=u∧v0=x:=by simpa using e
   exact⟨(cell_of_row w g 0 _ _ _ hg).trans rfl,(cell_of_row w g 1 _ _ _ hg).trans rfl⟩
  | 1,e =>
   obtain⟨rfl,rfl⟩:s1=u∧v=x:=by simpa using e
   exact⟨(cell_of_row w g 2 _ _ _ hg).trans rfl,(cell_of_row w g 3 _ _ _ hg).trans rfl⟩
  | 2,e =>
   obtain⟨rfl,rfl⟩:s2=u∧v2=x:=by simpa using e
   exact⟨(cell_of_row w g 4 _ _ _ hg).trans rfl,(cell_of_row w g 5 _ _ _ hg).trans rfl⟩
  | k+3,e=>simp at e⟩
 replace hg:=hid hg
 replace hb:=hid hb
 go_enter Tryz.func121,Tryz.ntmps121
 go_wp2_with fail
 refine (idxV_c g 4 b 1 [(s0,v0),(s1,v),(s2,v2)] s1 v _ (by simp) ho.out hb.out rfl ?_).mono ?_
 ·intro j u x hj hk
  match j,hj,hk with
  | 0,_,e =>
   obtain⟨rfl,rfl⟩:s0=u∧v0=x:=by simpa using e
   simpa using n0
  | j+1,hj,_=>omega
 rintro e w1 ⟨rfl,hx⟩
 clear ho
 replace hg:=hid <| (hx.below.block g hgl).trans hg.out
 replace hb:=hid <| hx.cell_of hb.out
 have hX:Hid (Exr g w w1):=.of hx
 clear hx hgl hbl
 go_wp2_with fail
 refine wp_loop_rounds 2 ?_
 have z0:=frozen_of_row w1 g 0 _ _ hg.out
 have c0:=(cell_of_row w1 g 0 _ _ _ hg.out).trans (show _=some (.string ⟨s0.toArray⟩) from rfl)
 have z1:=frozen_of_row w1 g 1 _ _ hg.out
 have c1:=(cell_of_row w1 g 1 _ _ _ hg.out).trans (show _=some (.int .i64 v0) from rfl)
 have z2:=frozen_of_row w1 g 2 _ _ hg.out
 have c2:=(cell_of_row w1 g 2 _ _ _ hg.out).trans (show _=some (.string ⟨s1.toArray⟩) from rfl)
 have z3:=frozen_of_row w1 g 3 _ _ hg.out
 have c3:=(cell_of_row w1 g 3 _ _ _ hg.out).trans (show _=some (.int .i64 v) from rfl)
 have z4:=frozen_of_row w1 g 4 _ _ hg.out
 have c4:=(cell_of_row w1 g 4 _ _ _ hg.out).trans (show _=some (.string ⟨s2.toArray⟩) from rfl)
 have z5:=frozen_of_row w1 g 5 _ _ hg.out
 have c5:=(cell_of_row w1 g 5 _ _ _ hg.out).trans (show _=some (.int .i64 v2) from rfl)
 rw [rounds_succ]
 go_wp2_with fail
 refine (order1_c s2 v2 v b _ (((Ext.refl w1).alloc _ _).cell_of hb.out)).mono ?_
 rintro e w2 ⟨rfl,hx⟩
 have b0:w2.cell? ⟨w1.heap.size,0,none⟩=some (.string ⟨s2.toArray⟩):=hx.cell_of (by simp [go_sem])
 have b1:w2.cell? ⟨w1.heap.size,1,none⟩=some (.int .i64 v2):=hx.cell_of (by simp [go_sem])
 replace hx:=((Ext.refl w1).alloc _ _).trans hx
 have hgl:=(Array.getElem?_eq_some_iff.1 hg.out).1
 replace hg:=hid <| (hx.below.block g hgl).trans hg.out
 replace hb:=hid <| hx.cell_of hb.out
 replace hX:=show Hid (Exr g w w2) from hX.out.on hx
 clear hx hgl
 clear z0 c0 z1 c1 z2 c2 z3 c3 z4 c4 z5 c5
 have z0:=frozen_of_row w2 g 0 _ _ hg.out
 have c0:=(cell_of_row w2 g 0 _ _ _ hg.out).trans (show _=some (.string ⟨s0.toArray⟩) from rfl)
 have z1:=frozen_of_row w2 g 1 _ _ hg.out
 have c1:=(cell_of_row w2 g 1 _ _ _ hg.out).trans (show _=some (.int .i64 v0) from rfl)
 have z2:=frozen_of_row w2 g 2 _ _ hg.out
 have c2:=(cell_of_row w2 g 2 _ _ _ hg.out).trans (show _=some (.string ⟨s1.toArray⟩) from rfl)
 have z3:=frozen_of_row w2 g 3 _ _ hg.out
 have c3:=(cell_of_row w2 g 3 _ _ _ hg.out).trans (show _=some (.int .i64 v) from rfl)
 have z4:=frozen_of_row w2 g 4 _ _ hg.out
 have c4:=(cell_of_row w2 g 4 _ _ _ hg.out).trans (show _=some (.string ⟨s2.toArray⟩) from rfl)
 have z5:=frozen_of_row w2 g 5 _ _ hg.out
 have c5:=(cell_of_row w2 g 5 _ _ _ hg.out).trans (show _=some (.int .i64 v2) from rfl)
 go_wp2
 replace hg:=show Hid (((w2.setCell ⟨g,2,none⟩ (.string ⟨s2.toArray⟩)).setCell ⟨g,3,none⟩ (.int .i64 v2)).heap[g]?=some (.cells #[.string ⟨s0.toArray⟩,.int .i64 v0,.string ⟨s2.toArray⟩,.int .i64 v2,.string ⟨s2.toArray⟩,.int .i64 v2,.string ⟨#[]⟩,.int .i64 0] 137 (0,0))) from (heap_setCell_same _ g 3 _ _ (.int .i64 v2) ((heap_setCell_same w2 g 2 _ _ (.string ⟨s2.toArray⟩) hg.out))).trans rfl
 replace hb:=show Hid (((w2.setCell ⟨g,2,none⟩ (.string ⟨s2.toArray⟩)).setCell ⟨g,3,none⟩ (.int .i64 v2)).cell? ⟨b,0,none⟩=some (.int .i64 v)) from by show _=_;rw [L8.other _ (Or.inl (Ne.symm hbg)),L8.other _ (Or.inl (Ne.symm hbg))];exact hb.out
 replace hX:=show Hid (Exr g w ((w2.setCell ⟨g,2,none⟩ (.string ⟨s2.toArray⟩)).setCell ⟨g,3,none⟩ (.int .i64 v2))) from (hX.out.set _ _).set _ _
 clear z0 c0 z1 c1 z2 c2 z3 c3 z4 c4 z5 c5
 clear b0 b1
 obtain⟨y2,hW⟩:∃ W,((w2.setCell ⟨g,2,none⟩ (.string ⟨s2.toArray⟩)).setCell ⟨g,3,none⟩ (.int .i64 v2))=W:=⟨_,rfl⟩
 rw [hW] at hg hb hX ⊢
 clear hW
 have z0:=frozen_of_row y2 g 0 _ _ hg.out
 have c0:=(cell_of_row y2 g 0 _ _ _ hg.out).trans (show _=some (.string ⟨s0.toArray⟩) from rfl)
 have z1:=frozen_of_row y2 g 1 _ _ hg.out
 have c1:=(cell_of_row y2 g 1 _ _ _ hg.out).trans (show _=some (.int .i64 v0) from rfl)
 have z2:=frozen_of_row y2 g 2 _ _ hg.out
 have c2:=(cell_of_row y2 g 2 _ _ _ hg.out).trans (show _=some (.string ⟨s2.toArray⟩) from rfl)
 have z3:=frozen_of_row y2 g 3 _ _ hg.out
 have c3:=(cell_of_row y2 g 3 _ _ _ hg.out).trans (show _=some (.int .i64 v2) from rfl)
 have z4:=frozen_of_row y2 g 4 _ _ hg.out
 have c4:=(cell_of_row y2 g 4 _ _ _ hg.out).trans (show _=some (.string ⟨s2.toArray⟩) from rfl)
 have z5:=frozen_of_row y2 g 5 _ _ hg.out
 have c5:=(cell_of_row y2 g 5 _ _ _ hg.out).trans (show _=some (.int .i64 v2) from rfl)
 have hcl:=fun ty=>clear_one y2 ty g 4 2 _ _ c4 c5 z4 z5
 rw [rounds_succ]
 go_wp2_with (simp only [hcl])
 go_ret
 exact⟨rfl,(heap_setCell_same _ g 5 _ _ (.int .i64 0) (heap_setCell_same y2 g 4 _ _ (.string ⟨#[]⟩) hg.out)).trans rfl,(hX.out.set _ _).set _ _⟩
theorem del32 (g b:Nat)(s0 s1 s2:List UInt8)(v0 v1 v:Int)(w:World)(hb:w.cell? ⟨b,0,none⟩=some (.int .i64 v))(hg:w.heap[g]?=some (.cells #[.string ⟨s0.toArray⟩,.int .i64 v0,.string ⟨s1.toArray⟩,.int .i64 v1,.string ⟨s2.toArray⟩,.int .i64 v,.string ⟨#[]⟩,.int .i64 0] 137 (0,0)))(n0:(v0==v)=false)(n1:(v1==v)=false) :
  Calls Tryz.prog 121 #[.slice (some ⟨g,0,none⟩) 3 4,.func (.func 122) #[] #[.pointer (some ⟨b,0,none⟩)]] w fun e w'=>e=.returned (.slice (some ⟨g,0,none⟩) 2 4)∧w'.heap[g]?=some (.cells #[.string ⟨s0.toArray⟩,.int .i64 v0,.string ⟨s1.toArray⟩,.int .i64 v1,.string ⟨#[]⟩,.int .i64 0,.string ⟨#[]⟩,.int .i64 0] 137 (0,0))∧Exr g w w':=by
 have hbg:b≠g:=by
  rintro rfl
  have:=(cell_of_row w b 0 _ _ _ hg).symm.trans hb
  simp at this
 have hbl:=lt_of_cell hb
 have hgl:=(Array.getElem?_eq_some_iff.1 hg).1
 have ho:Hid (Opt w g [(s0,v0),(s1,v1),(s2,v)]):=⟨fun k u x hk=>by
  match k,hk with
  | 0,e =>
   obtain⟨rfl,rfl⟩:s0=u∧v0=x:=by simpa using e
   exact⟨(cell_of_row w g 0 _ _ _ hg).trans rfl,(cell_of_row w g 1 _ _ _ hg).trans rfl⟩
  | 1,e =>
   obtain⟨rfl,rfl⟩:s1=u∧v1=x:=by simpa using e
   exact⟨(cell_of_row w g 2 _ _ _ hg).trans rfl,(cell_of_row w g 3 _ _ _ hg).trans rfl⟩
  | 2,e =>
   obtain⟨rfl,rfl⟩:s2=u∧v=x:=by simpa using e
   exact⟨(cell_of_row w g 4 _ _ _ hg).trans rfl,(cell_of_row w g 5 _ _ _ hg).trans rfl⟩
  | k+3,e=>simp at e⟩
 replace hg:=hid hg
 replace hb:=hid hb
 go_enter Tryz.func121,Tryz.ntmps121
 go_wp2_with fail
 refine (idxV_c g 4 b 2 [(s0,v0),(s1,v1),(s2,v)] s2 v _ (by simp) ho.out hb.out rfl ?_).mono ?_
 ·intro j u x hj hk
  match j,hj,hk with
  | 0,_,e =>
   obtain⟨rfl,rfl⟩:s0=u∧v0=x:=by simpa using e
   simpa using n0
  | 1,_,e =>
   obtain⟨rfl,rfl⟩:s1=u∧v1=x:=by simpa using e
   simpa using n1
  | j+2,hj,_=>omega
 rintro e w1 ⟨rfl,hx⟩
 clear ho
 replace hg:=hid <| (hx.below.block g hgl).trans hg.out
 replace hb:=hid <| hx.cell_of hb.out
 have hX:Hid (Exr g w w1):=.of hx
 clear hx hgl hbl
 go_wp2_with fail
 refine wp_loop_rounds 1 ?_
 have z0:=frozen_of_row w1 g 0 _ _ hg.out
 have c0:=(cell_of_row w1 g 0 _ _ _ hg.out).trans (show _=some (.string ⟨s0.toArray⟩) from rfl)
 have z1:=frozen_of_row w1 g 1 _ _ hg.out
 have c1:=(cell_of_row w1 g 1 _ _ _ hg.out).trans (show _=some (.int .i64 v0) from rfl)
 have z2:=frozen_of_row w1 g 2 _ _ hg.out
 have c2:=(cell_of_row w1 g 2 _ _ _ hg.out).trans (show _=some (.string ⟨s1.toArray⟩) from rfl)
 have z3:=frozen_of_row w1 g 3 _ _ hg.out
 have c3:=(cell_of_row w1 g 3 _ _ _ hg.out).trans (show _=some (.int .i64 v1) from rfl)
 have z4:=frozen_of_row w1 g 4 _ _ hg.out
 have c4:=(cell_of_row w1 g 4 _ _ _ hg.out).trans (show _=some (.string ⟨s2.toArray⟩) from rfl)
 have z5:=frozen_of_row w1 g 5 _ _ hg.out
 have c5:=(cell_of_row w1 g 5 _ _ _ hg.out).trans (show _=some (.int .i64 v) from rfl)
 have hcl:=fun ty=>clear_one w1 ty g 4 2 _ _ c4 c5 z4 z5
 rw [rounds_succ]
 go_wp2_with (simp only [hcl])
 go_ret
 exact⟨rfl,(heap_setCell_same _ g 5 _ _ (.int .i64 0) (heap_setCell_same w1 g 4 _ _ (.string ⟨#[]⟩) hg.out)).trans rfl,(hX.out.set _ _).set _ _⟩
theorem del20 (g b:Nat)(s0 s1:List UInt8)(v1 v:Int)(w:World)(hb:w.cell? ⟨b,0,none⟩=some (.int .i64 v))(hg:w.heap[g]?=some (.cells #[.string ⟨s0.toArray⟩,.int .i64 v,.string ⟨s1.toArray⟩,.int .i64 v1,.string ⟨#[]⟩,.int .i64 0,.string ⟨#[]⟩,.int .i64 0] 137 (0,0)))(n1:(v1==v)=false) :
  Calls Tryz.prog 121 #[.slice (some ⟨g,0,none⟩) 2 4,.func (.func 122) #[] #[.pointer (some ⟨b,0,none⟩)]] w fun e w'=>e=.returned (.slice (some ⟨g,0,none⟩) 1 4)∧w'.heap[g]?=some (.cells #[.string ⟨s1.toArray⟩,.int .i64 v1,.string ⟨#[]⟩,.int .i64 0,.string ⟨#[]⟩,.int .i64 0,.string ⟨#[]⟩,.int .i64 0] 137 (0,0))∧Exr g w w':=by
 have hbg:b≠g:=by
  rintro rfl
  have:=(cell_of_row w b 0 _ _ _ hg).symm.trans hb
  simp at this
 have hbl:=lt_of_cell hb
 have hgl:=(Array.getElem?_eq_some_iff.1 hg).1
 have ho:Hid (Opt w g [(s0,v),(s1,v1)]):=⟨fun k u x hk=>by
  match k,hk with
  | 0,e =>
   obtain⟨rfl,rfl⟩:s0=u∧v=x:=by simpa using e
   exact⟨(cell_of_row w g 0 _ _ _ hg).trans rfl,(cell_of_row w g 1 _ _ _ hg).trans rfl⟩
  | 1,e =>
   obtain⟨rfl,rfl⟩:s1=u∧v1=x:=by simpa using e
   exact⟨(cell_of_row w g 2 _ _ _ hg).trans rfl,(cell_of_row w g 3 _ _ _ hg).trans rfl⟩
  | k+2,e=>simp at e⟩
 replace hg:=hid hg
 replace hb:=hid hb
 go_enter Tryz.func121,Tryz.ntmps121
 go_wp2_with fail
 refine (idxV_c g 4 b 0 [(s0,v),(s1,v1)] s0 v _ (by simp) ho.out hb.out rfl ?_).mono ?_
 ·intro j u x hj hk
  omega
 rintro e w1 ⟨rfl,hx⟩
 clear ho
 replace hg:=hid <| (hx.below.block g hgl).trans hg.out
 replace hb:=hid <| hx.cell_of hb.out
 have hX:Hid (Exr g w w1):=.of hx
 clear hx hgl hbl
 go_wp2_with fail
 refine wp_loop_rounds 2 ?_
 have z0:=frozen_of_row w1 g 0 _ _ hg.out
 have c0:=(cell_of_row w1 g 0 _ _ _ hg.out).trans (show _=some (.string ⟨s0.toArray⟩) from rfl)
 have z1:=frozen_of_row w1 g 1 _ _ hg.out
 have c1:=(cell_of_row w1 g 1 _ _ _ hg.out).trans (show _=some (.int .i64 v) from rfl)
 have z2:=frozen_of_row w1 g 2 _ _ hg.out
 have c2:=(cell_of_row w1 g 2 _ _ _ hg.out).trans (show _=some (.string ⟨s1.toArray⟩) from rfl)
 have z3:=frozen_of_row w1 g 3 _ _ hg.out
 have c3:=(cell_of_row w1 g 3 _ _ _ hg.out).trans (show _=some (.int .i64 v1) from rfl)
 rw [rounds_succ]
 go_wp2_with fail
 refine (order1_c s1 v1 v b _ (((Ext.refl w1).alloc _ _).cell_of hb.out)).mono ?_
 rintro e w2 ⟨rfl,hx⟩
 have b0:w2.cell? ⟨w1.heap.size,0,none⟩=some (.string ⟨s1.toArray⟩):=hx.cell_of (by simp [go_sem])
 have b1:w2.cell? ⟨w1.heap.size,1,none⟩=some (.int .i64 v1):=hx.cell_of (by simp [go_sem])
 replace hx:=((Ext.refl w1).alloc _ _).trans hx
 have hgl:=(Array.getElem?_eq_some_iff.1 hg.out).1
 replace hg:=hid <| (hx.below.block g hgl).trans hg.out
 replace hb:=hid <| hx.cell_of hb.out
 replace hX:=show Hid (Exr g w w2) from hX.out.on hx
 clear hx hgl
 clear z0 c0 z1 c1 z2 c2 z3 c3
 have z0:=frozen_of_row w2 g 0 _ _ hg.out
 have c0:=(cell_of_row w2 g 0 _ _ _ hg.out).trans (show _=some (.string ⟨s0.toArray⟩) from rfl)
 have z1:=frozen_of_row w2 g 1 _ _ hg.out
 have c1:=(cell_of_row w2 g 1 _ _ _ hg.out).trans (show _=some (.int .i64 v) from rfl)
 have z2:=frozen_of_row w2 g 2 _ _ hg.out
 have c2:=(cell_of_row w2 g 2 _ _ _ hg.out).trans (show _=some (.string ⟨s1.toArray⟩) from rfl)
 have z3:=frozen_of_row w2 g 3 _ _ hg.out
 have c3:=(cell_of_row w2 g 3 _ _ _ hg.out).trans (show _=some (.int .i64 v1) from rfl)
 go_wp2
 replace hg:=show Hid (((w2.setCell ⟨g,0,none⟩ (.string ⟨s1.toArray⟩)).setCell ⟨g,1,none⟩ (.int .i64 v1)).heap[g]?=some (.cells #[.string ⟨s1.toArray⟩,.int .i64 v1,.string ⟨s1.toArray⟩,.int .i64 v1,.string ⟨#[]⟩,.int .i64 0,.string ⟨#[]⟩,.int .i64 0] 137 (0,0))) from (heap_setCell_same _ g 1 _ _ (.int .i64 v1) ((heap_setCell_same w2 g 0 _ _ (.string ⟨s1.toArray⟩) hg.out))).trans rfl
 replace hb:=show Hid (((w2.setCell ⟨g,0,none⟩ (.string ⟨s1.toArray⟩)).setCell ⟨g,1,none⟩ (.int .i64 v1)).cell? ⟨b,0,none⟩=some (.int .i64 v)) from by show _=_;rw [L8.other _ (Or.inl (Ne.symm hbg)),L8.other _ (Or.inl (Ne.symm hbg))];exact hb.out
 replace hX:=show Hid (Exr g w ((w2.setCell ⟨g,0,none⟩ (.string ⟨s1.toArray⟩)).setCell ⟨g,1,none⟩ (.int .i64 v1))) from (hX.out.set _ _).set _ _
 clear z0 c0 z1 c1 z2 c2 z3 c3
 clear b0 b1
 obtain⟨y2,hW⟩:∃ W,((w2.setCell ⟨g,0,none⟩ (.string ⟨s1.toArray⟩)).setCell ⟨g,1,none⟩ (.int .i64 v1))=W:=⟨_,rfl⟩
 rw [hW] at hg hb hX ⊢
 clear hW
 have z0:=frozen_of_row y2 g 0 _ _ hg.out
 have c0:=(cell_of_row y2 g 0 _ _ _ hg.out).trans (show _=some (.string ⟨s1.toArray⟩) from rfl)
 have z1:=frozen_of_row y2 g 1 _ _ hg.out
 have c1:=(cell_of_row y2 g 1 _ _ _ hg.out).trans (show _=some (.int .i64 v1) from rfl)
 have z2:=frozen_of_row y2 g 2 _ _ hg.out
 have c2:=(cell_of_row y2 g 2 _ _ _ hg.out).trans (show _=some (.string ⟨s1.toArray⟩) from rfl)
 have z3:=frozen_of_row y2 g 3 _ _ hg.out
 have c3:=(cell_of_row y2 g 3 _ _ _ hg.out).trans (show _=some (.int .i64 v1) from rfl)
 have hcl:=fun ty=>clear_one y2 ty g 2 3 _ _ c2 c3 z2 z3
 rw [rounds_succ]
 go_wp2_with (simp only [hcl])
 go_ret
 exact⟨rfl,(heap_setCell_same _ g 3 _ _ (.int .i64 0) (heap_setCell_same y2 g 2 _ _ (.string ⟨#[]⟩) hg.out)).trans rfl,(hX.out.set _ _).set _ _⟩
theorem del21 (g b:Nat)(s0 s1:List UInt8)(v0 v:Int)(w:World)(hb:w.cell? ⟨b,0,none⟩=some (.int .i64 v))(hg:w.heap[g]?=some (.cells #[.string ⟨s0.toArray⟩,.int .i64 v0,.string ⟨s1.toArray⟩,.int .i64 v,.string ⟨#[]⟩,.int .i64 0,.string ⟨#[]⟩,.int .i64 0] 137 (0,0)))(n0:(v0==v)=false) :
  Calls Tryz.prog 121 #[.slice (some ⟨g,0,none⟩) 2 4,.func (.func 122) #[] #[.pointer (some ⟨b,0,none⟩)]] w fun e w'=>e=.returned (.slice (some ⟨g,0,none⟩) 1 4)∧w'.heap[g]?=some (.cells #[.string ⟨s0.toArray⟩,.int .i64 v0,.string ⟨#[]⟩,.int .i64 0,.string ⟨#[]⟩,.int .i64 0,.string ⟨#[]⟩,.int .i64 0] 137 (0,0))∧Exr g w w':=by
 have hbg:b≠g:=by
  rintro rfl
  have:=(cell_of_row w b 0 _ _ _ hg).symm.trans hb
  simp at this
 have hbl:=lt_of_cell hb
 have hgl:=(Array.getElem?_eq_some_iff.1 hg).1
 have ho:Hid (Opt w g [(s0,v0),(s1,v)]):=⟨fun k u x hk=>by
  match k,hk with
  | 0,e =>
   obtain⟨rfl,rfl⟩:s0=u∧v0=x:=by simpa using e
   exact⟨(cell_of_row w g 0 _ _ _ hg).trans rfl,(cell_of_row w g 1 _ _ _ hg).trans rfl⟩
  | 1,e =>
   obtain⟨rfl,rfl⟩:s1=u∧v=x:=by simpa using e
   exact⟨(cell_of_row w g 2 _ _ _ hg).trans rfl,(cell_of_row w g 3 _ _ _ hg).trans rfl⟩
  | k+2,e=>simp at e⟩
 replace hg:=hid hg
 replace hb:=hid hb
 go_enter Tryz.func121,Tryz.ntmps121
 go_wp2_with fail
 refine (idxV_c g 4 b 1 [(s0,v0),(s1,v)] s1 v _ (by simp) ho.out hb.out rfl ?_).mono ?_
 ·intro j u x hj hk
  match j,hj,hk with
  | 0,_,e =>
   obtain⟨rfl,rfl⟩:s0=u∧v0=x:=by simpa using e
   simpa using n0
  | j+1,hj,_=>omega
 rintro e w1 ⟨rfl,hx⟩
 clear ho
 replace hg:=hid <| (hx.below.block g hgl).trans hg.out
 replace hb:=hid <| hx.cell_of hb.out
 have hX:Hid (Exr g w w1):=.of hx
 clear hx hgl hbl
 go_wp2_with fail
 refine wp_loop_rounds 1 ?_
 have z0:=frozen_of_row w1 g 0 _ _ hg.out
 have c0:=(cell_of_row w1 g 0 _ _ _ hg.out).trans (show _=some (.string ⟨s0.toArray⟩) from rfl)
 have z1:=frozen_of_row w1 g 1 _ _ hg.out
 have c1:=(cell_of_row w1 g 1 _ _ _ hg.out).trans (show _=some (.int .i64 v0) from rfl)
 have z2:=frozen_of_row w1 g 2 _ _ hg.out
 have c2:=(cell_of_row w1 g 2 _ _ _ hg.out).trans (show _=some (.string ⟨s1.toArray⟩) from rfl)
 have z3:=frozen_of_row w1 g 3 _ _ hg.out
 have c3:=(cell_of_row w1 g 3 _ _ _ hg.out).trans (show _=some (.int .i64 v) from rfl)
 have hcl:=fun ty=>clear_one w1 ty g 2 3 _ _ c2 c3 z2 z3
 rw [rounds_succ]
 go_wp2_with (simp only [hcl])
 go_ret
 exact⟨rfl,(heap_setCell_same _ g 3 _ _ (.int .i64 0) (heap_setCell_same w1 g 2 _ _ (.string ⟨#[]⟩) hg.out)).trans rfl,(hX.out.set _ _).set _ _⟩
theorem del10 (g b:Nat)(s0:List UInt8)(v:Int)(w:World)(hb:w.cell? ⟨b,0,none⟩=some (.int .i64 v))(hg:w.heap[g]?=some (.cells #[.string ⟨s0.toArray⟩,.int .i64 v,.string ⟨#[]⟩,.int .i64 0,.string ⟨#[]⟩,.int .i64 0,.string ⟨#[]⟩,.int .i64 0] 137 (0,0))) :
  Calls Tryz.prog 121 #[.slice (some ⟨g,0,none⟩) 1 4,.func (.func 122) #[] #[.pointer (some ⟨b,0,none⟩)]] w fun e w'=>e=.returned (.slice (some ⟨g,0,none⟩) 0 4)∧w'.heap[g]?=some (.cells #[.string ⟨#[]⟩,.int .i64 0,.string ⟨#[]⟩,.int .i64 0,.string ⟨#[]⟩,.int .i64 0,.string ⟨#[]⟩,.int .i64 0] 137 (0,0))∧Exr g w w':=by
 have hbg:b≠g:=by
  rintro rfl
  have:=(cell_of_row w b 0 _ _ _ hg).symm.trans hb
  simp at this
 have hbl:=lt_of_cell hb
 have hgl:=(Array.getElem?_eq_some_iff.1 hg).1
 have ho:Hid (Opt w g [(s0,v)]):=⟨fun k u x hk=>by
  match k,hk with
  | 0,e =>
   obtain⟨rfl,rfl⟩:s0=u∧v=x:=by simpa using e
   exact⟨(cell_of_row w g 0 _ _ _ hg).trans rfl,(cell_of_row w g 1 _ _ _ hg).trans rfl⟩
  | k+1,e=>simp at e⟩
 replace hg:=hid hg
 replace hb:=hid hb
 go_enter Tryz.func121,Tryz.ntmps121
 go_wp2_with fail
 refine (idxV_c g 4 b 0 [(s0,v)] s0 v _ (by simp) ho.out hb.out rfl ?_).mono ?_
 ·intro j u x hj hk
  omega
 rintro e w1 ⟨rfl,hx⟩
 clear ho
 replace hg:=hid <| (hx.below.block g hgl).trans hg.out
 replace hb:=hid <| hx.cell_of hb.out
 have hX:Hid (Exr g w w1):=.of hx
 clear hx hgl hbl
 go_wp2_with fail
 refine wp_loop_rounds 1 ?_
 have z0:=frozen_of_row w1 g 0 _ _ hg.out
 have c0:=(cell_of_row w1 g 0 _ _ _ hg.out).trans (show _=some (.string ⟨s0.toArray⟩) from rfl)
 have z1:=frozen_of_row w1 g 1 _ _ hg.out
 have c1:=(cell_of_row w1 g 1 _ _ _ hg.out).trans (show _=some (.int .i64 v) from rfl)
 have hcl:=fun ty=>clear_one w1 ty g 0 4 _ _ c0 c1 z0 z1
 rw [rounds_succ]
 go_wp2_with (simp only [hcl])
 go_ret
 exact⟨rfl,(heap_setCell_same _ g 1 _ _ (.int .i64 0) (heap_setCell_same w1 g 0 _ _ (.string ⟨#[]⟩) hg.out)).trans rfl,(hX.out.set _ _).set _ _⟩
def ordF:Nat→Opts→List Tok→Res (List Int×List Tok)
 | 0,_,ts=>.ok ([],ts)
 | k+1,o,ts=>(tk (pick o) ts).bind fun a=>(ordF k (lessO o a.1) a.2).bind fun b=>.ok (a.1::b.1,b.2)
def ordP (p:Prd)(ch:List Int):Prd:={ p with o0:=ch.getD 0 p.o0,o1:=ch.getD 1 p.o1,o2:=ch.getD 2 p.o2,o3:=ch.getD 3 p.o3 }
theorem Res.bind_assoc {α β γ:Type}(r:Res α)(f:α→Res β)(g:β→Res γ):(r.bind f).bind g=r.bind fun a=>(f a).bind g:=by cases r <;> rfl
theorem order_ord (p:Prd)(ts:List Tok):orderR p ts=(ordF 4 oOrder ts).bind fun b=>.ok (ordP p b.1,b.2):=by
 unfold orderR
 simp only [ordF,Res.bind_assoc]
 rfl
def orow (o:Opts):Array Value:=((o.flatMap fun x=>[Value.string ⟨x.1.toArray⟩,Value.int .i64 x.2])++(List.replicate (4-o.length) [Value.string ⟨#[]⟩,Value.int .i64 0]).flatten).toArray
theorem Inn.far {wf w0 w w':World}{r c g:Nat}{vr vl vh:Value}{s:St}{cells:Array Value}(h:Inn wf w0 w r c vr vl vh s)(hx:Exr g w w')(hg:w.heap[g]?=some (Obj.cells cells 137 (0,0)))(hl:w0.heap.size≤g):Inn wf w0 w' r c vr vl vh s:=by
 have hk:∀ (f:TypeId),f≠137→∀ (k:Nat) (cur:Array Value),w.heap[k]?=some (Obj.cells cur f (0,0))→w'.heap[k]?=w.heap[k]?:=fun f hf k cur hk=>hx.block k (Array.getElem?_eq_some_iff.1 hk).1 (by
  rintro rfl
  have:=hk.symm.trans hg
  simp at this
  exact hf this.2)
 obtain⟨vt,hr,ht⟩:=h.row
 exact⟨hx.ext h.ext hl,h.lo,h.loc,⟨vt,(hk _ (by decide) _ _ hr).trans hr,ht⟩,(hk _ (by decide) _ _ h.cls).trans h.cls,own_keep h.sr (hk _ (by decide)),own_keep h.sl (hk _ (by decide)),own_keep h.sh (hk _ (by decide)),h.kp.go fun f k cur hf=>hk f (by rcases hf with rfl | rfl <;> decide) k cur⟩
structure Chs (wf w0 wr:World)(r c g:Nat)(vr vl vh:Value)(s:St)(k:Nat)(o:Opts)(ch:List Int)(ts:List Tok):Prop where
 len:o.length+k=4
 num:ch.length=k
 inn:Inn wf w0 wr r c vr vl vh { s with ts:=ts,p:=ordP s.p ch }
 fine:Fine { s with ts:=ts,p:=ordP s.p ch }
 row:wr.heap[g]?=some (Obj.cells (orow o) 137 (0,0))
 ok:ordF 4 oOrder s.ts=(ordF o.length o ts).bind fun b=>.ok (ch++b.1,b.2)
 two:(o.map (·.2)).Nodup
 wrd:∀ x∈o,x.1≠[]
theorem opt_of {w:World}{g:Nat}{o:Opts}(ho:o.length≤4)(h:w.heap[g]?=some (Obj.cells (orow o) 137 (0,0))):Opt w g o:=by
 refine⟨fun k s v hk=>?_⟩
 have hl:∀ (o:Opts) (k:Nat),o[k]?=some (s,v)→(o.flatMap fun x=>[Value.string ⟨x.1.toArray⟩,Value.int .i64 x.2])[k * 2]?=some (.string ⟨s.toArray⟩)∧(o.flatMap fun x=>[Value.string ⟨x.1.toArray⟩,Value.int .i64 x.2])[k * 2+1]?=some (.int .i64 v):=by
  intro o
  induction o with
  | nil=>intro k hk;simp at hk
  | cons x o ih =>
   intro k hk
   cases k with
   | zero =>
    obtain rfl:x=(s,v):=by simpa using hk
    exact⟨rfl,rfl⟩
   | succ k =>
    have:=ih k (by simpa using hk)
    have e:(k+1) * 2=k * 2+2:=by omega
    rw [e]
    exact this
 obtain⟨h1,h2⟩:=hl o k hk
 have hlt1:=(List.getElem?_eq_some_iff.1 h1).1
 have hlt2:=(List.getElem?_eq_some_iff.1 h2).1
 refine⟨(cell_of_row w g (k * 2) _ _ _ h).trans ?_,(cell_of_row w g (k * 2+1) _ _ _ h).trans ?_⟩
 ·unfold orow
  rw [List.getElem?_toArray,List.getElem?_append_left hlt1]
  exact h1
 ·unfold orow
  rw [List.getElem?_toArray,List.getElem?_append_left hlt2]
  exact h2
theorem pick_nil {o:Opts}(h:∀ x∈o,x.1≠[]):pick o []=none:=by
 induction o with
 | nil=>rfl
 | cons x o ih =>
  obtain⟨s,v⟩:=x
  have h1:s≠[]:=h (s,v) (by simp)
  simp only [pick,if_neg h1]
  exact ih fun y hy=>h y (by simp [hy])
theorem pick_mem {o:Opts}{l:List UInt8}{v:Int}(h:pick o l=some v):∃ i:Nat,o[i]?=some (l,v):=by
 induction o with
 | nil=>cases h
 | cons x o ih =>
  obtain⟨s,u⟩:=x
  simp only [pick] at h
  split at h
  ·rename_i e
   obtain rfl:u=v:=by simpa using h
   exact⟨0,by simp [e]⟩
  ·obtain ⟨i,hi⟩:=ih h
   exact⟨i+1,by simpa using hi⟩
theorem del4 (g b i:Nat)(s0 s1 s2 s3:List UInt8)(v0 v1 v2 v3 v:Int)(l:List UInt8)(w:World)(hi:([(s0,v0),(s1,v1),(s2,v2),(s3,v3)]:Opts)[i]?=some (l,v))(hn:(([(s0,v0),(s1,v1),(s2,v2),(s3,v3)]:Opts).map (·.2)).Nodup)(hb:w.cell? ⟨b,0,none⟩=some (.int .i64 v))(hg:w.heap[g]?=some (Obj.cells (orow [(s0,v0),(s1,v1),(s2,v2),(s3,v3)]) 137 (0,0))) :
  Calls Tryz.prog 121 #[.slice (some ⟨g,0,none⟩) 4 4,.func (.func 122) #[] #[.pointer (some ⟨b,0,none⟩)]] w fun e w'=>e=.returned (.slice (some ⟨g,0,none⟩) 3 4)∧w'.heap[g]?=some (Obj.cells (orow (lessO [(s0,v0),(s1,v1),(s2,v2),(s3,v3)] v)) 137 (0,0))∧Exr g w w':=by
 simp at hn
 match i,hi with
 | 0,hi =>
  obtain⟨rfl,rfl⟩:s0=l∧v0=v:=by simpa using hi
  have n1:(v1==v0)=false:=by simp;omega
  have n2:(v2==v0)=false:=by simp;omega
  have n3:(v3==v0)=false:=by simp;omega
  have hle:lessO [(s0,v0),(s1,v1),(s2,v2),(s3,v3)] v0 = [(s1,v1),(s2,v2),(s3,v3)]:=by
   unfold lessO
   simp [show ¬ v1=v0 by simpa using n1,show ¬ v2=v0 by simpa using n2,show ¬ v3=v0 by simpa using n3]
  rw [hle]
  exact del40 g b s0 s1 s2 s3 v1 v2 v3 v0 w hb hg n1 n2 n3
 | 1,hi =>
  obtain⟨rfl,rfl⟩:s1=l∧v1=v:=by simpa using hi
  have n0:(v0==v1)=false:=by simp;omega
  have n2:(v2==v1)=false:=by simp;omega
  have n3:(v3==v1)=false:=by simp;omega
  have hle:lessO [(s0,v0),(s1,v1),(s2,v2),(s3,v3)] v1 = [(s0,v0),(s2,v2),(s3,v3)]:=by
   unfold lessO
   simp [show ¬ v0=v1 by simpa using n0,show ¬ v2=v1 by simpa using n2,show ¬ v3=v1 by simpa using n3]
  rw [hle]
  exact del41 g b s0 s1 s2 s3 v0 v2 v3 v1 w hb hg n0 n2 n3
 | 2,hi =>
  obtain⟨rfl,rfl⟩:s2=l∧v2=v:=by simpa using hi
  have n0:(v0==v2)=false:=by simp;omega
  have n1:(v1==v2)=false:=by simp;omega
  have n3:(v3==v2)=false:=by simp;omega
  have hle:lessO [(s0,v0),(s1,v1),(s2,v2),(s3,v3)] v2 = [(s0,v0),(s1,v1),(s3,v3)]:=by
   unfold lessO
   simp [show ¬ v0=v2 by simpa using n0,show ¬ v1=v2 by simpa using n1,show ¬ v3=v2 by simpa using n3]
  rw [hle]
  exact del42 g b s0 s1 s2 s3 v0 v1 v3 v2 w hb hg n0 n1 n3
 | 3,hi =>
  obtain⟨rfl,rfl⟩:s3=l∧v3=v:=by simpa using hi
  have n0:(v0==v3)=false:=by simp;omega
  have n1:(v1==v3)=false:=by simp;omega
  have n2:(v2==v3)=false:=by simp;omega
  have hle:lessO [(s0,v0),(s1,v1),(s2,v2),(s3,v3)] v3 = [(s0,v0),(s1,v1),(s2,v2)]:=by
   unfold lessO
   simp [show ¬ v0=v3 by simpa using n0,show ¬ v1=v3 by simpa using n1,show ¬ v2=v3 by simpa using n2]
  rw [hle]
  exact del43 g b s0 s1 s2 s3 v0 v1 v2 v3 w hb hg n0 n1 n2
 | i+4,hi=>simp at hi
theorem del3 (g b i:Nat)(s0 s1 s2:List UInt8)(v0 v1 v2 v:Int)(l:List UInt8)(w:World)(hi:([(s0,v0),(s1,v1),(s2,v2)]:Opts)[i]?=some (l,v))(hn:(([(s0,v0),(s1,v1),(s2,v2)]:Opts).map (·.2)).Nodup)(hb:w.cell? ⟨b,0,none⟩=some (.int .i64 v))(hg:w.heap[g]?=some (Obj.cells (orow [(s0,v0),(s1,v1),(s2,v2)]) 137 (0,0))) :
  Calls Tryz.prog 121 #[.slice (some ⟨g,0,none⟩) 3 4,.func (.func 122) #[] #[.pointer (some ⟨b,0,none⟩)]] w fun e w'=>e=.returned (.slice (some ⟨g,0,none⟩) 2 4)∧w'.heap[g]?=some (Obj.cells (orow (lessO [(s0,v0),(s1,v1),(s2,v2)] v)) 137 (0,0))∧Exr g w w':=by
 simp at hn
 match i,hi with
 | 0,hi =>
  obtain⟨rfl,rfl⟩:s0=l∧v0=v:=by simpa using hi
  have n1:(v1==v0)=false:=by simp;omega
  have n2:(v2==v0)=false:=by simp;omega
  have hle:lessO [(s0,v0),(s1,v1),(s2,v2)] v0 = [(s1,v1),(s2,v2)]:=by
   unfold lessO
   simp [show ¬ v1=v0 by simpa using n1,show ¬ v2=v0 by simpa using n2]
  rw [hle]
  exact del30 g b s0 s1 s2 v1 v2 v0 w hb hg n1 n2
 | 1,hi =>
  obtain⟨rfl,rfl⟩:s1=l∧v1=v:=by simpa using hi
  have n0:(v0==v1)=false:=by simp;omega
  have n2:(v2==v1)=false:=by simp;omega
  have hle:lessO [(s0,v0),(s1,v1),(s2,v2)] v1 = [(s0,v0),(s2,v2)]:=by
   unfold lessO
   simp [show ¬ v0=v1 by simpa using n0,show ¬ v2=v1 by simpa using n2]
  rw [hle]
  exact del31 g b s0 s1 s2 v0 v2 v1 w hb hg n0 n2
 | 2,hi =>
  obtain⟨rfl,rfl⟩:s2=l∧v2=v:=by simpa using hi
  have n0:(v0==v2)=false:=by simp;omega
  have n1:(v1==v2)=false:=by simp;omega
  have hle:lessO [(s0,v0),(s1,v1),(s2,v2)] v2 = [(s0,v0),(s1,v1)]:=by
   unfold lessO
   simp [show ¬ v0=v2 by simpa using n0,show ¬ v1=v2 by simpa using n1]
  rw [hle]
  exact del32 g b s0 s1 s2 v0 v1 v2 w hb hg n0 n1
 | i+3,hi=>simp at hi
theorem del2 (g b i:Nat)(s0 s1:List UInt8)(v0 v1 v:Int)(l:List UInt8)(w:World)(hi:([(s0,v0),(s1,v1)]:Opts)[i]?=some (l,v))(hn:(([(s0,v0),(s1,v1)]:Opts).map (·.2)).Nodup)(hb:w.cell? ⟨b,0,none⟩=some (.int .i64 v))(hg:w.heap[g]?=some (Obj.cells (orow [(s0,v0),(s1,v1)]) 137 (0,0))) :
  Calls Tryz.prog 121 #[.slice (some ⟨g,0,none⟩) 2 4,.func (.func 122) #[] #[.pointer (some ⟨b,0,none⟩)]] w fun e w'=>e=.returned (.slice (some ⟨g,0,none⟩) 1 4)∧w'.heap[g]?=some (Obj.cells (orow (lessO [(s0,v0),(s1,v1)] v)) 137 (0,0))∧Exr g w w':=by
 simp at hn
 match i,hi with
 | 0,hi =>
  obtain⟨rfl,rfl⟩:s0=l∧v0=v:=by simpa using hi
  have n1:(v1==v0)=false:=by simp;omega
  have hle:lessO [(s0,v0),(s1,v1)] v0 = [(s1,v1)]:=by
   unfold lessO
   simp [show ¬ v1=v0 by simpa using n1]
  rw [hle]
  exact del20 g b s0 s1 v1 v0 w hb hg n1
 | 1,hi =>
  obtain⟨rfl,rfl⟩:s1=l∧v1=v:=by simpa using hi
  have n0:(v0==v1)=false:=by simp;omega
  have hle:lessO [(s0,v0),(s1,v1)] v1 = [(s0,v0)]:=by
   unfold lessO
   simp [show ¬ v0=v1 by simpa using n0]
  rw [hle]
  exact del21 g b s0 s1 v0 v1 w hb hg n0
 | i+2,hi=>simp at hi
theorem del1 (g b i:Nat)(s0:List UInt8)(v0 v:Int)(l:List UInt8)(w:World)(hi:([(s0,v0)]:Opts)[i]?=some (l,v))(hn:(([(s0,v0)]:Opts).map (·.2)).Nodup)(hb:w.cell? ⟨b,0,none⟩=some (.int .i64 v))(hg:w.heap[g]?=some (Obj.cells (orow [(s0,v0)]) 137 (0,0))) :
  Calls Tryz.prog 121 #[.slice (some ⟨g,0,none⟩) 1 4,.func (.func 122) #[] #[.pointer (some ⟨b,0,none⟩)]] w fun e w'=>e=.returned (.slice (some ⟨g,0,none⟩) 0 4)∧w'.heap[g]?=some (Obj.cells (orow (lessO [(s0,v0)] v)) 137 (0,0))∧Exr g w w':=by
 match i,hi with
 | 0,hi =>
  obtain⟨rfl,rfl⟩:s0=l∧v0=v:=by simpa using hi
  have hle:lessO [(s0,v0)] v0 = []:=by
   unfold lessO
   simp []
  rw [hle]
  exact del10 g b s0 v0 w hb hg
 | i+1,hi=>simp at hi
theorem two_less {o:Opts}{v:Int}(h:(o.map (·.2)).Nodup):((lessO o v).map (·.2)).Nodup:=h.sublist (List.filter_sublist.map _)
theorem wrd_less {o:Opts}{v:Int}(h:∀ x∈o,x.1≠[]):∀ x∈lessO o v,x.1≠[]:=fun x hx=>h x (List.mem_filter.1 hx).1
theorem len_less:∀ {o:Opts} {v:Int} {l:List UInt8} {i:Nat},(o.map (·.2)).Nodup→o[i]?=some (l,v)→(lessO o v).length+1=o.length
 | [],v,l,i,_,h=>by simp at h
 | (s,u)::o,v,l,0,hn,h=>by
  obtain⟨rfl,rfl⟩:s=l∧u=v:=by simpa using h
  simp only [List.map_cons,List.nodup_cons] at hn
  have e:lessO ((s,u)::o) u=o:=by
   unfold lessO
   rw [List.filter_cons_of_neg (by simp)]
   refine List.filter_eq_self.2 fun x hx=>?_
   have:x.2≠u:=fun e=>hn.1 (List.mem_map.2 ⟨x,hx,e⟩)
   simp [this]
  rw [e];simp
 | (s,u)::o,v,l,i+1,hn,h=>by
  simp only [List.map_cons,List.nodup_cons] at hn
  have h2:o[i]?=some (l,v):=by simpa using h
  have hv:v∈o.map (·.2):=List.mem_map.2 ⟨(l,v),List.mem_of_getElem? h2,rfl⟩
  have hu:¬ u=v:=fun e=>hn.1 (e ▸ hv)
  have e:lessO ((s,u)::o) v=(s,u)::lessO o v:=by
   unfold lessO
   rw [List.filter_cons_of_pos (by simp [hu])]
  rw [e]
  have:=len_less hn.2 h2
  simp only [List.length_cons]
  omega
theorem box_int (w:World)(v:Int)(T:TypeId):∃ W b,w.alloc (.cells #[.int .i64 v] T)=W∧w.heap.size=b∧Ext w W∧W.cell? ⟨b,0,none⟩=some (.int .i64 v):=⟨_,_,rfl,rfl,(Ext.refl w).alloc _ _,by simp [go_sem]⟩
theorem lay_left (w:World):∃ W b,w.alloc (.cells #[.string ⟨#[102,101,101,115]⟩,.int .i64 1,.string ⟨#[112,101,110,97,108,116,121]⟩,.int .i64 2,.string ⟨#[105,110,116,101,114,101,115,116]⟩,.int .i64 3,.string ⟨#[112,114,105,110,99,105,112,97,108]⟩,.int .i64 4] 137)=W∧w.heap.size=b∧Ext w W∧W.heap[b]?=some (Obj.cells (orow oOrder) 137 (0,0)) :=
 ⟨_,_,rfl,rfl,(Ext.refl w).alloc _ _,heap_alloc_last w _⟩
theorem order_c (wf w0 w:World)(r c:Nat)(vr vl vh:Value)(s:St)(hf:Fine s)(h:Inn wf w0 w r c vr vl vh s) :
  Calls Tryz.prog 86 #[.pointer (some ⟨r,0,none⟩)] w fun e w'=>Rds wf w0 r c s.had (clauseR 12 s.p s.ts) e w':=by
 have hmf:=L7.make_func
 obtain⟨W,g,hW,hg,hx0,hrow⟩:=lay_left w
 have hne:Hid (g≠r):=by have:=h.lt.1;show g≠r;omega
 have hlo:Hid (w0.heap.size≤g):=by have:=h.ext.size;show _≤_;omega
 have h0:Hid (Chs wf w0 W r c g vr vl vh s 0 oOrder [] s.ts):=⟨rfl,rfl,h.on hx0,hf,hrow,by
  show ordF 4 oOrder s.ts=(ordF 4 oOrder s.ts).bind fun b=>.ok ([]++b.1,b.2)
  cases ordF 4 oOrder s.ts <;> rfl,by decide,by decide⟩
 replace h:=hid h
 replace hf:=hid hf
 clear hx0 hrow
 go_enter Tryz.func86,Tryz.ntmps86
 go_wp2_with fail
 clear hW hg
 go_loopw [2,10] (fun v i wr=>∃ (k:Nat) (o:Opts) (ch:List Int) (ts:List Tok),i=.int .i64 (k:Int)∧k≤4∧v=.slice (some ⟨g,0,none⟩) (4-k) 4∧Hid (Chs wf w0 wr r c g vr vl vh s k o ch ts)) (fun _ i _=>4-(RowKit.intOf i).toNat)
 case atStart=>exact ⟨0,oOrder,[],s.ts,rfl,by omega,rfl,h0⟩
 case round =>
  obtain⟨k,o,ch,ts,rfl,hk,rfl,hC⟩:=hrel
  clear h0
  have hkc:k=0∨k=1∨k=2∨k=3∨k=4:=by omega
  rcases hkc with rfl | rfl | rfl | rfl | rfl
  ·obtain ⟨s0,v0,s1,v1,s2,v2,s3,v3,rfl⟩:∃ s0 v0 s1 v1 s2 v2 s3 v3,o = [(s0,v0),(s1,v1),(s2,v2),(s3,v3)]:=by
    have:=hC.out.len
    match o,this with
    | [(s0,v0),(s1,v1),(s2,v2),(s3,v3)],_=>exact ⟨_,_,_,_,_,_,_,_,rfl⟩
   obtain⟨rfl⟩:ch = []:=by
    have:=hC.out.num
    match ch,this with
    | [],_=>exact rfl
   have hst:=hC.out.row
   obtain⟨t,ts',hts,htl,hl⟩:=hC.out.fine.cons
   obtain rfl:ts=t::ts':=hts
   have hinn:=hid hC.out.inn
   have hopt:=hid <| opt_of (by simp) hst
   clear hst
   cases hp:pick [(s0,v0),(s1,v1),(s2,v2),(s3,v3)] t.text with
   | none =>
    replace hp:=hid hp
    go_wp2_with fail
    refine (choose_x wf w0 _ r c vr vl vh _ t ts' g 4 4 [(s0,v0),(s1,v1),(s2,v2),(s3,v3)] rfl (by omega) rfl (by decide) hopt.out hne.out hinn.out).mono ?_
    rintro e w1 ⟨he,h1,hx⟩
    rw [hp.out] at he
    obtain rfl:e=thrown 7 t.at_:=he
    replace h1:=hid h1
    clear hx
    unfold thrown
    go_wp2
    have hX:clauseR 12 s.p s.ts=.no 7 t.at_:=by
     show orderR s.p s.ts=_
     rw [order_ord,hC.out.ok]
     show Res.bind (Res.bind (Res.bind (tk _ _) _) _) _=_
     rw [tk_none hp.out];rfl
    rw [hX]
    exact⟨rfl,Rds.no h1.out.ext⟩
   | some v =>
    replace hp:=hid hp
    go_wp2_with fail
    refine (choose_x wf w0 _ r c vr vl vh _ t ts' g 4 4 [(s0,v0),(s1,v1),(s2,v2),(s3,v3)] rfl (by omega) rfl (by decide) hopt.out hne.out hinn.out).mono ?_
    rintro e w1 ⟨he,h1,hx⟩
    rw [hp.out] at he
    obtain rfl:e=.returned (.int .i64 v):=he
    have hg1:=(hx.block g (Array.getElem?_eq_some_iff.1 hC.out.row).1 hne.out).trans hC.out.row
    obtain⟨W2,b,hW2,hb2,hx2,b0⟩:=box_int w1 v 3
    have h2:=h1.on hx2
    have hg2:=(hx2.below.block g (Array.getElem?_eq_some_iff.1 hg1).1).trans hg1
    obtain⟨c0,z0⟩:=h2.cell 12 (.int .i64 (ordP s.p []).o0) (fun _=>rfl)
    have hbr:b≠r:=by have:=h1.lt.1;omega
    replace h2:=hid h2
    replace hg2:=hid hg2
    clear hx h1 hg1 hx2
    go_upto_region 5 with fail
    go_region
    obtain⟨W3,hW3⟩:∃ W,(W2.setCell ⟨r,12,none⟩ (.int .i64 v)).drew=W:=⟨_,rfl⟩
    have h3:Inn wf w0 W3 r c vr vl vh { s with ts:=ts',p:=ordP s.p ([]++[v]) }:=hW3 ▸ (h2.out.turn 12 (.int .i64 v) (ordP s.p ([]++[v])) (fun _=>rfl) rfl rfl rfl).on (Ext.refl _).drew
    have hg3:W3.heap[g]?=some (Obj.cells (orow [(s0,v0),(s1,v1),(s2,v2),(s3,v3)]) 137 (0,0)):=hW3 ▸ ((heap_setCell_other _ _ _ _ hne.out).trans hg2.out)
    have b3:W3.cell? ⟨b,0,none⟩=some (.int .i64 v):=hW3 ▸ (((Ext.refl _).drew).cell_of ((L8.other _ (Or.inl (Ne.symm hbr))).trans b0))
    replace h3:=hid h3
    replace hg3:=hid hg3
    replace b3:=hid b3
    clear c0 z0 b0 h2 hg2 hbr
    go_wp2_with fail
    obtain⟨i,hi⟩:=pick_mem hp.out
    refine (del4 g b i s0 s1 s2 s3 v0 v1 v2 v3 v t.text _ hi hC.out.two b3.out hg3.out).mono ?_
    rintro e w4 ⟨rfl,hg4,hx4⟩
    have hlen:=len_less hC.out.two hi
    have h4:=hid <| h3.out.far hx4 hg3.out hlo.out
    have htx:=some_ne (f:=pick [(s0,v0),(s1,v1),(s2,v2),(s3,v3)]) (pick_nil hC.out.wrd) hp.out
    have hfi:=hC.out.fine.next rfl htx
    have hnew:Hid (Chs wf w0 w4 r c g vr vl vh s 1 (lessO [(s0,v0),(s1,v1),(s2,v2),(s3,v3)] v) ([]++[v]) ts'):=⟨by simp only [List.length_cons,List.length_nil] at hlen;omega,rfl,h4.out,⟨hfi.fin,hfi.len,hfi.few⟩,hg4,by
     have e1:(lessO [(s0,v0),(s1,v1),(s2,v2),(s3,v3)] v).length=3:=by simp only [List.length_cons,List.length_nil] at hlen;omega
     rw [e1,hC.out.ok]
     show Res.bind (Res.bind (tk _ _) _) _=_
     rw [tk_some hp.out]
     show Res.bind (Res.bind (ordF 3 _ _) _) _=_
     rw [Res.bind_assoc]
     rfl,two_less hC.out.two,wrd_less hC.out.wrd⟩
    clear hg4 hx4 h4 hfi htx hlen b3 hg3 h3 hW3 hW2 hb2 hinn hopt hC hp hi
    go_wp2
    go_roundw
    case rel=>exact ⟨1,_,_,_,rfl,by omega,rfl,hnew⟩
    case measure=>simp [RowKit.intOf]
  ·obtain ⟨s0,v0,s1,v1,s2,v2,rfl⟩:∃ s0 v0 s1 v1 s2 v2,o = [(s0,v0),(s1,v1),(s2,v2)]:=by
    have:=hC.out.len
    match o,this with
    | [(s0,v0),(s1,v1),(s2,v2)],_=>exact ⟨_,_,_,_,_,_,rfl⟩
   obtain⟨a0,rfl⟩:∃ a0,ch = [a0]:=by
    have:=hC.out.num
    match ch,this with
    | [a0],_=>exact ⟨_,rfl⟩
   have hst:=hC.out.row
   obtain⟨t,ts',hts,htl,hl⟩:=hC.out.fine.cons
   obtain rfl:ts=t::ts':=hts
   have hinn:=hid hC.out.inn
   have hopt:=hid <| opt_of (by simp) hst
   clear hst
   cases hp:pick [(s0,v0),(s1,v1),(s2,v2)] t.text with
   | none =>
    replace hp:=hid hp
    go_wp2_with fail
    refine (choose_x wf w0 _ r c vr vl vh _ t ts' g 3 4 [(s0,v0),(s1,v1),(s2,v2)] rfl (by omega) rfl (by decide) hopt.out hne.out hinn.out).mono ?_
    rintro e w1 ⟨he,h1,hx⟩
    rw [hp.out] at he
    obtain rfl:e=thrown 7 t.at_:=he
    replace h1:=hid h1
    clear hx
    unfold thrown
    go_wp2
    have hX:clauseR 12 s.p s.ts=.no 7 t.at_:=by
     show orderR s.p s.ts=_
     rw [order_ord,hC.out.ok]
     show Res.bind (Res.bind (Res.bind (tk _ _) _) _) _=_
     rw [tk_none hp.out];rfl
    rw [hX]
    exact⟨rfl,Rds.no h1.out.ext⟩
   | some v =>
    replace hp:=hid hp
    go_wp2_with fail
    refine (choose_x wf w0 _ r c vr vl vh _ t ts' g 3 4 [(s0,v0),(s1,v1),(s2,v2)] rfl (by omega) rfl (by decide) hopt.out hne.out hinn.out).mono ?_
    rintro e w1 ⟨he,h1,hx⟩
    rw [hp.out] at he
    obtain rfl:e=.returned (.int .i64 v):=he
    have hg1:=(hx.block g (Array.getElem?_eq_some_iff.1 hC.out.row).1 hne.out).trans hC.out.row
    obtain⟨W2,b,hW2,hb2,hx2,b0⟩:=box_int w1 v 3
    have h2:=h1.on hx2
    have hg2:=(hx2.below.block g (Array.getElem?_eq_some_iff.1 hg1).1).trans hg1
    obtain⟨c0,z0⟩:=h2.cell 13 (.int .i64 (ordP s.p [a0]).o1) (fun _=>rfl)
    have hbr:b≠r:=by have:=h1.lt.1;omega
    replace h2:=hid h2
    replace hg2:=hid hg2
    clear hx h1 hg1 hx2
    go_upto_region 5 with fail
    go_region
    obtain⟨W3,hW3⟩:∃ W,(W2.setCell ⟨r,13,none⟩ (.int .i64 v)).drew=W:=⟨_,rfl⟩
    have h3:Inn wf w0 W3 r c vr vl vh { s with ts:=ts',p:=ordP s.p ([a0]++[v]) }:=hW3 ▸ (h2.out.turn 13 (.int .i64 v) (ordP s.p ([a0]++[v])) (fun _=>rfl) rfl rfl rfl).on (Ext.refl _).drew
    have hg3:W3.heap[g]?=some (Obj.cells (orow [(s0,v0),(s1,v1),(s2,v2)]) 137 (0,0)):=hW3 ▸ ((heap_setCell_other _ _ _ _ hne.out).trans hg2.out)
    have b3:W3.cell? ⟨b,0,none⟩=some (.int .i64 v):=hW3 ▸ (((Ext.refl _).drew).cell_of ((L8.other _ (Or.inl (Ne.symm hbr))).trans b0))
    replace h3:=hid h3
    replace hg3:=hid hg3
    replace b3:=hid b3
    clear c0 z0 b0 h2 hg2 hbr
    go_wp2_with fail
    obtain⟨i,hi⟩:=pick_mem hp.out
    refine (del3 g b i s0 s1 s2 v0 v1 v2 v t.text _ hi hC.out.two b3.out hg3.out).mono ?_
    rintro e w4 ⟨rfl,hg4,hx4⟩
    have hlen:=len_less hC.out.two hi
    have h4:=hid <| h3.out.far hx4 hg3.out hlo.out
    have htx:=some_ne (f:=pick [(s0,v0),(s1,v1),(s2,v2)]) (pick_nil hC.out.wrd) hp.out
    have hfi:=hC.out.fine.next rfl htx
    have hnew:Hid (Chs wf w0 w4 r c g vr vl vh s 2 (lessO [(s0,v0),(s1,v1),(s2,v2)] v) ([a0]++[v]) ts'):=⟨by simp only [List.length_cons,List.length_nil] at hlen;omega,rfl,h4.out,⟨hfi.fin,hfi.len,hfi.few⟩,hg4,by
     have e1:(lessO [(s0,v0),(s1,v1),(s2,v2)] v).length=2:=by simp only [List.length_cons,List.length_nil] at hlen;omega
     rw [e1,hC.out.ok]
     show Res.bind (Res.bind (tk _ _) _) _=_
     rw [tk_some hp.out]
     show Res.bind (Res.bind (ordF 2 _ _) _) _=_
     rw [Res.bind_assoc]
     rfl,two_less hC.out.two,wrd_less hC.out.wrd⟩
    clear hg4 hx4 h4 hfi htx hlen b3 hg3 h3 hW3 hW2 hb2 hinn hopt hC hp hi
    go_wp2
    go_roundw
    case rel=>exact ⟨2,_,_,_,rfl,by omega,rfl,hnew⟩
    case measure=>simp [RowKit.intOf]
  ·obtain ⟨s0,v0,s1,v1,rfl⟩:∃ s0 v0 s1 v1,o = [(s0,v0),(s1,v1)]:=by
    have:=hC.out.len
    match o,this with
    | [(s0,v0),(s1,v1)],_=>exact ⟨_,_,_,_,rfl⟩
   obtain⟨a0,a1,rfl⟩:∃ a0 a1,ch = [a0,a1]:=by
    have:=hC.out.num
    match ch,this with
    | [a0,a1],_=>exact ⟨_,_,rfl⟩
   have hst:=hC.out.row
   obtain⟨t,ts',hts,htl,hl⟩:=hC.out.fine.cons
   obtain rfl:ts=t::ts':=hts
   have hinn:=hid hC.out.inn
   have hopt:=hid <| opt_of (by simp) hst
   clear hst
   cases hp:pick [(s0,v0),(s1,v1)] t.text with
   | none =>
    replace hp:=hid hp
    go_wp2_with fail
    refine (choose_x wf w0 _ r c vr vl vh _ t ts' g 2 4 [(s0,v0),(s1,v1)] rfl (by omega) rfl (by decide) hopt.out hne.out hinn.out).mono ?_
    rintro e w1 ⟨he,h1,hx⟩
    rw [hp.out] at he
    obtain rfl:e=thrown 7 t.at_:=he
    replace h1:=hid h1
    clear hx
    unfold thrown
    go_wp2
    have hX:clauseR 12 s.p s.ts=.no 7 t.at_:=by
     show orderR s.p s.ts=_
     rw [order_ord,hC.out.ok]
     show Res.bind (Res.bind (Res.bind (tk _ _) _) _) _=_
     rw [tk_none hp.out];rfl
    rw [hX]
    exact⟨rfl,Rds.no h1.out.ext⟩
   | some v =>
    replace hp:=hid hp
    go_wp2_with fail
    refine (choose_x wf w0 _ r c vr vl vh _ t ts' g 2 4 [(s0,v0),(s1,v1)] rfl (by omega) rfl (by decide) hopt.out hne.out hinn.out).mono ?_
    rintro e w1 ⟨he,h1,hx⟩
    rw [hp.out] at he
    obtain rfl:e=.returned (.int .i64 v):=he
    have hg1:=(hx.block g (Array.getElem?_eq_some_iff.1 hC.out.row).1 hne.out).trans hC.out.row
    obtain⟨W2,b,hW2,hb2,hx2,b0⟩:=box_int w1 v 3
    have h2:=h1.on hx2
    have hg2:=(hx2.below.block g (Array.getElem?_eq_some_iff.1 hg1).1).trans hg1
    obtain⟨c0,z0⟩:=h2.cell 14 (.int .i64 (ordP s.p [a0,a1]).o2) (fun _=>rfl)
    have hbr:b≠r:=by have:=h1.lt.1;omega
    replace h2:=hid h2
    replace hg2:=hid hg2
    clear hx h1 hg1 hx2
    go_upto_region 5 with fail
    go_region
    obtain⟨W3,hW3⟩:∃ W,(W2.setCell ⟨r,14,none⟩ (.int .i64 v)).drew=W:=⟨_,rfl⟩
    have h3:Inn wf w0 W3 r c vr vl vh { s with ts:=ts',p:=ordP s.p ([a0,a1]++[v]) }:=hW3 ▸ (h2.out.turn 14 (.int .i64 v) (ordP s.p ([a0,a1]++[v])) (fun _=>rfl) rfl rfl rfl).on (Ext.refl _).drew
    have hg3:W3.heap[g]?=some (Obj.cells (orow [(s0,v0),(s1,v1)]) 137 (0,0)):=hW3 ▸ ((heap_setCell_other _ _ _ _ hne.out).trans hg2.out)
    have b3:W3.cell? ⟨b,0,none⟩=some (.int .i64 v):=hW3 ▸ (((Ext.refl _).drew).cell_of ((L8.other _ (Or.inl (Ne.symm hbr))).trans b0))
    replace h3:=hid h3
    replace hg3:=hid hg3
    replace b3:=hid b3
    clear c0 z0 b0 h2 hg2 hbr
    go_wp2_with fail
    obtain⟨i,hi⟩:=pick_mem hp.out
    refine (del2 g b i s0 s1 v0 v1 v t.text _ hi hC.out.two b3.out hg3.out).mono ?_
    rintro e w4 ⟨rfl,hg4,hx4⟩
    have hlen:=len_less hC.out.two hi
    have h4:=hid <| h3.out.far hx4 hg3.out hlo.out
    have htx:=some_ne (f:=pick [(s0,v0),(s1,v1)]) (pick_nil hC.out.wrd) hp.out
    have hfi:=hC.out.fine.next rfl htx
    have hnew:Hid (Chs wf w0 w4 r c g vr vl vh s 3 (lessO [(s0,v0),(s1,v1)] v) ([a0,a1]++[v]) ts'):=⟨by simp only [List.length_cons,List.length_nil] at hlen;omega,rfl,h4.out,⟨hfi.fin,hfi.len,hfi.few⟩,hg4,by
     have e1:(lessO [(s0,v0),(s1,v1)] v).length=1:=by simp only [List.length_cons,List.length_nil] at hlen;omega
     rw [e1,hC.out.ok]
     show Res.bind (Res.bind (tk _ _) _) _=_
     rw [tk_some hp.out]
     show Res.bind (Res.bind (ordF 1 _ _) _) _=_
     rw [Res.bind_assoc]
     rfl,two_less hC.out.two,wrd_less hC.out.wrd⟩
    clear hg4 hx4 h4 hfi htx hlen b3 hg3 h3 hW3 hW2 hb2 hinn hopt hC hp hi
    go_wp2
    go_roundw
    case rel=>exact ⟨3,_,_,_,rfl,by omega,rfl,hnew⟩
    case measure=>simp [RowKit.intOf]
  ·obtain ⟨s0,v0,rfl⟩:∃ s0 v0,o = [(s0,v0)]:=by
    have:=hC.out.len
    match o,this with
    | [(s0,v0)],_=>exact ⟨_,_,rfl⟩
   obtain⟨a0,a1,a2,rfl⟩:∃ a0 a1 a2,ch = [a0,a1,a2]:=by
    have:=hC.out.num
    match ch,this with
    | [a0,a1,a2],_=>exact ⟨_,_,_,rfl⟩
   have hst:=hC.out.row
   obtain⟨t,ts',hts,htl,hl⟩:=hC.out.fine.cons
   obtain rfl:ts=t::ts':=hts
   have hinn:=hid hC.out.inn
   have hopt:=hid <| opt_of (by simp) hst
   clear hst
   cases hp:pick [(s0,v0)] t.text with
   | none =>
    replace hp:=hid hp
    go_wp2_with fail
    refine (choose_x wf w0 _ r c vr vl vh _ t ts' g 1 4 [(s0,v0)] rfl (by omega) rfl (by decide) hopt.out hne.out hinn.out).mono ?_
    rintro e w1 ⟨he,h1,hx⟩
    rw [hp.out] at he
    obtain rfl:e=thrown 7 t.at_:=he
    replace h1:=hid h1
    clear hx
    unfold thrown
    go_wp2
    have hX:clauseR 12 s.p s.ts=.no 7 t.at_:=by
     show orderR s.p s.ts=_
     rw [order_ord,hC.out.ok]
     show Res.bind (Res.bind (Res.bind (tk _ _) _) _) _=_
     rw [tk_none hp.out];rfl
    rw [hX]
    exact⟨rfl,Rds.no h1.out.ext⟩
   | some v =>
    replace hp:=hid hp
    go_wp2_with fail
    refine (choose_x wf w0 _ r c vr vl vh _ t ts' g 1 4 [(s0,v0)] rfl (by omega) rfl (by decide) hopt.out hne.out hinn.out).mono ?_
    rintro e w1 ⟨he,h1,hx⟩
    rw [hp.out] at he
    obtain rfl:e=.returned (.int .i64 v):=he
    have hg1:=(hx.block g (Array.getElem?_eq_some_iff.1 hC.out.row).1 hne.out).trans hC.out.row
    obtain⟨W2,b,hW2,hb2,hx2,b0⟩:=box_int w1 v 3
    have h2:=h1.on hx2
    have hg2:=(hx2.below.block g (Array.getElem?_eq_some_iff.1 hg1).1).trans hg1
    obtain⟨c0,z0⟩:=h2.cell 15 (.int .i64 (ordP s.p [a0,a1,a2]).o3) (fun _=>rfl)
    have hbr:b≠r:=by have:=h1.lt.1;omega
    replace h2:=hid h2
    replace hg2:=hid hg2
    clear hx h1 hg1 hx2
    go_upto_region 5 with fail
    go_region
    obtain⟨W3,hW3⟩:∃ W,(W2.setCell ⟨r,15,none⟩ (.int .i64 v)).drew=W:=⟨_,rfl⟩
    have h3:Inn wf w0 W3 r c vr vl vh { s with ts:=ts',p:=ordP s.p ([a0,a1,a2]++[v]) }:=hW3 ▸ (h2.out.turn 15 (.int .i64 v) (ordP s.p ([a0,a1,a2]++[v])) (fun _=>rfl) rfl rfl rfl).on (Ext.refl _).drew
    have hg3:W3.heap[g]?=some (Obj.cells (orow [(s0,v0)]) 137 (0,0)):=hW3 ▸ ((heap_setCell_other _ _ _ _ hne.out).trans hg2.out)
    have b3:W3.cell? ⟨b,0,none⟩=some (.int .i64 v):=hW3 ▸ (((Ext.refl _).drew).cell_of ((L8.other _ (Or.inl (Ne.symm hbr))).trans b0))
    replace h3:=hid h3
    replace hg3:=hid hg3
    replace b3:=hid b3
    clear c0 z0 b0 h2 hg2 hbr
    go_wp2_with fail
    obtain⟨i,hi⟩:=pick_mem hp.out
    refine (del1 g b i s0 v0 v t.text _ hi hC.out.two b3.out hg3.out).mono ?_
    rintro e w4 ⟨rfl,hg4,hx4⟩
    have hlen:=len_less hC.out.two hi
    have h4:=hid <| h3.out.far hx4 hg3.out hlo.out
    have htx:=some_ne (f:=pick [(s0,v0)]) (pick_nil hC.out.wrd) hp.out
    have hfi:=hC.out.fine.next rfl htx
    have hnew:Hid (Chs wf w0 w4 r c g vr vl vh s 4 (lessO [(s0,v0)] v) ([a0,a1,a2]++[v]) ts'):=⟨by simp only [List.length_cons,List.length_nil] at hlen;omega,rfl,h4.out,⟨hfi.fin,hfi.len,hfi.few⟩,hg4,by
     have e1:(lessO [(s0,v0)] v).length=0:=by simp only [List.length_cons,List.length_nil] at hlen;omega
     rw [e1,hC.out.ok]
     show Res.bind (Res.bind (tk _ _) _) _=_
     rw [tk_some hp.out]
     rfl,two_less hC.out.two,wrd_less hC.out.wrd⟩
    clear hg4 hx4 h4 hfi htx hlen b3 hg3 h3 hW3 hW2 hb2 hinn hopt hC hp hi
    go_wp2
    go_roundw
    case rel=>exact ⟨4,_,_,_,rfl,by omega,rfl,hnew⟩
    case measure=>simp [RowKit.intOf]
  ·obtain ⟨a0,a1,a2,a3,rfl⟩:∃ a0 a1 a2 a3,ch = [a0,a1,a2,a3]:=by
    have:=hC.out.num
    match ch,this with
    | [a0,a1,a2,a3],_=>exact ⟨_,_,_,_,rfl⟩
   obtain rfl:o = []:=List.eq_nil_of_length_eq_zero (by have:=hC.out.len;omega)
   go_wp2
   go_end0
   have hX:clauseR 12 s.p s.ts=.ok (ordP s.p [a0,a1,a2,a3],ts):=by
    show orderR s.p s.ts=_
    rw [order_ord,hC.out.ok]
    rfl
   rw [hX]
   exact Rds.ok (s:=s) hC.out.inn
def wordAt (k:Nat):List UInt8:=words.getD k []
structure Cll (w:World)(c:Nat)(h:Nat→Bool):Prop where
 on:∀ k,k<15→∃ fn a b,w.cell? ⟨c,k * 5,none⟩=some (.string ⟨(wordAt k).toArray⟩)∧w.cell? ⟨c,k * 5+1,none⟩=some (.bool (must k))∧w.cell? ⟨c,k * 5+2,none⟩=some (.bool (often k))∧w.cell? ⟨c,k * 5+3,none⟩=some (.func fn a b)∧w.cell? ⟨c,k * 5+4,none⟩=some (.bool (h k))
theorem Cll.of {w:World}{c r:Nat}{h:Nat→Bool}(hc:w.heap[c]?=some (Obj.cells (ccells r h) 112 (0,0))):Cll w c h:=⟨fun k hk=>by
 match k,hk with
 | 0,_=>exact ⟨_,_,_,(cell_of_row w c 0 _ _ _ hc).trans rfl,(cell_of_row w c 1 _ _ _ hc).trans rfl,(cell_of_row w c 2 _ _ _ hc).trans rfl,(cell_of_row w c 3 _ _ _ hc).trans rfl,(cell_of_row w c 4 _ _ _ hc).trans rfl⟩
 | 1,_=>exact ⟨_,_,_,(cell_of_row w c 5 _ _ _ hc).trans rfl,(cell_of_row w c 6 _ _ _ hc).trans rfl,(cell_of_row w c 7 _ _ _ hc).trans rfl,(cell_of_row w c 8 _ _ _ hc).trans rfl,(cell_of_row w c 9 _ _ _ hc).trans rfl⟩
 | 2,_=>exact ⟨_,_,_,(cell_of_row w c 10 _ _ _ hc).trans rfl,(cell_of_row w c 11 _ _ _ hc).trans rfl,(cell_of_row w c 12 _ _ _ hc).trans rfl,(cell_of_row w c 13 _ _ _ hc).trans rfl,(cell_of_row w c 14 _ _ _ hc).trans rfl⟩
 | 3,_=>exact ⟨_,_,_,(cell_of_row w c 15 _ _ _ hc).trans rfl,(cell_of_row w c 16 _ _ _ hc).trans rfl,(cell_of_row w c 17 _ _ _ hc).trans rfl,(cell_of_row w c 18 _ _ _ hc).trans rfl,(cell_of_row w c 19 _ _ _ hc).trans rfl⟩
 | 4,_=>exact ⟨_,_,_,(cell_of_row w c 20 _ _ _ hc).trans rfl,(cell_of_row w c 21 _ _ _ hc).trans rfl,(cell_of_row w c 22 _ _ _ hc).trans rfl,(cell_of_row w c 23 _ _ _ hc).trans rfl,(cell_of_row w c 24 _ _ _ hc).trans rfl⟩
 | 5,_=>exact ⟨_,_,_,(cell_of_row w c 25 _ _ _ hc).trans rfl,(cell_of_row w c 26 _ _ _ hc).trans rfl,(cell_of_row w c 27 _ _ _ hc).trans rfl,(cell_of_row w c 28 _ _ _ hc).trans rfl,(cell_of_row w c 29 _ _ _ hc).trans rfl⟩
 | 6,_=>exact ⟨_,_,_,(cell_of_row w c 30 _ _ _ hc).trans rfl,(cell_of_row w c 31 _ _ _ hc).trans rfl,(cell_of_row w c 32 _ _ _ hc).trans rfl,(cell_of_row w c 33 _ _ _ hc).trans rfl,(cell_of_row w c 34 _ _ _ hc).trans rfl⟩
 | 7,_=>exact ⟨_,_,_,(cell_of_row w c 35 _ _ _ hc).trans rfl,(cell_of_row w c 36 _ _ _ hc).trans rfl,(cell_of_row w c 37 _ _ _ hc).trans rfl,(cell_of_row w c 38 _ _ _ hc).trans rfl,(cell_of_row w c 39 _ _ _ hc).trans rfl⟩
 | 8,_=>exact ⟨_,_,_,(cell_of_row w c 40 _ _ _ hc).trans rfl,(cell_of_row w c 41 _ _ _ hc).trans rfl,(cell_of_row w c 42 _ _ _ hc).trans rfl,(cell_of_row w c 43 _ _ _ hc).trans rfl,(cell_of_row w c 44 _ _ _ hc).trans rfl⟩
 | 9,_=>exact ⟨_,_,_,(cell_of_row w c 45 _ _ _ hc).trans rfl,(cell_of_row w c 46 _ _ _ hc).trans rfl,(cell_of_row w c 47 _ _ _ hc).trans rfl,(cell_of_row w c 48 _ _ _ hc).trans rfl,(cell_of_row w c 49 _ _ _ hc).trans rfl⟩
 | 10,_=>exact ⟨_,_,_,(cell_of_row w c 50 _ _ _ hc).trans rfl,(cell_of_row w c 51 _ _ _ hc).trans rfl,(cell_of_row w c 52 _ _ _ hc).trans rfl,(cell_of_row w c 53 _ _ _ hc).trans rfl,(cell_of_row w c 54 _ _ _ hc).trans rfl⟩
 | 11,_=>exact ⟨_,_,_,(cell_of_row w c 55 _ _ _ hc).trans rfl,(cell_of_row w c 56 _ _ _ hc).trans rfl,(cell_of_row w c 57 _ _ _ hc).trans rfl,(cell_of_row w c 58 _ _ _ hc).trans rfl,(cell_of_row w c 59 _ _ _ hc).trans rfl⟩
 | 12,_=>exact ⟨_,_,_,(cell_of_row w c 60 _ _ _ hc).trans rfl,(cell_of_row w c 61 _ _ _ hc).trans rfl,(cell_of_row w c 62 _ _ _ hc).trans rfl,(cell_of_row w c 63 _ _ _ hc).trans rfl,(cell_of_row w c 64 _ _ _ hc).trans rfl⟩
 | 13,_=>exact ⟨_,_,_,(cell_of_row w c 65 _ _ _ hc).trans rfl,(cell_of_row w c 66 _ _ _ hc).trans rfl,(cell_of_row w c 67 _ _ _ hc).trans rfl,(cell_of_row w c 68 _ _ _ hc).trans rfl,(cell_of_row w c 69 _ _ _ hc).trans rfl⟩
 | 14,_=>exact ⟨_,_,_,(cell_of_row w c 70 _ _ _ hc).trans rfl,(cell_of_row w c 71 _ _ _ hc).trans rfl,(cell_of_row w c 72 _ _ _ hc).trans rfl,(cell_of_row w c 73 _ _ _ hc).trans rfl,(cell_of_row w c 74 _ _ _ hc).trans rfl⟩
 | k+15,hk=>omega⟩
theorem clause1_c (s l:List UInt8)(m o t:Bool)(fn:Fn)(p q:Array Value)(b:Nat)(w:World)(hb:w.cell? ⟨b,2,none⟩=some (.string ⟨l.toArray⟩)) :
  Calls Tryz.prog 128 #[.agg #[.string ⟨s.toArray⟩,.bool m,.bool o,.func fn p q,.bool t],.pointer (some ⟨b,0,none⟩)] w fun e w'=>e=.returned (.bool (s==l))∧Ext w w':=by
 have hlt:=lt_of_cell hb
 obtain⟨B,hB⟩:∃ B,(s==l)=B:=⟨_,rfl⟩
 rw [hB]
 go_enter Tryz.func128,Tryz.ntmps128
 go_wp2
 go_ret
 exact⟨rfl,(Ext.refl _).alloc _ _⟩
theorem complete1_c (s:List UInt8)(m o t:Bool)(fn:Fn)(p q:Array Value)(w:World) :
  Calls Tryz.prog 94 #[.agg #[.string ⟨s.toArray⟩,.bool m,.bool o,.func fn p q,.bool t]] w fun e w'=>e=.returned (.bool (m&&!t))∧Ext w w':=by
 cases m
 ·go_enter Tryz.func94,Tryz.ntmps94
  go_wp2
  go_ret
  exact⟨rfl,(Ext.refl _).alloc _ _⟩
 ·go_enter Tryz.func94,Tryz.ntmps94
  go_wp2
  go_ret
  exact⟨rfl,(Ext.refl _).alloc _ _⟩
theorem which_lt (l:List UInt8):which l≤15:=by
 have:=List.findIdx_le_length (xs:=words) (p:=fun s=>decide (s=l))
 exact this
theorem which_no {l:List UInt8}{k:Nat}(h:k<which l):¬ wordAt k=l:=by
 have h15:=which_lt l
 have hk:k<words.length:=by show k<15;omega
 have:=List.not_of_lt_findIdx (p:=fun s=>decide (s=l)) (xs:=words) h
 have e:wordAt k=words[k]:=by unfold wordAt;rw [List.getD_eq_getElem?_getD,List.getElem?_eq_getElem hk];rfl
 rw [e]
 simpa using this
theorem which_at {l:List UInt8}(h:which l<15):wordAt (which l)=l:=by
 have hk:words.findIdx (fun s=>decide (s=l))<words.length:=h
 have:=List.findIdx_getElem (p:=fun s=>decide (s=l)) (xs:=words) (w:=hk)
 have e:wordAt (which l)=words[words.findIdx (fun s=>decide (s=l))]:=by
  unfold wordAt which
  rw [List.getD_eq_getElem?_getD,List.getElem?_eq_getElem hk];rfl
 rw [e]
 simpa using this
theorem idxC_c (c b:Nat)(h:Nat→Bool)(l:List UInt8)(w:World)(hc:Cll w c h)(hb:w.cell? ⟨b,2,none⟩=some (.string ⟨l.toArray⟩)) :
  Calls Tryz.prog 127 #[.slice (some ⟨c,0,none⟩) 15 15,.func (.func 128) #[] #[.pointer (some ⟨b,0,none⟩)]] w fun e w'=>e=.returned (.int .i64 (if which l<15 then (which l:Int) else -1))∧Ext w w':=by
 obtain⟨i,hi⟩:∃ i,which l=i:=⟨_,rfl⟩
 have hi15:=which_lt l
 rw [hi] at hi15 ⊢
 replace hi:=hid hi
 replace hc:=hid hc
 replace hb:=hid hb
 go_enter Tryz.func127,Tryz.ntmps127
 go_wp2
 go_loopw [8] (fun q wr=>∃ k:Nat,k≤i∧q=.int .i64 k∧Hid (Ext w wr)) (fun q _=>i-(RowKit.intOf q).toNat)
 case atStart=>exact ⟨0,Nat.zero_le _,rfl,Ext.refl w⟩
 case round =>
  obtain⟨k,hk,rfl,hx⟩:=hrel
  by_cases hlt:k<15
  ·obtain ⟨fn,p,q,c0,c1,c2,c3,c4⟩:=hc.out.on k hlt
   replace c0:=hx.out.cell_of c0
   replace c1:=hx.out.cell_of c1
   replace c2:=hx.out.cell_of c2
   replace c3:=hx.out.cell_of c3
   replace c4:=hx.out.cell_of c4
   have hb1:Hid (wr.cell? ⟨b,2,none⟩=some (.string ⟨l.toArray⟩)):=hx.out.cell_of hb.out
   by_cases hq:k=i
   ·subst hq
    have hw:wordAt k=l:=by have:=which_at (l:=l) (by rw [hi.out];exact hlt);rw [hi.out] at this;exact this
    rw [hw] at c0
    go_wp2_with (go_at_call 128;refine (clause1_c _ _ _ _ _ _ _ _ _ _ hb1.out).mono ?_;rintro e w1 ⟨rfl,hx1⟩;replace hx1:=hid hx1)
    go_ret
    exact⟨rfl,hx.out.trans hx1.out⟩
   ·have hw:¬ wordAt k=l:=which_no (by rw [hi.out];omega)
    obtain⟨s,hs⟩:∃ s,wordAt k=s:=⟨_,rfl⟩
    rw [hs] at c0 hw
    have hq2:(s==l)=false:=by simp [hw]
    replace hw:=hid hw
    replace hs:=hid hs
    go_wp2_with (go_at_call 128;refine (clause1_c _ _ _ _ _ _ _ _ _ _ hb1.out).mono ?_;rintro e w1 ⟨rfl,hx1⟩;replace hx1:=hid hx1)
    go_roundw
    case rel=>exact ⟨k+1,by omega,by go_num,hx.out.trans hx1.out⟩
    case measure=>simp [RowKit.intOf];omega
  ·obtain rfl:k=15:=by omega
   obtain rfl:i=15:=by omega
   go_wp2
   go_ret
   exact⟨rfl,hx.out⟩
theorem whole_all {h:Nat→Bool}(H:∀ j,j<15→(must j&&!h j)=false):whole h=true:=by
 have a0:=H 0 (by omega);have a1:=H 1 (by omega);have a2:=H 2 (by omega);have a3:=H 3 (by omega);have a4:=H 4 (by omega);have a6:=H 6 (by omega);have a12:=H 12 (by omega)
 simp [must] at a0 a1 a2 a3 a4 a6 a12
 simp [whole,a0,a1,a2,a3,a4,a6,a12]
theorem whole_not {h:Nat→Bool}{k:Nat}(H:(must k&&!h k)=true):whole h=false:=by
 simp only [Bool.and_eq_true,Bool.not_eq_true',must,Bool.or_eq_true,beq_iff_eq] at H
 obtain⟨h1,h2⟩:=H
 rcases h1 with rfl | rfl | rfl | rfl | rfl | rfl | rfl <;> simp [whole,h2]
def Missed (h:Nat→Bool)(e:Ending):Prop:=if whole h then e=.returned (.int .i64 (-1)) else ∃ k:Nat,e=.returned (.int .i64 k)
theorem idxM_c (c:Nat)(h:Nat→Bool)(w:World)(hc:Cll w c h) :
  Calls Tryz.prog 127 #[.slice (some ⟨c,0,none⟩) 15 15,.func (.func 94) #[] #[]] w fun e w'=>Missed h e∧Ext w w':=by
 replace hc:=hid hc
 go_enter Tryz.func127,Tryz.ntmps127
 go_wp2
 go_loopw [8] (fun q wr=>∃ k:Nat,k≤15∧q=.int .i64 k∧Hid (Ext w wr)∧Hid (∀ j,j<k→(must j&&!h j)=false)) (fun q _=>15-(RowKit.intOf q).toNat)
 case atStart=>exact ⟨0,Nat.zero_le _,rfl,Ext.refl w,fun j hj=>absurd hj (Nat.not_lt_zero j)⟩
 case round =>
  obtain⟨k,hk,rfl,hx,hall⟩:=hrel
  by_cases hlt:k<15
  ·obtain ⟨fn,p,q,c0,c1,c2,c3,c4⟩:=hc.out.on k hlt
   replace c0:=hx.out.cell_of c0
   replace c1:=hx.out.cell_of c1
   replace c2:=hx.out.cell_of c2
   replace c3:=hx.out.cell_of c3
   replace c4:=hx.out.cell_of c4
   obtain⟨s,hs⟩:∃ s,wordAt k=s:=⟨_,rfl⟩
   rw [hs] at c0
   replace hs:=hid hs
   cases hq:(must k&&!h k)
   ·have hq2:=hid hq
    go_wp2_with (go_at_call 94;refine (complete1_c _ _ _ _ _ _ _ _).mono ?_;rintro e w1 ⟨rfl,hx1⟩;replace hx1:=hid hx1)
    go_roundw
    case rel=>exact ⟨k+1,by omega,by go_num,hx.out.trans hx1.out,fun j hj=>by
     by_cases e:j=k
     ·subst e;exact hq2.out
     ·exact hall.out j (by omega)⟩
    case measure=>simp [RowKit.intOf];omega
   ·have hq2:=hid hq
    go_wp2_with (go_at_call 94;refine (complete1_c _ _ _ _ _ _ _ _).mono ?_;rintro e w1 ⟨rfl,hx1⟩;replace hx1:=hid hx1)
    go_ret
    refine⟨?_,hx.out.trans hx1.out⟩
    unfold Missed
    rw [whole_not hq2.out]
    exact⟨k,rfl⟩
  ·obtain rfl:k=15:=by omega
   go_wp2
   go_ret
   refine⟨?_,hx.out⟩
   unfold Missed
   rw [whole_all hall.out]
   rfl
theorem contains_c (c:Nat)(h:Nat→Bool)(w:World)(hc:Cll w c h) :
  Calls Tryz.prog 93 #[.slice (some ⟨c,0,none⟩) 15 15,.func (.func 94) #[] #[]] w fun e w'=>e=.returned (.bool (!whole h))∧Ext w w':=by
 obtain⟨B,hB⟩:∃ B,whole h=B:=⟨_,rfl⟩
 rw [hB]
 replace hB:=hid hB
 cases B
 ·go_enter Tryz.func93,Tryz.ntmps93
  go_wp2_with fail
  refine (idxM_c c h _ hc).mono ?_
  rintro e w1 ⟨hm,hx⟩
  unfold Missed at hm
  rw [hB.out] at hm
  obtain⟨k,rfl⟩:∃ k:Nat,e=.returned (.int .i64 k):=hm
  have hk:(0:Int)≤(k:Int):=by omega
  replace hx:=hid hx
  go_wp2
  go_ret
  exact⟨rfl,hx.out⟩
 ·go_enter Tryz.func93,Tryz.ntmps93
  go_wp2_with fail
  refine (idxM_c c h _ hc).mono ?_
  rintro e w1 ⟨hm,hx⟩
  unfold Missed at hm
  rw [hB.out] at hm
  obtain rfl:e=.returned (.int .i64 (-1)):=hm
  replace hx:=hid hx
  go_wp2
  go_ret
  exact⟨rfl,hx.out⟩
theorem complete_c (wf w0 w:World)(r c:Nat)(vr vl vh:Value)(s:St)(h:Inn wf w0 w r c vr vl vh s) :
  Calls Tryz.prog 48 #[.pointer (some ⟨r,0,none⟩)] w fun e w'=>e=.returned (.bool (whole s.had))∧Ext w w':=by
 obtain⟨B,hB⟩:∃ B,whole s.had=B:=⟨_,rfl⟩
 have c1:=(h.cell 1 (.slice (some ⟨c,0,none⟩) 15 15) (fun _=>rfl)).1
 have hc:=hid <| Cll.of h.cls
 rw [hB]
 have hB2:(!whole s.had) = !B:=by rw [hB]
 replace hB:=hid hB
 replace hB2:=hid hB2
 replace h:=hid h
 go_enter Tryz.func48,Tryz.ntmps48
 go_wp2_with fail
 refine (contains_c c s.had _ hc.out).mono ?_
 rintro e w1 ⟨he,hx⟩
 rw [hB2.out] at he
 subst he
 replace hx:=hid hx
 go_wp2
 go_ret
 exact⟨by simp,hx.out⟩
theorem tell_cells (r:Nat)(h:Nat→Bool):∀ i,i<15→(ccells r h).setIfInBounds (5 * i+4) (.bool true)=ccells r (seen h i)
 | 0,_=>by simp [ccells,seen]
 | 1,_=>by simp [ccells,seen]
 | 2,_=>by simp [ccells,seen]
 | 3,_=>by simp [ccells,seen]
 | 4,_=>by simp [ccells,seen]
 | 5,_=>by simp [ccells,seen]
 | 6,_=>by simp [ccells,seen]
 | 7,_=>by simp [ccells,seen]
 | 8,_=>by simp [ccells,seen]
 | 9,_=>by simp [ccells,seen]
 | 10,_=>by simp [ccells,seen]
 | 11,_=>by simp [ccells,seen]
 | 12,_=>by simp [ccells,seen]
 | 13,_=>by simp [ccells,seen]
 | 14,_=>by simp [ccells,seen]
 | i+15,hi=>by omega
theorem Inn.tell {wf w0 w:World}{r c:Nat}{vr vl vh:Value}{s:St}(h:Inn wf w0 w r c vr vl vh s)(i:Nat)(hi:i<15):Inn wf w0 (w.setCell ⟨c,5 * i+4,none⟩ (.bool true)) r c vr vl vh { s with had:=seen s.had i }:=by
 obtain⟨vt,hr,ht⟩:=h.row
 have hk:∀ (f:TypeId),f≠112→∀ (k:Nat) (cur:Array Value),w.heap[k]?=some (Obj.cells cur f (0,0))→(w.setCell ⟨c,5 * i+4,none⟩ (.bool true)).heap[k]?=w.heap[k]?:=fun f hf k cur hk=>heap_setCell_other _ _ _ _ (by
  show k≠c
  rintro rfl
  have:=hk.symm.trans h.cls
  simp at this
  exact hf this.2)
 exact⟨h.ext.setCell h.loc _,h.lo,h.loc,⟨vt,(hk _ (by decide) _ _ hr).trans hr,ht⟩,(heap_setCell_same w c (5 * i+4) _ _ _ h.cls).trans (by rw [tell_cells r s.had i hi]),own_keep h.sr (hk _ (by decide)),own_keep h.sl (hk _ (by decide)),own_keep h.sh (hk _ (by decide)),h.kp.go fun f k cur hf=>hk f (by rcases hf with rfl | rfl <;> decide) k cur⟩
theorem wp_region_tail {P:Program}{id:Nat}{Q:Exit→Act→World→Prop}{a:Act}{w:World}{l:List Oper}(n:Nat)(hm:P.follows .mixedOrders=true)(hB:Region.lexTailB .any l.toArray n=true)
  (h:∀ W,Ext w W→wpStill P l.toArray W (fun a'=>wpList P l.toArray Q (l.drop n) a' W) (l.take n) a):(Code.region id l.toArray true).wp P Q a w :=
 wp_region_still_tail n hm hB (h _ ((Ext.refl w).drew))
def Rdc (wf w0:World)(r c:Nat)(X:Res St)(e:Ending)(w':World):Prop :=
 Ext w0 w'∧match X with
  | .ok u=>e=.returned (.tuple #[])∧∃ vr vl vh,Inn wf w0 w' r c vr vl vh u
  | .no x y=>e=thrown x y
theorem Rdc.no {wf w0 w:World}{r c:Nat}{x y:Nat}(hx:Ext w0 w):Rdc wf w0 r c (.no x y) (thrown x y) w:=⟨hx,rfl⟩
theorem Rdc.ok {wf w0 w:World}{r c:Nat}{u:St}{vr vl vh:Value}(hi:Inn wf w0 w r c vr vl vh u):Rdc wf w0 r c (.ok u) (.returned (.tuple #[])) w:=⟨hi.ext,rfl,vr,vl,vh,hi⟩
theorem reads_fine {s:St}{i:Nat}{a:Prd×List Tok}(hf:Fine s)(h:clauseR i s.p s.ts=.ok a)(hd:Nat→Bool):Fine ⟨a.2,a.1,hd⟩∧a.2.length<s.ts.length:=by
 have one:∀ {f:List UInt8→Option Int} {s:St} {b:Int×List Tok},Fine s→f []=none→tk f s.ts=.ok b→Fine { s with ts:=b.2 }∧s.ts.length=b.2.length+1:=by
  intro f s b hf hn hb
  obtain⟨t,ts,hs,_,_⟩:=hf.cons
  rw [hs] at hb
  cases hp:f t.text with
  | none=>rw [tk_none hp] at hb;cases hb
  | some v =>
   rw [tk_some hp] at hb
   obtain rfl:(v,ts)=b:=by simpa using hb
   exact⟨hf.next hs (some_ne hn hp),by rw [hs];simp⟩
 have fin:∀ {f:List UInt8→Option Int} {g:Int→Prd},f []=none→(∀ v,(g v).rs=s.p.rs∧(g v).lt=s.p.lt∧(g v).hd=s.p.hd)→((tk f s.ts).bind fun b=>Res.ok (g b.1,b.2))=.ok a→Fine ⟨a.2,a.1,hd⟩∧a.2.length<s.ts.length:=by
  intro f g hn hg hb
  cases ht:tk f s.ts with
  | no x y=>rw [ht] at hb;cases hb
  | ok b =>
   rw [ht] at hb
   obtain rfl:(g b.1,b.2)=a:=by simpa [Res.bind] using hb
   obtain⟨h1,h2⟩:=one hf hn ht
   obtain⟨g1,g2,g3⟩:=hg b.1
   refine⟨⟨h1.fin,h1.len,?_⟩,by show b.2.length<_;omega⟩
   have:=h1.few
   show b.2.length+(g b.1).rs.length+(g b.1).lt.length+(g b.1).hd.length≤20010
   rw [g1,g2,g3]
   exact this
 have grow:∀ {f g:List UInt8→Option Int} {q:Int→Int→Prd},f []=none→g []=none→(∀ u v,(q u v).rs.length+(q u v).lt.length+(q u v).hd.length≤s.p.rs.length+s.p.lt.length+s.p.hd.length+1)→((tk f s.ts).bind fun b=>(tk g b.2).bind fun d=>Res.ok (q b.1 d.1,d.2))=.ok a→Fine ⟨a.2,a.1,hd⟩∧a.2.length<s.ts.length:=by
  intro f g q hn1 hn2 hq hb
  cases ht:tk f s.ts with
  | no x y=>rw [ht] at hb;cases hb
  | ok b =>
   rw [ht] at hb
   obtain⟨h1,h2⟩:=one hf hn1 ht
   have hb2:((tk g b.2).bind fun d=>Res.ok (q b.1 d.1,d.2))=.ok a:=hb
   cases ht2:tk g b.2 with
   | no x y=>rw [ht2] at hb2;cases hb2
   | ok d =>
    rw [ht2] at hb2
    obtain rfl:(q b.1 d.1,d.2)=a:=by simpa [Res.bind] using hb2
    obtain⟨h3,h4⟩:=one h1 hn2 ht2
    have e4:b.2.length=d.2.length+1:=h4
    refine⟨⟨h3.fin,h3.len,?_⟩,by show d.2.length<_;omega⟩
    have:=hf.few
    have:=hq b.1 d.1
    show d.2.length+(q b.1 d.1).rs.length+(q b.1 d.1).lt.length+(q b.1 d.1).hd.length≤20010
    omega
 match i,h with
 | 0,h=>exact fin (g:=fun v=>{ s.p with cn:=v }) (by decide) (fun v=>⟨rfl,rfl,rfl⟩) h
 | 1,h=>exact fin (g:=fun v=>{ s.p with rd:=v }) (by decide) (fun v=>⟨rfl,rfl,rfl⟩) h
 | 2,h=>exact fin (g:=fun v=>{ s.p with kd:=v }) (by decide) (fun v=>⟨rfl,rfl,rfl⟩) h
 | 3,h=>exact fin (g:=fun v=>{ s.p with ev:=v }) num_nil (fun v=>⟨rfl,rfl,rfl⟩) h
 | 4,h=>exact fin (g:=fun v=>{ s.p with tm:=v }) num_nil (fun v=>⟨rfl,rfl,rfl⟩) h
 | 5,h=>exact fin (g:=fun v=>{ s.p with gr:=v }) num_nil (fun v=>⟨rfl,rfl,rfl⟩) h
 | 6,h=>exact fin (g:=fun v=>{ s.p with rt:=v }) rate_nil (fun v=>⟨rfl,rfl,rfl⟩) h
 | 7,h=>exact fin (g:=fun v=>{ s.p with pn:=v }) rate_nil (fun v=>⟨rfl,rfl,rfl⟩) h
 | 8,h=>exact grow (q:=fun u v=>{ s.p with rs:=s.p.rs++[(u,v)] }) num_nil rate_nil (fun u v=>by simp;omega) h
 | 9,h=>exact grow (q:=fun u v=>{ s.p with lt:=s.p.lt++[(u,v)] }) num_nil mon_nil (fun u v=>by simp;omega) h
 | 10,h=>exact fin (g:=fun v=>{ s.p with cp:=v }) mon_nil (fun v=>⟨rfl,rfl,rfl⟩) h
 | 11,h =>
  have hb:((tk dayO s.ts).bind fun b=>Res.ok ({ s.p with hd:=s.p.hd++[b.1] },b.2))=.ok a:=h
  cases ht:tk dayO s.ts with
  | no x y=>rw [ht] at hb;cases hb
  | ok b =>
   rw [ht] at hb
   obtain rfl:({ s.p with hd:=s.p.hd++[b.1] },b.2)=a:=by simpa [Res.bind] using hb
   obtain⟨h1,h2⟩:=one hf day_nil ht
   refine⟨⟨h1.fin,h1.len,?_⟩,by show b.2.length<_;omega⟩
   have:=hf.few
   show b.2.length+s.p.rs.length+s.p.lt.length+(s.p.hd++[b.1]).length≤20010
   simp only [List.length_append,List.length_cons,List.length_nil]
   omega
 | 12,h =>
  have hb:((ordF 4 oOrder s.ts).bind fun b=>Res.ok (ordP s.p b.1,b.2))=.ok a:=by rw [←order_ord];exact h
  have all:∀ (n:Nat) (o:Opts) (u:St) (b:List Int×List Tok),Fine u→(∀ x∈o,x.1≠[])→ordF n o u.ts=.ok b→Fine { u with ts:=b.2 }∧u.ts.length=b.2.length+n:=by
   intro n
   induction n with
   | zero =>
    intro o u b hu _ hb
    obtain rfl:([],u.ts)=b:=by simpa [ordF] using hb
    exact⟨hu,rfl⟩
   | succ n ih =>
    intro o u b hu ho hb
    simp only [ordF] at hb
    cases ht:tk (pick o) u.ts with
    | no x y=>rw [ht] at hb;cases hb
    | ok d =>
     rw [ht] at hb
     obtain⟨h1,h2⟩:=one hu (pick_nil ho) ht
     have hb2:((ordF n (lessO o d.1) d.2).bind fun b=>Res.ok (d.1::b.1,b.2))=.ok b:=hb
     cases ht2:ordF n (lessO o d.1) d.2 with
     | no x y=>rw [ht2] at hb2;cases hb2
     | ok f =>
      rw [ht2] at hb2
      obtain rfl:(d.1::f.1,f.2)=b:=by simpa [Res.bind] using hb2
      obtain⟨h3,h4⟩:=ih (lessO o d.1) { u with ts:=d.2 } f h1 (wrd_less ho) ht2
      have e4:d.2.length=f.2.length+n:=h4
      exact⟨h3,by show u.ts.length=f.2.length+(n+1);omega⟩
  cases ht:ordF 4 oOrder s.ts with
  | no x y=>rw [ht] at hb;cases hb
  | ok b =>
   rw [ht] at hb
   obtain rfl:(ordP s.p b.1,b.2)=a:=by simpa [Res.bind] using hb
   obtain⟨h1,h2⟩:=all 4 oOrder s b hf (by decide) ht
   exact⟨⟨h1.fin,h1.len,h1.few⟩,by show b.2.length<_;omega⟩
 | 13,h=>exact fin (g:=fun v=>{ s.p with ov:=v }) (by decide) (fun v=>⟨rfl,rfl,rfl⟩) h
 | 14,h=>exact fin (g:=fun v=>{ s.p with rl:=v }) (by decide) (fun v=>⟨rfl,rfl,rfl⟩) h
 | i+15,h=>cases h
theorem clause_15 (wf w0 w:World)(r c:Nat)(vr vl vh:Value)(s:St)(t:Tok)(he0:Hid (Env w0))(h:Inn wf w0 w r c vr vl vh s)(hi:which t.text=15) :
  Calls Tryz.prog 92 #[.pointer (some ⟨r,0,none⟩),tokV t] w fun e w'=>Rdc wf w0 r c (clR t s) e w':=by
 have hX:clR t s=.no 7 t.at_:=by unfold clR;rw [hi];rfl
 rw [hX]
 clear hX
 have hmf:=L7.make_func
 obtain⟨W0,b,hW,hb,hx0,b0,b1,b2⟩:=box_tok w t 59
 replace h:=hid <| h.on hx0
 have c1:=(h.out.cell 1 (.slice (some ⟨c,0,none⟩) 15 15) (fun _=>rfl)).1
 have hcl:=hid <| Cll.of h.out.cls
 clear hx0
 unfold tokV
 go_enter Tryz.func92,Tryz.ntmps92
 go_wp2_with fail
 refine (idxC_c c b s.had t.text _ hcl.out b2).mono ?_
 rintro e w1 ⟨he,hx⟩
 rw [hi] at he
 replace h:=hid <| h.out.on hx
 replace b0:=hx.cell_of b0
 replace b1:=hx.cell_of b1
 replace b2:=hx.cell_of b2
 clear hx c1 hcl hW hb
 obtain rfl:e=.returned (.int .i64 (-1)):=he
 clear hi
 go_wp2_with fail
 refine (need_no t _).mono ?_
 rintro e w2 ⟨rfl,hx⟩
 replace h:=hid <| h.out.on hx
 clear hx b0 b1 b2
 unfold thrown
 go_wp2
 exact⟨rfl,Rdc.no h.out.ext⟩
end Go.Proofs.YtlbodoggfbdnjaaGreatDoor
