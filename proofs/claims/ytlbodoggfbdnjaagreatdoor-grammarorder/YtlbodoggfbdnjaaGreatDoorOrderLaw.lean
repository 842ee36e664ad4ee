/- For all slices turns and groups, of the project's tree at the commit that COMMIT names, GrammarOrder returns true and leaves its arguments as they were, with the listed variables laid as the program's text lays them. -/
import Derived.Test.YtlbodoggfbdnjaaGreatDoorO19
import Derived.Test.YtlbodoggfbdnjaaGreatDoorO20
set_option linter.unusedVariables false
set_option maxRecDepth 100000
set_option maxHeartbeats 8000000
namespace Go.Proofs.YtlbodoggfbdnjaaGreatDoor
def qzx0:Oper:=⟨some 42,Op.move (.tmp 5),37,"law.go:71",#[],none⟩
def qzx1:Oper:=⟨some 43,Op.move (.tmp 9),3,"law.go:71",#[],none⟩
def qzx2:Oper:=⟨some 44,Op.move (.tmp 5),37,"law.go:71",#[],none⟩
def qzx3:Oper:=⟨some 45,Op.call { callee:=Callee.builtin Builtin.len,args:=#[.tmp 44],argTypes:=#[37] },3,"law.go:71",#[⟨2,.data⟩],none⟩
def qzx4:Oper:=⟨some 46,Op.binOp BinOp.rem 3 (.tmp 43) (.tmp 45) 3,3,"law.go:71",#[⟨1,.data⟩,⟨3,.data⟩],none⟩
def qzx5:Oper:=⟨some 47,Op.move (.tmp 5),37,"law.go:71",#[⟨19,.gcOnly .lateStores⟩],none⟩
def qzx6:Oper:=⟨some 48,Op.move (.tmp 10),3,"law.go:71",#[⟨19,.gcOnly .lateStores⟩],none⟩
def qzx7:Oper:=⟨some 49,Op.move (.tmp 5),37,"law.go:71",#[],none⟩
def qzx8:Oper:=⟨some 50,Op.move (.tmp 10),3,"law.go:71",#[],none⟩
def qzx9:Oper:=⟨some 51,Op.indexAddr 37 (.tmp 49) (.tmp 50),0,"law.go:71",#[⟨7,.data⟩,⟨8,.data⟩],none⟩
def qzx10:Oper:=⟨some 53,Op.move (.tmp 5),37,"law.go:71",#[],none⟩
def qzx11:Oper:=⟨some 54,Op.move (.tmp 9),3,"law.go:71",#[],none⟩
def qzx12:Oper:=⟨some 55,Op.move (.tmp 5),37,"law.go:71",#[],none⟩
def qzx13:Oper:=⟨some 56,Op.call { callee:=Callee.builtin Builtin.len,args:=#[.tmp 55],argTypes:=#[37] },3,"law.go:71",#[⟨13,.data⟩],none⟩
def qzx14:Oper:=⟨some 57,Op.binOp BinOp.rem 3 (.tmp 54) (.tmp 56) 3,3,"law.go:71",#[⟨12,.data⟩,⟨14,.data⟩],none⟩
def qzx15:Oper:=⟨some 58,Op.indexAddr 37 (.tmp 53) (.tmp 57),0,"law.go:71",#[⟨11,.data⟩,⟨15,.data⟩],none⟩
def qzx16:Oper:=⟨some 52,Op.load 9 (.tmp 51),9,"law.go:71",#[⟨9,.data⟩],none⟩
def qzx17:Oper:=⟨some 59,Op.load 9 (.tmp 58),9,"law.go:71",#[⟨16,.data⟩],none⟩
def qzx18:Oper:=⟨some 60,Op.indexAddr 37 (.tmp 42) (.tmp 46),0,"law.go:71",#[⟨0,.data⟩,⟨4,.data⟩,⟨0,.phase⟩,⟨1,.phase⟩,⟨2,.phase⟩,⟨3,.phase⟩,⟨4,.phase⟩,⟨5,.textOnly .lateStores⟩,⟨6,.textOnly .lateStores⟩,⟨7,.phase⟩,⟨8,.phase⟩,⟨9,.phase⟩,⟨10,.phase⟩,⟨11,.textOnly .lateStores⟩,⟨12,.textOnly .lateStores⟩,⟨13,.textOnly .lateStores⟩,⟨14,.textOnly .lateStoresUnsure⟩,⟨15,.textOnly .lateStores⟩,⟨16,.textOnly .lateStoresUnsure⟩,⟨17,.phase⟩],none⟩
def qzx19:Oper:=⟨none,.store 9 (.tmp 60) (.tmp 52),0,"law.go:71",#[⟨18,.data⟩,⟨10,.data⟩,⟨0,.phase⟩,⟨1,.phase⟩,⟨2,.phase⟩,⟨3,.phase⟩,⟨4,.phase⟩,⟨5,.textOnly .lateStores⟩,⟨6,.textOnly .lateStores⟩,⟨7,.phase⟩,⟨8,.phase⟩,⟨9,.phase⟩,⟨10,.phase⟩,⟨11,.textOnly .lateStores⟩,⟨12,.textOnly .lateStores⟩,⟨13,.textOnly .lateStores⟩,⟨14,.textOnly .lateStoresUnsure⟩,⟨15,.textOnly .lateStores⟩,⟨16,.textOnly .lateStoresUnsure⟩,⟨17,.phase⟩],none⟩
def qzx20:Oper:=⟨some 61,Op.indexAddr 37 (.tmp 47) (.tmp 48),0,"law.go:71",#[⟨5,.data⟩,⟨6,.data⟩,⟨0,.phase⟩,⟨1,.phase⟩,⟨2,.phase⟩,⟨3,.phase⟩,⟨4,.phase⟩,⟨5,.phase⟩,⟨6,.phase⟩,⟨7,.phase⟩,⟨8,.phase⟩,⟨9,.phase⟩,⟨10,.phase⟩,⟨11,.phase⟩,⟨12,.phase⟩,⟨13,.phase⟩,⟨14,.phase⟩,⟨15,.phase⟩,⟨16,.phase⟩,⟨17,.phase⟩,⟨18,.phase⟩,⟨19,.phase⟩],none⟩
def qzx21:Oper:=⟨none,.store 9 (.tmp 61) (.tmp 59),0,"law.go:71",#[⟨20,.data⟩,⟨17,.data⟩,⟨19,.chain⟩,⟨0,.phase⟩,⟨1,.phase⟩,⟨2,.phase⟩,⟨3,.phase⟩,⟨4,.phase⟩,⟨5,.phase⟩,⟨6,.phase⟩,⟨7,.phase⟩,⟨8,.phase⟩,⟨9,.phase⟩,⟨10,.phase⟩,⟨11,.phase⟩,⟨12,.phase⟩,⟨13,.phase⟩,⟨14,.phase⟩,⟨15,.phase⟩,⟨16,.phase⟩,⟨17,.phase⟩,⟨18,.phase⟩,⟨19,.phase⟩],none⟩
end Go.Proofs.YtlbodoggfbdnjaaGreatDoor
namespace Go.Proofs.YtlbodoggfbdnjaaGreatDoor.grammarOrder
open Go.ChangeShapes Go.WideShapes Go.ChangeAt Go.RowKit Go.Lib
theorem mod_of (a m:Int)(hm:0<m):∃ N:Nat,(IntKind.u64.wrap a).tmod m=(N:Int)∧(N:Int)<m:=by
 have h0:0≤IntKind.u64.wrap a:=by
  unfold IntKind.wrap
  simp [IntKind.signed,IntKind.bits]
  omega
 have h1:0≤(IntKind.u64.wrap a).tmod m:=Int.tmod_nonneg _ h0
 have h2:(IntKind.u64.wrap a).tmod m<m:=Int.tmod_lt_of_pos _ hm
 exact⟨((IntKind.u64.wrap a).tmod m).toNat,by omega,by omega⟩
theorem lsts_past {w0 w W W':World}{b:Nat}{p:Prd}{vr vl vh:Value}(h:Lsts w0 w p vr vl vh)(hx:Ext w W)(hb:w.heap.size≤b)(h3:Exr b W W'):Lsts w0 W' p vr vl vh :=
 h.low fun g _ hg=>(h3.block g (Nat.lt_of_lt_of_le hg hx.size) (by omega)).trans (hx.below.block g hg)
def rowO (σ:List Nat):Array Value:=(σ.map fun k=>strV (oTxt k)).toArray
theorem rowO_at {σ:List Nat}{i x:Nat}(h:σ[i]?=some x):(rowO σ)[i]?=some (.string ⟨(oTxt x).toArray⟩):=by
 unfold rowO
 simp [h,strV]
theorem rowO_set (σ:List Nat)(a x:Nat):(rowO σ).setIfInBounds a (strV (oTxt x))=rowO (σ.set a x):=by
 unfold rowO
 simp
theorem lay13 (w:World):∃ W b,w.alloc (.cells #[.string ⟨#[99,111,117,110,116,32,102,105,120,101,100,59]⟩,.string ⟨#[114,111,117,110,100,32,100,111,119,110,59]⟩,.string ⟨#[107,105,110,100,32,101,113,117,97,108,59]⟩,.string ⟨#[101,118,101,114,121,32,51,59]⟩,.string ⟨#[116,105,109,101,115,32,56,59]⟩,.string ⟨#[103,114,97,99,101,32,50,59]⟩,.string ⟨#[114,97,116,101,32,54,46,53,37,59]⟩,.string ⟨#[112,101,110,97,108,116,121,32,57,37,59]⟩,.string ⟨#[111,118,101,114,32,112,114,101,112,97,121,59]⟩,.string ⟨#[111,114,100,101,114,32,105,110,116,101,114,101,115,116,32,102,101,101,115,32,112,114,105,110,99,105,112,97,108,32,112,101,110,97,108,116,121,59]⟩,.string ⟨#[114,111,108,108,32,119,105,116,104,105,110,59]⟩,.string ⟨#[99,97,112,32,53,46,48,48,59]⟩,.string ⟨#[108,97,116,101,32,53,32,49,46,48,48,59]⟩] 9)=W∧w.heap.size=b∧Ext w W∧W.heap[b]?=some (Obj.cells (rowO (List.range 13)) 9 (0,0)) :=
 ⟨_,_,rfl,rfl,(Ext.refl w).alloc _ _,heap_alloc_last w _⟩
theorem swap_perm {σ:List Nat}{a n x y:Nat}(hσ:σ.Perm (List.range 13))(ha:σ[a]?=some x)(hn:σ[n]?=some y):((σ.set a y).set n x).Perm (List.range 13):=by
 obtain⟨h1,e1⟩:=List.getElem?_eq_some_iff.1 ha
 obtain⟨h2,e2⟩:=List.getElem?_eq_some_iff.1 hn
 have:=@List.set_set_perm _ σ _ _ h1 h2
 rw [e1,e2] at this
 exact this.trans hσ
def oS (gs:List Bool)(σ:List Nat)(k:Nat):List UInt8:=ordH++comb gs 0 (σ.take k)
theorem oS_succ (gs:List Bool){σ:List Nat}{k x:Nat}(h:σ[k]?=some x):oS gs σ (k+1)=oS gs σ k++pcB (gB gs k) (oTxt x):=by
 have hk:=(List.getElem?_eq_some_iff.1 h).1
 unfold oS
 rw [List.take_add_one,h]
 show _++comb gs 0 (σ.take k++[x])=_
 rw [comb_snoc,List.length_take,Nat.min_eq_left (Nat.le_of_lt hk),Nat.zero_add,List.append_assoc]
theorem oS_len (gs:List Bool){σ:List Nat}(k:Nat)(hσ:σ.Perm (List.range 13)):(oS gs σ k).length≤600:=by
 have h13:∀ x∈σ.take k,x<13:=fun x hx=>List.mem_range.1 (hσ.mem_iff.1 (List.mem_of_mem_take hx))
 have h1:=comb_len gs (σ.take k) 0 h13
 have h2:σ.length=13:=by rw [hσ.length_eq];simp
 unfold oS
 rw [List.length_append]
 have h3:ordH.length=11:=rfl
 have h4:(σ.take k).length≤13:=by rw [List.length_take];omega
 omega
theorem oS_end (gs:List Bool){σ:List Nat}(hσ:σ.Perm (List.range 13)):prs (oS gs σ 13++[125])=.ok oPrd:=by
 have h2:σ.length=13:=by rw [hσ.length_eq];simp
 unfold oS
 rw [List.take_of_length_le (by omega),List.append_assoc]
 exact ord_prs gs hσ
theorem walk (v0:Value)(l0:List Int)(n0:l0.length≤maxLen)(b0:∀ x∈l0,L8.I64 x)(v1:Value)(l1:List Bool)(n1:l1.length≤maxLen)(w:World)(he:Env w)(s0:L8.Slc w v0 l0)(s1:Slb w v1 l1) :
  Calls Tryz.prog 6 #[v0,v1] w fun e w'=>e=.returned (.bool true)∧Ext w w':=by
 replace he:Hid (Env w):=he
 obtain⟨ao0,c0,hv0⟩:=s0.len
 obtain⟨ao1,c1,hv1⟩:∃ ao c,v1=.slice ao l1.length c:=by
  rcases s1 with ⟨a,c,rfl,rfl⟩ | ⟨q,o,c,rfl,_⟩
  ·exact ⟨a,c,rfl⟩
  ·exact ⟨_,c,rfl⟩
 replace s0:=hid s0
 replace s1:=hid s1
 subst hv0
 subst hv1
 unfold maxLen at n0 n1
 obtain⟨W1,b,hW1,hb,hx1,hR1⟩:=lay13 w
 have hbw:Hid (w.heap.size≤b):=by show _≤_;omega
 have hbW:Hid (b<W1.heap.size):=(Array.getElem?_eq_some_iff.1 hR1).1
 have he1:Hid (Env W1):=he.out.ext hx1
 replace hx1:=hid hx1
 replace hR1:=hid hR1
 go_enter Tryz.func6,Tryz.ntmps6
 go_wp2_with fail
 refine (ParseD_c ordW _ (by decide) he1).mono ?_
 rintro e w2 ⟨hx2,hA⟩
 rw [ordW_prs] at hA
 obtain⟨ur,ul,uh,rfl,hM⟩:=hA
 have hsz:(pcells oPrd ur ul uh).size=19:=rfl
 have hone:=pcells_one (p:=oPrd) hM.sr hM.sl hM.sh
 obtain⟨W3,d,hW3,hd,hx3,hB3⟩:=layZ w2
 have hdl:w2.heap.size≤d:=by omega
 have hdb:Hid (d≠b):=by show d≠b;have:=hbW.out;have:=hx2.size;omega
 have hR3:=((hx2.trans hx3).below.block b hbW.out).trans hR1.out
 replace hM:=hid hM
 replace hR3:=hid hR3
 replace hx2:=hid hx2
 go_wp2_with (refine store27 hB3 rfl hsz hone rfl rfl rfl rfl ?_)
 intro W4 hB4 hx4
 replace hB4:Hid (Blk W4 d (pcells oPrd ur ul uh)):=hB4
 replace hM:Hid (Lsts W1 W4 oPrd ur ul uh):=lsts_past hM.out hx3 hdl hx4
 have hR4:Hid (W4.heap[b]?=some (Obj.cells (rowO (List.range 13)) 9 (0,0))):=(hx4.block b (by have:=hbW.out;have:=hx2.out.size;have:=hx3.size;omega) (Ne.symm hdb.out)).trans hR3.out
 have hx:Hid (Ext w W4):=hx4.ext ((hx1.out.trans hx2.out).trans hx3) (by have:=hx1.out.size;have:=hx2.out.size;omega)
 clear hW1 hb hR1 hW3 hd hx3 hB3 hx4 hR3 hdl hone hsz he1 hx2
 go_wp2_with fail
 go_loopw [9] (fun i wr=>∃ (k:Nat) (σ:List Nat),k≤40∧i=.int .i64 k∧σ.Perm (List.range 13)∧Hid (Exr b W4 wr)∧Hid (wr.heap[b]?=some (Obj.cells (rowO σ) 9 (0,0)))) (fun i _=>40-(RowKit.intOf i).toNat)
 case atStart=>exact ⟨0,List.range 13,Nat.zero_le _,rfl,.refl _,Exr.refl b W4,hR4⟩
 case round =>
  obtain⟨k,σ,hk,rfl,hσ,hE,hR⟩:=hrel
  obtain⟨B,hB⟩:∃ B:Bool,(decide (k<l0.length)&&decide (k<40))=B:=⟨_,rfl⟩
  replace hσ:=hid hσ
  have hBB:=hid hB
  go_upto_region 4 with fail
  go_cut [29] from 22 to 61 (fun t wx=>t=.bool B∧wx=wr)
  case first =>
   clear hR hE hσ hM hB4 hR4 hx
   by_cases h1:k<l0.length
   ·have h1i:(k:Int)<(l0.length:Int):=by omega
    rw [decide_eq_true h1] at hB
    by_cases h2:k<40
    ·have h2i:(k:Int)<40:=by omega
     rw [decide_eq_true h2] at hB
     subst hB
     go_wp2
     all_goals (go_meet;exact ⟨rfl,rfl⟩)
    ·have h2i:¬ (k:Int)<40:=by omega
     rw [decide_eq_false h2] at hB
     subst hB
     go_wp2
     all_goals (go_meet;exact ⟨rfl,rfl⟩)
   ·have h1i:¬ (k:Int)<(l0.length:Int):=by omega
    rw [decide_eq_false h1] at hB
    subst hB
    go_wp2
    all_goals (go_meet;exact ⟨rfl,rfl⟩)
  case rest =>
   obtain⟨rfl,hwc⟩:=hcut
   replace hwc:=hwc.symm
   subst hwc
   cases B
   case true =>
    have hb2:=hBB.out
    simp only [Bool.and_eq_true,decide_eq_true_eq] at hb2
    obtain⟨h1,h2⟩:=hb2
    have h1i:(k:Int)<(l0.length:Int):=by omega
    obtain⟨x,hx0⟩:∃ x,l0[k]?=some x:=⟨_,List.getElem?_eq_getElem h1⟩
    obtain⟨N,hN,hN13⟩:=mod_of x 13 (by omega)
    obtain⟨A,hA⟩:∃ A,k % 13=A:=⟨_,rfl⟩
    have hA13:A<13:=by omega
    have hAI:(k:Int) % 13=(A:Int):=by omega
    have hAt:(k:Int).tmod 13=(A:Int):=by rw [Int.tmod_eq_emod_of_nonneg (by omega)];exact hAI
    have hN13':N<13:=by omega
    have hA13i:(A:Int)<13:=by omega
    have hlσ:σ.length=13:=by rw [hσ.out.length_eq];simp
    obtain⟨sN,hsN⟩:∃ s,σ[N]?=some s:=⟨_,List.getElem?_eq_getElem (by omega)⟩
    obtain⟨sA,hsA⟩:∃ s,σ[A]?=some s:=⟨_,List.getElem?_eq_getElem (by omega)⟩
    have hPσ:=hid <| swap_perm hσ.out hsA hsN
    have hcell:∃ bt off,ao0=some ⟨bt,off,none⟩∧wr.cell? ⟨bt,off+k,none⟩=some (.int .i64 x):=by
     rcases s0.out with ⟨a,c,hv,_,hl⟩ | ⟨bt,off,c,hv,hc⟩
     ·rw [hl] at h1;simp at h1
     ·have hv2:=hv
      simp only [Value.slice.injEq] at hv2
      exact⟨bt,off,hv2.1,(hE.out.ext hx.out hbw.out).cell_of (hc k x hx0)⟩
    obtain⟨bt,off,rfl,ct⟩:=hcell
    have hk0:(0:Int)≤(k:Int):=by omega
    replace hsN:=hid hsN
    replace hsA:=hid hsA
    clear hA hx0 hB
    go_upto_region 7 with fail
    clear ct hN
    replace hsN:=hsN.out
    replace hsA:=hsA.out
    refine L8.wt (fun W=>True) trivial fun hSt=>?_
    clear hSt
    have hdr:Ext wr wr.drew:=(Ext.refl wr).drew
    have hR2:=(hdr.below.block b (Array.getElem?_eq_some_iff.1 hR.out).1).trans hR.out
    have hE2:=hE.out.trans (.of hdr)
    have hE2:=hid hE2
    generalize wr.drew=wd at *
    clear hdr
    have cN:=(cell_of_row wd b N _ _ _ hR2).trans (rowO_at hsN)
    have cA:=(cell_of_row wd b A _ _ _ hR2).trans (rowO_at hsA)
    have zN:=frozen_of_row wd b N _ _ hR2
    have zA:=frozen_of_row wd b A _ _ hR2
    have hq1:=heap_setCell_same wd b A _ _ (strV (oTxt sN)) hR2
    rw [rowO_set] at hq1
    have hq2:=heap_setCell_same _ b N _ _ (strV (oTxt sA)) hq1
    rw [rowO_set] at hq2
    have zN2:=frozen_of_row _ b N _ _ hq1
    obtain⟨x2,hx2⟩:∃ x,(σ.set A sN)[N]?=some x:=⟨_,List.getElem?_eq_getElem (by rw [List.length_set];omega)⟩
    have cN2:=(cell_of_row _ b N _ _ _ hq1).trans (rowO_at hx2)
    replace hq2:=hid hq2
    have hE3:=hid <| (hE2.out.set A (strV (oTxt sN))).set N (strV (oTxt sA))
    replace hE2:=hE2
    clear hq1 hR2 hR hE
    unfold strV at zN2 hE3 hq2 cN2
    clear hx2
    refine L8.tk 0 qzx0 (some 42) (.slice (some ⟨b,0,none⟩) 13 13) trivial (fun W hW=>?_) ?_
    ·unfold qzx0
     go_simp
    simp only [p4]
    refine L8.tk 1 qzx1 (some 43) (.int .i64 k) trivial (fun W hW=>?_) ?_
    ·unfold qzx1
     go_simp
    simp only [p4]
    refine L8.tk 2 qzx2 (some 44) (.slice (some ⟨b,0,none⟩) 13 13) trivial (fun W hW=>?_) ?_
    ·unfold qzx2
     go_simp
    simp only [p4]
    refine L8.tk 3 qzx3 (some 45) (.int .i64 13) trivial (fun W hW=>?_) ?_
    ·unfold qzx3
     go_simp
    simp only [p4]
    refine L8.tk 4 qzx4 (some 46) (.int .i64 A) trivial (fun W hW=>?_) ?_
    ·unfold qzx4
     go_simp
    simp only [p4]
    refine L8.tk 5 qzx5 (some 47) (.slice (some ⟨b,0,none⟩) 13 13) trivial (fun W hW=>?_) ?_
    ·unfold qzx5
     go_simp
    simp only [p4]
    refine L8.tk 6 qzx6 (some 48) (.int .i64 N) trivial (fun W hW=>?_) ?_
    ·unfold qzx6
     go_simp
    simp only [p4]
    refine L8.tk 7 qzx7 (some 49) (.slice (some ⟨b,0,none⟩) 13 13) trivial (fun W hW=>?_) ?_
    ·unfold qzx7
     go_simp
    simp only [p4]
    refine L8.tk 8 qzx8 (some 50) (.int .i64 N) trivial (fun W hW=>?_) ?_
    ·unfold qzx8
     go_simp
    simp only [p4]
    refine L8.tk 9 qzx9 (some 51) (.pointer (some ⟨b,N,none⟩)) trivial (fun W hW=>?_) ?_
    ·unfold qzx9
     go_simp
    simp only [p4]
    refine L8.tk 11 qzx10 (some 53) (.slice (some ⟨b,0,none⟩) 13 13) trivial (fun W hW=>?_) ?_
    ·unfold qzx10
     go_simp
    simp only [p4]
    refine L8.tk 12 qzx11 (some 54) (.int .i64 k) trivial (fun W hW=>?_) ?_
    ·unfold qzx11
     go_simp
    simp only [p4]
    refine L8.tk 13 qzx12 (some 55) (.slice (some ⟨b,0,none⟩) 13 13) trivial (fun W hW=>?_) ?_
    ·unfold qzx12
     go_simp
    simp only [p4]
    refine L8.tk 14 qzx13 (some 56) (.int .i64 13) trivial (fun W hW=>?_) ?_
    ·unfold qzx13
     go_simp
    simp only [p4]
    refine L8.tk 15 qzx14 (some 57) (.int .i64 A) trivial (fun W hW=>?_) ?_
    ·unfold qzx14
     go_simp
    simp only [p4]
    refine L8.tk 16 qzx15 (some 58) (.pointer (some ⟨b,A,none⟩)) trivial (fun W hW=>?_) ?_
    ·unfold qzx15
     go_simp
    simp only [p4]
    refine wpAnyH_ready (rs:=[10,17]) (by kernel_rfl) (by simp) ?_
    refine AllReadyH.cons (o:=qzx16) rfl (fun K hK=>?da15) (AllReadyH.cons (o:=qzx17) rfl (fun K hK=>?db15) AllReadyH.nil)
    case' da15 =>
     unfold qzx16
     go_simp
     refine L8.bk hK ?_
     clear hK K
     try simp only [p4]
     refine L8.up 17 qzx17 fun K hK=>?_
     unfold qzx17
    case' db15 =>
     unfold qzx17
     go_simp
     refine L8.bk hK ?_
     clear hK K
     try simp only [p4]
     refine L8.up 10 qzx16 fun K hK=>?_
     unfold qzx16
    all_goals
     go_simp
     refine L8.bk hK ?_
     clear hK K
     try simp only [p4]
     refine L8.tk 18 qzx18 (some 60) (.pointer (some ⟨b,A,none⟩)) trivial (fun W hW=>?_) ?_
     ·unfold qzx18
      go_simp
     simp only [p4]
     refine L8.up 19 qzx19 fun K hK=>?_
     unfold qzx19
     go_simp
     refine L8.bk hK ?_
     clear hK K
     try simp only [p4]
     refine L8.tk 20 qzx20 (some 61) (.pointer (some ⟨b,N,none⟩)) trivial (fun W hW=>?_) ?_
     ·unfold qzx20
      go_simp
     simp only [p4]
     refine L8.up 21 qzx21 fun K hK=>?_
     unfold qzx21
     go_simp
     refine L8.bk hK ?_
     clear hK K
     try simp only [p4]
     refine L8.dn ?_
     clear cN cA zN zA zN2 cN2 hE2
     go_wp2
     go_roundw
     case rel=>exact ⟨k+1,_,by omega,by go_num,hPσ.out,hE3.out,hq2.out⟩
     case measure=>simp [RowKit.intOf];omega
   have hσ2:=hσ.out
   have hxr:Hid (Ext w wr):=hE.out.ext hx.out hbw.out
   replace hB4:Hid (Blk wr d (pcells oPrd ur ul uh)):=hB4.out.exr hE.out hdb.out
   replace hM:Hid (Lsts W1 wr oPrd ur ul uh):=hM.out.low fun g hg hgl=>hE.out.block g hgl (by have:=hbW.out;omega)
   clear hE hR4 hx hBB hB hk
   obtain⟨wa,hwa⟩:∃ x,x=wr:=⟨_,rfl⟩
   subst hwa
   replace hσ2:=hid hσ2
   go_wp2_with fail
   go_loopw [11,12] (fun s i wr=>∃ k:Nat,k≤13∧i=.int .i64 k∧s=.string ⟨(oS l1 σ k).toArray⟩∧Hid (Ext wa wr)) (fun _ i _=>13-(RowKit.intOf i).toNat)
   case atStart=>exact ⟨0,Nat.zero_le _,rfl,rfl,Ext.refl wa⟩
   case round =>
    obtain⟨k,hk,rfl,rfl,hx⟩:=hrel
    have hL:=oS_len l1 k hσ2.out
    by_cases hlt:k<13
    ·have hlti:(k:Int)<13:=by omega
     have hk0:(0:Int)≤(k:Int):=by omega
     have hlσ:σ.length=13:=by rw [hσ2.out.length_eq];simp
     obtain⟨x,hxk⟩:∃ x,σ[k]?=some x:=⟨_,List.getElem?_eq_getElem (by omega)⟩
     have hx13:x<13:=List.mem_range.1 (hσ2.out.mem_iff.1 (List.mem_of_getElem? hxk))
     have cu:=hx.out.cell_of ((cell_of_row wa b k _ _ _ hR.out).trans (rowO_at hxk))
     have hu:=(pc_all x hx13).len
     have hn:=oS_succ l1 hxk
     obtain⟨u,hue⟩:∃ u,oTxt x=u:=⟨_,rfl⟩
     rw [hue] at cu hu hn
     obtain⟨L,hLL⟩:∃ L,(oS l1 σ k).length=L:=⟨_,rfl⟩
     have hL600:L≤600:=hLL ▸ hL
     have g1:¬ 9223372036854775807<L+1:=by omega
     have g2:¬ 9223372036854775807<L+u.length:=by omega
     have g3:¬ 9223372036854775807<L+(u.length+1):=by omega
     have g4:¬ 9223372036854775807<L+1+u.length:=by omega
     have g5:¬ 9223372036854775807<L+(u.length+1+1):=by omega
     have g6:¬ 9223372036854775807<L+(u.length+1)+1:=by omega
     have g7:¬ 9223372036854775807<L+1+u.length+1:=by omega
     have g8:¬ 9223372036854775807<L+(1+u.length):=by omega
     clear hue hxk hlσ hL hL600
     by_cases h1:k<l1.length
     ·have h1i:(k:Int)<(l1.length:Int):=by omega
      obtain⟨y,hy⟩:∃ y,l1[k]?=some y:=⟨_,List.getElem?_eq_getElem h1⟩
      have hgb:gB l1 k=y:=by unfold gB;rw [hy];rfl
      rw [hgb] at hn
      have hcell:∃ bt off,ao1=some ⟨bt,off,none⟩∧wr.cell? ⟨bt,off+k,none⟩=some (.bool y):=by
       rcases s1.out with ⟨a,c,hv,hl⟩ | ⟨bt,off,c,hv,hc⟩
       ·rw [hl] at h1;simp at h1
       ·have hv2:=hv
        simp only [Value.slice.injEq] at hv2
        exact⟨bt,off,hv2.1,(hxr.out.trans hx.out).cell_of (hc k y hy)⟩
      obtain⟨bt,off,rfl,ct⟩:=hcell
      clear hgb hy
      cases y
      ·replace hn:Hid (oS l1 σ (k+1)=oS l1 σ k++u):=hn
       go_wp2
       go_roundw
       case rel=>exact ⟨k+1,by omega,by go_num,by rw [hn.out],hx⟩
       case measure=>simp [RowKit.intOf];omega
      ·replace hn:Hid (oS l1 σ (k+1)=oS l1 σ k++([123]++(u++[125]))):=hn
       go_wp2
       go_roundw
       case rel=>exact ⟨k+1,by omega,by go_num,by rw [hn.out];rfl,hx⟩
       case measure=>simp [RowKit.intOf];omega
     ·have h1i:¬ (k:Int)<(l1.length:Int):=by omega
      have hgb:gB l1 k=false:=by unfold gB;rw [List.getElem?_eq_none (by omega)];rfl
      rw [hgb] at hn
      replace hn:Hid (oS l1 σ (k+1)=oS l1 σ k++u):=hn
      clear hgb
      go_wp2
      go_roundw
      case rel=>exact ⟨k+1,by omega,by go_num,by rw [hn.out],hx⟩
      case measure=>simp [RowKit.intOf];omega
    obtain rfl:k=13:=by omega
    have hP:=oS_end l1 hσ2.out
    have g1:¬ 9223372036854775807<(oS l1 σ 13).length+1:=by omega
    have hlen:(oS l1 σ 13++[125]).length≤9223372036854775807:=by
     simp only [List.length_append,List.length_cons,List.length_nil]
     omega
    replace hP:=hid hP
    have hxw:Hid (Ext w wr):=hxr.out.trans hx.out
    have he2:Hid (Env wr):=he.out.ext hxw.out
    replace hB4:Hid (Blk wr d (pcells oPrd ur ul uh)):=hB4.out.ext hx.out
    replace hM:Hid (Lsts W1 wr oPrd ur ul uh):=hM.out.ext hx.out
    clear hx hL hR
    go_wp2_with fail
    refine (Parse_c (oS l1 σ 13++[125]) _ hlen he2).mono ?_
    rintro e w5 ⟨hx5,hA⟩
    rw [hP.out] at hA
    obtain⟨vr,vl,vh,rfl,hV⟩:=hA
    have hsz:(pcells oPrd vr vl vh).size=19:=rfl
    have hone:=pcells_one (p:=oPrd) hV.sr hV.sl hV.sh
    replace hB4:Hid (Blk w5 d (pcells oPrd ur ul uh)):=hB4.out.ext hx5
    replace hM:Hid (Lsts W1 w5 oPrd ur ul uh):=hM.out.ext hx5
    obtain⟨W6,f,hW6,hf,hx6,hB6⟩:=layZ w5
    have hfl:w5.heap.size≤f:=by omega
    have hdf:d≠f:=by have:=(Array.getElem?_eq_some_iff.1 hB4.out).1;omega
    have hlo:w.heap.size≤f:=by rw [←hf];exact (hxw.out.trans hx5).size
    replace hxw:=hid <| (hxw.out.trans hx5).trans hx6
    have hB5:Hid (Blk W6 d (pcells oPrd ur ul uh)):=hB4.out.ext hx6
    replace hV:=hid hV
    clear hx5 hB4 g1 hlen he2
    go_wp2_with (refine store27 hB6 rfl hsz hone rfl rfl rfl rfl ?_)
    intro W7 hB7 hx7
    replace hB7:Hid (Blk W7 f (pcells oPrd vr vl vh)):=hB7
    have hB8:Hid (Blk W7 d (pcells oPrd ur ul uh)):=hB5.out.exr hx7 hdf
    replace hxw:Hid (Ext w W7):=hx7.ext hxw.out hlo
    have he7:Hid (Env W7):=he.out.ext hxw.out
    replace hM:Hid (Lsts W1 W7 oPrd ur ul uh):=lsts_past hM.out hx6 hfl hx7
    replace hV:Hid (Lsts wr W7 oPrd vr vl vh):=lsts_past hV.out hx6 hfl hx7
    clear hW6 hf hx6 hB6 hx7 hlo hfl hB5 hone hsz hdf
    go_wp2_with fail
    refine (awake_c _ he7).mono ?_
    rintro e w8 ⟨rfl,hx8⟩
    have hB9:=hB7.out.ext hx8
    have hB10:=hB8.out.ext hx8
    replace hxw:Hid (Ext w w8):=hxw.out.trans hx8
    replace hM:Hid (Lsts W1 w8 oPrd ur ul uh):=hM.out.ext hx8
    replace hV:Hid (Lsts wr w8 oPrd vr vl vh):=hV.out.ext hx8
    clear hx8 he7 hB7 hB8
    go_wp2_with (first | refine load27 hB9 rfl rfl rfl rfl ?_ | refine load27 hB10 rfl rfl rfl rfl ?_)
    refine (Prod_c oPrd vr vl vh ur ul uh _ (by decide) (slp_own hV.out.sr) (slp_own hV.out.sl) (slc_own hV.out.sh) (slp_own hM.out.sr) (slp_own hM.out.sl) (slc_own hM.out.sh)).mono ?_
    rintro e w9 ⟨rfl,hx9⟩
    replace hxw:Hid (Ext w w9):=hxw.out.trans hx9
    clear hx9 hB9 hB10
    go_wp2
    go_ret
    exact⟨rfl,hxw.out⟩
theorem lifted (os:Os)(started:os.Started)(H:Type)(enc:TypeId×Value→H) :
  ReturnsInHanded {} Tryz.checked os 6 .any (fun w args=>(Rows.grammarOrderSpec.pre enc Tryz.prog Tryz.f6 [] false w args∧laidMetH Tryz.prog laid w)∧sizedMet enc Tryz.prog Tryz.f6 (OpenSpec.ofChange Rows.grammarOrderSpec) false w args)
   (Rows.grammarOrderSpec.post enc Tryz.prog Tryz.f6 false true false false):=by
 refine wrap started (by kernel_rfl) Tryz.func6
  (ChangeSpec.witness_shaped (enc:=enc) (C:=Tryz.checked) (os:=os) (X:=fun w _=>laidMetH Tryz.prog laid w) false (World.laidAll Tryz.prog os laid) #[.slice none 0 0,.slice none 0 0] 8 (World.laidAll_os _ _ _)
   (World.shaped_of_ZipB (by kernel_rfl) (by kernel_rfl)) (by kernel_rfl) (by kernel_rfl) (by kernel_rfl)
   (by rw [MakeChecks.laidMetH_plain _ _ _ (by kernel_rfl)];exact laidMet_laidAll _ (by kernel_rfl) (by kernel_rfl))) ?_
 intro W base args ds gs before hval0 hW hE
 have hval:∀ (j:Nat) t v,Tryz.f6.params[j]?=some t→args[j]?=some v→Value.okWide Tryz.prog W .any base t v:=hval0
 have hW':=hW
 obtain⟨p,q,hA0,hV,rfl,_,_⟩:=hW
 have hA:DataW.TrodAll enc Tryz.prog W 0 (fun _=>true) true Tryz.f6.params.toList args.toList ds p:=hA0
 rw [Tryz.params6] at hA hval
 obtain⟨v0,vs0,d0,ds0,p0,q0,hargs,rfl,rfl,h0,r0⟩:=trodAll_cons hA
 obtain⟨v1,vs1,d1,ds1,p1,q1,rfl,rfl,rfl,h1,r1⟩:=trodAll_cons r0
 obtain⟨rfl,rfl,rfl⟩:=trodAll_nil r1
 obtain rfl:args = #[v0,v1]:=by cases args;simp_all
 obtain⟨rfl,rfl⟩:=trodVars_none hV
 obtain⟨l0,s0,n0,b0,t0⟩:=L8.open_slc (hval 0 26 v0 rfl rfl) h0
 obtain⟨l1,s1,n1,t1⟩:=open_slb (hval 1 36 v1 rfl rfl) h1
 clear hA0 hval0
 simp only [List.append_nil] at hW'
 refine (walk v0 l0 n0 b0 v1 l1 n1 W hE s0 s1).mono fun e W' ⟨he,hb⟩=>?_
 subst he
 exact⟨_,rfl,_,_,_,[],_,[],hW',(trodAll_cons_mk (shut_bool Tryz.underlying4 _) trodAll_mk0),(trodAll_cons_mk (t0 _ hb) (trodAll_cons_mk (t1 _ hb) trodAll_mk0)),rfl,hb.below.frame _,fun h=>by cases h⟩
theorem over:Rows.grammarOrderRow.holds Tryz.pinned (OpenSpec.ofChange Rows.grammarOrderSpec) :=
 OpenClaim.holds_of_wide 6 Tryz.f6 rfl rfl rfl rfl rfl rfl rfl ⟨rfl,rfl,rfl,rfl,rfl⟩ rfl rfl rfl rfl rfl (by kernel_rfl) Tryz.func6 (by kernel_rfl)
  (of_decide_eq_true (by kernel_rfl)) (by unfold Func.isWrapper;first | (rw [if_pos (by decide +kernel)];kernel_rfl) | (rw [if_neg (by decide +kernel)];exact ⟨rfl,rfl⟩))
  (fun os started H enc _=>lifted os started H enc)
end Go.Proofs.YtlbodoggfbdnjaaGreatDoor.grammarOrder
namespace Go.Proofs.YtlbodoggfbdnjaaGreatDoor
theorem grammarOrder_holds:Rows.GrammarOrderCardSaid :=
 Claim7.holds_tied_plain_at .later [] [.data,.data,.data,.data,.sentinel,.sentinel,.data,.pinned] true (true, "71a4d669349a1374d27e06b42b74feeaaecf2230b7206da2054069eaee9351c6") true grammarOrder.over (fun _ h=>by cases h) (by kernel_rfl) (fun _ h=>by cases h) grammarOrder_row_tie rfl ⟨rfl,rfl⟩ (by kernel_rfl) rfl
  (fun f fn hf hfn=>by
   obtain rfl:f=6:=Option.some.inj ((show Tryz.prog.funcNamed "quittance/quittancelaw09.GrammarOrder"=some 6 by kernel_rfl).symm.trans hf) |>.symm
   obtain rfl:fn=Tryz.f6:=(Option.some.inj (Tryz.func6.symm.trans hfn)).symm
   exact⟨by kernel_rfl,fun j t ht=>by
    rw [Tryz.params6] at ht
    have hm:t∈[26,36]:=by simpa using Array.mem_of_getElem? ht
    have hall:([26,36].all fun u=>!Tryz.prog.wantsStandIn u)=true:=by kernel_rfl
    exact (show Tryz.prog.wantsStandIn t=false by simpa using List.all_eq_true.1 hall t hm)⟩)
  (by kernel_rfl)
#print axioms grammarOrder_holds
end Go.Proofs.YtlbodoggfbdnjaaGreatDoor
