/- For every string s, of the project's tree at the commit that COMMIT names, GrammarTells returns true and leaves its argument as it was, with the listed variables laid as the program's text lays them. -/
import Derived.Test.YtlbodoggfbdnjaaGreatDoorT8
import Derived.Test.YtlbodoggfbdnjaaGreatDoorT13
import Derived.Test.YtlbodoggfbdnjaaGreatDoorT19
set_option linter.unusedVariables false
set_option maxRecDepth 100000
set_option maxHeartbeats 8000000
namespace Go.Proofs.YtlbodoggfbdnjaaGreatDoor.grammarTells
open Go.ChangeShapes Go.WideShapes Go.ChangeAt Go.RowKit Go.Lib
theorem lsts_past {w0 w W W':World}{b:Nat}{p:Prd}{vr vl vh:Value}(h:Lsts w0 w p vr vl vh)(hx:Ext w W)(hb:w.heap.size≤b)(h3:Exr b W W'):Lsts w0 W' p vr vl vh :=
 h.low fun g _ hg=>(h3.block g (Nat.lt_of_lt_of_le hg hx.size) (by omega)).trans (hx.below.block g hg)
theorem tells_no (l:List UInt8)(w:World)(hl:l.length≤20005)(he:Hid (Env w))(x y:Nat)(hp:prs l=.no x y) :
  Calls Tryz.prog 3 #[.string ⟨l.toArray⟩] w fun e w'=>e=.returned (.bool true)∧Ext w w':=by
 have hnl:¬ (20005:Int)<(l.length:Int):=by omega
 go_enter Tryz.func3,Tryz.ntmps3
 go_wp2_with fail
 refine (Parse_c l _ (by omega) he).mono ?_
 rintro e w1 ⟨hx,hA⟩
 rw [hp] at hA
 obtain rfl:e=.returned (.tuple #[.agg zP,.int .i64 y,.int .i64 x]):=hA
 have hsz:=zP_ok.1
 have hone:=zP_ok.2
 obtain⟨W2,b,hW2,hb,hx2,hB2⟩:=layZ w1
 have hlo:w.heap.size≤b:=by rw [← hb];exact hx.size
 have hlb:w1.heap.size≤b:=by omega
 replace hx:=hid <| hx.trans hx2
 go_wp2_with (refine store27 hB2 rfl hsz hone rfl rfl rfl rfl ?_)
 intro W3 hB3 hx3
 replace hx:Hid (Ext w W3):=hx3.ext hx.out hlo
 have he3:Hid (Env W3):=he.out.ext hx.out
 clear hW2 hb hx2 hB2 hx3 hlo hlb
 replace hB3:=hid hB3
 go_wp2_with fail
 refine (ParseD_c l _ (by omega) he3).mono ?_
 rintro e w4 ⟨hx4,hA⟩
 rw [hp] at hA
 obtain rfl:e=.returned (.tuple #[.agg zP,.int .i64 y,.int .i64 x]):=hA
 have hsz2:=zP_ok.1
 have hone2:=zP_ok.2
 have hB4:Hid (Blk w4 b zP):=Blk.ext hB3.out hx4
 obtain⟨W5,d,hW5,hd,hx5,hB5⟩:=layZ w4
 have hbd:b≠d:=by have:=(Array.getElem?_eq_some_iff.1 hB4.out).1;omega
 have hB5':Hid (Blk W5 b zP):=hB4.out.ext hx5
 have hlo:w.heap.size≤d:=by rw [← hd];exact (hx.out.trans hx4).size
 have hld:w4.heap.size≤d:=by omega
 replace hx:=hid <| (hx.out.trans hx4).trans hx5
 clear hx4 hB3 hB4 he3 hsz hone
 go_wp2_with (refine store27 hB5 rfl hsz2 hone2 rfl rfl rfl rfl ?_)
 intro W6 hB6 hx6
 replace hB6:Hid (Blk W6 d zP):=hB6
 have hB7:Hid (Blk W6 b zP):=hB5'.out.exr hx6 hbd
 replace hx:Hid (Ext w W6):=hx6.ext hx.out hlo
 have he6:Hid (Env W6):=he.out.ext hx.out
 clear hW5 hd hx5 hB5 hx6 hlo hld hB5' hone2 hsz2 hbd
 go_wp2_with fail
 refine (awake_c _ he6).mono ?_
 rintro e w7 ⟨rfl,hx7⟩
 have hB8:=hB7.out.ext hx7
 have hB9:=hB6.out.ext hx7
 replace hx:Hid (Ext w w7):=hx.out.trans hx7
 clear hx7 he6 hB7 hB6
 go_wp2_with (first | refine load27 hB8 zP_ok.1 rfl rfl rfl ?_ | refine load27 hB9 zP_ok.1 rfl rfl rfl ?_)
 refine (Prod_z _).mono ?_
 rintro e w8 ⟨rfl,hx8⟩
 replace hx:Hid (Ext w w8):=hx.out.trans hx8
 clear hx8 hB8 hB9
 go_wp2
 go_ret
 exact⟨rfl,hx.out⟩
theorem tells_ok (l:List UInt8)(w:World)(hl:l.length≤20005)(he:Hid (Env w))(p:Prd)(hp:prs l=.ok p) :
  Calls Tryz.prog 3 #[.string ⟨l.toArray⟩] w fun e w'=>e=.returned (.bool true)∧Ext w w':=by
 have hnl:¬ (20005:Int)<(l.length:Int):=by omega
 have hfew:Hid _:=prs_few hp
 go_enter Tryz.func3,Tryz.ntmps3
 go_wp2_with fail
 refine (Parse_c l _ (by omega) he).mono ?_
 rintro e w1 ⟨hx,hA⟩
 rw [hp] at hA
 obtain⟨vr,vl,vh,rfl,hL⟩:=hA
 have hsz:(pcells p vr vl vh).size=19:=rfl
 have hone:=pcells_one (p:=p) hL.sr hL.sl hL.sh
 obtain⟨W2,b,hW2,hb,hx2,hB2⟩:=layZ w1
 have hlo:w.heap.size≤b:=by rw [← hb];exact hx.size
 have hlb:w1.heap.size≤b:=by omega
 replace hx:=hid <| hx.trans hx2
 replace hL:=hid hL
 go_wp2_with (refine store27 hB2 rfl hsz hone rfl rfl rfl rfl ?_)
 intro W3 hB3 hx3
 replace hx:Hid (Ext w W3):=hx3.ext hx.out hlo
 have he3:Hid (Env W3):=he.out.ext hx.out
 replace hL:Hid (Lsts w W3 p vr vl vh):=lsts_past hL.out hx2 hlb hx3
 clear hW2 hb hx2 hB2 hx3 hlo hlb
 replace hB3:=hid hB3
 go_wp2_with fail
 refine (ParseD_c l _ (by omega) he3).mono ?_
 rintro e w4 ⟨hx4,hA⟩
 rw [hp] at hA
 obtain⟨ur,ul,uh,rfl,hM⟩:=hA
 replace hL:Hid (Lsts w w4 p vr vl vh):=hL.out.ext hx4
 have hsz2:(pcells p ur ul uh).size=19:=rfl
 have hone2:=pcells_one (p:=p) hM.sr hM.sl hM.sh
 replace hM:=hid hM
 have hB4:Hid (Blk w4 b (pcells p vr vl vh)):=Blk.ext hB3.out hx4
 obtain⟨W5,d,hW5,hd,hx5,hB5⟩:=layZ w4
 have hbd:b≠d:=by have:=(Array.getElem?_eq_some_iff.1 hB4.out).1;omega
 have hB5':Hid (Blk W5 b (pcells p vr vl vh)):=hB4.out.ext hx5
 have hlo:w.heap.size≤d:=by rw [← hd];exact (hx.out.trans hx4).size
 have hld:w4.heap.size≤d:=by omega
 replace hx:=hid <| (hx.out.trans hx4).trans hx5
 clear hx4 hB3 hB4 he3 hsz hone
 go_wp2_with (refine store27 hB5 rfl hsz2 hone2 rfl rfl rfl rfl ?_)
 intro W6 hB6 hx6
 replace hB6:Hid (Blk W6 d (pcells p ur ul uh)):=hB6
 have hB7:Hid (Blk W6 b (pcells p vr vl vh)):=hB5'.out.exr hx6 hbd
 replace hx:Hid (Ext w W6):=hx6.ext hx.out hlo
 have he6:Hid (Env W6):=he.out.ext hx.out
 replace hL:Hid (Lsts w W6 p vr vl vh):=lsts_past hL.out hx5 hld hx6
 replace hM:Hid (Lsts W3 W6 p ur ul uh):=lsts_past hM.out hx5 hld hx6
 clear hW5 hd hx5 hB5 hx6 hlo hld hB5' hone2 hsz2 hbd
 go_wp2_with fail
 refine (awake_c _ he6).mono ?_
 rintro e w7 ⟨rfl,hx7⟩
 have hB8:=hB7.out.ext hx7
 have hB9:=hB6.out.ext hx7
 replace hx:Hid (Ext w w7):=hx.out.trans hx7
 replace hL:Hid (Lsts w w7 p vr vl vh):=hL.out.ext hx7
 replace hM:Hid (Lsts W3 w7 p ur ul uh):=hM.out.ext hx7
 clear hx7 he6 hB7 hB6
 go_wp2_with (first | refine load27 hB8 rfl rfl rfl rfl ?_ | refine load27 hB9 rfl rfl rfl rfl ?_)
 refine (Prod_c p vr vl vh ur ul uh _ hfew.out (slp_own hL.out.sr) (slp_own hL.out.sl) (slc_own hL.out.sh) (slp_own hM.out.sr) (slp_own hM.out.sl) (slc_own hM.out.sh)).mono ?_
 rintro e w8 ⟨rfl,hx8⟩
 replace hx:Hid (Ext w w8):=hx.out.trans hx8
 clear hx8 hB8 hB9
 go_wp2
 go_ret
 exact⟨rfl,hx.out⟩
theorem walk (a0:ByteArray)(w0:a0.size≤maxLen)(w:World)(he:Env w) :
  Calls Tryz.prog 3 #[.string a0] w fun e w'=>e=.returned (.bool true)∧Ext w w':=by
 replace he:Hid (Env w):=he
 unfold maxLen at w0
 obtain⟨l,rfl⟩:∃ l:List UInt8,a0=⟨l.toArray⟩:=⟨a0.data.toList,by cases a0;simp⟩
 rw [Lib.size_mk] at w0
 by_cases hl:20005<l.length
 ·have hl2:(20005:Int)<(l.length:Int):=by omega
  go_enter Tryz.func3,Tryz.ntmps3
  go_wp2_with fail
  refine (awake_c _ he).mono ?_
  rintro e w1 ⟨rfl,hx⟩
  replace hx:=hid hx
  go_wp2
  go_ret
  exact⟨rfl,hx.out⟩
 ·cases hp:prs l with
  | no x y=>exact tells_no l w (by omega) he x y hp
  | ok p=>exact tells_ok l w (by omega) he p hp
theorem lifted (os:Os)(started:os.Started)(H:Type)(enc:TypeId × Value→H) :
  ReturnsInHanded {} Tryz.checked os 3 .any (fun w args=>(Rows.grammarTellsSpec.pre enc Tryz.prog Tryz.f3 [] false w args∧laidMetH Tryz.prog laid w)∧sizedMet enc Tryz.prog Tryz.f3 (OpenSpec.ofChange Rows.grammarTellsSpec) false w args)
   (Rows.grammarTellsSpec.post enc Tryz.prog Tryz.f3 false true false false):=by
 refine wrap started (by kernel_rfl) Tryz.func3
  (ChangeSpec.witness_shaped (enc:=enc) (C:=Tryz.checked) (os:=os) (X:=fun w _=>laidMetH Tryz.prog laid w) false (World.laidAll Tryz.prog os laid) #[.string ⟨#[]⟩] 8 (World.laidAll_os _ _ _)
   (World.shaped_of_ZipB (by kernel_rfl) (by kernel_rfl)) (by kernel_rfl) (by kernel_rfl) (by kernel_rfl)
   (by rw [MakeChecks.laidMetH_plain _ _ _ (by kernel_rfl)];exact laidMet_laidAll _ (by kernel_rfl) (by kernel_rfl))) ?_
 intro W base args ds gs before hval0 hW hE
 have hval:∀ (j:Nat) t v,Tryz.f3.params[j]?=some t→args[j]?=some v→Value.okWide Tryz.prog W .any base t v:=hval0
 have hW':=hW
 obtain⟨p,q,hA0,hV,rfl,_,_⟩:=hW
 have hA:DataW.TrodAll enc Tryz.prog W 0 (fun _=>true) true Tryz.f3.params.toList args.toList ds p:=hA0
 rw [Tryz.params3] at hA hval
 obtain⟨v0,vs0,d0,ds0,p0,q0,hargs,rfl,rfl,h0,r0⟩:=trodAll_cons hA
 obtain⟨rfl,rfl,rfl⟩:=trodAll_nil r0
 obtain rfl:args = #[v0]:=by cases args;simp_all
 obtain⟨rfl,rfl⟩:=trodVars_none hV
 obtain⟨a0,rfl,rfl,rfl,w0⟩:=Go.ChangeMaps.open_string Tryz.underlying9 (hval 0 9 v0 rfl rfl) h0
 clear hA0 hval0
 simp only [List.append_nil] at hW'
 refine (walk a0 w0 W hE).mono fun e W' ⟨he,hb⟩=>?_
 subst he
 exact⟨_,rfl,_,_,_,[],_,[],hW',(trodAll_cons_mk (shut_bool Tryz.underlying4 _) trodAll_mk0),(trodAll_cons_mk (Go.ChangeMaps.shut_string Tryz.underlying9 w0) trodAll_mk0),rfl,hb.below.frame _,fun h=>by cases h⟩
theorem over:Rows.grammarTellsRow.holds Tryz.pinned (OpenSpec.ofChange Rows.grammarTellsSpec) :=
 OpenClaim.holds_of_wide 3 Tryz.f3 rfl rfl rfl rfl rfl rfl rfl ⟨rfl,rfl,rfl,rfl,rfl⟩ rfl rfl rfl rfl rfl (by kernel_rfl) Tryz.func3 (by kernel_rfl)
  (of_decide_eq_true (by kernel_rfl)) (by unfold Func.isWrapper;first | (rw [if_pos (by decide +kernel)];kernel_rfl) | (rw [if_neg (by decide +kernel)];exact ⟨rfl,rfl⟩))
  (fun os started H enc _=>lifted os started H enc)
end Go.Proofs.YtlbodoggfbdnjaaGreatDoor.grammarTells
namespace Go.Proofs.YtlbodoggfbdnjaaGreatDoor
theorem grammarTells_holds:Rows.GrammarTellsCardSaid :=
 Claim7.holds_tied_plain_at .later [] [.data,.data,.data,.data,.sentinel,.sentinel,.data,.pinned] true (true, "71a4d669349a1374d27e06b42b74feeaaecf2230b7206da2054069eaee9351c6") true grammarTells.over (fun _ h=>by cases h) (by kernel_rfl) (fun _ h=>by cases h) grammarTells_row_tie rfl ⟨rfl,rfl⟩ (by kernel_rfl) rfl
  (fun f fn hf hfn=>by
   obtain rfl:f=3:=Option.some.inj ((show Tryz.prog.funcNamed "quittance/quittancelaw09.GrammarTells"=some 3 by kernel_rfl).symm.trans hf) |>.symm
   obtain rfl:fn=Tryz.f3:=(Option.some.inj (Tryz.func3.symm.trans hfn)).symm
   exact⟨by kernel_rfl,fun j t ht=>by
    rw [Tryz.params3] at ht
    have hm:t ∈ [9]:=by simpa using Array.mem_of_getElem? ht
    have hall:([9].all fun u=>!Tryz.prog.wantsStandIn u)=true:=by kernel_rfl
    exact (show Tryz.prog.wantsStandIn t=false by simpa using List.all_eq_true.1 hall t hm)⟩)
  (by kernel_rfl)
#print axioms grammarTells_holds
end Go.Proofs.YtlbodoggfbdnjaaGreatDoor
